/- Part 22 of what the proof rests on. No condition but those that a theorem names. -/
import Derived.Test.YtjhijildaceadaaGreatDoorXg17
import Derived.Test.YtjhijildaceadaaGreatDoorXg21
set_option maxHeartbeats 8000000
set_option maxRecDepth 100000
namespace Go.Proofs.YtjhijildaceadaaGreatDoor
open Go.ChangeShapes Go.WideShapes Go.ChangeAt Go.RowKit Go.Sort
set_option linter.unusedVariables false
set_option linter.unusedSimpArgs false
set_option maxRecDepth 100000
variable {w w' w0 w1 w2 w3 w₀ wr W W' X A B C : World} {v v0 v1 v2 v3 v4 u u0 u1 u2 u3 u4 : Value} {m : Z4}
theorem Jw {b:Nat} {e:Z6} {t:List Z6} (h:atV m.smiths b m.smiths.length=e::t):XU m b={ m with smiths:=ZM (m.smiths.set e.2.toNat (stS (Z8 m.smiths e.2.toNat) 3)) t,desks:=m.desks.set b ((Z8 m.desks b).1,e.2,ZI (Z8 m.desks b).2.2 e.1) }:=by
 rw [PJ h,Fl h]
theorem Is {n₀:Nat}  {qs:List (Z2 × Value)} {b:Nat} (hf:FullSmy n₀ w v0 v1 v2 v3 v4 m qs) (hL:Loose m) (hb:b<m.desks.length) :
  Calls Tryz.prog 254 #[.agg #[v0,v1,v2,v3,v4,.int .i64 m.now],.int .i64 (b:Int)] w fun e w'=>e= .returned (.tuple #[])/\FullSmy n₀ w' v0 v1 v2 v3 v4 (XU m b) qs/\Two v2.ownBlock v3.ownBlock w w':=by
 have h:=hf.smy
 obtain ⟨a0,p0,a1,p1,a2,p2,a3,p3,a4,p4,rfl,rfl,rfl,rfl,rfl,_,_,_,_,_,_,_,_,_,_⟩:=h.five
 have hl12:=Y3 hL
 have heig:=hL.sane.eight
 obtain ⟨g3,hga,hg3,hg3w,_,_⟩:=RecAt.view ZH (by omega) hf.desks rfl (by omega)
 cases hga
 have L2:Hid (∀ i,(Value.slice a2 m.smiths.length p2).ownBlock=some i->i<w.heap.size):=Z9 (fun i e=>(RecAt.lt hf.smiths e).2)
 have HQ:=Z9 (JR hL (b:Int) m.smiths.length (Nat.le_refl _))
 have HN:Hid (atV m.smiths (b:Int) m.smiths.length=[]->XU m b={ m with desks:=m.desks.set b ((Z8 m.desks b).1,-1,(Z8 m.desks b).2.2) }):=Z9 (fun h=>NH h)
 have HC:Hid (∀ e t,atV m.smiths (b:Int) m.smiths.length=e::t->XU m b={ m with smiths:=ZM (m.smiths.set e.2.toNat (stS (Z8 m.smiths e.2.toNat) 3)) t,desks:=m.desks.set b ((Z8 m.desks b).1,e.2,ZI (Z8 m.desks b).2.2 e.1) }):=Z9 (fun e t h=>Jw h)
 have Hm:Hid (∀ x ∈ atV m.smiths (b:Int) m.smiths.length,∃ j:Nat,j<m.smiths.length/\x.2=(j:Int)):=Z9 (fun x hx=>by
  obtain ⟨j,hj,_,_,rfl⟩:=(Yj m.smiths (b:Int) x m.smiths.length).1 hx
  exact ⟨j,hj,rfl⟩)
 have Hql:=Z9 (TY m.smiths (b:Int) m.smiths.length)
 have HF:=Z9 hf
 have HL:=Z9 hL
 have hb1:(b:Int)<(m.desks.length:Int):=by omega
 clear h hf hL hg3
 go_enter Tryz.func254,Tryz.ntmps254
 go_upto_region 1 with fail
 have hba:Below w.heap.size w (w.alloc (.cells (S6 a0 p0 a1 p1 a2 p2 (some ⟨g3,0,none⟩) p3 a4 p4 m) 32)):=(Below.refl _ _).alloc (Nat.le_refl _) _
 have kb:Hid (Blk (w.alloc (.cells (S6 a0 p0 a1 p1 a2 p2 (some ⟨g3,0,none⟩) p3 a4 p4 m) 32)) w.heap.size 32 (S6 a0 p0 a1 p1 a2 p2 (some ⟨g3,0,none⟩) p3 a4 p4 m)):=Z9 (Blk.new _ _ _)
 replace HF:=Z9 ((uh HF).below hba)
 have Tw:Hid (Two (Value.slice a2 m.smiths.length p2).ownBlock (some g3) w (w.alloc (.cells (S6 a0 p0 a1 p1 a2 p2 (some ⟨g3,0,none⟩) p3 a4 p4 m) 32))):=Z9 (Two.of_below hba)
 have hgW:g3<(w.alloc (.cells (S6 a0 p0 a1 p1 a2 p2 (some ⟨g3,0,none⟩) p3 a4 p4 m) 32)).heap.size:=Nat.lt_of_lt_of_le hg3w hba.size
 have hRW:w.heap.size<(w.alloc (.cells (S6 a0 p0 a1 p1 a2 p2 (some ⟨g3,0,none⟩) p3 a4 p4 m) 32)).heap.size:=(uh kb).lt
 clear hba
 generalize w.alloc (.cells (S6 a0 p0 a1 p1 a2 p2 (some ⟨g3,0,none⟩) p3 a4 p4 m) 32)=W at *
 have H2:Hid ((Value.slice a2 m.smiths.length p2).ownBlock ≠ some w.heap.size):=Z9 (fun e=>by have:=uh L2 _ e;omega)
 have H3:Hid (some g3 ≠ some w.heap.size):=Z9 (fun e=>by cases e;omega)
 have Low2:Hid (∀ i,(Value.slice a2 m.smiths.length p2).ownBlock=some i->i<W.heap.size):=Z9 (fun i e=>by have:=uh L2 i e;omega)
 obtain ⟨c0,c1,c2,c3,c4,c5⟩:=(uh kb).c6
 go_wp2_with fail
 refine (Lo (b:Int) (uh HF).smy (uh HL)).mono ?_
 rintro e w1 ⟨v',rfl,he,hb⟩
 clear c0 c1 c2 c3 c4 c5
 generalize atV m.smiths (b:Int) m.smiths.length=q at *
 obtain ⟨qa,qc,rfl⟩:=EntsAt.shape he
 have HE:=Z9 he
 replace HF:=Z9 ((uh HF).below hb)
 replace kb:=bl kb hb
 replace Tw:=Z9 ((uh Tw).trans (Two.of_below hb))
 have hgw1:g3<w1.heap.size:=Nat.lt_of_lt_of_le hgW hb.size
 have hw1:=hb.size
 clear he hb
 go_wp2_with fail
 refine (P2 (uh HE).paces).mono ?_
 rintro e w2 ⟨rfl,hb⟩
 replace HE:=Z9 ((uh HE).later hb)
 replace HF:=Z9 ((uh HF).below hb)
 replace kb:=bl kb hb
 replace Tw:=Z9 ((uh Tw).trans (Two.of_below hb))
 have hgw2:g3<w2.heap.size:=Nat.lt_of_lt_of_le hgw1 hb.size
 have hw2:W.heap.size<=w2.heap.size:=Nat.le_trans hw1 hb.size
 clear hb hw1 hgw1
 obtain ⟨⟨op,wh,mk⟩,hrk⟩:∃ d,Z8 m.desks b=d:=⟨_,rfl⟩
 rw [hrk] at HN HC
 simp only at HN HC
 have Hrk:=Z9 hrk
 clear hrk
 have Hset:Hid (∀ d,Z8 (m.desks.set b d) b=d):=Z9 (fun d=>by rw [ZJ hb,if_pos rfl])
 cases q with
 | nil=>
  have hfv:Ub []=((0,0),false):=SX rfl
  rw [hfv]
  clear HC hfv
  go_upto_region 4 with fail
  have hba:Below w2.heap.size w2 (w2.alloc (.cells #[.int .i64 0,.int .i64 0] 94)):=(Below.refl _ _).alloc (Nat.le_refl _) _
  replace HF:=Z9 ((uh HF).below hba)
  replace kb:=bl kb hba
  replace Tw:=Z9 ((uh Tw).trans (Two.of_below hba))
  clear hba
  generalize w2.alloc (.cells #[.int .i64 0,.int .i64 0] 94)=X at *
  obtain ⟨_,hga,_,_,hc3,hz3⟩:=RecAt.view ZH (by omega) (uh HF).desks rfl (by omega)
  cases hga
  have d1:=hc3 b hb 1 _ rfl
  rw [uh Hrk] at d1
  have f1:=hz3 (b*3+1)
  have c3:=(uh kb).cell (i:=3) (v:= .slice (some ⟨g3,0,none⟩) m.desks.length p3) rfl
  have hput:=(uh HF).putD rfl (j:=b) (i:=1) hb (by omega) (.int .i64 (-1)) (op,-1,mk) (by rw [uh Hrk];rfl)
  have HP:=Z9 hput
  clear hput hc3 hz3
  go_wp2_with fail
  refine bodyPost_ret (results_none rfl _ _ _) rfl ?_
  exact ⟨rfl,by rw [uh HN (by first | rfl | trivial)];exact uh HP,(uh Tw).trans (Two.of_set X (.inr rfl) _ _)⟩
 | cons e t=>
  have hfv:Ub (e::t)=(e,true):=OH (uh HQ) (by simp)
  obtain ⟨i0,hi0,hie⟩:=uh Hm e (by simp)
  obtain ⟨hd0,ei⟩:=e
  simp only at hie
  subst hie
  rw [hfv]
  have hcons:=uh HC (hd0,(i0:Int)) t rfl
  simp only [show ((i0:Int)).toNat=i0 by simp] at hcons
  have Hcons:=Z9 hcons
  have hi1:(i0:Int)<(m.smiths.length:Int):=by omega
  have htl:t.length<=12:=by have:=uh Hql;simp at this;omega
  have Hmt:Hid (∀ x ∈ t,∃ j:Nat,j<m.smiths.length/\x.2=(j:Int)):=Z9 (fun x hx=>uh Hm x (List.mem_cons_of_mem _ hx))
  clear HN HC hfv hcons Hm HQ Hql
  obtain ⟨n1,hn1⟩:∃ n,n=((hd0,(i0:Int))::t).length:=⟨_,rfl⟩
  rw [<-hn1] at HE
  rw [<-hn1]
  clear hn1
  dsimp only
  go_upto_region 5 with fail
  have hba:Below w2.heap.size w2 (w2.alloc (.cells #[.int .i64 hd0,.int .i64 (i0:Int)] 94)):=(Below.refl _ _).alloc (Nat.le_refl _) _
  have ke:Hid (Blk (w2.alloc (.cells #[.int .i64 hd0,.int .i64 (i0:Int)] 94)) w2.heap.size 94 #[.int .i64 hd0,.int .i64 (i0:Int)]):=Z9 (Blk.new _ _ _)
  replace HE:=Z9 ((uh HE).later hba)
  replace HF:=Z9 ((uh HF).below hba)
  replace kb:=bl kb hba
  replace Tw:=Z9 ((uh Tw).trans (Two.of_below hba))
  have hgX:w2.heap.size<(w2.alloc (.cells #[.int .i64 hd0,.int .i64 (i0:Int)] 94)).heap.size:=(uh ke).lt
  clear hba
  generalize w2.alloc (.cells #[.int .i64 hd0,.int .i64 (i0:Int)] 94)=X at *
  obtain ⟨g2,hga,_,_,hc2,hz2⟩:=RecAt.view ZZ (by omega) (uh HF).smiths rfl (by omega)
  cases hga
  have hg2W:=uh Low2 g2 rfl
  have hn23:g2 ≠ g3:=fun e=>(uh HF).a23 g2 rfl (by rw [e];rfl)
  have s0:=hc2 i0 hi0 0 _ rfl
  have f0:=hz2 (i0*11)
  have hput:=(uh HF).putS rfl (j:=i0) (i:=0) hi0 (by omega) (.int .i64 3) (stS (Z8 m.smiths i0) 3) rfl
  simp only [Nat.add_zero] at s0 hput
  have HF1:=Z9 hput
  have c2:=(uh kb).cell (i:=2) (v:= .slice (some ⟨g2,0,none⟩) m.smiths.length p2) rfl
  have e1:=(uh ke).cell (i:=1) (v:= .int .i64 (i0:Int)) rfl
  clear hput hc2 hz2
  have ht:Two (some g2) (some g3) X (X.setCell ⟨g2,i0*11,none⟩ (.int .i64 3)):=Two.of_set X (.inl rfl) _ _
  have h2R:(some g2:Option Nat) ≠ some w.heap.size:=uh H2
  have h3R:(some g3:Option Nat) ≠ some w.heap.size:=uh H3
  have h2E:(some g2:Option Nat) ≠ some w2.heap.size:=fun e=>by cases e;omega
  have h3E:(some g3:Option Nat) ≠ some w2.heap.size:=fun e=>by cases e;omega
  replace kb:=Z9 ((uh kb).two ht h2R h3R)
  replace ke:=Z9 ((uh ke).two ht h2E h3E)
  replace HE:=Z9 (Two.ents (uh HE) ht (fun i e=>by cases e;omega) (fun i e=>by cases e;omega))
  have Tw1:Hid (Two (some g2) (some g3) w (X.setCell ⟨g2,i0*11,none⟩ (.int .i64 3))):=Z9 ((uh Tw).trans ht)
  clear ht Tw HF
  go_upto_region 6 with fail
  clear s0 f0 c2 e1
  generalize X.setCell ⟨g2,i0*11,none⟩ (.int .i64 3)=X1 at *
  obtain ⟨ss,hss⟩:∃ q,m.smiths.set i0 (stS (Z8 m.smiths i0) 3)=q:=⟨_,rfl⟩
  have hsl:ss.length=m.smiths.length:=by rw [<-hss];simp
  rw [hss] at Hcons HF1
  clear hss
  obtain ⟨_,hga,_,_,hc3,hz3⟩:=RecAt.view ZH (by omega) (uh HF1).desks rfl (by show 0<m.desks.length;omega)
  cases hga
  have d1:=hc3 b hb 1 _ rfl
  have hrk2:Z8 ({ m with smiths:=ss } : Z4).desks b=(op,wh,mk):=uh Hrk
  rw [hrk2] at d1
  have f1:=hz3 (b*3+1)
  have c3:=(uh kb).cell (i:=3) (v:= .slice (some ⟨g3,0,none⟩) m.desks.length p3) rfl
  have e1:=(uh ke).cell (i:=1) (v:= .int .i64 (i0:Int)) rfl
  have hput:=(uh HF1).putD rfl (j:=b) (i:=1) hb (by omega) (.int .i64 (i0:Int)) (op,(i0:Int),mk) (by rw [hrk2];rfl)
  have HF2:=Z9 hput
  clear hput hc3 hz3 hrk2
  have ht:Two (some g2) (some g3) X1 (X1.setCell ⟨g3,b*3+1,none⟩ (.int .i64 (i0:Int))):=Two.of_set X1 (.inr rfl) _ _
  replace kb:=Z9 ((uh kb).two ht h2R h3R)
  replace ke:=Z9 ((uh ke).two ht h2E h3E)
  replace HE:=Z9 (Two.ents (uh HE) ht (fun i e=>by cases e;omega) (fun i e=>by cases e;omega))
  have Tw2:Hid (Two (some g2) (some g3) w (X1.setCell ⟨g3,b*3+1,none⟩ (.int .i64 (i0:Int)))):=Z9 ((uh Tw1).trans ht)
  clear ht Tw1 HF1
  go_upto_region 7 with fail
  clear d1 f1 c3 e1
  generalize X1.setCell ⟨g3,b*3+1,none⟩ (.int .i64 (i0:Int))=X2 at *
  have hD1:(m.desks.set b (op,(i0:Int),mk)).length=m.desks.length:=by simp
  obtain ⟨_,hga,_,_,hc3,hz3⟩:=RecAt.view ZH (by omega) (uh HF2).desks hD1.symm (by show 0<(m.desks.set b _).length;omega)
  cases hga
  have hrk2:Z8 ({ m with smiths:=ss,desks:=m.desks.set b (op,(i0:Int),mk) } : Z4).desks b=(op,(i0:Int),mk):=uh Hset _
  have d2:=hc3 b (by show b<(m.desks.set b _).length;omega) 2 _ rfl
  rw [hrk2] at d2
  simp only at d2
  have f2:=hz3 (b*3+2)
  have c3:=(uh kb).cell (i:=3) (v:= .slice (some ⟨g3,0,none⟩) m.desks.length p3) rfl
  have e0:=(uh ke).cell (i:=0) (v:= .int .i64 hd0) rfl
  have hput:=(uh HF2).putD hD1.symm (j:=b) (i:=2) (by show b<(m.desks.set b _).length;omega) (by omega) (.int .i64 (ZI mk hd0)) (op,(i0:Int),(ZI mk hd0)) (by rw [hrk2];rfl)
  simp only [List.set_set] at hput
  clear hc3 hz3 hrk2
  refine ZS (S:=fun w'=>w'.cell? ⟨w.heap.size,3,none⟩=some (.slice (some ⟨g3,0,none⟩) m.desks.length p3)/\w'.cell? ⟨g3,b*3+2,none⟩=some (.int .i64 mk)/\w'.cell? ⟨w2.heap.size,0,none⟩=some (.int .i64 hd0)/\w'.frozen? ⟨g3,b*3+2,none⟩=false) (by kernel_rfl) (List.cons_ne_nil _ _) (by kernel_rfl) ⟨c3,d2,e0,f2⟩ (fun hHeld=> ?_)
  simp only [List.dropLast_cons_cons,List.dropLast_singleton,List.length_cons,List.length_nil,Nat.zero_add,Nat.reduceAdd]
  have hbd:Below X2.heap.size X2 X2.drew:=(Below.refl _ _).drew
  (refine tk 0 rfl (by assumption) ?_;(try simp only [Act.put,sA,sZ,sS]))
  (refine tk 1 rfl (by assumption) ?_;(try simp only [Act.put,sA,sZ,sS]))
  (refine tk 2 rfl (by assumption) ?_;(try simp only [Act.put,sA,sZ,sS]))
  (refine tk 3 rfl (by assumption) ?_;(try simp only [Act.put,sA,sZ,sS]))
  (refine tk 4 rfl (by assumption) ?_;(try simp only [Act.put,sA,sZ,sS]))
  (refine tk 5 rfl (by assumption) ?_;(try simp only [Act.put,sA,sZ,sS]))
  (refine tk 6 rfl (by assumption) ?_;(try simp only [Act.put,sA,sZ,sS]))
  (refine tk 7 rfl (by assumption) ?_;(try simp only [Act.put,sA,sZ,sS]))
  (refine tk 8 rfl (by assumption) ?_;(try simp only [Act.put,sA,sZ,sS]))
  (refine tk 9 rfl (by assumption) ?_;(try simp only [Act.put,sA,sZ,sS]))
  (refine tk 10 rfl (by assumption) ?_;(try simp only [Act.put,sA,sZ,sS]))
  refine rd 11 rfl (fun K hK=> ?_)
  go_simp
  refine (OQ mk hd0 _).mono ?_
  rintro e9 w9 ⟨rfl,hb9'⟩
  have hb9:Below X2.heap.size X2 w9:=hbd.trans hb9'
  clear hb9' hbd
  replace kb:=Z9 ((uh kb).below hb9 (uh kb).lt)
  replace ke:=Z9 ((uh ke).below hb9 (uh ke).lt)
  replace HE:=Z9 ((uh HE).later hb9)
  replace Tw2:=Z9 ((uh Tw2).trans (Two.of_below hb9))
  have HF3:Hid (FullSmy n₀ w9 (.slice a0 m.rooms.length p0) (.slice a1 m.guilds.length p1) (.slice (some ⟨g2,0,none⟩) m.smiths.length p2) (.slice (some ⟨g3,0,none⟩) m.desks.length p3) (.slice a4 m.paces.length p4) { m with smiths:=ss,desks:=m.desks.set b (op,(i0:Int),mk) } qs):=Z9 ((uh HF2).below hb9)
  clear hput
  obtain ⟨_,hga,_,_,hc3,hz3⟩:=RecAt.view ZH (by omega) (uh HF3).desks hD1.symm (by show 0<(m.desks.set b _).length;omega)
  cases hga
  have hrk2:Z8 ({ m with smiths:=ss,desks:=m.desks.set b (op,(i0:Int),mk) } : Z4).desks b=(op,(i0:Int),mk):=uh Hset _
  have d3:=hc3 b (by show b<(m.desks.set b _).length;omega) 2 _ rfl
  rw [hrk2] at d3
  simp only at d3
  have f3:=hz3 (b*3+2)
  have hput:=(uh HF3).putD hD1.symm (j:=b) (i:=2) (by show b<(m.desks.set b _).length;omega) (by omega) (.int .i64 (ZI mk hd0)) (op,(i0:Int),(ZI mk hd0)) (by rw [hrk2];rfl)
  simp only [List.set_set] at hput
  have HF4:=Z9 hput
  clear hput hc3 hz3 hrk2
  refine hK.out _ _ ⟨(uh kb).cell (i:=3) rfl,d3,(uh ke).cell (i:=0) rfl,f3⟩ (fun hHeld=> ?_)
  clear hK K c3 e0 d2 f2 hb9
  (try simp only [Act.put,sA,sZ,sS])
  (refine tk 12 rfl (by assumption) ?_;(try simp only [Act.put,sA,sZ,sS]))
  (refine tk 13 rfl (by assumption) ?_;(try simp only [Act.put,sA,sZ,sS]))
  refine wpAnyH_done (by kernel_rfl) ?_ _
  refine ZL rfl rfl ?_
  go_simp
  clear hHeld d3 f3
  have ht:Two (some g2) (some g3) w9 (w9.setCell ⟨g3,b*3+2,none⟩ (.int .i64 (ZI mk hd0))):=Two.of_set w9 (.inr rfl) _ _
  replace kb:=Z9 ((uh kb).two ht h2R h3R)
  replace HE:=Z9 (Two.ents (uh HE) ht (fun i e=>by cases e;omega) (fun i e=>by cases e;omega))
  have Tw4:Hid (Two (some g2) (some g3) w (w9.setCell ⟨g3,b*3+2,none⟩ (.int .i64 (ZI mk hd0)))):=Z9 ((uh Tw2).trans ht)
  clear ht Tw2 HF3 HF2 ke
  generalize w9.setCell ⟨g3,b*3+2,none⟩ (.int .i64 (ZI mk hd0))=X4 at *
  obtain ⟨ds,hds⟩:∃ q,m.desks.set b (op,(i0:Int),(ZI mk hd0))=q:=⟨_,rfl⟩
  rw [hds] at Hcons HF4
  clear hds hD1
  have h2X:g2<X4.heap.size:=by have h9:=(uh HF4).smiths;exact (RecAt.lt h9 rfl).2
  have h3X:g3<X4.heap.size:=by have h9:=(uh HF4).desks;exact (RecAt.lt h9 rfl).2
  go_wp2_with fail
  refine (Oh (uh HE).paces (by omega)).mono ?_
  rintro e w5 ⟨v5,rfl,he5,hb5⟩
  obtain ⟨ya,yc,rfl⟩:=EntsAt.shape he5
  have HE5:=Z9 he5
  have hX4:w.heap.size<X4.heap.size:=(uh kb).lt
  replace kb:=Z9 ((uh kb).below hb5 (uh kb).lt)
  replace HF4:=Z9 ((uh HF4).below hb5)
  replace Tw4:=Z9 ((uh Tw4).trans (Two.of_below hb5))
  clear he5 hb5 HE
  go_wp2_with fail
  go_loopw [54] (fun i wi=> ∃ j:Nat,j<=t.length/\i= .int .i64 j/\FullSmy n₀ wi (.slice a0 m.rooms.length p0) (.slice a1 m.guilds.length p1) (.slice (some ⟨g2,0,none⟩) m.smiths.length p2) (.slice (some ⟨g3,0,none⟩) m.desks.length p3) (.slice a4 m.paces.length p4) { m with smiths:=ZM ss (t.take j),desks:=ds } qs/\Two (some g2) (some g3) w5 wi) (fun i _=>t.length-(intOf i).toNat)
  case atStart=>exact ⟨0,Nat.zero_le _,rfl,by simpa [ZM] using uh HF4,Two.refl _ _ _⟩
  case round=>
   obtain ⟨j,hj,rfl,hf3,htw3⟩:=hrel
   have HF5:=Z9 hf3
   have Tw5:=Z9 htw3
   have K5:=Z9 ((uh kb).two htw3 h2R h3R)
   have HE6:=Z9 (Two.ents (uh HE5) htw3 (fun i e=>by cases e;exact h2X) (fun i e=>by cases e;exact h3X))
   have hzr:=htw3.size
   clear hf3 htw3
   by_cases hjl:j<t.length
   ·obtain ⟨_,_,hqe,_,_,hr⟩:=EntsAt.paces (uh HE6)
    cases hqe
    rcases hr with e0 | ⟨eb,eo,rfl,hbw,hcl⟩
    ·rw [e0] at hjl;simp at hjl
    obtain ⟨d0,d1⟩:=hcl j hjl
    obtain ⟨i2,hi2,hie⟩:=uh Hmt _ (XR hjl)
    rw [hie] at d1
    have Htk:Hid (ZM ss (t.take (j+1))=(ZM ss (t.take j)).set i2 (stS (Z8 (ZM ss (t.take j)) i2) 2)):=Z9 (by rw [LB hjl,Si,hie];simp)
    obtain ⟨hh,hhh⟩:∃ q,(Z7 t j).1=q:=⟨_,rfl⟩
    rw [hhh] at d0
    have hjl1:(j:Int)<(t.length:Int):=by omega
    clear hcl hie hhh
    go_upto_region 11 with fail
    clear d0 d1
    obtain ⟨Y,hY,hba,ke⟩:=ZA wr 94 #[.int .i64 hh,.int .i64 (i2:Int)]
    replace K5:=bl K5 hba
    replace HF5:=Z9 ((uh HF5).below hba)
    replace Tw5:=Z9 ((uh Tw5).trans (Two.of_below hba))
    clear hba
    rw [hY]
    clear hY
    have hwl:(ZM ss (t.take j)).length=m.smiths.length:=by rw [Yp,hsl]
    obtain ⟨_,hga,_,_,hc2,hz2⟩:=RecAt.view ZZ (by omega) (uh HF5).smiths hwl.symm (by show 0<(ZM ss (t.take j)).length;omega)
    cases hga
    have s0:=hc2 i2 (by show i2<(ZM ss (t.take j)).length;omega) 0 _ rfl
    have f0:=hz2 (i2*11)
    have hput:=(uh HF5).putS hwl.symm (j:=i2) (i:=0) (by show i2<(ZM ss (t.take j)).length;omega) (by omega) (.int .i64 2) (stS (Z8 (ZM ss (t.take j)) i2) 2) rfl
    simp only [Nat.add_zero] at s0 hput
    have HF6:=Z9 hput
    have c2:=(uh K5).cell (i:=2) (v:= .slice (some ⟨g2,0,none⟩) m.smiths.length p2) rfl
    have e1:=(uh ke).cell (i:=1) (v:= .int .i64 (i2:Int)) rfl
    have hi3:(i2:Int)<(m.smiths.length:Int):=by omega
    clear hput hc2 hz2 hwl
    go_wp2_with fail
    go_roundw
    case rel=>exact ⟨j+1,by omega,by go_num,by rw [uh Htk];exact uh HF6,(uh Tw5).trans (Two.of_set _ (.inl rfl) _ _)⟩
    case measure=>simp [intOf];omega
   ·obtain rfl:j=t.length:=by omega
    rw [List.take_length] at HF5
    go_wp2_with fail
    go_end0
    exact ⟨rfl,by rw [uh Hcons];exact uh HF5,(uh Tw4).trans (uh Tw5)⟩
theorem Tp (w:World) (v0 v1 v2 v3 v4:Value) (m:Z4) (h:Smy w v0 v1 v2 v3 v4 m) :
  Calls Tryz.prog 184 #[.agg #[v0,v1,v2,v3,v4,.int .i64 m.now]] w fun e w'=> ∃ u0 u1 u2 u3 u4 rs,e= .returned (.agg #[u0,u1,u2,u3,u4,.int .i64 (ZE m).now])/\FullSmy w.heap.size w' u0 u1 u2 u3 u4 (ZE m) rs/\Below w.heap.size w w':=by
 obtain ⟨M,hM⟩:∃ x,ZE m=x:=⟨_,rfl⟩
 rw [hM]
 have HM:=Z9 hM
 clear hM
 have Hv0:=Z9 h
 obtain ⟨a0,p0,a1,p1,a2,p2,a3,p3,a4,p4,rfl,rfl,rfl,rfl,rfl,_,_,_,_,_,_,_,_,_,_⟩:=h.five
 clear h
 obtain ⟨ok,hok⟩:∃ q,YY m=q:=⟨_,rfl⟩
 have Hok:=Z9 hok
 have Hok2:Hid (WV m=ok):=Z9 (by rw [Su];exact hok)
 clear hok
 go_enter Tryz.func184,Tryz.ntmps184
 go_wp2_with fail
 obtain ⟨W,hW,kb,kr,BB⟩:=YQ w 32 (S6 a0 p0 a1 p1 a2 p2 a3 p3 a4 p4 m) 32 E6
 have Hv:=Z9 ((uh Hv0).below (uh BB))
 rw [hW]
 clear hW
 refine (Td (uh Hv)).mono ?_
 rw [uh Hok2]
 rintro e w1 ⟨rfl,hb⟩
 replace Hv:=Z9 ((uh Hv).below hb)
 replace kb:=bl kb hb
 replace kr:=bl kr hb
 replace BB:=bt BB hb
 clear hb
 cases ok
 ·
  obtain rfl:M=YM:=by rw [<-uh HM];unfold ZE;rw [uh Hok];rfl
  obtain ⟨o0,o1,o2,o3,o4,o5⟩:=(uh kr).c6
  obtain ⟨f0,f1,f2,f3,f4,f5⟩:=(uh kr).f6
  go_wp2_with fail
  refine bodyPost_ret (v:= .agg E6) (by simp [results,Tryz.results184,go_sem, *]) rfl ⟨_,_,_,_,_,[],rfl,Zd _ _,?_⟩
  iterate 6 (refine Below.setCell ?_ (by show _<=w.heap.size+1;omega) _)
  exact uh BB
 obtain rfl:M=ZV m:=by rw [<-uh HM];unfold ZE;rw [uh Hok];rfl
 have hlo:=RS (uh Hok)
 have HLo:=Z9 hlo
 have HFew:=Z9 (XO hlo)
 clear hlo
 obtain ⟨c0,c1,c2,c3,c4,c5⟩:=(uh kb).c6
 go_wp2_with fail
 clear c0 c1 c2 c3 c4 c5
 have hWs:w.heap.size+2<=w1.heap.size:=by have:=(uh kr).lt;omega
 refine (XX (uh Hv) (uh HFew)).mono ?_
 rintro e w2 ⟨y0,y1,y2,y3,y4,oq,rfl,ho,hb⟩
 have k9:=ho.smy
 obtain ⟨b0,q0,b1,q1,b2,q2,b3,q3,b4,q4,rfl,rfl,rfl,rfl,rfl,_,_,_,_,_,_,_,_,_,_⟩:=k9.five
 replace Hv:=Z9 ((uh Hv).below hb)
 replace kb:=bl kb hb
 replace kr:=bl kr hb
 replace BB:=bt BB hb
 have HO:=Z9 (ho.mono hWs)
 have LO:Hid (∀ k,YG (.slice b0 m.rooms.length q0) (.slice b1 m.guilds.length q1) (.slice b2 m.smiths.length q2) (.slice b3 m.desks.length q3) (.slice b4 m.paces.length q4) oq k->w.heap.size+2<=k/\k<w2.heap.size):=Z9 (fun k e=>(uh HO).own e)
 have hsz9:=hb.size
 clear ho hb k9
 go_upto_region 4 with fail
 obtain ⟨W2,hW2,hb,ko⟩:=ZA w2 32 (S6 b0 q0 b1 q1 b2 q2 b3 q3 b4 q4 m)
 replace Hv:=Z9 ((uh Hv).below hb)
 replace kb:=bl kb hb
 replace kr:=bl kr hb
 replace BB:=bt BB hb
 replace HO:=Z9 ((uh HO).below hb)
 have hob:w.heap.size+2<=w2.heap.size:=Nat.le_trans hWs hsz9
 clear hb hsz9 hWs
 rw [hW2]
 clear hW2
 generalize w2.heap.size=ob at *
 have x3:=(uh ko).cell (i:=3) (v:= .slice b3 m.desks.length q3) rfl
 go_wp2_with fail
 clear x3
 go_loopw [4,14] (fun u i wr=> ∃ k:Nat,k<=m.desks.length/\i= .int .i64 k/\FullSmy (w.heap.size+2) wr (.slice b0 m.rooms.length q0) (.slice b1 m.guilds.length q1) (.slice b2 m.smiths.length q2) (.slice b3 m.desks.length q3) (.slice b4 m.paces.length q4) (Zo m k) oq/\Two (Value.slice b2 m.smiths.length q2).ownBlock (Value.slice b3 m.desks.length q3).ownBlock W2 wr) (fun _ i _=>m.desks.length-(intOf i).toNat)
 case atStart=>exact ⟨0,Nat.zero_le _,rfl,uh HO,Two.refl _ _ _⟩
 case round=>
  obtain ⟨k,hk,rfl,hf1,htw⟩:=hrel
  have H2:(Value.slice b2 m.smiths.length q2).ownBlock ≠ some ob:=fun e=>by have:=(uh LO _ (.inr (.inr (.inr (.inl e))))).2;omega
  have H3:(Value.slice b3 m.desks.length q3).ownBlock ≠ some ob:=fun e=>by have:=(uh LO _ (.inr (.inr (.inr (.inr (.inl e)))))).2;omega
  have ko1:=Z9 ((uh ko).two htw H2 H3)
  have HF1:=Z9 hf1
  have Tw:=Z9 htw
  clear hf1 htw H2 H3
  have hnow:(Zo m k).now=m.now:=(ZQ m k).2.2.2.1
  have hdl:(Zo m k).desks.length=m.desks.length:=(ZQ m k).2.2.2.2.2
  by_cases hlt:k<m.desks.length
  ·have hlt1:(k:Int)<(m.desks.length:Int):=by omega
   have hc:=Is (b:=k) (uh HF1) (LJ (uh HLo) k hk) (by omega)
   rw [hnow] at hc
   have Hc:=Z9 hc
   clear hc hnow hdl
   obtain ⟨x0,x1,x2,x3,x4,x5⟩:=(uh ko1).c6
   go_wp2_with fail
   clear x0 x1 x2 x3 x4 x5
   refine (uh Hc).mono ?_
   rintro e w5 ⟨rfl,hf5,ht5⟩
   have HF5:=Z9 hf5
   have T5:=Z9 ((uh Tw).trans ht5)
   clear hf5 ht5
   go_wp2_with fail
   go_roundw
   case rel=>exact ⟨k+1,by omega,by go_num,uh HF5,uh T5⟩
   case measure=>simp [intOf];omega
  ·
   obtain rfl:k=m.desks.length:=by omega
   replace kr:=Z9 ((uh kr).two (uh Tw) (fun e=>by have:=(uh LO _ (.inr (.inr (.inr (.inl e))))).1;omega) (fun e=>by have:=(uh LO _ (.inr (.inr (.inr (.inr (.inl e)))))).1;omega))
   replace BB:=Z9 ((uh BB).trans ((uh Tw).below (uh BB).size (fun k e=>by have:=(uh LO k (.inr (.inr (.inr (.inl e))))).1;omega) (fun k e=>by have:=(uh LO k (.inr (.inr (.inr (.inr (.inl e)))))).1;omega)))
   obtain ⟨x0,x1,x2,x3,x4,x5⟩:=(uh ko1).c6
   obtain ⟨o0,o1,o2,o3,o4,o5⟩:=(uh kr).c6
   obtain ⟨f0,f1,f2,f3,f4,f5⟩:=(uh kr).f6
   have Hnow:Hid ((ZV m).now=m.now):=Z9 hnow
   clear hnow hdl
   go_wp2_with fail
   refine bodyPost_ret (v:= .agg (S6 b0 q0 b1 q1 b2 q2 b3 q3 b4 q4 m)) (by simp [results,Tryz.results184,go_sem, *]) rfl ⟨_,_,_,_,_,oq,by rw [uh Hnow],?_,?_⟩
   ·iterate 6 (refine FullSmy.set_off ?_ (fun k e=>by have:=(uh LO k e).1;omega) _ _)
    exact (uh HF1).mono (by omega)
   ·iterate 6 (refine Below.setCell ?_ (by show _<=w.heap.size+1;omega) _)
    exact uh BB
open Go.ChangeShapes Go.WideShapes Go.ChangeAt Go.RowKit Go.Sort Go.Shelf
set_option maxRecDepth 100000
theorem Gm {R:Nat}  {qs:List (Z2 × Value)} {q:Int->Addr} (K:Nx w W R v0 v1 v2 v3 v4 m qs) (he:Errs w q) (hm:ZP m=true) (who:Int):Calls Tryz.prog 107 #[.pointer (some ⟨R,0,none⟩),.int .i64 who] W fun e W'=>Chg w R q (VW m who) (Wf m who) e W':=by
 obtain ⟨wq,hwq⟩:∃ b,Xl m who=b:=⟨_,rfl⟩
 have Hwq:=Z9 hwq
 clear hwq
 have HM:=Z9 hm
 have HE:=Z9 he
 clear hm he
 obtain ⟨c0,c1,c2,c3,c4,c5⟩:=K.cells
 go_enter Tryz.func107,Tryz.ntmps107
 go_wp2_with fail
 refine (Qw (uh Hwq) K.full.smy).mono ?_
 rintro e w1 ⟨rfl,hb⟩
 replace K:=K.next hb
 clear hb c0 c1 c2 c3 c4 c5
 cases wq
 ·have hc0:Wf m who=1:=by unfold Wf;rw [uh Hwq];rfl
  have x1:=((uh HE).below K.bb).c1
  go_wp2_with fail
  go_ret
  first | exact Chg.no K.bb hc0 (by omega) | exact Chg.no K.bb rfl (by omega)
 obtain ⟨k,rfl,hk,hs⟩:=Yz (uh Hwq)
 have hk1:(k:Int)<(m.smiths.length:Int):=by omega
 obtain ⟨a2,p2,rfl⟩:=RecAt.shape K.full.smiths
 obtain ⟨g2,rfl,hg2,hg2w,hc2,hz2⟩:=RecAt.view ZZ (by omega) K.full.smiths rfl (by omega)
 have s0:=hc2 k hk 0 _ rfl
 have s1:=hc2 k hk 1 _ rfl
 have s2:=hc2 k hk 2 _ rfl
 have s3:=hc2 k hk 3 _ rfl
 have s4:=hc2 k hk 4 _ rfl
 have s5:=hc2 k hk 5 _ rfl
 have s6:=hc2 k hk 6 _ rfl
 have s7:=hc2 k hk 7 _ rfl
 have s8:=hc2 k hk 8 _ rfl
 have s9:=hc2 k hk 9 _ rfl
 have s10:=hc2 k hk 10 _ rfl
 obtain ⟨⟨st,be,rk,my,gu,lo,hi,hd,ca,ut,wk⟩,hrk⟩:∃ d,Z8 m.smiths k=d:=⟨_,rfl⟩
 rw [hrk] at s0 s1 s2 s3 s4 s5 s6 s7 s8 s9 s10
 simp only [Nat.add_zero] at s0 s1 s2 s3 s4 s5 s6 s7 s8 s9 s10
 have Hrk:=Z9 hrk
 have f0:=hz2 (k*11)
 obtain ⟨_,_,c2,_,_,_⟩:=K.cells
 clear hc2 hz2 hrk
 go_wp2_with fail
 refine (OS st be rk my gu lo hi hd ca ut wk _).mono ?_
 rintro e w2 ⟨rfl,hb⟩
 replace K:=K.next hb
 clear hb c2 f0 s0 s1 s2 s3 s4 s5 s6 s7 s8 s9 s10
 by_cases hst:st=1
 ·subst hst
  have hc0:Wf m (k:Int)=2:=by unfold Wf;rw [uh Hwq,Int.toNat_natCast,uh Hrk];rfl
  have x1:=((uh HE).below K.bb).c2
  go_wp2_with fail
  go_ret
  first | exact Chg.no K.bb hc0 (by omega) | exact Chg.no K.bb rfl (by omega)
 have n0:(st ==1)=false:=by simpa using hst
 rw [n0]
 have hc0:Wf m (k:Int)=0:=by unfold Wf;rw [uh Hwq,Int.toNat_natCast,uh Hrk];simp [hst]
 have hx0:VW m (k:Int)=setS m k (1,be,rk,my,gu,lo,hi,hd,ca,ut,wk):=by unfold VW;rw [Int.toNat_natCast,uh Hrk];rfl
 have K1:=K.putS rfl hk (i:=0) (by omega) (.int .i64 1) (1,be,rk,my,gu,lo,hi,hd,ca,ut,wk) (by rw [uh Hrk];rfl)
 obtain ⟨_,hga,_,_,hc2,hz2⟩:=RecAt.view ZZ (by omega) K.full.smiths rfl (by omega)
 cases hga
 have s0:=hc2 k hk 0 _ rfl
 have f0:=hz2 (k*11)
 obtain ⟨_,_,c2,_,_,_⟩:=K.cells
 simp only [Nat.add_zero] at s0 K1
 have HK:=Z9 K1
 clear K1 hc2 hz2
 go_wp2_with fail
 go_ret
 exact Chg.yes (uh HK) hc0 hx0
theorem IW {R:Nat}  {qs:List (Z2 × Value)} {q:Int->Addr} (K:Nx w W R v0 v1 v2 v3 v4 m qs) (he:Errs w q) (hm:ZP m=true) (who:Int):Calls Tryz.prog 109 #[.pointer (some ⟨R,0,none⟩),.int .i64 who] W fun e W'=>Chg w R q (Xm m who) (Xa m who) e W':=by
 obtain ⟨wq,hwq⟩:∃ b,Xl m who=b:=⟨_,rfl⟩
 have Hwq:=Z9 hwq
 clear hwq
 have HM:=Z9 hm
 have HE:=Z9 he
 clear hm he
 obtain ⟨c0,c1,c2,c3,c4,c5⟩:=K.cells
 go_enter Tryz.func109,Tryz.ntmps109
 go_wp2_with fail
 refine (Qw (uh Hwq) K.full.smy).mono ?_
 rintro e w1 ⟨rfl,hb⟩
 replace K:=K.next hb
 clear hb c0 c1 c2 c3 c4 c5
 cases wq
 ·have hc0:Xa m who=1:=by unfold Xa;rw [uh Hwq];rfl
  have x1:=((uh HE).below K.bb).c1
  go_wp2_with fail
  go_ret
  first | exact Chg.no K.bb hc0 (by omega) | exact Chg.no K.bb rfl (by omega)
 obtain ⟨k,rfl,hk,hs⟩:=Yz (uh Hwq)
 have hk1:(k:Int)<(m.smiths.length:Int):=by omega
 obtain ⟨a2,p2,rfl⟩:=RecAt.shape K.full.smiths
 obtain ⟨g2,rfl,hg2,hg2w,hc2,hz2⟩:=RecAt.view ZZ (by omega) K.full.smiths rfl (by omega)
 have s0:=hc2 k hk 0 _ rfl
 have s1:=hc2 k hk 1 _ rfl
 have s2:=hc2 k hk 2 _ rfl
 have s3:=hc2 k hk 3 _ rfl
 have s4:=hc2 k hk 4 _ rfl
 have s5:=hc2 k hk 5 _ rfl
 have s6:=hc2 k hk 6 _ rfl
 have s7:=hc2 k hk 7 _ rfl
 have s8:=hc2 k hk 8 _ rfl
 have s9:=hc2 k hk 9 _ rfl
 have s10:=hc2 k hk 10 _ rfl
 obtain ⟨⟨st,be,rk,my,gu,lo,hi,hd,ca,ut,wk⟩,hrk⟩:∃ d,Z8 m.smiths k=d:=⟨_,rfl⟩
 rw [hrk] at s0 s1 s2 s3 s4 s5 s6 s7 s8 s9 s10
 simp only [Nat.add_zero] at s0 s1 s2 s3 s4 s5 s6 s7 s8 s9 s10
 have Hrk:=Z9 hrk
 have f0:=hz2 (k*11)
 have f1:=hz2 (k*11+1)
 have f2:=hz2 (k*11+2)
 have f3:=hz2 (k*11+3)
 have f4:=hz2 (k*11+4)
 have f5:=hz2 (k*11+5)
 have f6:=hz2 (k*11+6)
 have f7:=hz2 (k*11+7)
 have f8:=hz2 (k*11+8)
 have f9:=hz2 (k*11+9)
 have f10:=hz2 (k*11+10)
 obtain ⟨_,_,c2,_,_,_⟩:=K.cells
 clear hc2 hz2 hrk
 have hc0:Xa m (k:Int)=0:=by unfold Xa;rw [uh Hwq];rfl
 have hx0:Xm m (k:Int)=setS m k XC:=by unfold Xm;rw [Int.toNat_natCast]
 have K1:=K.putW rfl hk XC
 rw [show Z0 (XC)=[.int .i64 0,.int .i64 0,.int .i64 0,.int .i64 0,.int .i64 0,.int .i64 0,.int .i64 0,.int .i64 0,.int .i64 0,.int .i64 0,.int .i64 0] from rfl,Sz] at K1
 have HK:=Z9 K1
 clear K1
 go_wp2_with fail
 go_ret
 exact Chg.yes (uh HK) hc0 hx0
end Go.Proofs.YtjhijildaceadaaGreatDoor
