/- Part 29 of what the proof rests on. No condition but those that a theorem names. -/
import Derived.Test.YtgdpaigcmoifbaaGreatDoorXr15
import Derived.Test.YtgdpaigcmoifbaaGreatDoorXr23
import Derived.Test.YtgdpaigcmoifbaaGreatDoorXr25
import Derived.Laws.CopyRow
set_option maxHeartbeats 8000000
set_option maxRecDepth 100000
namespace Go.Proofs.YtgdpaigcmoifbaaGreatDoor
open Go.ChangeShapes Go.WideShapes Go.ChangeAt Go.RowKit Go.Sort Go.Proofs.Tryz
set_option linter.unusedVariables false
set_option linter.unusedSimpArgs false
set_option maxRecDepth 100000
variable {w w' w0 w1 w2 w3 w₀ wr W W' X A B C : World} {v v0 v1 v2 v3 v4 u u0 u1 u2 u3 u4 : Value} {m : Z3}
theorem F0 (a:Option Addr) (n cap k:Nat) (hn:n=k+1) (hc:n<=cap) (W:World):(Instr.slice 135 (.slice a n cap) (some (.int .i64 1)) (some (.int .i64 (n:Int))) (some (.int .i64 (n:Int)))).run prog W= .ok (.slice (if k=0 then a else a.map (·.add 2)) k k) W:=by
 obtain ⟨i0,hi,hz0,hz1,hz2⟩:=info_parts Wm;have hs:∀ W,(sizeOf 138).run prog W= .ok 2 W:=fun W=>by simp [sizeOf,typeInfo,hi,hz1]
 have hb:∀ W,(Instr.sliceBounds true n cap (some (.int .i64 1)) (some (.int .i64 (n:Int))) (some (.int .i64 (n:Int)))).run prog W= .ok (1,n,n) W:=fun W=>by
  have h1:(0:Int)<=(n:Int)/\(n:Int)<=(cap:Int):=by omega
  have h2:(0:Int)<=(n:Int)/\(n:Int)<=(n:Int):=by omega
  have h3:(0:Int)<=1/\(1:Int)<=(n:Int):=by omega
  simp only [Instr.sliceBounds,Instr.sliceBound,asIntOf,Sem.run_bind,Sem.run_pure,Result.andThen_ok,if_pos h1,if_pos h2,if_pos h3,Zm];rfl
 simp only [Instr.slice,Sem.run_bind,run_underlying underlying135,Result.andThen,hb,hs,Sem.run_pure];have e1:(n=1)=(k=0):=by apply propext;omega
 rw [show n-1=k by omega];simp only [e1,Nat.one_mul]
theorem IsPaces.behind {a:Option Addr} {n cap:Nat} {e:Z6} {t:List Z6} (h:IsPaces w (.slice a n cap) (e::t)):IsPaces w (.slice (if t.length=0 then a else a.map (·.add 2)) t.length t.length) t:=by
 obtain ⟨a',cap',he,hc,hm,hr⟩:=h;cases he;rw [XY] at hc;refine ⟨_,t.length,rfl,ZY _,by omega,?_⟩;by_cases h0:t.length=0
 ·exact .inl (List.eq_nil_of_length_eq_zero h0)
 ·rcases hr with hr | ⟨b,off,rfl,hlt,hcl⟩
  ·cases hr
  ·rw [if_neg h0]
   refine .inr ⟨b,off+2,by simp [Ls],hlt,fun j hj=> ?_⟩;have:=hcl (j+1) (by simp;omega);rw [show off+(j+1)*2=off+2+j*2 by omega] at this;exact this
theorem NQ {g base sc:Nat} {sp:Option Addr} {ps:List Z6} {xs:List Value} (ty:TypeId) (hd:w.ownsRow base 138 2 (.slice (some ⟨g,0,none⟩) ps.length ps.length) ps.length xs) (hs:IsPaces w (.slice sp ps.length sc) ps) :
  ∃ w',(Builtin.copy_ #[135,135] ty #[.slice (some ⟨g,0,none⟩) ps.length ps.length,.slice sp ps.length sc]).run prog w= .ok (goInt ps.length) w'/\EntsAt base w' (.slice (some ⟨g,0,none⟩) ps.length ps.length) ps/\Below base w w':=by
 obtain ⟨i0,hi,hz0,hz1,hz2⟩:=info_parts Wm
 rcases hd.2 with ⟨he,_⟩ | ⟨g',cap,cur,he,hb,hg,hnc,hcm,hsz,htk⟩
 ·cases he
 cases he;have hpl:=Uk ps;obtain ⟨a',cap',he,hc,hm,hr⟩:=hs;cases he
 have hload:(Builtin.firstCells 2 ps.length (.slice sp ps.length sc)).run prog w= .ok (Zq ps).toArray w:=by
  rcases hr with hr | ⟨b,off,rfl,hlt,hcl⟩
  ·subst hr
   cases sp with
   | none=>rfl
   | some ad=>
    have:=run_loadCells_list (P:=prog) w ad (Zq []) (fun j v h=>by simp [Zq] at h);exact this
  ·have:=run_loadCells_list (P:=prog) w ⟨b,off,none⟩ (Zq ps) (fun j v h=>by
    have hj:j<ps.length*2:=by
     have:=(List.getElem?_eq_some_iff.1 h).1;omega
    have hp:=WM (f:=fun p:Z6=>Value.int .i64 p.1) (g:=fun p:Z6=>Value.int .i64 p.2) ps (j / 2) (by omega);have hat:Z7 ps (j / 2)=ps[j / 2]'(by omega):=by unfold Z7;simp [List.getD,(by omega:j / 2<ps.length)]
    obtain ⟨c0,c1⟩:=hcl (j / 2) (by omega);rw [hat] at c0 c1;have ha:(⟨b,off,none⟩:Addr).add j=⟨b,off+j,none⟩:=by unfold Addr.add;split<;>simp_all
    rw [ha]
    rcases Nat.mod_two_eq_zero_or_one j with e2 | e2
    ·have ej:j=j / 2*2:=by omega
     have h9:(Zq ps)[j / 2*2]?=some (.int .i64 (ps[j / 2]'(by omega)).1):=hp.1;rw [<-ej,h] at h9;cases h9;rw [show off+j=off+j / 2*2 by omega];exact c0
    ·have ej:j=j / 2*2+1:=by omega
     have h9:(Zq ps)[j / 2*2+1]?=some (.int .i64 (ps[j / 2]'(by omega)).2):=hp.2;rw [<-ej,h] at h9;cases h9;rw [show off+j=off+j / 2*2+1 by omega]
     exact c1)
   rw [hpl] at this;exact this
 have hst:=run_storeCells_at prog g 0 138 (Zq ps) 0 cur w hg (by rw [hpl,hsz];omega) (fun v hv=>by
  unfold Zq at hv;obtain ⟨p,_,hp⟩:=List.mem_flatMap.1 hv;simp only [List.mem_cons,List.not_mem_nil,or_false] at hp
  rcases hp with rfl | rfl<;>rfl)
 have hdrop:cur.toList.drop (Zq ps).length=[]:=by
  rw [List.drop_eq_nil_iff,Array.length_toList,hsz,hpl];exact ZY _
 simp only [Nat.zero_add,List.take_zero,List.nil_append,hdrop,List.append_nil] at hst;refine ⟨w.setRow g (Zq ps).toArray,?_,⟨hpl,.inr ⟨g,ps.length,(Zq ps).toArray,rfl,hb,setRow_heap w g _ _ _ _ hg,ZY _,hcm,by simp [hpl],?_⟩⟩,?_⟩
 ·have hsz2:(sizeOf 138).run prog w= .ok 2 w:=by simp [sizeOf,typeInfo,hi,hz1]
  have hlen:(Builtin.lenOf (.slice sp ps.length sc)).run prog w= .ok ps.length w:=rfl;have hmin:Nat.min ps.length ps.length=ps.length:=Nat.min_self _;unfold Builtin.copy_;simp only [Sem.run_bind,run_underlying underlying135,Result.andThen_ok,hlen,hmin,hsz2,hload,List.getElem?_toArray,List.getElem?_cons_zero,List.getElem?_cons_succ,Sem.run_pure,hst]
 ·rw [List.take_of_length_le (by simp [hpl])]
 ·exact ⟨rfl,rfl,rfl,by simp [World.setRow],fun k hk=>setRow_other w g k _ (by omega)⟩
theorem NY  {e:Z6} {t:List Z6} (h:IsPaces w v (e::t)) (hl:t.length<=1000):Calls prog 170 #[v] w fun e w'=> ∃ v',e= .returned v'/\EntsAt w.heap.size w' v' t/\Below w.heap.size w w':=by
 have Hv:=Z9 h;obtain ⟨a,cap,rfl,hc,hm,hr⟩:=h;obtain ⟨n,hn⟩:∃ n,n=t.length+1:=⟨_,rfl⟩
 rw [show (e::t).length=n by rw [hn];rfl] at Hv hc ⊢;have hcut:=fun W=>F0 a n cap t.length hn hc W;have HB:=Z9 (uh Hv).behind;obtain ⟨sp,hsp⟩:=ZI ((if t.length=0 then a else a.map (·.add 2)));rw [hsp] at HB;simp only [hsp] at hcut;have hn1:n<=1001:=by omega
 clear hr hn hsp;obtain ⟨i0,hi,hz0,hz1,hz2⟩:=info_parts Wm;go_enter func170,ntmps170;go_upto_region 3 with (at_make;refine wpList_make_full _ rfl _ _ 135 rfl w.heap.size 138 i0 (.agg #[.int .i64 0,.int .i64 0]) 2 underlying135 hi hz0 hz1 _ _ _ _ t.length rfl rfl rfl rfl (by rw [hz2];omega) (by unfold maxLen;omega) (ZY _) ?_;intro w0 hown hgrow;have HBB:Hid (Below w.heap.size w w0):=Z9 ((Z0 _ _).grown hgrow (ZY _) (fun k e=>by cases e));obtain ⟨w9,hrun,he9,hb9⟩:=NQ 3 hown ((uh HB).below (uh HBB));have HR:=Z9 hrun;have HE:=Z9 he9;have HB9:=Z9 hb9;clear hown hgrow hrun he9 hb9)
 have hr9:=uh HR;go_wp2_with fail;go_ret;exact ⟨_,rfl,uh HE,(uh HBB).trans (uh HB9)⟩
theorem PM  {ps:List ZG} (h:Y9 w v ps) (hl:ps.length<=1000):Calls prog 126 #[v] w fun e w'=> ∃ v',e= .returned v'/\GuildsAt w.heap.size w' v' ps/\Below w.heap.size w w':=by
 have HR:=Z9 (h.below ((Z0 _ _).alloc (ZY _) (.cells #[] 97)));obtain ⟨a,cap,rfl,hc,hm,hr⟩:=h;clear hr;go_enter func126,ntmps126;go_wp2_with (at_builtin;refine ZN tyG rfl (.tmp 3) (.tmp 4) 153 underlying153 rfl w.heap.size _ _ [] ps rfl rfl (Zh rfl (ZY _)) (uh HR) (by simp;omega) (by simp) ?_;intro u9 w9 hp9 hg9 hat9;rw [List.nil_append] at hp9;have HP9:=Z9 hp9;have HG9:=Z9 hg9;clear hp9 hg9 hat9)
 have hb9:Below w.heap.size w w9:=((ba _ _)).trans ((Z0 _ _).grown (uh HG9) (by simp) (fun i e=>by cases e;exact ZY _));go_wp2_with fail;go_ret;exact ⟨_,rfl,uh HP9,hb9⟩
theorem VR  {ps:List ZZ} (h:YZ w v ps) (hl:ps.length<=1000):Calls prog 128 #[v] w fun e w'=> ∃ v',e= .returned v'/\SmithsAt w.heap.size w' v' ps/\Below w.heap.size w w':=by
 have HR:=Z9 (h.below ((Z0 _ _).alloc (ZY _) (.cells #[] 59)));obtain ⟨a,cap,rfl,hc,hm,hr⟩:=h;clear hr;go_enter func128,ntmps128;go_wp2_with (at_builtin;refine ZN tyS rfl (.tmp 3) (.tmp 4) 155 underlying155 rfl w.heap.size _ _ [] ps rfl rfl (Zh rfl (ZY _)) (uh HR) (by simp;omega) (by simp) ?_;intro u9 w9 hp9 hg9 hat9;rw [List.nil_append] at hp9;have HP9:=Z9 hp9;have HG9:=Z9 hg9;clear hp9 hg9 hat9)
 have hb9:Below w.heap.size w w9:=((ba _ _)).trans ((Z0 _ _).grown (uh HG9) (by simp) (fun i e=>by cases e;exact ZY _));go_wp2_with fail;go_ret;exact ⟨_,rfl,uh HP9,hb9⟩
theorem Og  {ps:List Yt} (h:XE w v ps) (hl:ps.length<=1000):Calls prog 130 #[v] w fun e w'=> ∃ v',e= .returned v'/\DesksAt w.heap.size w' v' ps/\Below w.heap.size w w':=by
 have HR:=Z9 (h.below ((Z0 _ _).alloc (ZY _) (.cells #[] 87)));obtain ⟨a,cap,rfl,hc,hm,hr⟩:=h;clear hr;go_enter func130,ntmps130;go_wp2_with (at_builtin;refine ZN tyD rfl (.tmp 3) (.tmp 4) 158 underlying158 rfl w.heap.size _ _ [] ps rfl rfl (Zh rfl (ZY _)) (uh HR) (by simp;omega) (by simp) ?_;intro u9 w9 hp9 hg9 hat9;rw [List.nil_append] at hp9;have HP9:=Z9 hp9;have HG9:=Z9 hg9;clear hp9 hg9 hat9)
 have hb9:Below w.heap.size w w9:=((ba _ _)).trans ((Z0 _ _).grown (uh HG9) (by simp) (fun i e=>by cases e;exact ZY _));go_wp2_with fail;go_ret;exact ⟨_,rfl,uh HP9,hb9⟩
theorem NB  {ps:List Int} (h:SO w v ps) (hl:ps.length<=1000):Calls prog 131 #[v] w fun e w'=> ∃ v',e= .returned v'/\NumsAt w.heap.size w' v' ps/\Below w.heap.size w w':=by
 have HR:=Z9 (h.below ((Z0 _ _).alloc (ZY _) (.cells #[] 2)));obtain ⟨a,cap,rfl,hc,hm,hr⟩:=h;clear hr;go_enter func131,ntmps131;go_wp2_with (at_builtin;refine ZN tyN rfl (.tmp 3) (.tmp 4) 161 underlying161 rfl w.heap.size _ _ [] ps rfl rfl (Zh rfl (ZY _)) (uh HR) (by simp;omega) (by simp) ?_;intro u9 w9 hp9 hg9 hat9;rw [List.nil_append] at hp9;have HP9:=Z9 hp9;have HG9:=Z9 hg9;clear hp9 hg9 hat9)
 have hb9:Below w.heap.size w w9:=((ba _ _)).trans ((Z0 _ _).grown (uh HG9) (by simp) (fun i e=>by cases e;exact ZY _));go_wp2_with fail;go_ret;exact ⟨_,rfl,uh HP9,hb9⟩
theorem Wk  (h:Smy w v0 v1 v2 v3 v4 m) (hF:Few m) :
  Calls prog 79 #[.agg #[v0,v1,v2,v3,v4,.int .i64 m.now]] w fun e w'=> ∃ u0 u1 u2 u3 u4 qs,e= .returned (.agg #[u0,u1,u2,u3,u4,.int .i64 m.now])/\FullSmy w.heap.size w' u0 u1 u2 u3 u4 m qs/\Below w.heap.size w w':=by
 have Hv0:=Z9 h;have HF:=Z9 hF;obtain ⟨a0,p0,a1,p1,a2,p2,a3,p3,a4,p4,rfl,rfl,rfl,rfl,rfl,_,_,_,_,_,_,_,_,_,_⟩:=h.five;clear h hF;go_enter func79,ntmps79;go_wp2_with fail;obtain ⟨W,hW,kb,kr,BB⟩:=Vx w 39 (S6 a0 p0 a1 p1 a2 p2 a3 p3 a4 p4 m) 39 E6;rw [hW];clear hW;obtain ⟨c0,c1,c2,c3,c4,c5⟩:=(uh kb).c6;refine ZH (S:=fun w'=>w'.cell? ⟨w.heap.size,0,none⟩=some (.slice a0 m.rm.length p0)/\w'.cell? ⟨w.heap.size,1,none⟩=some (.slice a1 m.gd.length p1)/\w'.cell? ⟨w.heap.size,2,none⟩=some (.slice a2 m.sm.length p2)/\w'.cell? ⟨w.heap.size,3,none⟩=some (.slice a3 m.dk.length p3)/\w'.cell? ⟨w.heap.size,4,none⟩=some (.slice a4 m.pc.length p4)/\w'.cell? ⟨w.heap.size,5,none⟩=some (.int .i64 m.now)) (by kernel_rfl) (Va _ _) (by kernel_rfl) ⟨c0,c1,c2,c3,c4,c5⟩ (fun hHeld=> ?_);replace kb:=Z9 ((uh kb).below (Z0 _ _).drew (uh kb).lt);replace kr:=Z9 ((uh kr).below (Z0 _ _).drew (uh kr).lt);replace BB:=Z9 ((uh BB).drew);have Hv:=Z9 ((uh Hv0).below (uh BB));clear c0 c1 c2 c3 c4 c5;simp only [Vb,Vc,XY,Xo,Nat.zero_add,Nat.reduceAdd];generalize W.drew=X0 at *;have hz0:w.heap.size+2<=X0.heap.size:=by have:=(uh kr).lt;omega
 iterate 2 refine tz ?_
 refine tp 3 ?_;refine tp 4 ?_;refine tp 6 ?_;refine tp 9 ?_;refine tp 12 ?_;refine tp 13 ?_;refine tp 15 ?_;refine tp 16 ?_;refine rd 2 rfl (fun K hK=> ?_);go_simp;refine (Oh (uh Hv).rm (uh HF).rm (uh HF).pc).mono ?_;rintro e9 X1 ⟨u0,qs,rfl,hmap,hp,hb⟩;replace Hv:=Z9 ((uh Hv).below hb);replace kb:=bl kb hb;replace kr:=bl kr hb;replace BB:=bt BB hb;have Hmap:=Z9 hmap;have hql:qs.length=m.rm.length:=by rw [<-hmap,List.length_map]
 obtain ⟨b0,q0,hu0⟩:∃ b0 q0,u0= .slice b0 m.rm.length q0:=by
  obtain ⟨a9,c9,e9⟩:=hp.shape;exact ⟨a9,c9,by rw [e9,hql]⟩
 subst hu0;have N0:Hid (OwnHall (w.heap.size+2) X1 (.slice b0 m.rm.length q0) qs):=Z9 (hp.mono hz0);have L0:Hid (∀ b,((Value.slice b0 m.rm.length q0).ownBlock=some b\/ ∃ q ∈ qs,q.2.ownBlock=some b)->b<X1.heap.size):=Z9 (fun b e=>(hp.lt e).2);have hz1:w.heap.size+2<=X1.heap.size:=by have:=hb.size;omega
 clear hmap hql hp hb;refine hK.out _ _ (uh kb).c6 (fun hHeld=> ?_);clear hK K
 (try simp only [Act.put,sA,sZ,sS])
 refine rd 5 rfl (fun K hK=> ?_);go_simp;refine (PM (uh Hv).gd (uh HF).gd).mono ?_;rintro e9 X2 ⟨u1,rfl,hp,hb⟩;replace Hv:=Z9 ((uh Hv).below hb);replace kb:=bl kb hb;replace kr:=bl kr hb;replace BB:=bt BB hb;replace N0:=Z9 ((uh N0).later hb);obtain ⟨b1,q1,hu1⟩:=RecAt.shape hp;subst hu1;have N1:Hid (GuildsAt (w.heap.size+2) X2 (.slice b1 m.gd.length q1) m.gd):=Z9 (RecAt.mono hp (by omega));have L1:Hid (∀ b,(Value.slice b1 m.gd.length q1).ownBlock=some b->X1.heap.size<=b/\b<X2.heap.size):=Z9 (fun b e=>RecAt.lt hp e);have hsX2:=hb.size;clear hp hb;refine hK.out _ _ (uh kb).c6 (fun hHeld=> ?_);clear hK K
 (try simp only [Act.put,sA,sZ,sS])
 refine rd 7 rfl (fun K hK=> ?_);go_simp;refine ck (XM _ _ _ _ _ _ _ _ _ _ _ _ _ _ _ _ _) fun X3 hb=> ?_;replace Hv:=Z9 ((uh Hv).below hb);replace kb:=bl kb hb;replace kr:=bl kr hb;replace BB:=bt BB hb;replace N0:=Z9 ((uh N0).later hb);replace N1:=Z9 (RecAt.later (uh N1) hb);have hsX3:=hb.size;clear hb;refine hK.out _ _ (uh kb).c6 (fun hHeld=> ?_);clear hK K
 (try simp only [Act.put,sA,sZ,sS])
 refine rd 8 rfl (fun K hK=> ?_);go_simp;refine (VR (uh Hv).sm (YV (uh HF).sm (by omega))).mono ?_;rintro e9 X4 ⟨u2,rfl,hp,hb⟩;replace Hv:=Z9 ((uh Hv).below hb);replace kb:=bl kb hb;replace kr:=bl kr hb;replace BB:=bt BB hb;replace N0:=Z9 ((uh N0).later hb);replace N1:=Z9 (RecAt.later (uh N1) hb);obtain ⟨b2,q2,hu2⟩:=RecAt.shape hp;subst hu2;have N2:Hid (SmithsAt (w.heap.size+2) X4 (.slice b2 m.sm.length q2) m.sm):=Z9 (RecAt.mono hp (by omega));have L2:Hid (∀ b,(Value.slice b2 m.sm.length q2).ownBlock=some b->X3.heap.size<=b/\b<X4.heap.size):=Z9 (fun b e=>RecAt.lt hp e);have hsX4:=hb.size;clear hp hb;refine hK.out _ _ (uh kb).c6 (fun hHeld=> ?_);clear hK K
 (try simp only [Act.put,sA,sZ,sS])
 refine rd 10 rfl (fun K hK=> ?_);go_simp;refine ck (Qa _ _ _ _ _ _ _ _ _ _ _ _ _ _ _ _ _) fun X5 hb=> ?_;replace Hv:=Z9 ((uh Hv).below hb);replace kb:=bl kb hb;replace kr:=bl kr hb;replace BB:=bt BB hb;replace N0:=Z9 ((uh N0).later hb);replace N1:=Z9 (RecAt.later (uh N1) hb);replace N2:=Z9 (RecAt.later (uh N2) hb);have hsX5:=hb.size;clear hb;refine hK.out _ _ (uh kb).c6 (fun hHeld=> ?_);clear hK K
 (try simp only [Act.put,sA,sZ,sS])
 refine rd 11 rfl (fun K hK=> ?_);go_simp;refine (Og (uh Hv).dk (uh HF).dk).mono ?_;rintro e9 X6 ⟨u3,rfl,hp,hb⟩;replace Hv:=Z9 ((uh Hv).below hb);replace kb:=bl kb hb;replace kr:=bl kr hb;replace BB:=bt BB hb;replace N0:=Z9 ((uh N0).later hb);replace N1:=Z9 (RecAt.later (uh N1) hb);replace N2:=Z9 (RecAt.later (uh N2) hb);obtain ⟨b3,q3,hu3⟩:=RecAt.shape hp;subst hu3;have N3:Hid (DesksAt (w.heap.size+2) X6 (.slice b3 m.dk.length q3) m.dk):=Z9 (RecAt.mono hp (by omega));have L3:Hid (∀ b,(Value.slice b3 m.dk.length q3).ownBlock=some b->X5.heap.size<=b/\b<X6.heap.size):=Z9 (fun b e=>RecAt.lt hp e);have hsX6:=hb.size;clear hp hb;refine hK.out _ _ (uh kb).c6 (fun hHeld=> ?_);clear hK K
 (try simp only [Act.put,sA,sZ,sS])
 refine rd 14 rfl (fun K hK=> ?_);go_simp;refine (NB (uh Hv).pc (uh HF).nums).mono ?_;rintro e9 X7 ⟨u4,rfl,hp,hb⟩;replace Hv:=Z9 ((uh Hv).below hb);replace kb:=bl kb hb;replace kr:=bl kr hb;replace BB:=bt BB hb;replace N0:=Z9 ((uh N0).later hb);replace N1:=Z9 (RecAt.later (uh N1) hb);replace N2:=Z9 (RecAt.later (uh N2) hb);replace N3:=Z9 (RecAt.later (uh N3) hb);obtain ⟨b4,q4,hu4⟩:=RecAt.shape hp;subst hu4;have N4:Hid (NumsAt (w.heap.size+2) X7 (.slice b4 m.pc.length q4) m.pc):=Z9 (RecAt.mono hp (by omega));have L4:Hid (∀ b,(Value.slice b4 m.pc.length q4).ownBlock=some b->X6.heap.size<=b/\b<X7.heap.size):=Z9 (fun b e=>RecAt.lt hp e);have hsX7:=hb.size;clear hp hb;refine hK.out _ _ (uh kb).c6 (fun hHeld=> ?_);clear hK K
 (try simp only [Act.put,sA,sZ,sS])
 refine tp 17 ?_;obtain ⟨o0,o1,o2,o3,o4,o5⟩:=(uh kr).c6;obtain ⟨f0,f1,f2,f3,f4,f5⟩:=(uh kr).f6;refine wpAnyH_done (by kernel_rfl) ?_ _;refine YQ rfl rfl ?_;go_simp;clear hHeld;have HFull:Hid (FullSmy (w.heap.size+2) X7 (.slice b0 m.rm.length q0) (.slice b1 m.gd.length q1) (.slice b2 m.sm.length q2) (.slice b3 m.dk.length q3) (.slice b4 m.pc.length q4) m qs):=Z9 (Gs X1.heap.size X2.heap.size X4.heap.size X6.heap.size (uh N0) (uh Hmap) (uh N1) (uh N2) (uh N3) (uh N4) (uh L0) (uh L1) (fun b e=>by have:=uh L2 b e;omega) (fun b e=>by have:=uh L3 b e;omega) (fun b e=>(uh L4 b e).1) (by omega) (by omega) (by omega));go_wp2_with fail;refine Y7 (v:= .agg (S6 b0 q0 b1 q1 b2 q2 b3 q3 b4 q4 m)) (by simp [results,results79,go_sem, *]) rfl ⟨_,_,_,_,_,qs,rfl,?_,?_⟩
 ·refine FullSmy.mono (n₀:=w.heap.size+2) ?_ (by omega)
  iterate 6 (refine FullSmy.set ?_ _ _ _ (by omega))
  exact uh HFull
 ·iterate 6 (refine VZ ?_ (by show _<=w.heap.size+1;omega) _)
  exact uh BB
end Go.Proofs.YtgdpaigcmoifbaaGreatDoor
