/- Part 10 of what the proof rests on. No condition but those that a theorem names. -/
import Derived.Test.YtamgfpdahadnfaaGreatDoorXc09
import Derived.Laws.CopyRow
set_option maxHeartbeats 8000000
set_option maxRecDepth 100000
namespace Go.Proofs.YtamgfpdahadnfaaGreatDoor
open Go.ChangeShapes Go.WideShapes Go.ChangeAt Go.RowKit Go.Sort
set_option linter.unusedVariables false
set_option linter.unusedSimpArgs false
set_option maxRecDepth 100000
theorem CQ (a:Option Addr) (n cap k:Nat) (hn:n=k+1) (hc:n<=cap) (W:World):(Instr.slice 52 (.slice a n cap) (some (.int .i64 1)) (some (.int .i64 (n:Int))) (some (.int .i64 (n:Int)))).run Tryz.prog W= .ok (.slice (if k=0 then a else a.map (·.add 2)) k k) W:=by
 obtain ⟨i0,hi,hz0,hz1,hz2⟩:=info_parts Vp;have hs:∀ W,(sizeOf 91).run Tryz.prog W= .ok 2 W:=fun W=>by simp [sizeOf,typeInfo,hi,hz1]
 have hb:∀ W,(Instr.sliceBounds true n cap (some (.int .i64 1)) (some (.int .i64 (n:Int))) (some (.int .i64 (n:Int)))).run Tryz.prog W= .ok (1,n,n) W:=fun W=>by
  have h1:(0:Int)<=(n:Int)/\(n:Int)<=(cap:Int):=by omega
  have h2:(0:Int)<=(n:Int)/\(n:Int)<=(n:Int):=by omega
  have h3:(0:Int)<=1/\(1:Int)<=(n:Int):=by omega
  simp only [Instr.sliceBounds,Instr.sliceBound,asIntOf,Sem.run_bind,Sem.run_pure,Result.andThen_ok,if_pos h1,if_pos h2,if_pos h3,Zy];rfl
 simp only [Instr.slice,Sem.run_bind,run_underlying Tryz.underlying52,Result.andThen,hb,hs,Sem.run_pure];have e1:(n=1)=(k=0):=by apply propext;omega
 rw [show n-1=k by omega];simp only [e1,Nat.one_mul]
theorem IsPaces.behind {w:World} {a:Option Addr} {n cap:Nat} {e:Z4} {t:List Z4} (h:IsPaces w (.slice a n cap) (e::t)):IsPaces w (.slice (if t.length=0 then a else a.map (·.add 2)) t.length t.length) t:=by
 obtain ⟨a',cap',he,hc,hm,hr⟩:=h;cases he;rw [YQ] at hc;refine ⟨_,t.length,rfl,Z1 _,by omega,?_⟩;by_cases h0:t.length=0
 ·exact .inl (List.eq_nil_of_length_eq_zero h0)
 ·rcases hr with hr | ⟨b,off,rfl,hlt,hcl⟩
  ·cases hr
  ·rw [if_neg h0]
   refine .inr ⟨b,off+2,by simp [IZ],hlt,fun j hj=> ?_⟩;have:=hcl (j+1) (by simp;omega);rw [show off+(j+1)*2=off+2+j*2 by omega] at this;exact this
theorem Lr {w:World} {g base sc:Nat} {sp:Option Addr} {ps:List Z4} {xs:List Value} (ty:TypeId) (hd:w.ownsRow base 91 2 (.slice (some ⟨g,0,none⟩) ps.length ps.length) ps.length xs) (hs:IsPaces w (.slice sp ps.length sc) ps) :
  ∃ w',(Builtin.copy_ #[52,52] ty #[.slice (some ⟨g,0,none⟩) ps.length ps.length,.slice sp ps.length sc]).run Tryz.prog w= .ok (goInt ps.length) w'/\EntsAt base w' (.slice (some ⟨g,0,none⟩) ps.length ps.length) ps/\Below base w w':=by
 obtain ⟨i0,hi,hz0,hz1,hz2⟩:=info_parts Vp
 rcases hd.2 with ⟨he,_⟩ | ⟨g',cap,cur,he,hb,hg,hnc,hcm,hsz,htk⟩
 ·cases he
 cases he;have hpl:=SO ps;obtain ⟨a',cap',he,hc,hm,hr⟩:=hs;cases he
 have hload:(Builtin.firstCells 2 ps.length (.slice sp ps.length sc)).run Tryz.prog w= .ok (YW ps).toArray w:=by
  rcases hr with hr | ⟨b,off,rfl,hlt,hcl⟩
  ·subst hr
   cases sp with
   | none=>rfl
   | some ad=>
    have:=run_loadCells_list (P:=Tryz.prog) w ad (YW []) (fun j v h=>by simp [YW] at h);exact this
  ·have:=run_loadCells_list (P:=Tryz.prog) w ⟨b,off,none⟩ (YW ps) (fun j v h=>by
    have hj:j<ps.length*2:=by
     have:=(List.getElem?_eq_some_iff.1 h).1;omega
    have hp:=Uz (f:=fun p:Z4=>Value.int .i64 p.1) (g:=fun p:Z4=>Value.int .i64 p.2) ps (j / 2) (by omega);have hat:Z7 ps (j / 2)=ps[j / 2]'(by omega):=by unfold Z7;simp [List.getD,(by omega:j / 2<ps.length)]
    obtain ⟨c0,c1⟩:=hcl (j / 2) (by omega);rw [hat] at c0 c1;have ha:(⟨b,off,none⟩:Addr).add j=⟨b,off+j,none⟩:=by unfold Addr.add;split<;>simp_all
    rw [ha]
    rcases Nat.mod_two_eq_zero_or_one j with e2 | e2
    ·have ej:j=j / 2*2:=by omega
     have h9:(YW ps)[j / 2*2]?=some (.int .i64 (ps[j / 2]'(by omega)).1):=hp.1;rw [<-ej,h] at h9;cases h9;rw [show off+j=off+j / 2*2 by omega];exact c0
    ·have ej:j=j / 2*2+1:=by omega
     have h9:(YW ps)[j / 2*2+1]?=some (.int .i64 (ps[j / 2]'(by omega)).2):=hp.2;rw [<-ej,h] at h9;cases h9;rw [show off+j=off+j / 2*2+1 by omega]
     exact c1)
   rw [hpl] at this;exact this
 have hst:=run_storeCells_at Tryz.prog g 0 91 (YW ps) 0 cur w hg (by rw [hpl,hsz];omega) (fun v hv=>by
  unfold YW at hv;obtain ⟨p,_,hp⟩:=List.mem_flatMap.1 hv;simp only [List.mem_cons,List.not_mem_nil,or_false] at hp
  rcases hp with rfl | rfl<;>rfl)
 have hdrop:cur.toList.drop (YW ps).length=[]:=by
  rw [List.drop_eq_nil_iff,Array.length_toList,hsz,hpl];exact Z1 _
 simp only [Nat.zero_add,List.take_zero,List.nil_append,hdrop,List.append_nil] at hst;refine ⟨w.setRow g (YW ps).toArray,?_,⟨hpl,.inr ⟨g,ps.length,(YW ps).toArray,rfl,hb,setRow_heap w g _ _ _ _ hg,Z1 _,hcm,by simp [hpl],?_⟩⟩,?_⟩
 ·have hsz2:(sizeOf 91).run Tryz.prog w= .ok 2 w:=by simp [sizeOf,typeInfo,hi,hz1]
  have hlen:(Builtin.lenOf (.slice sp ps.length sc)).run Tryz.prog w= .ok ps.length w:=rfl;have hmin:Nat.min ps.length ps.length=ps.length:=Nat.min_self _;unfold Builtin.copy_;simp only [Sem.run_bind,run_underlying Tryz.underlying52,Result.andThen_ok,hlen,hmin,hsz2,hload,List.getElem?_toArray,List.getElem?_cons_zero,List.getElem?_cons_succ,Sem.run_pure,hst]
 ·rw [List.take_of_length_le (by simp [hpl])]
 ·exact ⟨rfl,rfl,rfl,by simp [World.setRow],fun k hk=>setRow_other w g k _ (by omega)⟩
theorem LA {w:World} {v:Value} {e:Z4} {t:List Z4} (h:IsPaces w v (e::t)) (hl:t.length<=1000):Calls Tryz.prog 216 #[v] w fun e w'=> ∃ v',e= .returned v'/\EntsAt w.heap.size w' v' t/\Below w.heap.size w w':=by
 have Hv:=Z9 h;obtain ⟨a,cap,rfl,hc,hm,hr⟩:=h;obtain ⟨n,hn⟩:∃ n,n=t.length+1:=⟨_,rfl⟩
 rw [show (e::t).length=n by rw [hn];rfl] at Hv hc ⊢;have hcut:=fun W=>CQ a n cap t.length hn hc W;have HB:=Z9 (uh Hv).behind;obtain ⟨sp,hsp⟩:∃ q,(if t.length=0 then a else a.map (·.add 2))=q:=⟨_,rfl⟩
 rw [hsp] at HB;simp only [hsp] at hcut;have hn1:n<=1001:=by omega
 clear hr hn hsp;obtain ⟨i0,hi,hz0,hz1,hz2⟩:=info_parts Vp;go_enter Tryz.func216,Tryz.ntmps216;go_upto_region 3 with (at_make;refine wpList_make_full _ rfl _ _ 52 rfl w.heap.size 91 i0 (.agg #[.int .i64 0,.int .i64 0]) 2 Tryz.underlying52 hi hz0 hz1 _ _ _ _ t.length rfl rfl rfl rfl (by rw [hz2];omega) (by unfold maxLen;omega) (Z1 _) ?_;intro w0 hown hgrow;have HBB:Hid (Below w.heap.size w w0):=Z9 ((ZZ _ _).grown hgrow (Z1 _) (fun k e=>by cases e));obtain ⟨w9,hrun,he9,hb9⟩:=Lr 3 hown ((uh HB).below (uh HBB));have HR:=Z9 hrun;have HE:=Z9 he9;have HB9:=Z9 hb9;clear hown hgrow hrun he9 hb9)
 have hr9:=uh HR;go_wp2_with fail;go_ret;exact ⟨_,rfl,uh HE,(uh HBB).trans (uh HB9)⟩
theorem NN {w:World} {v:Value} {ps:List Zr} (h:XD w v ps) (hl:ps.length<=1000):Calls Tryz.prog 158 #[v] w fun e w'=> ∃ v',e= .returned v'/\GuildsAt w.heap.size w' v' ps/\Below w.heap.size w w':=by
 have HR:=Z9 (h.below ((ZZ _ _).alloc (Z1 _) (.cells #[] 75)));obtain ⟨a,cap,rfl,hc,hm,hr⟩:=h;clear hr;go_enter Tryz.func158,Tryz.ntmps158;go_wp2_with (at_builtin;refine ZI tyG rfl (.tmp 3) (.tmp 4) 154 Tryz.underlying154 rfl w.heap.size _ _ [] ps rfl rfl (Y8 rfl (Z1 _)) (uh HR) (by simp;omega) (by simp) ?_;intro u9 w9 hp9 hg9 hat9;rw [List.nil_append] at hp9;have HP9:=Z9 hp9;have HG9:=Z9 hg9;clear hp9 hg9 hat9)
 have hb9:Below w.heap.size w w9:=((ba _ _)).trans ((ZZ _ _).grown (uh HG9) (by simp) (fun i e=>by cases e;exact Z1 _));go_wp2_with fail;go_ret;exact ⟨_,rfl,uh HP9,hb9⟩
theorem UW {w:World} {v:Value} {ps:List Z3} (h:Vy w v ps) (hl:ps.length<=1000):Calls Tryz.prog 159 #[v] w fun e w'=> ∃ v',e= .returned v'/\SmithsAt w.heap.size w' v' ps/\Below w.heap.size w w':=by
 have HR:=Z9 (h.below ((ZZ _ _).alloc (Z1 _) (.cells #[] 40)));obtain ⟨a,cap,rfl,hc,hm,hr⟩:=h;clear hr;go_enter Tryz.func159,Tryz.ntmps159;go_wp2_with (at_builtin;refine ZI tyS rfl (.tmp 3) (.tmp 4) 118 Tryz.underlying118 rfl w.heap.size _ _ [] ps rfl rfl (Y8 rfl (Z1 _)) (uh HR) (by simp;omega) (by simp) ?_;intro u9 w9 hp9 hg9 hat9;rw [List.nil_append] at hp9;have HP9:=Z9 hp9;have HG9:=Z9 hg9;clear hp9 hg9 hat9)
 have hb9:Below w.heap.size w w9:=((ba _ _)).trans ((ZZ _ _).grown (uh HG9) (by simp) (fun i e=>by cases e;exact Z1 _));go_wp2_with fail;go_ret;exact ⟨_,rfl,uh HP9,hb9⟩
theorem LV {w:World} {v:Value} {ps:List XN} (h:UC w v ps) (hl:ps.length<=1000):Calls Tryz.prog 160 #[v] w fun e w'=> ∃ v',e= .returned v'/\DesksAt w.heap.size w' v' ps/\Below w.heap.size w w':=by
 have HR:=Z9 (h.below ((ZZ _ _).alloc (Z1 _) (.cells #[] 43)));obtain ⟨a,cap,rfl,hc,hm,hr⟩:=h;clear hr;go_enter Tryz.func160,Tryz.ntmps160;go_wp2_with (at_builtin;refine ZI tyD rfl (.tmp 3) (.tmp 4) 131 Tryz.underlying131 rfl w.heap.size _ _ [] ps rfl rfl (Y8 rfl (Z1 _)) (uh HR) (by simp;omega) (by simp) ?_;intro u9 w9 hp9 hg9 hat9;rw [List.nil_append] at hp9;have HP9:=Z9 hp9;have HG9:=Z9 hg9;clear hp9 hg9 hat9)
 have hb9:Below w.heap.size w w9:=((ba _ _)).trans ((ZZ _ _).grown (uh HG9) (by simp) (fun i e=>by cases e;exact Z1 _));go_wp2_with fail;go_ret;exact ⟨_,rfl,uh HP9,hb9⟩
theorem Lc {w:World} {v:Value} {ps:List Int} (h:OJ w v ps) (hl:ps.length<=1000):Calls Tryz.prog 161 #[v] w fun e w'=> ∃ v',e= .returned v'/\NumsAt w.heap.size w' v' ps/\Below w.heap.size w w':=by
 have HR:=Z9 (h.below ((ZZ _ _).alloc (Z1 _) (.cells #[] 2)));obtain ⟨a,cap,rfl,hc,hm,hr⟩:=h;clear hr;go_enter Tryz.func161,Tryz.ntmps161;go_wp2_with (at_builtin;refine ZI tyN rfl (.tmp 3) (.tmp 4) 130 Tryz.underlying130 rfl w.heap.size _ _ [] ps rfl rfl (Y8 rfl (Z1 _)) (uh HR) (by simp;omega) (by simp) ?_;intro u9 w9 hp9 hg9 hat9;rw [List.nil_append] at hp9;have HP9:=Z9 hp9;have HG9:=Z9 hg9;clear hp9 hg9 hat9)
 have hb9:Below w.heap.size w w9:=((ba _ _)).trans ((ZZ _ _).grown (uh HG9) (by simp) (fun i e=>by cases e;exact Z1 _));go_wp2_with fail;go_ret;exact ⟨_,rfl,uh HP9,hb9⟩
theorem Xm {w:World} {v0 v1 v2 v3 v4:Value} {m:Z6} (h:Smy w v0 v1 v2 v3 v4 m) (hF:Few m) :
  Calls Tryz.prog 94 #[.agg #[v0,v1,v2,v3,v4,.int .i64 m.now]] w fun e w'=> ∃ u0 u1 u2 u3 u4 qs,e= .returned (.agg #[u0,u1,u2,u3,u4,.int .i64 m.now])/\FullSmy w.heap.size w' u0 u1 u2 u3 u4 m qs/\Below w.heap.size w w':=by
 have Hv0:=Z9 h;have HF:=Z9 hF;obtain ⟨a0,p0,a1,p1,a2,p2,a3,p3,a4,p4,rfl,rfl,rfl,rfl,rfl,_,_,_,_,_,_,_,_,_,_⟩:=h.five;clear h hF;go_enter Tryz.func94,Tryz.ntmps94;go_wp2_with fail;obtain ⟨W,hW,kb,kr,BB⟩:=YD w 32 (S6 a0 p0 a1 p1 a2 p2 a3 p3 a4 p4 m) 32 E6;rw [hW];clear hW;obtain ⟨c0,c1,c2,c3,c4,c5⟩:=(uh kb).c6;refine ZL (S:=fun w'=>w'.cell? ⟨w.heap.size,0,none⟩=some (.slice a0 m.rm.length p0)/\w'.cell? ⟨w.heap.size,1,none⟩=some (.slice a1 m.gd.length p1)/\w'.cell? ⟨w.heap.size,2,none⟩=some (.slice a2 m.sm.length p2)/\w'.cell? ⟨w.heap.size,3,none⟩=some (.slice a3 m.dk.length p3)/\w'.cell? ⟨w.heap.size,4,none⟩=some (.slice a4 m.pc.length p4)/\w'.cell? ⟨w.heap.size,5,none⟩=some (.int .i64 m.now)) (by kernel_rfl) (WU _ _) (by kernel_rfl) ⟨c0,c1,c2,c3,c4,c5⟩ (fun hHeld=> ?_);replace kb:=Z9 ((uh kb).below (ZZ _ _).drew (uh kb).lt);replace kr:=Z9 ((uh kr).below (ZZ _ _).drew (uh kr).lt);replace BB:=Z9 ((uh BB).drew);have Hv:=Z9 ((uh Hv0).below (uh BB));clear c0 c1 c2 c3 c4 c5;simp only [WV,WW,YQ,YC,Nat.zero_add,Nat.reduceAdd];generalize W.drew=X0 at *;have hz0:w.heap.size+2<=X0.heap.size:=by have:=(uh kr).lt;omega
 iterate 2 refine tz ?_
 refine tp 3 ?_;refine tp 4 ?_;refine tp 6 ?_;refine tp 9 ?_;refine tp 12 ?_;refine tp 13 ?_;refine tp 15 ?_;refine tp 16 ?_;refine rd 2 rfl (fun K hK=> ?_);go_simp;refine (LW (uh Hv).rm (uh HF).rm (uh HF).pc).mono ?_;rintro e9 X1 ⟨u0,qs,rfl,hmap,hp,hb⟩;replace Hv:=Z9 ((uh Hv).below hb);replace kb:=bl kb hb;replace kr:=bl kr hb;replace BB:=bt BB hb;have Hmap:=Z9 hmap;have hql:qs.length=m.rm.length:=by rw [<-hmap,List.length_map]
 obtain ⟨b0,q0,hu0⟩:∃ b0 q0,u0= .slice b0 m.rm.length q0:=by
  obtain ⟨a9,c9,e9⟩:=hp.shape;exact ⟨a9,c9,by rw [e9,hql]⟩
 subst hu0;have N0:Hid (OwnHall (w.heap.size+2) X1 (.slice b0 m.rm.length q0) qs):=Z9 (hp.mono hz0);have L0:Hid (∀ b,((Value.slice b0 m.rm.length q0).ownBlock=some b\/ ∃ q ∈ qs,q.2.ownBlock=some b)->b<X1.heap.size):=Z9 (fun b e=>(hp.lt e).2);have hz1:w.heap.size+2<=X1.heap.size:=by have:=hb.size;omega
 clear hmap hql hp hb;refine hK.out _ _ (uh kb).c6 (fun hHeld=> ?_);clear hK K
 (try simp only [Act.put,sA,sZ,sS])
 refine rd 5 rfl (fun K hK=> ?_);go_simp;refine (NN (uh Hv).gd (uh HF).gd).mono ?_;rintro e9 X2 ⟨u1,rfl,hp,hb⟩;replace Hv:=Z9 ((uh Hv).below hb);replace kb:=bl kb hb;replace kr:=bl kr hb;replace BB:=bt BB hb;replace N0:=Z9 ((uh N0).later hb);obtain ⟨b1,q1,hu1⟩:=RecAt.shape hp;subst hu1;have N1:Hid (GuildsAt (w.heap.size+2) X2 (.slice b1 m.gd.length q1) m.gd):=Z9 (RecAt.mono hp (by omega));have L1:Hid (∀ b,(Value.slice b1 m.gd.length q1).ownBlock=some b->X1.heap.size<=b/\b<X2.heap.size):=Z9 (fun b e=>RecAt.lt hp e);have hsX2:=hb.size;clear hp hb;refine hK.out _ _ (uh kb).c6 (fun hHeld=> ?_);clear hK K
 (try simp only [Act.put,sA,sZ,sS])
 refine rd 7 rfl (fun K hK=> ?_);go_simp;refine ck (WS _ _ _ _ _ _ _ _ _ _ _ _ _ _ _ _ _) fun X3 hb=> ?_;replace Hv:=Z9 ((uh Hv).below hb);replace kb:=bl kb hb;replace kr:=bl kr hb;replace BB:=bt BB hb;replace N0:=Z9 ((uh N0).later hb);replace N1:=Z9 (RecAt.later (uh N1) hb);have hsX3:=hb.size;clear hb;refine hK.out _ _ (uh kb).c6 (fun hHeld=> ?_);clear hK K
 (try simp only [Act.put,sA,sZ,sS])
 refine rd 8 rfl (fun K hK=> ?_);go_simp;refine (UW (uh Hv).sm (XO (uh HF).sm (by omega))).mono ?_;rintro e9 X4 ⟨u2,rfl,hp,hb⟩;replace Hv:=Z9 ((uh Hv).below hb);replace kb:=bl kb hb;replace kr:=bl kr hb;replace BB:=bt BB hb;replace N0:=Z9 ((uh N0).later hb);replace N1:=Z9 (RecAt.later (uh N1) hb);obtain ⟨b2,q2,hu2⟩:=RecAt.shape hp;subst hu2;have N2:Hid (SmithsAt (w.heap.size+2) X4 (.slice b2 m.sm.length q2) m.sm):=Z9 (RecAt.mono hp (by omega));have L2:Hid (∀ b,(Value.slice b2 m.sm.length q2).ownBlock=some b->X3.heap.size<=b/\b<X4.heap.size):=Z9 (fun b e=>RecAt.lt hp e);have hsX4:=hb.size;clear hp hb;refine hK.out _ _ (uh kb).c6 (fun hHeld=> ?_);clear hK K
 (try simp only [Act.put,sA,sZ,sS])
 refine rd 10 rfl (fun K hK=> ?_);go_simp;refine ck (Oe _ _ _ _ _ _ _ _ _ _ _ _ _ _ _ _ _) fun X5 hb=> ?_;replace Hv:=Z9 ((uh Hv).below hb);replace kb:=bl kb hb;replace kr:=bl kr hb;replace BB:=bt BB hb;replace N0:=Z9 ((uh N0).later hb);replace N1:=Z9 (RecAt.later (uh N1) hb);replace N2:=Z9 (RecAt.later (uh N2) hb);have hsX5:=hb.size;clear hb;refine hK.out _ _ (uh kb).c6 (fun hHeld=> ?_);clear hK K
 (try simp only [Act.put,sA,sZ,sS])
 refine rd 11 rfl (fun K hK=> ?_);go_simp;refine (LV (uh Hv).dk (uh HF).dk).mono ?_;rintro e9 X6 ⟨u3,rfl,hp,hb⟩;replace Hv:=Z9 ((uh Hv).below hb);replace kb:=bl kb hb;replace kr:=bl kr hb;replace BB:=bt BB hb;replace N0:=Z9 ((uh N0).later hb);replace N1:=Z9 (RecAt.later (uh N1) hb);replace N2:=Z9 (RecAt.later (uh N2) hb);obtain ⟨b3,q3,hu3⟩:=RecAt.shape hp;subst hu3;have N3:Hid (DesksAt (w.heap.size+2) X6 (.slice b3 m.dk.length q3) m.dk):=Z9 (RecAt.mono hp (by omega));have L3:Hid (∀ b,(Value.slice b3 m.dk.length q3).ownBlock=some b->X5.heap.size<=b/\b<X6.heap.size):=Z9 (fun b e=>RecAt.lt hp e);have hsX6:=hb.size;clear hp hb;refine hK.out _ _ (uh kb).c6 (fun hHeld=> ?_);clear hK K
 (try simp only [Act.put,sA,sZ,sS])
 refine rd 14 rfl (fun K hK=> ?_);go_simp;refine (Lc (uh Hv).pc (uh HF).nums).mono ?_;rintro e9 X7 ⟨u4,rfl,hp,hb⟩;replace Hv:=Z9 ((uh Hv).below hb);replace kb:=bl kb hb;replace kr:=bl kr hb;replace BB:=bt BB hb;replace N0:=Z9 ((uh N0).later hb);replace N1:=Z9 (RecAt.later (uh N1) hb);replace N2:=Z9 (RecAt.later (uh N2) hb);replace N3:=Z9 (RecAt.later (uh N3) hb);obtain ⟨b4,q4,hu4⟩:=RecAt.shape hp;subst hu4;have N4:Hid (NumsAt (w.heap.size+2) X7 (.slice b4 m.pc.length q4) m.pc):=Z9 (RecAt.mono hp (by omega));have L4:Hid (∀ b,(Value.slice b4 m.pc.length q4).ownBlock=some b->X6.heap.size<=b/\b<X7.heap.size):=Z9 (fun b e=>RecAt.lt hp e);have hsX7:=hb.size;clear hp hb;refine hK.out _ _ (uh kb).c6 (fun hHeld=> ?_);clear hK K
 (try simp only [Act.put,sA,sZ,sS])
 refine tp 17 ?_;obtain ⟨o0,o1,o2,o3,o4,o5⟩:=(uh kr).c6;obtain ⟨f0,f1,f2,f3,f4,f5⟩:=(uh kr).f6;refine wpAnyH_done (by kernel_rfl) ?_ _;refine ZD rfl rfl ?_;go_simp;clear hHeld;have HFull:Hid (FullSmy (w.heap.size+2) X7 (.slice b0 m.rm.length q0) (.slice b1 m.gd.length q1) (.slice b2 m.sm.length q2) (.slice b3 m.dk.length q3) (.slice b4 m.pc.length q4) m qs):=Z9 (Dm X1.heap.size X2.heap.size X4.heap.size X6.heap.size (uh N0) (uh Hmap) (uh N1) (uh N2) (uh N3) (uh N4) (uh L0) (uh L1) (fun b e=>by have:=uh L2 b e;omega) (fun b e=>by have:=uh L3 b e;omega) (fun b e=>(uh L4 b e).1) (by omega) (by omega) (by omega));go_wp2_with fail;refine ZS (v:= .agg (S6 b0 q0 b1 q1 b2 q2 b3 q3 b4 q4 m)) (by simp [results,Tryz.results94,go_sem, *]) rfl ⟨_,_,_,_,_,qs,rfl,?_,?_⟩
 ·refine FullSmy.mono (n₀:=w.heap.size+2) ?_ (by omega)
  iterate 6 (refine FullSmy.set ?_ _ _ _ (by omega))
  exact uh HFull
 ·iterate 6 (refine YO ?_ (by show _<=w.heap.size+1;omega) _)
  exact uh BB
theorem It {ss:List Z3} {k:Nat} (hk:k<ss.length):ss.set k (Z8 ss k)=ss:=by
 refine Il (by simp) fun i hi=> ?_;rw [ZF hk]
 split
 ·rename_i e;rw [e]
 ·rfl
theorem SmithsAt.put {B n c g k i:Nat} {W:World} {ss:List Z3} {x:Z3} (h:SmithsAt B W (.slice (some ⟨g,0,none⟩) n c) (ss.set k x)) (hn:n=ss.length) (hk:k<ss.length) (hi:i<11) (u:Value) (y:Z3) (hy:ZU y=(ZU x).set i u):SmithsAt B (W.setCell ⟨g,k*11+i,none⟩ u) (.slice (some ⟨g,0,none⟩) n c) (ss.set k y):=by
 have h1:=(RecAt.put1 ZT (by omega) h (by simpa using hn) (j:=k) (i:=i) (by simpa using hk) hi u y (by rw [ZF hk,if_pos rfl];exact hy)).1
 rwa [List.set_set] at h1
theorem Smy.other {w W:World} {v0 v1 v2 v3 v4 u:Value} {m:Z6} {B:Nat} {ss:List Z3} (h:Smy w v0 v1 v2 v3 v4 m) (hb:Below w.heap.size w W) (hs:SmithsAt B W u ss):Smy W v0 v1 u v3 v4 { m with sm:=ss }:=⟨h.rm.below hb,h.gd.below hb,hs.list,h.dk.below hb,h.pc.below hb⟩
theorem Below.put6 {n:Nat} {w W:World} {R:Nat} (v0 v1 v2 v3 v4 v5:Value) (h:Below n w W) (hR:n<=R):Below n w ((((((W.setCell ⟨R,0,none⟩ v0).setCell ⟨R,1,none⟩ v1).setCell ⟨R,2,none⟩ v2).setCell ⟨R,3,none⟩ v3).setCell ⟨R,4,none⟩ v4).setCell ⟨R,5,none⟩ v5):=by
 iterate 6 (refine YO ?_ hR _)
 exact h
theorem RecAt.off6 {α:Type} [Inhabited α] {t k B:Nat} {enc:α->List Value} {W:World} {R:Nat} {v:Value} {xs:List α} (v0 v1 v2 v3 v4 v5:Value) (h:RecAt t k enc B W v xs) (hR:∀ i,v.ownBlock=some i->i ≠ R):RecAt t k enc B ((((((W.setCell ⟨R,0,none⟩ v0).setCell ⟨R,1,none⟩ v1).setCell ⟨R,2,none⟩ v2).setCell ⟨R,3,none⟩ v3).setCell ⟨R,4,none⟩ v4).setCell ⟨R,5,none⟩ v5) v xs:=
 RecAt.same h fun i hi=>by rw [heap_setCell_other _ _ _ _ (hR i hi),heap_setCell_other _ _ _ _ (hR i hi),heap_setCell_other _ _ _ _ (hR i hi),heap_setCell_other _ _ _ _ (hR i hi),heap_setCell_other _ _ _ _ (hR i hi),heap_setCell_other _ _ _ _ (hR i hi)]
set_option maxRecDepth 100000
theorem LC {w:World} {a0 a1 a2 a3 a4:Option Addr} {p0 p1 p2 p3 p4:Nat} {m:Z6} {k:Nat} (b:Int) (h:Smy w (.slice a0 m.rm.length p0) (.slice a1 m.gd.length p1) (.slice a2 m.sm.length p2) (.slice a3 m.dk.length p3) (.slice a4 m.pc.length p4) m) (hl:m.sm.length<=1000) (hk:k<m.sm.length):Calls Tryz.prog 272 #[.agg (S6 a0 p0 a1 p1 a2 p2 a3 p3 a4 p4 m),.int .i64 (k:Int),.int .i64 b] w fun e w'=> ∃ g gc,e= .returned (.agg (S6 a0 p0 a1 p1 (some ⟨g,0,none⟩) gc a3 p3 a4 p4 m))/\Smy w' (.slice a0 m.rm.length p0) (.slice a1 m.gd.length p1) (.slice (some ⟨g,0,none⟩) m.sm.length gc) (.slice a3 m.dk.length p3) (.slice a4 m.pc.length p4) (Wv m (k:Int) b)/\Below w.heap.size w w':=by
 have Hv0:=Z9 h;have hk1:(k:Int)<(m.sm.length:Int):=by omega
 clear h;go_enter Tryz.func272,Tryz.ntmps272;go_upto_region 1 with fail;obtain ⟨W,hW,kb,kr,BB⟩:=YD w 32 (S6 a0 p0 a1 p1 a2 p2 a3 p3 a4 p4 m) 32 E6;have Hv:=Z9 ((uh Hv0).below (uh BB));rw [hW];clear hW;obtain ⟨c0,c1,c2,c3,c4,c5⟩:=(uh kb).c6;go_wp2_with fail;refine ck (WS _ _ _ _ _ _ _ _ _ _ _ _ _ _ _ _ _) fun w1 hb=> ?_;replace kb:=bl kb hb;replace kr:=bl kr hb;replace Hv:=Z9 ((uh Hv).below hb);replace BB:=bt BB hb;clear hb c0 c1 c2 c3 c4 c5;go_wp2_with fail;refine (UW (uh Hv).sm hl).mono ?_;rintro e w2 ⟨v2,rfl,hs,hb⟩;have hlb:=(uh kb).lt;have hlr:=(uh kr).lt;have hlo:=(uh BB).size;replace kb:=bl kb hb;replace kr:=bl kr hb;replace BB:=bt BB hb;clear hb Hv;obtain ⟨ga,gc,rfl⟩:=RecAt.shape hs;obtain ⟨g,rfl,hg1,hg2,hcl,hfr⟩:=RecAt.view ZT (by omega) hs rfl (by omega);have hgb:g ≠ w.heap.size:=by omega
 have hgr:g ≠ w.heap.size+1:=by omega
 have hbg:w.heap.size ≠ g:=by omega
 have hrg:w.heap.size+1 ≠ g:=by omega
 have hwg:w.heap.size<=g:=by omega
 have HS:Hid (SmithsAt (w.heap.size+1) w2 (.slice (some ⟨g,0,none⟩) m.sm.length gc) (m.sm.set k (Z8 m.sm k))):=Z9 (by rw [It hk];exact RecAt.mono hs (by omega));have s0:=hcl k hk 0 _ rfl;have s1:=hcl k hk 1 _ rfl;have f0:=hfr (k*11);have f1:=hfr (k*11+1);simp only [Nat.add_zero] at s0;clear hcl hfr hs hg1;obtain ⟨c0,c1,c2,c3,c4,c5⟩:=(uh kb).c6;obtain ⟨q0,q1,q2,q3,q4,q5⟩:=(uh kb).f6;obtain ⟨o0,o1,o2,o3,o4,o5⟩:=(uh kr).c6;obtain ⟨t0,t1,t2,t3,t4,t5⟩:=(uh kr).f6;go_wp2_with fail;refine ZS (v:= .agg (S6 a0 p0 a1 p1 (some ⟨g,0,none⟩) gc a3 p3 a4 p4 m)) (by simp [results,Tryz.results272,go_sem, *]) rfl ⟨g,gc,rfl,?_,?_⟩
 ·have h1:SmithsAt (w.heap.size+1) (w2.setCell ⟨w.heap.size,2,none⟩ (.slice (some ⟨g,0,none⟩) m.sm.length gc)) (.slice (some ⟨g,0,none⟩) m.sm.length gc) (m.sm.set k (Z8 m.sm k)):=RecAt.same (uh HS) (fun i e=>by cases e;exact heap_setCell_other _ _ _ _ hgb)
  have h2:=h1.put rfl hk (i:=0) (by omega) (.int .i64 2) (2,(Z8 m.sm k).2) rfl;have h3:=h2.put rfl hk (i:=1) (by omega) (.int .i64 b) (2,b,(Z8 m.sm k).2.2) rfl;exact (uh Hv0).other (Below.put6 _ _ _ _ _ _ ((((uh BB).setCell (Z1 _) _).setCell (by show w.heap.size<=g;omega) _).setCell (by show w.heap.size<=g;omega) _) (Nat.le_succ _)) (RecAt.off6 (.slice a0 m.rm.length p0) (.slice a1 m.gd.length p1) (.slice (some ⟨g,0,none⟩) m.sm.length gc) (.slice a3 m.dk.length p3) (.slice a4 m.pc.length p4) (.int .i64 m.now) h3 (fun i e=>by cases e;exact hgr))
 ·exact Below.put6 _ _ _ _ _ _ ((((uh BB).setCell (Z1 _) _).setCell (by show w.heap.size<=g;omega) _).setCell (by show w.heap.size<=g;omega) _) (Nat.le_succ _)
theorem Ec {w:World} {v0 v1 v2 v3 v4:Value} {m:Z6} {k:Nat} {b q:Int} (hq2:Za m (k:Int) b=q) (h:Smy w v0 v1 v2 v3 v4 m) (hS:Sane m) (hT:Wants m) (hk:k<m.sm.length) (hs:(Z8 m.sm k).1 ≠ 0):Calls Tryz.prog 242 #[.agg #[v0,v1,v2,v3,v4,.int .i64 m.now],.int .i64 (k:Int),.int .i64 b] w fun e w'=>e= .returned (.int .i64 q)/\Below w.heap.size w w':=by
 replace hq2:PA (Wv m (k:Int) b)=q:=hq2;have HS:=Z9 (hS.with hk hs b);have HT:=Z9 (hT.with hk hs b);have hl:=hS.few;clear hS hT;obtain ⟨a0,p0,a1,p1,a2,p2,a3,p3,a4,p4,rfl,rfl,rfl,rfl,rfl,K⟩:=Bx.new h;clear h;go_enter Tryz.func242,Tryz.ntmps242;go_wp2_with fail;generalize w.alloc (.cells (S6 a0 p0 a1 p1 a2 p2 a3 p3 a4 p4 m) 32)=W at *;have HR:Hid (∀ {X:World} {R:Nat} {c0:Option Addr} {g gc r0:Nat} {W:World},Bx X W R a0 p0 a1 p1 (some ⟨g,0,none⟩) gc a3 p3 a4 p4 (Wv m (k:Int) b)->Calls Tryz.prog 270 #[.slice c0 m.rm.length r0,.func (Fn.func 294) #[] #[.pointer (some ⟨R,0,none⟩)]] W fun e w'=>e= .returned (.int .i64 q)/\Below W.heap.size W w'):=Z9 (fun hK=>by rw [<-hq2];exact JS hK (uh HS) (uh HT))
 have HC:Hid (∀ (g gc:Nat) (W:World),Smy W (.slice a0 m.rm.length p0) (.slice a1 m.gd.length p1) (.slice (some ⟨g,0,none⟩) m.sm.length gc) (.slice a3 m.dk.length p3) (.slice a4 m.pc.length p4) (Wv m (k:Int) b)->Calls Tryz.prog 271 #[.agg (S6 a0 p0 a1 p1 (some ⟨g,0,none⟩) gc a3 p3 a4 p4 m)] W fun e w'=>e= .returned (.func (Fn.func 294) #[] #[.pointer (some ⟨W.heap.size,0,none⟩)])/\Bx W w' W.heap.size a0 p0 a1 p1 (some ⟨g,0,none⟩) gc a3 p3 a4 p4 (Wv m (k:Int) b)):=Z9 (fun g gc W hs=>by
  have hwl:(Wv m (k:Int) b).sm.length=m.sm.length:=by unfold Wv;simp
  have h9:=Ge (w:=W) (m:=Wv m (k:Int) b) (a0:=a0) (a1:=a1) (a2:=some ⟨g,0,none⟩) (a3:=a3) (a4:=a4) (p0:=p0) (p1:=p1) (p2:=gc) (p3:=p3) (p4:=p4) (by rw [hwl];exact hs);unfold S6 at h9;rw [hwl] at h9
  exact h9)
 clear HS HT hq2;have KD:=K.drew;obtain ⟨c0,c1,c2,c3,c4,c5⟩:=K.cells;go_wp2_with fail
 go_region_with (first
  | (go_at_call 272;refine (LC b KD.smy (by omega) hk).mono ?_;rintro e w3 ⟨g,gc,rfl,hsm,hb3⟩;have K3:=KD.next hb3;have z0:=K3.blk.cell (i:=0) (v:= .slice a0 m.rm.length p0) rfl;have HS3:=Z9 hsm;clear hsm hb3)
  | (go_at_call 271;refine (uh HC _ _ _ (uh HS3)).mono ?_;rintro e w4 ⟨rfl,KX⟩;have K4:=K3.next KX.bb;have y0:=K4.blk.cell (i:=0) (v:= .slice a0 m.rm.length p0) rfl)
  | (go_at_call 270;refine (uh HR KX).mono ?_;rintro e w5 ⟨rfl,hb5⟩;have K5:=K4.next hb5;clear hb5))
 all_goals
  go_wp2_with fail;go_ret;exact ⟨rfl,K5.bb⟩
open Go.ChangeShapes Go.WideShapes Go.ChangeAt Go.RowKit Go.Sort Go.Shelf
set_option maxRecDepth 100000
theorem JC (x u f : Int) (w : World) : (method 428 273 (.agg #[.int .i64 x, .int .i64 u, .int .i64 f]) "loop.example/g00553/impl.place").run Tryz.prog w = .ok (368, .agg #[.int .i64 x, .int .i64 u, .int .i64 f]) w := by kernel_rfl
theorem Q8 (x u f:Int) (w:World):Calls Tryz.prog 368 #[.agg #[.int .i64 x,.int .i64 u,.int .i64 f]] w fun e w'=>e= .returned (.int .i64 x)/\Below w.heap.size w w':=by
 go_enter Tryz.func368,Tryz.ntmps368;go_wp2_with fail;go_ret;exact ⟨rfl,(ba _ _)⟩
theorem zC (x u f : Int) (w : World) : (method 428 273 (.agg #[.int .i64 x, .int .i64 u, .int .i64 f]) "loop.example/g00553/impl.takes").run Tryz.prog w = .ok (370, .agg #[.int .i64 x, .int .i64 u, .int .i64 f]) w := by kernel_rfl
theorem CW (n x u f:Int) (w:World):Calls Tryz.prog 370 #[.agg #[.int .i64 x,.int .i64 u,.int .i64 f],.int .i64 n] w fun e w'=>e= .returned (.bool (Wk n u f))/\Below w.heap.size w w':=by
 go_enter Tryz.func370,Tryz.ntmps370;go_wp2_with fail;have BB:Hid (Below w.heap.size w (w.alloc (.cells #[.int .i64 x,.int .i64 u,.int .i64 f] 273))):=Z9 ((ba _ _));refine ck (Mi _ _ _ _) fun w1 hb=> ?_;replace BB:=bt BB hb;clear hb;go_wp2_with fail;go_ret;exact ⟨rfl,uh BB⟩
theorem JB (x u f : Int) (w : World) : (method 428 273 (.agg #[.int .i64 x, .int .i64 u, .int .i64 f]) "loop.example/g00553/impl.hasTooMuch").run Tryz.prog w = .ok (367, .agg #[.int .i64 x, .int .i64 u, .int .i64 f]) w := by kernel_rfl
theorem Me (x u f:Int) (w:World):Calls Tryz.prog 367 #[.agg #[.int .i64 x,.int .i64 u,.int .i64 f]] w fun e w'=>e= .returned (.bool (VJ u f))/\Below w.heap.size w w':=by
 go_enter Tryz.func367,Tryz.ntmps367;go_wp2_with fail;have BB:Hid (Below w.heap.size w (w.alloc (.cells #[.int .i64 x,.int .i64 u,.int .i64 f] 273))):=Z9 ((ba _ _));refine ck (NU _ _ _) fun w1 hb=> ?_;replace BB:=bt BB hb;clear hb;go_wp2_with fail;go_ret;exact ⟨rfl,uh BB⟩
theorem zB (x u f : Int) (w : World) : (method 428 273 (.agg #[.int .i64 x, .int .i64 u, .int .i64 f]) "loop.example/g00553/impl.spare").run Tryz.prog w = .ok (369, .agg #[.int .i64 x, .int .i64 u, .int .i64 f]) w := by kernel_rfl
theorem KG (x u f:Int) (w:World):Calls Tryz.prog 369 #[.agg #[.int .i64 x,.int .i64 u,.int .i64 f]] w fun e w'=>e= .returned (.int .i64 (XJ u f))/\Below w.heap.size w w':=by
 go_enter Tryz.func369,Tryz.ntmps369;go_wp2_with fail;have BB:Hid (Below w.heap.size w (w.alloc (.cells #[.int .i64 x,.int .i64 u,.int .i64 f] 273))):=Z9 ((ba _ _));refine ck (NT _ _ _) fun w1 hb=> ?_;replace BB:=bt BB hb;clear hb;go_wp2_with fail;go_ret;exact ⟨rfl,uh BB⟩
theorem zr (v:Value) (w:World):(Instr.typeAssert (.iface 273 v) 249 227 true).run Tryz.prog w= .ok (.tuple #[.iface 273 v,.bool true]) w:=by kernel_rfl
theorem Mz {l:List String} (h:l ≠ []):∃ s,Instr.least l=some s:=by
 cases l with
 | nil=>exact absurd rfl h
 | cons s r=>exact ⟨_,rfl⟩
theorem CC (p:String->Bool) (f:String->String) {ms:List String} (h:ms ≠ []):∃ s,(match ms.partition p with | (u,e)=>Instr.least e <|> Instr.least (u.map f))=some s:=by
 rw [List.partition_eq_filter_filter];dsimp only;by_cases he:ms.filter (not ∘ p)=[]
 ·have hu:ms.filter p ≠ []:=by
   intro e;apply h;have h1:=List.filter_eq_nil_iff.1 he;have h2:=List.filter_eq_nil_iff.1 e;refine List.eq_nil_iff_forall_not_mem.2 (fun x hx=> ?_);have k1:=h1 x hx;have k2:=h2 x hx;simp only [Function.comp_apply] at k1;cases hp:p x
   ·rw [hp] at k1;exact k1 rfl
   ·exact k2 hp
  obtain ⟨s,hs⟩:=Mz (l:=(ms.filter p).map f) (by simpa using hu);rw [he,hs];exact ⟨s,rfl⟩
 ·obtain ⟨s,hs⟩:=Mz he
  rw [hs];exact ⟨s,rfl⟩
theorem JF {want:Array (String × TypeId)} {got:Array Method} (h:(want.toList.filter fun x=> !got.any fun m=>m.name ==x.1 && m.sig ==x.2).isEmpty=false):∃ s,Instr.missingMethod want got=some s:=by
 refine CC _ _ (ms:=(want.toList.filter fun x=> !got.any fun m=>m.name ==x.1 && m.sig ==x.2).map (·.1)) ?_;intro e;rw [List.map_eq_nil_iff] at e;rw [e] at h;cases h
theorem FQ {P:Program} {w:World} {t xt asserted:TypeId} {v z:Value} {want:Array (String × TypeId)} {i j:TypeInfo} (hu:P.underlying asserted=some (.interface want)) (hi:P.info? t=some i) (hm:(want.toList.filter fun x=> !i.methods.any fun m=>m.name ==x.1 && m.sig ==x.2).isEmpty=false) (hj:P.info? asserted=some j) (hz:j.zero=some z):(Instr.typeAssert (.iface t v) xt asserted true).run P w= .ok (.tuple #[z,.bool false]) w:=by
 obtain ⟨s,hs⟩:=JF hm;simp [Instr.typeAssert,run_underlying hu,typeInfo,hi,hs,zeroValue,hj,hz]
theorem BU:((Tryz.prog.info? 271).bind fun i=>(Tryz.prog.underlying 227).map fun d=>match d with | .interface want=>(want.toList.filter fun x=> !i.methods.any fun m=>m.name ==x.1 && m.sig ==x.2).isEmpty | _=>true)=some false:=by kernel_rfl
theorem BM (v:Value) (w:World):(Instr.typeAssert (.iface 271 v) 249 227 true).run Tryz.prog w= .ok (.tuple #[.nilIface,.bool false]) w:=by
 obtain ⟨j,hj,hz,_,_⟩:=PQ J4;have h:=BU;cases hi:Tryz.prog.info? 271 with
 | none=>rw [hi] at h;cases h
 | some i=>
  cases hu:Tryz.prog.underlying 227 with
  | none=>rw [hi,hu] at h;cases h
  | some d=>
   rw [hi,hu] at h;cases d with
   | interface want=>exact FQ hu hi (by simpa using h) hj hz
   | _=>cases h
def I6 (m:Z6) (b:Int):Value:=if Um m b then .iface 273 (.agg #[.int .i64 b,.int .i64 (Zc m b (-1)),.int .i64 (Zd m.rm b)]) else .iface 271 (.agg #[.int .i64 b])
theorem FV {w:World} {v0 v1 v2 v3 v4:Value} {m:Z6} {b:Int} (h:Smy w v0 v1 v2 v3 v4 m) (hW:Wants m) (hl:m.sm.length<=12):Calls Tryz.prog 269 #[.agg #[v0,v1,v2,v3,v4,.int .i64 m.now],.int .i64 b] w fun e w'=>e= .returned (I6 m b)/\Below w.heap.size w w':=by
 have HW:=Z9 hW;clear hW;obtain ⟨op,hop⟩:∃ q,Um m b=q:=⟨_,rfl⟩
 have Hop:=Z9 hop;unfold I6;rw [hop];clear hop;obtain ⟨us,hus⟩:∃ q,Zc m b (-1)=q:=⟨_,rfl⟩
 have Hus:=Z9 hus;rw [hus];clear hus;obtain ⟨a0,p0,a1,p1,a2,p2,a3,p3,a4,p4,rfl,rfl,rfl,rfl,rfl,K⟩:=Bx.new h;clear h;go_enter Tryz.func269,Tryz.ntmps269;go_wp2_with fail;generalize w.alloc (.cells (S6 a0 p0 a1 p1 a2 p2 a3 p3 a4 p4 m) 32)=W at *;refine ck (Ol (uh Hop) K.smy) fun w1 hb=> ?_;replace K:=K.next hb;clear hb;cases op
 ·go_wp2_with fail
  go_ret;exact ⟨rfl,K.bb⟩
 clear Hop;have HN:=Z9 (fun (X:World) (hX:Below w1.heap.size w1 X)=>Qz (uh Hus) (K.smy.below hX) (uh HW) hl);have HF:=Z9 (fun (X:World) (hX:Below w1.heap.size w1 X)=>NR b (K.smy.below hX).rm);obtain ⟨c0,c1,c2,c3,c4,c5⟩:=K.cells;have k0:=Z2 c0;have k1:=Z2 c1;have k2:=Z2 c2;have k3:=Z2 c3;have k4:=Z2 c4;have k5:=Z2 c5;go_wp2_with fail;refine wq ?_
 repeat (go_big_quiet_step (first | exact ZY (uh HN _ (Z0 _ _ _)) | exact ZY (uh HF _ (Z0 _ _ _))))
 refine wpQuiet_nil ?_;intro _ hw';obtain ⟨⟨dq,osq⟩,hw''⟩:=hw';subst hw'';go_wp2_with fail;go_ret;exact ⟨rfl,K.bb.trans ((Z0 _ _ _).mono K.bb.size)⟩
theorem Bx.grown {w W X:World} {R:Nat} {a0 a1 a2 a3 a4:Option Addr} {p0 p1 p2 p3 p4:Nat} {m:Z6} {r:Option Nat} (h:Bx w W R a0 p0 a1 p1 a2 p2 a3 p3 a4 p4 m) (hs:Smy w (.slice a0 m.rm.length p0) (.slice a1 m.gd.length p1) (.slice a2 m.sm.length p2) (.slice a3 m.dk.length p3) (.slice a4 m.pc.length p4) m) (hg:W.grownBy X r) (hr:∀ k,r=some k->w.heap.size<=k/\k ≠ R):Bx w X R a0 p0 a1 p1 a2 p2 a3 p3 a4 p4 m:=by
 have hb:Below w.heap.size w X:=h.bb.grown hg h.bb.size (fun k e=>(hr k e).1);exact ⟨hs.below hb,(hg.block _ h.blk.lt (fun e=>(hr R e.symm).2 rfl)).trans h.blk,hb⟩
attribute [local go_sem] zr BM
theorem Qc {w:World} {v0 v1 v2 v3 v4:Value} {m:Z6} (h:Smy w v0 v1 v2 v3 v4 m) (hW:Wants m) (hl:m.sm.length<=12) (hd:m.dk.length<=1000):Calls Tryz.prog 240 #[.agg #[v0,v1,v2,v3,v4,.int .i64 m.now]] w fun e w'=> ∃ v',e= .returned v'/\Yr w.heap.size w' v' (XH m m.dk.length)/\Below w.heap.size w w':=by
 have HW:=Z9 hW;clear hW;have Hs:=Z9 h;obtain ⟨a0,p0,a1,p1,a2,p2,a3,p3,a4,p4,rfl,rfl,rfl,rfl,rfl,K⟩:=Bx.new h;clear h;go_enter Tryz.func240,Tryz.ntmps240;go_wp2_with fail
 go_loopw [3,11] (fun l i wr=> ∃ k:Nat,k<=m.dk.length/\i= .int .i64 k/\Yr (w.heap.size+1) wr l (XH m k)/\Bx w wr w.heap.size a0 p0 a1 p1 a2 p2 a3 p3 a4 p4 m) (fun _ i _=>m.dk.length-(intOf i).toNat)
 case atStart=>exact ⟨0,Zz _,rfl,Y8 (by simp) (Z1 _),K.alloc _⟩
 case round=>
  obtain ⟨k,hk,rfl,hln,hK⟩:=hrel;clear K;have K:=hK;clear hK;obtain ⟨la,lc,rfl⟩:=RecAt.shape hln;have HL:=Z9 hln;have hfl:=SL m k;clear hln;by_cases hlt:k<m.dk.length
  ·have hlt1:(k:Int)<(m.dk.length:Int):=by omega
   have HY:=Z9 (fun hh=>Qs (m:=m) (k:=k) hh);have HN:=Z9 (fun hh=>O7 (m:=m) (k:=k) hh);have hop:=zG hlt;obtain ⟨op,hq⟩:∃ q,(Z8 m.dk k).1=q:=⟨_,rfl⟩
   rw [hq] at hop HY HN;obtain ⟨bv,hbv⟩:∃ v,I6 m (k:Int)=v:=⟨_,rfl⟩
   have HB:=Z9 (fun (X:World) (hX:Smy X (.slice a0 m.rm.length p0) (.slice a1 m.gd.length p1) (.slice a2 m.sm.length p2) (.slice a3 m.dk.length p3) (.slice a4 m.pc.length p4) m)=>FV (b:=(k:Int)) hX (uh HW) hl);rw [hbv] at HB;unfold I6 at hbv;rw [hop] at hbv;unfold Sm at HY;generalize Zc m (k:Int) (-1)=us at *;generalize Zd m.rm (k:Int)=fo at *;subst hbv;clear hq hop;obtain ⟨c0,c1,c2,c3,c4,c5⟩:=K.cells;go_wp2_with fail;refine ck (uh HB _ K.smy) fun w1 hb=> ?_;replace K:=K.next hb;replace HL:=Z9 (RecAt.later (uh HL) hb);clear hb c0 c1 c2 c3 c4 c5 HB;cases op
   ·rw [if_neg (by simp)]
    go_wp2_with fail;go_roundw
    case rel=>exact ⟨k+1,by omega,by go_num,by rw [uh HN (by trivial)];exact uh HL,K⟩
    case measure=>exact ms
   ·rw [if_pos rfl]
    have hsx:=K.blk.lt;go_wp2_with (at_builtin;refine UT rfl (.tmp 22) (.tmp 24) 177 Tryz.underlying177 rfl (w.heap.size+1) _ _ (XH m k) [((k:Int),us,fo)] rfl rfl (RecAt.later (uh HL) ((ba _ _))) (WH ((k:Int),us,fo) rfl (Z1 _) (by omega)) (by simp;omega) (by simp;omega) ?_;intro u9 w9 hp9 hg9 hat9;have HP9:=Z9 hp9;have HG9:=Z9 hg9;clear hp9 hg9 hat9)
    have hgo:∀ i,(Value.slice la (XH m k).length lc).ownBlock=some i->w.heap.size<=i/\i ≠ w.heap.size:=fun i e=>by have:=(RecAt.lt (uh HL) e).1;omega
    replace K:=(K.alloc _).grown (uh Hs) (uh HG9) hgo;go_wp2_with fail;go_roundw
    case rel=>exact ⟨k+1,by omega,by go_num,by rw [uh HY (by trivial)];exact uh HP9,K⟩
    case measure=>exact ms
  ·obtain rfl:k=m.dk.length:=by omega
   go_wp2_with fail;go_ret;exact ⟨_,rfl,RecAt.mono (uh HL) (Nat.le_succ _),K.bb⟩
theorem Nv {w:World} {a0 a1 a2 a3 a4:Option Addr} {p0 p1 p2 p3 p4:Nat} {m:Z6} {k:Nat} (h:Smy w (.slice a0 m.rm.length p0) (.slice a1 m.gd.length p1) (.slice a2 m.sm.length p2) (.slice a3 m.dk.length p3) (.slice a4 m.pc.length p4) m) (hl:m.sm.length<=1000) (hk:k<m.sm.length):Calls Tryz.prog 241 #[.agg (S6 a0 p0 a1 p1 a2 p2 a3 p3 a4 p4 m),.int .i64 (k:Int)] w fun e w'=> ∃ g gc,e= .returned (.agg (S6 a0 p0 a1 p1 (some ⟨g,0,none⟩) gc a3 p3 a4 p4 m))/\Smy w' (.slice a0 m.rm.length p0) (.slice a1 m.gd.length p1) (.slice (some ⟨g,0,none⟩) m.sm.length gc) (.slice a3 m.dk.length p3) (.slice a4 m.pc.length p4) (WY m (k:Int))/\Below w.heap.size w w':=by
 have Hv0:=Z9 h;have hk1:(k:Int)<(m.sm.length:Int):=by omega
 clear h;go_enter Tryz.func241,Tryz.ntmps241;go_upto_region 1 with fail;obtain ⟨W,hW,kb,kr,BB⟩:=YD w 32 (S6 a0 p0 a1 p1 a2 p2 a3 p3 a4 p4 m) 32 E6;have Hv:=Z9 ((uh Hv0).below (uh BB));rw [hW];clear hW;obtain ⟨c0,c1,c2,c3,c4,c5⟩:=(uh kb).c6;go_wp2_with fail;refine ck (WS _ _ _ _ _ _ _ _ _ _ _ _ _ _ _ _ _) fun w1 hb=> ?_;replace kb:=bl kb hb;replace kr:=bl kr hb;replace Hv:=Z9 ((uh Hv).below hb);replace BB:=bt BB hb;clear hb c0 c1 c2 c3 c4 c5;go_wp2_with fail;refine (UW (uh Hv).sm hl).mono ?_;rintro e w2 ⟨v2,rfl,hs,hb⟩;have hlb:=(uh kb).lt;have hlr:=(uh kr).lt;have hlo:=(uh BB).size;replace kb:=bl kb hb;replace kr:=bl kr hb;replace BB:=bt BB hb;clear hb Hv;obtain ⟨ga,gc,rfl⟩:=RecAt.shape hs;obtain ⟨g,rfl,hg1,hg2,hcl,hfr⟩:=RecAt.view ZT (by omega) hs rfl (by omega);have hgb:g ≠ w.heap.size:=by omega
 have hgr:g ≠ w.heap.size+1:=by omega
 have hbg:w.heap.size ≠ g:=by omega
 have hrg:w.heap.size+1 ≠ g:=by omega
 have hwg:w.heap.size<=g:=by omega
 have HS:Hid (SmithsAt (w.heap.size+1) w2 (.slice (some ⟨g,0,none⟩) m.sm.length gc) (m.sm.set k (Z8 m.sm k))):=Z9 (by rw [It hk];exact RecAt.mono hs (by omega));have s0:=hcl k hk 0 _ rfl;have f0:=hfr (k*11);simp only [Nat.add_zero] at s0;clear hcl hfr hs hg1;obtain ⟨c0,c1,c2,c3,c4,c5⟩:=(uh kb).c6;obtain ⟨q0,q1,q2,q3,q4,q5⟩:=(uh kb).f6;obtain ⟨o0,o1,o2,o3,o4,o5⟩:=(uh kr).c6;obtain ⟨t0,t1,t2,t3,t4,t5⟩:=(uh kr).f6;go_wp2_with fail;refine ZS (v:= .agg (S6 a0 p0 a1 p1 (some ⟨g,0,none⟩) gc a3 p3 a4 p4 m)) (by simp [results,Tryz.results241,go_sem, *]) rfl ⟨g,gc,rfl,?_,?_⟩
 ·have h1:SmithsAt (w.heap.size+1) (w2.setCell ⟨w.heap.size,2,none⟩ (.slice (some ⟨g,0,none⟩) m.sm.length gc)) (.slice (some ⟨g,0,none⟩) m.sm.length gc) (m.sm.set k (Z8 m.sm k)):=RecAt.same (uh HS) (fun i e=>by cases e;exact heap_setCell_other _ _ _ _ hgb)
  have h2:=h1.put rfl hk (i:=0) (by omega) (.int .i64 1) (1,(Z8 m.sm k).2) rfl;exact (uh Hv0).other (Below.put6 _ _ _ _ _ _ (((uh BB).setCell (Z1 _) _).setCell (by show w.heap.size<=g;omega) _) (Nat.le_succ _)) (RecAt.off6 (.slice a0 m.rm.length p0) (.slice a1 m.gd.length p1) (.slice (some ⟨g,0,none⟩) m.sm.length gc) (.slice a3 m.dk.length p3) (.slice a4 m.pc.length p4) (.int .i64 m.now) h2 (fun i e=>by cases e;exact hgr))
 ·exact Below.put6 _ _ _ _ _ _ (((uh BB).setCell (Z1 _) _).setCell (by show w.heap.size<=g;omega) _) (Nat.le_succ _)
structure Asks (m:Z6) (k:Nat):Prop where
 sane:Sane m
 wants:Wants m
 hk:k<m.sm.length
 hs:(Z8 m.sm k).1 ≠ 0
 may:0<=(Z8 m.sm k).2.2.2.1/\(Z8 m.sm k).2.2.2.1<=255
theorem Loose.asks {m:Z6} (h:Loose m) {k:Nat} (hk:k<m.sm.length) (hs:(Z8 m.sm k).1 ≠ 0):Asks m k:=⟨h.sane,h.wants,hk,hs,AN h hk hs⟩
theorem Asks.mem {m:Z6} {k:Nat} (h:Asks m k) {x:Yn} (hx:x ∈ XH (WY m (k:Int)) m.dk.length):Vx (Z8 m.sm k).2.2.2.1 x.1=TN m k x:=by
 obtain ⟨b,hb,_,rfl⟩:=(SM _ x _).1 hx;obtain ⟨y0,y1⟩:=h.may;have h8:=h.sane.eight;unfold Vx TN Sm;rw [Zp y0 y1,Zp (show (0:Int)<=(b:Int) by omega) (show (b:Int)<=7 by omega)];rfl
theorem Asks.few {m:Z6} {k:Nat} (h:Asks m k):(VI m (k:Int) m.dk.length).length<=8:=by
 have:=h.sane.eight;have:=Kl m (k:Int) m.dk.length;omega
theorem Ea (m:Z6) (who:Int):Y3 m who=if WB m || decide ((YI m who).length=0) then (RS (VI m who m.dk.length)).1 else (UU m who (YI m who)).1:=by
 unfold Y3;rw [GS];cases hc:WB m
 ·by_cases hl:(YI m who).length=0
  ·rw [if_neg (by simp [hl]),if_pos (by simp [hl])]
  ·rw [if_pos (by simp;omega),if_neg (by simp;intro e;rw [e] at hl;simp at hl)]
   rw [D8 m who (by omega) (fun x hx=>by obtain ⟨b,_,rfl,_⟩:=Al hx;omega)]
 ·rfl
attribute [local go_sem] JC
theorem I7 {w:World} {v0 v1 v2 v3 v4:Value} {m:Z6} {k:Nat} {q:List Yn} (hq:(XH (WY m (k:Int)) m.dk.length).filter (TN m k)=q) (h:Smy w v0 v1 v2 v3 v4 m) (hS:Sane m) (hT:Wants m) (hk:k<m.sm.length) (hs:(Z8 m.sm k).1 ≠ 0) (hM:∀ x:Yn,x ∈ XH (WY m (k:Int)) m.dk.length->Vx (Z8 m.sm k).2.2.2.1 x.1=TN m k x):Calls Tryz.prog 199 #[.agg #[v0,v1,v2,v3,v4,.int .i64 m.now],.int .i64 (k:Int)] w fun e w'=> ∃ v',e= .returned v'/\Yr w.heap.size w' v' q/\Below w.heap.size w w':=by
 have HF:=Z9 hq;clear hq;have Hs:=Z9 h;obtain ⟨a0,p0,a1,p1,a2,p2,a3,p3,a4,p4,rfl,rfl,rfl,rfl,rfl,K⟩:=Bx.new h;clear h;have hl:=hS.few;have h8:=hS.eight;have HM:=Z9 hM;have HU:=Z9 (fun (g gc:Nat) (X:World) (hX:Smy X (.slice a0 m.rm.length p0) (.slice a1 m.gd.length p1) (.slice (some ⟨g,0,none⟩) m.sm.length gc) (.slice a3 m.dk.length p3) (.slice a4 m.pc.length p4) (WY m (k:Int)))=>Qc (m:=WY m (k:Int)) hX (hT.away hk hs) (by rw [LK];exact hl) (show m.dk.length<=1000 by omega));have hlen:=SL (WY m (k:Int)) m.dk.length;clear hS hT hM hs;go_enter Tryz.func199,Tryz.ntmps199;go_upto_region 2 with fail;have HL:Hid (Yr (w.heap.size+1) ((w.alloc (.cells (S6 a0 p0 a1 p1 a2 p2 a3 p3 a4 p4 m) 32)).alloc (.cells #[] 227)) (.slice (some ⟨w.heap.size+1,0,none⟩) 0 0) []):=Z9 (Y8 (by simp) (Z1 _));replace K:=K.alloc (.cells #[] 227);generalize (w.alloc (.cells (S6 a0 p0 a1 p1 a2 p2 a3 p3 a4 p4 m) 32)).alloc (.cells #[] 227)=W at *;obtain ⟨c0,c1,c2,c3,c4,c5⟩:=K.cells;go_wp2_with fail;refine (Nv K.smy (by omega) hk).mono ?_;rintro e w2 ⟨g,gc,rfl,hsm,hb⟩;replace K:=K.next hb;replace HL:=Z9 (RecAt.later (uh HL) hb);have HA:=Z9 hsm;clear hb c0 c1 c2 c3 c4 c5 hsm;go_wp2_with fail;refine (uh HU g gc _ (uh HA)).mono ?_;rintro e w3 ⟨v3,rfl,hu,hb⟩;have hu2:Yr w2.heap.size w3 v3 (XH (WY m (k:Int)) m.dk.length):=hu;have hlo2:∀ i,v3.ownBlock=some i->w2.heap.size<=i:=fun i e=>(RecAt.lt hu2 e).1;have hsp:∀ i,v3.ownBlock=some i->(Value.slice (some ⟨w.heap.size+1,0,none⟩) 0 0).ownBlock ≠ some i:=fun i e e2=>by have:=hlo2 i e;have:=(RecAt.lt (uh HL) e2).2;omega
 replace K:=K.next hb;replace HL:=Z9 (RecAt.later (uh HL) hb);clear hb HU HA hu hlo2;generalize XH (WY m (k:Int)) m.dk.length=us at *;obtain ⟨ua,uc,rfl⟩:=RecAt.shape hu2;have HU:=Z9 hu2;have Hsp:=Z9 hsp;clear hu2 hsp;have hus:us.length<=8:=by omega
 go_wp2_with fail
 go_loopw [5,14] (fun l i wr=> ∃ j:Nat,j<=us.length/\i= .int .i64 j/\Yr (w.heap.size+1) wr l ((us.take j).filter (TN m k))/\Yr w2.heap.size wr (.slice ua us.length uc) us/\(∀ i,(Value.slice ua us.length uc).ownBlock=some i->l.ownBlock ≠ some i)/\Bx w wr w.heap.size a0 p0 a1 p1 a2 p2 a3 p3 a4 p4 m) (fun _ i _=>us.length-(intOf i).toNat)
 case atStart=>exact ⟨0,Zz _,rfl,uh HL,uh HU,uh Hsp,K⟩
 case round=>
  obtain ⟨j,hj,rfl,hln,hun,hsp,hK⟩:=hrel;clear K HL HU Hsp;have K:=hK;clear hK;obtain ⟨la,lc,rfl⟩:=RecAt.shape hln;have HL:=Z9 hln;have HU:=Z9 hun;have Hsp:=Z9 hsp;have hfl:((us.take j).filter (TN m k)).length<=8:=by have e1:=List.length_filter_le (TN m k) (us.take j);have e2:(us.take j).length<=us.length:=(by simp;omega);omega
  clear hln hun hsp;by_cases hlt:j<us.length
  ·have hlt1:(j:Int)<(us.length:Int):=by omega
   have HY:=Z9 (fun hh=>L8 (p:=TN m k) hlt hh);have HN:=Z9 (fun hh=>J1 (p:=TN m k) hlt hh);obtain ⟨q,hq⟩:∃ q,TN m k (Z8 us j)=q:=⟨_,rfl⟩
   have hmm:=uh HM _ (Vs hlt);rw [hq] at HY HN hmm;generalize (us.take j).filter (TN m k)=ls at *;obtain ⟨g,rfl,hgl,hgw,hcl,_⟩:=RecAt.view Wb (by omega) (uh HU) rfl (by omega);have z0:=Sn hcl hlt;clear hcl hq;generalize hx:Z8 us j=x at *;clear hx;obtain ⟨bx,ux,fx⟩:=x;simp only at z0 hmm;obtain ⟨_,_,hse,_,_,r2⟩:=K.smy.sm;cases hse
   rcases r2 with e0 | ⟨sb,off,rfl,hbw,hcs⟩
   ·rw [e0] at hk;simp at hk
   obtain ⟨d0,d1,d2,d3,d4,d5,d6,d7,d8,d9,d10⟩:=ZA hcs hk;clear hcs d0 d1 d2 d4 d5 d6 d7 d8 d9 d10;have hk1:(k:Int)<(m.sm.length:Int):=by omega
   have HI:=Z9 (fun X=>Calls.bool_of (Calls.same_below' (Vi (Z8 m.sm k).2.2.2.1 bx X)) hmm);clear hmm;generalize hmy:(Z8 m.sm k).2.2.2.1=my at *;clear hmy;go_upto_region 5 with fail;have c2:=K.blk.cell (i:=2) (v:= .slice (some ⟨sb,off,none⟩) m.sm.length p2) rfl;have k2:=Z2 c2;have k3:=Z2 d3;refine wq ?_
   repeat (go_big_quiet_step (first | exact ZY (Q8 _ _ _ _) | exact ZY (uh HI _)))
   refine wqn fun wq hb=> ?_;replace K:=K.next hb;replace HL:=Z9 (RecAt.later (uh HL) hb);replace HU:=Z9 (RecAt.later (uh HU) hb);clear hb c2 k2 k3 d3 z0;cases q
   ·go_wp2_with fail
    go_roundw
    case rel=>exact ⟨j+1,by omega,by go_num,by rw [uh HN (by trivial)];exact uh HL,uh HU,uh Hsp,K⟩
    case measure=>exact ms
   ·have hsx:=K.blk.lt
    go_wp2_with (at_builtin;refine UT rfl (.tmp 27) (.tmp 29) 177 Tryz.underlying177 rfl (w.heap.size+1) _ _ ls [(bx,ux,fx)] rfl rfl (RecAt.later (uh HL) ((ba _ _))) (WH (bx,ux,fx) rfl (Z1 _) (by omega)) (by simp;omega) (by simp;omega) ?_;intro u9 w9 hp9 hg9 hat9;have HP9:=Z9 hp9;have HG9:=Z9 hg9;have HA9:=Z9 hat9;clear hp9 hg9 hat9)
    have hgo:∀ i,(Value.slice la ls.length lc).ownBlock=some i->w.heap.size<=i/\i ≠ w.heap.size:=fun i e=>by have:=(RecAt.lt (uh HL) e).1;omega
    replace K:=(K.alloc _).grown (uh Hs) (uh HG9) hgo;have hul:=fun i e=>(RecAt.lt (uh HU) (i:=i) e).2
    have hsp9:∀ i,(Value.slice (some ⟨g,0,none⟩) us.length uc).ownBlock=some i->u9.ownBlock ≠ some i:=by
     intro i e e2
     rcases uh HA9 with h9 | h9
     ·rw [h9] at e2;exact uh Hsp i e e2
     ·rw [h9] at e2
      have:=hul i e;simp at e2;omega
    replace HU:=Z9 (RecAt.grown (RecAt.later (uh HU) ((ba _ _))) (uh HG9) (uh Hsp));go_wp2_with fail;go_roundw
    case rel=>exact ⟨j+1,by omega,by go_num,by rw [uh HY (by trivial)];exact uh HP9,uh HU,hsp9,K⟩
    case measure=>exact ms
  ·obtain rfl:j=us.length:=by omega
   have e9:(us.take us.length).filter (TN m k)=q:=by rw [List.take_length];exact uh HF
   have E9:=Z9 e9;clear e9;go_wp2_with fail;go_ret;exact ⟨_,rfl,by rw [<-uh E9];exact RecAt.mono (uh HL) (Nat.le_succ _),K.bb⟩
theorem Ri {w:World} {v0 v1 v2 v3 v4:Value} {m:Z6} {k:Nat} (h:Smy w v0 v1 v2 v3 v4 m) (A:Asks m k):Calls Tryz.prog 199 #[.agg #[v0,v1,v2,v3,v4,.int .i64 m.now],.int .i64 (k:Int)] w fun e w'=> ∃ v',e= .returned v'/\Yr w.heap.size w' v' (VI m (k:Int) m.dk.length)/\Below w.heap.size w w':=I7 (G0 m A.hk _) h A.sane A.wants A.hk A.hs (fun x hx=>A.mem hx)
end Go.Proofs.YtamgfpdahadnfaaGreatDoor
namespace Go.Proofs.YtamgfpdahadnfaaGreatDoor
open Go.ChangeShapes Go.WideShapes Go.ChangeAt Go.RowKit Go.Sort Go.Shelf
set_option linter.unusedVariables false
set_option linter.unusedSimpArgs false
set_option maxRecDepth 100000
attribute [local go_sem] JC zB
theorem MW {w:World} {v:Value} {n0:Nat} {us:List Yn} (h:Yr n0 w v us) (hl:us.length<=1000):Calls Tryz.prog 198 #[v] w fun e w'=>e= .returned (.int .i64 (RS us).1)/\Below w.heap.size w w':=by
 obtain ⟨ua,uc,rfl⟩:=RecAt.shape h;have H0:=Z9 h;clear h;go_enter Tryz.func198,Tryz.ntmps198;go_wp2_with fail
 go_loopw [3,4,9] (fun c t i wr=> ∃ j:Nat,j<=us.length/\i= .int .i64 j/\c= .int .i64 (RS (us.take j)).1/\t= .int .i64 (RS (us.take j)).2/\Below w.heap.size w wr) (fun _ _ i _=>us.length-(intOf i).toNat)
 case atStart=>exact ⟨0,Zz _,rfl,rfl,rfl,ZZ _ _⟩
 case round=>
  obtain ⟨j,hj,rfl,rfl,rfl,hb⟩:=hrel;have HU:=Z9 (RecAt.later (uh H0) hb);have BB:=Z9 hb;clear hb;by_cases hlt:j<us.length
  ·have hlt1:(j:Int)<(us.length:Int):=by omega
   have HR:=Z9 (CK hlt);generalize hcm:RS (us.take j)=cm at *;clear hcm;obtain ⟨ch,mo⟩:=cm;obtain ⟨g,rfl,hgl,hgw,hcl,_⟩:=RecAt.view Wb (by omega) (uh HU) rfl (by omega);have z0:=Sn hcl hlt;clear hcl;generalize hx:Z8 us j=x at *;clear hx;obtain ⟨bx,ux,fx⟩:=x;simp only at z0;unfold PV at HR;simp only at HR ⊢;by_cases h1:ch= -1
   ·subst h1
    rw [if_pos (.inl rfl)] at HR;go_upto_region 6 with fail;go_wp2_with (first | (go_at_call 368;refine (Q8 _ _ _ _).mono ?_;rintro e w1 ⟨rfl,hb⟩;replace BB:=bt BB hb;clear hb) | (go_at_call 369;refine (KG _ _ _ _).mono ?_;rintro e w2 ⟨rfl,hb⟩;replace BB:=bt BB hb;clear hb))
    go_roundw
    case rel=>exact ⟨j+1,by omega,by go_num,by rw [uh HR],by rw [uh HR],uh BB⟩
    case measure=>exact ms
   ·have h1b:(ch == -1)=false:=beq_eq_false_iff_ne.mpr h1
    obtain ⟨sp,hsp⟩:∃ x,XJ ux fx=x:=⟨_,rfl⟩
    have HSP:=Z9 (fun X=>Calls.int_of (KG bx ux fx X) hsp);rw [hsp] at HR;clear hsp;go_upto_region 5 with fail;go_wp2_with fail;refine ck (uh HSP _) fun w1 hb=> ?_;replace BB:=bt BB hb;clear hb;by_cases h2:mo<sp
    ·rw [if_pos (.inr h2)] at HR
     go_upto_region 6 with fail;go_wp2_with (first | (go_at_call 368;refine (Q8 _ _ _ _).mono ?_;rintro e w2 ⟨rfl,hb⟩;replace BB:=bt BB hb;clear hb) | (go_at_call 369;refine (uh HSP _).mono ?_;rintro e w3 ⟨rfl,hb⟩;replace BB:=bt BB hb;clear hb))
     go_roundw
     case rel=>exact ⟨j+1,by omega,by go_num,by rw [uh HR],by rw [uh HR],uh BB⟩
     case measure=>exact ms
    ·rw [if_neg (not_or.2 ⟨h1,h2⟩)] at HR
     go_wp2_with fail;go_roundw
     case rel=>exact ⟨j+1,by omega,by go_num,by rw [uh HR],by rw [uh HR],uh BB⟩
     case measure=>exact ms
  ·obtain rfl:j=us.length:=by omega
   rw [List.take_length];go_wp2_with fail;go_ret;exact ⟨rfl,uh BB⟩
theorem NM {w:World} {v0 v1 v2 v3 v4:Value} {m:Z6} {k n0:Nat} {v:Value} {fs:List Int} (h:Smy w v0 v1 v2 v3 v4 m) (A:Asks m k) (hf:NumsAt n0 w v fs) (hl:fs.length<=1000):Calls Tryz.prog 200 #[.agg #[v0,v1,v2,v3,v4,.int .i64 m.now],.int .i64 (k:Int),v] w fun e w'=>e= .returned (.int .i64 (UU m (k:Int) fs).1)/\Below w.heap.size w w':=by
 obtain ⟨ua,uc,rfl⟩:=RecAt.shape hf;have HA:=Z9 A;have hk:=A.hk;clear A;have H0:=Z9 (RecAt.later hf ((ZZ _ _).alloc (Z1 _) (.cells #[v0,v1,v2,v3,v4,.int .i64 m.now] 32)));clear hf;obtain ⟨a0,p0,a1,p1,a2,p2,a3,p3,a4,p4,rfl,rfl,rfl,rfl,rfl,K⟩:=Bx.new h;clear h;go_enter Tryz.func200,Tryz.ntmps200;go_wp2_with fail;generalize w.alloc (.cells (S6 a0 p0 a1 p1 a2 p2 a3 p3 a4 p4 m) 32)=W at *
 go_loopw [7,8,14] (fun c t i wr=> ∃ j:Nat,j<=fs.length/\i= .int .i64 j/\c= .int .i64 (UU m (k:Int) (fs.take j)).1/\t= .int .i64 (UU m (k:Int) (fs.take j)).2/\Bx w wr w.heap.size a0 p0 a1 p1 a2 p2 a3 p3 a4 p4 m/\Below W.heap.size W wr) (fun _ _ i _=>fs.length-(intOf i).toNat)
 case atStart=>exact ⟨0,Zz _,rfl,rfl,rfl,K,ZZ _ _⟩
 case round=>
  obtain ⟨j,hj,rfl,rfl,rfl,hK,hb⟩:=hrel;clear K;have K:=hK;have HU:=Z9 (RecAt.later (uh H0) hb);have BB:=Z9 hb;clear hb hK;by_cases hlt:j<fs.length
  ·have hlt1:(j:Int)<(fs.length:Int):=by omega
   have HR:=Z9 (D9 (m:=m) (who:=(k:Int)) hlt);obtain ⟨g,rfl,hgl,hgw,hcl,_⟩:=RecAt.view YE (by omega) (uh HU) rfl (by omega);have z0:=hcl j hlt 0 _ rfl;simp only [Nat.mul_one,Nat.add_zero] at z0;clear hcl;generalize hx:Z8 fs j=bx at *;clear hx;generalize hcm:UU m (k:Int) (fs.take j)=cm at *;clear hcm;obtain ⟨ch,mo⟩:=cm;unfold Xk at HR;rw [Zy] at HR;simp only at HR ⊢;obtain ⟨cw,hcw⟩:∃ x,Za m (k:Int) bx=x:=⟨_,rfl⟩
   rw [hcw] at HR;have Hcw:=Z9 hcw;clear hcw;obtain ⟨c0,c1,c2,c3,c4,c5⟩:=K.cells;go_wp2_with fail;refine ck (Ec (uh Hcw) K.smy (uh HA).sane (uh HA).wants hk (uh HA).hs) fun w1 hb=> ?_;replace K:=K.next hb;replace BB:=bt BB hb;clear hb c0 c1 c2 c3 c4 c5 z0 HU Hcw;by_cases h1:ch= -1
   ·subst h1
    rw [if_pos (.inl rfl)] at HR;go_wp2_with fail;go_roundw
    case rel=>exact ⟨j+1,by omega,by go_num,by rw [uh HR],by rw [uh HR],K,uh BB⟩
    case measure=>exact ms
   have h1b:(ch == -1)=false:=beq_eq_false_iff_ne.mpr h1;by_cases h2:cw<mo
   ·rw [if_pos (.inr (.inl h2))] at HR
    go_wp2_with fail;go_roundw
    case rel=>exact ⟨j+1,by omega,by go_num,by rw [uh HR],by rw [uh HR],K,uh BB⟩
    case measure=>exact ms
   by_cases h3:cw=mo
   ·have h3b:(cw ==mo)=true:=beq_iff_eq.mpr h3
    have hk1:(k:Int)<(m.sm.length:Int):=by omega
    obtain ⟨_,_,hse,_,_,r2⟩:=K.smy.sm;cases hse
    rcases r2 with e0 | ⟨sb,off,rfl,hbw,hcs⟩
    ·rw [e0] at hk;simp at hk
    obtain ⟨d0,d1,d2,d3,d4,d5,d6,d7,d8,d9,d10⟩:=ZA hcs hk;have c2:=K.blk.cell (i:=2) (v:= .slice (some ⟨sb,off,none⟩) m.sm.length p2) rfl;clear hcs d0 d2 d3 d4 d5 d6 d7 d8 d9 d10;generalize (Z8 m.sm k).2.1=own at *;subst h3;clear h3b;by_cases h4:bx=own
    ·have h4b:(bx ==own)=true:=beq_iff_eq.mpr h4
     rw [if_pos (.inr (.inr ⟨rfl,h4⟩))] at HR;subst h4;go_wp2_with fail;go_roundw
     case rel=>exact ⟨j+1,by omega,by go_num,by rw [uh HR],by rw [uh HR],K,uh BB⟩
     case measure=>exact ms
    ·have h4b:(bx ==own)=false:=beq_eq_false_iff_ne.mpr h4
     rw [if_neg (not_or.2 ⟨h1,not_or.2 ⟨h2,fun e=>h4 e.2⟩⟩)] at HR;go_wp2_with fail;go_roundw
     case rel=>exact ⟨j+1,by omega,by go_num,by rw [uh HR],by rw [uh HR],K,uh BB⟩
     case measure=>exact ms
   ·have h3b:(cw ==mo)=false:=beq_eq_false_iff_ne.mpr h3
    rw [if_neg (not_or.2 ⟨h1,not_or.2 ⟨h2,fun e=>h3 e.1⟩⟩)] at HR;go_wp2_with fail;go_roundw
    case rel=>exact ⟨j+1,by omega,by go_num,by rw [uh HR],by rw [uh HR],K,uh BB⟩
    case measure=>exact ms
  ·obtain rfl:j=fs.length:=by omega
   rw [List.take_length];go_wp2_with fail;go_ret;exact ⟨rfl,K.bb⟩
attribute [local go_sem] JB
theorem GF {w:World} {v0 v1 v2 v3 v4:Value} {m:Z6} {q:Bool} (hq:WB m=q) (h:Smy w v0 v1 v2 v3 v4 m) (hS:Sane m) (hT:Wants m):Calls Tryz.prog 197 #[.agg #[v0,v1,v2,v3,v4,.int .i64 m.now]] w fun e w'=>e= .returned (.bool q)/\Below w.heap.size w w':=by
 have Hq2:Hid ((XH m m.dk.length).any (fun x=>VJ x.2.1 x.2.2)=q):=Z9 ((BY m).trans hq);clear hq;have hl:=hS.few;have h8:=hS.eight;have hfl:=SL m m.dk.length;have HT:=Z9 hT;clear hT hS;obtain ⟨a0,p0,a1,p1,a2,p2,a3,p3,a4,p4,rfl,rfl,rfl,rfl,rfl,K⟩:=Bx.new h;clear h;go_enter Tryz.func197,Tryz.ntmps197;go_wp2_with fail;generalize w.alloc (.cells (S6 a0 p0 a1 p1 a2 p2 a3 p3 a4 p4 m) 32)=W at *;refine (Qc K.smy (uh HT) hl (by omega)).mono ?_;rintro e w2 ⟨v2,rfl,hu,hb⟩;replace K:=K.next hb;clear hb;generalize XH m m.dk.length=us at *;obtain ⟨ua,uc,rfl⟩:=RecAt.shape hu;have H0:=Z9 hu;clear hu;go_wp2_with fail
 go_loopw [8] (fun i wr=> ∃ j:Nat,j<=us.length/\i= .int .i64 j/\(∀ i,i<j->(fun x:Yn=>VJ x.2.1 x.2.2) (Z8 us i)=false)/\Bx w wr w.heap.size a0 p0 a1 p1 a2 p2 a3 p3 a4 p4 m/\Below w2.heap.size w2 wr) (fun i _=>us.length-(intOf i).toNat)
 case atStart=>exact ⟨0,Zz _,rfl,fun i hi=>by omega,K,ZZ _ _⟩
 case round=>
  obtain ⟨j,hj,rfl,hno,hK,hb⟩:=hrel;clear K;have K:=hK;have HU:=Z9 (RecAt.later (uh H0) hb);have BB:=Z9 hb;have Hno:=Z9 hno;clear hb hK hno;by_cases hlt:j<us.length
  ·have hlt1:(j:Int)<(us.length:Int):=by omega
   obtain ⟨pq,hpq⟩:∃ q,(fun x:Yn=>VJ x.2.1 x.2.2) (Z8 us j)=q:=⟨_,rfl⟩
   have HY:=Z9 (fun hh:pq=true=>zp hlt (p:=(fun x:Yn=>VJ x.2.1 x.2.2)) (hpq.trans hh))
   have HX:Hid (pq=false-> ∀ i,i<j+1->(fun x:Yn=>VJ x.2.1 x.2.2) (Z8 us i)=false):=Z9 (fun hh i hi=>by
    by_cases e:i=j
    ·rw [e,hpq,hh]
    ·exact uh Hno i (by omega))
   have Hpq:=Z9 hpq;clear hpq;obtain ⟨g,rfl,hgl,hgw,hcl,_⟩:=RecAt.view Wb (by omega) (uh HU) rfl (by omega);have z0:=Sn hcl hlt;clear hcl;generalize hx:Z8 us j=x at *;clear hx;obtain ⟨bx,ux,fx⟩:=x;simp only at z0;go_upto_region 4 with fail;go_wp2_with fail;refine ck (Calls.bool_of (Me _ _ _ _) (uh Hpq)) fun w3 hb=> ?_;replace K:=K.next hb;replace BB:=bt BB hb;clear hb z0;cases pq
   ·go_wp2_with fail
    go_roundw
    case rel=>exact ⟨j+1,by omega,by go_num,uh HX (by trivial),K,uh BB⟩
    case measure=>exact ms
   ·obtain rfl:q=true:=(uh Hq2).symm.trans (uh HY (by trivial))
    go_wp2_with fail;go_ret;exact ⟨rfl,K.bb⟩
  ·obtain rfl:j=us.length:=by omega
   obtain rfl:q=false:=(uh Hq2).symm.trans (yp (uh Hno));go_wp2_with fail;go_ret;exact ⟨rfl,K.bb⟩
attribute [local go_sem] JC zC
theorem An {wn:Int} {us:List Yn} {j:Nat} (hj:j<us.length) (h:WC wn (Z8 us j)=true):((us.take (j+1)).filter (WC wn)).map (·.1)=((us.take j).filter (WC wn)).map (·.1)++[(Z8 us j).1]:=by rw [L8 hj h,List.map_append];rfl
theorem Ao {wn:Int} {us:List Yn} {j:Nat} (hj:j<us.length) (h:WC wn (Z8 us j)=false):((us.take (j+1)).filter (WC wn)).map (·.1)=((us.take j).filter (WC wn)).map (·.1):=by rw [J1 hj h]
theorem Jm {w:World} {v0 v1 v2 v3 v4:Value} {m:Z6} {k:Nat} {q:List Int} (hq:YI m (k:Int)=q) (h:Smy w v0 v1 v2 v3 v4 m) (A:Asks m k):Calls Tryz.prog 196 #[.agg #[v0,v1,v2,v3,v4,.int .i64 m.now],.int .i64 (k:Int)] w fun e w'=> ∃ v',e= .returned v'/\NumsAt w.heap.size w' v' q/\Below w.heap.size w w':=by
 have hq:((VI m (k:Int) m.dk.length).filter (WC (Zs m (k:Int)))).map (·.1)=q:=(JD m (k:Int) m.dk.length).trans hq;have hfl:=A.few;have HA:=Z9 A;have HW9:=Z9 (fun (X:World) (hX:Smy X v0 v1 v2 v3 v4 m)=>Ns hX A.wants A.hk A.hs);clear A;obtain ⟨wn,hwn⟩:∃ x,Zs m (k:Int)=x:=⟨_,rfl⟩
 rw [hwn] at hq HW9;have Hq:=Z9 hq;clear hwn hq;have Hs:=Z9 h;obtain ⟨a0,p0,a1,p1,a2,p2,a3,p3,a4,p4,rfl,rfl,rfl,rfl,rfl,K⟩:=Bx.new h;clear h;go_enter Tryz.func196,Tryz.ntmps196;go_wp2_with fail;generalize w.alloc (.cells (S6 a0 p0 a1 p1 a2 p2 a3 p3 a4 p4 m) 32)=W at *;refine ck (uh HW9 _ K.smy) fun w1 hb=> ?_;replace K:=K.next hb;clear hb HW9;obtain ⟨c0,c1,c2,c3,c4,c5⟩:=K.cells;have hsz:=K.blk.lt;go_wp2_with fail;clear c0 c1 c2 c3 c4 c5;have HL:Hid (NumsAt (w.heap.size+1) (w1.alloc (.cells #[] 2)) (.slice (some ⟨w1.heap.size,0,none⟩) 0 0) []):=Z9 (Y8 rfl (by omega));replace K:=K.alloc (.cells #[] 2);generalize w1.alloc (.cells #[] 2)=W1 at *;generalize w1.heap.size=lb at *;refine (Ri K.smy (uh HA)).mono ?_;rintro e w2 ⟨v2,rfl,hu,hb⟩;have hsp:∀ i,v2.ownBlock=some i->(Value.slice (some ⟨lb,0,none⟩) 0 0).ownBlock ≠ some i:=fun i e e2=>by have:=(RecAt.lt hu e).1;have:=(RecAt.lt (uh HL) e2).2;omega
 have hu2:Yr W1.heap.size w2 v2 (VI m (k:Int) m.dk.length):=hu;replace K:=K.next hb;replace HL:=Z9 (RecAt.later (uh HL) hb);clear hb hu;generalize VI m (k:Int) m.dk.length=us at *;obtain ⟨ua,uc,rfl⟩:=RecAt.shape hu2;have HU:=Z9 hu2;have Hsp:=Z9 hsp;clear hu2 hsp;go_wp2_with fail
 go_loopw [6,17] (fun l i wr=> ∃ j:Nat,j<=us.length/\i= .int .i64 j/\NumsAt (w.heap.size+1) wr l (((us.take j).filter (WC wn)).map (·.1))/\Yr W1.heap.size wr (.slice ua us.length uc) us/\(∀ i,(Value.slice ua us.length uc).ownBlock=some i->l.ownBlock ≠ some i)/\Bx w wr w.heap.size a0 p0 a1 p1 a2 p2 a3 p3 a4 p4 m) (fun _ i _=>us.length-(intOf i).toNat)
 case atStart=>exact ⟨0,Zz _,rfl,uh HL,uh HU,uh Hsp,K⟩
 case round=>
  obtain ⟨j,hj,rfl,hln,hun,hsp,hK⟩:=hrel;clear K HL HU Hsp;have K:=hK;clear hK;obtain ⟨la,lc,rfl⟩:=RecAt.shape hln;have HL:=Z9 hln;have HU:=Z9 hun;have Hsp:=Z9 hsp;have hgl9:(((us.take j).filter (WC wn)).map (·.1)).length<=8:=by have e1:=List.length_filter_le (WC wn) (us.take j);have e2:(us.take j).length<=us.length:=(by simp;omega);simp only [List.length_map];omega
  clear hln hun hsp;by_cases hlt:j<us.length
  ·have hlt1:(j:Int)<(us.length:Int):=by omega
   have HY:=Z9 (fun hh=>An (wn:=wn) hlt hh);have HN:=Z9 (fun hh=>Ao (wn:=wn) hlt hh);obtain ⟨tq,htq⟩:∃ q,WC wn (Z8 us j)=q:=⟨_,rfl⟩
   rw [htq] at HY HN;have Htq:=Z9 htq;clear htq;generalize ((us.take j).filter (WC wn)).map (·.1)=ls at *;obtain ⟨g,rfl,hgl,hgw,hcl,_⟩:=RecAt.view Wb (by omega) (uh HU) rfl (by omega);have z0:=Sn hcl hlt;clear hcl;generalize hx:Z8 us j=x at *;clear hx;obtain ⟨bx,ux,fx⟩:=x;simp only at z0;go_upto_region 6 with fail;go_wp2_with fail;refine ck (Calls.bool_of (CW wn bx ux fx _) (uh Htq)) fun w3 hb=> ?_;replace K:=K.next hb;replace HL:=Z9 (RecAt.later (uh HL) hb);replace HU:=Z9 (RecAt.later (uh HU) hb);clear hb z0;cases tq
   ·go_wp2_with fail
    go_roundw
    case rel=>exact ⟨j+1,by omega,by go_num,by rw [uh HN (by trivial)];exact uh HL,uh HU,uh Hsp,K⟩
    case measure=>exact ms
   ·go_wp2_with fail
    refine ck (Q8 _ _ _ _) fun w4 hb=> ?_;replace K:=K.next hb;replace HL:=Z9 (RecAt.later (uh HL) hb);replace HU:=Z9 (RecAt.later (uh HU) hb);clear hb;have hsx:=K.blk.lt;go_wp2_with (at_builtin;refine ZI tyN rfl (.tmp 24) (.tmp 27) 30 Tryz.underlying30 rfl (w.heap.size+1) _ _ ls [bx] rfl rfl (RecAt.later (uh HL) ((ba _ _))) (WH bx rfl (Z1 _) (by omega)) (by simp;omega) (by simp;omega) ?_;intro u9 w9 hp9 hg9 hat9;have HP9:=Z9 hp9;have HG9:=Z9 hg9;have HA9:=Z9 hat9;clear hp9 hg9 hat9)
    have hgo:∀ i,(Value.slice la ls.length lc).ownBlock=some i->w.heap.size<=i/\i ≠ w.heap.size:=fun i e=>by have:=(RecAt.lt (uh HL) e).1;omega
    replace K:=(K.alloc _).grown (uh Hs) (uh HG9) hgo;have hul:=fun i e=>(RecAt.lt (uh HU) (i:=i) e).2
    have hsp9:∀ i,(Value.slice (some ⟨g,0,none⟩) us.length uc).ownBlock=some i->u9.ownBlock ≠ some i:=by
     intro i e e2
     rcases uh HA9 with h9 | h9
     ·rw [h9] at e2;exact uh Hsp i e e2
     ·rw [h9] at e2
      have:=hul i e;simp at e2;omega
    replace HU:=Z9 (RecAt.grown (RecAt.later (uh HU) ((ba _ _))) (uh HG9) (uh Hsp));go_wp2_with fail;go_roundw
    case rel=>exact ⟨j+1,by omega,by go_num,by rw [uh HY (by trivial)];exact uh HP9,uh HU,hsp9,K⟩
    case measure=>exact ms
  ·obtain rfl:j=us.length:=by omega
   have e9:((us.take us.length).filter (WC wn)).map (·.1)=q:=by rw [List.take_length];exact uh Hq
   have E9:=Z9 e9;clear e9;go_wp2_with fail;go_ret;exact ⟨_,rfl,by rw [<-uh E9];exact RecAt.mono (uh HL) (Nat.le_succ _),K.bb⟩
theorem F5 {w:World} {v0 v1 v2 v3 v4:Value} {m:Z6} {k:Nat} {q:Int} (hq:Y3 m (k:Int)=q) (h:Smy w v0 v1 v2 v3 v4 m) (A:Asks m k):Calls Tryz.prog 137 #[.agg #[v0,v1,v2,v3,v4,.int .i64 m.now],.int .i64 (k:Int)] w fun e w'=>e= .returned (.int .i64 q)/\Below w.heap.size w w':=by
 rw [Ea] at hq;have Hq:=Z9 hq;clear hq;obtain ⟨fs,hfs⟩:∃ q,YI m (k:Int)=q:=⟨_,rfl⟩
 have Hfs:=Z9 hfs
 have hfl:fs.length<=1000:=by
  rw [<-hfs,show YI m (k:Int)=((VI m (k:Int) m.dk.length).filter (WC (Zs m (k:Int)))).map (·.1) from (JD m (k:Int) m.dk.length).symm,List.length_map];have:=List.length_filter_le (WC (Zs m (k:Int))) (VI m (k:Int) m.dk.length);have:=A.few;omega
 rw [hfs] at Hq;obtain ⟨cr,hcr⟩:∃ q,WB m=q:=⟨_,rfl⟩
 have Hcr:=Z9 hcr;rw [hcr] at Hq;clear hfs hcr;have hul:=A.few;have HA:=Z9 A;clear A;obtain ⟨a0,p0,a1,p1,a2,p2,a3,p3,a4,p4,rfl,rfl,rfl,rfl,rfl,K⟩:=Bx.new h;clear h;go_enter Tryz.func137,Tryz.ntmps137;go_wp2_with fail;generalize w.alloc (.cells (S6 a0 p0 a1 p1 a2 p2 a3 p3 a4 p4 m) 32)=W at *;refine (Jm (uh Hfs) K.smy (uh HA)).mono ?_;rintro e w1 ⟨v1,rfl,hn,hb⟩;replace K:=K.next hb;clear hb;obtain ⟨na,nc,rfl⟩:=RecAt.shape hn;have HN:=Z9 hn;clear hn;obtain ⟨c0,c1,c2,c3,c4,c5⟩:=K.cells;go_wp2_with fail;refine ck (GF (uh Hcr) K.smy (uh HA).sane (uh HA).wants) fun w2 hb=> ?_;replace K:=K.next hb;replace HN:=Z9 (RecAt.later (uh HN) hb);clear hb c0 c1 c2 c3 c4 c5 Hcr;obtain ⟨c0,c1,c2,c3,c4,c5⟩:=K.cells;by_cases hcond:(cr || decide (fs.length=0))=true
 ·rw [hcond,if_pos rfl] at Hq
  obtain rfl:=(uh Hq).symm
  have hrun:cr=true\/(cr=false/\fs.length=0):=by
   cases cr
   ·right;exact ⟨rfl,by simpa using hcond⟩
   ·exact .inl rfl
  clear hcond Hq
  rcases hrun with rfl | ⟨rfl,h0⟩
  all_goals
   try (obtain rfl:=List.eq_nil_of_length_eq_zero h0;clear h0)
   go_wp2_with fail;refine (Ri K.smy (uh HA)).mono ?_;rintro e w3 ⟨v3,rfl,hu,hb⟩;replace K:=K.next hb;have HU:=Z9 hu;clear hb hu c0 c1 c2 c3 c4 c5;go_wp2_with fail;refine ck (MW (uh HU) (by omega)) fun w4 hb=> ?_;replace K:=K.next hb;clear hb;go_wp2_with fail;go_ret;exact ⟨rfl,K.bb⟩
 ·obtain rfl:cr=false:=(by cases cr<;>first | rfl | simp at hcond)
  have h0:¬ fs.length=0:=by simpa using hcond
  rw [Bool.false_or,decide_eq_false h0,if_neg (by simp)] at Hq;obtain rfl:=(uh Hq).symm;clear hcond Hq;have h0i:¬ ((fs.length:Int)=0):=by omega
  have h0b:((fs.length:Int) ==0)=false:=beq_eq_false_iff_ne.mpr h0i;clear h0;go_wp2_with fail;refine ck (NM K.smy (uh HA) (uh HN) hfl) fun w3 hb=> ?_;replace K:=K.next hb;clear hb c0 c1 c2 c3 c4 c5;go_wp2_with fail;go_ret;exact ⟨rfl,K.bb⟩
theorem Lb {w:World} {v0 v1 v2 v3 v4:Value} {m:Z6} {who:Int} {q:Bool} (hq:(ZJ m && WL m who)=q) (h:Smy w v0 v1 v2 v3 v4 m):Calls Tryz.prog 166 #[.agg #[v0,v1,v2,v3,v4,.int .i64 m.now],.int .i64 who] w fun e w'=>e= .returned (.bool q)/\Below w.heap.size w w':=by
 obtain ⟨wn,hwn⟩:∃ x,Re m who=x:=⟨_,rfl⟩
 have Hwn:=Z9 hwn;have hw9:=(R1 m who).1
 have Hd:Hid ((wn == -1)= !q):=Z9 (by
  rw [<-hwn,<-hq];unfold Re;cases (ZJ m && WL m who)
  ·rfl
  ·simp;omega)
 clear hwn hq hw9;obtain ⟨a0,p0,a1,p1,a2,p2,a3,p3,a4,p4,rfl,rfl,rfl,rfl,rfl,K⟩:=Bx.new h;clear h;go_enter Tryz.func166,Tryz.ntmps166;go_wp2_with fail;generalize w.alloc (.cells (S6 a0 p0 a1 p1 a2 p2 a3 p3 a4 p4 m) 32)=W at *;refine ck (Mn (uh Hwn) K.smy) fun w1 hb=> ?_;replace K:=K.next hb;clear hb Hwn;have hd:=uh Hd;cases q
 ·obtain rfl:wn= -1:=by simpa using hd
  clear hd Hd;go_wp2_with fail;go_ret;exact ⟨rfl,K.bb⟩
 ·have hne:Hid ((wn != -1)=true):=Z9 (by show (!(wn == -1))=true;rw [hd];rfl)
  clear hd Hd;go_wp2_with fail;go_ret;exact ⟨congrArg (fun x=>Ending.returned (.bool x)) (uh hne),K.bb⟩
theorem Rt {w:World} {v0 v1 v2 v3 v4:Value} {m:Z6} {who q:Int} (hq:ZG m who=q) (h:Smy w v0 v1 v2 v3 v4 m):Calls Tryz.prog 98 #[.agg #[v0,v1,v2,v3,v4,.int .i64 m.now],.int .i64 who] w fun e w'=>e= .returned (.int .i64 q)/\Below w.heap.size w w':=by
 obtain ⟨ok,hok⟩:∃ x,(ZJ m && WL m who)=x:=⟨_,rfl⟩
 have Hok:=Z9 hok;have Hq:=Z9 hq;clear hok hq;obtain ⟨a0,p0,a1,p1,a2,p2,a3,p3,a4,p4,rfl,rfl,rfl,rfl,rfl,K⟩:=Bx.new h;clear h;go_enter Tryz.func98,Tryz.ntmps98;go_wp2_with fail;generalize w.alloc (.cells (S6 a0 p0 a1 p1 a2 p2 a3 p3 a4 p4 m) 32)=W at *;refine ck (Lb (uh Hok) K.smy) fun w1 hb=> ?_;replace K:=K.next hb;clear hb;cases ok
 ·obtain rfl:q= -1:=by rw [<-uh Hq];unfold ZG;rw [uh Hok];rfl
  go_wp2_with fail;go_ret;exact ⟨rfl,K.bb⟩
 have hq2:Y3 m who=q:=by rw [<-uh Hq];unfold ZG;rw [uh Hok];rfl
 have ho:=uh Hok;simp only [ZP] at ho;obtain ⟨k,rfl,hk,hs⟩:=XS ho.2;have HA:=Z9 ((ZR ho.1).asks hk hs);clear ho Hok Hq;obtain ⟨c0,c1,c2,c3,c4,c5⟩:=K.cells;go_wp2_with fail;refine ck (F5 hq2 K.smy (uh HA)) fun w2 hb=> ?_;replace K:=K.next hb;clear hb c0 c1 c2 c3 c4 c5;go_wp2_with fail;go_ret;exact ⟨rfl,K.bb⟩
end Go.Proofs.YtamgfpdahadnfaaGreatDoor
