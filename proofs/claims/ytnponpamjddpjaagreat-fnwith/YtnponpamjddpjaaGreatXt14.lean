/- Part 14 of what the proof rests on. No condition but those that a theorem names. -/
import Derived.Test.YtnponpamjddpjaaGreatXt06
import Derived.Test.YtnponpamjddpjaaGreatXt13
import Derived.Laws.CopyRow
set_option maxHeartbeats 8000000
set_option maxRecDepth 100000
namespace Go.Proofs.YtnponpamjddpjaaGreat
open Go.ChangeShapes Go.WideShapes Go.ChangeAt Go.RowKit Go.Sort
set_option linter.unusedVariables false
set_option linter.unusedSimpArgs false
set_option maxRecDepth 100000
theorem II (a:Option Addr) (n cap k:Nat) (hn:n=k+1) (hc:n<=cap) (W:World):(Instr.slice 35 (.slice a n cap) (some (.int .i64 1)) (some (.int .i64 (n:Int))) (some (.int .i64 (n:Int)))).run Tryz.prog W= .ok (.slice (if k=0 then a else a.map (·.add 2)) k k) W:=by
 obtain ⟨i0,hi,hz0,hz1,hz2⟩:=info_parts Wz
 have hs:∀ W,(sizeOf 45).run Tryz.prog W= .ok 2 W:=fun W=>by simp [sizeOf,typeInfo,hi,hz1]
 have hb:∀ W,(Instr.sliceBounds true n cap (some (.int .i64 1)) (some (.int .i64 (n:Int))) (some (.int .i64 (n:Int)))).run Tryz.prog W= .ok (1,n,n) W:=fun W=>by
  have h1:(0:Int)<=(n:Int)/\(n:Int)<=(cap:Int):=by omega
  have h2:(0:Int)<=(n:Int)/\(n:Int)<=(n:Int):=by omega
  have h3:(0:Int)<=1/\(1:Int)<=(n:Int):=by omega
  simp only [Instr.sliceBounds,Instr.sliceBound,asIntOf,Sem.run_bind,Sem.run_pure,Result.andThen_ok,if_pos h1,if_pos h2,if_pos h3,Int.toNat_natCast]
  rfl
 simp only [Instr.slice,Sem.run_bind,run_underlying Tryz.underlying35,Result.andThen,hb,hs,Sem.run_pure]
 have e1:(n=1)=(k=0):=by apply propext;omega
 rw [show n-1=k by omega]
 simp only [e1,Nat.one_mul]
theorem IsPaces.behind {w:World} {a:Option Addr} {n cap:Nat} {e:Z6} {t:List Z6} (h:IsPaces w (.slice a n cap) (e::t)):IsPaces w (.slice (if t.length=0 then a else a.map (·.add 2)) t.length t.length) t:=by
 obtain ⟨a',cap',he,hc,hm,hr⟩:=h
 cases he
 rw [List.length_cons] at hc
 refine ⟨_,t.length,rfl,Nat.le_refl _,by omega,?_⟩
 by_cases h0:t.length=0
 ·exact .inl (List.eq_nil_of_length_eq_zero h0)
 ·rcases hr with hr | ⟨b,off,rfl,hlt,hcl⟩
  ·cases hr
  ·rw [if_neg h0]
   refine .inr ⟨b,off+2,by simp [MW],hlt,fun j hj=> ?_⟩
   have:=hcl (j+1) (by simp;omega)
   rw [show off+(j+1)*2=off+2+j*2 by omega] at this
   exact this
theorem OQ {w:World} {g base sc:Nat} {sp:Option Addr} {ps:List Z6} {xs:List Value} (ty:TypeId) (hd:w.ownsRow base 45 2 (.slice (some ⟨g,0,none⟩) ps.length ps.length) ps.length xs) (hs:IsPaces w (.slice sp ps.length sc) ps) :
  ∃ w',(Builtin.copy_ #[35,35] ty #[.slice (some ⟨g,0,none⟩) ps.length ps.length,.slice sp ps.length sc]).run Tryz.prog w= .ok (goInt ps.length) w'/\EntsAt base w' (.slice (some ⟨g,0,none⟩) ps.length ps.length) ps/\Below base w w':=by
 obtain ⟨i0,hi,hz0,hz1,hz2⟩:=info_parts Wz
 rcases hd.2 with ⟨he,_⟩ | ⟨g',cap,cur,he,hb,hg,hnc,hcm,hsz,htk⟩
 ·cases he
 cases he
 have hpl:=Uw ps
 obtain ⟨a',cap',he,hc,hm,hr⟩:=hs
 cases he
 have hload:(Builtin.firstCells 2 ps.length (.slice sp ps.length sc)).run Tryz.prog w= .ok (Zm ps).toArray w:=by
  rcases hr with hr | ⟨b,off,rfl,hlt,hcl⟩
  ·subst hr
   cases sp with
   | none=>rfl
   | some ad=>
    have:=run_loadCells_list (P:=Tryz.prog) w ad (Zm []) (fun j v h=>by simp [Zm] at h)
    exact this
  ·have:=run_loadCells_list (P:=Tryz.prog) w ⟨b,off,none⟩ (Zm ps) (fun j v h=>by
    have hj:j<ps.length*2:=by
     have:=(List.getElem?_eq_some_iff.1 h).1
     omega
    have hp:=VL (f:=fun p:Z6=>Value.int .i64 p.1) (g:=fun p:Z6=>Value.int .i64 p.2) ps (j / 2) (by omega)
    have hat:Z7 ps (j / 2)=ps[j / 2]'(by omega):=by unfold Z7;simp [List.getD,(by omega:j / 2<ps.length)]
    obtain ⟨c0,c1⟩:=hcl (j / 2) (by omega)
    rw [hat] at c0 c1
    have ha:(⟨b,off,none⟩:Addr).add j=⟨b,off+j,none⟩:=by unfold Addr.add;split<;>simp_all
    rw [ha]
    rcases Nat.mod_two_eq_zero_or_one j with e2 | e2
    ·have ej:j=j / 2*2:=by omega
     have h9:(Zm ps)[j / 2*2]?=some (.int .i64 (ps[j / 2]'(by omega)).1):=hp.1
     rw [<-ej,h] at h9
     cases h9
     rw [show off+j=off+j / 2*2 by omega]
     exact c0
    ·have ej:j=j / 2*2+1:=by omega
     have h9:(Zm ps)[j / 2*2+1]?=some (.int .i64 (ps[j / 2]'(by omega)).2):=hp.2
     rw [<-ej,h] at h9
     cases h9
     rw [show off+j=off+j / 2*2+1 by omega]
     exact c1)
   rw [hpl] at this
   exact this
 have hst:=run_storeCells_at Tryz.prog g 0 45 (Zm ps) 0 cur w hg (by rw [hpl,hsz];omega) (fun v hv=>by
  unfold Zm at hv
  obtain ⟨p,_,hp⟩:=List.mem_flatMap.1 hv
  simp only [List.mem_cons,List.not_mem_nil,or_false] at hp
  rcases hp with rfl | rfl<;>rfl)
 have hdrop:cur.toList.drop (Zm ps).length=[]:=by
  rw [List.drop_eq_nil_iff,Array.length_toList,hsz,hpl];exact Nat.le_refl _
 simp only [Nat.zero_add,List.take_zero,List.nil_append,hdrop,List.append_nil] at hst
 refine ⟨w.setRow g (Zm ps).toArray,?_,⟨hpl,.inr ⟨g,ps.length,(Zm ps).toArray,rfl,hb,setRow_heap w g _ _ _ _ hg,Nat.le_refl _,hcm,by simp [hpl],?_⟩⟩,?_⟩
 ·have hsz2:(sizeOf 45).run Tryz.prog w= .ok 2 w:=by simp [sizeOf,typeInfo,hi,hz1]
  have hlen:(Builtin.lenOf (.slice sp ps.length sc)).run Tryz.prog w= .ok ps.length w:=rfl
  have hmin:Nat.min ps.length ps.length=ps.length:=Nat.min_self _
  unfold Builtin.copy_
  simp only [Sem.run_bind,run_underlying Tryz.underlying35,Result.andThen_ok,hlen,hmin,hsz2,hload,List.getElem?_toArray,List.getElem?_cons_zero,List.getElem?_cons_succ,Sem.run_pure,hst]
 ·rw [List.take_of_length_le (by simp [hpl])]
 ·exact ⟨rfl,rfl,rfl,by simp [World.setRow],fun k hk=>setRow_other w g k _ (by omega)⟩
theorem OX {w:World} {v:Value} {e:Z6} {t:List Z6} (h:IsPaces w v (e::t)) (hl:t.length<=1000):Calls Tryz.prog 153 #[v] w fun e w'=> ∃ v',e= .returned v'/\EntsAt w.heap.size w' v' t/\Below w.heap.size w w':=by
 have Hv:=Z9 h
 obtain ⟨a,cap,rfl,hc,hm,hr⟩:=h
 obtain ⟨n,hn⟩:∃ n,n=t.length+1:=⟨_,rfl⟩
 rw [show (e::t).length=n by rw [hn];rfl] at Hv hc ⊢
 have hcut:=fun W=>II a n cap t.length hn hc W
 have HB:=Z9 (uh Hv).behind
 obtain ⟨sp,hsp⟩:∃ q,(if t.length=0 then a else a.map (·.add 2))=q:=⟨_,rfl⟩
 rw [hsp] at HB
 simp only [hsp] at hcut
 have hn1:n<=1001:=by omega
 clear hr hn hsp
 obtain ⟨i0,hi,hz0,hz1,hz2⟩:=info_parts Wz
 go_enter Tryz.func153,Tryz.ntmps153
 go_upto_region 3 with (at_make;refine wpList_make_full _ rfl _ _ 35 rfl w.heap.size 45 i0 (.agg #[.int .i64 0,.int .i64 0]) 2 Tryz.underlying35 hi hz0 hz1 _ _ _ _ t.length rfl rfl rfl rfl (by rw [hz2];omega) (by unfold maxLen;omega) (Nat.le_refl _) ?_;intro w0 hown hgrow;have HBB:Hid (Below w.heap.size w w0):=Z9 ((Below.refl _ _).grown hgrow (Nat.le_refl _) (fun k e=>by cases e));obtain ⟨w9,hrun,he9,hb9⟩:=OQ 3 hown ((uh HB).below (uh HBB));have HR:=Z9 hrun;have HE:=Z9 he9;have HB9:=Z9 hb9;clear hown hgrow hrun he9 hb9)
 have hr9:=uh HR
 go_wp2_with fail
 go_ret
 exact ⟨_,rfl,uh HE,(uh HBB).trans (uh HB9)⟩
theorem Qv {w:World} {v:Value} {ps:List ZA} (h:XI w v ps) (hl:ps.length<=1000):Calls Tryz.prog 147 #[v] w fun e w'=> ∃ v',e= .returned v'/\GuildsAt w.heap.size w' v' ps/\Below w.heap.size w w':=by
 have HR:=Z9 (h.below ((Below.refl _ _).alloc (Nat.le_refl _) (.cells #[] 97)))
 obtain ⟨a,cap,rfl,hc,hm,hr⟩:=h
 clear hr
 go_enter Tryz.func147,Tryz.ntmps147
 go_wp2_with (at_builtin;refine ZN tyG rfl (.tmp 3) (.tmp 4) 141 Tryz.underlying141 rfl w.heap.size _ _ [] ps rfl rfl (Zb rfl (Nat.le_refl _)) (uh HR) (by simp;omega) (by simp) ?_;intro u9 w9 hp9 hg9 hat9;rw [List.nil_append] at hp9;have HP9:=Z9 hp9;have HG9:=Z9 hg9;clear hp9 hg9 hat9)
 have hb9:Below w.heap.size w w9:=((Below.refl _ _).alloc (Nat.le_refl _) _).trans ((Below.refl _ _).grown (uh HG9) (by simp) (fun i e=>by cases e;exact Nat.le_refl _))
 go_wp2_with fail
 go_ret
 exact ⟨_,rfl,uh HP9,hb9⟩
theorem Qw {w:World} {v:Value} {ps:List Z4} (h:WK w v ps) (hl:ps.length<=1000):Calls Tryz.prog 148 #[v] w fun e w'=> ∃ v',e= .returned v'/\SmithsAt w.heap.size w' v' ps/\Below w.heap.size w w':=by
 have HR:=Z9 (h.below ((Below.refl _ _).alloc (Nat.le_refl _) (.cells #[] 41)))
 obtain ⟨a,cap,rfl,hc,hm,hr⟩:=h
 clear hr
 go_enter Tryz.func148,Tryz.ntmps148
 go_wp2_with (at_builtin;refine ZN tyS rfl (.tmp 3) (.tmp 4) 84 Tryz.underlying84 rfl w.heap.size _ _ [] ps rfl rfl (Zb rfl (Nat.le_refl _)) (uh HR) (by simp;omega) (by simp) ?_;intro u9 w9 hp9 hg9 hat9;rw [List.nil_append] at hp9;have HP9:=Z9 hp9;have HG9:=Z9 hg9;clear hp9 hg9 hat9)
 have hb9:Below w.heap.size w w9:=((Below.refl _ _).alloc (Nat.le_refl _) _).trans ((Below.refl _ _).grown (uh HG9) (by simp) (fun i e=>by cases e;exact Nat.le_refl _))
 go_wp2_with fail
 go_ret
 exact ⟨_,rfl,uh HP9,hb9⟩
theorem Pd {w:World} {v:Value} {ps:List Ys} (h:VN w v ps) (hl:ps.length<=1000):Calls Tryz.prog 149 #[v] w fun e w'=> ∃ v',e= .returned v'/\DesksAt w.heap.size w' v' ps/\Below w.heap.size w w':=by
 have HR:=Z9 (h.below ((Below.refl _ _).alloc (Nat.le_refl _) (.cells #[] 55)))
 obtain ⟨a,cap,rfl,hc,hm,hr⟩:=h
 clear hr
 go_enter Tryz.func149,Tryz.ntmps149
 go_wp2_with (at_builtin;refine ZN tyD rfl (.tmp 3) (.tmp 4) 81 Tryz.underlying81 rfl w.heap.size _ _ [] ps rfl rfl (Zb rfl (Nat.le_refl _)) (uh HR) (by simp;omega) (by simp) ?_;intro u9 w9 hp9 hg9 hat9;rw [List.nil_append] at hp9;have HP9:=Z9 hp9;have HG9:=Z9 hg9;clear hp9 hg9 hat9)
 have hb9:Below w.heap.size w w9:=((Below.refl _ _).alloc (Nat.le_refl _) _).trans ((Below.refl _ _).grown (uh HG9) (by simp) (fun i e=>by cases e;exact Nat.le_refl _))
 go_wp2_with fail
 go_ret
 exact ⟨_,rfl,uh HP9,hb9⟩
theorem OC {w:World} {v:Value} {ps:List Int} (h:Rs w v ps) (hl:ps.length<=1000):Calls Tryz.prog 150 #[v] w fun e w'=> ∃ v',e= .returned v'/\NumsAt w.heap.size w' v' ps/\Below w.heap.size w w':=by
 have HR:=Z9 (h.below ((Below.refl _ _).alloc (Nat.le_refl _) (.cells #[] 2)))
 obtain ⟨a,cap,rfl,hc,hm,hr⟩:=h
 clear hr
 go_enter Tryz.func150,Tryz.ntmps150
 go_wp2_with (at_builtin;refine ZN tyN rfl (.tmp 3) (.tmp 4) 100 Tryz.underlying100 rfl w.heap.size _ _ [] ps rfl rfl (Zb rfl (Nat.le_refl _)) (uh HR) (by simp;omega) (by simp) ?_;intro u9 w9 hp9 hg9 hat9;rw [List.nil_append] at hp9;have HP9:=Z9 hp9;have HG9:=Z9 hg9;clear hp9 hg9 hat9)
 have hb9:Below w.heap.size w w9:=((Below.refl _ _).alloc (Nat.le_refl _) _).trans ((Below.refl _ _).grown (uh HG9) (by simp) (fun i e=>by cases e;exact Nat.le_refl _))
 go_wp2_with fail
 go_ret
 exact ⟨_,rfl,uh HP9,hb9⟩
theorem Ry {w:World} {v0 v1 v2 v3 v4:Value} {m:Z3} (h:Smy w v0 v1 v2 v3 v4 m) (hF:Few m) :
  Calls Tryz.prog 81 #[.agg #[v0,v1,v2,v3,v4,.int .i64 m.now]] w fun e w'=> ∃ u0 u1 u2 u3 u4 qs,e= .returned (.agg #[u0,u1,u2,u3,u4,.int .i64 m.now])/\FullSmy w.heap.size w' u0 u1 u2 u3 u4 m qs/\Below w.heap.size w w':=by
 have Hv0:=Z9 h
 have HF:=Z9 hF
 obtain ⟨a0,p0,a1,p1,a2,p2,a3,p3,a4,p4,rfl,rfl,rfl,rfl,rfl,_,_,_,_,_,_,_,_,_,_⟩:=h.five
 clear h hF
 go_enter Tryz.func81,Tryz.ntmps81
 go_wp2_with fail
 obtain ⟨W,hW,kb,kr,BB⟩:=YP w 32 (S6 a0 p0 a1 p1 a2 p2 a3 p3 a4 p4 m) 32 E6
 rw [hW]
 clear hW
 obtain ⟨c0,c1,c2,c3,c4,c5⟩:=(uh kb).c6
 refine ZP (S:=fun w'=>w'.cell? ⟨w.heap.size,0,none⟩=some (.slice a0 m.rooms.length p0)/\w'.cell? ⟨w.heap.size,1,none⟩=some (.slice a1 m.guilds.length p1)/\w'.cell? ⟨w.heap.size,2,none⟩=some (.slice a2 m.smiths.length p2)/\w'.cell? ⟨w.heap.size,3,none⟩=some (.slice a3 m.desks.length p3)/\w'.cell? ⟨w.heap.size,4,none⟩=some (.slice a4 m.paces.length p4)/\w'.cell? ⟨w.heap.size,5,none⟩=some (.int .i64 m.now)) (by kernel_rfl) (List.cons_ne_nil _ _) (by kernel_rfl) ⟨c0,c1,c2,c3,c4,c5⟩ (fun hHeld=> ?_)
 replace kb:=Z9 ((uh kb).below (Below.refl _ _).drew (uh kb).lt)
 replace kr:=Z9 ((uh kr).below (Below.refl _ _).drew (uh kr).lt)
 replace BB:=Z9 ((uh BB).drew)
 have Hv:=Z9 ((uh Hv0).below (uh BB))
 clear c0 c1 c2 c3 c4 c5
 simp only [List.dropLast_cons_cons,List.dropLast_singleton,List.length_cons,List.length_nil,Nat.zero_add,Nat.reduceAdd]
 generalize W.drew=X0 at *
 have hz0:w.heap.size+2<=X0.heap.size:=by have:=(uh kr).lt;omega
 (refine tk 0 rfl (by assumption) ?_;(try simp only [Act.put,sA,sZ,sS]))
 (refine tk 1 rfl (by assumption) ?_;(try simp only [Act.put,sA,sZ,sS]))
 (refine tk 3 rfl (by assumption) ?_;(try simp only [Act.put,sA,sZ,sS]))
 (refine tk 4 rfl (by assumption) ?_;(try simp only [Act.put,sA,sZ,sS]))
 (refine tk 6 rfl (by assumption) ?_;(try simp only [Act.put,sA,sZ,sS]))
 (refine tk 9 rfl (by assumption) ?_;(try simp only [Act.put,sA,sZ,sS]))
 (refine tk 12 rfl (by assumption) ?_;(try simp only [Act.put,sA,sZ,sS]))
 (refine tk 13 rfl (by assumption) ?_;(try simp only [Act.put,sA,sZ,sS]))
 (refine tk 15 rfl (by assumption) ?_;(try simp only [Act.put,sA,sZ,sS]))
 (refine tk 16 rfl (by assumption) ?_;(try simp only [Act.put,sA,sZ,sS]))
 refine rd 2 rfl (fun K hK=> ?_)
 go_simp
 refine (Pe (uh Hv).rooms (uh HF).rooms (uh HF).paces).mono ?_
 rintro e9 X1 ⟨u0,qs,rfl,hmap,hp,hb⟩
 replace Hv:=Z9 ((uh Hv).below hb)
 replace kb:=bl kb hb
 replace kr:=bl kr hb
 replace BB:=bt BB hb
 have Hmap:=Z9 hmap
 have hql:qs.length=m.rooms.length:=by rw [<-hmap,List.length_map]
 obtain ⟨b0,q0,hu0⟩:∃ b0 q0,u0= .slice b0 m.rooms.length q0:=by
  obtain ⟨a9,c9,e9⟩:=hp.shape
  exact ⟨a9,c9,by rw [e9,hql]⟩
 subst hu0
 have N0:Hid (OwnHall (w.heap.size+2) X1 (.slice b0 m.rooms.length q0) qs):=Z9 (hp.mono hz0)
 have L0:Hid (∀ b,((Value.slice b0 m.rooms.length q0).ownBlock=some b\/ ∃ q ∈ qs,q.2.ownBlock=some b)->b<X1.heap.size):=Z9 (fun b e=>(hp.lt e).2)
 have hz1:w.heap.size+2<=X1.heap.size:=by have:=hb.size;omega
 clear hmap hql hp hb
 refine hK.out _ _ (uh kb).c6 (fun hHeld=> ?_)
 clear hK K
 (try simp only [Act.put,sA,sZ,sS])
 refine rd 5 rfl (fun K hK=> ?_)
 go_simp
 refine (Qv (uh Hv).guilds (uh HF).guilds).mono ?_
 rintro e9 X2 ⟨u1,rfl,hp,hb⟩
 replace Hv:=Z9 ((uh Hv).below hb)
 replace kb:=bl kb hb
 replace kr:=bl kr hb
 replace BB:=bt BB hb
 replace N0:=Z9 ((uh N0).later hb)
 obtain ⟨b1,q1,hu1⟩:=RecAt.shape hp
 subst hu1
 have N1:Hid (GuildsAt (w.heap.size+2) X2 (.slice b1 m.guilds.length q1) m.guilds):=Z9 (RecAt.mono hp (by omega))
 have L1:Hid (∀ b,(Value.slice b1 m.guilds.length q1).ownBlock=some b->X1.heap.size<=b/\b<X2.heap.size):=Z9 (fun b e=>RecAt.lt hp e)
 have hsX2:=hb.size
 clear hp hb
 refine hK.out _ _ (uh kb).c6 (fun hHeld=> ?_)
 clear hK K
 (try simp only [Act.put,sA,sZ,sS])
 refine rd 7 rfl (fun K hK=> ?_)
 go_simp
 refine (VS _ _ _ _ _ _ _ _ _ _ _ _ _ _ _ _ _).mono ?_
 rintro e9 X3 ⟨rfl,hb⟩
 replace Hv:=Z9 ((uh Hv).below hb)
 replace kb:=bl kb hb
 replace kr:=bl kr hb
 replace BB:=bt BB hb
 replace N0:=Z9 ((uh N0).later hb)
 replace N1:=Z9 (RecAt.later (uh N1) hb)
 have hsX3:=hb.size
 clear hb
 refine hK.out _ _ (uh kb).c6 (fun hHeld=> ?_)
 clear hK K
 (try simp only [Act.put,sA,sZ,sS])
 refine rd 8 rfl (fun K hK=> ?_)
 go_simp
 refine (Qw (uh Hv).smiths (Nat.le_trans (uh HF).smiths (by omega))).mono ?_
 rintro e9 X4 ⟨u2,rfl,hp,hb⟩
 replace Hv:=Z9 ((uh Hv).below hb)
 replace kb:=bl kb hb
 replace kr:=bl kr hb
 replace BB:=bt BB hb
 replace N0:=Z9 ((uh N0).later hb)
 replace N1:=Z9 (RecAt.later (uh N1) hb)
 obtain ⟨b2,q2,hu2⟩:=RecAt.shape hp
 subst hu2
 have N2:Hid (SmithsAt (w.heap.size+2) X4 (.slice b2 m.smiths.length q2) m.smiths):=Z9 (RecAt.mono hp (by omega))
 have L2:Hid (∀ b,(Value.slice b2 m.smiths.length q2).ownBlock=some b->X3.heap.size<=b/\b<X4.heap.size):=Z9 (fun b e=>RecAt.lt hp e)
 have hsX4:=hb.size
 clear hp hb
 refine hK.out _ _ (uh kb).c6 (fun hHeld=> ?_)
 clear hK K
 (try simp only [Act.put,sA,sZ,sS])
 refine rd 10 rfl (fun K hK=> ?_)
 go_simp
 refine (Lj _ _ _ _ _ _ _ _ _ _ _ _ _ _ _ _ _).mono ?_
 rintro e9 X5 ⟨rfl,hb⟩
 replace Hv:=Z9 ((uh Hv).below hb)
 replace kb:=bl kb hb
 replace kr:=bl kr hb
 replace BB:=bt BB hb
 replace N0:=Z9 ((uh N0).later hb)
 replace N1:=Z9 (RecAt.later (uh N1) hb)
 replace N2:=Z9 (RecAt.later (uh N2) hb)
 have hsX5:=hb.size
 clear hb
 refine hK.out _ _ (uh kb).c6 (fun hHeld=> ?_)
 clear hK K
 (try simp only [Act.put,sA,sZ,sS])
 refine rd 11 rfl (fun K hK=> ?_)
 go_simp
 refine (Pd (uh Hv).desks (uh HF).desks).mono ?_
 rintro e9 X6 ⟨u3,rfl,hp,hb⟩
 replace Hv:=Z9 ((uh Hv).below hb)
 replace kb:=bl kb hb
 replace kr:=bl kr hb
 replace BB:=bt BB hb
 replace N0:=Z9 ((uh N0).later hb)
 replace N1:=Z9 (RecAt.later (uh N1) hb)
 replace N2:=Z9 (RecAt.later (uh N2) hb)
 obtain ⟨b3,q3,hu3⟩:=RecAt.shape hp
 subst hu3
 have N3:Hid (DesksAt (w.heap.size+2) X6 (.slice b3 m.desks.length q3) m.desks):=Z9 (RecAt.mono hp (by omega))
 have L3:Hid (∀ b,(Value.slice b3 m.desks.length q3).ownBlock=some b->X5.heap.size<=b/\b<X6.heap.size):=Z9 (fun b e=>RecAt.lt hp e)
 have hsX6:=hb.size
 clear hp hb
 refine hK.out _ _ (uh kb).c6 (fun hHeld=> ?_)
 clear hK K
 (try simp only [Act.put,sA,sZ,sS])
 refine rd 14 rfl (fun K hK=> ?_)
 go_simp
 refine (OC (uh Hv).paces (uh HF).nums).mono ?_
 rintro e9 X7 ⟨u4,rfl,hp,hb⟩
 replace Hv:=Z9 ((uh Hv).below hb)
 replace kb:=bl kb hb
 replace kr:=bl kr hb
 replace BB:=bt BB hb
 replace N0:=Z9 ((uh N0).later hb)
 replace N1:=Z9 (RecAt.later (uh N1) hb)
 replace N2:=Z9 (RecAt.later (uh N2) hb)
 replace N3:=Z9 (RecAt.later (uh N3) hb)
 obtain ⟨b4,q4,hu4⟩:=RecAt.shape hp
 subst hu4
 have N4:Hid (NumsAt (w.heap.size+2) X7 (.slice b4 m.paces.length q4) m.paces):=Z9 (RecAt.mono hp (by omega))
 have L4:Hid (∀ b,(Value.slice b4 m.paces.length q4).ownBlock=some b->X6.heap.size<=b/\b<X7.heap.size):=Z9 (fun b e=>RecAt.lt hp e)
 have hsX7:=hb.size
 clear hp hb
 refine hK.out _ _ (uh kb).c6 (fun hHeld=> ?_)
 clear hK K
 (try simp only [Act.put,sA,sZ,sS])
 (refine tk 17 rfl (by assumption) ?_;(try simp only [Act.put,sA,sZ,sS]))
 obtain ⟨o0,o1,o2,o3,o4,o5⟩:=(uh kr).c6
 obtain ⟨f0,f1,f2,f3,f4,f5⟩:=(uh kr).f6
 refine wpAnyH_done (by kernel_rfl) ?_ _
 refine ZI rfl rfl ?_
 go_simp
 clear hHeld
 have HFull:Hid (FullSmy (w.heap.size+2) X7 (.slice b0 m.rooms.length q0) (.slice b1 m.guilds.length q1) (.slice b2 m.smiths.length q2) (.slice b3 m.desks.length q3) (.slice b4 m.paces.length q4) m qs):=Z9 (I2 X1.heap.size X2.heap.size X4.heap.size X6.heap.size (uh N0) (uh Hmap) (uh N1) (uh N2) (uh N3) (uh N4) (uh L0) (uh L1) (fun b e=>by have:=uh L2 b e;omega) (fun b e=>by have:=uh L3 b e;omega) (fun b e=>(uh L4 b e).1) (by omega) (by omega) (by omega))
 go_wp2_with fail
 refine bodyPost_ret (v:= .agg #[.slice b0 m.rooms.length q0,.slice b1 m.guilds.length q1,.slice b2 m.smiths.length q2,.slice b3 m.desks.length q3,.slice b4 m.paces.length q4,.int .i64 m.now]) (by simp [results,Tryz.results81,go_sem, *]) rfl ⟨_,_,_,_,_,qs,rfl,?_,?_⟩
 ·refine FullSmy.mono (n₀:=w.heap.size+2) ?_ (by omega)
  iterate 6 (refine FullSmy.set ?_ _ _ _ (by omega))
  exact uh HFull
 ·iterate 6 (refine Below.setCell ?_ (by show _<=w.heap.size+1;omega) _)
  exact uh BB
structure Two (p q:Option Nat) (w w':World):Prop where
 os:w'.os=w.os
 tape:w'.tape=w.tape
 output:w'.output=w.output
 size:w.heap.size<=w'.heap.size
 block:∀ k,k<w.heap.size->p ≠ some k->q ≠ some k->w'.heap[k]?=w.heap[k]?
section
variable {p q : Option Nat} {w w' w'' : World}
theorem Two.refl (p q:Option Nat) (w:World):Two p q w w:=⟨rfl,rfl,rfl,Nat.le_refl _,fun _ _ _ _=>rfl⟩
theorem Two.trans (h:Two p q w w') (k:Two p q w' w''):Two p q w w'':=
 ⟨k.os.trans h.os,k.tape.trans h.tape,k.output.trans h.output,Nat.le_trans h.size k.size,fun i hi hp hq=>(k.block i (Nat.lt_of_lt_of_le hi h.size) hp hq).trans (h.block i hi hp hq)⟩
theorem Two.of_below (h:Below w.heap.size w w'):Two p q w w':=⟨h.os,h.tape,h.output,h.size,fun i hi _ _=>h.block i hi⟩
theorem Two.of_set (w:World) {g:Nat} (hg:p=some g\/q=some g) (o:Nat) (u:Value):Two p q w (w.setCell ⟨g,o,none⟩ u):=
 ⟨rfl,rfl,rfl,by simp,fun i hi hp hq=>heap_setCell_other w _ i u (fun e=>by
  have e:i=g:=e
  subst e
  rcases hg with h | h
  ·exact hp h
  ·exact hq h)⟩
theorem Two.below {B:Nat} (h:Two p q w w') (hB:B<=w.heap.size) (hp:∀ k,p=some k->B<=k) (hq:∀ k,q=some k->B<=k):Below B w w':=
 ⟨h.os,h.tape,h.output,h.size,fun i hi=>h.block i (Nat.lt_of_lt_of_le hi hB) (fun e=>by have:=hp i e;omega) (fun e=>by have:=hq i e;omega)⟩
theorem Blk.two {R:Nat} {t:TypeId} {cs:Array Value} (h:Blk w R t cs) (ht:Two p q w w') (hp:p ≠ some R) (hq:q ≠ some R):Blk w' R t cs:=h.same (ht.block R h.lt hp hq)
end
theorem OwnHall.same2 {n₀:Nat} {w w':World} {v:Value} {qs:List (Z0 × Value)} (h:OwnHall n₀ w v qs) (hs:∀ k,(v.ownBlock=some k\/ ∃ q ∈ qs,q.2.ownBlock=some k)->w'.heap[k]?=w.heap[k]?):OwnHall n₀ w' v qs:=
 ⟨XX h.row (fun k e=>hs k (.inl e)),fun q hq=>XX (h.paces q hq) (fun k e=>hs k (.inr ⟨q,hq,e⟩)),h.off,h.apart⟩
section
variable {n₀ n cap g : Nat} {w : World} {v0 v1 v2 v3 v4 : Value} {m : Z3} {qs : List (Z0 × Value)}
theorem FullSmy.putS (hf:FullSmy n₀ w v0 v1 (.slice (some ⟨g,0,none⟩) n cap) v3 v4 m qs) (hn:n=m.smiths.length) {j i:Nat} (hj:j<m.smiths.length) (hi:i<11) (u:Value) (x:Z4) (hx:ZR x=(ZR (Z8 m.smiths j)).set i u) :
  FullSmy n₀ (w.setCell ⟨g,j*11+i,none⟩ u) v0 v1 (.slice (some ⟨g,0,none⟩) n cap) v3 v4 { m with smiths:=m.smiths.set j x } qs:=by
 have hb:(Value.slice (some ⟨g,0,none⟩) n cap).ownBlock=some g:=rfl
 have hne:∀ k,k ≠ g->(w.setCell ⟨g,j*11+i,none⟩ u).heap[k]?=w.heap[k]?:=fun k hk=>heap_setCell_other w _ k u hk
 refine ⟨hf.hall.same2 fun k e=>hne k fun e'=> ?_,hf.rooms,RecAt.same hf.guilds fun k e=>hne k fun e'=> ?_,(RecAt.put1 ZW (by omega) hf.smiths hn hj hi u x hx).1,RecAt.same hf.desks fun k e=>hne k fun e'=> ?_,RecAt.same hf.paces fun k e=>hne k fun e'=> ?_,hf.h1,hf.h2,hf.h3,hf.h4,hf.a12,hf.a13,hf.a14,hf.a23,hf.a24,hf.a34⟩
 ·subst e'
  rcases e with e | ⟨q,hq,e⟩
  ·exact hf.h2.1 _ hb e
  ·exact hf.h2.2 q hq _ hb e
 ·subst e';exact hf.a12 _ e hb
 ·subst e';exact hf.a23 _ hb e
 ·subst e';exact hf.a24 _ hb e
theorem FullSmy.putD (hf:FullSmy n₀ w v0 v1 v2 (.slice (some ⟨g,0,none⟩) n cap) v4 m qs) (hn:n=m.desks.length) {j i:Nat} (hj:j<m.desks.length) (hi:i<3) (u:Value) (x:Ys) (hx:XA x=(XA (Z8 m.desks j)).set i u) :
  FullSmy n₀ (w.setCell ⟨g,j*3+i,none⟩ u) v0 v1 v2 (.slice (some ⟨g,0,none⟩) n cap) v4 { m with desks:=m.desks.set j x } qs:=by
 have hb:(Value.slice (some ⟨g,0,none⟩) n cap).ownBlock=some g:=rfl
 have hne:∀ k,k ≠ g->(w.setCell ⟨g,j*3+i,none⟩ u).heap[k]?=w.heap[k]?:=fun k hk=>heap_setCell_other w _ k u hk
 refine ⟨hf.hall.same2 fun k e=>hne k fun e'=> ?_,hf.rooms,RecAt.same hf.guilds fun k e=>hne k fun e'=> ?_,RecAt.same hf.smiths fun k e=>hne k fun e'=> ?_,(RecAt.put1 ZF (by omega) hf.desks hn hj hi u x hx).1,RecAt.same hf.paces fun k e=>hne k fun e'=> ?_,hf.h1,hf.h2,hf.h3,hf.h4,hf.a12,hf.a13,hf.a14,hf.a23,hf.a24,hf.a34⟩
 ·subst e'
  rcases e with e | ⟨q,hq,e⟩
  ·exact hf.h3.1 _ hb e
  ·exact hf.h3.2 q hq _ hb e
 ·subst e';exact hf.a13 _ e hb
 ·subst e';exact hf.a23 _ e hb
 ·subst e';exact hf.a34 _ hb e
theorem FullSmy.putP (hf:FullSmy n₀ w v0 v1 v2 v3 (.slice (some ⟨g,0,none⟩) n cap) m qs) (hn:n=m.paces.length) {j:Nat} (hj:j<m.paces.length) (x:Int) :
  FullSmy n₀ (w.setCell ⟨g,j,none⟩ (.int .i64 x)) v0 v1 v2 v3 (.slice (some ⟨g,0,none⟩) n cap) { m with paces:=m.paces.set j x } qs:=by
 have hb:(Value.slice (some ⟨g,0,none⟩) n cap).ownBlock=some g:=rfl
 have hne:∀ k,k ≠ g->(w.setCell ⟨g,j,none⟩ (.int .i64 x)).heap[k]?=w.heap[k]?:=fun k hk=>heap_setCell_other w _ k _ hk
 have hput:=(RecAt.put1 (i:=0) YJ (by omega) hf.paces hn hj (by omega) (.int .i64 x) x (by simp [Uj])).1
 simp only [Nat.mul_one,Nat.add_zero] at hput
 refine ⟨hf.hall.same2 fun k e=>hne k fun e'=> ?_,hf.rooms,RecAt.same hf.guilds fun k e=>hne k fun e'=> ?_,RecAt.same hf.smiths fun k e=>hne k fun e'=> ?_,RecAt.same hf.desks fun k e=>hne k fun e'=> ?_,hput,hf.h1,hf.h2,hf.h3,hf.h4,hf.a12,hf.a13,hf.a14,hf.a23,hf.a24,hf.a34⟩
 ·subst e'
  rcases e with e | ⟨q,hq,e⟩
  ·exact hf.h4.1 _ hb e
  ·exact hf.h4.2 q hq _ hb e
 ·subst e';exact hf.a14 _ e hb
 ·subst e';exact hf.a24 _ e hb
 ·subst e';exact hf.a34 _ e hb
end
end Go.Proofs.YtnponpamjddpjaaGreat
namespace Go.Proofs.YtnponpamjddpjaaGreat
open Go.ChangeShapes Go.WideShapes Go.ChangeAt Go.RowKit Go.Sort
set_option linter.unusedVariables false
attribute [local go_sem ↓] RS Ts
theorem XS (n:Int) (w:World):Calls Tryz.prog 144 #[.int .i64 n] w fun e w'=>e= .returned (.bool (inB n (-1000000000000) 1000000000000))/\w'=w:=by
 go_enter Tryz.func144,Tryz.ntmps144
 go_wp2_with (go_at_call 128;refine (ZZ _ _ _ _).mono ?_;rintro e w' ⟨rfl,rfl⟩)
 go_ret
 exact ⟨rfl,rfl⟩
theorem Zw (st be rk my gu lo hi hd ca ut wk:Int) (w:World):Calls Tryz.prog 139 #[.agg #[.int .i64 st,.int .i64 be,.int .i64 rk,.int .i64 my,.int .i64 gu,.int .i64 lo,.int .i64 hi,.int .i64 hd,.int .i64 ca,.int .i64 ut,.int .i64 wk]] w fun e w'=>e= .returned (.bool (ZE (st,be,rk,my,gu,lo,hi,hd,ca,ut,wk)))/\Below w.heap.size w w':=by
 by_cases hst:st=0
 ·subst hst
  unfold ZE
  rw [PN rfl,Bool.or_false]
  obtain ⟨q,hq⟩:∃ q,Wb (0,be,rk,my,gu,lo,hi,hd,ca,ut,wk)=q:=⟨_,rfl⟩
  rw [hq]
  have hz:UU (0,be,rk,my,gu,lo,hi,hd,ca,ut,wk) (0,0,0,0,0,0,0,0,0,0,0)=q:=hq
  clear hq
  go_enter Tryz.func139,Tryz.ntmps139
  go_wp2_with fail
  go_ret
  exact ⟨rfl,(Below.refl _ _).alloc (Nat.le_refl _) _⟩
 ·have hne:(st ==0)=false:=by simpa using hst
  unfold ZE
  rw [TD hst,Bool.false_or]
  unfold Zf
  simp only
  obtain ⟨x0,x1⟩:=UX rk
  obtain ⟨x,hx⟩:∃ x,Zu rk=x:=⟨_,rfl⟩
  rw [hx] at x0 x1 ⊢
  have Hw:=Z9 hx
  have hwr:IntKind.i64.wrap (x-1)=x-1:=by rw [IntKind.wrap_i64];omega
  clear hx hst
  cases h0:inB st 1 3
  ·go_enter Tryz.func139,Tryz.ntmps139
   go_wp2_with (first | (go_at_call 128;refine (ZZ _ _ _ _).mono ?_;rintro e w' ⟨rfl,rfl⟩) | (go_at_call 206;refine (Za _ _).mono ?_;rintro e w' ⟨rfl,rfl⟩) | (go_at_call 74;refine (YW _ _ _).mono ?_;rintro e w' ⟨rfl,rfl⟩))
   go_ret
   exact ⟨rfl,(Below.refl _ _).alloc (Nat.le_refl _) _⟩
  cases h1:inB be 0 7
  ·go_enter Tryz.func139,Tryz.ntmps139
   go_wp2_with (first | (go_at_call 128;refine (ZZ _ _ _ _).mono ?_;rintro e w' ⟨rfl,rfl⟩) | (go_at_call 206;refine (Za _ _).mono ?_;rintro e w' ⟨rfl,rfl⟩) | (go_at_call 74;refine (YW _ _ _).mono ?_;rintro e w' ⟨rfl,rfl⟩))
   go_ret
   exact ⟨rfl,(Below.refl _ _).alloc (Nat.le_refl _) _⟩
  cases h2:inB rk (-5) 5
  ·go_enter Tryz.func139,Tryz.ntmps139
   go_wp2_with (first | (go_at_call 128;refine (ZZ _ _ _ _).mono ?_;rintro e w' ⟨rfl,rfl⟩) | (go_at_call 206;refine (Za _ _).mono ?_;rintro e w' ⟨rfl,rfl⟩) | (go_at_call 74;refine (YW _ _ _).mono ?_;rintro e w' ⟨rfl,rfl⟩))
   go_ret
   exact ⟨rfl,(Below.refl _ _).alloc (Nat.le_refl _) _⟩
  cases h3:inB my 1 255
  ·go_enter Tryz.func139,Tryz.ntmps139
   go_wp2_with (first | (go_at_call 128;refine (ZZ _ _ _ _).mono ?_;rintro e w' ⟨rfl,rfl⟩) | (go_at_call 206;refine (Za _ _).mono ?_;rintro e w' ⟨rfl,rfl⟩) | (go_at_call 74;refine (YW _ _ _).mono ?_;rintro e w' ⟨rfl,rfl⟩))
   go_ret
   exact ⟨rfl,(Below.refl _ _).alloc (Nat.le_refl _) _⟩
  cases h4:inB gu (-1) 5
  ·go_enter Tryz.func139,Tryz.ntmps139
   go_wp2_with (first | (go_at_call 128;refine (ZZ _ _ _ _).mono ?_;rintro e w' ⟨rfl,rfl⟩) | (go_at_call 206;refine (Za _ _).mono ?_;rintro e w' ⟨rfl,rfl⟩) | (go_at_call 74;refine (YW _ _ _).mono ?_;rintro e w' ⟨rfl,rfl⟩))
   go_ret
   exact ⟨rfl,(Below.refl _ _).alloc (Nat.le_refl _) _⟩
  cases h5:Yl lo hi
  ·go_enter Tryz.func139,Tryz.ntmps139
   go_wp2_with (first | (go_at_call 128;refine (ZZ _ _ _ _).mono ?_;rintro e w' ⟨rfl,rfl⟩) | (go_at_call 206;refine (Za _ _).mono ?_;rintro e w' ⟨rfl,rfl⟩) | (go_at_call 74;refine (YW _ _ _).mono ?_;rintro e w' ⟨rfl,rfl⟩))
   go_ret
   exact ⟨rfl,(Below.refl _ _).alloc (Nat.le_refl _) _⟩
  cases h6:inB hd (-1000000000000) 1000000000000
  ·go_enter Tryz.func139,Tryz.ntmps139
   go_wp2_with (first | (go_at_call 128;refine (ZZ _ _ _ _).mono ?_;rintro e w' ⟨rfl,rfl⟩) | (go_at_call 206;refine (Za _ _).mono ?_;rintro e w' ⟨rfl,rfl⟩) | (go_at_call 74;refine (YW _ _ _).mono ?_;rintro e w' ⟨rfl,rfl⟩))
   go_quiet (first | exact Calls.quiet_of_same (ZZ _ _ _ _) | exact Calls.quiet_of_same (XS _ _) | exact Calls.quiet_of_same (Y1 (uh Hw) _) | exact Calls.quiet_of_same (YE _ _))
   go_wp2_with fail
   go_ret
   exact ⟨rfl,YM ((Below.refl _ _).alloc (Nat.le_refl _) _) _⟩
  cases h7:inB ca 0 (x-1)
  ·go_enter Tryz.func139,Tryz.ntmps139
   go_wp2_with (first | (go_at_call 128;refine (ZZ _ _ _ _).mono ?_;rintro e w' ⟨rfl,rfl⟩) | (go_at_call 206;refine (Za _ _).mono ?_;rintro e w' ⟨rfl,rfl⟩) | (go_at_call 74;refine (YW _ _ _).mono ?_;rintro e w' ⟨rfl,rfl⟩))
   go_quiet (first | exact Calls.quiet_of_same (ZZ _ _ _ _) | exact Calls.quiet_of_same (XS _ _) | exact Calls.quiet_of_same (Y1 (uh Hw) _) | exact Calls.quiet_of_same (YE _ _))
   go_wp2_with fail
   go_ret
   exact ⟨rfl,YM ((Below.refl _ _).alloc (Nat.le_refl _) _) _⟩
  cases h8:inB ut 0 1024
  ·go_enter Tryz.func139,Tryz.ntmps139
   go_wp2_with (first | (go_at_call 128;refine (ZZ _ _ _ _).mono ?_;rintro e w' ⟨rfl,rfl⟩) | (go_at_call 206;refine (Za _ _).mono ?_;rintro e w' ⟨rfl,rfl⟩) | (go_at_call 74;refine (YW _ _ _).mono ?_;rintro e w' ⟨rfl,rfl⟩))
   go_quiet (first | exact Calls.quiet_of_same (ZZ _ _ _ _) | exact Calls.quiet_of_same (XS _ _) | exact Calls.quiet_of_same (Y1 (uh Hw) _) | exact Calls.quiet_of_same (YE _ _))
   go_wp2_with fail
   go_ret
   exact ⟨rfl,YM ((Below.refl _ _).alloc (Nat.le_refl _) _) _⟩
  cases h9:inB wk 0 100000000000
  ·go_enter Tryz.func139,Tryz.ntmps139
   go_wp2_with (first | (go_at_call 128;refine (ZZ _ _ _ _).mono ?_;rintro e w' ⟨rfl,rfl⟩) | (go_at_call 206;refine (Za _ _).mono ?_;rintro e w' ⟨rfl,rfl⟩) | (go_at_call 74;refine (YW _ _ _).mono ?_;rintro e w' ⟨rfl,rfl⟩))
   go_quiet (first | exact Calls.quiet_of_same (ZZ _ _ _ _) | exact Calls.quiet_of_same (XS _ _) | exact Calls.quiet_of_same (Y1 (uh Hw) _) | exact Calls.quiet_of_same (YE _ _))
   go_wp2_with fail
   go_ret
   exact ⟨rfl,YM ((Below.refl _ _).alloc (Nat.le_refl _) _) _⟩
  go_enter Tryz.func139,Tryz.ntmps139
  go_wp2_with (first | (go_at_call 128;refine (ZZ _ _ _ _).mono ?_;rintro e w' ⟨rfl,rfl⟩) | (go_at_call 206;refine (Za _ _).mono ?_;rintro e w' ⟨rfl,rfl⟩) | (go_at_call 74;refine (YW _ _ _).mono ?_;rintro e w' ⟨rfl,rfl⟩))
  go_quiet (first | exact Calls.quiet_of_same (ZZ _ _ _ _) | exact Calls.quiet_of_same (XS _ _) | exact Calls.quiet_of_same (Y1 (uh Hw) _) | exact Calls.quiet_of_same (YE _ _))
  go_wp2_with fail
  go_ret
  exact ⟨rfl,YM ((Below.refl _ _).alloc (Nat.le_refl _) _) _⟩
end Go.Proofs.YtnponpamjddpjaaGreat
namespace Go.Proofs.YtnponpamjddpjaaGreat
open Go.ChangeShapes Go.WideShapes Go.ChangeAt Go.RowKit Go.Sort
set_option linter.unusedVariables false
theorem PB (st be rk my gu lo hi hd ca ut wk:Int) (w:World):Calls Tryz.prog 72 #[.agg #[.int .i64 st,.int .i64 be,.int .i64 rk,.int .i64 my,.int .i64 gu,.int .i64 lo,.int .i64 hi,.int .i64 hd,.int .i64 ca,.int .i64 ut,.int .i64 wk]] w fun e w'=>
  e= .returned (.bool (ZT (st,be,rk,my,gu,lo,hi,hd,ca,ut,wk)))/\Below w.heap.size w w':=by
 unfold ZT
 simp only
 cases h2:(st ==2)
 all_goals
  go_enter Tryz.func72,Tryz.ntmps72
  go_wp2_with fail
  go_ret
  exact ⟨by first | rfl | (simp),(Below.refl _ _).alloc (Nat.le_refl _) _⟩
theorem P2 (h m:Int) (w:World):Calls Tryz.prog 141 #[.int .i64 h,.int .i64 m] w fun e w'=>e= .returned (.bool (Xz h m))/\w'=w:=by
 unfold Xz
 cases h1:inB h (-1000000000000) 1000000000000
 ·go_enter Tryz.func141,Tryz.ntmps141
  go_wp2_with (first | (go_at_call 144;refine (XS _ _).mono ?_;rintro e w' ⟨rfl,rfl⟩) | (go_at_call 128;refine (ZZ _ _ _ _).mono ?_;rintro e w' ⟨rfl,rfl⟩))
  go_ret
  exact ⟨rfl,rfl⟩
 cases h2:inB m (-1000000000000) 1000000000000
 ·go_enter Tryz.func141,Tryz.ntmps141
  go_wp2_with (first | (go_at_call 144;refine (XS _ _).mono ?_;rintro e w' ⟨rfl,rfl⟩) | (go_at_call 128;refine (ZZ _ _ _ _).mono ?_;rintro e w' ⟨rfl,rfl⟩))
  go_ret
  exact ⟨rfl,rfl⟩
 obtain ⟨a0,a1⟩:=ZS h1
 obtain ⟨b0,b1⟩:=ZS h2
 go_enter Tryz.func141,Tryz.ntmps141
 go_wp2_with (first | (go_at_call 144;refine (XS _ _).mono ?_;rintro e w' ⟨rfl,rfl⟩) | (go_at_call 128;refine (ZZ _ _ _ _).mono ?_;rintro e w' ⟨rfl,rfl⟩))
 go_ret
 exact ⟨rfl,rfl⟩
end Go.Proofs.YtnponpamjddpjaaGreat
