/- Part 17 of what the proof rests on. No condition but those that a theorem names. -/
import Derived.Test.YtjhijildaceadaaGreatDoorXg16
import Derived.Laws.CopyRow
set_option maxHeartbeats 8000000
set_option maxRecDepth 100000
namespace Go.Proofs.YtjhijildaceadaaGreatDoor
open Go.ChangeShapes Go.WideShapes Go.ChangeAt Go.RowKit Go.Sort
set_option linter.unusedVariables false
set_option linter.unusedSimpArgs false
set_option maxRecDepth 100000
variable {w w' w0 w1 w2 w3 w₀ wr W W' X A B C : World} {v v0 v1 v2 v3 v4 u u0 u1 u2 u3 u4 : Value} {m : Z4}
theorem Gs (a:Option Addr) (n cap k:Nat) (hn:n=k+1) (hc:n<=cap) (W:World):(Instr.slice 50 (.slice a n cap) (some (.int .i64 1)) (some (.int .i64 (n:Int))) (some (.int .i64 (n:Int)))).run Tryz.prog W= .ok (.slice (if k=0 then a else a.map (·.add 2)) k k) W:=by
 obtain ⟨i0,hi,hz0,hz1,hz2⟩:=info_parts Ws
 have hs:∀ W,(sizeOf 94).run Tryz.prog W= .ok 2 W:=fun W=>by simp [sizeOf,typeInfo,hi,hz1]
 have hb:∀ W,(Instr.sliceBounds true n cap (some (.int .i64 1)) (some (.int .i64 (n:Int))) (some (.int .i64 (n:Int)))).run Tryz.prog W= .ok (1,n,n) W:=fun W=>by
  have h1:(0:Int)<=(n:Int)/\(n:Int)<=(cap:Int):=by omega
  have h2:(0:Int)<=(n:Int)/\(n:Int)<=(n:Int):=by omega
  have h3:(0:Int)<=1/\(1:Int)<=(n:Int):=by omega
  simp only [Instr.sliceBounds,Instr.sliceBound,asIntOf,Sem.run_bind,Sem.run_pure,Result.andThen_ok,if_pos h1,if_pos h2,if_pos h3,Int.toNat_natCast]
  rfl
 simp only [Instr.slice,Sem.run_bind,run_underlying Tryz.underlying50,Result.andThen,hb,hs,Sem.run_pure]
 have e1:(n=1)=(k=0):=by apply propext;omega
 rw [show n-1=k by omega]
 simp only [e1,Nat.one_mul]
theorem IsPaces.behind {a:Option Addr} {n cap:Nat} {e:Z6} {t:List Z6} (h:IsPaces w (.slice a n cap) (e::t)):IsPaces w (.slice (if t.length=0 then a else a.map (·.add 2)) t.length t.length) t:=by
 obtain ⟨a',cap',he,hc,hm,hr⟩:=h
 cases he
 rw [List.length_cons] at hc
 refine ⟨_,t.length,rfl,Nat.le_refl _,by omega,?_⟩
 by_cases h0:t.length=0
 ·exact .inl (List.eq_nil_of_length_eq_zero h0)
 ·rcases hr with hr | ⟨b,off,rfl,hlt,hcl⟩
  ·cases hr
  ·rw [if_neg h0]
   refine .inr ⟨b,off+2,by simp [L9],hlt,fun j hj=> ?_⟩
   have:=hcl (j+1) (by simp;omega)
   rw [show off+(j+1)*2=off+2+j*2 by omega] at this
   exact this
theorem Oa {g base sc:Nat} {sp:Option Addr} {ps:List Z6} {xs:List Value} (ty:TypeId) (hd:w.ownsRow base 94 2 (.slice (some ⟨g,0,none⟩) ps.length ps.length) ps.length xs) (hs:IsPaces w (.slice sp ps.length sc) ps) :
  ∃ w',(Builtin.copy_ #[50,50] ty #[.slice (some ⟨g,0,none⟩) ps.length ps.length,.slice sp ps.length sc]).run Tryz.prog w= .ok (goInt ps.length) w'/\EntsAt base w' (.slice (some ⟨g,0,none⟩) ps.length ps.length) ps/\Below base w w':=by
 obtain ⟨i0,hi,hz0,hz1,hz2⟩:=info_parts Ws
 rcases hd.2 with ⟨he,_⟩ | ⟨g',cap,cur,he,hb,hg,hnc,hcm,hsz,htk⟩
 ·cases he
 cases he
 have hpl:=Un ps
 obtain ⟨a',cap',he,hc,hm,hr⟩:=hs
 cases he
 have hload:(Builtin.firstCells 2 ps.length (.slice sp ps.length sc)).run Tryz.prog w= .ok (Zq ps).toArray w:=by
  rcases hr with hr | ⟨b,off,rfl,hlt,hcl⟩
  ·subst hr
   cases sp with
   | none=>rfl
   | some ad=>
    have:=run_loadCells_list (P:=Tryz.prog) w ad (Zq []) (fun j v h=>by simp [Zq] at h)
    exact this
  ·have:=run_loadCells_list (P:=Tryz.prog) w ⟨b,off,none⟩ (Zq ps) (fun j v h=>by
    have hj:j<ps.length*2:=by
     have:=(List.getElem?_eq_some_iff.1 h).1
     omega
    have hp:=VM (f:=fun p:Z6=>Value.int .i64 p.1) (g:=fun p:Z6=>Value.int .i64 p.2) ps (j / 2) (by omega)
    have hat:Z7 ps (j / 2)=ps[j / 2]'(by omega):=by unfold Z7;simp [List.getD,(by omega:j / 2<ps.length)]
    obtain ⟨c0,c1⟩:=hcl (j / 2) (by omega)
    rw [hat] at c0 c1
    have ha:(⟨b,off,none⟩:Addr).add j=⟨b,off+j,none⟩:=by unfold Addr.add;split<;>simp_all
    rw [ha]
    rcases Nat.mod_two_eq_zero_or_one j with e2 | e2
    ·have ej:j=j / 2*2:=by omega
     have h9:(Zq ps)[j / 2*2]?=some (.int .i64 (ps[j / 2]'(by omega)).1):=hp.1
     rw [<-ej,h] at h9
     cases h9
     rw [show off+j=off+j / 2*2 by omega]
     exact c0
    ·have ej:j=j / 2*2+1:=by omega
     have h9:(Zq ps)[j / 2*2+1]?=some (.int .i64 (ps[j / 2]'(by omega)).2):=hp.2
     rw [<-ej,h] at h9
     cases h9
     rw [show off+j=off+j / 2*2+1 by omega]
     exact c1)
   rw [hpl] at this
   exact this
 have hst:=run_storeCells_at Tryz.prog g 0 94 (Zq ps) 0 cur w hg (by rw [hpl,hsz];omega) (fun v hv=>by
  unfold Zq at hv
  obtain ⟨p,_,hp⟩:=List.mem_flatMap.1 hv
  simp only [List.mem_cons,List.not_mem_nil,or_false] at hp
  rcases hp with rfl | rfl<;>rfl)
 have hdrop:cur.toList.drop (Zq ps).length=[]:=by
  rw [List.drop_eq_nil_iff,Array.length_toList,hsz,hpl];exact Nat.le_refl _
 simp only [Nat.zero_add,List.take_zero,List.nil_append,hdrop,List.append_nil] at hst
 refine ⟨w.setRow g (Zq ps).toArray,?_,⟨hpl,.inr ⟨g,ps.length,(Zq ps).toArray,rfl,hb,setRow_heap w g _ _ _ _ hg,Nat.le_refl _,hcm,by simp [hpl],?_⟩⟩,?_⟩
 ·have hsz2:(sizeOf 94).run Tryz.prog w= .ok 2 w:=by simp [sizeOf,typeInfo,hi,hz1]
  have hlen:(Builtin.lenOf (.slice sp ps.length sc)).run Tryz.prog w= .ok ps.length w:=rfl
  have hmin:Nat.min ps.length ps.length=ps.length:=Nat.min_self _
  unfold Builtin.copy_
  simp only [Sem.run_bind,run_underlying Tryz.underlying50,Result.andThen_ok,hlen,hmin,hsz2,hload,List.getElem?_toArray,List.getElem?_cons_zero,List.getElem?_cons_succ,Sem.run_pure,hst]
 ·rw [List.take_of_length_le (by simp [hpl])]
 ·exact ⟨rfl,rfl,rfl,by simp [World.setRow],fun k hk=>setRow_other w g k _ (by omega)⟩
theorem Oh  {e:Z6} {t:List Z6} (h:IsPaces w v (e::t)) (hl:t.length<=1000):Calls Tryz.prog 308 #[v] w fun e w'=> ∃ v',e= .returned v'/\EntsAt w.heap.size w' v' t/\Below w.heap.size w w':=by
 have Hv:=Z9 h
 obtain ⟨a,cap,rfl,hc,hm,hr⟩:=h
 obtain ⟨n,hn⟩:∃ n,n=t.length+1:=⟨_,rfl⟩
 rw [show (e::t).length=n by rw [hn];rfl] at Hv hc ⊢
 have hcut:=fun W=>Gs a n cap t.length hn hc W
 have HB:=Z9 (uh Hv).behind
 obtain ⟨sp,hsp⟩:∃ q,(if t.length=0 then a else a.map (·.add 2))=q:=⟨_,rfl⟩
 rw [hsp] at HB
 simp only [hsp] at hcut
 have hn1:n<=1001:=by omega
 clear hr hn hsp
 obtain ⟨i0,hi,hz0,hz1,hz2⟩:=info_parts Ws
 go_enter Tryz.func308,Tryz.ntmps308
 go_upto_region 3 with (at_make;refine wpList_make_full _ rfl _ _ 50 rfl w.heap.size 94 i0 (.agg #[.int .i64 0,.int .i64 0]) 2 Tryz.underlying50 hi hz0 hz1 _ _ _ _ t.length rfl rfl rfl rfl (by rw [hz2];omega) (by unfold maxLen;omega) (Nat.le_refl _) ?_;intro w0 hown hgrow;have HBB:Hid (Below w.heap.size w w0):=Z9 ((Below.refl _ _).grown hgrow (Nat.le_refl _) (fun k e=>by cases e));obtain ⟨w9,hrun,he9,hb9⟩:=Oa 3 hown ((uh HB).below (uh HBB));have HR:=Z9 hrun;have HE:=Z9 he9;have HB9:=Z9 hb9;clear hown hgrow hrun he9 hb9)
 have hr9:=uh HR
 go_wp2_with fail
 go_ret
 exact ⟨_,rfl,uh HE,(uh HBB).trans (uh HB9)⟩
theorem PZ  {ps:List ZF} (h:XJ w v ps) (hl:ps.length<=1000):Calls Tryz.prog 250 #[v] w fun e w'=> ∃ v',e= .returned v'/\GuildsAt w.heap.size w' v' ps/\Below w.heap.size w w':=by
 have HR:=Z9 (h.below ((Below.refl _ _).alloc (Nat.le_refl _) (.cells #[] 90)))
 obtain ⟨a,cap,rfl,hc,hm,hr⟩:=h
 clear hr
 go_enter Tryz.func250,Tryz.ntmps250
 go_wp2_with (at_builtin;refine ZO tyG rfl (.tmp 3) (.tmp 4) 214 Tryz.underlying214 rfl w.heap.size _ _ [] ps rfl rfl (Zh rfl (Nat.le_refl _)) (uh HR) (by simp;omega) (by simp) ?_;intro u9 w9 hp9 hg9 hat9;rw [List.nil_append] at hp9;have HP9:=Z9 hp9;have HG9:=Z9 hg9;clear hp9 hg9 hat9)
 have hb9:Below w.heap.size w w9:=((Below.refl _ _).alloc (Nat.le_refl _) _).trans ((Below.refl _ _).grown (uh HG9) (by simp) (fun i e=>by cases e;exact Nat.le_refl _))
 go_wp2_with fail
 go_ret
 exact ⟨_,rfl,uh HP9,hb9⟩
theorem P0  {ps:List Z3} (h:WB w v ps) (hl:ps.length<=1000):Calls Tryz.prog 251 #[v] w fun e w'=> ∃ v',e= .returned v'/\SmithsAt w.heap.size w' v' ps/\Below w.heap.size w w':=by
 have HR:=Z9 (h.below ((Below.refl _ _).alloc (Nat.le_refl _) (.cells #[] 43)))
 obtain ⟨a,cap,rfl,hc,hm,hr⟩:=h
 clear hr
 go_enter Tryz.func251,Tryz.ntmps251
 go_wp2_with (at_builtin;refine ZO tyS rfl (.tmp 3) (.tmp 4) 144 Tryz.underlying144 rfl w.heap.size _ _ [] ps rfl rfl (Zh rfl (Nat.le_refl _)) (uh HR) (by simp;omega) (by simp) ?_;intro u9 w9 hp9 hg9 hat9;rw [List.nil_append] at hp9;have HP9:=Z9 hp9;have HG9:=Z9 hg9;clear hp9 hg9 hat9)
 have hb9:Below w.heap.size w w9:=((Below.refl _ _).alloc (Nat.le_refl _) _).trans ((Below.refl _ _).grown (uh HG9) (by simp) (fun i e=>by cases e;exact Nat.le_refl _))
 go_wp2_with fail
 go_ret
 exact ⟨_,rfl,uh HP9,hb9⟩
theorem Oz  {ps:List Yx} (h:VO w v ps) (hl:ps.length<=1000):Calls Tryz.prog 252 #[v] w fun e w'=> ∃ v',e= .returned v'/\DesksAt w.heap.size w' v' ps/\Below w.heap.size w w':=by
 have HR:=Z9 (h.below ((Below.refl _ _).alloc (Nat.le_refl _) (.cells #[] 49)))
 obtain ⟨a,cap,rfl,hc,hm,hr⟩:=h
 clear hr
 go_enter Tryz.func252,Tryz.ntmps252
 go_wp2_with (at_builtin;refine ZO tyD rfl (.tmp 3) (.tmp 4) 154 Tryz.underlying154 rfl w.heap.size _ _ [] ps rfl rfl (Zh rfl (Nat.le_refl _)) (uh HR) (by simp;omega) (by simp) ?_;intro u9 w9 hp9 hg9 hat9;rw [List.nil_append] at hp9;have HP9:=Z9 hp9;have HG9:=Z9 hg9;clear hp9 hg9 hat9)
 have hb9:Below w.heap.size w w9:=((Below.refl _ _).alloc (Nat.le_refl _) _).trans ((Below.refl _ _).grown (uh HG9) (by simp) (fun i e=>by cases e;exact Nat.le_refl _))
 go_wp2_with fail
 go_ret
 exact ⟨_,rfl,uh HP9,hb9⟩
theorem NP  {ps:List Int} (h:QU w v ps) (hl:ps.length<=1000):Calls Tryz.prog 253 #[v] w fun e w'=> ∃ v',e= .returned v'/\NumsAt w.heap.size w' v' ps/\Below w.heap.size w w':=by
 have HR:=Z9 (h.below ((Below.refl _ _).alloc (Nat.le_refl _) (.cells #[] 2)))
 obtain ⟨a,cap,rfl,hc,hm,hr⟩:=h
 clear hr
 go_enter Tryz.func253,Tryz.ntmps253
 go_wp2_with (at_builtin;refine ZO tyN rfl (.tmp 3) (.tmp 4) 153 Tryz.underlying153 rfl w.heap.size _ _ [] ps rfl rfl (Zh rfl (Nat.le_refl _)) (uh HR) (by simp;omega) (by simp) ?_;intro u9 w9 hp9 hg9 hat9;rw [List.nil_append] at hp9;have HP9:=Z9 hp9;have HG9:=Z9 hg9;clear hp9 hg9 hat9)
 have hb9:Below w.heap.size w w9:=((Below.refl _ _).alloc (Nat.le_refl _) _).trans ((Below.refl _ _).grown (uh HG9) (by simp) (fun i e=>by cases e;exact Nat.le_refl _))
 go_wp2_with fail
 go_ret
 exact ⟨_,rfl,uh HP9,hb9⟩
theorem XX  (h:Smy w v0 v1 v2 v3 v4 m) (hF:Few m) :
  Calls Tryz.prog 183 #[.agg #[v0,v1,v2,v3,v4,.int .i64 m.now]] w fun e w'=> ∃ u0 u1 u2 u3 u4 qs,e= .returned (.agg #[u0,u1,u2,u3,u4,.int .i64 m.now])/\FullSmy w.heap.size w' u0 u1 u2 u3 u4 m qs/\Below w.heap.size w w':=by
 have Hv0:=Z9 h
 have HF:=Z9 hF
 obtain ⟨a0,p0,a1,p1,a2,p2,a3,p3,a4,p4,rfl,rfl,rfl,rfl,rfl,_,_,_,_,_,_,_,_,_,_⟩:=h.five
 clear h hF
 go_enter Tryz.func183,Tryz.ntmps183
 go_wp2_with fail
 obtain ⟨W,hW,kb,kr,BB⟩:=YQ w 32 (S6 a0 p0 a1 p1 a2 p2 a3 p3 a4 p4 m) 32 E6
 rw [hW]
 clear hW
 obtain ⟨c0,c1,c2,c3,c4,c5⟩:=(uh kb).c6
 refine ZS (S:=fun w'=>w'.cell? ⟨w.heap.size,0,none⟩=some (.slice a0 m.rooms.length p0)/\w'.cell? ⟨w.heap.size,1,none⟩=some (.slice a1 m.guilds.length p1)/\w'.cell? ⟨w.heap.size,2,none⟩=some (.slice a2 m.smiths.length p2)/\w'.cell? ⟨w.heap.size,3,none⟩=some (.slice a3 m.desks.length p3)/\w'.cell? ⟨w.heap.size,4,none⟩=some (.slice a4 m.paces.length p4)/\w'.cell? ⟨w.heap.size,5,none⟩=some (.int .i64 m.now)) (by kernel_rfl) (List.cons_ne_nil _ _) (by kernel_rfl) ⟨c0,c1,c2,c3,c4,c5⟩ (fun hHeld=> ?_)
 replace kb:=Z9 ((uh kb).below (Below.refl _ _).drew (uh kb).lt)
 replace kr:=Z9 ((uh kr).below (Below.refl _ _).drew (uh kr).lt)
 replace BB:=Z9 ((uh BB).drew)
 have Hv:=Z9 ((uh Hv0).below (uh BB))
 clear c0 c1 c2 c3 c4 c5
 simp only [List.dropLast_cons_cons,List.dropLast_singleton,List.length_cons,List.length_nil,Nat.zero_add,Nat.reduceAdd]
 generalize W.drew=X0 at *
 have hz0:w.heap.size+2<=X0.heap.size:=by have:=(uh kr).lt;omega
 (refine tk 0 rfl (by assumption) ?_;(try simp only [Act.put,sA,sZ,sS]))
 (refine tk 1 rfl (by assumption) ?_;(try simp only [Act.put,sA,sZ,sS]))
 (refine tk 3 rfl (by assumption) ?_;(try simp only [Act.put,sA,sZ,sS]))
 (refine tk 4 rfl (by assumption) ?_;(try simp only [Act.put,sA,sZ,sS]))
 (refine tk 6 rfl (by assumption) ?_;(try simp only [Act.put,sA,sZ,sS]))
 (refine tk 9 rfl (by assumption) ?_;(try simp only [Act.put,sA,sZ,sS]))
 (refine tk 12 rfl (by assumption) ?_;(try simp only [Act.put,sA,sZ,sS]))
 (refine tk 13 rfl (by assumption) ?_;(try simp only [Act.put,sA,sZ,sS]))
 (refine tk 15 rfl (by assumption) ?_;(try simp only [Act.put,sA,sZ,sS]))
 (refine tk 16 rfl (by assumption) ?_;(try simp only [Act.put,sA,sZ,sS]))
 refine rd 2 rfl (fun K hK=> ?_)
 go_simp
 refine (OA (uh Hv).rooms (uh HF).rooms (uh HF).paces).mono ?_
 rintro e9 X1 ⟨u0,qs,rfl,hmap,hp,hb⟩
 replace Hv:=Z9 ((uh Hv).below hb)
 replace kb:=bl kb hb
 replace kr:=bl kr hb
 replace BB:=bt BB hb
 have Hmap:=Z9 hmap
 have hql:qs.length=m.rooms.length:=by rw [<-hmap,List.length_map]
 obtain ⟨b0,q0,hu0⟩:∃ b0 q0,u0= .slice b0 m.rooms.length q0:=by
  obtain ⟨a9,c9,e9⟩:=hp.shape
  exact ⟨a9,c9,by rw [e9,hql]⟩
 subst hu0
 have N0:Hid (OwnHall (w.heap.size+2) X1 (.slice b0 m.rooms.length q0) qs):=Z9 (hp.mono hz0)
 have L0:Hid (∀ b,((Value.slice b0 m.rooms.length q0).ownBlock=some b\/ ∃ q ∈ qs,q.2.ownBlock=some b)->b<X1.heap.size):=Z9 (fun b e=>(hp.lt e).2)
 have hz1:w.heap.size+2<=X1.heap.size:=by have:=hb.size;omega
 clear hmap hql hp hb
 refine hK.out _ _ (uh kb).c6 (fun hHeld=> ?_)
 clear hK K
 (try simp only [Act.put,sA,sZ,sS])
 refine rd 5 rfl (fun K hK=> ?_)
 go_simp
 refine (PZ (uh Hv).guilds (uh HF).guilds).mono ?_
 rintro e9 X2 ⟨u1,rfl,hp,hb⟩
 replace Hv:=Z9 ((uh Hv).below hb)
 replace kb:=bl kb hb
 replace kr:=bl kr hb
 replace BB:=bt BB hb
 replace N0:=Z9 ((uh N0).later hb)
 obtain ⟨b1,q1,hu1⟩:=RecAt.shape hp
 subst hu1
 have N1:Hid (GuildsAt (w.heap.size+2) X2 (.slice b1 m.guilds.length q1) m.guilds):=Z9 (RecAt.mono hp (by omega))
 have L1:Hid (∀ b,(Value.slice b1 m.guilds.length q1).ownBlock=some b->X1.heap.size<=b/\b<X2.heap.size):=Z9 (fun b e=>RecAt.lt hp e)
 have hsX2:=hb.size
 clear hp hb
 refine hK.out _ _ (uh kb).c6 (fun hHeld=> ?_)
 clear hK K
 (try simp only [Act.put,sA,sZ,sS])
 refine rd 7 rfl (fun K hK=> ?_)
 go_simp
 refine (WM _ _ _ _ _ _ _ _ _ _ _ _ _ _ _ _ _).mono ?_
 rintro e9 X3 ⟨rfl,hb⟩
 replace Hv:=Z9 ((uh Hv).below hb)
 replace kb:=bl kb hb
 replace kr:=bl kr hb
 replace BB:=bt BB hb
 replace N0:=Z9 ((uh N0).later hb)
 replace N1:=Z9 (RecAt.later (uh N1) hb)
 have hsX3:=hb.size
 clear hb
 refine hK.out _ _ (uh kb).c6 (fun hHeld=> ?_)
 clear hK K
 (try simp only [Act.put,sA,sZ,sS])
 refine rd 8 rfl (fun K hK=> ?_)
 go_simp
 refine (P0 (uh Hv).smiths (Nat.le_trans (uh HF).smiths (by omega))).mono ?_
 rintro e9 X4 ⟨u2,rfl,hp,hb⟩
 replace Hv:=Z9 ((uh Hv).below hb)
 replace kb:=bl kb hb
 replace kr:=bl kr hb
 replace BB:=bt BB hb
 replace N0:=Z9 ((uh N0).later hb)
 replace N1:=Z9 (RecAt.later (uh N1) hb)
 obtain ⟨b2,q2,hu2⟩:=RecAt.shape hp
 subst hu2
 have N2:Hid (SmithsAt (w.heap.size+2) X4 (.slice b2 m.smiths.length q2) m.smiths):=Z9 (RecAt.mono hp (by omega))
 have L2:Hid (∀ b,(Value.slice b2 m.smiths.length q2).ownBlock=some b->X3.heap.size<=b/\b<X4.heap.size):=Z9 (fun b e=>RecAt.lt hp e)
 have hsX4:=hb.size
 clear hp hb
 refine hK.out _ _ (uh kb).c6 (fun hHeld=> ?_)
 clear hK K
 (try simp only [Act.put,sA,sZ,sS])
 refine rd 10 rfl (fun K hK=> ?_)
 go_simp
 refine (J5 _ _ _ _ _ _ _ _ _ _ _ _ _ _ _ _ _).mono ?_
 rintro e9 X5 ⟨rfl,hb⟩
 replace Hv:=Z9 ((uh Hv).below hb)
 replace kb:=bl kb hb
 replace kr:=bl kr hb
 replace BB:=bt BB hb
 replace N0:=Z9 ((uh N0).later hb)
 replace N1:=Z9 (RecAt.later (uh N1) hb)
 replace N2:=Z9 (RecAt.later (uh N2) hb)
 have hsX5:=hb.size
 clear hb
 refine hK.out _ _ (uh kb).c6 (fun hHeld=> ?_)
 clear hK K
 (try simp only [Act.put,sA,sZ,sS])
 refine rd 11 rfl (fun K hK=> ?_)
 go_simp
 refine (Oz (uh Hv).desks (uh HF).desks).mono ?_
 rintro e9 X6 ⟨u3,rfl,hp,hb⟩
 replace Hv:=Z9 ((uh Hv).below hb)
 replace kb:=bl kb hb
 replace kr:=bl kr hb
 replace BB:=bt BB hb
 replace N0:=Z9 ((uh N0).later hb)
 replace N1:=Z9 (RecAt.later (uh N1) hb)
 replace N2:=Z9 (RecAt.later (uh N2) hb)
 obtain ⟨b3,q3,hu3⟩:=RecAt.shape hp
 subst hu3
 have N3:Hid (DesksAt (w.heap.size+2) X6 (.slice b3 m.desks.length q3) m.desks):=Z9 (RecAt.mono hp (by omega))
 have L3:Hid (∀ b,(Value.slice b3 m.desks.length q3).ownBlock=some b->X5.heap.size<=b/\b<X6.heap.size):=Z9 (fun b e=>RecAt.lt hp e)
 have hsX6:=hb.size
 clear hp hb
 refine hK.out _ _ (uh kb).c6 (fun hHeld=> ?_)
 clear hK K
 (try simp only [Act.put,sA,sZ,sS])
 refine rd 14 rfl (fun K hK=> ?_)
 go_simp
 refine (NP (uh Hv).paces (uh HF).nums).mono ?_
 rintro e9 X7 ⟨u4,rfl,hp,hb⟩
 replace Hv:=Z9 ((uh Hv).below hb)
 replace kb:=bl kb hb
 replace kr:=bl kr hb
 replace BB:=bt BB hb
 replace N0:=Z9 ((uh N0).later hb)
 replace N1:=Z9 (RecAt.later (uh N1) hb)
 replace N2:=Z9 (RecAt.later (uh N2) hb)
 replace N3:=Z9 (RecAt.later (uh N3) hb)
 obtain ⟨b4,q4,hu4⟩:=RecAt.shape hp
 subst hu4
 have N4:Hid (NumsAt (w.heap.size+2) X7 (.slice b4 m.paces.length q4) m.paces):=Z9 (RecAt.mono hp (by omega))
 have L4:Hid (∀ b,(Value.slice b4 m.paces.length q4).ownBlock=some b->X6.heap.size<=b/\b<X7.heap.size):=Z9 (fun b e=>RecAt.lt hp e)
 have hsX7:=hb.size
 clear hp hb
 refine hK.out _ _ (uh kb).c6 (fun hHeld=> ?_)
 clear hK K
 (try simp only [Act.put,sA,sZ,sS])
 (refine tk 17 rfl (by assumption) ?_;(try simp only [Act.put,sA,sZ,sS]))
 obtain ⟨o0,o1,o2,o3,o4,o5⟩:=(uh kr).c6
 obtain ⟨f0,f1,f2,f3,f4,f5⟩:=(uh kr).f6
 refine wpAnyH_done (by kernel_rfl) ?_ _
 refine ZL rfl rfl ?_
 go_simp
 clear hHeld
 have HFull:Hid (FullSmy (w.heap.size+2) X7 (.slice b0 m.rooms.length q0) (.slice b1 m.guilds.length q1) (.slice b2 m.smiths.length q2) (.slice b3 m.desks.length q3) (.slice b4 m.paces.length q4) m qs):=Z9 (GO X1.heap.size X2.heap.size X4.heap.size X6.heap.size (uh N0) (uh Hmap) (uh N1) (uh N2) (uh N3) (uh N4) (uh L0) (uh L1) (fun b e=>by have:=uh L2 b e;omega) (fun b e=>by have:=uh L3 b e;omega) (fun b e=>(uh L4 b e).1) (by omega) (by omega) (by omega))
 go_wp2_with fail
 refine bodyPost_ret (v:= .agg (S6 b0 q0 b1 q1 b2 q2 b3 q3 b4 q4 m)) (by simp [results,Tryz.results183,go_sem, *]) rfl ⟨_,_,_,_,_,qs,rfl,?_,?_⟩
 ·refine FullSmy.mono (n₀:=w.heap.size+2) ?_ (by omega)
  iterate 6 (refine FullSmy.set ?_ _ _ _ (by omega))
  exact uh HFull
 ·iterate 6 (refine Below.setCell ?_ (by show _<=w.heap.size+1;omega) _)
  exact uh BB
open Go.ChangeShapes Go.WideShapes Go.ChangeAt Go.RowKit Go.Sort Go.Shelf
set_option maxRecDepth 100000
theorem Dz (x u f : Int) (w : World) : (method 484 328 (.agg #[.int .i64 x, .int .i64 u, .int .i64 f]) "loop.example/g00553/impl.place").run Tryz.prog w = .ok (434, .agg #[.int .i64 x, .int .i64 u, .int .i64 f]) w := by kernel_rfl
theorem Cp (x u f : Int) (w : World) : (method 484 328 (.agg #[.int .i64 x, .int .i64 u, .int .i64 f]) "loop.example/g00553/impl.takes").run Tryz.prog w = .ok (436, .agg #[.int .i64 x, .int .i64 u, .int .i64 f]) w := by kernel_rfl
theorem Dy (x u f : Int) (w : World) : (method 484 328 (.agg #[.int .i64 x, .int .i64 u, .int .i64 f]) "loop.example/g00553/impl.hasTooMuch").run Tryz.prog w = .ok (433, .agg #[.int .i64 x, .int .i64 u, .int .i64 f]) w := by kernel_rfl
theorem Co (x u f : Int) (w : World) : (method 484 328 (.agg #[.int .i64 x, .int .i64 u, .int .i64 f]) "loop.example/g00553/impl.spare").run Tryz.prog w = .ok (435, .agg #[.int .i64 x, .int .i64 u, .int .i64 f]) w := by kernel_rfl
theorem Dp (v:Value) (w:World):(Instr.typeAssert (.iface 328 v) 296 251 true).run Tryz.prog w= .ok (.tuple #[.iface 328 v,.bool true]) w:=by kernel_rfl
theorem O3 {l:List String} (h:l ≠ []):∃ s,Instr.least l=some s:=by
 cases l with
 | nil=>exact absurd rfl h
 | cons s r=>exact ⟨_,rfl⟩
theorem Gb (p:String->Bool) (f:String->String) {ms:List String} (h:ms ≠ []):∃ s,(match ms.partition p with | (u,e)=>Instr.least e <|> Instr.least (u.map f))=some s:=by
 rw [List.partition_eq_filter_filter]
 dsimp only
 by_cases he:ms.filter (not ∘ p)=[]
 ·have hu:ms.filter p ≠ []:=by
   intro e
   apply h
   have h1:=List.filter_eq_nil_iff.1 he
   have h2:=List.filter_eq_nil_iff.1 e
   refine List.eq_nil_iff_forall_not_mem.2 (fun x hx=> ?_)
   have k1:=h1 x hx
   have k2:=h2 x hx
   simp only [Function.comp_apply] at k1
   cases hp:p x
   ·rw [hp] at k1;exact k1 rfl
   ·exact k2 hp
  obtain ⟨s,hs⟩:=O3 (l:=(ms.filter p).map f) (by simpa using hu)
  rw [he,hs]
  exact ⟨s,rfl⟩
 ·obtain ⟨s,hs⟩:=O3 he
  rw [hs]
  exact ⟨s,rfl⟩
theorem MI {want:Array (String × TypeId)} {got:Array Method} (h:(want.toList.filter fun x=> !got.any fun m=>m.name ==x.1 && m.sig ==x.2).isEmpty=false):∃ s,Instr.missingMethod want got=some s:=by
 refine Gb _ _ (ms:=(want.toList.filter fun x=> !got.any fun m=>m.name ==x.1 && m.sig ==x.2).map (·.1)) ?_
 intro e
 rw [List.map_eq_nil_iff] at e
 rw [e] at h
 cases h
theorem JQ {P:Program} {t xt asserted:TypeId} {v z:Value} {want:Array (String × TypeId)} {i j:TypeInfo} (hu:P.underlying asserted=some (.interface want)) (hi:P.info? t=some i) (hm:(want.toList.filter fun x=> !i.methods.any fun m=>m.name ==x.1 && m.sig ==x.2).isEmpty=false) (hj:P.info? asserted=some j) (hz:j.zero=some z):(Instr.typeAssert (.iface t v) xt asserted true).run P w= .ok (.tuple #[z,.bool false]) w:=by
 obtain ⟨s,hs⟩:=MI hm
 simp [Instr.typeAssert,run_underlying hu,typeInfo,hi,hs,zeroValue,hj,hz]
theorem FB:((Tryz.prog.info? 326).bind fun i=>(Tryz.prog.underlying 251).map fun d=>match d with | .interface want=>(want.toList.filter fun x=> !i.methods.any fun m=>m.name ==x.1 && m.sig ==x.2).isEmpty | _=>true)=some false:=by kernel_rfl
theorem Fw (v:Value) (w:World):(Instr.typeAssert (.iface 326 v) 296 251 true).run Tryz.prog w= .ok (.tuple #[.nilIface,.bool false]) w:=by
 obtain ⟨j,hj,hz,_,_⟩:=Pe FM
 have h:=FB
 cases hi:Tryz.prog.info? 326 with
 | none=>rw [hi] at h;cases h
 | some i=>
  cases hu:Tryz.prog.underlying 251 with
  | none=>rw [hi,hu] at h;cases h
  | some d=>
   rw [hi,hu] at h
   cases d with
   | interface want=>exact JQ hu hi (by simpa using h) hj hz
   | _=>cases h
attribute [local go_sem] Dp Fw
attribute [local go_sem] Dz
end Go.Proofs.YtjhijildaceadaaGreatDoor
