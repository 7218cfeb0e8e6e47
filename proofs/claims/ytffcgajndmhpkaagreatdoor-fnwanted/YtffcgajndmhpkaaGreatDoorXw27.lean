/- Part 27 of what the proof rests on. No condition but those that a theorem names. -/
import Derived.Test.YtffcgajndmhpkaaGreatDoorXw26
import Derived.Laws.CopyRow
set_option maxHeartbeats 8000000
set_option maxRecDepth 100000
namespace Go.Proofs.YtffcgajndmhpkaaGreatDoor
open Go.ChangeShapes Go.WideShapes Go.ChangeAt Go.RowKit Go.Sort
set_option linter.unusedVariables false
set_option linter.unusedSimpArgs false
set_option maxRecDepth 100000
variable {w w' w0 w1 w2 w3 w₀ wr W W' X A B C : World} {v v0 v1 v2 v3 v4 u u0 u1 u2 u3 u4 : Value} {m : Z4}
theorem Oy {B g:Nat} (hg:g=w.heap.size) (hB:B<=g):OwnHall B (w.alloc (.cells #[] 45)) (.slice (some ⟨g,0,none⟩) 0 0) []:=by
 subst hg
 exact ⟨⟨by simp [Tf],.inr ⟨_,0,#[],rfl,hB,heap_alloc_new w _,Nat.le_refl _,Nat.zero_le _,by simp,by simp [Tf]⟩⟩,fun _ h=>(by cases h),fun _ h=>(by cases h),List.Pairwise.nil⟩
theorem Gy  {ps:List Z6} (h:IsPaces w v ps) (hl:ps.length<=1000):Calls Tryz.prog 203 #[v] w fun e w'=> ∃ v',e= .returned v'/\PacesAt w.heap.size w' v' ps/\Below w.heap.size w w':=by
 have HR:=Z9 (IsPaces.rec (h.below ((Below.refl _ _).alloc (Nat.le_refl _) (.cells #[] 42))))
 obtain ⟨a,cap,rfl,hc,hm,hr⟩:=h
 clear hr
 go_enter Tryz.func203,Tryz.ntmps203
 go_wp2_with (at_builtin;refine ZO Ei rfl (.tmp 3) (.tmp 4) 147 Tryz.underlying147 rfl w.heap.size _ _ [] ps rfl rfl (Zd rfl (Nat.le_refl _)) (uh HR) (by simp;omega) (by simp) ?_;intro u9 w9 hp9 hg9 hat9;rw [List.nil_append] at hp9;have HP9:=Z9 hp9;have HG9:=Z9 hg9;clear hp9 hg9 hat9)
 have hb9:Below w.heap.size w w9:=((ba _ _)).trans ((Below.refl _ _).grown (uh HG9) (by simp) (fun i e=>by cases e;exact Nat.le_refl _))
 go_wp2_with fail
 go_ret
 exact ⟨_,rfl,uh HP9,hb9⟩
theorem NP  {rs:List Z2} (h:IsRooms w v rs) (hl:rs.length<=1000) (hp:∀ r ∈ rs,r.2.length<=1000) :
  Calls Tryz.prog 147 #[.agg #[v]] w fun e w'=> ∃ v' qs,e= .returned (.agg #[v'])/\qs.map (·.1)=rs/\OwnHall w.heap.size w' v' qs/\Below w.heap.size w w':=by
 obtain ⟨a,cap,rfl,hc,hm,hr⟩:=h
 have Hr:=Z9 hr
 have HP:=Z9 hp
 clear hr hp
 go_enter Tryz.func147,Tryz.ntmps147
 go_wp2_with fail
 go_loopw [3,10] (fun u i wr=> ∃ (k:Nat) (qs:List (Z2 × Value)) (ua:Option Addr) (uc:Nat),k<=rs.length/\i= .int .i64 k/\u= .slice ua k uc/\Blk wr (w.heap.size+1) 26 #[.slice none 0 0]/\OwnHall (w.heap.size+2) wr (.slice ua k uc) qs/\qs.map (·.1)=rs.take k/\Below w.heap.size w wr) (fun _ i _=>rs.length-(intOf i).toNat)
 case atStart=>
  refine ⟨0,[],_,_,Nat.zero_le _,rfl,rfl,?_,Oy (by simp) (by simp),rfl,(((ba _ _)).alloc (by simp) _).alloc (by simp;omega) _⟩
  have k:=Blk.new (w.alloc (.cells #[.slice a rs.length cap] 26)) 26 #[.slice none 0 0]
  rw [World.size_alloc] at k
  exact k.alloc _
 case round=>
  obtain ⟨k,qs,ua,uc,hk,rfl,rfl,kr,ho,hq,hb⟩:=hrel
  have hql:qs.length=k:=by have:=congrArg List.length hq;simp at this;omega
  have Hql:=Z9 hql
  clear hql
  have Kr:=Z9 kr
  have Ho:=Z9 ho
  have Hq:=Z9 hq
  have Hb:=Z9 hb
  have hsz:=kr.lt
  by_cases hlt:k<rs.length
  ·have hlt1:(k:Int)<(rs.length:Int):=by omega
   rcases uh Hr with e0 | ⟨b,off,rfl,hbw,hcl⟩
   ·rw [e0] at hlt;simp at hlt
   obtain ⟨c0,pv,c1,hpv⟩:=hcl k hlt
   rw [<-hb.cell (p:=⟨b,off+k*2,none⟩) hbw] at c0
   rw [<-hb.cell (p:=⟨b,off+k*2+1,none⟩) hbw] at c1
   have Hpv:=Z9 (hpv.below (hb.mono (Nat.le_refl _)))
   have hpl:=uh HP (Z0 rs k) (by unfold Z0;simp [List.getD,hlt])
   have Htk:Hid (rs.take (k+1)=rs.take k++[Z0 rs k]):=Z9 (by rw [List.take_succ_eq_append_getElem hlt];unfold Z0;simp [List.getD,hlt])
   generalize Z0 rs k=r at *
   obtain ⟨n,ps⟩:=r
   simp only at c0 hpl hpv
   obtain ⟨pa,pc,rfl,_,_,_⟩:=hpv
   have hbw':b<wr.heap.size:=by have:=hb.size;omega
   clear hcl kr ho hq hb
   go_wp2_with fail
   clear c0 c1
   have hba:Below wr.heap.size wr (wr.alloc (.cells #[.int .i64 n,.slice pa ps.length pc] 45)):=ba _ _
   have KB:Hid (Blk (wr.alloc (.cells #[.int .i64 n,.slice pa ps.length pc] 45)) wr.heap.size 45 #[.int .i64 n,.slice pa ps.length pc]):=Z9 (Blk.new wr _ _)
   replace Kr:=bl Kr hba
   have HLB:Hid (∀ i,(Value.slice ua k uc).ownBlock=some i->i<wr.heap.size):=Z9 (fun i e=>((uh Ho).lt (.inl e)).2)
   replace Ho:=Z9 ((uh Ho).later hba)
   replace Hb:=Z9 ((uh Hb).trans (hba.mono (uh Hb).size))
   replace Hpv:=Z9 ((uh Hpv).below hba)
   have hsz2:w.heap.size+2<=(wr.alloc (.cells #[.int .i64 n,.slice pa ps.length pc] 45)).heap.size:=by have:=(uh Kr).lt;simp at this ⊢;omega
   clear hba
   generalize wr.alloc (.cells #[.int .i64 n,.slice pa ps.length pc] 45)=X at *
   generalize wr.heap.size=rb at *
   have s0:=(uh KB).cell (i:=0) (v:= .int .i64 n) rfl
   have s1:=(uh KB).cell (i:=1) (v:= .slice pa ps.length pc) rfl
   refine ZS (S:=fun w'=>w'.cell? ⟨rb,0,none⟩=some (.int .i64 n)/\w'.cell? ⟨rb,1,none⟩=some (.slice pa ps.length pc)) (by kernel_rfl) (List.cons_ne_nil _ _) (by kernel_rfl) ⟨s0,s1⟩ (fun hHeld=> ?_)
   simp only [List.dropLast_cons_cons,List.dropLast_singleton,List.length_cons,List.length_nil,Nat.zero_add,Nat.reduceAdd]
   (refine tq 0 ?_;(try simp only [Act.put,sA,sZ,sS]))
   (refine tq 1 ?_;(try simp only [Act.put,sA,sZ,sS]))
   (refine tq 2 ?_;(try simp only [Act.put,sA,sZ,sS]))
   (refine tq 3 ?_;(try simp only [Act.put,sA,sZ,sS]))
   (refine tq 4 ?_;(try simp only [Act.put,sA,sZ,sS]))
   refine rd 5 rfl (fun K hK=> ?_)
   go_simp
   refine (Gy ((uh Hpv).below (Below.refl _ _).drew) hpl).mono ?_
   rintro e9 w4 ⟨v4,rfl,hp4,hb4⟩
   obtain ⟨pa4,pc4,rfl⟩:=PacesAt.shape hp4
   have X4:Below X.heap.size X w4:=(Below.refl X.heap.size X).drew.trans hb4
   have HO4:Hid (PacesAt X.heap.size w4 (.slice pa4 ps.length pc4) ps):=Z9 hp4
   have HX4:=Z9 X4
   have hz4:=X4.size
   have t0:=(X4.cell (p:=⟨rb,0,none⟩) (uh KB).lt).trans s0
   have t1:=(X4.cell (p:=⟨rb,1,none⟩) (uh KB).lt).trans s1
   clear hp4 hb4 X4
   refine hK.out _ _ ⟨t0,t1⟩ (fun hHeld=> ?_)
   clear hK K
   (try simp only [Act.put,sA,sZ,sS])
   (refine tq 6 ?_;(try simp only [Act.put,sA,sZ,sS]))
   have KB5:=((uh KB).below (uh HX4) (uh KB).lt).alloc (.cells #[.int .i64 n,.slice pa4 ps.length pc4] 45)
   have u0:=KB5.cell (i:=0) (v:= .int .i64 n) rfl
   have u1:=KB5.cell (i:=1) (v:= .slice pa ps.length pc) rfl
   refine rd 7 rfl (fun K hK=> ?_)
   go_simp
   refine hK.out _ _ ⟨u0,u1⟩ (fun hHeld=> ?_)
   clear hK K
   (try simp only [Act.put,sA,sZ,sS])
   obtain ⟨v5,w5,hrun5,hown5,hg5,hat5⟩:=Tv (w:=w4.alloc (.cells #[.int .i64 n,.slice pa4 ps.length pc4] 45)) (t:=24) (ty:=24) (base:=w.heap.size+2) (v:= .slice ua k uc) (n:=k) (xs:=Tf qs) Tryz.underlying24 (World.ownsRow.alloc (by have h9:=((uh Ho).later (uh HX4)).row;rw [uh Hql] at h9;exact h9) _) (g:=w4.heap.size) (c:=1) (Zu w4 (i:=0) rfl) (Zu w4 (i:=1) rfl) rfl (by omega) (by simp;omega)
   obtain ⟨a5,c5,rfl⟩:=Mx hown5
   have hn5:∀ i,(Value.slice ua k uc).ownBlock=some i->w.heap.size+2<=i/\i<X.heap.size:=fun i e=>(uh Ho).lt (.inl e)
   have hrbX:=(uh KB).lt
   have RB:Hid (∀ i,(Value.slice ua k uc).ownBlock=some i->i ≠ rb):=Z9 (fun i e e2=>by have:=uh HLB i e;omega)
   have KB6:=KB5.same (w':=w5) (hg5.block _ KB5.lt (fun e=>uh RB _ e.symm rfl))
   have y0:=KB6.cell (i:=0) (v:= .int .i64 n) rfl
   have y1:=KB6.cell (i:=1) (v:= .slice pa ps.length pc) rfl
   have HO5:=Z9 hown5
   have HG5:=Z9 hg5
   have HA5:=Z9 hat5
   have R5:=Z9 hrun5
   have X5:Hid (Below (w.heap.size+2) X w5):=Z9 (by
    have q1:Below X.heap.size X w4:=uh HX4
    have q2:Below w4.heap.size w4 (w4.alloc (.cells #[.int .i64 n,.slice pa4 ps.length pc4] 45)):=ba _ _
    have q3:Below (w.heap.size+2) (w4.alloc (.cells #[.int .i64 n,.slice pa4 ps.length pc4] 45)) w5:=(Below.refl _ _).grown (uh HG5) (by have:=q1.size;simp;omega) (fun i e=>((uh Ho).lt (.inl e)).1)
    exact ((q1.mono (by omega)).trans (q2.mono (by have:=q1.size;omega))).trans q3)
   have hp5:OwnHall (w.heap.size+2) w5 (.slice a5 (k+1) c5) (qs++[((n,ps),.slice pa4 ps.length pc4)]):=by
    have q1:OwnHall (w.heap.size+2) w4 (.slice ua k uc) qs:=(uh Ho).later (uh HX4)
    have q2:PacesAt X.heap.size w4 (.slice pa4 ps.length pc4) ps:=uh HO4
    have q3:PacesAt (w.heap.size+2) w4 (.slice pa4 ps.length pc4) ps:=q2.mono (by omega)
    refine OwnHall.push (w:=w4) (w1:=w5) (v:= .slice ua k uc) (o:= .cells #[.int .i64 n,.slice pa4 ps.length pc4] 45) q1 q3 ?_ ?_ ?_ (uh HG5) (uh HA5)
    ·intro b' e e'
     have h8:=(q2.lt e).1
     have h9:=((uh Ho).lt (.inl e')).2
     omega
    ·intro q hq' b' e e'
     have h8:=(q2.lt e').1
     have h9:=((uh Ho).lt (.inr ⟨q,hq',e⟩)).2
     omega
    ·rw [uh Hql];exact uh HO5
   have HP5:=Z9 hp5
   clear hp5 hown5 hg5 hat5 hrun5 KB5 KB6
   refine rd 8 rfl (fun K hK=> ?_)
   refine WU rfl (.tmp 14) (.tmp 21) 24 rfl rfl rfl (uh R5) ?_
   refine hK.out _ _ ⟨y0,y1⟩ (fun hHeld=> ?_)
   clear hK K
   (try simp only [Act.put,sA,sZ,sS])
   refine wpAnyH_done (by kernel_rfl) ?_ _
   refine ZH rfl rfl ?_
   go_simp
   clear hHeld
   go_wp2_with fail
   go_roundw
   case rel=>
    exact ⟨k+1,qs++[((n,ps),.slice pa4 ps.length pc4)],a5,c5,by omega,by go_num,rfl,(uh Kr).below (uh X5) (by omega),uh HP5,by rw [List.map_append,uh Hq,uh Htk];rfl,(uh Hb).trans ((uh X5).mono (by omega))⟩
   case measure=>exact ms
  ·obtain rfl:k=rs.length:=by omega
   have r0:=kr.cell (i:=0) rfl
   have r1:=kr.free 0
   go_wp2_with fail
   rw [List.take_length] at hq
   refine bodyPost_ret (v:= .agg #[.slice ua rs.length uc]) (by simp [results,Tryz.results147,go_sem, *]) rfl ⟨_,qs,rfl,hq,?_,?_⟩
   ·exact (ho.same fun i h0 hi=>heap_setCell_other _ _ _ _ (by show i ≠ w.heap.size+1;omega)).mono (by omega)
   ·exact hb.setCell (by show _<=w.heap.size+1;omega) _
def U0 (rs:List Z2):Z4:=⟨rs,[],[],List.replicate (Z1 rs).toNat (true,-1,0),List.replicate rs.length 0,0⟩
set_option maxRecDepth 100000
theorem Fj (a:Option Addr) (n cap k:Nat) (hn:n=k+1) (hc:n<=cap) (W:World):(Instr.slice 148 (.slice a n cap) (some (.int .i64 1)) (some (.int .i64 (n:Int))) (some (.int .i64 (n:Int)))).run Tryz.prog W= .ok (.slice (if k=0 then a else a.map (·.add 2)) k k) W:=by
 obtain ⟨i0,hi,hz0,hz1,hz2⟩:=info_parts Wk
 have hs:∀ W,(sizeOf 151).run Tryz.prog W= .ok 2 W:=fun W=>by simp [sizeOf,typeInfo,hi,hz1]
 have hb:∀ W,(Instr.sliceBounds true n cap (some (.int .i64 1)) (some (.int .i64 (n:Int))) (some (.int .i64 (n:Int)))).run Tryz.prog W= .ok (1,n,n) W:=fun W=>by
  have h1:(0:Int)<=(n:Int)/\(n:Int)<=(cap:Int):=by omega
  have h2:(0:Int)<=(n:Int)/\(n:Int)<=(n:Int):=by omega
  have h3:(0:Int)<=1/\(1:Int)<=(n:Int):=by omega
  simp only [Instr.sliceBounds,Instr.sliceBound,asIntOf,Sem.run_bind,Sem.run_pure,Result.andThen_ok,if_pos h1,if_pos h2,if_pos h3,Int.toNat_natCast]
  rfl
 simp only [Instr.slice,Sem.run_bind,run_underlying Tryz.underlying148,Result.andThen,hb,hs,Sem.run_pure]
 have e1:(n=1)=(k=0):=by apply propext;omega
 rw [show n-1=k by omega]
 simp only [e1,Nat.one_mul]
theorem IsPaces.behind {a:Option Addr} {n cap:Nat} {e:Z6} {t:List Z6} (h:IsPaces w (.slice a n cap) (e::t)):IsPaces w (.slice (if t.length=0 then a else a.map (·.add 2)) t.length t.length) t:=by
 obtain ⟨a',cap',he,hc,hm,hr⟩:=h
 cases he
 rw [List.length_cons] at hc
 refine ⟨_,t.length,rfl,Nat.le_refl _,by omega,?_⟩
 by_cases h0:t.length=0
 ·exact .inl (List.eq_nil_of_length_eq_zero h0)
 ·rcases hr with hr | ⟨b,off,rfl,hlt,hcl⟩
  ·cases hr
  ·rw [if_neg h0]
   refine .inr ⟨b,off+2,by simp [Lb],hlt,fun j hj=> ?_⟩
   have:=hcl (j+1) (by simp;omega)
   rw [show off+(j+1)*2=off+2+j*2 by omega] at this
   exact this
theorem Nm {g base sc:Nat} {sp:Option Addr} {ps:List Z6} {xs:List Value} (ty:TypeId) (hd:w.ownsRow base 151 2 (.slice (some ⟨g,0,none⟩) ps.length ps.length) ps.length xs) (hs:IsPaces w (.slice sp ps.length sc) ps) :
  ∃ w',(Builtin.copy_ #[148,148] ty #[.slice (some ⟨g,0,none⟩) ps.length ps.length,.slice sp ps.length sc]).run Tryz.prog w= .ok (goInt ps.length) w'/\EntsAt base w' (.slice (some ⟨g,0,none⟩) ps.length ps.length) ps/\Below base w w':=by
 obtain ⟨i0,hi,hz0,hz1,hz2⟩:=info_parts Wk
 rcases hd.2 with ⟨he,_⟩ | ⟨g',cap,cur,he,hb,hg,hnc,hcm,hsz,htk⟩
 ·cases he
 cases he
 have hpl:=TV ps
 obtain ⟨a',cap',he,hc,hm,hr⟩:=hs
 cases he
 have hload:(Builtin.firstCells 2 ps.length (.slice sp ps.length sc)).run Tryz.prog w= .ok (Zj ps).toArray w:=by
  rcases hr with hr | ⟨b,off,rfl,hlt,hcl⟩
  ·subst hr
   cases sp with
   | none=>rfl
   | some ad=>
    have:=run_loadCells_list (P:=Tryz.prog) w ad (Zj []) (fun j v h=>by simp [Zj] at h)
    exact this
  ·have:=run_loadCells_list (P:=Tryz.prog) w ⟨b,off,none⟩ (Zj ps) (fun j v h=>by
    have hj:j<ps.length*2:=by
     have:=(List.getElem?_eq_some_iff.1 h).1
     omega
    have hp:=Vv (f:=fun p:Z6=>Value.int .i64 p.1) (g:=fun p:Z6=>Value.int .i64 p.2) ps (j / 2) (by omega)
    have hat:Z7 ps (j / 2)=ps[j / 2]'(by omega):=by unfold Z7;simp [List.getD,(by omega:j / 2<ps.length)]
    obtain ⟨c0,c1⟩:=hcl (j / 2) (by omega)
    rw [hat] at c0 c1
    have ha:(⟨b,off,none⟩:Addr).add j=⟨b,off+j,none⟩:=by unfold Addr.add;split<;>simp_all
    rw [ha]
    rcases Nat.mod_two_eq_zero_or_one j with e2 | e2
    ·have ej:j=j / 2*2:=by omega
     have h9:(Zj ps)[j / 2*2]?=some (.int .i64 (ps[j / 2]'(by omega)).1):=hp.1
     rw [<-ej,h] at h9
     cases h9
     rw [show off+j=off+j / 2*2 by omega]
     exact c0
    ·have ej:j=j / 2*2+1:=by omega
     have h9:(Zj ps)[j / 2*2+1]?=some (.int .i64 (ps[j / 2]'(by omega)).2):=hp.2
     rw [<-ej,h] at h9
     cases h9
     rw [show off+j=off+j / 2*2+1 by omega]
     exact c1)
   rw [hpl] at this
   exact this
 have hst:=run_storeCells_at Tryz.prog g 0 151 (Zj ps) 0 cur w hg (by rw [hpl,hsz];omega) (fun v hv=>by
  unfold Zj at hv
  obtain ⟨p,_,hp⟩:=List.mem_flatMap.1 hv
  simp only [List.mem_cons,List.not_mem_nil,or_false] at hp
  rcases hp with rfl | rfl<;>rfl)
 have hdrop:cur.toList.drop (Zj ps).length=[]:=by
  rw [List.drop_eq_nil_iff,Array.length_toList,hsz,hpl];exact Nat.le_refl _
 simp only [Nat.zero_add,List.take_zero,List.nil_append,hdrop,List.append_nil] at hst
 refine ⟨w.setRow g (Zj ps).toArray,?_,⟨hpl,.inr ⟨g,ps.length,(Zj ps).toArray,rfl,hb,setRow_heap w g _ _ _ _ hg,Nat.le_refl _,hcm,by simp [hpl],?_⟩⟩,?_⟩
 ·have hsz2:(sizeOf 151).run Tryz.prog w= .ok 2 w:=by simp [sizeOf,typeInfo,hi,hz1]
  have hlen:(Builtin.lenOf (.slice sp ps.length sc)).run Tryz.prog w= .ok ps.length w:=rfl
  have hmin:Nat.min ps.length ps.length=ps.length:=Nat.min_self _
  unfold Builtin.copy_
  simp only [Sem.run_bind,run_underlying Tryz.underlying148,Result.andThen_ok,hlen,hmin,hsz2,hload,List.getElem?_toArray,List.getElem?_cons_zero,List.getElem?_cons_succ,Sem.run_pure,hst]
 ·rw [List.take_of_length_le (by simp [hpl])]
 ·exact ⟨rfl,rfl,rfl,by simp [World.setRow],fun k hk=>setRow_other w g k _ (by omega)⟩
theorem Ny  {e:Z6} {t:List Z6} (h:IsPaces w v (e::t)) (hl:t.length<=1000):Calls Tryz.prog 207 #[v] w fun e w'=> ∃ v',e= .returned v'/\EntsAt w.heap.size w' v' t/\Below w.heap.size w w':=by
 have Hv:=Z9 h
 obtain ⟨a,cap,rfl,hc,hm,hr⟩:=h
 obtain ⟨n,hn⟩:∃ n,n=t.length+1:=⟨_,rfl⟩
 rw [show (e::t).length=n by rw [hn];rfl] at Hv hc ⊢
 have hcut:=fun W=>Fj a n cap t.length hn hc W
 have HB:=Z9 (uh Hv).behind
 obtain ⟨sp,hsp⟩:∃ q,(if t.length=0 then a else a.map (·.add 2))=q:=⟨_,rfl⟩
 rw [hsp] at HB
 simp only [hsp] at hcut
 have hn1:n<=1001:=by omega
 clear hr hn hsp
 obtain ⟨i0,hi,hz0,hz1,hz2⟩:=info_parts Wk
 go_enter Tryz.func207,Tryz.ntmps207
 go_upto_region 3 with (at_make;refine wpList_make_full _ rfl _ _ 148 rfl w.heap.size 151 i0 (.agg #[.int .i64 0,.int .i64 0]) 2 Tryz.underlying148 hi hz0 hz1 _ _ _ _ t.length rfl rfl rfl rfl (by rw [hz2];omega) (by unfold maxLen;omega) (Nat.le_refl _) ?_;intro w0 hown hgrow;have HBB:Hid (Below w.heap.size w w0):=Z9 ((Below.refl _ _).grown hgrow (Nat.le_refl _) (fun k e=>by cases e));obtain ⟨w9,hrun,he9,hb9⟩:=Nm 3 hown ((uh HB).below (uh HBB));have HR:=Z9 hrun;have HE:=Z9 he9;have HB9:=Z9 hb9;clear hown hgrow hrun he9 hb9)
 have hr9:=uh HR
 go_wp2_with fail
 go_ret
 exact ⟨_,rfl,uh HE,(uh HBB).trans (uh HB9)⟩
theorem Pp  {ps:List ZF} (h:Yg w v ps) (hl:ps.length<=1000):Calls Tryz.prog 148 #[v] w fun e w'=> ∃ v',e= .returned v'/\GuildsAt w.heap.size w' v' ps/\Below w.heap.size w w':=by
 have HR:=Z9 (h.below ((Below.refl _ _).alloc (Nat.le_refl _) (.cells #[] 88)))
 obtain ⟨a,cap,rfl,hc,hm,hr⟩:=h
 clear hr
 go_enter Tryz.func148,Tryz.ntmps148
 go_wp2_with (at_builtin;refine ZO tyG rfl (.tmp 3) (.tmp 4) 186 Tryz.underlying186 rfl w.heap.size _ _ [] ps rfl rfl (Zd rfl (Nat.le_refl _)) (uh HR) (by simp;omega) (by simp) ?_;intro u9 w9 hp9 hg9 hat9;rw [List.nil_append] at hp9;have HP9:=Z9 hp9;have HG9:=Z9 hg9;clear hp9 hg9 hat9)
 have hb9:Below w.heap.size w w9:=((ba _ _)).trans ((Below.refl _ _).grown (uh HG9) (by simp) (fun i e=>by cases e;exact Nat.le_refl _))
 go_wp2_with fail
 go_ret
 exact ⟨_,rfl,uh HP9,hb9⟩
theorem Pq  {ps:List Z3} (h:Wu w v ps) (hl:ps.length<=1000):Calls Tryz.prog 149 #[v] w fun e w'=> ∃ v',e= .returned v'/\SmithsAt w.heap.size w' v' ps/\Below w.heap.size w w':=by
 have HR:=Z9 (h.below ((Below.refl _ _).alloc (Nat.le_refl _) (.cells #[] 39)))
 obtain ⟨a,cap,rfl,hc,hm,hr⟩:=h
 clear hr
 go_enter Tryz.func149,Tryz.ntmps149
 go_wp2_with (at_builtin;refine ZO tyS rfl (.tmp 3) (.tmp 4) 141 Tryz.underlying141 rfl w.heap.size _ _ [] ps rfl rfl (Zd rfl (Nat.le_refl _)) (uh HR) (by simp;omega) (by simp) ?_;intro u9 w9 hp9 hg9 hat9;rw [List.nil_append] at hp9;have HP9:=Z9 hp9;have HG9:=Z9 hg9;clear hp9 hg9 hat9)
 have hb9:Below w.heap.size w w9:=((ba _ _)).trans ((Below.refl _ _).grown (uh HG9) (by simp) (fun i e=>by cases e;exact Nat.le_refl _))
 go_wp2_with fail
 go_ret
 exact ⟨_,rfl,uh HP9,hb9⟩
theorem NO  {ps:List Yq} (h:Vy w v ps) (hl:ps.length<=1000):Calls Tryz.prog 151 #[v] w fun e w'=> ∃ v',e= .returned v'/\DesksAt w.heap.size w' v' ps/\Below w.heap.size w w':=by
 have HR:=Z9 (h.below ((Below.refl _ _).alloc (Nat.le_refl _) (.cells #[] 53)))
 obtain ⟨a,cap,rfl,hc,hm,hr⟩:=h
 clear hr
 go_enter Tryz.func151,Tryz.ntmps151
 go_wp2_with (at_builtin;refine ZO tyD rfl (.tmp 3) (.tmp 4) 189 Tryz.underlying189 rfl w.heap.size _ _ [] ps rfl rfl (Zd rfl (Nat.le_refl _)) (uh HR) (by simp;omega) (by simp) ?_;intro u9 w9 hp9 hg9 hat9;rw [List.nil_append] at hp9;have HP9:=Z9 hp9;have HG9:=Z9 hg9;clear hp9 hg9 hat9)
 have hb9:Below w.heap.size w w9:=((ba _ _)).trans ((Below.refl _ _).grown (uh HG9) (by simp) (fun i e=>by cases e;exact Nat.le_refl _))
 go_wp2_with fail
 go_ret
 exact ⟨_,rfl,uh HP9,hb9⟩
theorem M8  {ps:List Int} (h:Qg w v ps) (hl:ps.length<=1000):Calls Tryz.prog 152 #[v] w fun e w'=> ∃ v',e= .returned v'/\NumsAt w.heap.size w' v' ps/\Below w.heap.size w w':=by
 have HR:=Z9 (h.below ((Below.refl _ _).alloc (Nat.le_refl _) (.cells #[] 2)))
 obtain ⟨a,cap,rfl,hc,hm,hr⟩:=h
 clear hr
 go_enter Tryz.func152,Tryz.ntmps152
 go_wp2_with (at_builtin;refine ZO tyN rfl (.tmp 3) (.tmp 4) 192 Tryz.underlying192 rfl w.heap.size _ _ [] ps rfl rfl (Zd rfl (Nat.le_refl _)) (uh HR) (by simp;omega) (by simp) ?_;intro u9 w9 hp9 hg9 hat9;rw [List.nil_append] at hp9;have HP9:=Z9 hp9;have HG9:=Z9 hg9;clear hp9 hg9 hat9)
 have hb9:Below w.heap.size w w9:=((ba _ _)).trans ((Below.refl _ _).grown (uh HG9) (by simp) (fun i e=>by cases e;exact Nat.le_refl _))
 go_wp2_with fail
 go_ret
 exact ⟨_,rfl,uh HP9,hb9⟩
theorem Wg  (h:Smy w v0 v1 v2 v3 v4 m) (hF:Few m) :
  Calls Tryz.prog 95 #[.agg #[v0,v1,v2,v3,v4,.int .i64 m.now]] w fun e w'=> ∃ u0 u1 u2 u3 u4 qs,e= .returned (.agg #[u0,u1,u2,u3,u4,.int .i64 m.now])/\FullSmy w.heap.size w' u0 u1 u2 u3 u4 m qs/\Below w.heap.size w w':=by
 have Hv0:=Z9 h
 have HF:=Z9 hF
 obtain ⟨a0,p0,a1,p1,a2,p2,a3,p3,a4,p4,rfl,rfl,rfl,rfl,rfl,_,_,_,_,_,_,_,_,_,_⟩:=h.five
 clear h hF
 go_enter Tryz.func95,Tryz.ntmps95
 go_wp2_with fail
 obtain ⟨W,hW,kb,kr,BB⟩:=YS w 32 (S6 a0 p0 a1 p1 a2 p2 a3 p3 a4 p4 m) 32 E6
 rw [hW]
 clear hW
 obtain ⟨c0,c1,c2,c3,c4,c5⟩:=(uh kb).c6
 refine ZS (S:=fun w'=>w'.cell? ⟨w.heap.size,0,none⟩=some (.slice a0 m.rooms.length p0)/\w'.cell? ⟨w.heap.size,1,none⟩=some (.slice a1 m.guilds.length p1)/\w'.cell? ⟨w.heap.size,2,none⟩=some (.slice a2 m.smiths.length p2)/\w'.cell? ⟨w.heap.size,3,none⟩=some (.slice a3 m.desks.length p3)/\w'.cell? ⟨w.heap.size,4,none⟩=some (.slice a4 m.paces.length p4)/\w'.cell? ⟨w.heap.size,5,none⟩=some (.int .i64 m.now)) (by kernel_rfl) (List.cons_ne_nil _ _) (by kernel_rfl) ⟨c0,c1,c2,c3,c4,c5⟩ (fun hHeld=> ?_)
 replace kb:=Z9 ((uh kb).below (Below.refl _ _).drew (uh kb).lt)
 replace kr:=Z9 ((uh kr).below (Below.refl _ _).drew (uh kr).lt)
 replace BB:=Z9 ((uh BB).drew)
 have Hv:=Z9 ((uh Hv0).below (uh BB))
 clear c0 c1 c2 c3 c4 c5
 simp only [List.dropLast_cons_cons,List.dropLast_singleton,List.length_cons,List.length_nil,Nat.zero_add,Nat.reduceAdd]
 generalize W.drew=X0 at *
 have hz0:w.heap.size+2<=X0.heap.size:=by have:=(uh kr).lt;omega
 (refine tq 0 ?_;(try simp only [Act.put,sA,sZ,sS]))
 (refine tq 1 ?_;(try simp only [Act.put,sA,sZ,sS]))
 (refine tq 3 ?_;(try simp only [Act.put,sA,sZ,sS]))
 (refine tq 4 ?_;(try simp only [Act.put,sA,sZ,sS]))
 (refine tq 6 ?_;(try simp only [Act.put,sA,sZ,sS]))
 (refine tq 9 ?_;(try simp only [Act.put,sA,sZ,sS]))
 (refine tq 12 ?_;(try simp only [Act.put,sA,sZ,sS]))
 (refine tq 13 ?_;(try simp only [Act.put,sA,sZ,sS]))
 (refine tq 15 ?_;(try simp only [Act.put,sA,sZ,sS]))
 (refine tq 16 ?_;(try simp only [Act.put,sA,sZ,sS]))
 refine rd 2 rfl (fun K hK=> ?_)
 go_simp
 refine (NP (uh Hv).rooms (uh HF).rooms (uh HF).paces).mono ?_
 rintro e9 X1 ⟨u0,qs,rfl,hmap,hp,hb⟩
 replace Hv:=Z9 ((uh Hv).below hb)
 replace kb:=bl kb hb
 replace kr:=bl kr hb
 replace BB:=bt BB hb
 have Hmap:=Z9 hmap
 have hql:qs.length=m.rooms.length:=by rw [<-hmap,List.length_map]
 obtain ⟨b0,q0,hu0⟩:∃ b0 q0,u0= .slice b0 m.rooms.length q0:=by
  obtain ⟨a9,c9,e9⟩:=hp.shape
  exact ⟨a9,c9,by rw [e9,hql]⟩
 subst hu0
 have N0:Hid (OwnHall (w.heap.size+2) X1 (.slice b0 m.rooms.length q0) qs):=Z9 (hp.mono hz0)
 have L0:Hid (∀ b,((Value.slice b0 m.rooms.length q0).ownBlock=some b\/ ∃ q ∈ qs,q.2.ownBlock=some b)->b<X1.heap.size):=Z9 (fun b e=>(hp.lt e).2)
 have hz1:w.heap.size+2<=X1.heap.size:=by have:=hb.size;omega
 clear hmap hql hp hb
 refine hK.out _ _ (uh kb).c6 (fun hHeld=> ?_)
 clear hK K
 (try simp only [Act.put,sA,sZ,sS])
 refine rd 5 rfl (fun K hK=> ?_)
 go_simp
 refine (Pp (uh Hv).guilds (uh HF).guilds).mono ?_
 rintro e9 X2 ⟨u1,rfl,hp,hb⟩
 replace Hv:=Z9 ((uh Hv).below hb)
 replace kb:=bl kb hb
 replace kr:=bl kr hb
 replace BB:=bt BB hb
 replace N0:=Z9 ((uh N0).later hb)
 obtain ⟨b1,q1,hu1⟩:=RecAt.shape hp
 subst hu1
 have N1:Hid (GuildsAt (w.heap.size+2) X2 (.slice b1 m.guilds.length q1) m.guilds):=Z9 (RecAt.mono hp (by omega))
 have L1:Hid (∀ b,(Value.slice b1 m.guilds.length q1).ownBlock=some b->X1.heap.size<=b/\b<X2.heap.size):=Z9 (fun b e=>RecAt.lt hp e)
 have hsX2:=hb.size
 clear hp hb
 refine hK.out _ _ (uh kb).c6 (fun hHeld=> ?_)
 clear hK K
 (try simp only [Act.put,sA,sZ,sS])
 refine rd 7 rfl (fun K hK=> ?_)
 go_simp
 refine ck (VH _ _ _ _ _ _ _ _ _ _ _ _ _ _ _ _ _) fun X3 hb=> ?_
 replace Hv:=Z9 ((uh Hv).below hb)
 replace kb:=bl kb hb
 replace kr:=bl kr hb
 replace BB:=bt BB hb
 replace N0:=Z9 ((uh N0).later hb)
 replace N1:=Z9 (RecAt.later (uh N1) hb)
 have hsX3:=hb.size
 clear hb
 refine hK.out _ _ (uh kb).c6 (fun hHeld=> ?_)
 clear hK K
 (try simp only [Act.put,sA,sZ,sS])
 refine rd 8 rfl (fun K hK=> ?_)
 go_simp
 refine (Pq (uh Hv).smiths (Nat.le_trans (uh HF).smiths (by omega))).mono ?_
 rintro e9 X4 ⟨u2,rfl,hp,hb⟩
 replace Hv:=Z9 ((uh Hv).below hb)
 replace kb:=bl kb hb
 replace kr:=bl kr hb
 replace BB:=bt BB hb
 replace N0:=Z9 ((uh N0).later hb)
 replace N1:=Z9 (RecAt.later (uh N1) hb)
 obtain ⟨b2,q2,hu2⟩:=RecAt.shape hp
 subst hu2
 have N2:Hid (SmithsAt (w.heap.size+2) X4 (.slice b2 m.smiths.length q2) m.smiths):=Z9 (RecAt.mono hp (by omega))
 have L2:Hid (∀ b,(Value.slice b2 m.smiths.length q2).ownBlock=some b->X3.heap.size<=b/\b<X4.heap.size):=Z9 (fun b e=>RecAt.lt hp e)
 have hsX4:=hb.size
 clear hp hb
 refine hK.out _ _ (uh kb).c6 (fun hHeld=> ?_)
 clear hK K
 (try simp only [Act.put,sA,sZ,sS])
 refine rd 10 rfl (fun K hK=> ?_)
 go_simp
 refine ck (PO _ _ _ _ _ _ _ _ _ _ _ _ _ _ _ _ _) fun X5 hb=> ?_
 replace Hv:=Z9 ((uh Hv).below hb)
 replace kb:=bl kb hb
 replace kr:=bl kr hb
 replace BB:=bt BB hb
 replace N0:=Z9 ((uh N0).later hb)
 replace N1:=Z9 (RecAt.later (uh N1) hb)
 replace N2:=Z9 (RecAt.later (uh N2) hb)
 have hsX5:=hb.size
 clear hb
 refine hK.out _ _ (uh kb).c6 (fun hHeld=> ?_)
 clear hK K
 (try simp only [Act.put,sA,sZ,sS])
 refine rd 11 rfl (fun K hK=> ?_)
 go_simp
 refine (NO (uh Hv).desks (uh HF).desks).mono ?_
 rintro e9 X6 ⟨u3,rfl,hp,hb⟩
 replace Hv:=Z9 ((uh Hv).below hb)
 replace kb:=bl kb hb
 replace kr:=bl kr hb
 replace BB:=bt BB hb
 replace N0:=Z9 ((uh N0).later hb)
 replace N1:=Z9 (RecAt.later (uh N1) hb)
 replace N2:=Z9 (RecAt.later (uh N2) hb)
 obtain ⟨b3,q3,hu3⟩:=RecAt.shape hp
 subst hu3
 have N3:Hid (DesksAt (w.heap.size+2) X6 (.slice b3 m.desks.length q3) m.desks):=Z9 (RecAt.mono hp (by omega))
 have L3:Hid (∀ b,(Value.slice b3 m.desks.length q3).ownBlock=some b->X5.heap.size<=b/\b<X6.heap.size):=Z9 (fun b e=>RecAt.lt hp e)
 have hsX6:=hb.size
 clear hp hb
 refine hK.out _ _ (uh kb).c6 (fun hHeld=> ?_)
 clear hK K
 (try simp only [Act.put,sA,sZ,sS])
 refine rd 14 rfl (fun K hK=> ?_)
 go_simp
 refine (M8 (uh Hv).paces (uh HF).nums).mono ?_
 rintro e9 X7 ⟨u4,rfl,hp,hb⟩
 replace Hv:=Z9 ((uh Hv).below hb)
 replace kb:=bl kb hb
 replace kr:=bl kr hb
 replace BB:=bt BB hb
 replace N0:=Z9 ((uh N0).later hb)
 replace N1:=Z9 (RecAt.later (uh N1) hb)
 replace N2:=Z9 (RecAt.later (uh N2) hb)
 replace N3:=Z9 (RecAt.later (uh N3) hb)
 obtain ⟨b4,q4,hu4⟩:=RecAt.shape hp
 subst hu4
 have N4:Hid (NumsAt (w.heap.size+2) X7 (.slice b4 m.paces.length q4) m.paces):=Z9 (RecAt.mono hp (by omega))
 have L4:Hid (∀ b,(Value.slice b4 m.paces.length q4).ownBlock=some b->X6.heap.size<=b/\b<X7.heap.size):=Z9 (fun b e=>RecAt.lt hp e)
 have hsX7:=hb.size
 clear hp hb
 refine hK.out _ _ (uh kb).c6 (fun hHeld=> ?_)
 clear hK K
 (try simp only [Act.put,sA,sZ,sS])
 (refine tq 17 ?_;(try simp only [Act.put,sA,sZ,sS]))
 obtain ⟨o0,o1,o2,o3,o4,o5⟩:=(uh kr).c6
 obtain ⟨f0,f1,f2,f3,f4,f5⟩:=(uh kr).f6
 refine wpAnyH_done (by kernel_rfl) ?_ _
 refine ZH rfl rfl ?_
 go_simp
 clear hHeld
 have HFull:Hid (FullSmy (w.heap.size+2) X7 (.slice b0 m.rooms.length q0) (.slice b1 m.guilds.length q1) (.slice b2 m.smiths.length q2) (.slice b3 m.desks.length q3) (.slice b4 m.paces.length q4) m qs):=Z9 (FL X1.heap.size X2.heap.size X4.heap.size X6.heap.size (uh N0) (uh Hmap) (uh N1) (uh N2) (uh N3) (uh N4) (uh L0) (uh L1) (fun b e=>by have:=uh L2 b e;omega) (fun b e=>by have:=uh L3 b e;omega) (fun b e=>(uh L4 b e).1) (by omega) (by omega) (by omega))
 go_wp2_with fail
 refine bodyPost_ret (v:= .agg (S6 b0 q0 b1 q1 b2 q2 b3 q3 b4 q4 m)) (by simp [results,Tryz.results95,go_sem, *]) rfl ⟨_,_,_,_,_,qs,rfl,?_,?_⟩
 ·refine FullSmy.mono (n₀:=w.heap.size+2) ?_ (by omega)
  iterate 6 (refine FullSmy.set ?_ _ _ _ (by omega))
  exact uh HFull
 ·iterate 6 (refine Below.setCell ?_ (by show _<=w.heap.size+1;omega) _)
  exact uh BB
theorem Sq {ps:List Z6} (h:(YL ps && decide (0<ps.length))=false):TH ps=((0,0),false):=by unfold TH;rw [h];rfl
theorem NY {ps:List Z6} (h:YL ps=true) (hl:0<ps.length):TH ps=(Z7 ps 0,true):=by unfold TH;rw [h,decide_eq_true hl];rfl
theorem Ps  {ps:List Z6} (h:IsPaces w v ps) :
  Calls Tryz.prog 205 #[v] w fun e w'=>e= .returned (.tuple #[.agg #[.int .i64 (TH ps).1.1,.int .i64 (TH ps).1.2],.bool (TH ps).2])/\Below w.heap.size w w':=by
 have Hv:=Z9 h
 obtain ⟨a,cap,rfl,hc,hm,hr⟩:=h
 cases hq:YL ps
 ·rw [Sq (by rw [hq];rfl)]
  clear hr
  go_enter Tryz.func205,Tryz.ntmps205
  go_wp2_with fail
  refine (Yx ((uh Hv).below ((ba _ _)))).mono ?_
  rw [hq]
  rintro e w1 ⟨rfl,hb⟩
  have Hb:=Z9 hb
  have hsz:=hb.size
  simp at hsz
  obtain ⟨k1,k2⟩:=NG hb
  clear hb
  go_wp2_with fail
  exact bodyPost_ret (v:= .tuple #[.agg #[.int .i64 0,.int .i64 0],.bool false]) (by simp [results,Tryz.results205,go_sem,k1]) rfl ⟨rfl,((((ba _ _)).trans ((uh Hb).mono (by simp))).setCell (by simp) _).setCell (by simp) _⟩
 ·rcases hr with hr | ⟨b,off,rfl,hbw,hcl⟩
  ·subst hr
   rw [Sq (by simp)]
   go_enter Tryz.func205,Tryz.ntmps205
   go_wp2_with fail
   refine (Yx ((uh Hv).below ((ba _ _)))).mono ?_
   rw [hq]
   rintro e w1 ⟨rfl,hb⟩
   have Hb:=Z9 hb
   have hsz:=hb.size
   simp at hsz
   obtain ⟨k1,k2⟩:=NG hb
   clear hb
   go_wp2_with fail
   exact bodyPost_ret (v:= .tuple #[.agg #[.int .i64 0,.int .i64 0],.bool false]) (by simp [results,Tryz.results205,go_sem,k1]) rfl ⟨rfl,((((ba _ _)).trans ((uh Hb).mono (by simp))).setCell (by simp) _).setCell (by simp) _⟩
  ·by_cases hl:0<ps.length
   ·rw [NY hq hl]
    obtain ⟨c0,c1⟩:=hcl 0 hl
    simp only [Nat.zero_mul,Nat.add_zero] at c0 c1
    generalize Z7 ps 0=p at *
    obtain ⟨f,z⟩:=p
    simp only at c0 c1
    have hl2:(ps.length ==0)=false:=beq_eq_false_iff_ne.2 (by omega)
    have hl3:((ps.length:Int) ==0)=false:=beq_eq_false_iff_ne.2 (by omega)
    have hne:b ≠ w.heap.size:=Nat.ne_of_lt hbw
    clear hcl
    go_enter Tryz.func205,Tryz.ntmps205
    go_wp2_with fail
    refine (Yx ((uh Hv).below ((ba _ _)))).mono ?_
    rw [hq]
    rintro e w1 ⟨rfl,hb⟩
    have Hb:=Z9 hb
    have hsz:=hb.size
    simp at hsz
    have c0':=(hb.cell (p:=⟨b,off,none⟩) (by simp;omega)).trans ((World.cell?_alloc_old _ _ _ hne).trans c0)
    have c1':=(hb.cell (p:=⟨b,off+1,none⟩) (by simp;omega)).trans ((World.cell?_alloc_old _ _ _ hne).trans c1)
    obtain ⟨k1,k2⟩:=NG hb
    clear hb c0 c1
    go_wp2_with fail
    exact bodyPost_ret (v:= .tuple #[.agg #[.int .i64 f,.int .i64 z],.bool true]) (by simp [results,Tryz.results205,go_sem,k1]) rfl ⟨rfl,((((ba _ _)).trans ((uh Hb).mono (by simp))).setCell (by simp) _).setCell (by simp) _⟩
   ·obtain rfl:ps=[]:=List.eq_nil_of_length_eq_zero (by omega)
    rw [Sq (by simp)]
    clear hcl
    go_enter Tryz.func205,Tryz.ntmps205
    go_wp2_with fail
    refine (Yx ((uh Hv).below ((ba _ _)))).mono ?_
    rw [hq]
    rintro e w1 ⟨rfl,hb⟩
    have Hb:=Z9 hb
    have hsz:=hb.size
    simp at hsz
    obtain ⟨k1,k2⟩:=NG hb
    clear hb
    go_wp2_with fail
    exact bodyPost_ret (v:= .tuple #[.agg #[.int .i64 0,.int .i64 0],.bool false]) (by simp [results,Tryz.results205,go_sem,k1]) rfl ⟨rfl,((((ba _ _)).trans ((uh Hb).mono (by simp))).setCell (by simp) _).setCell (by simp) _⟩
end Go.Proofs.YtffcgajndmhpkaaGreatDoor
