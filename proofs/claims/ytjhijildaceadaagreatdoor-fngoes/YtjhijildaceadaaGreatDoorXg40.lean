/- Part 40 of what the proof rests on. No condition but those that a theorem names. -/
import Derived.Test.YtjhijildaceadaaGreatDoorXg39
set_option maxHeartbeats 8000000
set_option maxRecDepth 100000
namespace Go.Proofs.YtjhijildaceadaaGreatDoor
open Go.ChangeShapes Go.WideShapes Go.ChangeAt Go.RowKit Go.Sort
open Draw (St Off Row Cur)
set_option linter.unusedVariables false
set_option linter.unusedSimpArgs false
set_option maxRecDepth 100000
theorem Tj (a:Option Addr) (len cap:Nat) (w:World) (hr:Row w.heap.size w a len) :
  Calls Tryz.prog 105 #[.slice a len cap] w fun e w'=> ∃ M u0 u1 u2 u3 u4 x rq,e= .returned (.tuple #[.agg #[u0,u1,u2,u3,u4,.int .i64 M.now],.int .i64 x])/\FullSmy (w.heap.size+1) w' u0 u1 u2 u3 u4 M rq/\Below w.heap.size w w':=by
 have Hr:=Z9 (Draw.row_later hr ((Below.refl _ _).alloc (Nat.le_refl _) (.cells E6 32)))
 clear hr
 go_enter Tryz.func105,Tryz.ntmps105
 go_wp2_with fail
 have kr:Hid (Blk (w.alloc (.cells E6 32)) w.heap.size 32 E6):=Z9 (Blk.new _ _ _)
 have BB:Hid (Below w.heap.size w (w.alloc (.cells E6 32))):=Z9 ((Below.refl _ _).alloc (Nat.le_refl _) _)
 have hzW:w.heap.size<(w.alloc (.cells E6 32)).heap.size:=by simp
 generalize w.alloc (.cells E6 32)=W at *
 refine (Draw.new_any a len cap _ (uh Hr)).mono ?_
 rintro e w1 ⟨rfl,s1,o1⟩
 have Hs:=Z9 s1
 replace kr:=Z9 ((uh kr).away o1 (by omega))
 replace BB:=Z9 ((uh BB).trans (o1.below (by omega) (uh BB).size))
 clear s1 o1 Hr
 generalize W.heap.size=cb at *
 go_wp2_with fail
 refine (OY a len cap cb _ (uh Hs)).mono ?_
 rintro e w2 ⟨M,u0,u1,u2,u3,u4,rq,rfl,hm2,hm3,hf,s2,o2⟩
 have Hm2:=Z9 hm2
 have Hm3:=Z9 hm3
 clear hm2 hm3
 have hc1:=Wz (uh Hs)
 have k6:=hf.smy
 obtain ⟨b0,q0,b1,q1,b2,q2,b3,q3,b4,q4,rfl,rfl,rfl,rfl,rfl,_,_,_,_,_,_,_,_,_,_⟩:=k6.five
 have HF:=Z9 (hf.mono (n₁:=cb+1) (by omega))
 replace Hs:=Z9 s2
 have Hs0:=Hs
 replace kr:=Z9 ((uh kr).away o2 (by omega))
 replace BB:=Z9 ((uh BB).trans (o2.below (by omega) (uh BB).size))
 clear hf s2 o2 k6
 go_upto_region 3 with fail
 obtain ⟨W2,hW2,hb,km⟩:=ZA w2 32 (S6 b0 q0 b1 q1 b2 q2 b3 q3 b4 q4 M)
 replace kr:=bl kr hb
 replace HF:=Z9 ((uh HF).below hb)
 replace Hs:=Z9 ((uh Hs).alloc (.cells (S6 b0 q0 b1 q1 b2 q2 b3 q3 b4 q4 M) 32))
 replace BB:=bt BB hb
 have hmb:cb+1<=w2.heap.size:=Wz (uh Hs0)
 have hown:Hid (∀ k,YG (.slice b0 M.rooms.length q0) (.slice b1 M.guilds.length q1) (.slice b2 M.smiths.length q2) (.slice b3 M.desks.length q3) (.slice b4 M.paces.length q4) rq k->k ≠ w.heap.size/\cb<k):=Z9 (fun k e=>by have:=((uh HF).own e).1;omega)
 clear hb
 rw [hW2]
 (try rw [hW2] at Hs);clear hW2
 generalize w2.heap.size=mb at *
 have hkl:M.smiths.length<=1000000:=by have:=uh Hm2;omega
 obtain ⟨x0,x1,x2,x3,x4,x5⟩:=(uh km).c6
 go_wp2_with fail
 refine ZS (S:=fun w'=>w'.cell? ⟨mb,0,none⟩=some (.slice b0 M.rooms.length q0)/\w'.cell? ⟨mb,1,none⟩=some (.slice b1 M.guilds.length q1)/\w'.cell? ⟨mb,2,none⟩=some (.slice b2 M.smiths.length q2)/\w'.cell? ⟨mb,3,none⟩=some (.slice b3 M.desks.length q3)/\w'.cell? ⟨mb,4,none⟩=some (.slice b4 M.paces.length q4)/\w'.cell? ⟨mb,5,none⟩=some (.int .i64 M.now)) (by kernel_rfl) (List.cons_ne_nil _ _) (by kernel_rfl) ⟨x0,x1,x2,x3,x4,x5⟩ (fun hHeld=> ?_)
 simp only [List.dropLast_cons_cons,List.dropLast_singleton,List.length_cons,List.length_nil,Nat.zero_add,Nat.reduceAdd]
 clear x0 x1 x2 x3 x4 x5
 (refine tk 0 rfl (by assumption) ?_;(try simp only [Act.put,sA,sZ,sS]))
 (refine tk 1 rfl (by assumption) ?_;(try simp only [Act.put,sA,sZ,sS]))
 (refine tk 2 rfl (by assumption) ?_;(try simp only [Act.put,sA,sZ,sS]))
 refine rd 3 rfl (fun K hK=> ?_)
 go_simp
 refine (OZ a len cap cb _ _ _ _ _ _ _ _ _ _ _ _ _ _ _ _ hkl _ (Uv (uh Hs))).mono ?_
 rintro e9 w5 ⟨x,rfl,s9,p9⟩
 have ho:=UJ p9
 replace km:=Z9 ((uh km).away ho (by omega))
 replace kr:=Z9 ((uh kr).away ho (by omega))
 replace HF:=Z9 ((uh HF).keep (fun k e=>ho.block k ((uh HF).own e).2 (by have:=(uh hown k e).2;omega)))
 replace BB:=Z9 ((uh BB).trans (ho.below (by omega) (uh BB).size))
 clear s9 p9 ho
 refine hK.out _ _ (uh km).c6 (fun hHeld=> ?_)
 clear hK K
 (try simp only [Act.put,sA,sZ,sS])
 obtain ⟨o0,o1,o2,o3,o4,o5⟩:=(uh kr).c6
 obtain ⟨f0,f1,f2,f3,f4,f5⟩:=(uh kr).f6
 have kmN:Blk ((((((w5.setCell ⟨w.heap.size,0,none⟩ (.slice b0 M.rooms.length q0)).setCell ⟨w.heap.size,1,none⟩ (.slice b1 M.guilds.length q1)).setCell ⟨w.heap.size,2,none⟩ (.slice b2 M.smiths.length q2)).setCell ⟨w.heap.size,3,none⟩ (.slice b3 M.desks.length q3)).setCell ⟨w.heap.size,4,none⟩ (.slice b4 M.paces.length q4)).setCell ⟨w.heap.size,5,none⟩ (.int .i64 M.now)) mb 32 (S6 b0 q0 b1 q1 b2 q2 b3 q3 b4 q4 M):=(((((((uh km).other (a:=⟨w.heap.size,0,none⟩) (by show mb ≠ w.heap.size;omega) (.slice b0 M.rooms.length q0)).other (a:=⟨w.heap.size,1,none⟩) (by show mb ≠ w.heap.size;omega) (.slice b1 M.guilds.length q1)).other (a:=⟨w.heap.size,2,none⟩) (by show mb ≠ w.heap.size;omega) (.slice b2 M.smiths.length q2)).other (a:=⟨w.heap.size,3,none⟩) (by show mb ≠ w.heap.size;omega) (.slice b3 M.desks.length q3)).other (a:=⟨w.heap.size,4,none⟩) (by show mb ≠ w.heap.size;omega) (.slice b4 M.paces.length q4)).other (a:=⟨w.heap.size,5,none⟩) (by show mb ≠ w.heap.size;omega) (.int .i64 M.now))
 refine rd 4 rfl (fun K hK=> ?_)
 go_simp
 refine hK.out _ _ ⟨kmN.cell (i:=0) rfl,kmN.cell (i:=1) rfl,kmN.cell (i:=2) rfl,kmN.cell (i:=3) rfl,kmN.cell (i:=4) rfl,kmN.cell (i:=5) rfl⟩ (fun hHeld=> ?_)
 clear hK K kmN
 (try simp only [Act.put,sA,sZ,sS])
 refine wpAnyH_done (by kernel_rfl) ?_ _
 refine ZL rfl rfl ?_
 go_simp
 clear hHeld
 go_wp2_with fail
 refine bodyPost_ret (v:= .tuple #[.agg (S6 b0 q0 b1 q1 b2 q2 b3 q3 b4 q4 M),.int .i64 x]) (by simp [results,Tryz.results105,go_sem, *]) rfl ⟨M,_,_,_,_,_,x,rq,rfl,?_,?_⟩
 ·refine FullSmy.mono (n₀:=cb+1) ?_ (by omega)
  iterate 6 (refine FullSmy.set_off ?_ (fun k e=>(uh hown k e).1) _ _)
  exact uh HF
 ·iterate 6 (refine Below.setCell ?_ (by show w.heap.size<=w.heap.size;omega) _)
  exact uh BB
set_option maxRecDepth 100000
theorem Ms (a:Option Addr) (len cap:Nat) (w:World) (hr:Row w.heap.size w a len) :
  Calls Tryz.prog 43 #[.slice a len cap] w fun e w'=> ∃ M u0 u1 u2 u3 u4 x rq,e= .returned (.tuple #[.agg #[u0,u1,u2,u3,u4,.int .i64 M.now],.int .i64 x])/\FullSmy (w.heap.size+1) w' u0 u1 u2 u3 u4 M rq/\Below w.heap.size w w':=by
 have Hr:=Z9 (Draw.row_later hr ((Below.refl _ _).alloc (Nat.le_refl _) (.cells E6 32)))
 clear hr
 go_enter Tryz.func43,Tryz.ntmps43
 go_wp2_with fail
 have kr:Hid (Blk (w.alloc (.cells E6 32)) w.heap.size 32 E6):=Z9 (Blk.new _ _ _)
 have BB:Hid (Below w.heap.size w (w.alloc (.cells E6 32))):=Z9 ((Below.refl _ _).alloc (Nat.le_refl _) _)
 have hzW:w.heap.size<(w.alloc (.cells E6 32)).heap.size:=by simp
 generalize w.alloc (.cells E6 32)=W at *
 refine (Tj a len cap _ (uh Hr)).mono ?_
 rintro e w2 ⟨M,u0,u1,u2,u3,u4,x,rq,rfl,hm,hb⟩
 have HF:=Z9 hm
 have k6:=hm.smy
 obtain ⟨b0,q0,b1,q1,b2,q2,b3,q3,b4,q4,rfl,rfl,rfl,rfl,rfl,_,_,_,_,_,_,_,_,_,_⟩:=k6.five
 replace kr:=Z9 ((uh kr).below hb hzW)
 replace BB:=bt BB hb
 clear hm hb Hr k6
 generalize W.heap.size=cb at *
 obtain ⟨o0,o1,o2,o3,o4,o5⟩:=(uh kr).c6
 obtain ⟨f0,f1,f2,f3,f4,f5⟩:=(uh kr).f6
 go_wp2_with fail
 refine bodyPost_ret (v:= .tuple #[.agg (S6 b0 q0 b1 q1 b2 q2 b3 q3 b4 q4 M),.int .i64 x]) (by simp [results,Tryz.results43,go_sem, *]) rfl ⟨M,_,_,_,_,_,x,rq,rfl,?_,?_⟩
 ·refine FullSmy.mono (n₀:=cb+1) ?_ (by omega)
  iterate 6 (refine FullSmy.set ?_ _ _ _ (by omega))
  exact uh HF
 ·iterate 6 (refine Below.setCell ?_ (by show w.heap.size<=w.heap.size;omega) _)
  exact uh BB
theorem NQ (a:Option Addr) (len cap:Nat) (w:World) (hr:Row w.heap.size w a len) :
  Calls Tryz.prog 45 #[.slice a len cap] w fun e w'=> ∃ M u0 u1 u2 u3 u4 x rq,e= .returned (.tuple #[.agg #[u0,u1,u2,u3,u4,.int .i64 M.now],.int .i64 x])/\FullSmy (w.heap.size+1) w' u0 u1 u2 u3 u4 M rq/\Below w.heap.size w w':=by
 have Hr:=Z9 (Draw.row_later hr ((Below.refl _ _).alloc (Nat.le_refl _) (.cells E6 32)))
 clear hr
 go_enter Tryz.func45,Tryz.ntmps45
 go_wp2_with fail
 have kr:Hid (Blk (w.alloc (.cells E6 32)) w.heap.size 32 E6):=Z9 (Blk.new _ _ _)
 have BB:Hid (Below w.heap.size w (w.alloc (.cells E6 32))):=Z9 ((Below.refl _ _).alloc (Nat.le_refl _) _)
 have hzW:w.heap.size<(w.alloc (.cells E6 32)).heap.size:=by simp
 generalize w.alloc (.cells E6 32)=W at *
 refine (Tj a len cap _ (uh Hr)).mono ?_
 rintro e w2 ⟨M,u0,u1,u2,u3,u4,x,rq,rfl,hm,hb⟩
 have HF:=Z9 hm
 have k6:=hm.smy
 obtain ⟨b0,q0,b1,q1,b2,q2,b3,q3,b4,q4,rfl,rfl,rfl,rfl,rfl,_,_,_,_,_,_,_,_,_,_⟩:=k6.five
 replace kr:=Z9 ((uh kr).below hb hzW)
 replace BB:=bt BB hb
 clear hm hb Hr k6
 generalize W.heap.size=cb at *
 obtain ⟨o0,o1,o2,o3,o4,o5⟩:=(uh kr).c6
 obtain ⟨f0,f1,f2,f3,f4,f5⟩:=(uh kr).f6
 go_wp2_with fail
 refine bodyPost_ret (v:= .tuple #[.agg (S6 b0 q0 b1 q1 b2 q2 b3 q3 b4 q4 M),.int .i64 x]) (by simp [results,Tryz.results45,go_sem, *]) rfl ⟨M,_,_,_,_,_,x,rq,rfl,?_,?_⟩
 ·refine FullSmy.mono (n₀:=cb+1) ?_ (by omega)
  iterate 6 (refine FullSmy.set ?_ _ _ _ (by omega))
  exact uh HF
 ·iterate 6 (refine Below.setCell ?_ (by show w.heap.size<=w.heap.size;omega) _)
  exact uh BB
section
variable {a : Option Addr} {len cap cb rb mb : Nat} {w W X : World} {M : Z4} {u0 u1 u2 u3 u4 : Value} {rq : List (Z2 × Value)}
end
end Go.Proofs.YtjhijildaceadaaGreatDoor
namespace Go.Proofs.YtjhijildaceadaaGreatDoor
open Go.ChangeShapes Go.WideShapes Go.ChangeAt Go.RowKit
set_option linter.unusedVariables false
theorem MD {w:World} {v u:Value} {rs:List Z2} (hv:IsRooms w v rs) (hu:IsRooms w u rs) :
  Calls Tryz.prog 74 #[.agg #[v],.agg #[u]] w fun e w'=>e= .returned (.bool true)/\Below w.heap.size w w':=by
 have Hv:=Z9 hv
 have Hu:=Z9 hu
 obtain ⟨a,cap,rfl,hc,hm,hr⟩:=hv
 obtain ⟨a',cap',rfl,hc',hm',hr'⟩:=hu
 clear hr hr'
 go_enter Tryz.func74,Tryz.ntmps74
 go_wp2_with fail
 have B0:Hid (Below w.heap.size w ((w.alloc (.cells #[.slice a rs.length cap] 26)).alloc (.cells #[.slice a' rs.length cap'] 26))):=Z9 (((Below.refl _ _).alloc (Nat.le_refl _) _).alloc (by simp) _)
 go_loopw [5] (fun i wr=> ∃ k:Nat,k<=rs.length/\i= .int .i64 k/\Below (w.heap.size+2) ((w.alloc (.cells #[.slice a rs.length cap] 26)).alloc (.cells #[.slice a' rs.length cap'] 26)) wr) (fun i _=>rs.length-(intOf i).toNat)
 case atStart=>exact ⟨0,Nat.zero_le _,rfl,Below.refl _ _⟩
 case round=>
  obtain ⟨k,hk,rfl,hb⟩:=hrel
  have Hb:=Z9 hb
  have hzr:w.heap.size+2<=wr.heap.size:=by have:=hb.size;simpa using this
  have c0:wr.cell? ⟨w.heap.size,0,none⟩=some (.slice a rs.length cap):=(hb.cell (p:=⟨w.heap.size,0,none⟩) (by show w.heap.size<w.heap.size+2;omega)).trans (by simp)
  have c1:wr.cell? ⟨w.heap.size+1,0,none⟩=some (.slice a' rs.length cap'):=(hb.cell (p:=⟨w.heap.size+1,0,none⟩) (by show w.heap.size+1<w.heap.size+2;omega)).trans (by simp)
  have BW:Hid (Below w.heap.size w wr):=Z9 ((uh B0).trans (hb.mono (by omega)))
  clear hb
  by_cases hlt:k<rs.length
  ·obtain ⟨_,_,e1,_,_,hr⟩:=uh Hv
   obtain ⟨_,_,e2,_,_,hr'⟩:=uh Hu
   cases e1
   cases e2
   rcases hr with h0 | ⟨b,off,rfl,hbw,hcl⟩
   ·rw [h0] at hlt;simp at hlt
   rcases hr' with h0 | ⟨b',off',rfl,hbw',hcl'⟩
   ·rw [h0] at hlt;simp at hlt
   obtain ⟨d0,pv,d1,hip⟩:=hcl k hlt
   obtain ⟨d2,pu,d3,hiu⟩:=hcl' k hlt
   rw [<-(uh BW).cell (p:=⟨b,off+k*2,none⟩) hbw] at d0
   rw [<-(uh BW).cell (p:=⟨b,off+k*2+1,none⟩) hbw] at d1
   rw [<-(uh BW).cell (p:=⟨b',off'+k*2,none⟩) hbw'] at d2
   rw [<-(uh BW).cell (p:=⟨b',off'+k*2+1,none⟩) hbw'] at d3
   have Hip:=Z9 (hip.below (uh BW))
   have Hiu:=Z9 (hiu.below (uh BW))
   obtain ⟨pa,pcap,rfl,hpc,hpm,_⟩:=hip
   obtain ⟨pa',pcap',rfl,hpc',hpm',_⟩:=hiu
   generalize (ZW rs k).1=f at *
   generalize (ZW rs k).2=ps at *
   clear hcl hcl'
   have k0:=cell_regrown c0
   have k1:=cell_regrown c1
   have k2:=cell_regrown d0
   have k3:=cell_regrown d1
   have k4:=cell_regrown d2
   have k5:=cell_regrown d3
   go_wp2_with fail
   refine wp_region_quiet_below (by kernel_rfl) (by kernel_rfl) ?_
   repeat (go_big_quiet_step (fail))
   refine wpQuiet_nil ?_
   intro _ hw'
   obtain ⟨⟨dq,osq⟩,hw''⟩:=hw'
   subst hw''
   have Hbq:=Z9 (below_regrown wr dq osq)
   have e0:=k0 dq osq
   have e1:=k1 dq osq
   have e2:=k2 dq osq
   have e3:=k3 dq osq
   have e4:=k4 dq osq
   have e5:=k5 dq osq
   clear k0 k1 k2 k3 k4 k5 c0 c1 d0 d1 d2 d3
   obtain ⟨w1,hw1⟩:∃ w1,w1=Go.Sort.grow (Go.redrawn wr dq) osq:=⟨_,rfl⟩
   rw [<-hw1] at Hbq e0 e1 e2 e3 e4 e5 ⊢
   clear hw1
   have HB1:=Z9 ((uh BW).trans ((uh Hbq).mono (uh BW).size))
   go_wp2_with fail
   obtain ⟨wo,hwo⟩:∃ wo,wo=wr:=⟨wr,rfl⟩
   rw [<-hwo] at *
   clear hwo
   go_loopw [6] (fun i wr=> ∃ j:Nat,j<=ps.length/\i= .int .i64 j/\Below w1.heap.size w1 wr) (fun i _=>ps.length-(intOf i).toNat)
   case atStart=>exact ⟨0,Nat.zero_le _,rfl,Below.refl _ _⟩
   case round=>
    obtain ⟨j,hj,rfl,hbr⟩:=hrel
    have Hbr:=Z9 hbr
    have HBr:=Z9 ((uh HB1).trans (hbr.mono (uh HB1).size))
    have hz1:=(uh Hbq).size
    have f0:=(hbr.cell (World.block_lt_of_cell? _ _ e0)).trans e0
    have f1:=(hbr.cell (World.block_lt_of_cell? _ _ e1)).trans e1
    have f3:=(hbr.cell (World.block_lt_of_cell? _ _ e3)).trans e3
    have f5:=(hbr.cell (World.block_lt_of_cell? _ _ e5)).trans e5
    clear hbr
    by_cases hjl:j<ps.length
    ·obtain ⟨_,_,g1,_,_,hr⟩:=(uh Hip).below ((uh Hbq).trans ((uh Hbr).mono hz1))
     obtain ⟨_,_,g2,_,_,hr'⟩:=(uh Hiu).below ((uh Hbq).trans ((uh Hbr).mono hz1))
     cases g1
     cases g2
     rcases hr with h0 | ⟨pb,poff,rfl,hpbw,hpl⟩
     ·rw [h0] at hjl;simp at hjl
     rcases hr' with h0 | ⟨pb',poff',rfl,hpbw',hpl'⟩
     ·rw [h0] at hjl;simp at hjl
     obtain ⟨c0,c1⟩:=hpl j hjl
     obtain ⟨d0,d1⟩:=hpl' j hjl
     generalize (Z7 ps j).1=x at *
     generalize (Z7 ps j).2=y at *
     have k0:=cell_regrown f0
     have k1:=cell_regrown f1
     have k3:=cell_regrown f3
     have k5:=cell_regrown f5
     have k6:=cell_regrown c0
     have k7:=cell_regrown c1
     have k8:=cell_regrown d0
     have k9:=cell_regrown d1
     clear hpl hpl' e0 e1 e2 e3 e4 e5
     go_wp2_with fail
     refine wp_region_quiet_below (by kernel_rfl) (by kernel_rfl) ?_
     repeat (go_big_quiet_step (fail))
     refine wpQuiet_nil ?_
     intro _ hw'
     obtain ⟨⟨dr,osr⟩,hw''⟩:=hw'
     subst hw''
     go_wp2_with fail
     go_roundw
     case rel=>exact ⟨j+1,by omega,by go_num,(uh Hbr).trans ((below_regrown _ _ _).mono (uh Hbr).size)⟩
     case measure=>simp [intOf];omega
    ·go_wp2_with fail
     go_roundw
     case rel=>exact ⟨k+1,by omega,by go_num,(uh Hb).trans (((uh Hbq).trans ((uh Hbr).mono hz1)).mono hzr)⟩
     case measure=>simp [intOf];omega
  ·go_wp2_with fail
   go_ret
   exact ⟨rfl,uh BW⟩
open Go.ChangeShapes Go.WideShapes Go.ChangeAt Go.RowKit Go.Sort
set_option maxRecDepth 100000
theorem Ki (a b c:Int) (w:World):(Op.equalIn 10000 90 (.agg #[.int .i64 a,.int .i64 b,.int .i64 c]) (.agg #[.int .i64 a,.int .i64 b,.int .i64 c])).run Tryz.prog w= .ok true w:=by
 have u:=Tryz.underlying2
 have g:=Tryz.isAgg2
 have z:=Tryz.sizeOf2
 have hS:Tryz.prog.underlying 90=some (.struct (Tryz.prog.fieldsOf 90)):=by kernel_rfl
 have hp:Tryz.prog.stoodInHeld 90=false:=by kernel_rfl
 rw [show (10000:Nat)=9999+1 from rfl,run_equalIn_agg w 9999 90 _ _ hS hp]
 simp only [Program.fieldsOf,Tryz.underlying90]
 go_simp
theorem FL (a b c:Int) (w:World):(binOp .neq 90 (.agg #[.int .i64 a,.int .i64 b,.int .i64 c]) (.agg #[.int .i64 a,.int .i64 b,.int .i64 c])).run Tryz.prog w= .ok (.bool false) w:=by
 rw [run_neq_struct,Ki];rfl
theorem Ix (o:Bool) (b c:Int) (w:World):(Op.equalIn 10000 49 (.agg #[.bool o,.int .i64 b,.int .i64 c]) (.agg #[.bool o,.int .i64 b,.int .i64 c])).run Tryz.prog w= .ok true w:=by
 have u:=Tryz.underlying2
 have g:=Tryz.isAgg2
 have z:=Tryz.sizeOf2
 have u2:=Tryz.underlying4
 have g2:=Tryz.isAgg4
 have z2:=Tryz.sizeOf4
 have hS:Tryz.prog.underlying 49=some (.struct (Tryz.prog.fieldsOf 49)):=by kernel_rfl
 have hp:Tryz.prog.stoodInHeld 49=false:=by kernel_rfl
 rw [show (10000:Nat)=9999+1 from rfl,run_equalIn_agg w 9999 49 _ _ hS hp]
 simp only [Program.fieldsOf,Tryz.underlying49]
 go_simp
theorem D8 (o:Bool) (b c:Int) (w:World):(binOp .neq 49 (.agg #[.bool o,.int .i64 b,.int .i64 c]) (.agg #[.bool o,.int .i64 b,.int .i64 c])).run Tryz.prog w= .ok (.bool false) w:=by
 rw [run_neq_struct,Ix];rfl
theorem Pu (st be rk my gu lo hi hd ca ut wk:Int) (w:World):(binOp .neq 43 (.agg (I11 st be rk my gu lo hi hd ca ut wk)) (.agg (I11 st be rk my gu lo hi hd ca ut wk))).run Tryz.prog w= .ok (.bool false) w:=by
 rw [Tb,Pq];rfl
theorem ME {w:World} {v u:Value} {zs:List Int} (hv:QU w v zs) (hu:QU w u zs) :
  Calls Tryz.prog 75 #[v,u] w fun e w'=>e= .returned (.bool true)/\Below w.heap.size w w':=by
 obtain ⟨a,cap,rfl,hc,hm,hr⟩:=hv
 obtain ⟨a',cap',rfl,hc',hm',hr'⟩:=hu
 have Hr:=Z9 hr
 have Hr':=Z9 hr'
 clear hr hr'
 go_enter Tryz.func75,Tryz.ntmps75
 go_wp2_with fail
 go_loopw [5] (fun i wr=> ∃ k:Nat,k<=zs.length/\i= .int .i64 k/\Below w.heap.size w wr) (fun i _=>zs.length-(intOf i).toNat)
 case atStart=>exact ⟨0,Nat.zero_le _,rfl,Below.refl _ _⟩
 case round=>
  obtain ⟨k,hk,rfl,hb⟩:=hrel
  have Hb:=Z9 hb
  by_cases hlt:k<zs.length
  ·rcases uh Hr with h0 | ⟨b,off,rfl,hbw,hcl⟩
   ·rw [h0] at hlt;simp at hlt
   rcases uh Hr' with h0 | ⟨b',off',rfl,hbw',hcl'⟩
   ·rw [h0] at hlt;simp at hlt
   have c0:=O8 hcl hlt
   have d0:=O8 hcl' hlt
   rw [<-hb.cell (p:=⟨b,off+k,none⟩) hbw] at c0
   rw [<-hb.cell (p:=⟨b',off'+k,none⟩) hbw'] at d0
   generalize Z8 zs k=z at *
   clear hcl hcl' hb
   go_wp2_with fail
   go_quiet (fail)
   go_wp2_with fail
   go_roundw
   case rel=>exact ⟨k+1,by omega,by go_num,⟨(uh Hb).os,(uh Hb).tape,(uh Hb).output,(uh Hb).size,(uh Hb).block⟩⟩
   case measure=>simp [intOf];omega
  ·go_wp2_with fail
   go_ret
   exact ⟨rfl,hb⟩
attribute [local go_sem ↓] FL D8 Pu
theorem Xy {w:World} {v0 v1 v2 v3 v4 u0 u1 u2 u3 u4:Value} {m:Z4} (h:Smy w v0 v1 v2 v3 v4 m) (g:Smy w u0 u1 u2 u3 u4 m) :
  Calls Tryz.prog 21 #[.agg #[v0,v1,v2,v3,v4,.int .i64 m.now],.agg #[u0,u1,u2,u3,u4,.int .i64 m.now]] w fun e w'=>e= .returned (.bool true)/\Below w.heap.size w w':=by
 have Hv:=Z9 h
 have Hu:=Z9 g
 obtain ⟨a0,p0,rfl,_,_⟩:=IsRooms.shape h.rooms
 obtain ⟨b0,q0,rfl,_,_⟩:=IsRooms.shape g.rooms
 obtain ⟨a1,p1,rfl,_,_⟩:=IsRec.shape h.guilds
 obtain ⟨b1,q1,rfl,_,_⟩:=IsRec.shape g.guilds
 obtain ⟨a2,p2,rfl,_,_⟩:=IsRec.shape h.smiths
 obtain ⟨b2,q2,rfl,_,_⟩:=IsRec.shape g.smiths
 obtain ⟨a3,p3,rfl,_,_⟩:=IsRec.shape h.desks
 obtain ⟨b3,q3,rfl,_,_⟩:=IsRec.shape g.desks
 obtain ⟨a4,p4,rfl,_,_⟩:=IsRec.shape h.paces
 obtain ⟨b4,q4,rfl,_,_⟩:=IsRec.shape g.paces
 clear h g
 have ka:Hid (Blk ((w.alloc (.cells (S6 a0 p0 a1 p1 a2 p2 a3 p3 a4 p4 m) 32)).alloc (.cells (S6 b0 q0 b1 q1 b2 q2 b3 q3 b4 q4 m) 32)) w.heap.size 32 (S6 a0 p0 a1 p1 a2 p2 a3 p3 a4 p4 m)):=Z9 ((Blk.new w _ _).alloc _)
 have kb:Hid (Blk ((w.alloc (.cells (S6 a0 p0 a1 p1 a2 p2 a3 p3 a4 p4 m) 32)).alloc (.cells (S6 b0 q0 b1 q1 b2 q2 b3 q3 b4 q4 m) 32)) (w.heap.size+1) 32 (S6 b0 q0 b1 q1 b2 q2 b3 q3 b4 q4 m)):=Z9 (by
  have k:=Blk.new (w.alloc (.cells (S6 a0 p0 a1 p1 a2 p2 a3 p3 a4 p4 m) 32)) 32 (S6 b0 q0 b1 q1 b2 q2 b3 q3 b4 q4 m)
  rw [World.size_alloc] at k
  exact k)
 have BB:Hid (Below w.heap.size w ((w.alloc (.cells (S6 a0 p0 a1 p1 a2 p2 a3 p3 a4 p4 m) 32)).alloc (.cells (S6 b0 q0 b1 q1 b2 q2 b3 q3 b4 q4 m) 32))):=Z9 (((Below.refl _ _).alloc (Nat.le_refl _) _).alloc (by simp) _)
 go_enter Tryz.func21,Tryz.ntmps21
 go_wp2_with fail
 generalize ((w.alloc (.cells (S6 a0 p0 a1 p1 a2 p2 a3 p3 a4 p4 m) 32)).alloc (.cells (S6 b0 q0 b1 q1 b2 q2 b3 q3 b4 q4 m) 32))=W at *
 refine (MD ((uh Hv).below (uh BB)).rooms ((uh Hu).below (uh BB)).rooms).mono ?_
 rintro e w1 ⟨rfl,hb⟩
 replace ka:=bl ka hb
 replace kb:=bl kb hb
 replace BB:=bt BB hb
 clear hb
 obtain ⟨c0,c1,c2,c3,c4,c5⟩:=(uh ka).c6
 obtain ⟨d0,d1,d2,d3,d4,d5⟩:=(uh kb).c6
 go_wp2_with fail
 refine (ME ((uh Hv).below (uh BB)).paces ((uh Hu).below (uh BB)).paces).mono ?_
 rintro e w2 ⟨rfl,hb⟩
 replace ka:=bl ka hb
 replace kb:=bl kb hb
 replace BB:=bt BB hb
 clear hb c0 c1 c2 c3 c4 c5 d0 d1 d2 d3 d4 d5
 obtain ⟨c0,c1,c2,c3,c4,c5⟩:=(uh ka).c6
 obtain ⟨d0,d1,d2,d3,d4,d5⟩:=(uh kb).c6
 go_wp2_with fail
 clear c0 c1 c2 c3 c4 c5 d0 d1 d2 d3 d4 d5
 go_loopw [5] (fun i wr=> ∃ k:Nat,k<=m.guilds.length/\i= .int .i64 k/\Blk wr w.heap.size 32 (S6 a0 p0 a1 p1 a2 p2 a3 p3 a4 p4 m)/\Blk wr (w.heap.size+1) 32 (S6 b0 q0 b1 q1 b2 q2 b3 q3 b4 q4 m)/\Below w.heap.size w wr) (fun i _=>m.guilds.length-(intOf i).toNat)
 case atStart=>exact ⟨0,Nat.zero_le _,rfl,uh ka,uh kb,uh BB⟩
 case round=>
  obtain ⟨k,hk,rfl,hka,hkb,hb⟩:=hrel
  have c1:=hka.cell (i:=1) rfl
  have d1:=hkb.cell (i:=1) rfl
  by_cases hlt:k<m.guilds.length
  ·have hlt1:(k:Int)<(m.guilds.length:Int):=by omega
   obtain ⟨_,_,he,_,hmx,r1⟩:=(uh Hv).guilds
   cases he
   obtain ⟨_,_,he,_,hmy,r2⟩:=(uh Hu).guilds
   cases he
   rcases r1 with e0 | ⟨b,off,rfl,hbw,hcl⟩
   ·rw [e0] at hlt;simp at hlt
   rcases r2 with e0 | ⟨b',off',rfl,hbw',hcl'⟩
   ·rw [e0] at hlt;simp at hlt
   obtain ⟨x0,x1,x2⟩:=V7 hcl hlt
   obtain ⟨y0,y1,y2⟩:=V7 hcl' hlt
   rw [<-hb.cell (p:=⟨b,off+k*3,none⟩) hbw] at x0
   rw [<-hb.cell (p:=⟨b',off'+k*3,none⟩) hbw'] at y0
   rw [<-hb.cell (p:=⟨b,off+k*3+1,none⟩) hbw] at x1
   rw [<-hb.cell (p:=⟨b',off'+k*3+1,none⟩) hbw'] at y1
   rw [<-hb.cell (p:=⟨b,off+k*3+2,none⟩) hbw] at x2
   rw [<-hb.cell (p:=⟨b',off'+k*3+2,none⟩) hbw'] at y2
   generalize Z8 m.guilds k=rr at *
   obtain ⟨ga,gb,gc⟩:=rr
   simp only at x0 x1 x2 y0 y1 y2
   have Ka:=Z9 hka
   have Kb:=Z9 hkb
   have Hb:=Z9 hb
   clear hcl hcl' hka hkb hb
   go_wp2_with fail
   go_quiet (fail)
   go_wp2_with fail
   go_roundw
   case rel=>exact ⟨k+1,by omega,by go_num,(uh Ka).same rfl,(uh Kb).same rfl,⟨(uh Hb).os,(uh Hb).tape,(uh Hb).output,(uh Hb).size,(uh Hb).block⟩⟩
   case measure=>simp [intOf];omega
  ·obtain rfl:k=m.guilds.length:=by omega
   replace ka:=Z9 hka
   replace kb:=Z9 hkb
   replace BB:=Z9 hb
   clear hka hkb hb
   go_wp2_with fail
   go_loopw [6] (fun i wr=> ∃ k:Nat,k<=m.smiths.length/\i= .int .i64 k/\Blk wr w.heap.size 32 (S6 a0 p0 a1 p1 a2 p2 a3 p3 a4 p4 m)/\Blk wr (w.heap.size+1) 32 (S6 b0 q0 b1 q1 b2 q2 b3 q3 b4 q4 m)/\Below w.heap.size w wr) (fun i _=>m.smiths.length-(intOf i).toNat)
   case atStart=>exact ⟨0,Nat.zero_le _,rfl,uh ka,uh kb,uh BB⟩
   case round=>
    obtain ⟨k,hk,rfl,hka,hkb,hb⟩:=hrel
    have c2:=hka.cell (i:=2) rfl
    have d2:=hkb.cell (i:=2) rfl
    by_cases hlt:k<m.smiths.length
    ·have hlt1:(k:Int)<(m.smiths.length:Int):=by omega
     obtain ⟨_,_,he,_,hmx,r1⟩:=(uh Hv).smiths
     cases he
     obtain ⟨_,_,he,_,hmy,r2⟩:=(uh Hu).smiths
     cases he
     rcases r1 with e0 | ⟨b,off,rfl,hbw,hcl⟩
     ·rw [e0] at hlt;simp at hlt
     rcases r2 with e0 | ⟨b',off',rfl,hbw',hcl'⟩
     ·rw [e0] at hlt;simp at hlt
     obtain ⟨x0,x1,x2,x3,x4,x5,x6,x7,x8,x9,x10⟩:=ZK hcl hlt
     obtain ⟨y0,y1,y2,y3,y4,y5,y6,y7,y8,y9,y10⟩:=ZK hcl' hlt
     rw [<-hb.cell (p:=⟨b,off+k*11,none⟩) hbw] at x0
     rw [<-hb.cell (p:=⟨b',off'+k*11,none⟩) hbw'] at y0
     rw [<-hb.cell (p:=⟨b,off+k*11+1,none⟩) hbw] at x1
     rw [<-hb.cell (p:=⟨b',off'+k*11+1,none⟩) hbw'] at y1
     rw [<-hb.cell (p:=⟨b,off+k*11+2,none⟩) hbw] at x2
     rw [<-hb.cell (p:=⟨b',off'+k*11+2,none⟩) hbw'] at y2
     rw [<-hb.cell (p:=⟨b,off+k*11+3,none⟩) hbw] at x3
     rw [<-hb.cell (p:=⟨b',off'+k*11+3,none⟩) hbw'] at y3
     rw [<-hb.cell (p:=⟨b,off+k*11+4,none⟩) hbw] at x4
     rw [<-hb.cell (p:=⟨b',off'+k*11+4,none⟩) hbw'] at y4
     rw [<-hb.cell (p:=⟨b,off+k*11+5,none⟩) hbw] at x5
     rw [<-hb.cell (p:=⟨b',off'+k*11+5,none⟩) hbw'] at y5
     rw [<-hb.cell (p:=⟨b,off+k*11+6,none⟩) hbw] at x6
     rw [<-hb.cell (p:=⟨b',off'+k*11+6,none⟩) hbw'] at y6
     rw [<-hb.cell (p:=⟨b,off+k*11+7,none⟩) hbw] at x7
     rw [<-hb.cell (p:=⟨b',off'+k*11+7,none⟩) hbw'] at y7
     rw [<-hb.cell (p:=⟨b,off+k*11+8,none⟩) hbw] at x8
     rw [<-hb.cell (p:=⟨b',off'+k*11+8,none⟩) hbw'] at y8
     rw [<-hb.cell (p:=⟨b,off+k*11+9,none⟩) hbw] at x9
     rw [<-hb.cell (p:=⟨b',off'+k*11+9,none⟩) hbw'] at y9
     rw [<-hb.cell (p:=⟨b,off+k*11+10,none⟩) hbw] at x10
     rw [<-hb.cell (p:=⟨b',off'+k*11+10,none⟩) hbw'] at y10
     generalize Z8 m.smiths k=rr at *
     obtain ⟨st,be,rk,my,gu,lo,hi,hd,ca,ut,wk⟩:=rr
     simp only at x0 x1 x2 x3 x4 x5 x6 x7 x8 x9 x10 y0 y1 y2 y3 y4 y5 y6 y7 y8 y9 y10
     have Ka:=Z9 hka
     have Kb:=Z9 hkb
     have Hb:=Z9 hb
     clear hcl hcl' hka hkb hb
     go_wp2_with fail
     go_quiet (fail)
     go_wp2_with fail
     go_roundw
     case rel=>exact ⟨k+1,by omega,by go_num,(uh Ka).same rfl,(uh Kb).same rfl,⟨(uh Hb).os,(uh Hb).tape,(uh Hb).output,(uh Hb).size,(uh Hb).block⟩⟩
     case measure=>simp [intOf];omega
    ·obtain rfl:k=m.smiths.length:=by omega
     replace ka:=Z9 hka
     replace kb:=Z9 hkb
     replace BB:=Z9 hb
     clear hka hkb hb
     go_wp2_with fail
     go_loopw [7] (fun i wr=> ∃ k:Nat,k<=m.desks.length/\i= .int .i64 k/\Blk wr w.heap.size 32 (S6 a0 p0 a1 p1 a2 p2 a3 p3 a4 p4 m)/\Blk wr (w.heap.size+1) 32 (S6 b0 q0 b1 q1 b2 q2 b3 q3 b4 q4 m)/\Below w.heap.size w wr) (fun i _=>m.desks.length-(intOf i).toNat)
     case atStart=>exact ⟨0,Nat.zero_le _,rfl,uh ka,uh kb,uh BB⟩
     case round=>
      obtain ⟨k,hk,rfl,hka,hkb,hb⟩:=hrel
      have c3:=hka.cell (i:=3) rfl
      have d3:=hkb.cell (i:=3) rfl
      by_cases hlt:k<m.desks.length
      ·have hlt1:(k:Int)<(m.desks.length:Int):=by omega
       obtain ⟨_,_,he,_,hmx,r1⟩:=(uh Hv).desks
       cases he
       obtain ⟨_,_,he,_,hmy,r2⟩:=(uh Hu).desks
       cases he
       rcases r1 with e0 | ⟨b,off,rfl,hbw,hcl⟩
       ·rw [e0] at hlt;simp at hlt
       rcases r2 with e0 | ⟨b',off',rfl,hbw',hcl'⟩
       ·rw [e0] at hlt;simp at hlt
       obtain ⟨x0,x1,x2⟩:=Zp hcl hlt
       obtain ⟨y0,y1,y2⟩:=Zp hcl' hlt
       rw [<-hb.cell (p:=⟨b,off+k*3,none⟩) hbw] at x0
       rw [<-hb.cell (p:=⟨b',off'+k*3,none⟩) hbw'] at y0
       rw [<-hb.cell (p:=⟨b,off+k*3+1,none⟩) hbw] at x1
       rw [<-hb.cell (p:=⟨b',off'+k*3+1,none⟩) hbw'] at y1
       rw [<-hb.cell (p:=⟨b,off+k*3+2,none⟩) hbw] at x2
       rw [<-hb.cell (p:=⟨b',off'+k*3+2,none⟩) hbw'] at y2
       generalize Z8 m.desks k=rr at *
       obtain ⟨op,who,mk⟩:=rr
       simp only at x0 x1 x2 y0 y1 y2
       have Ka:=Z9 hka
       have Kb:=Z9 hkb
       have Hb:=Z9 hb
       clear hcl hcl' hka hkb hb
       go_wp2_with fail
       go_quiet (fail)
       go_wp2_with fail
       go_roundw
       case rel=>exact ⟨k+1,by omega,by go_num,(uh Ka).same rfl,(uh Kb).same rfl,⟨(uh Hb).os,(uh Hb).tape,(uh Hb).output,(uh Hb).size,(uh Hb).block⟩⟩
       case measure=>simp [intOf];omega
      ·obtain rfl:k=m.desks.length:=by omega
       replace ka:=Z9 hka
       replace kb:=Z9 hkb
       replace BB:=Z9 hb
       clear hka hkb hb
       go_wp2_with fail
       go_ret
       exact ⟨rfl,uh BB⟩
end Go.Proofs.YtjhijildaceadaaGreatDoor
namespace Go.Proofs.YtjhijildaceadaaGreatDoor
open Go.ChangeShapes Go.WideShapes Go.ChangeAt Go.RowKit Go.Sort
set_option linter.unusedVariables false
theorem Ll (st be rk my gu lo hi hd ca ut wk:Int) (w:World):Calls Tryz.prog 33 #[.agg (I11 st be rk my gu lo hi hd ca ut wk)] w fun e w'=>
  e= .returned (.bool (ZT (st,be,rk,my,gu,lo,hi,hd,ca,ut,wk)))/\Below w.heap.size w w':=by
 unfold ZT
 simp only
 cases h2:(st ==2)
 all_goals
  go_enter Tryz.func33,Tryz.ntmps33
  go_wp2_with fail
  go_ret
  exact ⟨by first | rfl | (simp),(Below.refl _ _).alloc (Nat.le_refl _) _⟩
theorem Gg {st be rk my gu lo hi hd ca ut wk:Int} {q:Bool} (h:ZT (st,be,rk,my,gu,lo,hi,hd,ca,ut,wk)=q) (w:World):Calls Tryz.prog 33 #[.agg (I11 st be rk my gu lo hi hd ca ut wk)] w fun e w'=>e= .returned (.bool q)/\Below w.heap.size w w':=by
 have:=Ll st be rk my gu lo hi hd ca ut wk w;rw [h] at this;exact this
end Go.Proofs.YtjhijildaceadaaGreatDoor
