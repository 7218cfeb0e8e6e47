/- Part 41 of what the proof rests on. No condition but those that a theorem names. -/
import Derived.Test.YtnponpamjddpjaaGreatXt40
set_option maxHeartbeats 8000000
set_option maxRecDepth 100000
namespace Go.Proofs.YtnponpamjddpjaaGreat
open Go.ChangeShapes Go.WideShapes Go.ChangeAt Go.RowKit Go.Sort
open Draw (St Off Row Cur)
set_option linter.unusedVariables false
set_option linter.unusedSimpArgs false
set_option maxRecDepth 100000
variable {w w' w0 w1 w2 w3 w₀ wr W W' X A B C : World} {v v0 v1 v2 v3 v4 u u0 u1 u2 u3 u4 : Value} {m : Z3}
theorem zA6 (a:Option Addr) (len cap:Nat) (w:World) (hr:Row w.heap.size w a len) :
  Calls Tryz.prog 24 #[.slice a len cap] w fun e w'=> ∃ M u0 u1 u2 u3 u4,e= .returned (.agg #[u0,u1,u2,u3,u4,.int .i64 M.now])/\Smy w' u0 u1 u2 u3 u4 M/\Below w.heap.size w w':=by
 have Hr:=Z9 (Draw.row_later hr ((Below.refl _ _).alloc (Nat.le_refl _) (.cells #[.slice none 0 0,.slice none 0 0,.slice none 0 0,.slice none 0 0,.slice none 0 0,.int .i64 0] 32)))
 clear hr
 go_enter Tryz.func24,Tryz.ntmps24
 go_wp2_with fail
 have kr:Hid (Blk (w.alloc (.cells #[.slice none 0 0,.slice none 0 0,.slice none 0 0,.slice none 0 0,.slice none 0 0,.int .i64 0] 32)) w.heap.size 32 #[.slice none 0 0,.slice none 0 0,.slice none 0 0,.slice none 0 0,.slice none 0 0,.int .i64 0]):=Z9 (Blk.new _ _ _)
 have BB:Hid (Below w.heap.size w (w.alloc (.cells #[.slice none 0 0,.slice none 0 0,.slice none 0 0,.slice none 0 0,.slice none 0 0,.int .i64 0] 32))):=Z9 ((Below.refl _ _).alloc (Nat.le_refl _) _)
 have hzW:w.heap.size<(w.alloc (.cells #[.slice none 0 0,.slice none 0 0,.slice none 0 0,.slice none 0 0,.slice none 0 0,.int .i64 0] 32)).heap.size:=by simp
 generalize w.alloc (.cells #[.slice none 0 0,.slice none 0 0,.slice none 0 0,.slice none 0 0,.slice none 0 0,.int .i64 0] 32)=W at *
 refine (Draw.new_any a len cap _ (uh Hr)).mono ?_
 rintro e w1 ⟨rfl,s1,o1⟩
 have Hs:=Z9 s1
 replace kr:=Z9 ((uh kr).away o1 (by omega))
 replace BB:=Z9 ((uh BB).trans (o1.below (by omega) (uh BB).size))
 clear s1 o1 Hr
 generalize W.heap.size=cb at *
 go_wp2_with fail
 refine (PA a len cap cb _ (uh Hs)).mono ?_
 rintro e w2 ⟨M,u0,u1,u2,u3,u4,rq,rfl,hm2,hm3,hf,s2,o2⟩
 have Hm2:=Z9 hm2
 have Hm3:=Z9 hm3
 clear hm2 hm3
 have hc1:=Xx (uh Hs)
 have k6:=hf.smy
 obtain ⟨b0,q0,b1,q1,b2,q2,b3,q3,b4,q4,rfl,rfl,rfl,rfl,rfl,_,_,_,_,_,_,_,_,_,_⟩:=k6.five
 have HF:=Z9 (hf.mono (n₁:=cb+1) (by omega))
 replace Hs:=Z9 s2
 have Hs0:=Hs
 replace kr:=Z9 ((uh kr).away o2 (by omega))
 replace BB:=Z9 ((uh BB).trans (o2.below (by omega) (uh BB).size))
 clear hf s2 o2 k6
 go_upto_region 3 with fail
 obtain ⟨W2,hW2,hb,km⟩:=Zy w2 32 (S6 b0 q0 b1 q1 b2 q2 b3 q3 b4 q4 M)
 replace kr:=bl kr hb
 have hown:Hid (∀ k,YC (.slice b0 M.rooms.length q0) (.slice b1 M.guilds.length q1) (.slice b2 M.smiths.length q2) (.slice b3 M.desks.length q3) (.slice b4 M.paces.length q4) rq k->cb<k/\k ≠ w2.heap.size):=Z9 (fun k e=>by have:=(uh HF).own e;omega)
 replace HF:=Z9 ((uh HF).below hb)
 replace Hs:=Z9 ((uh Hs).alloc (.cells #[.slice b0 M.rooms.length q0,.slice b1 M.guilds.length q1,.slice b2 M.smiths.length q2,.slice b3 M.desks.length q3,.slice b4 M.paces.length q4,.int .i64 M.now] 32))
 replace BB:=bt BB hb
 have hmb:cb+1<=w2.heap.size:=Xx (uh Hs0)
 clear hb Hs0
 rw [hW2]
 (try rw [hW2] at Hs);clear hW2
 generalize w2.heap.size=mb at *
 go_wp2_with fail
 go_loopw [5] (fun i wr=> ∃ (k:Nat) (ss:List Z4),k<=M.smiths.length/\i= .int .i64 k/\ss.length=M.smiths.length/\St a len cap cb wr/\Blk wr w.heap.size 32 #[.slice none 0 0,.slice none 0 0,.slice none 0 0,.slice none 0 0,.slice none 0 0,.int .i64 0]/\Blk wr mb 32 #[.slice b0 M.rooms.length q0,.slice b1 M.guilds.length q1,.slice b2 M.smiths.length q2,.slice b3 M.desks.length q3,.slice b4 M.paces.length q4,.int .i64 M.now]/\FullSmy (cb+1) wr (.slice b0 M.rooms.length q0) (.slice b1 M.guilds.length q1) (.slice b2 M.smiths.length q2) (.slice b3 M.desks.length q3) (.slice b4 M.paces.length q4) { M with smiths:=ss } rq/\Below w.heap.size w wr) (fun i _=>M.smiths.length-(intOf i).toNat)
 case atStart=>exact ⟨0,M.smiths,Nat.zero_le _,rfl,rfl,uh Hs,uh kr,uh km,uh HF,uh BB⟩
 case round=>
  obtain ⟨k,ss,hk,rfl,hsl,hst,hkr,hkm,hf,hbb⟩:=hrel
  replace Hs:=Z9 hst
  replace kr:=Z9 hkr
  replace km:=Z9 hkm
  replace HF:=Z9 hf
  replace BB:=Z9 hbb
  have Hsl:=Z9 hsl
  clear hst hkr hkm hf hbb hsl
  have x2:=(uh km).cell (i:=2) (v:= .slice b2 M.smiths.length q2) rfl
  by_cases hlt:k<M.smiths.length
  ·
   have hlt1:(k:Int)<(M.smiths.length:Int):=by omega
   go_wp2_with fail
   refine (Draw.once_any a len cap cb 2 (by omega) (by omega) _ (uh Hs)).mono ?_
   rintro e w4 ⟨bq,rfl,s9,p9⟩
   replace km:=Z9 ((uh km).away p9 (by omega))
   replace kr:=Z9 ((uh kr).away p9 (by omega))
   replace HF:=Z9 ((uh HF).away p9 (Nat.lt_succ_self _))
   replace BB:=Z9 ((uh BB).trans (p9.below (by omega) (uh BB).size))
   replace Hs:=Z9 s9
   clear s9 p9 x2
   cases bq
   ·
    have y0:=(uh km).cell (i:=0) (v:= .slice b0 M.rooms.length q0) rfl
    have o0:=(uh kr).cell (i:=0) (v:= .slice none 0 0) rfl
    have f0:=(uh kr).free 0
    have y1:=(uh km).cell (i:=1) (v:= .slice b1 M.guilds.length q1) rfl
    have o1:=(uh kr).cell (i:=1) (v:= .slice none 0 0) rfl
    have f1:=(uh kr).free 1
    have y2:=(uh km).cell (i:=2) (v:= .slice b2 M.smiths.length q2) rfl
    have o2:=(uh kr).cell (i:=2) (v:= .slice none 0 0) rfl
    have f2:=(uh kr).free 2
    have y3:=(uh km).cell (i:=3) (v:= .slice b3 M.desks.length q3) rfl
    have o3:=(uh kr).cell (i:=3) (v:= .slice none 0 0) rfl
    have f3:=(uh kr).free 3
    have y4:=(uh km).cell (i:=4) (v:= .slice b4 M.paces.length q4) rfl
    have o4:=(uh kr).cell (i:=4) (v:= .slice none 0 0) rfl
    have f4:=(uh kr).free 4
    have y5:=(uh km).cell (i:=5) (v:= .int .i64 M.now) rfl
    have o5:=(uh kr).cell (i:=5) (v:= .int .i64 0) rfl
    have f5:=(uh kr).free 5
    go_wp2_with fail
    refine bodyPost_ret (v:= .agg #[.slice b0 M.rooms.length q0,.slice b1 M.guilds.length q1,.slice b2 M.smiths.length q2,.slice b3 M.desks.length q3,.slice b4 M.paces.length q4,.int .i64 M.now]) (by simp [results,Tryz.results24,go_sem, *]) rfl ⟨{ M with smiths:=ss },.slice b0 M.rooms.length q0,.slice b1 M.guilds.length q1,.slice b2 M.smiths.length q2,.slice b3 M.desks.length q3,.slice b4 M.paces.length q4,rfl,?_,?_⟩
    ·refine FullSmy.smy (n₀:=cb+1) (qs:=rq) ?_
     iterate 6 (refine FullSmy.set_off ?_ (fun k e=>by have:=(uh hown k e).1;omega) _ _)
     exact uh HF
    ·iterate 6 (refine Below.setCell ?_ (by show w.heap.size<=w.heap.size;omega) _)
     exact uh BB
   have hsl:=uh Hsl
   obtain ⟨g2,hga,_,hg2w,hc2,_⟩:=RecAt.view ZW (by omega) (uh HF).smiths hsl.symm (by show 0<ss.length;omega)
   cases hga
   have hg2:=uh hown g2 (.inr (.inr (.inr (.inl rfl))))
   obtain ⟨⟨st,be,rk,my,gu,lo,hi,hd,ca,ut,wk⟩,hrk⟩:∃ d,Z8 ss k=d:=⟨_,rfl⟩
   have hrs:Z8 ({ M with smiths:=ss } : Z3).smiths k=(st,be,rk,my,gu,lo,hi,hd,ca,ut,wk):=hrk
   have s0:=hc2 k (by show k<ss.length;omega) 0 _ rfl
   have s1:=hc2 k (by show k<ss.length;omega) 1 _ rfl
   have s2:=hc2 k (by show k<ss.length;omega) 2 _ rfl
   have s3:=hc2 k (by show k<ss.length;omega) 3 _ rfl
   have s4:=hc2 k (by show k<ss.length;omega) 4 _ rfl
   have s5:=hc2 k (by show k<ss.length;omega) 5 _ rfl
   have s6:=hc2 k (by show k<ss.length;omega) 6 _ rfl
   have s7:=hc2 k (by show k<ss.length;omega) 7 _ rfl
   have s8:=hc2 k (by show k<ss.length;omega) 8 _ rfl
   have s9:=hc2 k (by show k<ss.length;omega) 9 _ rfl
   have s10:=hc2 k (by show k<ss.length;omega) 10 _ rfl
   rw [hrs] at s0 s1 s2 s3 s4 s5 s6 s7 s8 s9 s10
   simp only [Nat.add_zero] at s0 s1 s2 s3 s4 s5 s6 s7 s8 s9 s10
   have Hrk:=Z9 hrk
   obtain ⟨ps,hps⟩:∃ q,ZT (st,be,rk,my,gu,lo,hi,hd,ca,ut,wk)=q:=⟨_,rfl⟩
   have Hps:=Z9 hps
   have x2:=(uh km).cell (i:=2) (v:= .slice (some ⟨g2,0,none⟩) M.smiths.length q2) rfl
   clear hc2 hrs hrk hps hsl
   go_wp2_with fail
   refine (YX (uh Hps) _).mono ?_
   rintro e w5 ⟨rfl,hb⟩
   replace km:=bl km hb
   replace kr:=bl kr hb
   replace HF:=Z9 ((uh HF).below hb)
   replace Hs:=Z9 (Yi (uh Hs) (hb.mono (Xx (uh Hs))))
   replace BB:=bt BB hb
   clear hb x2 s0 s1 s2 s3 s4 s5 s6 s7 s8 s9 s10
   cases ps
   ·go_wp2_with fail
    go_roundw
    case rel=>exact ⟨k+1,ss,by omega,by go_num,uh Hsl,uh Hs,uh kr,uh km,uh HF,uh BB⟩
    case measure=>simp [intOf];omega
   have x2:=(uh km).cell (i:=2) (v:= .slice (some ⟨g2,0,none⟩) M.smiths.length q2) rfl
   go_wp2_with fail
   refine ZP (S:=fun w'=>w'.cell? ⟨mb,2,none⟩=some (.slice (some ⟨g2,0,none⟩) M.smiths.length q2)) (by kernel_rfl) (List.cons_ne_nil _ _) (by kernel_rfl) x2 (fun hHeld=> ?_)
   simp only [List.dropLast_cons_cons,List.dropLast_singleton,List.length_cons,List.length_nil,Nat.zero_add,Nat.reduceAdd]
   (refine tk 0 rfl (by assumption) ?_;(try simp only [Act.put,sA,sZ,sS]))
   (refine tk 1 rfl (by assumption) ?_;(try simp only [Act.put,sA,sZ,sS]))
   (refine tk 2 rfl (by assumption) ?_;(try simp only [Act.put,sA,sZ,sS]))
   (refine tk 3 rfl (by assumption) ?_;(try simp only [Act.put,sA,sZ,sS]))
   refine rd 4 rfl (fun K hK=> ?_)
   go_simp
   refine (Draw.below_any a len cap cb 2 (by omega) (by omega) _ (UE (uh Hs))).mono ?_
   rintro e9 w6 ⟨v,rfl,v0,v1,s9,p9'⟩
   have p9:=UO p9'
   replace km:=Z9 ((uh km).away p9 (by omega))
   replace kr:=Z9 ((uh kr).away p9 (by omega))
   replace HF:=Z9 ((uh HF).away p9 (Nat.lt_succ_self _))
   replace BB:=Z9 ((uh BB).trans (p9.below (by omega) (uh BB).size))
   replace Hs:=Z9 s9
   clear s9 p9 p9' x2
   refine hK.out _ _ ((uh km).cell (i:=2) rfl) (fun hHeld=> ?_)
   clear hK K
   (try simp only [Act.put,sA,sZ,sS])
   (refine tk 5 rfl (by assumption) ?_;(try simp only [Act.put,sA,sZ,sS]))
   (refine tk 6 rfl (by assumption) ?_;(try simp only [Act.put,sA,sZ,sS]))
   (refine tk 7 rfl (by assumption) ?_;(try simp only [Act.put,sA,sZ,sS]))
   have hsl:=uh Hsl
   obtain ⟨_,hga,_,_,hc2,hz2⟩:=RecAt.view ZW (by omega) (uh HF).smiths hsl.symm (by show 0<ss.length;omega)
   cases hga
   have s0:=hc2 k (by show k<ss.length;omega) 0 _ rfl
   have f0:=hz2 (k*11)
   have hput:=(uh HF).putS hsl.symm (j:=k) (i:=0) (by show k<ss.length;omega) (by omega) (.int .i64 (2+v)) (2+v,(Z8 ss k).2) rfl
   simp only [Nat.add_zero] at s0 hput
   have HP:=Z9 hput
   clear hput hc2 hz2
   refine wpAnyH_done (by kernel_rfl) ?_ _
   refine ZI rfl rfl ?_
   go_simp
   clear hHeld
   go_wp2_with fail
   go_roundw
   case rel=>exact ⟨k+1,ss.set k (2+v,(Z8 ss k).2),by omega,by go_num,by rw [List.length_set];exact hsl,by first | exact St.newer (uh Hs) (by omega) _ _ | exact UE (St.newer (uh Hs) (by omega) _ _),by first | exact (uh kr).other (by show w.heap.size ≠ g2;omega) _ | exact Blk.below ((uh kr).other (a:=⟨g2,k*11,none⟩) (by show w.heap.size ≠ g2;omega) (.int .i64 (2+v))) (Below.refl _ _).drew (by simpa using (uh kr).lt),by first | exact (uh km).other (by show mb ≠ g2;omega) _ | exact Blk.below ((uh km).other (a:=⟨g2,k*11,none⟩) (by show mb ≠ g2;omega) (.int .i64 (2+v))) (Below.refl _ _).drew (by simpa using (uh km).lt),by first | exact uh HP | exact (uh HP).below (Below.refl _ _).drew,by first | exact (uh BB).setCell (p:=⟨g2,k*11,none⟩) (by show w.heap.size<=g2;omega) _ | exact ((uh BB).setCell (p:=⟨g2,k*11,none⟩) (by show w.heap.size<=g2;omega) _).drew⟩
   case measure=>simp [intOf];omega
  ·
   obtain rfl:k=M.smiths.length:=by omega
   have y0:=(uh km).cell (i:=0) (v:= .slice b0 M.rooms.length q0) rfl
   have o0:=(uh kr).cell (i:=0) (v:= .slice none 0 0) rfl
   have f0:=(uh kr).free 0
   have y1:=(uh km).cell (i:=1) (v:= .slice b1 M.guilds.length q1) rfl
   have o1:=(uh kr).cell (i:=1) (v:= .slice none 0 0) rfl
   have f1:=(uh kr).free 1
   have y2:=(uh km).cell (i:=2) (v:= .slice b2 M.smiths.length q2) rfl
   have o2:=(uh kr).cell (i:=2) (v:= .slice none 0 0) rfl
   have f2:=(uh kr).free 2
   have y3:=(uh km).cell (i:=3) (v:= .slice b3 M.desks.length q3) rfl
   have o3:=(uh kr).cell (i:=3) (v:= .slice none 0 0) rfl
   have f3:=(uh kr).free 3
   have y4:=(uh km).cell (i:=4) (v:= .slice b4 M.paces.length q4) rfl
   have o4:=(uh kr).cell (i:=4) (v:= .slice none 0 0) rfl
   have f4:=(uh kr).free 4
   have y5:=(uh km).cell (i:=5) (v:= .int .i64 M.now) rfl
   have o5:=(uh kr).cell (i:=5) (v:= .int .i64 0) rfl
   have f5:=(uh kr).free 5
   go_wp2_with fail
   refine bodyPost_ret (v:= .agg #[.slice b0 M.rooms.length q0,.slice b1 M.guilds.length q1,.slice b2 M.smiths.length q2,.slice b3 M.desks.length q3,.slice b4 M.paces.length q4,.int .i64 M.now]) (by simp [results,Tryz.results24,go_sem, *]) rfl ⟨{ M with smiths:=ss },.slice b0 M.rooms.length q0,.slice b1 M.guilds.length q1,.slice b2 M.smiths.length q2,.slice b3 M.desks.length q3,.slice b4 M.paces.length q4,rfl,?_,?_⟩
   ·refine FullSmy.smy (n₀:=cb+1) (qs:=rq) ?_
    iterate 6 (refine FullSmy.set_off ?_ (fun k e=>by have:=(uh hown k e).1;omega) _ _)
    exact uh HF
   ·iterate 6 (refine Below.setCell ?_ (by show w.heap.size<=w.heap.size;omega) _)
    exact uh BB
open Go.ChangeShapes Go.WideShapes Go.ChangeAt Go.RowKit
theorem Nq  {rs:List Z0} (hv:IsRooms w v rs) (hu:IsRooms w u rs) :
  Calls Tryz.prog 83 #[.agg #[v],.agg #[u]] w fun e w'=>e= .returned (.bool true)/\Below w.heap.size w w':=by
 have Hv:=Z9 hv
 have Hu:=Z9 hu
 obtain ⟨a,cap,rfl,hc,hm,hr⟩:=hv
 obtain ⟨a',cap',rfl,hc',hm',hr'⟩:=hu
 clear hr hr'
 go_enter Tryz.func83,Tryz.ntmps83
 go_wp2_with fail
 have B0:Hid (Below w.heap.size w ((w.alloc (.cells #[.slice a rs.length cap] 26)).alloc (.cells #[.slice a' rs.length cap'] 26))):=Z9 (((Below.refl _ _).alloc (Nat.le_refl _) _).alloc (by simp) _)
 go_loopw [5] (fun i wr=> ∃ k:Nat,k<=rs.length/\i= .int .i64 k/\Below (w.heap.size+2) ((w.alloc (.cells #[.slice a rs.length cap] 26)).alloc (.cells #[.slice a' rs.length cap'] 26)) wr) (fun i _=>rs.length-(intOf i).toNat)
 case atStart=>exact ⟨0,Nat.zero_le _,rfl,Below.refl _ _⟩
 case round=>
  obtain ⟨k,hk,rfl,hb⟩:=hrel
  have Hb:=Z9 hb
  have hzr:w.heap.size+2<=wr.heap.size:=by have:=hb.size;simpa using this
  have c0:wr.cell? ⟨w.heap.size,0,none⟩=some (.slice a rs.length cap):=(hb.cell (p:=⟨w.heap.size,0,none⟩) (by show w.heap.size<w.heap.size+2;omega)).trans (by simp)
  have c1:wr.cell? ⟨w.heap.size+1,0,none⟩=some (.slice a' rs.length cap'):=(hb.cell (p:=⟨w.heap.size+1,0,none⟩) (by show w.heap.size+1<w.heap.size+2;omega)).trans (by simp)
  have BW:Hid (Below w.heap.size w wr):=Z9 ((uh B0).trans (hb.mono (by omega)))
  clear hb
  by_cases hlt:k<rs.length
  ·obtain ⟨_,_,e1,_,_,hr⟩:=uh Hv
   obtain ⟨_,_,e2,_,_,hr'⟩:=uh Hu
   cases e1
   cases e2
   rcases hr with h0 | ⟨b,off,rfl,hbw,hcl⟩
   ·rw [h0] at hlt;simp at hlt
   rcases hr' with h0 | ⟨b',off',rfl,hbw',hcl'⟩
   ·rw [h0] at hlt;simp at hlt
   obtain ⟨d0,pv,d1,hip⟩:=hcl k hlt
   obtain ⟨d2,pu,d3,hiu⟩:=hcl' k hlt
   rw [<-(uh BW).cell (p:=⟨b,off+k*2,none⟩) hbw] at d0
   rw [<-(uh BW).cell (p:=⟨b,off+k*2+1,none⟩) hbw] at d1
   rw [<-(uh BW).cell (p:=⟨b',off'+k*2,none⟩) hbw'] at d2
   rw [<-(uh BW).cell (p:=⟨b',off'+k*2+1,none⟩) hbw'] at d3
   have Hip:=Z9 (hip.below (uh BW))
   have Hiu:=Z9 (hiu.below (uh BW))
   obtain ⟨pa,pcap,rfl,hpc,hpm,_⟩:=hip
   obtain ⟨pa',pcap',rfl,hpc',hpm',_⟩:=hiu
   generalize (ZV rs k).1=f at *
   generalize (ZV rs k).2=ps at *
   clear hcl hcl'
   have k0:=cell_regrown c0
   have k1:=cell_regrown c1
   have k2:=cell_regrown d0
   have k3:=cell_regrown d1
   have k4:=cell_regrown d2
   have k5:=cell_regrown d3
   go_wp2_with fail
   refine wp_region_quiet_below (by kernel_rfl) (by kernel_rfl) ?_
   repeat (go_big_quiet_step (fail))
   refine wpQuiet_nil ?_
   intro _ hw'
   obtain ⟨⟨dq,osq⟩,hw''⟩:=hw'
   subst hw''
   have Hbq:=Z9 (below_regrown wr dq osq)
   have e0:=k0 dq osq
   have e1:=k1 dq osq
   have e2:=k2 dq osq
   have e3:=k3 dq osq
   have e4:=k4 dq osq
   have e5:=k5 dq osq
   clear k0 k1 k2 k3 k4 k5 c0 c1 d0 d1 d2 d3
   obtain ⟨w1,hw1⟩:∃ w1,w1=Go.Sort.grow (Go.redrawn wr dq) osq:=⟨_,rfl⟩
   rw [<-hw1] at Hbq e0 e1 e2 e3 e4 e5 ⊢
   clear hw1
   have HB1:=Z9 ((uh BW).trans ((uh Hbq).mono (uh BW).size))
   go_wp2_with fail
   obtain ⟨wo,hwo⟩:∃ wo,wo=wr:=⟨wr,rfl⟩
   rw [<-hwo] at *
   clear hwo
   go_loopw [6] (fun i wr=> ∃ j:Nat,j<=ps.length/\i= .int .i64 j/\Below w1.heap.size w1 wr) (fun i _=>ps.length-(intOf i).toNat)
   case atStart=>exact ⟨0,Nat.zero_le _,rfl,Below.refl _ _⟩
   case round=>
    obtain ⟨j,hj,rfl,hbr⟩:=hrel
    have Hbr:=Z9 hbr
    have HBr:=Z9 ((uh HB1).trans (hbr.mono (uh HB1).size))
    have hz1:=(uh Hbq).size
    have f0:=(hbr.cell (World.block_lt_of_cell? _ _ e0)).trans e0
    have f1:=(hbr.cell (World.block_lt_of_cell? _ _ e1)).trans e1
    have f3:=(hbr.cell (World.block_lt_of_cell? _ _ e3)).trans e3
    have f5:=(hbr.cell (World.block_lt_of_cell? _ _ e5)).trans e5
    clear hbr
    by_cases hjl:j<ps.length
    ·obtain ⟨_,_,g1,_,_,hr⟩:=(uh Hip).below ((uh Hbq).trans ((uh Hbr).mono hz1))
     obtain ⟨_,_,g2,_,_,hr'⟩:=(uh Hiu).below ((uh Hbq).trans ((uh Hbr).mono hz1))
     cases g1
     cases g2
     rcases hr with h0 | ⟨pb,poff,rfl,hpbw,hpl⟩
     ·rw [h0] at hjl;simp at hjl
     rcases hr' with h0 | ⟨pb',poff',rfl,hpbw',hpl'⟩
     ·rw [h0] at hjl;simp at hjl
     obtain ⟨c0,c1⟩:=hpl j hjl
     obtain ⟨d0,d1⟩:=hpl' j hjl
     generalize (Z7 ps j).1=x at *
     generalize (Z7 ps j).2=y at *
     have k0:=cell_regrown f0
     have k1:=cell_regrown f1
     have k3:=cell_regrown f3
     have k5:=cell_regrown f5
     have k6:=cell_regrown c0
     have k7:=cell_regrown c1
     have k8:=cell_regrown d0
     have k9:=cell_regrown d1
     clear hpl hpl' e0 e1 e2 e3 e4 e5
     go_wp2_with fail
     refine wp_region_quiet_below (by kernel_rfl) (by kernel_rfl) ?_
     repeat (go_big_quiet_step (fail))
     refine wpQuiet_nil ?_
     intro _ hw'
     obtain ⟨⟨dr,osr⟩,hw''⟩:=hw'
     subst hw''
     go_wp2_with fail
     go_roundw
     case rel=>exact ⟨j+1,by omega,by go_num,(uh Hbr).trans ((below_regrown _ _ _).mono (uh Hbr).size)⟩
     case measure=>simp [intOf];omega
    ·go_wp2_with fail
     go_roundw
     case rel=>exact ⟨k+1,by omega,by go_num,(uh Hb).trans (((uh Hbq).trans ((uh Hbr).mono hz1)).mono hzr)⟩
     case measure=>simp [intOf];omega
  ·go_wp2_with fail
   go_ret
   exact ⟨rfl,uh BW⟩
set_option maxRecDepth 100000
theorem Lu (a b c:Int) (w:World):(Op.equalIn 10000 97 (.agg #[.int .i64 a,.int .i64 b,.int .i64 c]) (.agg #[.int .i64 a,.int .i64 b,.int .i64 c])).run Tryz.prog w= .ok true w:=by
 have u:=Tryz.underlying2
 have g:=Tryz.isAgg2
 have z:=Tryz.sizeOf2
 have hS:Tryz.prog.underlying 97=some (.struct (Tryz.prog.fieldsOf 97)):=by kernel_rfl
 have hp:Tryz.prog.stoodInHeld 97=false:=by kernel_rfl
 rw [show (10000:Nat)=9999+1 from rfl,run_equalIn_agg w 9999 97 _ _ hS hp]
 simp only [Program.fieldsOf,Tryz.underlying97]
 go_simp
theorem G6 (a b c:Int) (w:World):(binOp .neq 97 (.agg #[.int .i64 a,.int .i64 b,.int .i64 c]) (.agg #[.int .i64 a,.int .i64 b,.int .i64 c])).run Tryz.prog w= .ok (.bool false) w:=by
 rw [run_neq_struct,Lu];rfl
theorem JF (o:Bool) (b c:Int) (w:World):(Op.equalIn 10000 55 (.agg #[.bool o,.int .i64 b,.int .i64 c]) (.agg #[.bool o,.int .i64 b,.int .i64 c])).run Tryz.prog w= .ok true w:=by
 have u:=Tryz.underlying2
 have g:=Tryz.isAgg2
 have z:=Tryz.sizeOf2
 have u2:=Tryz.underlying4
 have g2:=Tryz.isAgg4
 have z2:=Tryz.sizeOf4
 have hS:Tryz.prog.underlying 55=some (.struct (Tryz.prog.fieldsOf 55)):=by kernel_rfl
 have hp:Tryz.prog.stoodInHeld 55=false:=by kernel_rfl
 rw [show (10000:Nat)=9999+1 from rfl,run_equalIn_agg w 9999 55 _ _ hS hp]
 simp only [Program.fieldsOf,Tryz.underlying55]
 go_simp
theorem FH (o:Bool) (b c:Int) (w:World):(binOp .neq 55 (.agg #[.bool o,.int .i64 b,.int .i64 c]) (.agg #[.bool o,.int .i64 b,.int .i64 c])).run Tryz.prog w= .ok (.bool false) w:=by
 rw [run_neq_struct,JF];rfl
theorem PY (st be rk my gu lo hi hd ca ut wk:Int) (w:World):(binOp .neq 41 (.agg #[.int .i64 st,.int .i64 be,.int .i64 rk,.int .i64 my,.int .i64 gu,.int .i64 lo,.int .i64 hi,.int .i64 hd,.int .i64 ca,.int .i64 ut,.int .i64 wk]) (.agg #[.int .i64 st,.int .i64 be,.int .i64 rk,.int .i64 my,.int .i64 gu,.int .i64 lo,.int .i64 hi,.int .i64 hd,.int .i64 ca,.int .i64 ut,.int .i64 wk])).run Tryz.prog w= .ok (.bool false) w:=by
 rw [Ts,ST];rfl
theorem Nr  {zs:List Int} (hv:Rs w v zs) (hu:Rs w u zs) :
  Calls Tryz.prog 32 #[v,u] w fun e w'=>e= .returned (.bool true)/\Below w.heap.size w w':=by
 obtain ⟨a,cap,rfl,hc,hm,hr⟩:=hv
 obtain ⟨a',cap',rfl,hc',hm',hr'⟩:=hu
 have Hr:=Z9 hr
 have Hr':=Z9 hr'
 clear hr hr'
 go_enter Tryz.func32,Tryz.ntmps32
 go_wp2_with fail
 go_loopw [5] (fun i wr=> ∃ k:Nat,k<=zs.length/\i= .int .i64 k/\Below w.heap.size w wr) (fun i _=>zs.length-(intOf i).toNat)
 case atStart=>exact ⟨0,Nat.zero_le _,rfl,Below.refl _ _⟩
 case round=>
  obtain ⟨k,hk,rfl,hb⟩:=hrel
  have Hb:=Z9 hb
  by_cases hlt:k<zs.length
  ·rcases uh Hr with h0 | ⟨b,off,rfl,hbw,hcl⟩
   ·rw [h0] at hlt;simp at hlt
   rcases uh Hr' with h0 | ⟨b',off',rfl,hbw',hcl'⟩
   ·rw [h0] at hlt;simp at hlt
   have c0:=PH hcl hlt
   have d0:=PH hcl' hlt
   rw [<-hb.cell (p:=⟨b,off+k,none⟩) hbw] at c0
   rw [<-hb.cell (p:=⟨b',off'+k,none⟩) hbw'] at d0
   generalize Z8 zs k=z at *
   clear hcl hcl' hb
   go_wp2_with fail
   go_quiet (fail)
   go_wp2_with fail
   go_roundw
   case rel=>exact ⟨k+1,by omega,by go_num,⟨(uh Hb).os,(uh Hb).tape,(uh Hb).output,(uh Hb).size,(uh Hb).block⟩⟩
   case measure=>simp [intOf];omega
  ·go_wp2_with fail
   go_ret
   exact ⟨rfl,hb⟩
attribute [local go_sem ↓] G6 FH PY
theorem TQ  (h:Smy w v0 v1 v2 v3 v4 m) (g:Smy w u0 u1 u2 u3 u4 m) :
  Calls Tryz.prog 26 #[.agg #[v0,v1,v2,v3,v4,.int .i64 m.now],.agg #[u0,u1,u2,u3,u4,.int .i64 m.now]] w fun e w'=>e= .returned (.bool true)/\Below w.heap.size w w':=by
 have Hv:=Z9 h
 have Hu:=Z9 g
 obtain ⟨a0,p0,rfl,_,_⟩:=IsRooms.shape h.rooms
 obtain ⟨b0,q0,rfl,_,_⟩:=IsRooms.shape g.rooms
 obtain ⟨a1,p1,rfl,_,_⟩:=IsRec.shape h.guilds
 obtain ⟨b1,q1,rfl,_,_⟩:=IsRec.shape g.guilds
 obtain ⟨a2,p2,rfl,_,_⟩:=IsRec.shape h.smiths
 obtain ⟨b2,q2,rfl,_,_⟩:=IsRec.shape g.smiths
 obtain ⟨a3,p3,rfl,_,_⟩:=IsRec.shape h.desks
 obtain ⟨b3,q3,rfl,_,_⟩:=IsRec.shape g.desks
 obtain ⟨a4,p4,rfl,_,_⟩:=IsRec.shape h.paces
 obtain ⟨b4,q4,rfl,_,_⟩:=IsRec.shape g.paces
 clear h g
 have ka:Hid (Blk ((w.alloc (.cells #[.slice a0 m.rooms.length p0,.slice a1 m.guilds.length p1,.slice a2 m.smiths.length p2,.slice a3 m.desks.length p3,.slice a4 m.paces.length p4,.int .i64 m.now] 32)).alloc (.cells #[.slice b0 m.rooms.length q0,.slice b1 m.guilds.length q1,.slice b2 m.smiths.length q2,.slice b3 m.desks.length q3,.slice b4 m.paces.length q4,.int .i64 m.now] 32)) w.heap.size 32 #[.slice a0 m.rooms.length p0,.slice a1 m.guilds.length p1,.slice a2 m.smiths.length p2,.slice a3 m.desks.length p3,.slice a4 m.paces.length p4,.int .i64 m.now]):=Z9 ((Blk.new w _ _).alloc _)
 have kb:Hid (Blk ((w.alloc (.cells #[.slice a0 m.rooms.length p0,.slice a1 m.guilds.length p1,.slice a2 m.smiths.length p2,.slice a3 m.desks.length p3,.slice a4 m.paces.length p4,.int .i64 m.now] 32)).alloc (.cells #[.slice b0 m.rooms.length q0,.slice b1 m.guilds.length q1,.slice b2 m.smiths.length q2,.slice b3 m.desks.length q3,.slice b4 m.paces.length q4,.int .i64 m.now] 32)) (w.heap.size+1) 32 #[.slice b0 m.rooms.length q0,.slice b1 m.guilds.length q1,.slice b2 m.smiths.length q2,.slice b3 m.desks.length q3,.slice b4 m.paces.length q4,.int .i64 m.now]):=Z9 (by
  have k:=Blk.new (w.alloc (.cells #[.slice a0 m.rooms.length p0,.slice a1 m.guilds.length p1,.slice a2 m.smiths.length p2,.slice a3 m.desks.length p3,.slice a4 m.paces.length p4,.int .i64 m.now] 32)) 32 #[.slice b0 m.rooms.length q0,.slice b1 m.guilds.length q1,.slice b2 m.smiths.length q2,.slice b3 m.desks.length q3,.slice b4 m.paces.length q4,.int .i64 m.now]
  rw [World.size_alloc] at k
  exact k)
 have BB:Hid (Below w.heap.size w ((w.alloc (.cells #[.slice a0 m.rooms.length p0,.slice a1 m.guilds.length p1,.slice a2 m.smiths.length p2,.slice a3 m.desks.length p3,.slice a4 m.paces.length p4,.int .i64 m.now] 32)).alloc (.cells #[.slice b0 m.rooms.length q0,.slice b1 m.guilds.length q1,.slice b2 m.smiths.length q2,.slice b3 m.desks.length q3,.slice b4 m.paces.length q4,.int .i64 m.now] 32))):=Z9 (((Below.refl _ _).alloc (Nat.le_refl _) _).alloc (by simp) _)
 go_enter Tryz.func26,Tryz.ntmps26
 go_wp2_with fail
 generalize ((w.alloc (.cells #[.slice a0 m.rooms.length p0,.slice a1 m.guilds.length p1,.slice a2 m.smiths.length p2,.slice a3 m.desks.length p3,.slice a4 m.paces.length p4,.int .i64 m.now] 32)).alloc (.cells #[.slice b0 m.rooms.length q0,.slice b1 m.guilds.length q1,.slice b2 m.smiths.length q2,.slice b3 m.desks.length q3,.slice b4 m.paces.length q4,.int .i64 m.now] 32))=W at *
 refine (Nq ((uh Hv).below (uh BB)).rooms ((uh Hu).below (uh BB)).rooms).mono ?_
 rintro e w1 ⟨rfl,hb⟩
 replace ka:=bl ka hb
 replace kb:=bl kb hb
 replace BB:=bt BB hb
 clear hb
 obtain ⟨c0,c1,c2,c3,c4,c5⟩:=(uh ka).c6
 obtain ⟨d0,d1,d2,d3,d4,d5⟩:=(uh kb).c6
 go_wp2_with fail
 refine (Nr ((uh Hv).below (uh BB)).paces ((uh Hu).below (uh BB)).paces).mono ?_
 rintro e w2 ⟨rfl,hb⟩
 replace ka:=bl ka hb
 replace kb:=bl kb hb
 replace BB:=bt BB hb
 clear hb c0 c1 c2 c3 c4 c5 d0 d1 d2 d3 d4 d5
 obtain ⟨c0,c1,c2,c3,c4,c5⟩:=(uh ka).c6
 obtain ⟨d0,d1,d2,d3,d4,d5⟩:=(uh kb).c6
 go_wp2_with fail
 clear c0 c1 c2 c3 c4 c5 d0 d1 d2 d3 d4 d5
 go_loopw [5] (fun i wr=> ∃ k:Nat,k<=m.guilds.length/\i= .int .i64 k/\Blk wr w.heap.size 32 #[.slice a0 m.rooms.length p0,.slice a1 m.guilds.length p1,.slice a2 m.smiths.length p2,.slice a3 m.desks.length p3,.slice a4 m.paces.length p4,.int .i64 m.now]/\Blk wr (w.heap.size+1) 32 #[.slice b0 m.rooms.length q0,.slice b1 m.guilds.length q1,.slice b2 m.smiths.length q2,.slice b3 m.desks.length q3,.slice b4 m.paces.length q4,.int .i64 m.now]/\Below w.heap.size w wr) (fun i _=>m.guilds.length-(intOf i).toNat)
 case atStart=>exact ⟨0,Nat.zero_le _,rfl,uh ka,uh kb,uh BB⟩
 case round=>
  obtain ⟨k,hk,rfl,hka,hkb,hb⟩:=hrel
  have c1:=hka.cell (i:=1) rfl
  have d1:=hkb.cell (i:=1) rfl
  by_cases hlt:k<m.guilds.length
  ·have hlt1:(k:Int)<(m.guilds.length:Int):=by omega
   obtain ⟨_,_,he,_,hmx,r1⟩:=(uh Hv).guilds
   cases he
   obtain ⟨_,_,he,_,hmy,r2⟩:=(uh Hu).guilds
   cases he
   rcases r1 with e0 | ⟨b,off,rfl,hbw,hcl⟩
   ·rw [e0] at hlt;simp at hlt
   rcases r2 with e0 | ⟨b',off',rfl,hbw',hcl'⟩
   ·rw [e0] at hlt;simp at hlt
   obtain ⟨x0,x1,x2⟩:=Wd hcl hlt
   obtain ⟨y0,y1,y2⟩:=Wd hcl' hlt
   rw [<-hb.cell (p:=⟨b,off+k*3,none⟩) hbw] at x0
   rw [<-hb.cell (p:=⟨b',off'+k*3,none⟩) hbw'] at y0
   rw [<-hb.cell (p:=⟨b,off+k*3+1,none⟩) hbw] at x1
   rw [<-hb.cell (p:=⟨b',off'+k*3+1,none⟩) hbw'] at y1
   rw [<-hb.cell (p:=⟨b,off+k*3+2,none⟩) hbw] at x2
   rw [<-hb.cell (p:=⟨b',off'+k*3+2,none⟩) hbw'] at y2
   generalize Z8 m.guilds k=rr at *
   obtain ⟨ga,gb,gc⟩:=rr
   simp only at x0 x1 x2 y0 y1 y2
   have Ka:=Z9 hka
   have Kb:=Z9 hkb
   have Hb:=Z9 hb
   clear hcl hcl' hka hkb hb
   go_wp2_with fail
   go_quiet (fail)
   go_wp2_with fail
   go_roundw
   case rel=>exact ⟨k+1,by omega,by go_num,(uh Ka).same rfl,(uh Kb).same rfl,⟨(uh Hb).os,(uh Hb).tape,(uh Hb).output,(uh Hb).size,(uh Hb).block⟩⟩
   case measure=>simp [intOf];omega
  ·obtain rfl:k=m.guilds.length:=by omega
   replace ka:=Z9 hka
   replace kb:=Z9 hkb
   replace BB:=Z9 hb
   clear hka hkb hb
   go_wp2_with fail
   go_loopw [6] (fun i wr=> ∃ k:Nat,k<=m.smiths.length/\i= .int .i64 k/\Blk wr w.heap.size 32 #[.slice a0 m.rooms.length p0,.slice a1 m.guilds.length p1,.slice a2 m.smiths.length p2,.slice a3 m.desks.length p3,.slice a4 m.paces.length p4,.int .i64 m.now]/\Blk wr (w.heap.size+1) 32 #[.slice b0 m.rooms.length q0,.slice b1 m.guilds.length q1,.slice b2 m.smiths.length q2,.slice b3 m.desks.length q3,.slice b4 m.paces.length q4,.int .i64 m.now]/\Below w.heap.size w wr) (fun i _=>m.smiths.length-(intOf i).toNat)
   case atStart=>exact ⟨0,Nat.zero_le _,rfl,uh ka,uh kb,uh BB⟩
   case round=>
    obtain ⟨k,hk,rfl,hka,hkb,hb⟩:=hrel
    have c2:=hka.cell (i:=2) rfl
    have d2:=hkb.cell (i:=2) rfl
    by_cases hlt:k<m.smiths.length
    ·have hlt1:(k:Int)<(m.smiths.length:Int):=by omega
     obtain ⟨_,_,he,_,hmx,r1⟩:=(uh Hv).smiths
     cases he
     obtain ⟨_,_,he,_,hmy,r2⟩:=(uh Hu).smiths
     cases he
     rcases r1 with e0 | ⟨b,off,rfl,hbw,hcl⟩
     ·rw [e0] at hlt;simp at hlt
     rcases r2 with e0 | ⟨b',off',rfl,hbw',hcl'⟩
     ·rw [e0] at hlt;simp at hlt
     obtain ⟨x0,x1,x2,x3,x4,x5,x6,x7,x8,x9,x10⟩:=ZD hcl hlt
     obtain ⟨y0,y1,y2,y3,y4,y5,y6,y7,y8,y9,y10⟩:=ZD hcl' hlt
     rw [<-hb.cell (p:=⟨b,off+k*11,none⟩) hbw] at x0
     rw [<-hb.cell (p:=⟨b',off'+k*11,none⟩) hbw'] at y0
     rw [<-hb.cell (p:=⟨b,off+k*11+1,none⟩) hbw] at x1
     rw [<-hb.cell (p:=⟨b',off'+k*11+1,none⟩) hbw'] at y1
     rw [<-hb.cell (p:=⟨b,off+k*11+2,none⟩) hbw] at x2
     rw [<-hb.cell (p:=⟨b',off'+k*11+2,none⟩) hbw'] at y2
     rw [<-hb.cell (p:=⟨b,off+k*11+3,none⟩) hbw] at x3
     rw [<-hb.cell (p:=⟨b',off'+k*11+3,none⟩) hbw'] at y3
     rw [<-hb.cell (p:=⟨b,off+k*11+4,none⟩) hbw] at x4
     rw [<-hb.cell (p:=⟨b',off'+k*11+4,none⟩) hbw'] at y4
     rw [<-hb.cell (p:=⟨b,off+k*11+5,none⟩) hbw] at x5
     rw [<-hb.cell (p:=⟨b',off'+k*11+5,none⟩) hbw'] at y5
     rw [<-hb.cell (p:=⟨b,off+k*11+6,none⟩) hbw] at x6
     rw [<-hb.cell (p:=⟨b',off'+k*11+6,none⟩) hbw'] at y6
     rw [<-hb.cell (p:=⟨b,off+k*11+7,none⟩) hbw] at x7
     rw [<-hb.cell (p:=⟨b',off'+k*11+7,none⟩) hbw'] at y7
     rw [<-hb.cell (p:=⟨b,off+k*11+8,none⟩) hbw] at x8
     rw [<-hb.cell (p:=⟨b',off'+k*11+8,none⟩) hbw'] at y8
     rw [<-hb.cell (p:=⟨b,off+k*11+9,none⟩) hbw] at x9
     rw [<-hb.cell (p:=⟨b',off'+k*11+9,none⟩) hbw'] at y9
     rw [<-hb.cell (p:=⟨b,off+k*11+10,none⟩) hbw] at x10
     rw [<-hb.cell (p:=⟨b',off'+k*11+10,none⟩) hbw'] at y10
     generalize Z8 m.smiths k=rr at *
     obtain ⟨st,be,rk,my,gu,lo,hi,hd,ca,ut,wk⟩:=rr
     simp only at x0 x1 x2 x3 x4 x5 x6 x7 x8 x9 x10 y0 y1 y2 y3 y4 y5 y6 y7 y8 y9 y10
     have Ka:=Z9 hka
     have Kb:=Z9 hkb
     have Hb:=Z9 hb
     clear hcl hcl' hka hkb hb
     go_wp2_with fail
     go_quiet (fail)
     go_wp2_with fail
     go_roundw
     case rel=>exact ⟨k+1,by omega,by go_num,(uh Ka).same rfl,(uh Kb).same rfl,⟨(uh Hb).os,(uh Hb).tape,(uh Hb).output,(uh Hb).size,(uh Hb).block⟩⟩
     case measure=>simp [intOf];omega
    ·obtain rfl:k=m.smiths.length:=by omega
     replace ka:=Z9 hka
     replace kb:=Z9 hkb
     replace BB:=Z9 hb
     clear hka hkb hb
     go_wp2_with fail
     go_loopw [7] (fun i wr=> ∃ k:Nat,k<=m.desks.length/\i= .int .i64 k/\Blk wr w.heap.size 32 #[.slice a0 m.rooms.length p0,.slice a1 m.guilds.length p1,.slice a2 m.smiths.length p2,.slice a3 m.desks.length p3,.slice a4 m.paces.length p4,.int .i64 m.now]/\Blk wr (w.heap.size+1) 32 #[.slice b0 m.rooms.length q0,.slice b1 m.guilds.length q1,.slice b2 m.smiths.length q2,.slice b3 m.desks.length q3,.slice b4 m.paces.length q4,.int .i64 m.now]/\Below w.heap.size w wr) (fun i _=>m.desks.length-(intOf i).toNat)
     case atStart=>exact ⟨0,Nat.zero_le _,rfl,uh ka,uh kb,uh BB⟩
     case round=>
      obtain ⟨k,hk,rfl,hka,hkb,hb⟩:=hrel
      have c3:=hka.cell (i:=3) rfl
      have d3:=hkb.cell (i:=3) rfl
      by_cases hlt:k<m.desks.length
      ·have hlt1:(k:Int)<(m.desks.length:Int):=by omega
       obtain ⟨_,_,he,_,hmx,r1⟩:=(uh Hv).desks
       cases he
       obtain ⟨_,_,he,_,hmy,r2⟩:=(uh Hu).desks
       cases he
       rcases r1 with e0 | ⟨b,off,rfl,hbw,hcl⟩
       ·rw [e0] at hlt;simp at hlt
       rcases r2 with e0 | ⟨b',off',rfl,hbw',hcl'⟩
       ·rw [e0] at hlt;simp at hlt
       obtain ⟨x0,x1,x2⟩:=Zk hcl hlt
       obtain ⟨y0,y1,y2⟩:=Zk hcl' hlt
       rw [<-hb.cell (p:=⟨b,off+k*3,none⟩) hbw] at x0
       rw [<-hb.cell (p:=⟨b',off'+k*3,none⟩) hbw'] at y0
       rw [<-hb.cell (p:=⟨b,off+k*3+1,none⟩) hbw] at x1
       rw [<-hb.cell (p:=⟨b',off'+k*3+1,none⟩) hbw'] at y1
       rw [<-hb.cell (p:=⟨b,off+k*3+2,none⟩) hbw] at x2
       rw [<-hb.cell (p:=⟨b',off'+k*3+2,none⟩) hbw'] at y2
       generalize Z8 m.desks k=rr at *
       obtain ⟨op,who,mk⟩:=rr
       simp only at x0 x1 x2 y0 y1 y2
       have Ka:=Z9 hka
       have Kb:=Z9 hkb
       have Hb:=Z9 hb
       clear hcl hcl' hka hkb hb
       go_wp2_with fail
       go_quiet (fail)
       go_wp2_with fail
       go_roundw
       case rel=>exact ⟨k+1,by omega,by go_num,(uh Ka).same rfl,(uh Kb).same rfl,⟨(uh Hb).os,(uh Hb).tape,(uh Hb).output,(uh Hb).size,(uh Hb).block⟩⟩
       case measure=>simp [intOf];omega
      ·obtain rfl:k=m.desks.length:=by omega
       replace ka:=Z9 hka
       replace kb:=Z9 hkb
       replace BB:=Z9 hb
       clear hka hkb hb
       go_wp2_with fail
       go_ret
       exact ⟨rfl,uh BB⟩
end Go.Proofs.YtnponpamjddpjaaGreat
