/- Part 42 of what the proof rests on. No condition but those that a theorem names. -/
import Derived.Test.YtnponpamjddpjaaGreatXt41
namespace Go.Proofs.YtnponpamjddpjaaGreat
open Go.ChangeShapes Go.WideShapes Go.ChangeAt Go.RowKit Go.Sort
open Draw (Row NO Gr row_later IW FB)
set_option linter.unusedVariables false
set_option linter.unusedSimpArgs false
set_option maxRecDepth 100000
attribute [local go_sem ↓] RS Ts
theorem Mp (st be rk my gu lo hi hd ca ut wk:Int) (w:World):Calls Tryz.prog 22 #[.agg #[.int .i64 st,.int .i64 be,.int .i64 rk,.int .i64 my,.int .i64 gu,.int .i64 lo,.int .i64 hi,.int .i64 hd,.int .i64 ca,.int .i64 ut,.int .i64 wk]] w fun e w'=>
  e= .returned (.bool (ZT (st,be,rk,my,gu,lo,hi,hd,ca,ut,wk)))/\Below w.heap.size w w':=by
 unfold ZT
 simp only
 cases h2:(st ==2)
 all_goals
  go_enter Tryz.func22,Tryz.ntmps22
  go_wp2_with fail
  go_ret
  exact ⟨by first | rfl | (simp),(Below.refl _ _).alloc (Nat.le_refl _) _⟩
theorem Oh {st be rk my gu lo hi hd ca ut wk:Int} {q:Bool} (h:ZT (st,be,rk,my,gu,lo,hi,hd,ca,ut,wk)=q) (w:World):Calls Tryz.prog 22 #[.agg #[.int .i64 st,.int .i64 be,.int .i64 rk,.int .i64 my,.int .i64 gu,.int .i64 lo,.int .i64 hi,.int .i64 hd,.int .i64 ca,.int .i64 ut,.int .i64 wk]] w fun e w'=>e= .returned (.bool q)/\Below w.heap.size w w':=by
 have:=Mp st be rk my gu lo hi hd ca ut wk w;rw [h] at this;exact this
set_option maxHeartbeats 8000000 in
theorem NL (a0:Option Addr) (len0 cap0:Nat) (z0:List Int) (w:World) (w0:NO .u8 w a0 len0 cap0 z0) :
  Calls Tryz.prog 4 #[.slice a0 len0 cap0] w fun e w'=>e= .returned (.bool true)/\Below w.heap.size w w':=by
 by_cases hbig:4096<len0
 ·go_enter Tryz.func4,Tryz.ntmps4
  go_wp2_with fail
  refine (IW _ _ _ _ hbig).mono ?_
  rintro e w' ⟨rfl,rfl⟩
  go_wp2_with fail
  go_ret
  exact ⟨rfl,Below.refl _ _⟩
 have Hr:=Z9 (Gr w0 (by omega))
 clear w0
 go_enter Tryz.func4,Tryz.ntmps4
 go_wp2_with fail
 refine (FB _ _ _ _ (by omega)).mono ?_
 rintro e w' ⟨rfl,hw'⟩
 subst w'
 go_wp2_with fail
 refine (zA6 _ _ _ _ (uh Hr)).mono ?_
 rintro e w1 ⟨M,u0,u1,u2,u3,u4,rfl,hm,hb⟩
 obtain ⟨b0,q0,b1,q1,b2,q2,b3,q3,b4,q4,rfl,rfl,rfl,rfl,rfl,_,_,_,_,_,_,_,_,_,_⟩:=hm.five
 have Hv:=Z9 hm
 have BB:=Z9 hb
 clear hm hb Hr
 go_upto_region 4 with fail
 obtain ⟨W1,hW1,hb,km⟩:=Zy w1 32 (S6 b0 q0 b1 q1 b2 q2 b3 q3 b4 q4 M)
 replace Hv:=Z9 ((uh Hv).below hb)
 replace BB:=bt BB hb
 clear hb
 rw [hW1]
 clear hW1
 generalize w1.heap.size=mb at *
 obtain ⟨X,hX⟩:∃ x,XZ M=x:=⟨_,rfl⟩
 have HI:=Z9 (TG W1 _ _ _ _ _ M (uh Hv))
 rw [hX] at HI
 have HX:=Z9 hX
 clear hX
 obtain ⟨x0,x1,x2,x3,x4,x5⟩:=(uh km).c6
 go_wp2_with fail
 clear x0 x1 x2 x3 x4 x5
 refine (uh HI).mono ?_
 rintro e w2 ⟨y0,y1,y2,y3,y4,rq,rfl,ho,hb⟩
 have k9:=ho.smy
 obtain ⟨c0,r0,c1,r1,c2,r2,c3,r3,c4,r4,rfl,rfl,rfl,rfl,rfl,_,_,_,_,_,_,_,_,_,_⟩:=k9.five
 have Hx:=Z9 k9
 clear ho k9 HI
 replace km:=bl km hb
 replace Hv:=Z9 ((uh Hv).below hb)
 replace BB:=bt BB hb
 clear hb
 go_upto_region 5 with fail
 obtain ⟨W2,hW2,hb,kx⟩:=Zy w2 32 (S6 c0 r0 c1 r1 c2 r2 c3 r3 c4 r4 X)
 replace km:=bl km hb
 replace Hv:=Z9 ((uh Hv).below hb)
 replace Hx:=Z9 ((uh Hx).below hb)
 replace BB:=bt BB hb
 clear hb
 rw [hW2]
 clear hW2
 generalize w2.heap.size=xb at *
 obtain ⟨x0,x1,x2,x3,x4,x5⟩:=(uh km).c6
 obtain ⟨y0,y1,y2,y3,y4,y5⟩:=(uh kx).c6
 go_wp2_with fail
 refine ZP (S:=fun w'=>w'.cell? ⟨xb,0,none⟩=some (.slice c0 X.rooms.length r0)/\w'.cell? ⟨xb,1,none⟩=some (.slice c1 X.guilds.length r1)/\w'.cell? ⟨xb,2,none⟩=some (.slice c2 X.smiths.length r2)/\w'.cell? ⟨xb,3,none⟩=some (.slice c3 X.desks.length r3)/\w'.cell? ⟨xb,4,none⟩=some (.slice c4 X.paces.length r4)/\w'.cell? ⟨xb,5,none⟩=some (.int .i64 X.now)/\w'.cell? ⟨mb,0,none⟩=some (.slice b0 M.rooms.length q0)/\w'.cell? ⟨mb,1,none⟩=some (.slice b1 M.guilds.length q1)/\w'.cell? ⟨mb,2,none⟩=some (.slice b2 M.smiths.length q2)/\w'.cell? ⟨mb,3,none⟩=some (.slice b3 M.desks.length q3)/\w'.cell? ⟨mb,4,none⟩=some (.slice b4 M.paces.length q4)/\w'.cell? ⟨mb,5,none⟩=some (.int .i64 M.now)) (by kernel_rfl) (List.cons_ne_nil _ _) (by kernel_rfl) ⟨y0,y1,y2,y3,y4,y5,x0,x1,x2,x3,x4,x5⟩ (fun hHeld=> ?_)
 simp only [List.dropLast_cons_cons,List.dropLast_singleton,List.length_cons,List.length_nil,Nat.zero_add,Nat.reduceAdd]
 clear x0 x1 x2 x3 x4 x5
 clear y0 y1 y2 y3 y4 y5
 have hb:Below W2.heap.size W2 W2.drew:=(Below.refl _ _).drew
 replace km:=bl km hb
 replace Hv:=Z9 ((uh Hv).below hb)
 replace Hx:=Z9 ((uh Hx).below hb)
 replace kx:=bl kx hb
 replace BB:=bt BB hb
 clear hb
 generalize W2.drew=W3 at *
 (refine tk 0 rfl (by assumption) ?_;(try simp only [Act.put,sA,sZ,sS]))
 (refine tk 1 rfl (by assumption) ?_;(try simp only [Act.put,sA,sZ,sS]))
 refine rd 2 rfl (fun K hK=> ?_)
 go_simp
 have hS:=Qc W3 _ _ _ _ _ M (uh Hv)
 rw [uh HX] at hS
 refine hS.mono ?_
 rintro e9 w3 ⟨z0,z1,z2,z3,z4,zq,rfl,ho,hb⟩
 have k9:=ho.smy
 obtain ⟨d0,t0,d1,t1,d2,t2,d3,t3,d4,t4,rfl,rfl,rfl,rfl,rfl,_,_,_,_,_,_,_,_,_,_⟩:=k9.five
 have Hz:=Z9 k9
 clear ho k9 hS
 replace km:=bl km hb
 replace Hv:=Z9 ((uh Hv).below hb)
 replace Hx:=Z9 ((uh Hx).below hb)
 replace kx:=bl kx hb
 replace BB:=bt BB hb
 clear hb
 refine hK.out _ _ ⟨(uh kx).cell (i:=0) rfl,(uh kx).cell (i:=1) rfl,(uh kx).cell (i:=2) rfl,(uh kx).cell (i:=3) rfl,(uh kx).cell (i:=4) rfl,(uh kx).cell (i:=5) rfl,(uh km).cell (i:=0) rfl,(uh km).cell (i:=1) rfl,(uh km).cell (i:=2) rfl,(uh km).cell (i:=3) rfl,(uh km).cell (i:=4) rfl,(uh km).cell (i:=5) rfl⟩ (fun hHeld=> ?_)
 clear hK K
 (try simp only [Act.put,sA,sZ,sS])
 refine rd 3 rfl (fun K hK=> ?_)
 go_simp
 refine (TQ (uh Hx) (uh Hz)).mono ?_
 rintro e9 w4 ⟨rfl,hb⟩
 replace km:=bl km hb
 replace Hv:=Z9 ((uh Hv).below hb)
 replace Hx:=Z9 ((uh Hx).below hb)
 replace kx:=bl kx hb
 replace BB:=bt BB hb
 clear hb
 refine hK.out _ _ ⟨(uh kx).cell (i:=0) rfl,(uh kx).cell (i:=1) rfl,(uh kx).cell (i:=2) rfl,(uh kx).cell (i:=3) rfl,(uh kx).cell (i:=4) rfl,(uh kx).cell (i:=5) rfl,(uh km).cell (i:=0) rfl,(uh km).cell (i:=1) rfl,(uh km).cell (i:=2) rfl,(uh km).cell (i:=3) rfl,(uh km).cell (i:=4) rfl,(uh km).cell (i:=5) rfl⟩ (fun hHeld=> ?_)
 clear hK K
 (try simp only [Act.put,sA,sZ,sS])
 refine wpAnyH_done (by kernel_rfl) ?_ _
 refine ZI rfl rfl ?_
 go_simp
 clear hHeld
 clear Hz
 have x3:=(uh kx).cell (i:=3) (v:= .slice c3 X.desks.length r3) rfl
 cases hlo:YZ M
 ·
  have hd0:X.desks.length=0:=by rw [<-uh HX];unfold XZ;rw [hlo];rfl
  have hok:ZK M=false:=by unfold ZK;rw [hlo];rfl
  have Hok:=Z9 hok
  have hd1:((X.desks.length:Int) ==0)=true:=by rw [hd0];rfl
  have hd2:decide ((X.desks.length:Int)=0)=true:=by rw [hd0];rfl
  clear hd0 hok hlo
  obtain ⟨z0,z1,z2,z3,z4,z5⟩:=(uh km).c6
  go_wp2_with fail
  refine (Zc (uh Hok) (uh Hv)).mono ?_
  rintro e w5 ⟨rfl,hb⟩
  replace km:=bl km hb
  replace Hv:=Z9 ((uh Hv).below hb)
  replace Hx:=Z9 ((uh Hx).below hb)
  replace kx:=bl kx hb
  replace BB:=bt BB hb
  clear hb
  go_wp2_with fail
  go_ret
  exact ⟨rfl,uh BB⟩
 have Hlo:=Z9 hlo
 have hXt:X=Z1 M:=by rw [<-uh HX];unfold XZ;rw [hlo];rfl
 obtain ⟨e1,e2,e3,e4,e5,e6⟩:=ZQ M M.desks.length
 have hdl:X.desks.length=M.desks.length:=by rw [hXt];exact e6
 have hsl:X.smiths.length=M.smiths.length:=by rw [hXt];exact e5
 have hd0:0<M.desks.length:=by obtain ⟨j,hj,_⟩:=(Wh hlo).openD;omega
 have hdn:¬ ((X.desks.length:Int)=0):=by omega
 have hd1:((X.desks.length:Int) ==0)=false:=beq_eq_false_iff_ne.mpr hdn
 have hd2:decide ((X.desks.length:Int)=0)=false:=decide_eq_false hdn
 clear hdn
 have HT:Hid (∀ i,i<M.smiths.length->ZT (Z8 X.smiths i)=ZT (Z8 M.smiths i)/\(Z8 X.smiths i).2=(Z8 M.smiths i).2):=Z9 (fun i hi=>by rw [hXt];exact NK hi)
 have HR:Hid (ZK X=true/\XZ X=X):=Z9 (by rw [hXt];exact ⟨Zd (Wh hlo),NJ hlo⟩)
 have Hsl:=Z9 hsl
 clear hlo hXt e1 e2 e3 e4 e5 e6 hdl hsl hd0
 go_wp2_with fail
 clear hd1 hd2 x3
 obtain ⟨W5,hW5⟩:∃ x,x=w4:=⟨_,rfl⟩
 clear hW5 W5
 go_loopw [5] (fun i wr=> ∃ k:Nat,k<=M.smiths.length/\i= .int .i64 k/\Below w4.heap.size w4 wr) (fun i _=>M.smiths.length-(intOf i).toNat)
 case atStart=>exact ⟨0,Nat.zero_le _,rfl,Below.refl _ _⟩
 case round=>
  obtain ⟨k,hk,rfl,hb⟩:=hrel
  have HB:=Z9 hb
  replace km:=bl km hb
  replace Hv:=Z9 ((uh Hv).below hb)
  replace Hx:=Z9 ((uh Hx).below hb)
  replace kx:=bl kx hb
  replace BB:=bt BB hb
  clear hb
  have x2:=(uh km).cell (i:=2) (v:= .slice b2 M.smiths.length q2) rfl
  by_cases hlt:k<M.smiths.length
  ·
   have hlt1:(k:Int)<(M.smiths.length:Int):=by omega
   have hltx:(k:Int)<(X.smiths.length:Int):=by rw [uh Hsl];exact hlt1
   have hltn:k<X.smiths.length:=by rw [uh Hsl];exact hlt
   obtain ⟨hp,h2⟩:=uh HT k hlt
   obtain ⟨_,_,hse,_,_,r2⟩:=(uh Hv).smiths
   cases hse
   rcases r2 with e0 | ⟨sb,so,rfl,hbw,hcl⟩
   ·rw [e0] at hlt;simp at hlt
   obtain ⟨s0,s1,s2,s3,s4,s5,s6,s7,s8,s9,s10⟩:=ZD hcl hlt
   clear hcl
   obtain ⟨⟨st,j1,j2,j3,j4,j5,j6,j7,j8,j9,j10⟩,hrk⟩:∃ d,Z8 M.smiths k=d:=⟨_,rfl⟩
   obtain ⟨⟨st2,be,rk,my,gu,lo,hi,hd,ca,ut,wk⟩,hrx⟩:∃ d,Z8 X.smiths k=d:=⟨_,rfl⟩
   rw [hrk] at s0 s1 s2 s3 s4 s5 s6 s7 s8 s9 s10 hp h2
   rw [hrx] at hp h2
   simp only [Prod.mk.injEq] at h2
   obtain ⟨rfl,rfl,rfl,rfl,rfl,rfl,rfl,rfl,rfl,rfl⟩:=h2
   simp only at s0 s1 s2 s3 s4 s5 s6 s7 s8 s9 s10
   obtain ⟨ps,hps⟩:∃ q,ZT (st,be,rk,my,gu,lo,hi,hd,ca,ut,wk)=q:=⟨_,rfl⟩
   rw [hps] at hp
   have Hpa:=Z9 hps
   have Hpb:=Z9 hp
   have Hrx:=Z9 hrx
   clear hrk hrx hps hp Hv BB
   go_upto_region 13 with fail
   obtain ⟨V1,hV1,hb,ka⟩:=Zy wr 41 #[.int .i64 st,.int .i64 be,.int .i64 rk,.int .i64 my,.int .i64 gu,.int .i64 lo,.int .i64 hi,.int .i64 hd,.int .i64 ca,.int .i64 ut,.int .i64 wk]
   have hab:=(uh HB).size
   replace kx:=bl kx hb
   replace Hx:=Z9 ((uh Hx).below hb)
   replace HB:=Z9 ((uh HB).trans (hb.mono (uh HB).size))
   clear hb
   clear km x2 hbw s0 s1 s2 s3 s4 s5 s6 s7 s8 s9 s10
   rw [hV1]
   clear hV1
   generalize wr.heap.size=ab at *
   obtain ⟨_,_,hse,_,_,rx⟩:=(uh Hx).smiths
   cases hse
   rcases rx with e0 | ⟨tb,tof,rfl,hbx,hcx⟩
   ·rw [e0] at hltn;simp at hltn
   obtain ⟨p0,p1,p2,p3,p4,p5,p6,p7,p8,p9,p10⟩:=ZD hcx hltn
   rw [uh Hrx] at p0 p1 p2 p3 p4 p5 p6 p7 p8 p9 p10
   simp only at p0 p1 p2 p3 p4 p5 p6 p7 p8 p9 p10
   have y2:=(uh kx).cell (i:=2) (v:= .slice (some ⟨tb,tof,none⟩) X.smiths.length r2) rfl
   clear hcx Hrx
   go_upto_region 14 with fail
   obtain ⟨V2,hV2,hb,kb⟩:=Zy V1 41 #[.int .i64 st2,.int .i64 be,.int .i64 rk,.int .i64 my,.int .i64 gu,.int .i64 lo,.int .i64 hi,.int .i64 hd,.int .i64 ca,.int .i64 ut,.int .i64 wk]
   have hbb:=(uh HB).size
   have hne:ab ≠ V1.heap.size:=by have:=(uh ka).lt;omega
   replace ka:=bl ka hb
   replace HB:=Z9 ((uh HB).trans (hb.mono (uh HB).size))
   clear hb
   clear Hx kx y2 hbx p0 p1 p2 p3 p4 p5 p6 p7 p8 p9 p10
   rw [hV2]
   clear hV2
   generalize V1.heap.size=bb at *
   obtain ⟨s0,s1,s2,s3,s4,s5,s6,s7,s8,s9,s10⟩:=(uh ka).c11
   obtain ⟨p0,p1,p2,p3,p4,p5,p6,p7,p8,p9,p10⟩:=(uh kb).c11
   go_wp2_with fail
   refine ZP (S:=fun w'=>w'.cell? ⟨ab,0,none⟩=some (.int .i64 st)/\w'.cell? ⟨ab,1,none⟩=some (.int .i64 be)/\w'.cell? ⟨ab,2,none⟩=some (.int .i64 rk)/\w'.cell? ⟨ab,3,none⟩=some (.int .i64 my)/\w'.cell? ⟨ab,4,none⟩=some (.int .i64 gu)/\w'.cell? ⟨ab,5,none⟩=some (.int .i64 lo)/\w'.cell? ⟨ab,6,none⟩=some (.int .i64 hi)/\w'.cell? ⟨ab,7,none⟩=some (.int .i64 hd)/\w'.cell? ⟨ab,8,none⟩=some (.int .i64 ca)/\w'.cell? ⟨ab,9,none⟩=some (.int .i64 ut)/\w'.cell? ⟨ab,10,none⟩=some (.int .i64 wk)/\w'.cell? ⟨bb,0,none⟩=some (.int .i64 st2)/\w'.cell? ⟨bb,1,none⟩=some (.int .i64 be)/\w'.cell? ⟨bb,2,none⟩=some (.int .i64 rk)/\w'.cell? ⟨bb,3,none⟩=some (.int .i64 my)/\w'.cell? ⟨bb,4,none⟩=some (.int .i64 gu)/\w'.cell? ⟨bb,5,none⟩=some (.int .i64 lo)/\w'.cell? ⟨bb,6,none⟩=some (.int .i64 hi)/\w'.cell? ⟨bb,7,none⟩=some (.int .i64 hd)/\w'.cell? ⟨bb,8,none⟩=some (.int .i64 ca)/\w'.cell? ⟨bb,9,none⟩=some (.int .i64 ut)/\w'.cell? ⟨bb,10,none⟩=some (.int .i64 wk)) (by kernel_rfl) (List.cons_ne_nil _ _) (by kernel_rfl) ⟨s0,s1,s2,s3,s4,s5,s6,s7,s8,s9,s10,p0,p1,p2,p3,p4,p5,p6,p7,p8,p9,p10⟩ (fun hHeld=> ?_)
   simp only [List.dropLast_cons_cons,List.dropLast_singleton,List.length_cons,List.length_nil,Nat.zero_add,Nat.reduceAdd]
   clear s0 p0 s1 p1 s2 p2 s3 p3 s4 p4 s5 p5 s6 p6 s7 p7 s8 p8 s9 p9 s10 p10
   have hb:Below V2.heap.size V2 V2.drew:=(Below.refl _ _).drew
   replace ka:=bl ka hb
   replace kb:=bl kb hb
   replace HB:=Z9 ((uh HB).trans (hb.mono (uh HB).size))
   clear hb
   generalize V2.drew=V3 at *
   (refine tk 0 rfl (by assumption) ?_;(try simp only [Act.put,sA,sZ,sS]))
   (refine tk 2 rfl (by assumption) ?_;(try simp only [Act.put,sA,sZ,sS]))
   refine rd 1 rfl (fun K hK=> ?_)
   go_simp
   refine (Oh (uh Hpa) _).mono ?_
   rintro e9 V4 ⟨rfl,hb⟩
   replace ka:=bl ka hb
   replace kb:=bl kb hb
   replace HB:=Z9 ((uh HB).trans (hb.mono (uh HB).size))
   clear hb
   refine hK.out _ _ ⟨(uh ka).cell (i:=0) rfl,(uh ka).cell (i:=1) rfl,(uh ka).cell (i:=2) rfl,(uh ka).cell (i:=3) rfl,(uh ka).cell (i:=4) rfl,(uh ka).cell (i:=5) rfl,(uh ka).cell (i:=6) rfl,(uh ka).cell (i:=7) rfl,(uh ka).cell (i:=8) rfl,(uh ka).cell (i:=9) rfl,(uh ka).cell (i:=10) rfl,(uh kb).cell (i:=0) rfl,(uh kb).cell (i:=1) rfl,(uh kb).cell (i:=2) rfl,(uh kb).cell (i:=3) rfl,(uh kb).cell (i:=4) rfl,(uh kb).cell (i:=5) rfl,(uh kb).cell (i:=6) rfl,(uh kb).cell (i:=7) rfl,(uh kb).cell (i:=8) rfl,(uh kb).cell (i:=9) rfl,(uh kb).cell (i:=10) rfl⟩ (fun hHeld=> ?_)
   clear hK K
   (try simp only [Act.put,sA,sZ,sS])
   refine rd 3 rfl (fun K hK=> ?_)
   go_simp
   refine (Oh (uh Hpb) _).mono ?_
   rintro e9 V5 ⟨rfl,hb⟩
   replace ka:=bl ka hb
   replace kb:=bl kb hb
   replace HB:=Z9 ((uh HB).trans (hb.mono (uh HB).size))
   clear hb
   refine hK.out _ _ ⟨(uh ka).cell (i:=0) rfl,(uh ka).cell (i:=1) rfl,(uh ka).cell (i:=2) rfl,(uh ka).cell (i:=3) rfl,(uh ka).cell (i:=4) rfl,(uh ka).cell (i:=5) rfl,(uh ka).cell (i:=6) rfl,(uh ka).cell (i:=7) rfl,(uh ka).cell (i:=8) rfl,(uh ka).cell (i:=9) rfl,(uh ka).cell (i:=10) rfl,(uh kb).cell (i:=0) rfl,(uh kb).cell (i:=1) rfl,(uh kb).cell (i:=2) rfl,(uh kb).cell (i:=3) rfl,(uh kb).cell (i:=4) rfl,(uh kb).cell (i:=5) rfl,(uh kb).cell (i:=6) rfl,(uh kb).cell (i:=7) rfl,(uh kb).cell (i:=8) rfl,(uh kb).cell (i:=9) rfl,(uh kb).cell (i:=10) rfl⟩ (fun hHeld=> ?_)
   clear hK K
   (try simp only [Act.put,sA,sZ,sS])
   refine wpAnyH_done (by kernel_rfl) ?_ _
   refine ZI rfl rfl ?_
   go_simp
   clear hHeld
   have hpp:(ps !=ps)=false:=bne_self_eq_false ps
   have s0:=(uh ka).cell (i:=0) (v:= .int .i64 st) rfl
   have p0:=(uh kb).cell (i:=0) (v:= .int .i64 st2) rfl
   have f0:=(uh kb).free 0
   go_upto_region 17 with (first | rw [hpp] | fail)
   replace ka:=Z9 ((uh ka).other (a:=⟨bb,0,none⟩) hne (.int .i64 st))
   replace kb:=Z9 ((uh kb).set 0 (.int .i64 st))
   replace HB:=Z9 ((uh HB).setCell (p:=⟨bb,0,none⟩) hbb (.int .i64 st))
   simp only [List.setIfInBounds_toArray,List.set_cons_zero] at kb
   clear s0 p0 f0 hpp
   generalize V5.setCell ⟨bb,0,none⟩ (.int .i64 st)=V6 at *
   obtain ⟨s0,s1,s2,s3,s4,s5,s6,s7,s8,s9,s10⟩:=(uh ka).c11
   obtain ⟨p0,p1,p2,p3,p4,p5,p6,p7,p8,p9,p10⟩:=(uh kb).c11
   have hsm:=ST (st,be,rk,my,gu,lo,hi,hd,ca,ut,wk)
   go_wp2_with (first | rw [hsm] | fail)
   go_roundw
   case rel=>exact ⟨k+1,by omega,by go_num,uh HB⟩
   case measure=>simp [intOf];omega
  ·
   obtain rfl:k=M.smiths.length:=by omega
   obtain ⟨y0,y1,y2,y3,y4,y5⟩:=(uh kx).c6
   go_wp2_with fail
   refine wp_region_held_drew (S:=fun w'=>w'.cell? ⟨xb,0,none⟩=some (.slice c0 X.rooms.length r0)/\w'.cell? ⟨xb,1,none⟩=some (.slice c1 X.guilds.length r1)/\w'.cell? ⟨xb,2,none⟩=some (.slice c2 X.smiths.length r2)/\w'.cell? ⟨xb,3,none⟩=some (.slice c3 X.desks.length r3)/\w'.cell? ⟨xb,4,none⟩=some (.slice c4 X.paces.length r4)/\w'.cell? ⟨xb,5,none⟩=some (.int .i64 X.now)) (by kernel_rfl) ⟨y0,y1,y2,y3,y4,y5⟩ (fun hHeld=> ?_)
   simp only [List.size_toArray,List.length_cons,List.length_nil,Nat.zero_add,Nat.reduceAdd]
   clear y0 y1 y2 y3 y4 y5
   clear x2
   have hb:Below wr.heap.size wr wr.drew:=(Below.refl _ _).drew
   replace km:=bl km hb
   replace Hv:=Z9 ((uh Hv).below hb)
   replace Hx:=Z9 ((uh Hx).below hb)
   replace kx:=bl kx hb
   replace BB:=bt BB hb
   clear hb
   generalize wr.drew=U1 at *
   (refine tk 0 rfl (by assumption) ?_;(try simp only [Act.put,sA,sZ,sS]))
   refine rd 1 rfl (fun K hK=> ?_)
   go_simp
   refine (Pw _ _ _ _ _ _ X true (uh HR).1 (uh Hx)).mono ?_
   rintro e9 U2 ⟨rfl,hb⟩
   replace km:=bl km hb
   replace Hv:=Z9 ((uh Hv).below hb)
   replace Hx:=Z9 ((uh Hx).below hb)
   replace kx:=bl kx hb
   replace BB:=bt BB hb
   clear hb
   refine hK.out _ _ (uh kx).c6 (fun hHeld=> ?_)
   clear hK K
   (try simp only [Act.put,sA,sZ,sS])
   (refine tk 2 rfl (by assumption) ?_;(try simp only [Act.put,sA,sZ,sS]))
   (refine tk 3 rfl (by assumption) ?_;(try simp only [Act.put,sA,sZ,sS]))
   (refine tk 5 rfl (by assumption) ?_;(try simp only [Act.put,sA,sZ,sS]))
   refine rd 4 rfl (fun K hK=> ?_)
   go_simp
   have hS:=TG U2 _ _ _ _ _ X (uh Hx)
   rw [(uh HR).2] at hS
   refine hS.mono ?_
   rintro e9 U3 ⟨z0,z1,z2,z3,z4,zq,rfl,ho,hb⟩
   have Hz:=Z9 ho.smy
   clear ho hS
   replace km:=bl km hb
   replace Hv:=Z9 ((uh Hv).below hb)
   replace Hx:=Z9 ((uh Hx).below hb)
   replace kx:=bl kx hb
   replace BB:=bt BB hb
   clear hb
   refine hK.out _ _ (uh kx).c6 (fun hHeld=> ?_)
   clear hK K
   (try simp only [Act.put,sA,sZ,sS])
   refine rd 6 rfl (fun K hK=> ?_)
   go_simp
   refine (TQ (uh Hz) (uh Hx)).mono ?_
   rintro e9 U4 ⟨rfl,hb⟩
   replace km:=bl km hb
   replace Hv:=Z9 ((uh Hv).below hb)
   replace Hx:=Z9 ((uh Hx).below hb)
   replace kx:=bl kx hb
   replace BB:=bt BB hb
   clear hb
   refine hK.out _ _ (uh kx).c6 (fun hHeld=> ?_)
   clear hK K
   (try simp only [Act.put,sA,sZ,sS])
   refine rd 7 rfl (fun K hK=> ?_)
   go_simp
   refine hK.out _ _ (uh kx).c6 (fun hHeld=> ?_)
   clear hK K
   (try simp only [Act.put,sA,sZ,sS])
   refine rd 8 rfl (fun K hK=> ?_)
   go_simp
   refine hK.out _ _ (uh kx).c6 (fun hHeld=> ?_)
   clear hK K
   (try simp only [Act.put,sA,sZ,sS])
   refine wpAnyH_done (by kernel_rfl) ?_ _
   clear hHeld
   go_wp2_with fail
   go_ret
   exact ⟨rfl,uh BB⟩
end Go.Proofs.YtnponpamjddpjaaGreat
