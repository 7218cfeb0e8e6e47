/- Part 43 of what the proof rests on. No condition but those that a theorem names. -/
import Derived.Test.YthbbahagpmdooaaGreatXq42
import Derived.Deep.RegionHeld
namespace Go.Proofs.YthbbahagpmdooaaGreat
open Go.ChangeShapes Go.WideShapes Go.ChangeAt Go.RowKit Go.Sort
open Draw (Row NR F9 row_later IP Fj)
set_option linter.unusedVariables false
set_option linter.unusedSimpArgs false
set_option maxRecDepth 100000
variable {w w' w0 w1 w2 w3 w₀ wr W W' X A B C : World} {m : Z4}
theorem SM {b:Int} (h:(ZO m && YZ m b)=false):Xl m b=[]/\Xt m b= -1:=by
 unfold Xl Xt
 rw [h]
 exact ⟨rfl,rfl⟩
theorem Kp {b:Nat} (h:ZO m=true) (hb:b<m.desks.length):Xl m (b:Int)=atV m.smiths (b:Int) m.smiths.length/\Xt m (b:Int)=W7 m (-1) (atV m.smiths (b:Int) m.smiths.length):=by
 unfold Xl Xt YZ
 rw [h,Zs (by omega) (by omega)]
 exact ⟨rfl,rfl⟩
theorem EP {ss:List Z3} {b:Int} {k:Nat} (h:(ZR (Z8 ss k) && (Z8 ss k).2.1 ==b)=true):(atV ss b (k+1)).length=(atV ss b k).length+1:=by
 simp only [Bool.and_eq_true,beq_iff_eq] at h
 rw [Ue h.2 h.1,Mt]
theorem EO {ss:List Z3} {b:Int} {k:Nat} (h:(ZR (Z8 ss k) && (Z8 ss k).2.1 ==b)=false):(atV ss b (k+1)).length=(atV ss b k).length:=by
 rw [Sz]
 rintro ⟨h1,h2⟩
 rw [h1,h2] at h
 simp at h
theorem Blk.put11 {R:Nat} {t:TypeId} {u0 u1 u2 u3 u4 u5 u6 u7 u8 u9 u10:Value} (v0 v1 v2 v3 v4 v5 v6 v7 v8 v9 v10:Value) (h:Blk w R t #[u0,u1,u2,u3,u4,u5,u6,u7,u8,u9,u10]):Blk (((((((((((w.setCell ⟨R,0,none⟩ v0).setCell ⟨R,1,none⟩ v1).setCell ⟨R,2,none⟩ v2).setCell ⟨R,3,none⟩ v3).setCell ⟨R,4,none⟩ v4).setCell ⟨R,5,none⟩ v5).setCell ⟨R,6,none⟩ v6).setCell ⟨R,7,none⟩ v7).setCell ⟨R,8,none⟩ v8).setCell ⟨R,9,none⟩ v9).setCell ⟨R,10,none⟩ v10) R t #[v0,v1,v2,v3,v4,v5,v6,v7,v8,v9,v10]:=by
 have h0:Blk _ R t #[v0,u1,u2,u3,u4,u5,u6,u7,u8,u9,u10]:=h.set 0 v0
 have h1:Blk _ R t #[v0,v1,u2,u3,u4,u5,u6,u7,u8,u9,u10]:=h0.set 1 v1
 have h2:Blk _ R t #[v0,v1,v2,u3,u4,u5,u6,u7,u8,u9,u10]:=h1.set 2 v2
 have h3:Blk _ R t #[v0,v1,v2,v3,u4,u5,u6,u7,u8,u9,u10]:=h2.set 3 v3
 have h4:Blk _ R t #[v0,v1,v2,v3,v4,u5,u6,u7,u8,u9,u10]:=h3.set 4 v4
 have h5:Blk _ R t #[v0,v1,v2,v3,v4,v5,u6,u7,u8,u9,u10]:=h4.set 5 v5
 have h6:Blk _ R t #[v0,v1,v2,v3,v4,v5,v6,u7,u8,u9,u10]:=h5.set 6 v6
 have h7:Blk _ R t #[v0,v1,v2,v3,v4,v5,v6,v7,u8,u9,u10]:=h6.set 7 v7
 have h8:Blk _ R t #[v0,v1,v2,v3,v4,v5,v6,v7,v8,u9,u10]:=h7.set 8 v8
 have h9:Blk _ R t #[v0,v1,v2,v3,v4,v5,v6,v7,v8,v9,u10]:=h8.set 9 v9
 exact h9.set 10 v10
theorem Below.put11 {n:Nat} {R:Nat} (v0 v1 v2 v3 v4 v5 v6 v7 v8 v9 v10:Value) (h:Below n w W) (hR:n<=R):Below n w (((((((((((W.setCell ⟨R,0,none⟩ v0).setCell ⟨R,1,none⟩ v1).setCell ⟨R,2,none⟩ v2).setCell ⟨R,3,none⟩ v3).setCell ⟨R,4,none⟩ v4).setCell ⟨R,5,none⟩ v5).setCell ⟨R,6,none⟩ v6).setCell ⟨R,7,none⟩ v7).setCell ⟨R,8,none⟩ v8).setCell ⟨R,9,none⟩ v9).setCell ⟨R,10,none⟩ v10):=by
 iterate 11 (refine Below.setCell ?_ hR _)
 exact h
theorem Ud {P:Program} {Q:Exit->Act->World->Prop} {id:Nat} {full:List Oper} {a:Act} {S:World->Prop} (hm:P.follows .mixedOrders=true) (hne:full ≠ []) (hok:TS .any full.dropLast.toArray (full.getLast hne)=true) (hS:S w.drew)
  (h:∀ X,X=w.drew->S X->wpAnyH P .any full.dropLast.toArray (Qe P full.toArray Q full.dropLast.length) S full.dropLast.length (Array.replicate full.dropLast.length false) a X):(Code.region id full.toArray true).wp P Q a w:=ZN hm hne hok hS (fun hs=>h _ rfl hs)
set_option maxHeartbeats 16000000 in
theorem MS (a0:Option Addr) (len0 cap0:Nat) (z0:List Int) (w:World) (w0:NR .u8 w a0 len0 cap0 z0) :
  Calls Tryz.prog 3 #[.slice a0 len0 cap0] w fun e w'=>e= .returned (.bool true)/\Below w.heap.size w w':=by
 by_cases hbig:4096<len0
 ·go_enter Tryz.func3,Tryz.ntmps3
  go_wp2_with fail
  refine (IP _ _ _ _ hbig).mono ?_
  rintro e w' ⟨rfl,rfl⟩
  go_wp2_with fail
  go_ret
  exact ⟨rfl,Below.refl _ _⟩
 have Hr:=Z9 (F9 w0 (by omega))
 clear w0
 go_enter Tryz.func3,Tryz.ntmps3
 go_wp2_with fail
 refine (Fj _ _ _ _ (by omega)).mono ?_
 rintro e w' ⟨rfl,hw'⟩
 subst w'
 go_wp2_with fail
 refine (JA _ _ _ _ (uh Hr)).mono ?_
 rintro e w1 ⟨M,u0,u1,u2,u3,u4,b,rq,rfl,hf,hb⟩
 obtain ⟨a0,p0,a1,p1,a2,p2,a3,p3,a4,p4,rfl,rfl,rfl,rfl,rfl,K1⟩:=Bx.put hf.smy (hb)
 replace Hr:=Z9 (row_later (uh Hr) hb)
 clear hb
 clear hf
 go_upto_region 4 with fail
 have hb:Below w1.heap.size w1 (w1.alloc (.cells #[.slice a0 M.rooms.length p0,.slice a1 M.guilds.length p1,.slice a2 M.smiths.length p2,.slice a3 M.desks.length p3,.slice a4 M.paces.length p4,.int .i64 M.now] 32)):=(Below.refl _ _).alloc (Nat.le_refl _) _
 replace Hr:=Z9 (row_later (uh Hr) hb)
 clear hb
 generalize w1.alloc (.cells #[.slice a0 M.rooms.length p0,.slice a1 M.guilds.length p1,.slice a2 M.smiths.length p2,.slice a3 M.desks.length p3,.slice a4 M.paces.length p4,.int .i64 M.now] 32)=W1 at *
 generalize w1.heap.size=mb at *
 obtain ⟨L,hL⟩:∃ x,Xl M b=x:=⟨_,rfl⟩
 have HI:=Z9 (JN W1 _ _ _ _ _ M b K1.smy)
 rw [hL] at HI
 have HLq:=Z9 hL
 clear hL
 obtain ⟨c0,c1,c2,c3,c4,c5⟩:=K1.cells
 go_wp2_with fail
 clear c0 c1 c2 c3 c4 c5
 refine (uh HI).mono ?_
 rintro e w2 ⟨v9,rfl,he,hb⟩
 obtain ⟨ea,ec,rfl⟩:=EntsAt.shape he
 have HE:=Z9 he
 clear he HI
 replace K1:=K1.next hb
 replace Hr:=Z9 (row_later (uh Hr) hb)
 clear hb
 obtain ⟨u,hu⟩:∃ x,Xt M b=x:=⟨_,rfl⟩
 have Hu:=Z9 hu
 clear hu
 obtain ⟨c0,c1,c2,c3,c4,c5⟩:=K1.cells
 go_wp2_with fail
 clear c0 c1 c2 c3 c4 c5
 refine (Pr (uh Hu) K1.smy).mono ?_
 rintro e w3 ⟨rfl,hb⟩
 replace HE:=Z9 ((uh HE).later hb)
 replace K1:=K1.next hb
 replace Hr:=Z9 (row_later (uh Hr) hb)
 clear hb
 go_wp2_with fail
 refine (Pg _ _ _ _ (uh Hr)).mono ?_
 rintro e w4 ⟨R,u0,u1,u2,u3,u4,who,rq2,rfl,hf,hb⟩
 obtain ⟨d0,t0,d1,t1,d2,t2,d3,t3,d4,t4,rfl,rfl,rfl,rfl,rfl,K2⟩:=Bx.put hf.smy (K1.bb.trans (hb.mono K1.bb.size))
 replace HE:=Z9 ((uh HE).later hb)
 replace K1:=K1.next hb
 replace Hr:=Z9 (row_later (uh Hr) hb)
 clear hb
 clear hf
 go_upto_region 7 with fail
 have hb:Below w4.heap.size w4 (w4.alloc (.cells #[.slice d0 R.rooms.length t0,.slice d1 R.guilds.length t1,.slice d2 R.smiths.length t2,.slice d3 R.desks.length t3,.slice d4 R.paces.length t4,.int .i64 R.now] 32)):=(Below.refl _ _).alloc (Nat.le_refl _) _
 replace HE:=Z9 ((uh HE).later hb)
 replace K1:=K1.next hb
 replace Hr:=Z9 (row_later (uh Hr) hb)
 clear hb
 generalize w4.alloc (.cells #[.slice d0 R.rooms.length t0,.slice d1 R.guilds.length t1,.slice d2 R.smiths.length t2,.slice d3 R.desks.length t3,.slice d4 R.paces.length t4,.int .i64 R.now] 32)=W4 at *
 generalize w4.heap.size=rb at *
 clear Hr
 obtain ⟨wv,hwv⟩:∃ x,XF R who=x:=⟨_,rfl⟩
 have Hw:=Z9 hwv
 clear hwv
 obtain ⟨c0,c1,c2,c3,c4,c5⟩:=K2.cells
 go_wp2_with fail
 clear c0 c1 c2 c3 c4 c5
 refine (Ps (uh Hw) K2.smy).mono ?_
 rintro e w5 ⟨rfl,hb⟩
 replace HE:=Z9 ((uh HE).later hb)
 replace K1:=K1.next hb
 replace K2:=K2.next hb
 clear hb
 obtain ⟨ok,hok⟩:∃ x,ZO M=x:=⟨_,rfl⟩
 have Hok:=Z9 hok
 clear hok
 have HB:=Z9 (Below.refl w5.heap.size w5)
 go_upto_region 8 with fail
 go_cut [65] (fun s wc=>s= .bool false/\Below w5.heap.size w5 wc)
 case first=>
  as_aux_lemma=>
   obtain ⟨c0,c1,c2,c3,c4,c5⟩:=K1.cells
   obtain ⟨x0,x1,x2,x3,x4,x5⟩:=K2.cells
   go_wp2_with fail
   refine wp_region_held_drew (S:=fun w'=>(w'.cell? ⟨mb,0,none⟩=some (.slice a0 M.rooms.length p0)/\w'.cell? ⟨mb,1,none⟩=some (.slice a1 M.guilds.length p1)/\w'.cell? ⟨mb,2,none⟩=some (.slice a2 M.smiths.length p2)/\w'.cell? ⟨mb,3,none⟩=some (.slice a3 M.desks.length p3)/\w'.cell? ⟨mb,4,none⟩=some (.slice a4 M.paces.length p4)/\w'.cell? ⟨mb,5,none⟩=some (.int .i64 M.now))/\w'.cell? ⟨rb,0,none⟩=some (.slice d0 R.rooms.length t0)/\w'.cell? ⟨rb,1,none⟩=some (.slice d1 R.guilds.length t1)/\w'.cell? ⟨rb,2,none⟩=some (.slice d2 R.smiths.length t2)/\w'.cell? ⟨rb,3,none⟩=some (.slice d3 R.desks.length t3)/\w'.cell? ⟨rb,4,none⟩=some (.slice d4 R.paces.length t4)/\w'.cell? ⟨rb,5,none⟩=some (.int .i64 R.now)) (by kernel_rfl) ⟨⟨c0,c1,c2,c3,c4,c5⟩,x0,x1,x2,x3,x4,x5⟩ (fun hHeld=> ?_)
   simp only [List.size_toArray,List.length_cons,List.length_nil,Nat.zero_add,Nat.reduceAdd]
   clear c0 c1 c2 c3 c4 c5 x0 x1 x2 x3 x4 x5
   (refine tk 0 rfl (by assumption) ?_;(try simp only [Act.put,sA,sZ,sS]))
   (refine tk 1 rfl (by assumption) ?_;(try simp only [Act.put,sA,sZ,sS]))
   (refine tk 2 rfl (by assumption) ?_;(try simp only [Act.put,sA,sZ,sS]))
   have hb:Below w5.heap.size w5 w5.drew:=(Below.refl _ _).drew
   replace HE:=Z9 ((uh HE).later hb)
   replace K1:=K1.next hb
   replace K2:=K2.next hb
   replace HB:=Z9 ((uh HB).trans (hb.mono (uh HB).size))
   clear hb
   refine rd 3 rfl (fun K hK=> ?_)
   go_simp
   have hS:=Ky b K1.smy
   rw [uh HLq] at hS
   refine hS.mono ?_
   rintro e9 w6 ⟨v9,rfl,hn,hb⟩
   obtain ⟨za,zc,rfl⟩:=EntsAt.shape hn
   have HZ:=Z9 hn
   clear hn hS
   replace HE:=Z9 ((uh HE).later hb)
   replace K1:=K1.next hb
   replace K2:=K2.next hb
   replace HB:=Z9 ((uh HB).trans (hb.mono (uh HB).size))
   clear hb
   refine hK.out _ _ ⟨K1.cells,K2.cells⟩ (fun hHeld=> ?_)
   clear hK K
   (try simp only [Act.put,sA,sZ,sS])
   refine rd 4 rfl (fun K hK=> ?_)
   go_simp
   refine (OI (uh HE).paces (uh HZ).paces).mono ?_
   rintro e9 w7 ⟨rfl,hb⟩
   clear HZ
   replace HE:=Z9 ((uh HE).later hb)
   replace K1:=K1.next hb
   replace K2:=K2.next hb
   replace HB:=Z9 ((uh HB).trans (hb.mono (uh HB).size))
   clear hb
   refine hK.out _ _ ⟨K1.cells,K2.cells⟩ (fun hHeld=> ?_)
   clear hK K
   (try simp only [Act.put,sA,sZ,sS])
   (refine tk 5 rfl (by assumption) ?_;(try simp only [Act.put,sA,sZ,sS]))
   (refine tk 6 rfl (by assumption) ?_;(try simp only [Act.put,sA,sZ,sS]))
   (refine tk 7 rfl (by assumption) ?_;(try simp only [Act.put,sA,sZ,sS]))
   (refine tk 8 rfl (by assumption) ?_;(try simp only [Act.put,sA,sZ,sS]))
   (refine tk 9 rfl (by assumption) ?_;(try simp only [Act.put,sA,sZ,sS]))
   refine rd 10 rfl (fun K hK=> ?_)
   go_simp
   refine (Qb (uh Hu) K1.smy).mono ?_
   rintro e9 w8 ⟨rfl,hb⟩
   replace HE:=Z9 ((uh HE).later hb)
   replace K1:=K1.next hb
   replace K2:=K2.next hb
   replace HB:=Z9 ((uh HB).trans (hb.mono (uh HB).size))
   clear hb
   refine hK.out _ _ ⟨K1.cells,K2.cells⟩ (fun hHeld=> ?_)
   clear hK K
   (try simp only [Act.put,sA,sZ,sS])
   (refine tk 11 rfl (by assumption) ?_;(try simp only [Act.put,sA,sZ,sS]))
   (refine tk 12 rfl (by assumption) ?_;(try simp only [Act.put,sA,sZ,sS]))
   (refine tk 13 rfl (by assumption) ?_;(try simp only [Act.put,sA,sZ,sS]))
   (refine tk 14 rfl (by assumption) ?_;(try simp only [Act.put,sA,sZ,sS]))
   (refine tk 15 rfl (by assumption) ?_;(try simp only [Act.put,sA,sZ,sS]))
   (refine tk 16 rfl (by assumption) ?_;(try simp only [Act.put,sA,sZ,sS]))
   refine rd 17 rfl (fun K hK=> ?_)
   go_simp
   refine (TO (uh Hw) K2.smy).mono ?_
   rintro e9 w9 ⟨rfl,hb⟩
   replace HE:=Z9 ((uh HE).later hb)
   replace K1:=K1.next hb
   replace K2:=K2.next hb
   replace HB:=Z9 ((uh HB).trans (hb.mono (uh HB).size))
   clear hb
   refine hK.out _ _ ⟨K1.cells,K2.cells⟩ (fun hHeld=> ?_)
   clear hK K
   (try simp only [Act.put,sA,sZ,sS])
   (refine tk 18 rfl (by assumption) ?_;(try simp only [Act.put,sA,sZ,sS]))
   (refine tk 19 rfl (by assumption) ?_;(try simp only [Act.put,sA,sZ,sS]))
   (refine tk 20 rfl (by assumption) ?_;(try simp only [Act.put,sA,sZ,sS]))
   (refine tk 21 rfl (by assumption) ?_;(try simp only [Act.put,sA,sZ,sS]))
   (refine tk 23 rfl (by assumption) ?_;(try simp only [Act.put,sA,sZ,sS]))
   refine rd 22 rfl (fun K hK=> ?_)
   go_simp
   refine (WG _ _ _ _ _ _ _ _ (uh Hok) K1.smy).mono ?_
   rintro e9 w10 ⟨rfl,hb⟩
   replace HE:=Z9 ((uh HE).later hb)
   replace K1:=K1.next hb
   replace K2:=K2.next hb
   replace HB:=Z9 ((uh HB).trans (hb.mono (uh HB).size))
   clear hb
   refine hK.out _ _ ⟨K1.cells,K2.cells⟩ (fun hHeld=> ?_)
   clear hK K
   (try simp only [Act.put,sA,sZ,sS])
   refine rd 24 rfl (fun K hK=> ?_)
   go_simp
   refine (Zi (uh Hok) K1.smy).mono ?_
   rintro e9 w11 ⟨rfl,hb⟩
   replace HE:=Z9 ((uh HE).later hb)
   replace K1:=K1.next hb
   replace K2:=K2.next hb
   replace HB:=Z9 ((uh HB).trans (hb.mono (uh HB).size))
   clear hb
   refine hK.out _ _ ⟨K1.cells,K2.cells⟩ (fun hHeld=> ?_)
   clear hK K
   (try simp only [Act.put,sA,sZ,sS])
   have hpp:(ok !=ok)=false:=bne_self_eq_false ok
   refine rd 25 rfl (fun K hK=> ?_)
   go_simp
   refine hK.out _ _ ⟨K1.cells,K2.cells⟩ (fun hHeld=> ?_)
   clear hK K
   (try simp only [Act.put,sA,sZ,sS])
   refine rd 26 rfl (fun K hK=> ?_)
   go_simp
   refine hK.out _ _ ⟨K1.cells,K2.cells⟩ (fun hHeld=> ?_)
   clear hK K
   (try simp only [Act.put,sA,sZ,sS])
   refine wpAnyH_done (by kernel_rfl) ?_ _
   clear hHeld hpp
   go_wp2_with fail
   go_meet
   exact ⟨by first | rfl | simp,uh HB⟩
 case rest=>
  obtain ⟨rfl,hb⟩:=hcut
  obtain ⟨w11,rfl⟩:∃ x,x=wc:=⟨wc,rfl⟩
  clear HB
  replace HE:=Z9 ((uh HE).later hb)
  replace K1:=K1.next hb
  replace K2:=K2.next hb
  clear hb
  have HB:=Z9 (Below.refl w11.heap.size w11)
  go_upto_if 67 with fail
  go_cut [] (fun wc=>Below w11.heap.size w11 wc)
  case first=>
   as_aux_lemma=>
    clear HE K1 Hu HLq Hok
    rcases Gy (uh Hw) with hneg | ⟨hw0,hokR,hwh⟩
    ·subst hneg
     go_wp2_with fail
     go_meet
     exact uh HB
    obtain ⟨k,rfl,hk,hs⟩:=X6 hwh
    have hq:wv=SX R.guilds (Z8 R.smiths k):=by rw [<-uh Hw];unfold XF;rw [hokR,hwh];rfl
    obtain ⟨hg1,hpair⟩:=(ZW hokR).wants.each k hk hs
    have hk1:(k:Int)<(R.smiths.length:Int):=by omega
    have Hg0:=Z9 K2.smy.guilds
    obtain ⟨_,_,hse,_,_,r2⟩:=K2.smy.smiths
    cases hse
    rcases r2 with e0 | ⟨sb,off,rfl,hbw,hcl⟩
    ·rw [e0] at hk;simp at hk
    obtain ⟨d0,d1,d2,d3,d4,d5,d6,d7,d8,d9,d10⟩:=ZI hcl hk
    have c2:=K2.blk.cell (i:=2) (v:= .slice (some ⟨sb,off,none⟩) R.smiths.length t2) rfl
    clear hcl hs hokR hwh Hw
    generalize Z8 R.smiths k=ss at *
    obtain ⟨st,be,rk,my,gu,lo,hi,hd,ca,ut,wk⟩:=ss
    simp only at d0 d1 d2 d3 d4 d5 d6 d7 d8 d9 d10 hg1 hpair
    obtain ⟨nr,hnr⟩:∃ nr,VX (bnd R.guilds gu) lo hi=nr:=⟨_,rfl⟩
    obtain ⟨b0,b1,b2⟩:=Fl R.guilds gu
    obtain ⟨n0,n1,n2⟩:=Nz (lo:=lo) (hi:=hi) b0 b1 b2
    have HW:Hid (Wm R.guilds gu lo hi=nr):=Z9 (by rw [<-hnr];exact Tj hg1 hpair)
    have hq2:wv=min (max ut nr.1) nr.2:=by rw [hq,<-hnr];rfl
    rw [hnr] at n0 n1 n2
    clear hpair hg1 hq hnr b0 b1 b2
    obtain ⟨nl,nh⟩:=nr
    simp only at n1 hq2
    have h1:¬ wv<nl:=by omega
    have h2:¬ nh<wv:=by omega
    have h3:nl<=ut->ut<=nh->wv=ut:=by omega
    have Hh3:=Z9 h3
    clear hq2 n0 n2 h3
    have hbw2:sb<w11.heap.size+1:=by omega
    have hsne:sb ≠ w11.heap.size:=Nat.ne_of_lt hbw
    go_upto_region 12 with fail
    obtain ⟨W,hW,hba,ks⟩:=ZD w11 41 #[.int .i64 st,.int .i64 be,.int .i64 rk,.int .i64 my,.int .i64 gu,.int .i64 lo,.int .i64 hi,.int .i64 hd,.int .i64 ca,.int .i64 ut,.int .i64 wk]
    rw [hW]
    clear hW d0 d1 d2 d3 d4 d5 d6 d7 d8 d9 d10 c2
    have K3:=K2.next hba
    replace HB:=bt HB hba
    replace Hg0:=Z9 ((uh Hg0).below hba)
    clear hba
    have c1:=K3.blk.cell (i:=1) (v:= .slice d1 R.guilds.length t1) rfl
    obtain ⟨s0,s1,s2,s3,s4,s5,s6,s7,s8,s9,s10⟩:=(uh ks).c11
    go_wp2_with fail
    refine (Qc gu lo hi (uh Hg0)).mono ?_
    rw [uh HW]
    rintro e w12 ⟨rfl,hb⟩
    replace ks:=bl ks hb
    replace HB:=bt HB hb
    clear hb c1 s0 s1 s2 s3 s4 s5 s6 s7 s8 s9 s10 K3 Hg0 HW
    have s9:=(uh ks).cell (i:=9) (v:= .int .i64 ut) rfl
    by_cases g1:nl<=ut
    ·by_cases g2:ut<=nh
     ·obtain rfl:wv=ut:=uh Hh3 g1 g2
      go_wp2_with fail
      go_meet
      exact uh HB
     ·go_wp2_with fail
      go_meet
      exact uh HB
    ·go_wp2_with fail
     go_meet
     exact uh HB
  case rest=>
   have hb:=hcut
   obtain ⟨w12,rfl⟩:∃ x,x=wc:=⟨wc,rfl⟩
   clear hcut HB K2 Hw
   replace HE:=Z9 ((uh HE).later hb)
   replace K1:=K1.next hb
   clear hb
   obtain ⟨c0,c1,c2,c3,c4,c5⟩:=K1.cells
   go_wp2_with fail
   clear c0 c1 c2 c3 c4 c5
   refine (Zi (uh Hok) K1.smy).mono ?_
   rintro e w13 ⟨rfl,hb⟩
   replace HE:=Z9 ((uh HE).later hb)
   replace K1:=K1.next hb
   clear hb
   cases ok
   ·obtain ⟨z1,z2⟩:=SM (m:=M) (b:=b) (by rw [uh Hok];rfl)
    obtain rfl:L=[]:=(uh HLq).symm.trans z1
    obtain rfl:u= -1:=(uh Hu).symm.trans z2
    clear z1 z2
    obtain ⟨c0,c1,c2,c3,c4,c5⟩:=K1.cells
    go_wp2_with fail
    go_ret
    exact ⟨by simp,K1.bb⟩
   by_cases hb0:b<0
   ·obtain ⟨z1,z2⟩:=SM (m:=M) (b:=b) (by unfold YZ;rw [VS (by omega)];simp)
    obtain rfl:L=[]:=(uh HLq).symm.trans z1
    obtain rfl:u= -1:=(uh Hu).symm.trans z2
    clear z1 z2
    obtain ⟨c0,c1,c2,c3,c4,c5⟩:=K1.cells
    go_wp2_with fail
    go_ret
    exact ⟨by simp,K1.bb⟩
   by_cases hb1:(M.desks.length:Int)<=b
   ·obtain ⟨z1,z2⟩:=SM (m:=M) (b:=b) (by unfold YZ;rw [VS (by omega)];simp)
    obtain rfl:L=[]:=(uh HLq).symm.trans z1
    obtain rfl:u= -1:=(uh Hu).symm.trans z2
    clear z1 z2
    obtain ⟨c0,c1,c2,c3,c4,c5⟩:=K1.cells
    go_wp2_with fail
    go_ret
    exact ⟨by simp,K1.bb⟩
   obtain ⟨bn,rfl⟩:=Int.eq_ofNat_of_zero_le (show 0<=b by omega)
   have hbn:bn<M.desks.length:=by omega
   obtain ⟨z1,z2⟩:=Kp (uh Hok) hbn
   rw [uh HLq] at z1
   rw [uh Hu,<-z1] at z2
   have HL:=Z9 z1
   have HU:=Z9 z2
   clear z1 z2 HLq Hu
   have HLo:=Z9 (ZW (uh Hok))
   have hl12:=PY (uh Hok)
   have hql:L.length<=M.smiths.length:=by rw [uh HL];exact U9 _ _ _
   have HM:=Z9 (fun e (he:e ∈ L)=>(Yk M.smiths (bn:Int) e M.smiths.length).1 (by rw [<-uh HL];exact he))
   have HQ:Hid (Yv L=true):=Z9 (by rw [uh HL];exact K8 (uh HLo) _ _ (Nat.le_refl _))
   have HWT:Hid (∀ i,i<M.smiths.length->(Z8 M.smiths i).1 ≠ 0->XF M (i:Int)=Zv M (i:Int)):=Z9 (fun i hi hne=>by
    unfold XF WT
    rw [uh Hok,Zs (by omega) (by omega),Int.toNat_natCast]
    simp [hne])
   obtain ⟨c0,c1,c2,c3,c4,c5⟩:=K1.cells
   have hb1d:decide (M.desks.length<=bn)=false:=decide_eq_false (by omega)
   have hb1e:decide ((M.desks.length:Int)<=(bn:Int))=false:=decide_eq_false (by omega)
   have hb1n:¬ M.desks.length<=bn:=by omega
   have hb0d:decide ((bn:Int)<0)=false:=decide_eq_false (by omega)
   go_upto_block 0 with fail
   clear hb0 hb1 hbn hb1d hb0d hb1e hb1n
   go_cut [13] (fun n wc=>n= .int .i64 u/\Below w13.heap.size w13 wc)
   case first=>
    go_wp2_with fail
    go_loopw [13,14] (fun n i wr=> ∃ k:Nat,k<=L.length/\i= .int .i64 k/\n= .int .i64 (W7 M (-1) (L.take k))/\Below w13.heap.size w13 wr) (fun _ i _=>L.length-(intOf i).toNat)
    case atStart=>exact ⟨0,Nat.zero_le _,rfl,rfl,Below.refl _ _⟩
    case round=>
     obtain ⟨k,hk,rfl,rfl,hb⟩:=hrel
     have K:=K1.next hb
     have HE2:=Z9 ((uh HE).later hb)
     have HW:=Z9 hb
     clear hb
     have hub:=Qg M (-1) (L.take k)
     have htl:(L.take k).length<=L.length:=by simp;omega
     by_cases hlt:k<L.length
     ·
      have hlt1:(k:Int)<(L.length:Int):=by omega
      obtain ⟨_,_,hpe,_,_,rp⟩:=(uh HE2).paces
      cases hpe
      rcases rp with e0 | ⟨pb,po,rfl,hbp,hcp⟩
      ·rw [e0] at hlt;simp at hlt
      obtain ⟨t0,t1⟩:=hcp k hlt
      obtain ⟨i,hi,hbe,hpi,he2⟩:=uh HM _ (XQ hlt)
      have HS2:Hid (W7 M (-1) (L.take (k+1))=W7 M (-1) (L.take k)+Zv M (i:Int)):=Z9 (by rw [Qh M (-1) hlt,he2,if_neg (by show (i:Int) ≠ -1;omega)])
      rw [he2] at t0 t1
      simp only at t0 t1
      have hi1:(i:Int)<(M.smiths.length:Int):=by omega
      obtain ⟨_,_,hse,_,_,r2⟩:=K.smy.smiths
      cases hse
      rcases r2 with e0 | ⟨sb,so,rfl,hbs,hcs⟩
      ·rw [e0] at hi;simp at hi
      obtain ⟨d0,d1,d2,d3,d4,d5,d6,d7,d8,d9,d10⟩:=ZI hcs hi
      have Hwq:=Z9 (uh HWT i hi (NB hpi))
      have hwb:=UX M (i:Int)
      have c2:=K.blk.cell (i:=2) (v:= .slice (some ⟨sb,so,none⟩) M.smiths.length p2) rfl
      clear hcp hcs c0 c1 c3 c4 c5
      generalize Zv M (i:Int)=wa at *
      generalize W7 M (-1) (L.take k)=us at *
      have hwr:IntKind.i64.wrap (us+wa)=us+wa:=by rw [IntKind.wrap_i64];omega
      generalize hss:Z8 M.smiths i=ss at *
      clear hss
      obtain ⟨st,be,rk,my,gu,lo,hi',hd,ca,ut,wk⟩:=ss
      simp only [Xo] at d0 d1 d2 d3 d4 d5 d6 d7 d8 d9 d10 hbe t0 he2
      subst hbe
      have He2:=Z9 he2
      clear he2
      have Hpi:=Z9 hpi
      clear hpi
      have hmb:=K.blk.lt
      go_upto_region 21 with fail
      go_cut [15] (fun s wc=> ∃ xb,s= .pointer (some ⟨xb,0,none⟩)/\Blk wc xb 41 #[.int .i64 st,.int .i64 (bn:Int),.int .i64 rk,.int .i64 my,.int .i64 gu,.int .i64 lo,.int .i64 hi',.int .i64 hd,.int .i64 ca,.int .i64 ut,.int .i64 wk]/\Below wr.heap.size wr wc)
      case first=>
       refine Ud (S:=fun w'=>w'.cell? ⟨mb,2,none⟩=some (.slice (some ⟨sb,so,none⟩) M.smiths.length p2)/\w'.cell? ⟨pb,po+k*2+1,none⟩=some (.int .i64 (i:Int))/\w'.cell? ⟨sb,so+i*11,none⟩=some (.int .i64 st)/\w'.cell? ⟨sb,so+i*11+1,none⟩=some (.int .i64 (bn:Int))/\w'.cell? ⟨sb,so+i*11+2,none⟩=some (.int .i64 rk)/\w'.cell? ⟨sb,so+i*11+3,none⟩=some (.int .i64 my)/\w'.cell? ⟨sb,so+i*11+4,none⟩=some (.int .i64 gu)/\w'.cell? ⟨sb,so+i*11+5,none⟩=some (.int .i64 lo)/\w'.cell? ⟨sb,so+i*11+6,none⟩=some (.int .i64 hi')/\w'.cell? ⟨sb,so+i*11+7,none⟩=some (.int .i64 hd)/\w'.cell? ⟨sb,so+i*11+8,none⟩=some (.int .i64 ca)/\w'.cell? ⟨sb,so+i*11+9,none⟩=some (.int .i64 ut)/\w'.cell? ⟨sb,so+i*11+10,none⟩=some (.int .i64 wk)) (by kernel_rfl) (List.cons_ne_nil _ _) (by kernel_rfl) ⟨c2,t1,d0,d1,d2,d3,d4,d5,d6,d7,d8,d9,d10⟩ (fun X0 hX0 hHeld=> ?_)
       simp only [List.dropLast_cons_cons,List.dropLast_singleton,List.length_cons,List.length_nil,Nat.zero_add,Nat.reduceAdd]
       clear c2 t1 d0 d1 d2 d3 d4 d5 d6 d7 d8 d9 d10
       (refine tk 0 rfl (by assumption) ?_;(try simp only [Act.put,sA,sZ,sS]))
       (refine tk 1 rfl (by assumption) ?_;(try simp only [Act.put,sA,sZ,sS]))
       (refine tk 2 rfl (by assumption) ?_;(try simp only [Act.put,sA,sZ,sS]))
       (refine tk 3 rfl (by assumption) ?_;(try simp only [Act.put,sA,sZ,sS]))
       (refine tk 4 rfl (by assumption) ?_;(try simp only [Act.put,sA,sZ,sS]))
       (refine tk 5 rfl (by assumption) ?_;(try simp only [Act.put,sA,sZ,sS]))
       (refine tk 6 rfl (by assumption) ?_;(try simp only [Act.put,sA,sZ,sS]))
       (refine tk 7 rfl (by assumption) ?_;(try simp only [Act.put,sA,sZ,sS]))
       (refine tk 8 rfl (by assumption) ?_;(try simp only [Act.put,sA,sZ,sS]))
       have hx3:wr.heap.size<=X0.heap.size:=by rw [hX0];exact Nat.le_refl _
       have HD:Hid (Below wr.heap.size wr X0):=Z9 (by rw [hX0];exact (Below.refl _ _).drew)
       clear hX0
       refine wpAnyH_ready (rs:=[9]) (by kernel_rfl) (by simp) ?_
       refine AllReadyH.cons rfl (fun K9 hK=> ?_) AllReadyH.nil
       go_simp
       have KS:Hid (Blk (X0.alloc (.cells #[.int .i64 0,.int .i64 0,.int .i64 0,.int .i64 0,.int .i64 0,.int .i64 0,.int .i64 0,.int .i64 0,.int .i64 0,.int .i64 0,.int .i64 0] 41)) X0.heap.size 41 #[.int .i64 0,.int .i64 0,.int .i64 0,.int .i64 0,.int .i64 0,.int .i64 0,.int .i64 0,.int .i64 0,.int .i64 0,.int .i64 0,.int .i64 0]):=Z9 (Blk.new _ _ _)
       have hba:Below X0.heap.size X0 (X0.alloc (.cells #[.int .i64 0,.int .i64 0,.int .i64 0,.int .i64 0,.int .i64 0,.int .i64 0,.int .i64 0,.int .i64 0,.int .i64 0,.int .i64 0,.int .i64 0] 41)):=(Below.refl _ _).alloc (Nat.le_refl _) _
       have hcell:∀ q:Addr,q.block<X0.heap.size->(X0.alloc (.cells #[.int .i64 0,.int .i64 0,.int .i64 0,.int .i64 0,.int .i64 0,.int .i64 0,.int .i64 0,.int .i64 0,.int .i64 0,.int .i64 0,.int .i64 0] 41)).cell? q=X0.cell? q:=fun q h=>hba.cell h
       obtain ⟨g2,g1,e0,e1,e2,e3,e4,e5,e6,e7,e8,e9,e10⟩:=hHeld
       replace HD:=Z9 ((uh HD).trans (hba.mono (uh HD).size))
       have hmb2:mb<X0.heap.size:=by omega
       have hbp2:pb<X0.heap.size:=by omega
       have hbs2:sb<X0.heap.size:=by omega
       refine hK.out _ _ ⟨(hcell _ hmb2).trans g2,(hcell _ hbp2).trans g1,(hcell _ hbs2).trans e0,(hcell _ hbs2).trans e1,(hcell _ hbs2).trans e2,(hcell _ hbs2).trans e3,(hcell _ hbs2).trans e4,(hcell _ hbs2).trans e5,(hcell _ hbs2).trans e6,(hcell _ hbs2).trans e7,(hcell _ hbs2).trans e8,(hcell _ hbs2).trans e9,(hcell _ hbs2).trans e10⟩ (fun hHeld=> ?_)
       clear hK K9 g1 g2 e0 e1 e2 e3 e4 e5 e6 e7 e8 e9 e10 hcell hba
       (try simp only [Act.put,sA,sZ,sS])
       generalize X0.alloc (.cells #[.int .i64 0,.int .i64 0,.int .i64 0,.int .i64 0,.int .i64 0,.int .i64 0,.int .i64 0,.int .i64 0,.int .i64 0,.int .i64 0,.int .i64 0] 41)=WX at *
       generalize X0.heap.size=xb at *
       refine wpAnyH_done (by kernel_rfl) ?_ _
       refine ZV rfl rfl ?_
       clear hHeld
       obtain ⟨o0,o1,o2,o3,o4,o5,o6,o7,o8,o9,o10⟩:=(uh KS).c11
       obtain ⟨f0,f1,f2,f3,f4,f5,f6,f7,f8,f9,f10⟩:=(uh KS).f11
       go_simp
       clear o0 o1 o2 o3 o4 o5 o6 o7 o8 o9 o10 f0 f1 f2 f3 f4 f5 f6 f7 f8 f9 f10
       go_wp2_with fail
       go_meet
       exact ⟨xb,rfl,(uh KS).put11 (.int .i64 st) (.int .i64 (bn:Int)) (.int .i64 rk) (.int .i64 my) (.int .i64 gu) (.int .i64 lo) (.int .i64 hi') (.int .i64 hd) (.int .i64 ca) (.int .i64 ut) (.int .i64 wk),Below.put11 (.int .i64 st) (.int .i64 (bn:Int)) (.int .i64 rk) (.int .i64 my) (.int .i64 gu) (.int .i64 lo) (.int .i64 hi') (.int .i64 hd) (.int .i64 ca) (.int .i64 ut) (.int .i64 wk) (uh HD) (show wr.heap.size<=xb by omega)⟩
      case rest=>
       obtain ⟨xb,rfl,hks,hb⟩:=hcut
       obtain ⟨WY,rfl⟩:∃ x,x=wc:=⟨wc,rfl⟩
       have KS:=Z9 hks
       have HE3:=Z9 ((uh HE2).later hb)
       have K4:=K.next hb
       have HW4:=Z9 ((uh HW).trans (hb.mono (uh HW).size))
       clear hb hks c2 t0 t1 d0 d1 d2 d3 d4 d5 d6 d7 d8 d9 d10 K HE2 HW
       obtain ⟨_,_,hpe,_,_,rp⟩:=(uh HE3).paces
       cases hpe
       rcases rp with e0 | ⟨_,_,hpe,_,hcp⟩
       ·rw [e0] at hlt;simp at hlt
       cases hpe
       obtain ⟨t0,t1⟩:=hcp k hlt
       rw [uh He2] at t0 t1
       simp only at t0 t1
       clear hcp
       obtain ⟨c0,c1,c2,c3,c4,c5⟩:=K4.cells
       have HB:=Z9 (Below.refl WY.heap.size WY)
       go_upto_region 22 with fail
       go_cut [13] (fun n wc=>n= .int .i64 (us+wa)/\Below WY.heap.size WY wc)
       case first=>
        refine Ud (S:=fun w'=>(w'.cell? ⟨mb,0,none⟩=some (.slice a0 M.rooms.length p0)/\w'.cell? ⟨mb,1,none⟩=some (.slice a1 M.guilds.length p1)/\w'.cell? ⟨mb,2,none⟩=some (.slice (some ⟨sb,so,none⟩) M.smiths.length p2)/\w'.cell? ⟨mb,3,none⟩=some (.slice a3 M.desks.length p3)/\w'.cell? ⟨mb,4,none⟩=some (.slice a4 M.paces.length p4)/\w'.cell? ⟨mb,5,none⟩=some (.int .i64 M.now))/\w'.cell? ⟨pb,po+k*2+1,none⟩=some (.int .i64 (i:Int))) (by kernel_rfl) (List.cons_ne_nil _ _) (by kernel_rfl) ⟨⟨c0,c1,c2,c3,c4,c5⟩,t1⟩ (fun X1 hX1 hHeld=> ?_)
        simp only [List.dropLast_cons_cons,List.dropLast_singleton,List.length_cons,List.length_nil,Nat.zero_add,Nat.reduceAdd]
        clear c0 c1 c2 c3 c4 c5 t0 t1
        (refine tk 0 rfl (by assumption) ?_;(try simp only [Act.put,sA,sZ,sS]))
        (refine tk 1 rfl (by assumption) ?_;(try simp only [Act.put,sA,sZ,sS]))
        (refine tk 2 rfl (by assumption) ?_;(try simp only [Act.put,sA,sZ,sS]))
        (refine tk 3 rfl (by assumption) ?_;(try simp only [Act.put,sA,sZ,sS]))
        (refine tk 4 rfl (by assumption) ?_;(try simp only [Act.put,sA,sZ,sS]))
        (refine tk 5 rfl (by assumption) ?_;(try simp only [Act.put,sA,sZ,sS]))
        (refine tk 6 rfl (by assumption) ?_;(try simp only [Act.put,sA,sZ,sS]))
        have hb:Below WY.heap.size WY X1:=by rw [hX1];exact (Below.refl _ _).drew
        replace K4:=K4.next hb
        replace HE3:=Z9 ((uh HE3).later hb)
        replace HB:=bt HB hb
        clear hb hX1
        refine wpAnyH_ready (rs:=[7]) (by kernel_rfl) (by simp) ?_
        refine AllReadyH.cons rfl (fun K9 hK=> ?_) AllReadyH.nil
        go_simp
        have t1x:=hHeld.2
        have hpx:pb<X1.heap.size:=by obtain ⟨_,_,hp9,_,_,rp9⟩:=(uh HE3).paces;cases hp9;exact rp9.elim (fun e0=>absurd hlt (by rw [e0];simp)) (fun ⟨_,_,hp8,hb9,_⟩=>by cases hp8;exact hb9)
        refine (TO (uh Hwq) K4.smy).mono ?_
        rintro e9 w14 ⟨rfl,hb⟩
        replace K4:=K4.next hb
        replace HB:=bt HB hb
        refine hK.out _ _ ⟨K4.cells,(hb.cell (p:=⟨pb,po+k*2+1,none⟩) hpx).trans t1x⟩ (fun hHeld=> ?_)
        clear hK K9 hb t1x hpx
        (try simp only [Act.put,sA,sZ,sS])
        (refine tk 8 rfl (by assumption) ?_;(try simp only [Act.put,sA,sZ,sS]))
        refine wpAnyH_done (by kernel_rfl) ?_ _
        refine ZV rfl rfl ?_
        go_simp
        clear hHeld
        go_wp2_with fail
        go_meet
        exact ⟨rfl,uh HB⟩
       case rest=>
        obtain ⟨rfl,hb⟩:=hcut
        obtain ⟨w14,rfl⟩:∃ x,x=wc:=⟨wc,rfl⟩
        replace KS:=bl KS hb
        replace HE3:=Z9 ((uh HE3).later hb)
        replace HW4:=Z9 ((uh HW4).trans (hb.mono (uh HW4).size))
        clear hb c0 c1 c2 c3 c4 c5 t0 t1 K4 HB
        obtain ⟨_,_,hpe,_,_,rp⟩:=(uh HE3).paces
        cases hpe
        rcases rp with e0 | ⟨_,_,hpe,hbp3,hcp⟩
        ·rw [e0] at hlt;simp at hlt
        cases hpe
        obtain ⟨t0,t1⟩:=hcp k hlt
        rw [uh He2] at t0 t1
        simp only at t0 t1
        clear hcp
        obtain ⟨s0,s1,s2,s3,s4,s5,s6,s7,s8,s9,s10⟩:=(uh KS).c11
        have HB:=Z9 (Below.refl w14.heap.size w14)
        go_upto_region 23 with fail
        go_cut [174] (fun s wc=>s= .bool false/\Below w14.heap.size w14 wc)
        case first=>
         have k0:=cell_regrown s0
         have k1:=cell_regrown s1
         have k2:=cell_regrown s2
         have k3:=cell_regrown s3
         have k4:=cell_regrown s4
         have k5:=cell_regrown s5
         have k6:=cell_regrown s6
         have k7:=cell_regrown s7
         have k8:=cell_regrown s8
         have k9:=cell_regrown s9
         have k10:=cell_regrown s10
         have kt:=cell_regrown t0
         have fb:((bn:Int) !=(bn:Int))=false:=bne_self_eq_false _
         have fh:(hd !=hd)=false:=bne_self_eq_false _
         refine wp_region_quiet_below (by kernel_rfl) (by kernel_rfl) ?_
         repeat (go_big_quiet_step (exact Calls.regrown_of (Of (uh Hpi) _)))
         refine wpQuiet_nil ?_
         intro _ hw'
         obtain ⟨⟨dq,osq⟩,hw9⟩:=hw'
         subst hw9
         go_wp2_with fail
         go_meet
         exact ⟨by first | rfl | simp,below_regrown _ _ _⟩
        case rest=>
         obtain ⟨rfl,hb⟩:=hcut
         replace HW4:=Z9 ((uh HW4).trans (hb.mono (uh HW4).size))
         clear hb s0 s1 s2 s3 s4 s5 s6 s7 s8 s9 s10 t0 t1
         go_wp2_with fail
         go_roundw
         case rel=>exact ⟨k+1,by omega,by go_num,by rw [uh HS2],uh HW4⟩
         case measure=>simp [intOf];omega
     ·
      obtain rfl:k=L.length:=by omega
      rw [List.take_length] at hub ⊢
      have hu2:=uh HU
      clear c0 c1 c2 c3 c4 c5 hlt hk htl
      go_wp2_with fail
      go_meet
      exact ⟨by rw [hu2],uh HW⟩
   case rest=>
    obtain ⟨rfl,hb⟩:=hcut
    obtain ⟨wo,rfl⟩:∃ x,x=wc:=⟨wc,rfl⟩
    clear HWT HM HU HLo c0 c1 c2 c3 c4 c5
    replace HE:=Z9 ((uh HE).later hb)
    replace K1:=K1.next hb
    clear hb
    go_wp2_with fail
    go_loopw [16,17] (fun c i wz=> ∃ j:Nat,j<=M.smiths.length/\i= .int .i64 j/\c= .int .i64 ((atV M.smiths (bn:Int) j).length:Int)/\Below wo.heap.size wo wz) (fun _ i _=>M.smiths.length-(intOf i).toNat)
    case atStart=>exact ⟨0,Nat.zero_le _,rfl,rfl,Below.refl _ _⟩
    case round=>
     obtain ⟨j,hj,rfl,rfl,hb⟩:=hrel
     have KZ:=K1.next hb
     have HZ:=Z9 hb
     have HEZ:=Z9 ((uh HE).later hb)
     clear hb
     have hcl2:=U9 M.smiths (bn:Int) j
     obtain ⟨c0,c1,c2,c3,c4,c5⟩:=KZ.cells
     by_cases hjl:j<M.smiths.length
     ·have hjl1:(j:Int)<(M.smiths.length:Int):=by omega
      have Hm:=Z9 (fun h=>EP (ss:=M.smiths) (b:=(bn:Int)) (k:=j) h)
      have Hl:=Z9 (fun h=>EO (ss:=M.smiths) (b:=(bn:Int)) (k:=j) h)
      obtain ⟨_,_,hse,_,_,r2⟩:=KZ.smy.smiths
      cases hse
      rcases r2 with e0 | ⟨sb,so,rfl,hbs,hcs⟩
      ·rw [e0] at hjl;simp at hjl
      obtain ⟨d0,d1,d2,d3,d4,d5,d6,d7,d8,d9,d10⟩:=ZI hcs hjl
      clear hcs
      generalize (atV M.smiths (bn:Int) j).length=cn at *
      generalize Z8 M.smiths j=ss at *
      obtain ⟨pr,hpr⟩:∃ x,ZR ss=x:=⟨_,rfl⟩
      obtain ⟨st,be,rk,my,gu,lo,hi',hd,ca,ut,wk⟩:=ss
      rw [hpr] at Hm Hl
      simp only at d0 d1 d2 d3 d4 d5 d6 d7 d8 d9 d10 Hm Hl
      have Hpr:=Z9 hpr
      clear hpr
      go_wp2_with fail
      refine (Of (uh Hpr) _).mono ?_
      rintro e w16 ⟨rfl,hb⟩
      have hbs2:=hbs
      replace KZ:=KZ.next hb
      replace HZ:=Z9 ((uh HZ).trans (hb.mono (uh HZ).size))
      have e1:w16.cell? ⟨sb,so+j*11+1,none⟩=some (.int .i64 be):=(hb.cell (p:=⟨sb,so+j*11+1,none⟩) hbs).trans d1
      clear hb c0 c1 c2 c3 c4 c5 d0 d1 d2 d3 d4 d5 d6 d7 d8 d9 d10
      cases pr
      ·go_wp2_with fail
       go_roundw
       case rel=>exact ⟨j+1,by omega,by go_num,by rw [uh Hl (by simp)],uh HZ⟩
       case measure=>simp [intOf];omega
      have c2:=KZ.blk.cell (i:=2) (v:= .slice (some ⟨sb,so,none⟩) M.smiths.length p2) rfl
      by_cases hbe:be=(bn:Int)
      ·subst hbe
       have hm:=uh Hm (by simp)
       have Hm2:=Z9 hm
       clear hm Hm Hl
       go_wp2_with fail
       go_roundw
       case rel=>exact ⟨j+1,by omega,by go_num,by rw [uh Hm2];simp,uh HZ⟩
       case measure=>simp [intOf];omega
      ·have hbb:(be ==(bn:Int))=false:=by simpa using hbe
       have hl:=uh Hl (by rw [hbb];rfl)
       have Hl2:=Z9 hl
       clear hl Hm Hl
       go_wp2_with fail
       go_roundw
       case rel=>exact ⟨j+1,by omega,by go_num,by rw [uh Hl2],uh HZ⟩
       case measure=>simp [intOf];omega
     ·obtain rfl:j=M.smiths.length:=by omega
      have hcn:(atV M.smiths (bn:Int) M.smiths.length).length=L.length:=by rw [<-uh HL]
      rw [hcn]
      clear hcn hcl2
      go_wp2_with fail
      refine (QG (uh HEZ).paces).mono ?_
      rw [uh HQ]
      rintro e w16 ⟨rfl,hb⟩
      replace KZ:=KZ.next hb
      clear hb
      go_wp2_with fail
      go_ret
      exact ⟨by simp,KZ.bb⟩
end Go.Proofs.YthbbahagpmdooaaGreat
