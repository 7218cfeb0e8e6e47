/- Part 2 of what the proof rests on besides. No condition but those that a theorem names. -/
import Derived.Test.YtaegckehjlkaaaaGreatXf01
namespace Go.Proofs.YtaegckehjlkaaaaGreat
open Go.ChangeShapes Go.WideShapes Go.ChangeAt Go.RowKit Go.Sort
open Draw (Row MK Er row_later Gt Ds)
set_option linter.unusedVariables false
set_option linter.unusedSimpArgs false
set_option maxRecDepth 100000
set_option maxHeartbeats 16000000 in
theorem Cs (a0:Option Addr) (len0 cap0:Nat) (z0:List Int) (w:World) (w0:MK .u8 w a0 len0 cap0 z0) :
  Calls Tryz.prog 4 #[.slice a0 len0 cap0] w fun e w'=>e= .returned (.bool true)/\Below w.heap.size w w':=by
 by_cases hbig:4096<len0
 ·go_enter Tryz.func4,Tryz.ntmps4
  go_wp2_with fail
  refine (Gt _ _ _ _ hbig).mono ?_
  rintro e w' ⟨rfl,rfl⟩
  go_wp2_with fail
  go_ret
  exact ⟨rfl,Below.refl _ _⟩
 have Hr:=Z9 (Er w0 (by omega))
 clear w0
 go_enter Tryz.func4,Tryz.ntmps4
 go_wp2_with fail
 refine (Ds _ _ _ _ (by omega)).mono ?_
 rintro e w' ⟨rfl,hw'⟩
 subst w'
 go_wp2_with fail
 refine (Ct _ _ _ _ (uh Hr)).mono ?_
 rintro e w1 ⟨M,u0,u1,u2,u3,u4,who,rq,rfl,hf,hb⟩
 obtain ⟨a0,p0,a1,p1,a2,p2,a3,p3,a4,p4,rfl,rfl,rfl,rfl,rfl,K1⟩:=Bx.put hf.smy (hb)
 replace Hr:=Z9 (row_later (uh Hr) hb)
 clear hb
 clear hf
 go_upto_region 4 with fail
 have hb:Below w1.heap.size w1 (w1.alloc (.cells #[.slice a0 M.rooms.length p0,.slice a1 M.guilds.length p1,.slice a2 M.smiths.length p2,.slice a3 M.desks.length p3,.slice a4 M.paces.length p4,.int .i64 M.now] 32)):=(Below.refl _ _).alloc (Nat.le_refl _) _
 replace Hr:=Z9 (row_later (uh Hr) hb)
 clear hb
 generalize w1.alloc (.cells #[.slice a0 M.rooms.length p0,.slice a1 M.guilds.length p1,.slice a2 M.smiths.length p2,.slice a3 M.desks.length p3,.slice a4 M.paces.length p4,.int .i64 M.now] 32)=W1 at *
 generalize w1.heap.size=mb at *
 obtain ⟨fs,hfs⟩:∃ x,Zp M who=x:=⟨_,rfl⟩
 have Hfs:=Z9 hfs
 clear hfs
 obtain ⟨c0,c1,c2,c3,c4,c5⟩:=K1.cells
 go_wp2_with fail
 clear c0 c1 c2 c3 c4 c5
 refine (PG (uh Hfs) K1.smy).mono ?_
 rintro e w2 ⟨v9,rfl,hn,hb⟩
 obtain ⟨fa,fc,rfl⟩:=RecAt.shape hn
 have HF:=Z9 hn
 clear hn
 replace K1:=K1.next hb
 replace Hr:=Z9 (row_later (uh Hr) hb)
 clear hb
 go_wp2_with fail
 refine (Cu _ _ _ _ (uh Hr)).mono ?_
 rintro e w3 ⟨Q,u0,u1,u2,u3,u4,qw,qb,rq2,rfl,hf,hb⟩
 obtain ⟨d0,t0,d1,t1,d2,t2,d3,t3,d4,t4,rfl,rfl,rfl,rfl,rfl,K2⟩:=Bx.put hf.smy (K1.bb.trans (hb.mono K1.bb.size))
 replace HF:=Z9 (RecAt.later (uh HF) hb)
 replace K1:=K1.next hb
 replace Hr:=Z9 (row_later (uh Hr) hb)
 clear hb
 clear hf
 go_upto_region 6 with fail
 have hb:Below w3.heap.size w3 (w3.alloc (.cells #[.slice d0 Q.rooms.length t0,.slice d1 Q.guilds.length t1,.slice d2 Q.smiths.length t2,.slice d3 Q.desks.length t3,.slice d4 Q.paces.length t4,.int .i64 Q.now] 32)):=(Below.refl _ _).alloc (Nat.le_refl _) _
 replace HF:=Z9 (RecAt.later (uh HF) hb)
 replace K1:=K1.next hb
 replace Hr:=Z9 (row_later (uh Hr) hb)
 clear hb
 generalize w3.alloc (.cells #[.slice d0 Q.rooms.length t0,.slice d1 Q.guilds.length t1,.slice d2 Q.smiths.length t2,.slice d3 Q.desks.length t3,.slice d4 Q.paces.length t4,.int .i64 Q.now] 32)=W3 at *
 generalize w3.heap.size=rb at *
 clear Hr
 obtain ⟨mq,hmq⟩:∃ x,VJ Q qw qb=x:=⟨_,rfl⟩
 have Hmq:=Z9 hmq
 clear hmq
 have HB:=Z9 (Below.refl W3.heap.size W3)
 go_upto_region 6 with fail
 go_cut [50] (fun s wc=>s= .bool false/\Below W3.heap.size W3 wc)
 case first=>
  obtain ⟨c0,c1,c2,c3,c4,c5⟩:=K1.cells
  obtain ⟨x0,x1,x2,x3,x4,x5⟩:=K2.cells
  go_wp2_with fail
  refine wp_region_held_drew (S:=fun w'=>(w'.cell? ⟨mb,0,none⟩=some (.slice a0 M.rooms.length p0)/\w'.cell? ⟨mb,1,none⟩=some (.slice a1 M.guilds.length p1)/\w'.cell? ⟨mb,2,none⟩=some (.slice a2 M.smiths.length p2)/\w'.cell? ⟨mb,3,none⟩=some (.slice a3 M.desks.length p3)/\w'.cell? ⟨mb,4,none⟩=some (.slice a4 M.paces.length p4)/\w'.cell? ⟨mb,5,none⟩=some (.int .i64 M.now))/\w'.cell? ⟨rb,0,none⟩=some (.slice d0 Q.rooms.length t0)/\w'.cell? ⟨rb,1,none⟩=some (.slice d1 Q.guilds.length t1)/\w'.cell? ⟨rb,2,none⟩=some (.slice d2 Q.smiths.length t2)/\w'.cell? ⟨rb,3,none⟩=some (.slice d3 Q.desks.length t3)/\w'.cell? ⟨rb,4,none⟩=some (.slice d4 Q.paces.length t4)/\w'.cell? ⟨rb,5,none⟩=some (.int .i64 Q.now)) (by kernel_rfl) ⟨⟨c0,c1,c2,c3,c4,c5⟩,x0,x1,x2,x3,x4,x5⟩ (fun hHeld=> ?_)
  simp only [List.size_toArray,List.length_cons,List.length_nil,Nat.zero_add,Nat.reduceAdd]
  clear c0 c1 c2 c3 c4 c5 x0 x1 x2 x3 x4 x5
  (refine tk 0 rfl (by assumption) ?_;(try simp only [Act.put,sA,sZ,sS]))
  (refine tk 1 rfl (by assumption) ?_;(try simp only [Act.put,sA,sZ,sS]))
  (refine tk 2 rfl (by assumption) ?_;(try simp only [Act.put,sA,sZ,sS]))
  have hb:Below W3.heap.size W3 W3.drew:=(Below.refl _ _).drew
  replace HF:=Z9 (RecAt.later (uh HF) hb)
  replace K1:=K1.next hb
  replace K2:=K2.next hb
  replace HB:=Z9 ((uh HB).trans (hb.mono (uh HB).size))
  clear hb
  refine rd 3 rfl (fun K hK=> ?_)
  go_simp
  refine (PS (uh Hfs) K1.smy).mono ?_
  rintro e9 w4 ⟨v9,rfl,hn,hb⟩
  obtain ⟨za,zc,rfl⟩:=RecAt.shape hn
  have HZ:=Z9 hn
  clear hn
  replace HF:=Z9 (RecAt.later (uh HF) hb)
  replace K1:=K1.next hb
  replace K2:=K2.next hb
  replace HB:=Z9 ((uh HB).trans (hb.mono (uh HB).size))
  clear hb
  refine hK.out _ _ ⟨K1.cells,K2.cells⟩ (fun hHeld=> ?_)
  clear hK K
  (try simp only [Act.put,sA,sZ,sS])
  refine rd 4 rfl (fun K hK=> ?_)
  go_simp
  refine (Cr (RecAt.recs YK (by omega) (uh HF)) (RecAt.recs YK (by omega) (uh HZ))).mono ?_
  rintro e9 w5 ⟨rfl,hb⟩
  clear HZ
  replace HF:=Z9 (RecAt.later (uh HF) hb)
  replace K1:=K1.next hb
  replace K2:=K2.next hb
  replace HB:=Z9 ((uh HB).trans (hb.mono (uh HB).size))
  clear hb
  refine hK.out _ _ ⟨K1.cells,K2.cells⟩ (fun hHeld=> ?_)
  clear hK K
  (try simp only [Act.put,sA,sZ,sS])
  (refine tk 5 rfl (by assumption) ?_;(try simp only [Act.put,sA,sZ,sS]))
  (refine tk 6 rfl (by assumption) ?_;(try simp only [Act.put,sA,sZ,sS]))
  (refine tk 7 rfl (by assumption) ?_;(try simp only [Act.put,sA,sZ,sS]))
  (refine tk 8 rfl (by assumption) ?_;(try simp only [Act.put,sA,sZ,sS]))
  (refine tk 9 rfl (by assumption) ?_;(try simp only [Act.put,sA,sZ,sS]))
  (refine tk 11 rfl (by assumption) ?_;(try simp only [Act.put,sA,sZ,sS]))
  (refine tk 12 rfl (by assumption) ?_;(try simp only [Act.put,sA,sZ,sS]))
  (refine tk 13 rfl (by assumption) ?_;(try simp only [Act.put,sA,sZ,sS]))
  refine rd 10 rfl (fun K hK=> ?_)
  go_simp
  refine (Rp (uh Hmq) K2.smy).mono ?_
  rintro e9 w6 ⟨rfl,hb⟩
  replace HF:=Z9 (RecAt.later (uh HF) hb)
  replace K1:=K1.next hb
  replace K2:=K2.next hb
  replace HB:=Z9 ((uh HB).trans (hb.mono (uh HB).size))
  clear hb
  refine hK.out _ _ ⟨K1.cells,K2.cells⟩ (fun hHeld=> ?_)
  clear hK K
  (try simp only [Act.put,sA,sZ,sS])
  refine rd 14 rfl (fun K hK=> ?_)
  go_simp
  refine (VA (uh Hmq) K2.smy).mono ?_
  rintro e9 w7 ⟨rfl,hb⟩
  replace HF:=Z9 (RecAt.later (uh HF) hb)
  replace K1:=K1.next hb
  replace K2:=K2.next hb
  replace HB:=Z9 ((uh HB).trans (hb.mono (uh HB).size))
  clear hb
  refine hK.out _ _ ⟨K1.cells,K2.cells⟩ (fun hHeld=> ?_)
  clear hK K
  (try simp only [Act.put,sA,sZ,sS])
  have hpp:(mq !=mq)=false:=bne_self_eq_false mq
  (refine tk 15 rfl (by assumption) ?_;(try simp only [Act.put,sA,sZ,sS]))
  (refine tk 16 rfl (by assumption) ?_;(try simp only [Act.put,sA,sZ,sS]))
  (refine tk 17 rfl (by assumption) ?_;(try simp only [Act.put,sA,sZ,sS]))
  (refine tk 18 rfl (by assumption) ?_;(try simp only [Act.put,sA,sZ,sS]))
  refine rd 19 rfl (fun K hK=> ?_)
  go_simp
  refine (Cq (NumsAt.ints (uh HF)) (Cp (zs:=fs) (by rw [<-uh Hfs];exact Cm M who))).mono ?_
  rintro e9 w8 ⟨rfl,hst⟩
  have hb:=hst.below w7.heap.size
  clear hst
  replace HF:=Z9 (RecAt.later (uh HF) hb)
  replace K1:=K1.next hb
  replace K2:=K2.next hb
  replace HB:=Z9 ((uh HB).trans (hb.mono (uh HB).size))
  clear hb
  refine hK.out _ _ ⟨K1.cells,K2.cells⟩ (fun hHeld=> ?_)
  clear hK K
  (try simp only [Act.put,sA,sZ,sS])
  refine rd 20 rfl (fun K hK=> ?_)
  go_simp
  refine hK.out _ _ ⟨K1.cells,K2.cells⟩ (fun hHeld=> ?_)
  clear hK K
  (try simp only [Act.put,sA,sZ,sS])
  refine rd 21 rfl (fun K hK=> ?_)
  go_simp
  refine hK.out _ _ ⟨K1.cells,K2.cells⟩ (fun hHeld=> ?_)
  clear hK K
  (try simp only [Act.put,sA,sZ,sS])
  refine wpAnyH_done (by kernel_rfl) ?_ _
  clear hHeld hpp
  go_wp2_with fail
  go_meet
  exact ⟨by first | rfl | simp,uh HB⟩
 case rest=>
  obtain ⟨rfl,hb⟩:=hcut
  obtain ⟨w8,rfl⟩:∃ x,x=wc:=⟨wc,rfl⟩
  clear HB K2 Hmq
  replace HF:=Z9 (RecAt.later (uh HF) hb)
  replace K1:=K1.next hb
  clear hb
  obtain ⟨wv,hwv⟩:∃ x,YV M who=x:=⟨_,rfl⟩
  have Hw:=Z9 hwv
  clear hwv
  obtain ⟨c0,c1,c2,c3,c4,c5⟩:=K1.cells
  go_wp2_with fail
  clear c0 c1 c2 c3 c4 c5
  refine (S0 (uh Hw) K1.smy).mono ?_
  rintro e w9 ⟨rfl,hb⟩
  replace HF:=Z9 (RecAt.later (uh HF) hb)
  replace K1:=K1.next hb
  clear hb
  rcases Pk (uh Hw) with hneg | ⟨hw0,hok,hwh⟩
  ·subst hneg
   obtain rfl:fs=[]:=by rw [<-uh Hfs];exact Co (uh Hw)
   go_wp2_with fail
   go_ret
   exact ⟨rfl,K1.bb⟩
  obtain ⟨k,rfl,hk,hs⟩:=Yz hwh
  have hk1:(k:Int)<(M.smiths.length:Int):=by omega
  have hneg:¬ wv<0:=by omega
  have hwq:wv=ZI M (k:Int):=by rw [<-uh Hw];unfold YV;rw [hok,hwh];rfl
  have HLo:=Z9 (ZZ hok)
  have h8:=(uh HLo).sane.eight
  have hl12:=RC hok
  have HT:Hid (∀ b:Nat,b<M.desks.length->decide ((b:Int) ∈ fs)=(VJ M (k:Int) (b:Int) && W6 wv (ZA M (b:Int) (-1)-OQ M k (b:Int)) (Zx M.rooms (b:Int)))):=Z9 (fun b hb=>by rw [<-uh Hfs,hwq];exact Cl hok hwh hk hb)
  have HU:Hid (∀ b:Nat,b<M.desks.length->UM M (b:Int)=ZA M (b:Int) (-1)):=Z9 (fun b hb=>by unfold UM Yq;rw [hok,Zq (by omega) (by omega)];rfl)
  have HO:Hid (∀ b:Int,OQ M k b=if (Z8 M.smiths k).2.1=b/\ZP (Z8 M.smiths k)=true then wv else 0):=Z9 (fun b=>by rw [hwq];rfl)
  have hwbd:=Wr M (k:Int)
  rw [<-hwq] at hwbd
  clear hwh hok hs Hw hwq Hfs HLo
  obtain ⟨c0,c1,c2,c3,c4,c5⟩:=K1.cells
  go_wp2_with fail
  clear c0 c1 c2 c3 c4 c5
  go_loopw [10] (fun i wr=> ∃ j:Nat,j<=M.desks.length/\i= .int .i64 j/\Below w9.heap.size w9 wr) (fun i _=>M.desks.length-(intOf i).toNat)
  case atStart=>exact ⟨0,Nat.zero_le _,rfl,Below.refl _ _⟩
  case round=>
   obtain ⟨j,hj,rfl,hb⟩:=hrel
   have K:=K1.next hb
   have HG:=Z9 (RecAt.later (uh HF) hb)
   have HW:=Z9 hb
   clear hb
   by_cases hlt:j<M.desks.length
   rotate_left
   ·obtain ⟨c0,c1,c2,c3,c4,c5⟩:=K.cells
    obtain rfl:j=M.desks.length:=by omega
    go_wp2_with fail
    go_ret
    exact ⟨rfl,K.bb⟩
   have hlt1:(j:Int)<(M.desks.length:Int):=by omega
   have Ht:=Z9 (uh HT j hlt)
   have Hu:=Z9 (uh HU j hlt)
   have hub:=Va M (j:Int) (-1)
   have hfo:=uh HO (j:Int)
   have hfc:=Z9 (fun (X:World) (h:IsRooms X (.slice a0 M.rooms.length p0) M.rooms)=>Tl (j:Int) h)
   obtain ⟨mw,hmw⟩:∃ x,VJ M (k:Int) (j:Int)=x:=⟨_,rfl⟩
   have Hmw:=Z9 hmw
   rw [hmw] at Ht
   generalize Zx M.rooms (j:Int)=fo at *
   generalize ZA M (j:Int) (-1)=us at *
   generalize OQ M k (j:Int)=ow at *
   obtain ⟨c0,c1,c2,c3,c4,c5⟩:=K.cells
   go_wp2_with fail
   refine (Wl (uh Hu) K.smy).mono ?_
   rintro e w10 ⟨rfl,hb⟩
   replace K:=K.next hb
   replace HG:=Z9 (RecAt.later (uh HG) hb)
   replace HW:=Z9 ((uh HW).trans (hb.mono (uh HW).size))
   clear hb c0 c1 c2 c3 c4 c5 Hu hmw
   obtain ⟨_,_,hse,_,_,r2⟩:=K.smy.smiths
   cases hse
   rcases r2 with e0 | ⟨sb,off,rfl,hbw,hcl⟩
   ·rw [e0] at hk;simp at hk
   obtain ⟨d0,d1,d2,d3,d4,d5,d6,d7,d8,d9,d10⟩:=ZE hcl hk
   have c2:=K.blk.cell (i:=2) (v:= .slice (some ⟨sb,off,none⟩) M.smiths.length p2) rfl
   clear hcl
   generalize Z8 M.smiths k=ss at *
   obtain ⟨pr,hpr⟩:∃ x,ZP ss=x:=⟨_,rfl⟩
   obtain ⟨st,be,rk,my,gu,lo,hi,hd,ca,ut,wk⟩:=ss
   rw [hpr] at hfo
   have Hpr:=Z9 hpr
   clear hpr
   simp only at d0 d1 d2 d3 d4 d5 d6 d7 d8 d9 d10 hfo
   have hbw2:sb<w10.heap.size+1:=by omega
   have hsne:sb ≠ w10.heap.size:=Nat.ne_of_lt hbw
   go_upto_region 16 with fail
   obtain ⟨W,hW,hb,ks⟩:=Zo w10 41 #[.int .i64 st,.int .i64 be,.int .i64 rk,.int .i64 my,.int .i64 gu,.int .i64 lo,.int .i64 hi,.int .i64 hd,.int .i64 ca,.int .i64 ut,.int .i64 wk]
   rw [hW]
   clear hW d0 d1 d2 d3 d4 d5 d6 d7 d8 d9 d10 c2
   replace K:=K.next hb
   replace HG:=Z9 (RecAt.later (uh HG) hb)
   replace HW:=Z9 ((uh HW).trans (hb.mono (uh HW).size))
   clear hb
   have HB:=Z9 (Below.refl W.heap.size W)
   go_cut [81] (fun c wc=>c= .bool (pr && decide (be=(j:Int)))/\Below W.heap.size W wc)
   case first=>
    obtain ⟨s0,s1,s2,s3,s4,s5,s6,s7,s8,s9,s10⟩:=(uh ks).c11
    go_wp2_with fail
    refine (FX (uh Hpr) _).mono ?_
    rintro e w11 ⟨rfl,hb⟩
    replace ks:=bl ks hb
    replace HB:=bt HB hb
    clear hb s0 s1 s2 s3 s4 s5 s6 s7 s8 s9 s10
    have s1:=(uh ks).cell (i:=1) (v:= .int .i64 be) rfl
    cases pr
    ·go_wp2_with fail
     go_meet
     exact ⟨rfl,uh HB⟩
    by_cases hbe:be=(j:Int)
    ·subst hbe
     go_wp2_with fail
     go_meet
     exact ⟨by simp,uh HB⟩
    ·have hbb:(be ==(j:Int))=false:=by simpa using hbe
     go_wp2_with fail
     go_meet
     exact ⟨by simp [hbe],uh HB⟩
   case rest=>
    obtain ⟨rfl,hb⟩:=hcut
    obtain ⟨w11,rfl⟩:∃ x,x=wc:=⟨wc,rfl⟩
    replace K:=K.next hb
    replace HG:=Z9 (RecAt.later (uh HG) hb)
    replace HW:=Z9 ((uh HW).trans (hb.mono (uh HW).size))
    clear hb HB ks Hpr
    obtain ⟨un,hun⟩:∃ x,us-ow=x:=⟨_,rfl⟩
    rw [hun] at Ht
    have hkey:((pr && decide (be=(j:Int)))=false/\us=un)\/((pr && decide (be=(j:Int)))=true/\us-wv=un):=by
     cases hcc:(pr && decide (be=(j:Int)))
     ·left
      rw [if_neg (by rintro ⟨e1,e2⟩;rw [e2,e1] at hcc;simp at hcc)] at hfo
      exact ⟨rfl,by omega⟩
     ·right
      rw [Bool.and_eq_true,decide_eq_true_iff] at hcc
      rw [if_pos ⟨hcc.2,hcc.1⟩] at hfo
      exact ⟨rfl,by omega⟩
    obtain ⟨hs,hhs⟩:∃ x,decide ((j:Int) ∈ fs)=x:=⟨_,rfl⟩
    rw [hhs] at Ht
    have HH:=Z9 (fun (X:World) (h:NumsAt W1.heap.size X (.slice fa fs.length fc) fs)=>Calls.bool_of (Calls.same_below' (Da (j:Int) (NumsAt.ints h))) hhs)
    obtain ⟨ft,hft⟩:∃ x,W6 wv un fo=x:=⟨_,rfl⟩
    have HT2:=Z9 (fun X=>Calls.bool_of (Calls.same_below' (U7 wv un fo X)) hft)
    rw [hft] at Ht
    have Hun:=Z9 hun
    clear hhs hft hun hfo
    generalize (pr && decide (be=(j:Int)))=bq at *
    obtain ⟨c0,c1,c2,c3,c4,c5⟩:=K.cells
    have k0:=cell_regrown c0
    have k1:=cell_regrown c1
    have k2:=cell_regrown c2
    have k3:=cell_regrown c3
    have k4:=cell_regrown c4
    have k5:=cell_regrown c5
    rcases hkey with ⟨rfl,hu9⟩ | ⟨rfl,hu9⟩
    all_goals
     have Hu9:=Z9 hu9
     clear hu9
     go_upto_region 18 with fail
     rw [uh Hu9]
     clear Hu9 Hun
     cases mw
     ·obtain rfl:hs=false:=uh Ht
      refine wp_region_quiet_below (by kernel_rfl) (by kernel_rfl) ?_
      repeat (go_big_quiet_step (first | exact Calls.regrown_of (uh HH _ (RecAt.later (uh HG) (below_regrown _ _ _))) | exact Calls.regrown_of (Rp (uh Hmw) (K.smy.below (below_regrown _ _ _))) | exact Calls.regrown_of (uh hfc _ (K.smy.below (below_regrown _ _ _)).rooms) | exact Calls.regrown_of (uh HT2 _)))
      refine wpQuiet_nil ?_
      intro _ hw'
      obtain ⟨⟨dq,osq⟩,hw9⟩:=hw'
      subst hw9
      go_wp2_with fail
      go_roundw
      case rel=>exact ⟨j+1,by omega,by go_num,(uh HW).trans ((below_regrown _ _ _).mono (uh HW).size)⟩
      case measure=>simp [intOf];omega
     ·obtain rfl:hs=ft:=uh Ht
      have hpp:(hs !=hs)=false:=bne_self_eq_false hs
      refine wp_region_quiet_below (by kernel_rfl) (by kernel_rfl) ?_
      repeat (go_big_quiet_step (first | exact Calls.regrown_of (uh HH _ (RecAt.later (uh HG) (below_regrown _ _ _))) | exact Calls.regrown_of (Rp (uh Hmw) (K.smy.below (below_regrown _ _ _))) | exact Calls.regrown_of (uh hfc _ (K.smy.below (below_regrown _ _ _)).rooms) | exact Calls.regrown_of (uh HT2 _)))
      refine wpQuiet_nil ?_
      intro _ hw'
      obtain ⟨⟨dq,osq⟩,hw9⟩:=hw'
      subst hw9
      go_wp2_with fail
      go_roundw
      case rel=>exact ⟨j+1,by omega,by go_num,(uh HW).trans ((below_regrown _ _ _).mono (uh HW).size)⟩
      case measure=>simp [intOf];omega
end Go.Proofs.YtaegckehjlkaaaaGreat
