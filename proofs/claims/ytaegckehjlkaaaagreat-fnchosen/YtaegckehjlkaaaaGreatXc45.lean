/- Part 45 of what the proof rests on. No condition but those that a theorem names. -/
import Derived.Test.YtaegckehjlkaaaaGreatXc44
set_option maxHeartbeats 8000000
set_option maxRecDepth 100000
namespace Go.Proofs.YtaegckehjlkaaaaGreat
open Go.ChangeShapes Go.WideShapes Go.ChangeAt Go.RowKit Go.Sort
open Draw (Row MK Er row_later Gt Ds)
set_option linter.unusedVariables false
set_option linter.unusedSimpArgs false
set_option maxRecDepth 100000
theorem Rp {w:World} {v0 v1 v2 v3 v4:Value} {m:Z6} {k b:Nat} (hok:ZS m=true) (hw:Yg m (k:Int)=true) (hk:k<m.smiths.length) (hb0:b<m.desks.length) (h:Smy w v0 v1 v2 v3 v4 m):Calls Tryz.prog 44 #[.agg #[v0,v1,v2,v3,v4,.int .i64 m.now],.int .i64 (k:Int),.int .i64 (b:Int)] w fun e w'=>e= .returned (.int .i64 (YR m (k:Int) b))/\Below w.heap.size w w':=by
 have Hu:Hid (UM m (b:Int)=ZA m (b:Int) (-1)):=Z9 (by unfold UM Yq;rw [hok,Zq (by omega) (by omega)];rfl)
 have Hwn:Hid (YV m (k:Int)=ZI m (k:Int)):=Z9 (by unfold YV;rw [hok,hw];rfl)
 rw [<-F6 hk b]
 have hfo:OQ m k (b:Int)=if (Z8 m.smiths k).2.1=(b:Int)/\ZP (Z8 m.smiths k)=true then ZI m (k:Int) else 0:=rfl
 have hk1:(k:Int)<(m.smiths.length:Int):=by omega
 have hub:=Va m (b:Int) (-1)
 have hwb:=Wr m (k:Int)
 have hl:=RC hok
 have HF:=Z9 (fun (X:World) (v:Value) (h:IsRooms X v m.rooms)=>Tl (b:Int) h)
 clear hok hw
 generalize Zx m.rooms (b:Int)=fo at *
 generalize ZA m (b:Int) (-1)=us at *
 generalize OQ m k (b:Int)=ow at *
 generalize ZI m (k:Int)=wv at *
 obtain ⟨un,hun⟩:∃ x,us-ow=x:=⟨_,rfl⟩
 rw [hun]
 obtain ⟨a0,p0,a1,p1,a2,p2,a3,p3,a4,p4,rfl,rfl,rfl,rfl,rfl,K⟩:=Bx.new h
 clear h
 go_enter Tryz.func44,Tryz.ntmps44
 go_wp2_with fail
 generalize w.alloc (.cells #[.slice a0 m.rooms.length p0,.slice a1 m.guilds.length p1,.slice a2 m.smiths.length p2,.slice a3 m.desks.length p3,.slice a4 m.paces.length p4,.int .i64 m.now] 32)=W at *
 refine (Wl (uh Hu) K.smy).mono ?_
 rintro e w1 ⟨rfl,hb⟩
 replace K:=K.next hb
 clear hb Hu
 obtain ⟨_,_,hse,_,_,r2⟩:=K.smy.smiths
 cases hse
 rcases r2 with e0 | ⟨sb,off,rfl,hbw,hcl⟩
 ·rw [e0] at hk;simp at hk
 obtain ⟨d0,d1,d2,d3,d4,d5,d6,d7,d8,d9,d10⟩:=ZE hcl hk
 have c2:=K.blk.cell (i:=2) (v:= .slice (some ⟨sb,off,none⟩) m.smiths.length p2) rfl
 clear hcl
 generalize Z8 m.smiths k=ss at *
 obtain ⟨pr,hpr⟩:∃ x,ZP ss=x:=⟨_,rfl⟩
 obtain ⟨st,be,rk,my,gu,lo,hi,hd,ca,ut,wk⟩:=ss
 rw [hpr] at hfo
 have Hpr:=Z9 hpr
 clear hpr
 simp only at d0 d1 d2 d3 d4 d5 d6 d7 d8 d9 d10 hfo
 have hbw2:sb<w1.heap.size+1:=by omega
 have hsne:sb ≠ w1.heap.size:=Nat.ne_of_lt hbw
 go_upto_region 3 with fail
 obtain ⟨W2,hW,hb,ks⟩:=Zo w1 41 #[.int .i64 st,.int .i64 be,.int .i64 rk,.int .i64 my,.int .i64 gu,.int .i64 lo,.int .i64 hi,.int .i64 hd,.int .i64 ca,.int .i64 ut,.int .i64 wk]
 rw [hW]
 clear hW d0 d1 d2 d3 d4 d5 d6 d7 d8 d9 d10 c2
 replace K:=K.next hb
 clear hb
 obtain ⟨s0,s1,s2,s3,s4,s5,s6,s7,s8,s9,s10⟩:=(uh ks).c11
 go_wp2_with fail
 refine (FX (uh Hpr) _).mono ?_
 rintro e w3 ⟨rfl,hb⟩
 replace K:=K.next hb
 replace ks:=bl ks hb
 clear hb s0 s1 s2 s3 s4 s5 s6 s7 s8 s9 s10 Hpr
 have s1:=(uh ks).cell (i:=1) (v:= .int .i64 be) rfl
 have hkey:(pr=false/\us=un)\/(pr=true/\be ≠ (b:Int)/\us=un)\/(pr=true/\be=(b:Int)/\us-wv=un):=by
  cases pr
  ·left;rw [if_neg (by simp)] at hfo;exact ⟨rfl,by omega⟩
  ·right
   by_cases hbe:be=(b:Int)
   ·right;rw [if_pos ⟨hbe,rfl⟩] at hfo;exact ⟨rfl,hbe,by omega⟩
   ·left;rw [if_neg (fun h=>hbe h.1)] at hfo;exact ⟨rfl,hbe,by omega⟩
 clear hfo hun
 obtain ⟨c0,c1,c2,c3,c4,c5⟩:=K.cells
 rcases hkey with ⟨rfl,hu9⟩ | ⟨rfl,hbe,hu9⟩ | ⟨rfl,rfl,hu9⟩
 ·have Hu9:=Z9 hu9
  clear hu9
  go_wp2_with fail
  refine (uh HF _ _ K.smy.rooms).mono ?_
  rintro e w5 ⟨rfl,hb⟩
  replace K:=K.next hb
  clear hb c0 c1 c2 c3 c4 c5
  go_wp2_with fail
  refine (Calls.same_below' (WH _ fo _)).mono ?_
  rintro e w6 ⟨rfl,hb⟩
  replace K:=K.next hb
  clear hb
  go_wp2_with fail
  go_ret
  exact ⟨by rw [uh Hu9];rfl,K.bb⟩
 ·have Hu9:=Z9 hu9
  have hbb:(be ==(b:Int))=false:=by simpa using hbe
  clear hu9
  go_wp2_with fail
  refine (uh HF _ _ K.smy.rooms).mono ?_
  rintro e w5 ⟨rfl,hb⟩
  replace K:=K.next hb
  clear hb c0 c1 c2 c3 c4 c5
  go_wp2_with fail
  refine (Calls.same_below' (WH _ fo _)).mono ?_
  rintro e w6 ⟨rfl,hb⟩
  replace K:=K.next hb
  clear hb
  go_wp2_with fail
  go_ret
  exact ⟨by rw [uh Hu9];rfl,K.bb⟩
 ·have Hu9:=Z9 hu9
  clear hu9
  go_wp2_with fail
  refine (S0 (uh Hwn) K.smy).mono ?_
  rintro e w4 ⟨rfl,hb⟩
  replace K:=K.next hb
  clear hb c0 c1 c2 c3 c4 c5
  obtain ⟨c0,c1,c2,c3,c4,c5⟩:=K.cells
  go_wp2_with fail
  refine (uh HF _ _ K.smy.rooms).mono ?_
  rintro e w5 ⟨rfl,hb⟩
  replace K:=K.next hb
  clear hb c0 c1 c2 c3 c4 c5
  go_wp2_with fail
  refine (Calls.same_below' (WH _ fo _)).mono ?_
  rintro e w6 ⟨rfl,hb⟩
  replace K:=K.next hb
  clear hb
  go_wp2_with fail
  go_ret
  exact ⟨by rw [uh Hu9];rfl,K.bb⟩
theorem MG (a0:Option Addr) (len0 cap0:Nat) (z0:List Int) (w:World) (w0:MK .u8 w a0 len0 cap0 z0) :
  Calls Tryz.prog 5 #[.slice a0 len0 cap0] w fun e w'=>e= .returned (.bool true)/\Below w.heap.size w w':=by
 by_cases hbig:4096<len0
 ·go_enter Tryz.func5,Tryz.ntmps5
  go_wp2_with fail
  refine (Gt _ _ _ _ hbig).mono ?_
  rintro e w' ⟨rfl,rfl⟩
  go_wp2_with fail
  go_ret
  exact ⟨rfl,Below.refl _ _⟩
 have Hr:=Z9 (Er w0 (by omega))
 clear w0
 go_enter Tryz.func5,Tryz.ntmps5
 go_wp2_with fail
 refine (Ds _ _ _ _ (by omega)).mono ?_
 rintro e w' ⟨rfl,hw'⟩
 subst w'
 go_wp2_with fail
 refine (Oi _ _ _ _ (uh Hr)).mono ?_
 rintro e w1 ⟨M,u0,u1,u2,u3,u4,who,rq,rfl,hf,hb⟩
 obtain ⟨a0,p0,a1,p1,a2,p2,a3,p3,a4,p4,rfl,rfl,rfl,rfl,rfl,K1⟩:=Bx.put hf.smy (hb)
 replace Hr:=Z9 (row_later (uh Hr) hb)
 clear hb
 clear hf
 go_upto_region 4 with fail
 have hb:Below w1.heap.size w1 (w1.alloc (.cells #[.slice a0 M.rooms.length p0,.slice a1 M.guilds.length p1,.slice a2 M.smiths.length p2,.slice a3 M.desks.length p3,.slice a4 M.paces.length p4,.int .i64 M.now] 32)):=(Below.refl _ _).alloc (Nat.le_refl _) _
 replace Hr:=Z9 (row_later (uh Hr) hb)
 clear hb
 generalize w1.alloc (.cells #[.slice a0 M.rooms.length p0,.slice a1 M.guilds.length p1,.slice a2 M.smiths.length p2,.slice a3 M.desks.length p3,.slice a4 M.paces.length p4,.int .i64 M.now] 32)=W1 at *
 generalize w1.heap.size=mb at *
 obtain ⟨c,hc⟩:∃ x,Yk M who=x:=⟨_,rfl⟩
 have Hc:=Z9 hc
 clear hc
 obtain ⟨c0,c1,c2,c3,c4,c5⟩:=K1.cells
 go_wp2_with fail
 clear c0 c1 c2 c3 c4 c5
 refine (Ow (uh Hc) K1.smy).mono ?_
 rintro e w2 ⟨rfl,hb⟩
 replace K1:=K1.next hb
 replace Hr:=Z9 (row_later (uh Hr) hb)
 clear hb
 go_wp2_with fail
 refine (PD _ _ _ _ (uh Hr)).mono ?_
 rintro e w3 ⟨Q,u0,u1,u2,u3,u4,rq2,rfl,hf,hb⟩
 obtain ⟨d0,t0,d1,t1,d2,t2,d3,t3,d4,t4,rfl,rfl,rfl,rfl,rfl,K2⟩:=Bx.put hf.smy (K1.bb.trans (hb.mono K1.bb.size))
 replace K1:=K1.next hb
 replace Hr:=Z9 (row_later (uh Hr) hb)
 clear hb
 clear hf
 go_upto_region 6 with fail
 have hb:Below w3.heap.size w3 (w3.alloc (.cells #[.slice d0 Q.rooms.length t0,.slice d1 Q.guilds.length t1,.slice d2 Q.smiths.length t2,.slice d3 Q.desks.length t3,.slice d4 Q.paces.length t4,.int .i64 Q.now] 32)):=(Below.refl _ _).alloc (Nat.le_refl _) _
 replace K1:=K1.next hb
 replace Hr:=Z9 (row_later (uh Hr) hb)
 clear hb
 generalize w3.alloc (.cells #[.slice d0 Q.rooms.length t0,.slice d1 Q.guilds.length t1,.slice d2 Q.smiths.length t2,.slice d3 Q.desks.length t3,.slice d4 Q.paces.length t4,.int .i64 Q.now] 32)=W3 at *
 generalize w3.heap.size=rb at *
 clear Hr
 obtain ⟨fu,hfu⟩:∃ x,Yo Q=x:=⟨_,rfl⟩
 have Hfu:=Z9 hfu
 clear hfu
 obtain ⟨c0,c1,c2,c3,c4,c5⟩:=K2.cells
 go_wp2_with fail
 clear c0 c1 c2 c3 c4 c5
 refine (Te (uh Hfu) K2.smy).mono ?_
 rintro e w4 ⟨rfl,hb⟩
 replace K1:=K1.next hb
 replace K2:=K2.next hb
 clear hb
 obtain ⟨c0,c1,c2,c3,c4,c5⟩:=K1.cells
 go_wp2_with fail
 clear c0 c1 c2 c3 c4 c5
 refine (O6 (uh Hc) K1.smy).mono ?_
 rintro e w5 ⟨rfl,hb⟩
 replace K1:=K1.next hb
 replace K2:=K2.next hb
 clear hb
 obtain ⟨c0,c1,c2,c3,c4,c5⟩:=K2.cells
 go_wp2_with fail
 clear c0 c1 c2 c3 c4 c5
 refine (Tk (uh Hfu) K2.smy).mono ?_
 rintro e w6 ⟨rfl,hb⟩
 replace K1:=K1.next hb
 replace K2:=K2.next hb
 clear hb
 have hpp:(fu !=fu)=false:=bne_self_eq_false fu
 have HB:=Z9 (Below.refl w6.heap.size w6)
 go_upto_block 0 with fail
 go_cut [8] (fun s wc=>s= .bool fu/\Below w6.heap.size w6 wc)
 case first=>
  clear K1 Hc hpp
  obtain ⟨ok,hok⟩:∃ x,ZS Q=x:=⟨_,rfl⟩
  have Hok:=Z9 hok
  clear hok
  have HU:Hid (ok=true-> ∀ b:Nat,b<Q.desks.length->UM Q (b:Int)=ZA Q (b:Int) (-1)):=Z9 (fun e b hb=>by unfold UM Yq;rw [uh Hok,e,Zq (by omega) (by omega)];rfl)
  have HI:Hid (ok=true->XV Q=fu):=Z9 (fun e=>by rw [<-uh Hfu,Oe ((uh Hok).trans e)])
  have HO:Hid (ok=false->fu=false):=Z9 (fun e=>by rw [<-uh Hfu,Fc ((uh Hok).trans e)])
  have H8:Hid (ok=true->Q.desks.length<=8):=Z9 (fun e=>(ZZ ((uh Hok).trans e)).sane.eight)
  go_wp2_with fail
  go_loopw [8,9] (fun s i wr=> ∃ j:Nat,j<=Q.desks.length/\i= .int .i64 j/\s= .bool ((List.range j).any (Wa Q))/\(ok=false->j=0)/\Below w6.heap.size w6 wr) (fun _ i _=>Q.desks.length-(intOf i).toNat)
  case atStart=>exact ⟨0,Nat.zero_le _,rfl,rfl,fun _=>rfl,Below.refl _ _⟩
  case round=>
   obtain ⟨j,hj,rfl,rfl,hz,hb⟩:=hrel
   have K:=K2.next hb
   have HW:=Z9 hb
   have Hz:=Z9 hz
   clear hb hz
   obtain ⟨so,hso⟩:∃ x,(List.range j).any (Wa Q)=x:=⟨_,rfl⟩
   have HA:=Z9 (LV (p:=Wa Q) j)
   rw [hso] at HA ⊢
   have Hso:=Z9 hso
   clear hso
   obtain ⟨c0,c1,c2,c3,c4,c5⟩:=K.cells
   by_cases hlt:j<Q.desks.length
   rotate_left
   ·obtain rfl:j=Q.desks.length:=by omega
    have hfin:so=fu:=by
     cases ok
     ·have h0:=uh Hz rfl
      rw [<-uh Hso,h0,uh HO rfl]
      rfl
     ·rw [<-uh Hso]
      exact uh HI rfl
    subst hfin
    go_wp2_with fail
    go_meet
    exact ⟨rfl,uh HW⟩
   have hlt1:(j:Int)<(Q.desks.length:Int):=by omega
   go_wp2_with fail
   refine (Zd (uh Hok) K.smy).mono ?_
   rintro e w7 ⟨rfl,hb⟩
   replace K:=K.next hb
   replace HW:=Z9 ((uh HW).trans (hb.mono (uh HW).size))
   clear hb c0 c1 c2 c3 c4 c5
   cases ok
   ·have hfin:so=fu:=by
     have h0:=uh Hz rfl
     rw [<-uh Hso,h0,uh HO rfl]
     rfl
    subst hfin
    go_wp2_with fail
    go_meet
    exact ⟨rfl,uh HW⟩
   have h8:=uh H8 rfl
   have Hu:=Z9 (uh HU rfl j hlt)
   have hcr:Wa Q j=((Z8 Q.desks j).1 && WK (ZA Q (j:Int) (-1)) (Zx Q.rooms (j:Int))):=rfl
   rw [hcr] at HA
   clear hcr
   obtain ⟨_,_,hde,_,_,r3⟩:=K.smy.desks
   cases hde
   rcases r3 with e0 | ⟨db,off,rfl,hbw,hcl⟩
   ·rw [e0] at hlt;simp at hlt
   obtain ⟨e0,e1,e2⟩:=Zf hcl hlt
   clear hcl e1 e2
   have hfc:=Z9 (fun (X:World) (h:IsRooms X (.slice d0 Q.rooms.length t0) Q.rooms)=>Tl (j:Int) h)
   generalize Zx Q.rooms (j:Int)=fo at *
   generalize ZA Q (j:Int) (-1)=us at *
   generalize (Z8 Q.desks j).1=op at *
   obtain ⟨mu,hmu⟩:∃ x,WK us fo=x:=⟨_,rfl⟩
   have HM:=Z9 (fun X=>Calls.bool_of (Calls.same_below' (Tn us fo X)) hmu)
   rw [hmu] at HA
   clear hmu Hso
   obtain ⟨c0,c1,c2,c3,c4,c5⟩:=K.cells
   go_upto_region 13 with fail
   have k0:=cell_regrown c0
   have k1:=cell_regrown c1
   have k2:=cell_regrown c2
   have k3:=cell_regrown c3
   have k4:=cell_regrown c4
   have k5:=cell_regrown c5
   have k6:=cell_regrown e0
   cases so
   ·cases op
    ·refine wp_region_quiet_below (by kernel_rfl) (by kernel_rfl) ?_
     repeat (go_big_quiet_step (first | exact Calls.regrown_of (Wl (uh Hu) (K.smy.below (below_regrown _ _ _))) | exact Calls.regrown_of (uh hfc _ (K.smy.below (below_regrown _ _ _)).rooms) | exact Calls.regrown_of (uh HM _)))
     refine wpQuiet_nil ?_
     intro _ hw'
     obtain ⟨⟨dq,osq⟩,hw9⟩:=hw'
     subst hw9
     go_wp2_with fail
     go_roundw
     case rel=>exact ⟨j+1,by omega,by go_num,by rw [uh HA];rfl,(fun e=>by cases e),(uh HW).trans ((below_regrown _ _ _).mono (uh HW).size)⟩
     case measure=>simp [intOf];omega
    ·refine wp_region_quiet_below (by kernel_rfl) (by kernel_rfl) ?_
     repeat (go_big_quiet_step (first | exact Calls.regrown_of (Wl (uh Hu) (K.smy.below (below_regrown _ _ _))) | exact Calls.regrown_of (uh hfc _ (K.smy.below (below_regrown _ _ _)).rooms) | exact Calls.regrown_of (uh HM _)))
     refine wpQuiet_nil ?_
     intro _ hw'
     obtain ⟨⟨dq,osq⟩,hw9⟩:=hw'
     subst hw9
     go_wp2_with fail
     go_roundw
     case rel=>exact ⟨j+1,by omega,by go_num,by rw [uh HA];cases mu<;>rfl,(fun e=>by cases e),(uh HW).trans ((below_regrown _ _ _).mono (uh HW).size)⟩
     case measure=>simp [intOf];omega
   ·refine wp_region_quiet_below (by kernel_rfl) (by kernel_rfl) ?_
    repeat (go_big_quiet_step (first | exact Calls.regrown_of (Wl (uh Hu) (K.smy.below (below_regrown _ _ _))) | exact Calls.regrown_of (uh hfc _ (K.smy.below (below_regrown _ _ _)).rooms) | exact Calls.regrown_of (uh HM _)))
    refine wpQuiet_nil ?_
    intro _ hw'
    obtain ⟨⟨dq,osq⟩,hw9⟩:=hw'
    subst hw9
    go_wp2_with fail
    go_roundw
    case rel=>exact ⟨j+1,by omega,by go_num,by rw [uh HA];rfl,(fun e=>by cases e),(uh HW).trans ((below_regrown _ _ _).mono (uh HW).size)⟩
    case measure=>simp [intOf];omega
 case rest=>
  obtain ⟨rfl,hb⟩:=hcut
  obtain ⟨w7,rfl⟩:∃ x,x=wc:=⟨wc,rfl⟩
  clear HB K2 Hfu
  replace K1:=K1.next hb
  clear hb
  obtain ⟨wv,hwv⟩:∃ x,YV M who=x:=⟨_,rfl⟩
  have Hw:=Z9 hwv
  clear hwv
  obtain ⟨c0,c1,c2,c3,c4,c5⟩:=K1.cells
  go_wp2_with fail
  clear c0 c1 c2 c3 c4 c5
  refine (S0 (uh Hw) K1.smy).mono ?_
  rintro e w8 ⟨rfl,hb⟩
  replace K1:=K1.next hb
  clear hb
  clear hpp
  rcases Pk (uh Hw) with hneg | ⟨hw0,hok,hwh⟩
  ·subst hneg
   obtain rfl:c= -1:=by rw [<-uh Hc];exact JW (uh Hw)
   go_wp2_with fail
   go_ret
   exact ⟨rfl,K1.bb⟩
  obtain ⟨k,rfl,hk,hs⟩:=Yz hwh
  have hk1:(k:Int)<(M.smiths.length:Int):=by omega
  have hneg:¬ wv<0:=by omega
  have Hok:=Z9 hok
  have Hwh:=Z9 hwh
  clear hok hwh hs Hw
  have h8:=(ZZ (uh Hok)).sane.eight
  obtain ⟨fs,hfs⟩:∃ x,Zp M (k:Int)=x:=⟨_,rfl⟩
  have Hfs:=Z9 hfs
  have hfl:fs.length<=1000:=by rw [<-hfs];exact Gz M (k:Int)
  clear hfs
  obtain ⟨c0,c1,c2,c3,c4,c5⟩:=K1.cells
  go_wp2_with fail
  clear c0 c1 c2 c3 c4 c5
  refine (PS (uh Hfs) K1.smy).mono ?_
  rintro e w9 ⟨v9,rfl,hn,hb⟩
  obtain ⟨fa,fc,rfl⟩:=RecAt.shape hn
  have HF:=Z9 hn
  clear hn
  replace K1:=K1.next hb
  clear hb
  obtain ⟨own,hown⟩:∃ x,(Z8 M.smiths k).2.1=x:=⟨_,rfl⟩
  have Hown:=Z9 hown
  obtain ⟨_,_,hse,_,_,r2⟩:=K1.smy.smiths
  cases hse
  rcases r2 with e0 | ⟨sb,off,rfl,hbw,hcl⟩
  ·rw [e0] at hk;simp at hk
  obtain ⟨d0,d1,d2,d3,d4,d5,d6,d7,d8,d9,d10⟩:=ZE hcl hk
  have c2:=K1.blk.cell (i:=2) (v:= .slice (some ⟨sb,off,none⟩) M.smiths.length p2) rfl
  clear hcl
  rw [hown] at d1
  clear hown
  obtain ⟨ss,hss⟩:∃ x,Z8 M.smiths k=x:=⟨_,rfl⟩
  rw [hss] at d0 d2 d3 d4 d5 d6 d7 d8 d9 d10
  clear hss
  obtain ⟨st,be,rk,my,gu,lo,hi,hd,ca,ut,wk⟩:=ss
  simp only at d0 d2 d3 d4 d5 d6 d7 d8 d9 d10
  have hbw2:sb<w9.heap.size+1:=by omega
  have hsne:sb ≠ w9.heap.size:=Nat.ne_of_lt hbw
  go_upto_region 21 with fail
  obtain ⟨W,hW,hb,ks⟩:=Zo w9 41 #[.int .i64 st,.int .i64 own,.int .i64 rk,.int .i64 my,.int .i64 gu,.int .i64 lo,.int .i64 hi,.int .i64 hd,.int .i64 ca,.int .i64 ut,.int .i64 wk]
  rw [hW]
  clear hW d0 d1 d2 d3 d4 d5 d6 d7 d8 d9 d10 c2
  replace HF:=Z9 (RecAt.later (uh HF) hb)
  replace K1:=K1.next hb
  clear hb
  obtain ⟨cr,hcr⟩:∃ x,Yo M=x:=⟨_,rfl⟩
  have Hcr:=Z9 hcr
  clear hcr
  obtain ⟨c0,c1,c2,c3,c4,c5⟩:=K1.cells
  go_wp2_with fail
  clear c0 c1 c2 c3 c4 c5
  refine (Tk (uh Hcr) K1.smy).mono ?_
  rintro e w10 ⟨rfl,hb⟩
  replace ks:=bl ks hb
  replace HF:=Z9 (RecAt.later (uh HF) hb)
  replace K1:=K1.next hb
  clear hb
  by_cases hway:cr=false/\0<fs.length
  ·obtain ⟨rfl,hfp⟩:=hway
   have hfi:(0:Int)<(fs.length:Int):=by omega
   obtain ⟨hin,hcc,hall⟩:=DV (uh Hok) (uh Hwh) (uh Hcr) (uh Hfs) hfp (uh Hc)
   have Hin:=Z9 hin
   have Hcc:=Z9 hcc
   have Hall:=Z9 hall
   rw [uh Hown] at Hall
   clear hin hcc hall Hcr Hfs Hc
   obtain ⟨c0,c1,c2,c3,c4,c5⟩:=K1.cells
   generalize hle:ZX M (k:Int) c=le at *
   clear hle
   go_wp2_with fail
   refine (Um (uh Hcc) K1.smy).mono ?_
   rintro e w11 ⟨rfl,hb⟩
   replace HF:=Z9 (RecAt.later (uh HF) hb)
   replace K1:=K1.next hb
   replace ks:=bl ks hb
   clear hb c0 c1 c2 c3 c4 c5
   go_wp2_with fail
   go_loopw [14] (fun i wr=> ∃ j:Nat,j<=fs.length/\i= .int .i64 j/\Below w11.heap.size w11 wr) (fun i _=>fs.length-(intOf i).toNat)
   case atStart=>exact ⟨0,Nat.zero_le _,rfl,Below.refl _ _⟩
   case round=>
    obtain ⟨j,hj,rfl,hb⟩:=hrel
    have K:=K1.next hb
    have HG:=Z9 (RecAt.later (uh HF) hb)
    have kt:=bl ks hb
    have HW:=Z9 hb
    clear hb
    by_cases hlt:j<fs.length
    rotate_left
    ·obtain rfl:j=fs.length:=by omega
     go_wp2_with fail
     refine (Calls.bool_of (Calls.same_below' (Da c (NumsAt.ints (uh HG)))) (uh Hin)).mono ?_
     rintro e w12 ⟨rfl,hb⟩
     replace K:=K.next hb
     clear hb
     go_wp2_with fail
     go_ret
     exact ⟨rfl,K.bb⟩
    have hlt1:(j:Int)<(fs.length:Int):=by omega
    obtain ⟨hq,hle,heq⟩:=uh Hall j hlt
    obtain ⟨g,hga,_,hgw,hcl,_⟩:=RecAt.view YK (by omega) (uh HG) rfl (by omega)
    cases hga
    have z0:=hcl j hlt 0 _ rfl
    simp only [Nat.mul_one,Nat.add_zero] at z0
    clear hcl
    generalize Z8 fs j=x at *
    have Hq:=Z9 hq
    have Heq:=Z9 heq
    clear hq heq
    generalize ZX M (k:Int) x=cw at *
    obtain ⟨c0,c1,c2,c3,c4,c5⟩:=K.cells
    have k0:=cell_regrown c0
    have k1:=cell_regrown c1
    have k2:=cell_regrown c2
    have k3:=cell_regrown c3
    have k4:=cell_regrown c4
    have k5:=cell_regrown c5
    have k6:=cell_regrown z0
    go_upto_region 26 with fail
    refine wp_region_quiet_below (by kernel_rfl) (by kernel_rfl) ?_
    repeat (go_big_quiet_step (exact Calls.regrown_of (Um (uh Hq) (K.smy.below (below_regrown _ _ _)))))
    refine wpQuiet_nil ?_
    intro _ hw'
    obtain ⟨⟨dq,osq⟩,hw9⟩:=hw'
    subst hw9
    have hb:Below wr.heap.size wr (Go.Sort.grow (Go.redrawn wr dq) osq):=below_regrown wr dq osq
    generalize Go.Sort.grow (Go.redrawn wr dq) osq=wq at *
    replace z0:=(hb.cell (p:=⟨g,j,none⟩) hgw).trans z0
    replace kt:=bl kt hb
    replace HW:=Z9 ((uh HW).trans (hb.mono (uh HW).size))
    clear hb c0 c1 c2 c3 c4 c5 k0 k1 k2 k3 k4 k5 k6 K HG
    have s1:=(uh kt).cell (i:=1) (v:= .int .i64 own) rfl
    have k6:=cell_regrown z0
    have k7:=cell_regrown s1
    go_upto_region 27 with fail
    have hcase:(le<cw)\/(cw=le/\c=own/\x=own)\/(cw=le/\c=own/\x ≠ own/\x<c)\/(cw=le/\c=own/\x ≠ own/\ ¬ x<c)\/(cw=le/\c ≠ own/\x ≠ own/\ ¬ x<c):=by
     by_cases e1:cw=le
     ·right
      rcases uh Heq e1 with e2 | ⟨e2,e3⟩
      ·by_cases e4:x=own
       ·exact .inl ⟨e1,e2,e4⟩
       ·right
        by_cases e5:x<c
        ·exact .inl ⟨e1,e2,e4,e5⟩
        ·exact .inr (.inl ⟨e1,e2,e4,e5⟩)
      ·right
       by_cases e4:c=own
       ·exact .inr (.inl ⟨e1,e4,e2,by omega⟩)
       ·exact .inr (.inr ⟨e1,e4,e2,by omega⟩)
     ·left;omega
    clear Heq hle
    have Hle:Hid True:=Z9 trivial
    rcases hcase with h1 | ⟨rfl,rfl,rfl⟩ | ⟨rfl,rfl,h2,h3⟩ | ⟨rfl,rfl,h2,h3⟩ | ⟨rfl,h1,h2,h3⟩
    ·have f1:¬ cw<le:=by omega
     have f2:(cw ==le)=false:=beq_eq_false_iff_ne.mpr (by omega)
     have f3:decide (cw=le)=false:=decide_eq_false (by omega)
     have f4:decide (cw<le)=false:=decide_eq_false f1
     refine wp_region_quiet_below (by kernel_rfl) (by kernel_rfl) ?_
     repeat (go_big_quiet_step (fail))
     refine wpQuiet_nil ?_
     intro _ hw'
     obtain ⟨⟨dr,osr⟩,hw9⟩:=hw'
     subst hw9
     go_wp2_with fail
     go_roundw
     case rel=>exact ⟨j+1,by omega,by go_num,(uh HW).trans ((below_regrown _ _ _).mono (uh HW).size)⟩
     case measure=>simp [intOf];omega
    ·have f2:(cw ==cw)=true:=beq_self_eq_true cw
     have f5:(x ==x)=true:=beq_self_eq_true x
     have f6:(x !=x)=false:=bne_self_eq_false x
     have f7:¬ x<x:=by omega
     have f8:¬ cw<cw:=by omega
     refine wp_region_quiet_below (by kernel_rfl) (by kernel_rfl) ?_
     repeat (go_big_quiet_step (fail))
     refine wpQuiet_nil ?_
     intro _ hw'
     obtain ⟨⟨dr,osr⟩,hw9⟩:=hw'
     subst hw9
     go_wp2_with fail
     go_roundw
     case rel=>exact ⟨j+1,by omega,by go_num,(uh HW).trans ((below_regrown _ _ _).mono (uh HW).size)⟩
     case measure=>simp [intOf];omega
    ·have f2:(cw ==cw)=true:=beq_self_eq_true cw
     have f5:(x ==c)=false:=beq_eq_false_iff_ne.mpr h2
     have f9:decide (x=c)=false:=decide_eq_false h2
     have f6:(c !=c)=false:=bne_self_eq_false c
     have f8:¬ cw<cw:=by omega
     have f7:decide (x<c)=true:=decide_eq_true h3
     refine wp_region_quiet_below (by kernel_rfl) (by kernel_rfl) ?_
     repeat (go_big_quiet_step (fail))
     refine wpQuiet_nil ?_
     intro _ hw'
     obtain ⟨⟨dr,osr⟩,hw9⟩:=hw'
     subst hw9
     go_wp2_with fail
     go_roundw
     case rel=>exact ⟨j+1,by omega,by go_num,(uh HW).trans ((below_regrown _ _ _).mono (uh HW).size)⟩
     case measure=>simp [intOf];omega
    ·have f2:(cw ==cw)=true:=beq_self_eq_true cw
     have f5:(x ==c)=false:=beq_eq_false_iff_ne.mpr h2
     have f9:decide (x=c)=false:=decide_eq_false h2
     have f6:(c !=c)=false:=bne_self_eq_false c
     have f8:¬ cw<cw:=by omega
     have f7:decide (x<c)=false:=decide_eq_false h3
     refine wp_region_quiet_below (by kernel_rfl) (by kernel_rfl) ?_
     repeat (go_big_quiet_step (fail))
     refine wpQuiet_nil ?_
     intro _ hw'
     obtain ⟨⟨dr,osr⟩,hw9⟩:=hw'
     subst hw9
     go_wp2_with fail
     go_roundw
     case rel=>exact ⟨j+1,by omega,by go_num,(uh HW).trans ((below_regrown _ _ _).mono (uh HW).size)⟩
     case measure=>simp [intOf];omega
    ·have f2:(cw ==cw)=true:=beq_self_eq_true cw
     have f5:(x ==own)=false:=beq_eq_false_iff_ne.mpr h2
     have f9:decide (x=own)=false:=decide_eq_false h2
     have f8:¬ cw<cw:=by omega
     have f7:decide (x<c)=false:=decide_eq_false h3
     refine wp_region_quiet_below (by kernel_rfl) (by kernel_rfl) ?_
     repeat (go_big_quiet_step (fail))
     refine wpQuiet_nil ?_
     intro _ hw'
     obtain ⟨⟨dr,osr⟩,hw9⟩:=hw'
     subst hw9
     go_wp2_with fail
     go_roundw
     case rel=>exact ⟨j+1,by omega,by go_num,(uh HW).trans ((below_regrown _ _ _).mono (uh HW).size)⟩
     case measure=>simp [intOf];omega
  have hway2:cr=true\/fs.length=0:=by
   cases cr
   ·exact .inr (Nat.eq_zero_of_not_pos (fun h=>hway ⟨rfl,h⟩))
   ·exact .inl rfl
  have hmost:=DW (uh Hok) (uh Hwh) (uh Hfs) (by rw [uh Hcr];exact hway2) (uh Hc)
  have Hmost:=Z9 hmost
  have HMW:Hid (∀ b:Nat,b<M.desks.length->VJ M (k:Int) (b:Int)=Zw M (k:Int) b):=Z9 (fun b hb=>CL (uh Hok) (uh Hwh) hb)
  clear hway hmost Hcr Hfs Hc
  obtain ⟨an,han⟩:∃ x,(List.range M.desks.length).any (Zw M (k:Int))=x:=⟨_,rfl⟩
  rw [han] at Hmost
  have Han:=Z9 han
  clear han
  have HB:=Z9 (Below.refl w10.heap.size w10)
  have hcond:(cr=true)\/(cr=false/\fs=[]):=by
   rcases hway2 with rfl | h0
   ·exact .inl rfl
   ·cases cr
    ·exact .inr ⟨rfl,List.eq_nil_of_length_eq_zero h0⟩
    ·exact .inl rfl
  clear hway2 HF ks
  rcases hcond with rfl | ⟨rfl,rfl⟩
  all_goals
   go_upto_block 4 with fail
   go_cut [16] (fun s wc=>s= .bool an/\Below w10.heap.size w10 wc)
   case first=>
    go_wp2_with fail
    go_loopw [16,17] (fun s i wr=> ∃ j:Nat,j<=M.desks.length/\i= .int .i64 j/\s= .bool ((List.range j).any (Zw M (k:Int)))/\Below w10.heap.size w10 wr) (fun _ i _=>M.desks.length-(intOf i).toNat)
    case atStart=>exact ⟨0,Nat.zero_le _,rfl,rfl,Below.refl _ _⟩
    case round=>
     obtain ⟨j,hj,rfl,rfl,hb⟩:=hrel
     have K:=K1.next hb
     have HW:=Z9 hb
     clear hb
     obtain ⟨so,hso⟩:∃ x,(List.range j).any (Zw M (k:Int))=x:=⟨_,rfl⟩
     have HA:=Z9 (LV (p:=Zw M (k:Int)) j)
     rw [hso] at HA ⊢
     have Hso:=Z9 hso
     clear hso
     obtain ⟨c0,c1,c2,c3,c4,c5⟩:=K.cells
     by_cases hlt:j<M.desks.length
     rotate_left
     ·obtain rfl:j=M.desks.length:=by omega
      obtain rfl:so=an:=(uh Hso).symm.trans (uh Han)
      go_wp2_with fail
      go_meet
      exact ⟨rfl,uh HW⟩
     have hlt1:(j:Int)<(M.desks.length:Int):=by omega
     have Hq:=Z9 (uh HMW j hlt)
     generalize Zw M (k:Int) j=mw at *
     clear Hso
     cases so
     ·go_wp2_with fail
      refine (VA (uh Hq) K.smy).mono ?_
      rintro e w11 ⟨rfl,hb⟩
      replace HW:=Z9 ((uh HW).trans (hb.mono (uh HW).size))
      clear hb c0 c1 c2 c3 c4 c5
      go_wp2_with fail
      go_roundw
      case rel=>exact ⟨j+1,by omega,by go_num,by rw [uh HA];cases mw<;>rfl,uh HW⟩
      case measure=>simp [intOf];omega
     ·go_wp2_with fail
      go_roundw
      case rel=>exact ⟨j+1,by omega,by go_num,by rw [uh HA];rfl,uh HW⟩
      case measure=>simp [intOf];omega
   case rest=>
    obtain ⟨rfl,hb⟩:=hcut
    obtain ⟨w11,rfl⟩:∃ x,x=wc:=⟨wc,rfl⟩
    replace K1:=K1.next hb
    clear hb HB Han
    rcases uh Hmost with ⟨rfl,rfl⟩ | ⟨cn,rfl,hcn,hmay,rfl,hsp⟩
    ·go_wp2_with fail
     go_ret
     exact ⟨rfl,K1.bb⟩
    have Hsp:=Z9 hsp
    have Hmay:=Z9 hmay
    clear hsp hmay Hmost
    obtain ⟨c0,c1,c2,c3,c4,c5⟩:=K1.cells
    go_wp2_with fail
    refine (Rp (uh Hok) (uh Hwh) hk hcn K1.smy).mono ?_
    rintro e w12 ⟨rfl,hb⟩
    replace K1:=K1.next hb
    clear hb c0 c1 c2 c3 c4 c5
    generalize hmi:YR M (k:Int) cn=mi at *
    clear hmi
    go_wp2_with fail
    go_loopw [19] (fun i wr=> ∃ j:Nat,j<=M.desks.length/\i= .int .i64 j/\Below w12.heap.size w12 wr) (fun i _=>M.desks.length-(intOf i).toNat)
    case atStart=>exact ⟨0,Nat.zero_le _,rfl,Below.refl _ _⟩
    case round=>
     obtain ⟨j,hj,rfl,hb⟩:=hrel
     have K:=K1.next hb
     have HW:=Z9 hb
     clear hb
     obtain ⟨c0,c1,c2,c3,c4,c5⟩:=K.cells
     by_cases hlt:j<M.desks.length
     rotate_left
     ·obtain rfl:j=M.desks.length:=by omega
      have Hq:=Z9 ((uh HMW cn hcn).trans (uh Hmay))
      go_wp2_with fail
      refine (VA (uh Hq) K.smy).mono ?_
      rintro e w13 ⟨rfl,hb⟩
      replace K:=K.next hb
      clear hb c0 c1 c2 c3 c4 c5
      go_wp2_with fail
      go_ret
      exact ⟨rfl,K.bb⟩
     have hlt1:(j:Int)<(M.desks.length:Int):=by omega
     have Hq:=Z9 (uh HMW j hlt)
     have Hs2:=Z9 (uh Hsp j hlt)
     have HL:=Z9 (fun (X:World) (v0 v1 v2 v3 v4:Value) (h:Smy X v0 v1 v2 v3 v4 M)=>Rp (uh Hok) (uh Hwh) hk hlt h)
     generalize YR M (k:Int) j=sp at *
     generalize Zw M (k:Int) j=mw at *
     go_wp2_with fail
     refine (uh HL _ _ _ _ _ _ K.smy).mono ?_
     rintro e w13 ⟨rfl,hb⟩
     replace K:=K.next hb
     replace HW:=Z9 ((uh HW).trans (hb.mono (uh HW).size))
     clear hb c0 c1 c2 c3 c4 c5 HL
     obtain ⟨c0,c1,c2,c3,c4,c5⟩:=K.cells
     go_wp2_with fail
     refine (VA (uh Hq) K.smy).mono ?_
     rintro e w14 ⟨rfl,hb⟩
     replace HW:=Z9 ((uh HW).trans (hb.mono (uh HW).size))
     clear hb c0 c1 c2 c3 c4 c5
     have hres:mw=false\/(mw=true/\sp<mi)\/(mw=true/\sp=mi/\ ¬ (j:Int)<(cn:Int)):=by
      cases mw
      ·exact .inl rfl
      ·right
       obtain ⟨e1,e2⟩:=uh Hs2 rfl
       by_cases e3:sp=mi
       ·exact .inr ⟨rfl,e3,by have:=e2 e3;omega⟩
       ·exact .inl ⟨rfl,by omega⟩
     clear Hs2
     rcases hres with rfl | ⟨rfl,h1⟩ | ⟨rfl,rfl,h2⟩
     ·go_wp2_with fail
      go_roundw
      case rel=>exact ⟨j+1,by omega,by go_num,uh HW⟩
      case measure=>simp [intOf];omega
     ·have f1:¬ mi<sp:=by omega
      have f2:(sp ==mi)=false:=beq_eq_false_iff_ne.mpr (by omega)
      go_wp2_with fail
      go_roundw
      case rel=>exact ⟨j+1,by omega,by go_num,uh HW⟩
      case measure=>simp [intOf];omega
     ·have f1:¬ sp<sp:=by omega
      have f2:(sp ==sp)=true:=beq_self_eq_true sp
      go_wp2_with fail
      go_roundw
      case rel=>exact ⟨j+1,by omega,by go_num,uh HW⟩
      case measure=>simp [intOf];omega
end Go.Proofs.YtaegckehjlkaaaaGreat
