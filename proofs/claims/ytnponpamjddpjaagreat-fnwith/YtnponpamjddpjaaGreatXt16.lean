/- Part 16 of what the proof rests on. No condition but those that a theorem names. -/
import Derived.Test.YtnponpamjddpjaaGreatXt15
import Derived.Deep.LoopGhost
set_option maxHeartbeats 8000000
set_option maxRecDepth 100000
namespace Go.Proofs.YtnponpamjddpjaaGreat
open Go.ChangeShapes Go.WideShapes Go.ChangeAt Go.RowKit Go.Sort
set_option linter.unusedVariables false
variable {w w' w0 w1 w2 w3 w₀ wr W W' X A B C : World} {v v0 v1 v2 v3 v4 u u0 u1 u2 u3 u4 : Value} {m : Z3}
theorem Ti  (b:Int) (h:Smy w v0 v1 v2 v3 v4 m) (hl:m.smiths.length<=800) :
  Calls Tryz.prog 65 #[.agg #[v0,v1,v2,v3,v4,.int .i64 m.now],.int .i64 b] w fun e w'=> ∃ v',e= .returned v'/\EntsAt w.heap.size w' v' (atV m.smiths b m.smiths.length)/\Below w.heap.size w w':=by
 obtain ⟨h0,h1,h2,h3,h4⟩:=h
 obtain ⟨a0,p0,rfl,hc0,hm0,_⟩:=h0
 obtain ⟨a1,p1,rfl,hc1,hm1,_⟩:=h1
 obtain ⟨a2,p2,rfl,hc2,hm2,r2⟩:=h2
 obtain ⟨a3,p3,rfl,hc3,hm3,_⟩:=h3
 obtain ⟨a4,p4,rfl,hc4,hm4,_⟩:=h4
 have R2:=Z9 r2
 clear r2
 have kb0:Hid (Blk ((w.alloc (.cells #[.slice a0 m.rooms.length p0,.slice a1 m.guilds.length p1,.slice a2 m.smiths.length p2,.slice a3 m.desks.length p3,.slice a4 m.paces.length p4,.int .i64 m.now] 32)).alloc (.cells #[] 45)) w.heap.size 32 #[.slice a0 m.rooms.length p0,.slice a1 m.guilds.length p1,.slice a2 m.smiths.length p2,.slice a3 m.desks.length p3,.slice a4 m.paces.length p4,.int .i64 m.now]):=Z9 ((Blk.new w _ _).alloc _)
 have BB0:Hid (Below w.heap.size w ((w.alloc (.cells #[.slice a0 m.rooms.length p0,.slice a1 m.guilds.length p1,.slice a2 m.smiths.length p2,.slice a3 m.desks.length p3,.slice a4 m.paces.length p4,.int .i64 m.now] 32)).alloc (.cells #[] 45))):=Z9 (((Below.refl _ _).alloc (Nat.le_refl _) _).alloc (by simp) _)
 have E0:Hid (EntsAt w.heap.size ((w.alloc (.cells #[.slice a0 m.rooms.length p0,.slice a1 m.guilds.length p1,.slice a2 m.smiths.length p2,.slice a3 m.desks.length p3,.slice a4 m.paces.length p4,.int .i64 m.now] 32)).alloc (.cells #[] 45)) (.slice (some ⟨w.heap.size+1,0,none⟩) 0 0) []):=Z9 (Ww (by simp) (by omega))
 go_enter Tryz.func65,Tryz.ntmps65
 go_wp2_with fail
 go_loopw [5,6] (fun q i wr=> ∃ k:Nat,k<=m.smiths.length/\i= .int .i64 k/\EntsAt w.heap.size wr q (atV m.smiths b k)/\Blk wr w.heap.size 32 #[.slice a0 m.rooms.length p0,.slice a1 m.guilds.length p1,.slice a2 m.smiths.length p2,.slice a3 m.desks.length p3,.slice a4 m.paces.length p4,.int .i64 m.now]/\Below w.heap.size w wr) (fun _ i _=>m.smiths.length-(intOf i).toNat)
 case atStart=>exact ⟨0,Nat.zero_le _,rfl,uh E0,uh kb0,uh BB0⟩
 case round=>
  obtain ⟨k,hk,rfl,he,kb1,hb1⟩:=hrel
  obtain ⟨qa,qcap,rfl⟩:=EntsAt.shape he
  have kb:=Z9 kb1
  have BB:=Z9 hb1
  have He:=Z9 he
  clear kb1 hb1 he kb0 BB0 E0
  have hal:=Uh m.smiths b k
  have c2:=(uh kb).cell (i:=2) (v:= .slice a2 m.smiths.length p2) rfl
  by_cases hls:k<m.smiths.length
  ·rcases uh R2 with e0 | ⟨sb,off,rfl,hbw,hcl⟩
   ·rw [e0] at hls;simp at hls
   obtain ⟨d0,d1,d2,d3,d4,d5,d6,d7,d8,d9,d10⟩:=ZD hcl hls
   rw [<-(uh BB).cell (p:=⟨sb,off+k*11,none⟩) hbw] at d0
   rw [<-(uh BB).cell (p:=⟨sb,off+k*11+1,none⟩) hbw] at d1
   rw [<-(uh BB).cell (p:=⟨sb,off+k*11+2,none⟩) hbw] at d2
   rw [<-(uh BB).cell (p:=⟨sb,off+k*11+3,none⟩) hbw] at d3
   rw [<-(uh BB).cell (p:=⟨sb,off+k*11+4,none⟩) hbw] at d4
   rw [<-(uh BB).cell (p:=⟨sb,off+k*11+5,none⟩) hbw] at d5
   rw [<-(uh BB).cell (p:=⟨sb,off+k*11+6,none⟩) hbw] at d6
   rw [<-(uh BB).cell (p:=⟨sb,off+k*11+7,none⟩) hbw] at d7
   rw [<-(uh BB).cell (p:=⟨sb,off+k*11+8,none⟩) hbw] at d8
   rw [<-(uh BB).cell (p:=⟨sb,off+k*11+9,none⟩) hbw] at d9
   rw [<-(uh BB).cell (p:=⟨sb,off+k*11+10,none⟩) hbw] at d10
   clear hcl
   have S1:=Z9 (fun hs=>O5 (ss:=m.smiths) (b:=b) (k:=k) hs)
   have S2:=Z9 (fun h1 h2=>Sb (ss:=m.smiths) (b:=b) (k:=k) h1 h2)
   generalize Z8 m.smiths k=ss at *
   obtain ⟨st,be,rk,my,gu,lo,hi,hd,ca,ut,wk⟩:=ss
   simp only at d0 d1 d2 d3 d4 d5 d6 d7 d8 d9 d10
   have hl0:w.heap.size<wr.heap.size:=(uh kb).lt
   by_cases hbe:be=b
   rotate_left
   ·have hbn:(be ==b)=false:=by simpa using hbe
    go_wp2_with fail
    go_roundw
    case rel=>exact ⟨k+1,by omega,by go_num,by rw [uh S1 (fun h9=>hbe h9.1)];exact EntsAt.later (uh He) ((Below.refl _ _).alloc (Nat.le_refl _) _),(uh kb).alloc _,(uh BB).alloc (uh BB).size _⟩
    case measure=>simp [intOf];omega
   subst hbe
   have hbn:(be ==be)=true:=by simp
   obtain ⟨ps,hps⟩:∃ q,ZT (st,be,rk,my,gu,lo,hi,hd,ca,ut,wk)=q:=⟨_,rfl⟩
   have Hps:=Z9 hps
   clear hps
   go_wp2_with fail
   clear c2 d0 d1 d2 d3 d4 d5 d6 d7 d8 d9 d10
   refine (YX (uh Hps) _).mono ?_
   rintro e w2 ⟨rfl,hb⟩
   have ks:Hid (Blk w2 wr.heap.size 41 #[.int .i64 st,.int .i64 be,.int .i64 rk,.int .i64 my,.int .i64 gu,.int .i64 lo,.int .i64 hi,.int .i64 hd,.int .i64 ca,.int .i64 ut,.int .i64 wk]):=Z9 ((Blk.new wr _ _).below hb (by simp))
   replace kb:=Z9 (((uh kb).alloc (.cells #[.int .i64 st,.int .i64 be,.int .i64 rk,.int .i64 my,.int .i64 gu,.int .i64 lo,.int .i64 hi,.int .i64 hd,.int .i64 ca,.int .i64 ut,.int .i64 wk] 41)).below hb (by simp;omega))
   have hba:=((Below.refl wr.heap.size wr).alloc (Nat.le_refl _) (.cells #[.int .i64 st,.int .i64 be,.int .i64 rk,.int .i64 my,.int .i64 gu,.int .i64 lo,.int .i64 hi,.int .i64 hd,.int .i64 ca,.int .i64 ut,.int .i64 wk] 41)).trans (hb.mono (by simp))
   replace He:=Z9 (EntsAt.later (uh He) hba)
   replace BB:=bt BB hba
   clear hb hl0 hba
   have d7:=(uh ks).cell (i:=7) (v:= .int .i64 hd) rfl
   cases ps
   ·go_wp2_with fail
    go_roundw
    case rel=>exact ⟨k+1,by omega,by go_num,by rw [uh S1 (fun h9=>by have h8:=h9.2;rw [uh Hps] at h8;cases h8)];exact uh He,uh kb,uh BB⟩
    case measure=>simp [intOf];omega
   go_wp2_with fail
   refine (Il hd (k:Int) (EntsAt.paces (uh He)) (by omega)).mono ?_
   rintro e w3 ⟨v3,rfl,he3,hb⟩
   have hsz:=(uh BB).size
   have he4:=EntsAt.mono he3 hsz
   replace kb:=bl kb hb
   replace BB:=Z9 ((uh BB).trans (hb.mono hsz))
   obtain ⟨qa3,qcap3,rfl⟩:=EntsAt.shape he4
   have He4:=Z9 he4
   clear hb he3 he4 d7
   go_wp2_with fail
   go_roundw
   case rel=>exact ⟨k+1,by omega,by go_num,by rw [uh S2 (by first | rfl | trivial) (uh Hps)];exact uh He4,uh kb,uh BB⟩
   case measure=>simp [intOf];omega
  ·obtain rfl:k=m.smiths.length:=by omega
   go_wp2_with fail
   go_ret
   exact ⟨_,rfl,uh He,uh BB⟩
set_option linter.unusedSimpArgs false
theorem Two.ents {p q:Option Nat} {B:Nat} {ps:List Z6} (h:EntsAt B w v ps) (ht:Two p q w w') (hp:∀ k,p=some k->k<B) (hq:∀ k,q=some k->k<B):EntsAt B w' v ps:=
 EntsAt.same h fun k e=>ht.block k (h.lt e).2 (fun e'=>by have:=hp k e';have:=(h.lt e).1;omega) (fun e'=>by have:=hq k e';have:=(h.lt e).1;omega)
theorem Two.cell {p q:Option Nat} (h:Two p q w w') {a:Addr} (ha:a.block<w.heap.size) (hp:p ≠ some a.block) (hq:q ≠ some a.block):w'.cell? a=w.cell? a:=World.cell?_of_block (w:=w) (h.block a.block ha hp hq)
theorem MF {q:List Z6} {j:Nat} (hj:j<q.length):q.take (j+1)=q.take j++[Z7 q j]:=by
 rw [List.take_succ_eq_append_getElem hj];unfold Z7;simp [List.getD,hj]
theorem Ov {b:Nat} (h:atV m.smiths b m.smiths.length=[]):XT m b={ m with desks:=m.desks.set b ((Z8 m.desks b).1,-1,(Z8 m.desks b).2.2) }:=by
 unfold XT;rw [h]
theorem Qf {b:Nat} {e:Z6} {t:List Z6} (h:atV m.smiths b m.smiths.length=e::t):XT m b={ m with smiths:=(ZL m.smiths (e::t)).set e.2.toNat (stS (Z8 (ZL m.smiths (e::t)) e.2.toNat) 3),desks:=m.desks.set b ((Z8 m.desks b).1,e.2,ZJ (Z8 m.desks b).2.2 e.1) }:=by
 unfold XT;rw [h]
theorem Vf {R n₀:Nat}  {qs:List (Z0 × Value)} (kb:Blk w R 32 #[v0,v1,v2,v3,v4,.int .i64 m.now]) (hf:FullSmy n₀ w v0 v1 v2 v3 v4 m qs) (h2:v2.ownBlock ≠ some R) (h3:v3.ownBlock ≠ some R) (hl:m.smiths.length<=800) (hd:m.desks.length<=1000) :
  Calls Tryz.prog 85 #[.pointer (some ⟨R,0,none⟩)] w fun e w'=>e= .returned (.tuple #[])/\FullSmy n₀ w' v0 v1 v2 v3 v4 (Z1 m) qs/\Two v2.ownBlock v3.ownBlock w w':=by
 obtain ⟨a2,p2,rfl⟩:=RecAt.shape hf.smiths
 obtain ⟨a3,p3,rfl⟩:=RecAt.shape hf.desks
 by_cases hnd:m.desks.length=0
 ·have hz:Z1 m=m:=by unfold Z1;rw [hnd];rfl
  have c3:=kb.cell (i:=3) (v:= .slice a3 m.desks.length p3) rfl
  have HF:=Z9 hf
  rw [hz]
  have hz0:¬ (0:Int)<(m.desks.length:Int):=by omega
  clear hz hf kb hnd
  go_enter Tryz.func85,Tryz.ntmps85
  go_wp2_with fail
  go_loopw [2] (fun i wr=>i= .int .i64 0/\wr=w) (fun i _=>0)
  case atStart=>exact ⟨rfl,rfl⟩
  case round=>
   obtain ⟨rfl,hwr⟩:=hrel
   subst hwr
   go_wp2_with fail
   go_end0
   exact ⟨rfl,uh HF,Two.refl _ _ _⟩
 obtain ⟨g3,rfl,hg3,hg3w,_,_⟩:=RecAt.view ZF (by omega) hf.desks rfl (by omega)
 have Kb:=Z9 kb
 have H2:=Z9 h2
 have H3:Hid (g3 ≠ R):=Z9 (fun e=>h3 (by rw [e];rfl))
 have HF:=Z9 hf
 have L2:Hid (∀ i,(Value.slice a2 m.smiths.length p2).ownBlock=some i->i<w.heap.size):=Z9 (fun i e=>(RecAt.lt hf.smiths e).2)
 clear kb h2 h3 hf
 go_enter Tryz.func85,Tryz.ntmps85
 go_wp2_with fail
 go_loopw [2] (fun i wr=> ∃ k:Nat,k<=m.desks.length/\i= .int .i64 k/\FullSmy n₀ wr v0 v1 (.slice a2 m.smiths.length p2) (.slice (some ⟨g3,0,none⟩) m.desks.length p3) v4 (Zs m k) qs/\Two (Value.slice a2 m.smiths.length p2).ownBlock (some g3) w wr) (fun i _=>m.desks.length-(intOf i).toNat)
 case atStart=>exact ⟨0,Nat.zero_le _,rfl,uh HF,Two.refl _ _ _⟩
 case round=>
  obtain ⟨k,hk,rfl,hf1,htw⟩:=hrel
  obtain ⟨e1,e2,e3,e4,e5,e6⟩:=ZQ m k
  have Tw:=Z9 htw
  have hgw:g3<wr.heap.size:=Nat.lt_of_lt_of_le hg3w htw.size
  have hszr:=htw.size
  have hkb1:=(uh Kb).two htw (uh H2) (fun e=>uh H3 (by cases e;rfl))
  have K1:=Z9 hkb1
  clear htw hkb1
  by_cases hlt:k<m.desks.length
  rotate_left
  ·obtain rfl:k=m.desks.length:=by omega
   have c3:=(uh K1).cell (i:=3) (v:= .slice (some ⟨g3,0,none⟩) m.desks.length p3) rfl
   have hno:¬ ((m.desks.length:Nat):Int)<(m.desks.length:Int):=by omega
   have HF1:=Z9 hf1
   clear hf1
   go_wp2_with fail
   go_end0
   exact ⟨rfl,uh HF1,uh Tw⟩
  have hstep:Zs m (k+1)=XT (Zs m k) k:=rfl
  generalize Zs m k=m1 at *
  have Hstep:=Z9 hstep
  clear hstep
  obtain ⟨c0,c1,c2,c3,c4,c5⟩:=(uh K1).c6
  have hat:=Ti (k:Int) hf1.smy (by rw [e5];exact hl)
  rw [e4,e5] at hat
  have Hat:=Z9 hat
  have HF1:=Z9 hf1
  clear hat hf1
  go_wp2_with fail
  refine (uh Hat).mono ?_
  rintro e w1 ⟨v',rfl,he,hb⟩
  clear c0 c1 c2 c3 c4 c5 Hat
  have hmem:=Yd m1.smiths (k:Int)
  have hlq:=Uh m1.smiths (k:Int) m.smiths.length
  have HN:Hid (atV m1.smiths (k:Int) m.smiths.length=[]->XT m1 k={ m1 with desks:=m1.desks.set k ((Z8 m1.desks k).1,-1,(Z8 m1.desks k).2.2) }):=Z9 (fun h=>Ov (by rw [e5];exact h))
  have HC:Hid (∀ e t,atV m1.smiths (k:Int) m.smiths.length=e::t->XT m1 k={ m1 with smiths:=(ZL m1.smiths (e::t)).set e.2.toNat (stS (Z8 (ZL m1.smiths (e::t)) e.2.toNat) 3),desks:=m1.desks.set k ((Z8 m1.desks k).1,e.2,ZJ (Z8 m1.desks k).2.2 e.1) }):=Z9 (fun e t h=>Qf (by rw [e5];exact h))
  have hmq:∀ x ∈ atV m1.smiths (k:Int) m.smiths.length,∃ j:Nat,j<m.smiths.length/\x.2=(j:Int):=fun x hx=>by
   obtain ⟨j,hj,_,_,rfl⟩:=(hmem x m.smiths.length).1 hx
   exact ⟨j,hj,rfl⟩
  have Hm:=Z9 hmq
  clear hmem hmq
  generalize atV m1.smiths (k:Int) m.smiths.length=q at *
  obtain ⟨qa,qc,rfl⟩:=EntsAt.shape he
  have HE:=Z9 he
  replace HF1:=Z9 ((uh HF1).below hb)
  replace K1:=bl K1 hb
  replace Tw:=Z9 ((uh Tw).trans (Two.of_below hb))
  have hgw1:g3<w1.heap.size:=Nat.lt_of_lt_of_le hgw hb.size
  have hwr1:=hb.size
  clear he hb
  obtain ⟨⟨o,wh,mk⟩,hrk⟩:∃ d,Z8 m1.desks k=d:=⟨_,rfl⟩
  rw [hrk] at HN HC
  simp only at HN HC
  have Hrk:=Z9 hrk
  have hkd:k<m1.desks.length:=by omega
  have hset:∀ d,Z8 (m1.desks.set k d) k=d:=fun d=>by rw [ZH hkd,if_pos rfl]
  have Hset:=Z9 hset
  clear hset
  obtain ⟨_,hga,_,_,hc3,hz3⟩:=RecAt.view ZF (by omega) (uh HF1).desks e6.symm (by omega)
  cases hga
  have d1:=hc3 k (by omega) 1 _ rfl
  rw [hrk] at d1
  have f1:=hz3 (k*3+1)
  have c3:=(uh K1).cell (i:=3) (v:= .slice (some ⟨g3,0,none⟩) m.desks.length p3) rfl
  have hput:=(uh HF1).putD e6.symm (j:=k) (i:=1) (by omega) (by omega) (.int .i64 (-1)) (o,-1,mk) (by rw [hrk];rfl)
  have HF2:=Z9 hput
  have hns:Two (Value.slice a2 m.smiths.length p2).ownBlock (some g3) w1 (w1.setCell ⟨g3,k*3+1,none⟩ (.int .i64 (-1))):=Two.of_set w1 (.inr rfl) _ _
  have K2:=Z9 ((uh K1).two hns (uh H2) (fun e=>uh H3 (by cases e;rfl)))
  have Tw2:=Z9 ((uh Tw).trans hns)
  have hlow2:∀ i,(Value.slice a2 m.smiths.length p2).ownBlock=some i->i<wr.heap.size:=fun i e=>Nat.lt_of_lt_of_le (uh L2 i e) hszr
  have Low2:=Z9 hlow2
  have HE2:=Z9 (Two.ents (uh HE) hns hlow2 (fun i e=>by cases e;exact hgw))
  clear hput hns hlow2 hc3 hz3 hrk
  go_upto_region 5 with fail
  clear d1 f1 c3 K1 Tw HE HF1
  generalize w1.setCell ⟨g3,k*3+1,none⟩ (.int .i64 (-1))=X at *
  have hsm:∀ i,i ∈ [0]->True:=fun _ _=>trivial
  clear hsm
  go_wp2_with fail
  go_loopw [4] (fun i wi=> ∃ j:Nat,j<=q.length/\i= .int .i64 j/\FullSmy n₀ wi v0 v1 (.slice a2 m.smiths.length p2) (.slice (some ⟨g3,0,none⟩) m.desks.length p3) v4 { m1 with smiths:=ZL m1.smiths (q.take j),desks:=m1.desks.set k (o,-1,mk) } qs/\Two (Value.slice a2 m.smiths.length p2).ownBlock (some g3) X wi) (fun i _=>q.length-(intOf i).toNat)
  case atStart=>exact ⟨0,Nat.zero_le _,rfl,by simpa [ZL] using uh HF2,Two.refl _ _ _⟩
  case round=>
   obtain ⟨wi,rfl⟩:∃ x,x=wr:=⟨wr,rfl⟩
   obtain ⟨j,hj,rfl,hf3,htw3⟩:=hrel
   have HF3:=Z9 hf3
   have Tw3:=Z9 htw3
   have K3:=Z9 ((uh K2).two htw3 (uh H2) (fun e=>uh H3 (by cases e;rfl)))
   have HE3:=Z9 (Two.ents (uh HE2) htw3 (uh Low2) (fun i e=>by cases e;exact hgw))
   clear hf3 htw3
   by_cases hjl:j<q.length
   ·obtain ⟨_,_,hqe,_,_,hr⟩:=EntsAt.paces (uh HE3)
    cases hqe
    rcases hr with e0 | ⟨eb,eo,rfl,hbw,hcl⟩
    ·rw [e0] at hjl;simp at hjl
    obtain ⟨c0,c1⟩:=hcl j hjl
    obtain ⟨i0,hi0,hie⟩:=uh Hm _ (XQ hjl)
    rw [hie] at c1
    have Htk:Hid (ZL m1.smiths (q.take (j+1))=(ZL m1.smiths (q.take j)).set i0 (stS (Z8 (ZL m1.smiths (q.take j)) i0) 2)):=Z9 (by rw [MF hjl,SE,hie];simp)
    have hwl:(ZL m1.smiths (q.take j)).length=m.smiths.length:=by rw [Yk,e5]
    obtain ⟨g2,rfl,hg2,hg2w,hc2,hz2⟩:=RecAt.view ZW (by omega) (uh HF3).smiths hwl.symm (by show 0<(ZL m1.smiths (q.take j)).length;omega)
    have s0:=hc2 i0 (by show i0<(ZL m1.smiths (q.take j)).length;omega) 0 _ rfl
    have f0:=hz2 (i0*11)
    have hput:=(uh HF3).putS hwl.symm (j:=i0) (i:=0) (by show i0<(ZL m1.smiths (q.take j)).length;omega) (by omega) (.int .i64 2) (stS (Z8 (ZL m1.smiths (q.take j)) i0) 2) rfl
    simp only [Nat.add_zero] at s0 hput
    have HF4:=Z9 hput
    have c2:=(uh K3).cell (i:=2) (v:= .slice (some ⟨g2,0,none⟩) m.smiths.length p2) rfl
    clear hcl hc2 hz2 hput hie c0 hwl
    have hi1:(i0:Int)<(m.smiths.length:Int):=by omega
    go_wp2_with fail
    refine ZP (S:=fun w'=>w'.cell? ⟨R,2,none⟩=some (.slice (some ⟨g2,0,none⟩) m.smiths.length p2)/\w'.cell? ⟨eb,eo+j*2+1,none⟩=some (.int .i64 (i0:Int))) (by kernel_rfl) (List.cons_ne_nil _ _) (by kernel_rfl) ⟨c2,c1⟩ (fun hHeld=> ?_)
    simp only [List.dropLast_cons_cons,List.dropLast_singleton,List.length_cons,List.length_nil,Nat.zero_add,Nat.reduceAdd]
    (refine tk 0 rfl (by assumption) ?_;(try simp only [Act.put,sA,sZ,sS]))
    (refine tk 1 rfl (by assumption) ?_;(try simp only [Act.put,sA,sZ,sS]))
    (refine tk 2 rfl (by assumption) ?_;(try simp only [Act.put,sA,sZ,sS]))
    (refine tk 3 rfl (by assumption) ?_;(try simp only [Act.put,sA,sZ,sS]))
    (refine tk 4 rfl (by assumption) ?_;(try simp only [Act.put,sA,sZ,sS]))
    (refine tk 5 rfl (by assumption) ?_;(try simp only [Act.put,sA,sZ,sS]))
    (refine tk 6 rfl (by assumption) ?_;(try simp only [Act.put,sA,sZ,sS]))
    (refine tk 7 rfl (by assumption) ?_;(try simp only [Act.put,sA,sZ,sS]))
    (refine tk 8 rfl (by assumption) ?_;(try simp only [Act.put,sA,sZ,sS]))
    (refine tk 9 rfl (by assumption) ?_;(try simp only [Act.put,sA,sZ,sS]))
    (refine tk 10 rfl (by assumption) ?_;(try simp only [Act.put,sA,sZ,sS]))
    refine wpAnyH_done (by kernel_rfl) ?_ _
    refine ZI rfl rfl ?_
    go_simp
    clear hHeld
    go_wp2_with fail
    go_roundw
    case rel=>exact ⟨j+1,by omega,by go_num,by rw [uh Htk];exact (uh HF4).below (Below.refl _ _).drew,((uh Tw3).trans (Two.of_set _ (.inl rfl) _ _)).trans (Two.of_below (Below.refl _ _).drew)⟩
    case measure=>simp [intOf];omega
   ·obtain rfl:j=q.length:=by omega
    rw [List.take_length] at HF3
    cases q with
    | nil=>
     clear HC
     go_wp2_with fail
     go_roundw
     case rel=>exact ⟨k+1,by omega,by go_num,by rw [uh Hstep,uh HN rfl];exact uh HF3,(uh Tw2).trans (uh Tw3)⟩
     case measure=>simp [intOf];omega
    | cons e t=>
     obtain ⟨_,_,hqe,_,_,hr⟩:=EntsAt.paces (uh HE3)
     cases hqe
     rcases hr with e0 | ⟨eb,eo,rfl,hbw,hcl⟩
     ·cases e0
     obtain ⟨c0,c1⟩:=hcl 0 (by simp)
     obtain ⟨i0,hi0,hie⟩:=uh Hm e (by simp)
     have hp0:Z7 (e::t) 0=e:=rfl
     rw [hp0] at c0 c1
     rw [hie] at c1
     simp only [Nat.zero_mul,Nat.add_zero] at c0 c1
     have hcons:=uh HC e t rfl
     rw [hie] at hcons
     simp only [show ((i0:Int)).toNat=i0 by simp] at hcons
     have Hcons:=Z9 hcons
     obtain ⟨hd0,hhd⟩:∃ x,e.1=x:=⟨_,rfl⟩
     rw [hhd] at c0 Hcons
     clear hcons hhd hie hp0 hcl HN HC
     have hwl:(ZL m1.smiths (e::t)).length=m.smiths.length:=by rw [Yk,e5]
     obtain ⟨g2,rfl,hg2,hg2w,_,_⟩:=RecAt.view ZW (by omega) (uh HF3).smiths hwl.symm (by show 0<(ZL m1.smiths (e::t)).length;omega)
     have hD1:(m1.desks.set k (o,-1,mk)).length=m.desks.length:=by simp [e6]
     have hD2:∀ d,(m1.desks.set k d).length=m.desks.length:=fun d=>by simp [e6]
     have heb:=(EntsAt.lt (uh HE3) (k:=eb) rfl).1
     have hg2r:=uh Low2 g2 rfl
     have hlen:(e::t).length=t.length+1:=rfl
     have hlpos:(0:Int)<((t.length+1:Nat):Int):=by omega
     rw [hlen] at *
     obtain ⟨_,hga,_,_,hcd,hzd⟩:=RecAt.view ZF (by omega) (uh HF3).desks hD1.symm (by show 0<(m1.desks.set k (o,-1,mk)).length;omega)
     cases hga
     have d1:=hcd k (by show k<(m1.desks.set k (o,-1,mk)).length;omega) 1 _ rfl
     have f1:=hzd (k*3+1)
     have c3:=(uh K3).cell (i:=3) (v:= .slice (some ⟨g3,0,none⟩) m.desks.length p3) rfl
     have hne2:(Value.slice (some ⟨g2,0,none⟩) m.smiths.length p2).ownBlock ≠ some eb:=fun e9=>by have e8:g2=eb:=Option.some.inj e9;omega
     have hne3:(some g3:Option Nat) ≠ some eb:=fun e9=>by have e8:g3=eb:=Option.some.inj e9;omega
     have hput1:=(uh HF3).putD hD1.symm (j:=k) (i:=1) (by show k<(m1.desks.set k (o,-1,mk)).length;omega) (by omega) (.int .i64 (i0:Int)) (o,(i0:Int),mk) (by show XA (o,(i0:Int),mk)=(XA (Z8 (m1.desks.set k (o,-1,mk)) k)).set 1 _;rw [uh Hset];rfl)
     simp only [List.set_set] at hput1
     have HF4:Hid (FullSmy n₀ (wi.setCell ⟨g3,k*3+1,none⟩ (.int .i64 (i0:Int))).drew v0 v1 (.slice (some ⟨g2,0,none⟩) m.smiths.length p2) (.slice (some ⟨g3,0,none⟩) m.desks.length p3) v4 { m1 with smiths:=ZL m1.smiths (e::t),desks:=m1.desks.set k (o,(i0:Int),mk) } qs):=Z9 (hput1.below (Below.refl _ _).drew)
     have T4:Two (Value.slice (some ⟨g2,0,none⟩) m.smiths.length p2).ownBlock (some g3) wi (wi.setCell ⟨g3,k*3+1,none⟩ (.int .i64 (i0:Int))).drew:=(Two.of_set wi (.inr rfl) _ _).trans (Two.of_below (Below.refl _ _).drew)
     have K4:=Z9 ((uh K3).two T4 (uh H2) (fun e9=>uh H3 (by cases e9;rfl)))
     have x0:=(T4.cell (a:=⟨eb,eo,none⟩) hbw hne2 hne3).trans c0
     have x1:=(T4.cell (a:=⟨eb,eo+1,none⟩) hbw hne2 hne3).trans c1
     have hbw4:eb<((wi.setCell ⟨g3,k*3+1,none⟩ (.int .i64 (i0:Int))).drew).heap.size:=Nat.lt_of_lt_of_le hbw T4.size
     replace Tw3:=Z9 ((uh Tw3).trans T4)
     clear hput1 T4 hcd hzd HE3 HF3
     go_wp2_with fail
     refine ZP (S:=fun w'=>w'.cell? ⟨R,3,none⟩=some (.slice (some ⟨g3,0,none⟩) m.desks.length p3)/\w'.cell? ⟨eb,eo+1,none⟩=some (.int .i64 (i0:Int))) (by kernel_rfl) (List.cons_ne_nil _ _) (by kernel_rfl) ⟨c3,c1⟩ (fun hHeld=> ?_)
     simp only [List.dropLast_cons_cons,List.dropLast_singleton,List.length_cons,List.length_nil,Nat.zero_add,Nat.reduceAdd]
     (refine tk 0 rfl (by assumption) ?_;(try simp only [Act.put,sA,sZ,sS]))
     (refine tk 1 rfl (by assumption) ?_;(try simp only [Act.put,sA,sZ,sS]))
     (refine tk 2 rfl (by assumption) ?_;(try simp only [Act.put,sA,sZ,sS]))
     (refine tk 3 rfl (by assumption) ?_;(try simp only [Act.put,sA,sZ,sS]))
     (refine tk 4 rfl (by assumption) ?_;(try simp only [Act.put,sA,sZ,sS]))
     (refine tk 5 rfl (by assumption) ?_;(try simp only [Act.put,sA,sZ,sS]))
     (refine tk 6 rfl (by assumption) ?_;(try simp only [Act.put,sA,sZ,sS]))
     (refine tk 7 rfl (by assumption) ?_;(try simp only [Act.put,sA,sZ,sS]))
     (refine tk 8 rfl (by assumption) ?_;(try simp only [Act.put,sA,sZ,sS]))
     (refine tk 9 rfl (by assumption) ?_;(try simp only [Act.put,sA,sZ,sS]))
     (refine tk 10 rfl (by assumption) ?_;(try simp only [Act.put,sA,sZ,sS]))
     refine wpAnyH_done (by kernel_rfl) ?_ _
     refine ZI rfl rfl ?_
     go_simp
     clear hHeld
     clear d1 f1 c3 c0 c1 hbw K3
     generalize (wi.setCell ⟨g3,k*3+1,none⟩ (.int .i64 (i0:Int))).drew=Y at *
     obtain ⟨_,hga,_,_,hcd,hzd⟩:=RecAt.view ZF (by omega) (uh HF4).desks (hD2 _).symm (by show 0<(m1.desks.set k _).length;rw [hD2];omega)
     cases hga
     have d2:=hcd k (by show k<(m1.desks.set k _).length;rw [hD2];omega) 2 _ rfl
     have d2':Y.cell? ⟨g3,k*3+2,none⟩=some (.int .i64 mk):=by
      have h9:Z8 (m1.desks.set k (o,(i0:Int),mk)) k=(o,(i0:Int),mk):=uh Hset _
      rw [show (({ m1 with smiths:=ZL m1.smiths (e::t),desks:=m1.desks.set k (o,(i0:Int),mk) } : Z3)).desks=m1.desks.set k (o,(i0:Int),mk) from rfl,h9] at d2
      exact d2
     have f2:=hzd (k*3+2)
     have c3:=(uh K4).cell (i:=3) (v:= .slice (some ⟨g3,0,none⟩) m.desks.length p3) rfl
     have hput2:=(uh HF4).putD (hD2 _).symm (j:=k) (i:=2) (by show k<(m1.desks.set k _).length;rw [hD2];omega) (by omega) (.int .i64 (ZJ mk hd0)) (o,(i0:Int),ZJ mk hd0) (by show XA (o,(i0:Int),ZJ mk hd0)=(XA (Z8 (m1.desks.set k (o,(i0:Int),mk)) k)).set 2 _;rw [uh Hset];rfl)
     simp only [List.set_set] at hput2
     have HF5:Hid (FullSmy n₀ (Y.setCell ⟨g3,k*3+2,none⟩ (.int .i64 (ZJ mk hd0))).drew v0 v1 (.slice (some ⟨g2,0,none⟩) m.smiths.length p2) (.slice (some ⟨g3,0,none⟩) m.desks.length p3) v4 { m1 with smiths:=ZL m1.smiths (e::t),desks:=m1.desks.set k (o,(i0:Int),ZJ mk hd0) } qs):=Z9 (hput2.below (Below.refl _ _).drew)
     have T5:Two (Value.slice (some ⟨g2,0,none⟩) m.smiths.length p2).ownBlock (some g3) Y (Y.setCell ⟨g3,k*3+2,none⟩ (.int .i64 (ZJ mk hd0))).drew:=(Two.of_set Y (.inr rfl) _ _).trans (Two.of_below (Below.refl _ _).drew)
     have K5:=Z9 ((uh K4).two T5 (uh H2) (fun e9=>uh H3 (by cases e9;rfl)))
     have y1:=(T5.cell (a:=⟨eb,eo+1,none⟩) hbw4 hne2 hne3).trans x1
     replace Tw3:=Z9 ((uh Tw3).trans T5)
     clear hput2 T5 hcd hzd HF4 d2
     go_wp2_with fail
     refine ZP (S:=fun w'=>w'.cell? ⟨R,3,none⟩=some (.slice (some ⟨g3,0,none⟩) m.desks.length p3)/\w'.cell? ⟨g3,k*3+2,none⟩=some (.int .i64 mk)/\w'.cell? ⟨eb,eo,none⟩=some (.int .i64 hd0)) (by kernel_rfl) (List.cons_ne_nil _ _) (by kernel_rfl) ⟨c3,d2',x0⟩ (fun hHeld=> ?_)
     simp only [List.dropLast_cons_cons,List.dropLast_singleton,List.length_cons,List.length_nil,Nat.zero_add,Nat.reduceAdd]
     (refine tk 0 rfl (by assumption) ?_;(try simp only [Act.put,sA,sZ,sS]))
     (refine tk 1 rfl (by assumption) ?_;(try simp only [Act.put,sA,sZ,sS]))
     (refine tk 2 rfl (by assumption) ?_;(try simp only [Act.put,sA,sZ,sS]))
     (refine tk 3 rfl (by assumption) ?_;(try simp only [Act.put,sA,sZ,sS]))
     (refine tk 4 rfl (by assumption) ?_;(try simp only [Act.put,sA,sZ,sS]))
     (refine tk 5 rfl (by assumption) ?_;(try simp only [Act.put,sA,sZ,sS]))
     (refine tk 6 rfl (by assumption) ?_;(try simp only [Act.put,sA,sZ,sS]))
     (refine tk 7 rfl (by assumption) ?_;(try simp only [Act.put,sA,sZ,sS]))
     (refine tk 8 rfl (by assumption) ?_;(try simp only [Act.put,sA,sZ,sS]))
     (refine tk 9 rfl (by assumption) ?_;(try simp only [Act.put,sA,sZ,sS]))
     (refine tk 10 rfl (by assumption) ?_;(try simp only [Act.put,sA,sZ,sS]))
     (refine tk 11 rfl (by assumption) ?_;(try simp only [Act.put,sA,sZ,sS]))
     (refine tk 12 rfl (by assumption) ?_;(try simp only [Act.put,sA,sZ,sS]))
     (refine tk 13 rfl (by assumption) ?_;(try simp only [Act.put,sA,sZ,sS]))
     (refine tk 14 rfl (by assumption) ?_;(try simp only [Act.put,sA,sZ,sS]))
     (refine tk 15 rfl (by assumption) ?_;(try simp only [Act.put,sA,sZ,sS]))
     (refine tk 16 rfl (by assumption) ?_;(try simp only [Act.put,sA,sZ,sS]))
     refine rd 17 rfl (fun K hK=> ?_)
     go_simp
     refine (P4 mk hd0 _).mono ?_
     rintro e9 w9 ⟨rfl,hw9⟩
     subst w9
     refine hK.out _ _ hHeld (fun hHeld=> ?_)
     clear hK K
     (try simp only [Act.put,sA,sZ,sS])
     (refine tk 18 rfl (by assumption) ?_;(try simp only [Act.put,sA,sZ,sS]))
     (refine tk 19 rfl (by assumption) ?_;(try simp only [Act.put,sA,sZ,sS]))
     refine wpAnyH_done (by kernel_rfl) ?_ _
     refine ZI rfl rfl ?_
     go_simp
     clear hHeld
     clear d2' f2 c3 x0 x1 hbw4 K4
     generalize (Y.setCell ⟨g3,k*3+2,none⟩ (.int .i64 (ZJ mk hd0))).drew=Z at *
     obtain ⟨_,hga,_,_,hc2,hz2⟩:=RecAt.view ZW (by omega) (uh HF5).smiths hwl.symm (by show 0<(ZL m1.smiths (e::t)).length;omega)
     cases hga
     have s0:=hc2 i0 (by show i0<(ZL m1.smiths (e::t)).length;omega) 0 _ rfl
     have f0:=hz2 (i0*11)
     have c2:=(uh K5).cell (i:=2) (v:= .slice (some ⟨g2,0,none⟩) m.smiths.length p2) rfl
     have hput3:=(uh HF5).putS hwl.symm (j:=i0) (i:=0) (by show i0<(ZL m1.smiths (e::t)).length;omega) (by omega) (.int .i64 3) (stS (Z8 (ZL m1.smiths (e::t)) i0) 3) rfl
     simp only [Nat.add_zero] at s0 hput3
     have HF6:=Z9 hput3
     have hi1:(i0:Int)<(m.smiths.length:Int):=by omega
     clear hput3 hc2 hz2 HF5
     go_wp2_with fail
     refine ZP (S:=fun w'=>w'.cell? ⟨R,2,none⟩=some (.slice (some ⟨g2,0,none⟩) m.smiths.length p2)/\w'.cell? ⟨eb,eo+1,none⟩=some (.int .i64 (i0:Int))) (by kernel_rfl) (List.cons_ne_nil _ _) (by kernel_rfl) ⟨c2,y1⟩ (fun hHeld=> ?_)
     simp only [List.dropLast_cons_cons,List.dropLast_singleton,List.length_cons,List.length_nil,Nat.zero_add,Nat.reduceAdd]
     (refine tk 0 rfl (by assumption) ?_;(try simp only [Act.put,sA,sZ,sS]))
     (refine tk 1 rfl (by assumption) ?_;(try simp only [Act.put,sA,sZ,sS]))
     (refine tk 2 rfl (by assumption) ?_;(try simp only [Act.put,sA,sZ,sS]))
     (refine tk 3 rfl (by assumption) ?_;(try simp only [Act.put,sA,sZ,sS]))
     (refine tk 4 rfl (by assumption) ?_;(try simp only [Act.put,sA,sZ,sS]))
     (refine tk 5 rfl (by assumption) ?_;(try simp only [Act.put,sA,sZ,sS]))
     (refine tk 6 rfl (by assumption) ?_;(try simp only [Act.put,sA,sZ,sS]))
     (refine tk 7 rfl (by assumption) ?_;(try simp only [Act.put,sA,sZ,sS]))
     (refine tk 8 rfl (by assumption) ?_;(try simp only [Act.put,sA,sZ,sS]))
     (refine tk 9 rfl (by assumption) ?_;(try simp only [Act.put,sA,sZ,sS]))
     refine wpAnyH_done (by kernel_rfl) ?_ _
     refine ZI rfl rfl ?_
     go_simp
     clear hHeld
     go_wp2_with fail
     go_roundw
     case rel=>exact ⟨k+1,by omega,by go_num,by rw [uh Hstep,uh Hcons];exact (uh HF6).below (Below.refl _ _).drew,((uh Tw2).trans (uh Tw3)).trans ((Two.of_set _ (.inl rfl) _ _).trans (Two.of_below (Below.refl _ _).drew))⟩
     case measure=>simp [intOf];omega
theorem GU {ps qs hs hs':List Z6} (hr:Ris qs) (hle:∀ x ∈ qs,∀ y ∈ hs,ltB y x=false) (hh:HeapTo hs hs.length) (hl:0<hs.length) (hp:(qs++hs).Perm ps) (hp':(hs'++[Z7 hs 0]).Perm hs) :
  Ris (qs++[Z7 hs 0])/\(∀ x ∈ qs++[Z7 hs 0],∀ y ∈ hs',ltB y x=false)/\((qs++[Z7 hs 0])++hs').Perm ps:=by
 have hsub:∀ y ∈ hs',y ∈ hs:=fun y hy=>hp'.subset (List.mem_append_left _ hy)
 refine ⟨Gq hr (fun y hy=>hle y hy _ (XQ hl)),fun x hx y hy=> ?_,?_⟩
 ·rcases List.mem_append.1 hx with hx | hx
  ·exact hle x hx y (hsub y hy)
  ·obtain rfl:x=Z7 hs 0:=by simpa using hx
   obtain ⟨k,hk,rfl⟩:=Ut (hsub y hy)
   exact hh.least k hk
 ·rw [List.append_assoc]
  exact ((List.perm_append_comm (l₁:=[Z7 hs 0]) (l₂:=hs')).trans hp').append_left qs |>.trans hp
theorem Ln {n₀ bx:Nat}  {ps:List Z6} (h:HeapIs n₀ bx v w ps) (hp:HeapTo ps ps.length) (hl:ps.length<=900) (hx:n₀<=bx) (hn:n₀<=w.heap.size) :
  Calls Tryz.prog 187 #[.pointer (some ⟨bx,0,none⟩)] w fun e w'=> ∃ v' qs,e= .returned v'/\EntsAt w.heap.size w' v' qs/\Ris qs/\qs.Perm ps/\Below n₀ w w':=by
 have H:=Z9 h
 have HP:=Z9 hp
 have hbx:=h.lt
 have HO:Hid (∀ k,v.ownBlock=some k->n₀<=k/\k<w.heap.size):=Z9 (fun k e=>h.row.lt e)
 clear h hp
 go_enter Tryz.func187,Tryz.ntmps187
 go_wp2_with fail
 go_loopg [3] ps.length (fun gg q wr=> ∃ (vh:Value) (qs hs:List Z6),hs.length<=gg/\EntsAt w.heap.size wr q qs/\HeapIs n₀ bx vh wr hs/\HeapTo hs hs.length/\Ris qs/\(∀ x ∈ qs,∀ y ∈ hs,ltB y x=false)/\(qs++hs).Perm ps/\vh.ownBlock=v.ownBlock/\Below n₀ w wr)
 case atStart=>exact ⟨v,[],ps,Nat.le_refl _,Ww rfl (Nat.le_refl _),(uh H).later ((Below.refl _ _).alloc (Nat.le_refl _) _),uh HP,List.Pairwise.nil,fun _ hx=>(by cases hx),List.Perm.refl _,rfl,(Below.refl _ _).alloc hn _⟩
 case round=>
  obtain ⟨vh,qs,hs,hgg,hq,hh,hto,hris,hle,hperm,hob,hbel⟩:=hrel
  have hlen:qs.length+hs.length=ps.length:=by have:=hperm.length_eq;simpa using this
  obtain ⟨qa,qcap,rfl⟩:=hq.shape
  have Hq:=Z9 hq
  have Hh:=Z9 hh
  have Hto:=Z9 hto
  have Hris:=Z9 hris
  have Hle:=Z9 hle
  have Hpe:=Z9 hperm
  have Hob:=Z9 hob
  have Hbel:=Z9 hbel
  have hsz:=hbel.size
  clear hq hh hto hris hle hperm hob hbel
  by_cases h0:hs.length=0
  ·have hz:¬ (0:Int)<(hs.length:Int):=by omega
   go_wp2_with fail
   refine (Sl (uh Hh)).mono ?_
   rintro e w' ⟨rfl,h2⟩
   subst w'
   go_wp2_with fail
   go_ret
   obtain rfl:hs=[]:=List.eq_nil_of_length_eq_zero h0
   exact ⟨_,qs,rfl,uh Hq,uh Hris,by have:=uh Hpe;simpa using this,uh Hbel⟩
  ·obtain ⟨m,hm⟩:∃ m,hs.length=m+1:=⟨hs.length-1,by omega⟩
   have hz:(0:Int)<(hs.length:Int):=by omega
   go_wp2_with fail
   refine (Sl (uh Hh)).mono ?_
   rintro e w' ⟨rfl,h2⟩
   subst w'
   go_wp2_with fail
   refine (LD (uh Hh) (uh Hto) hm (by omega)).mono ?_
   rintro e w1 ⟨rfl,v1,hs',hh1,hto1,hpe1,hob1,hf1⟩
   obtain ⟨s1,s2,s3⟩:=GU (uh Hris) (uh Hle) (uh Hto) (by omega) (uh Hpe) hpe1
   have hlen':hs'.length+1=hs.length:=by have:=hpe1.length_eq;simpa using this
   generalize Z7 hs 0=p at *
   obtain ⟨f,z⟩:=p
   have hta:=O4 f z
   have S1:=Z9 s1
   have S2:=Z9 s2
   have S3:=Z9 s3
   have H1:=Z9 hh1
   have T1:=Z9 hto1
   have O1:Hid (v1.ownBlock=v.ownBlock):=Z9 (hob1.trans (uh Hob))
   have Q1:Hid (EntsAt w.heap.size w1 (.slice qa qs.length qcap) qs):=Z9 ((uh Hq).fr hf1 (fun e=>by have:=(uh Hq).lt e;omega) (fun k e e2=>by have h8:=(uh Hq).lt e;have h9:=uh HO k ((uh Hob).symm.trans e2);omega))
   have hz1:=hf1.size
   have B1:Hid (Below n₀ w w1):=Z9 ((uh Hbel).trans ((uh Hh).below (v':=v1) (qs:=hs) hf1 hx (by omega)))
   clear s1 s2 s3 hh1 hto1 hpe1 hob1 hf1 Hh Hto Hris Hle Hpe Hob Hbel Hq
   go_wp2_with (at_builtin;refine Xe rfl (.tmp 8) (.tmp 13) 35 Tryz.underlying35 rfl w.heap.size _ _ qs [(f,z)] rfl rfl ((uh Q1).later ((Below.refl _ _).alloc (Nat.le_refl _) _)) (TB rfl (Nat.le_refl _) (by omega)) (by simp;omega) (by simp;omega) ?_;intro v' w2 hown hgrow hat)
   have hb0:Below w1.heap.size w1 (w1.alloc (.cells #[.int .i64 f,.int .i64 z] 45)):=(Below.refl _ _).alloc (Nat.le_refl _) _
   have hq0:∀ k,(Value.slice qa qs.length qcap).ownBlock=some k->w.heap.size<=k:=fun k e=>((uh Q1).lt e).1
   have hw2:Below w.heap.size (w1.alloc (.cells #[.int .i64 f,.int .i64 z] 45)) w2:=(Below.refl _ _).grown hgrow (by simp;omega) (fun k e=>hq0 k e)
   have hh2:HeapIs n₀ bx v1 w2 hs':=by
    have h3:=(uh H1).later hb0
    have hk:=hw2.block bx hbx
    refine ⟨(World.cell?_of_block (a:=⟨bx,0,none⟩) hk).trans h3.cell,(World.frozen?_of_block (a:=⟨bx,0,none⟩) hk).trans h3.free,Nat.lt_of_lt_of_le h3.lt hw2.size,h3.row.same (fun k e=>hw2.block k ?_),h3.off⟩
    exact (uh HO k ((uh O1).symm.trans e)).2
   have H2:=Z9 hh2
   have N2:=Z9 hown
   have B2:Hid (Below n₀ w w2):=Z9 ((uh B1).trans ((hb0.mono (by omega)).trans (hw2.mono hn)))
   clear hown hgrow hat hb0 hw2 hh2 hq0
   go_roundg (m)
   case measure=>omega
   case rel=>exact ⟨v1,qs++[(f,z)],hs',by omega,uh N2,uh H2,uh T1,uh S1,uh S2,uh S3,uh O1,uh B2⟩
theorem Fq {ps:List Z6} {k:Nat} {p:Z6} (hp:Z7 ps k=p) (h:Pj p=false):WI ps k=false:=by unfold WI;rw [hp];simp [h]
theorem Fs {ps:List Z6} {k:Nat} {p q:Z6} (hz:0<k) (hp:Z7 ps k=p) (hq:Z7 ps (k-1)=q) (h:ltB q p=false):WI ps k=false:=by unfold WI;rw [hp,hq];simp [h];omega
theorem Ft {ps:List Z6} {k:Nat} {f z:Int} (hp:Z7 ps k=(f,z)) (h:0<=WL (ps.take k) z):WI ps k=false:=by unfold WI;rw [hp];simp;intros;exact h
theorem Fu {ps:List Z6} {k:Nat} {f z:Int} {q:Z6} (hz:0<k) (hp:Z7 ps k=(f,z)) (hq:Z7 ps (k-1)=q) (h1:Pj (f,z)=true) (h2:ltB q (f,z)=true) (h:WL (ps.take k) z<0):WI ps k=true:=by unfold WI;rw [hp,hq];simp [h1,h2,h]
theorem Fp {ps:List Z6} {p:Z6} (hp:Z7 ps 0=p) (h:Pj p=true):WI ps 0=true:=by unfold WI;rw [hp];simp [h,WL]
theorem US  {ps:List Z6} {who F:Int} (hF:WL ps who=F) (h:IsPaces w v ps) :
  Calls Tryz.prog 224 #[v,.int .i64 who] w fun e w'=>e= .returned (.int .i64 F)/\Below w.heap.size w w':=by
 subst hF
 exact Mo who h
theorem Yw  {ps:List Z6} (h:IsPaces w v ps) :
  Calls Tryz.prog 184 #[v] w fun e w'=>e= .returned (.bool (YF ps))/\Below w.heap.size w w':=by
 have Hr2:=Z9 h
 obtain ⟨a,cap,rfl,hc,hm,hr⟩:=h
 have Hr:=Z9 hr
 clear hr
 by_cases hbig:100<ps.length
 ·go_enter Tryz.func184,Tryz.ntmps184
  go_wp2_with fail
  go_ret
  exact ⟨Z5 (Kn hbig).symm,Below.refl _ _⟩
 go_enter Tryz.func184,Tryz.ntmps184
 go_wp2_with fail
 go_loopw [10] (fun i wr=> ∃ k:Nat,k<=ps.length/\i= .int .i64 k/\(∀ j,j<k->WI ps j=true)/\Below w.heap.size w wr) (fun i _=>ps.length-(intOf i).toNat)
 case atStart=>exact ⟨0,Nat.zero_le _,rfl,fun j hj=>by omega,Below.refl _ _⟩
 case round=>
  obtain ⟨k,hk,rfl,hst,hb⟩:=hrel
  have Hst:=Z9 hst
  have Hb:=Z9 hb
  clear hst
  by_cases hlt:k<ps.length
  ·rcases uh Hr with h0 | ⟨b,off,rfl,hbw,hcl⟩
   ·rw [h0] at hlt;simp at hlt
   have hbr:b<wr.heap.size:=Nat.lt_of_lt_of_le hbw hb.size
   have hne:b ≠ wr.heap.size:=Nat.ne_of_lt hbr
   obtain ⟨c0,c1⟩:=hcl k hlt
   rw [<-hb.cell (p:=⟨b,off+k*2,none⟩) hbw] at c0
   rw [<-hb.cell (p:=⟨b,off+k*2+1,none⟩) hbw] at c1
   generalize hp:Z7 ps k=p at c0 c1
   have Hp:=Z9 hp
   clear hp
   obtain ⟨f,z⟩:=p
   simp only at c0 c1
   have Hip:=Z9 ((((uh Hr2).below hb).cut (n:=k) (by omega)).below ((Below.refl _ _).alloc (Nat.le_refl _) (.cells #[.int .i64 f,.int .i64 z] 45)))
   have d0:(wr.alloc (.cells #[.int .i64 f,.int .i64 z] 45)).cell? ⟨wr.heap.size,0,none⟩=some (.int .i64 f):=by simp
   have d1:(wr.alloc (.cells #[.int .i64 f,.int .i64 z] 45)).cell? ⟨wr.heap.size,1,none⟩=some (.int .i64 z):=by simp
   have k0:=cell_regrown d0
   have k1:=cell_regrown d1
   clear d0 d1
   obtain ⟨F,hF⟩:∃ F,WL (ps.take k) z=F:=⟨_,rfl⟩
   have hFb:=FL (ps.take k) z
   rw [hF] at hFb
   have HF:=Z9 hF
   clear hF
   cases hpb:Pj (f,z)
   ·clear hcl
    go_wp2_with fail
    refine wp_region_quiet_below (by kernel_rfl) (by kernel_rfl) ?_
    repeat (go_big_quiet_step (first | exact Calls.regrown_of (Wf _ _ _) | exact Calls.regrown_of (Xl _ _ _ _ _) | exact Calls.regrown_of (US (uh HF) ((uh Hip).below (below_regrown _ _ _)))))
    refine wpQuiet_nil ?_
    intro _ hw'
    obtain ⟨⟨dq,osq⟩,hw''⟩:=hw'
    subst hw''
    go_wp2_with fail
    go_ret
    exact ⟨Z5 (PP hlt (Fq (uh Hp) hpb)).symm,(uh Hb).trans (((Below.refl _ _).alloc (uh Hb).size _).trans ((below_regrown _ _ _).mono (by simp;have:=(uh Hb).size;omega)))⟩
   ·by_cases hz:0<k
    ·have hd:decide (0<k)=true:=decide_eq_true hz
     obtain ⟨e0,e1⟩:=hcl (k-1) (by omega)
     rw [<-hb.cell (p:=⟨b,off+(k-1)*2,none⟩) hbw] at e0
     rw [<-hb.cell (p:=⟨b,off+(k-1)*2+1,none⟩) hbw] at e1
     generalize hq:Z7 ps (k-1)=q at e0 e1
     have Hq:=Z9 hq
     clear hq
     obtain ⟨f',z'⟩:=q
     simp only at e0 e1
     have m0:=cell_regrown (w:=wr.alloc (.cells #[.int .i64 f,.int .i64 z] 45)) (a:=⟨b,off+(k-1)*2,none⟩) (v:= .int .i64 f') (by rw [World.cell?_alloc_old _ _ _ hne];exact e0)
     have m1:=cell_regrown (w:=wr.alloc (.cells #[.int .i64 f,.int .i64 z] 45)) (a:=⟨b,off+(k-1)*2+1,none⟩) (v:= .int .i64 z') (by rw [World.cell?_alloc_old _ _ _ hne];exact e1)
     clear hcl e0 e1
     cases hab:ltB (f',z') (f,z)
     ·go_wp2_with fail
      refine wp_region_quiet_below (by kernel_rfl) (by kernel_rfl) ?_
      repeat (go_big_quiet_step (first | exact Calls.regrown_of (Wf _ _ _) | exact Calls.regrown_of (Xl _ _ _ _ _) | exact Calls.regrown_of (US (uh HF) ((uh Hip).below (below_regrown _ _ _)))))
      refine wpQuiet_nil ?_
      intro _ hw'
      obtain ⟨⟨dq,osq⟩,hw''⟩:=hw'
      subst hw''
      go_wp2_with fail
      go_ret
      exact ⟨Z5 (PP hlt (Fs hz (uh Hp) (uh Hq) hab)).symm,(uh Hb).trans (((Below.refl _ _).alloc (uh Hb).size _).trans ((below_regrown _ _ _).mono (by simp;have:=(uh Hb).size;omega)))⟩
     ·by_cases hF0:F= -1
      ·subst hF0
       go_wp2_with fail
       refine wp_region_quiet_below (by kernel_rfl) (by kernel_rfl) ?_
       repeat (go_big_quiet_step (first | exact Calls.regrown_of (Wf _ _ _) | exact Calls.regrown_of (Xl _ _ _ _ _) | exact Calls.regrown_of (US (uh HF) ((uh Hip).below (below_regrown _ _ _)))))
       refine wpQuiet_nil ?_
       intro _ hw'
       obtain ⟨⟨dq,osq⟩,hw''⟩:=hw'
       subst hw''
       go_wp2_with fail
       go_roundw
       case rel=>exact ⟨k+1,by omega,by go_num,Yn (uh Hst) (Fu hz (uh Hp) (uh Hq) hpb hab (by rw [uh HF];omega)),(uh Hb).trans (((Below.refl _ _).alloc (uh Hb).size _).trans ((below_regrown _ _ _).mono (by simp;have:=(uh Hb).size;omega)))⟩
       case measure=>simp [intOf];omega
      ·have hF1:0<=F:=by omega
       have hF2:(F == -1)=false:=by simpa using hF0
       have hF3:(F != -1)=true:=by simpa using hF0
       clear hF0
       go_wp2_with fail
       refine wp_region_quiet_below (by kernel_rfl) (by kernel_rfl) ?_
       repeat (go_big_quiet_step (first | exact Calls.regrown_of (Wf _ _ _) | exact Calls.regrown_of (Xl _ _ _ _ _) | exact Calls.regrown_of (US (uh HF) ((uh Hip).below (below_regrown _ _ _)))))
       refine wpQuiet_nil ?_
       intro _ hw'
       obtain ⟨⟨dq,osq⟩,hw''⟩:=hw'
       subst hw''
       go_wp2_with fail
       go_ret
       exact ⟨Z5 (PP hlt (Ft (uh Hp) (by rw [uh HF];exact hF1))).symm,(uh Hb).trans (((Below.refl _ _).alloc (uh Hb).size _).trans ((below_regrown _ _ _).mono (by simp;have:=(uh Hb).size;omega)))⟩
    ·obtain rfl:k=0:=by omega
     obtain rfl:F= -1:=by simp at hFb;omega
     simp only [Nat.zero_mul,Nat.add_zero] at c0 c1 k0 k1
     clear hcl hz
     go_wp2_with fail
     refine wp_region_quiet_below (by kernel_rfl) (by kernel_rfl) ?_
     repeat (go_big_quiet_step (first | exact Calls.regrown_of (Wf _ _ _) | exact Calls.regrown_of (Xl _ _ _ _ _) | exact Calls.regrown_of (US (uh HF) ((uh Hip).below (below_regrown _ _ _)))))
     refine wpQuiet_nil ?_
     intro _ hw'
     obtain ⟨⟨dq,osq⟩,hw''⟩:=hw'
     subst hw''
     go_wp2_with fail
     go_roundw
     case rel=>exact ⟨1,by omega,by go_num,Yn (uh Hst) (Fp (uh Hp) hpb),(uh Hb).trans (((Below.refl _ _).alloc (uh Hb).size _).trans ((below_regrown _ _ _).mono (by simp;have:=(uh Hb).size;omega)))⟩
     case measure=>simp [intOf];omega
  ·obtain rfl:k=ps.length:=by omega
   go_wp2_with fail
   go_ret
   exact ⟨Z5 (Mt (by omega) (uh Hst)).symm,hb⟩
end Go.Proofs.YtnponpamjddpjaaGreat
