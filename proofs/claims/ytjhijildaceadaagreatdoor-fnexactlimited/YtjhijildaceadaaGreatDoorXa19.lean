/- Part 19 of what the proof rests on. No condition but those that a theorem names. -/
import Derived.Test.YtjhijildaceadaaGreatDoorXa18
set_option maxHeartbeats 8000000
set_option maxRecDepth 100000
namespace Go.Proofs.YtjhijildaceadaaGreatDoor
open Go.ChangeShapes Go.WideShapes Go.ChangeAt Go.RowKit Go.Sort
set_option linter.unusedVariables false
variable {w w' w0 w1 w2 w3 w₀ wr W W' X A B C : World} {v v0 v1 v2 v3 v4 u u0 u1 u2 u3 u4 : Value} {m : Z4}
structure Fe (m:Z4):Prop where
 guilds:Zd m.guilds=true
 lo:∀ i,i<m.smiths.length->(Z8 m.smiths i).1 ≠ 0-> -1<=(Z8 m.smiths i).2.2.2.2.1
 hi:∀ i,i<m.smiths.length->(Z8 m.smiths i).1 ≠ 0->(Z8 m.smiths i).2.2.2.2.1<m.guilds.length
theorem Fv {s:Z2} (h:ZW s=true):s.1 ≠ 0:=fun e=>by unfold ZW at h;rw [e] at h;cases h
theorem PA  {k:Nat} (h:Smy w v0 v1 v2 v3 v4 m) (hg:Zd m.guilds=true) (hk:k<m.smiths.length) (g0 : -1<=(Z8 m.smiths k).2.2.2.2.1) (g1:(Z8 m.smiths k).2.2.2.2.1<m.guilds.length) :
  Calls Tryz.prog 223 #[.agg #[v0,v1,v2,v3,v4,.int .i64 m.now],.int .i64 (k:Int)] w fun e w'=>e= .returned (.int .i64 (ZC m (k:Int)))/\Below w.heap.size w w':=by
 have hw:ZC m (k:Int)=PO m.guilds (Z8 m.smiths k):=rfl
 rw [hw]
 clear hw
 have Hv:=Z9 h
 obtain ⟨h0,h1,h2,h3,h4⟩:=h
 obtain ⟨a0,p0,rfl,hc0,hm0⟩:=IsRooms.shape h0
 obtain ⟨a1,p1,rfl,hc1,hm1⟩:=IsRec.shape h1
 obtain ⟨a2,p2,rfl,hc2,hm2,r2⟩:=h2
 obtain ⟨a3,p3,rfl,hc3,hm3⟩:=IsRec.shape h3
 obtain ⟨a4,p4,rfl,hc4,hm4⟩:=IsRec.shape h4
 clear h0 h1 h3 h4
 rcases r2 with e0 | ⟨sb,off,rfl,hbw,hcl⟩
 ·rw [e0] at hk;simp at hk
 obtain ⟨d0,d1,d2,d3,d4,d5,d6,d7,d8,d9,d10⟩:=ZI hcl hk
 clear hcl
 generalize Z8 m.smiths k=ss at *
 obtain ⟨st,be,rk,my,gu,lo,hi,hd,ca,ut,wk⟩:=ss
 simp only at d0 d1 d2 d3 d4 d5 d6 d7 d8 d9 d10 g0 g1
 have Hg:=Z9 hg
 clear hg
 go_enter Tryz.func223,Tryz.ntmps223
 go_wp2_with fail
 have BB:Hid (Below w.heap.size w ((w.alloc (.cells #[.slice a0 m.rooms.length p0,.slice a1 m.guilds.length p1,.slice (some ⟨sb,off,none⟩) m.smiths.length p2,.slice a3 m.desks.length p3,.slice a4 m.paces.length p4,.int .i64 m.now] 32)).alloc (.cells #[.int .i64 st,.int .i64 be,.int .i64 rk,.int .i64 my,.int .i64 gu,.int .i64 lo,.int .i64 hi,.int .i64 hd,.int .i64 ca,.int .i64 ut,.int .i64 wk] 43))):=Z9 (((Below.refl _ _).alloc (Nat.le_refl _) _).alloc (by simp) _)
 have Hv2:=Z9 ((uh Hv).below (uh BB)).guilds
 have ks:=Z9 (Blk.new (w.alloc (.cells #[.slice a0 m.rooms.length p0,.slice a1 m.guilds.length p1,.slice (some ⟨sb,off,none⟩) m.smiths.length p2,.slice a3 m.desks.length p3,.slice a4 m.paces.length p4,.int .i64 m.now] 32)) 43 #[.int .i64 st,.int .i64 be,.int .i64 rk,.int .i64 my,.int .i64 gu,.int .i64 lo,.int .i64 hi,.int .i64 hd,.int .i64 ca,.int .i64 ut,.int .i64 wk])
 simp only [World.size_alloc] at ks
 generalize (w.alloc (.cells #[.slice a0 m.rooms.length p0,.slice a1 m.guilds.length p1,.slice (some ⟨sb,off,none⟩) m.smiths.length p2,.slice a3 m.desks.length p3,.slice a4 m.paces.length p4,.int .i64 m.now] 32)).alloc (.cells #[.int .i64 st,.int .i64 be,.int .i64 rk,.int .i64 my,.int .i64 gu,.int .i64 lo,.int .i64 hi,.int .i64 hd,.int .i64 ca,.int .i64 ut,.int .i64 wk] 43)=W at *
 refine (PE gu lo hi (uh Hv2) (Lh (uh Hg) m.guilds.length gu (uh Hv2) g0 g1 g1)).mono ?_
 rintro e w1 ⟨rfl,hb⟩
 replace ks:=bl ks hb
 replace BB:=bt BB hb
 have x9:=(uh ks).cell (i:=9) (v:= .int .i64 ut) rfl
 clear hb d0 d1 d2 d3 d4 d5 d6 d7 d8 d9 d10
 go_wp2_with (go_at_call 281;refine (Tz _ _ _ _).mono ?_;rintro e w' ⟨rfl,h9⟩;subst w')
 go_ret
 exact ⟨rfl,uh BB⟩
theorem Ij (m:Z4) (but:Int) {q:List Z6} {k:Nat} (hk:k<q.length):VJ m but (q.take (k+1))=if (Z7 q k).2=but then VJ m but (q.take k) else VJ m but (q.take k)+ZC m (Z7 q k).2:=by
 have:q.take (k+1)=q.take k++[Z7 q k]:=by
  rw [List.take_succ_eq_append_getElem hk];unfold Z7;simp [List.getD,hk]
 rw [this,Ii]
theorem UJ  (b but:Int) (h:Smy w v0 v1 v2 v3 v4 m) (hG:Fe m) (hl:m.smiths.length<=800) :
  Calls Tryz.prog 160 #[.agg #[v0,v1,v2,v3,v4,.int .i64 m.now],.int .i64 b,.int .i64 but] w fun e w'=>e= .returned (.int .i64 (ZB m b but))/\Below w.heap.size w w':=by
 have Hv:=Z9 (h.alloc (.cells #[v0,v1,v2,v3,v4,.int .i64 m.now] 32))
 obtain ⟨a0,p0,a1,p1,a2,p2,a3,p3,a4,p4,rfl,rfl,rfl,rfl,rfl,_,_,_,_,_,_,_,_,_,_⟩:=h.five
 clear h
 have HG:=Z9 hG
 clear hG
 go_enter Tryz.func160,Tryz.ntmps160
 go_wp2_with fail
 refine (Qa b (uh Hv) hl).mono ?_
 rintro e w1 ⟨v',rfl,he,hb⟩
 have kb:Hid (Blk w1 w.heap.size 32 #[.slice a0 m.rooms.length p0,.slice a1 m.guilds.length p1,.slice a2 m.smiths.length p2,.slice a3 m.desks.length p3,.slice a4 m.paces.length p4,.int .i64 m.now]):=Z9 ((Blk.new w _ _).below hb (by simp))
 have BB:Hid (Below w.heap.size w w1):=Z9 (((Below.refl _ _).alloc (Nat.le_refl _) _).trans (hb.mono (by simp)))
 replace Hv:=Z9 ((uh Hv).below hb)
 have hq:=UG m.smiths b m.smiths.length
 have hmem:=Yl m.smiths b
 have Hu:Hid (ZB m b but=VJ m but (atV m.smiths b m.smiths.length)):=Z9 rfl
 have hmq:∀ x ∈ atV m.smiths b m.smiths.length,∃ j:Nat,j<m.smiths.length/\ZW (Z8 m.smiths j)=true/\x.2=(j:Int):=fun x hx=>by
  obtain ⟨j,hj,_,hp,rfl⟩:=(hmem x m.smiths.length).1 hx
  exact ⟨j,hj,hp,rfl⟩
 have Hm:=Z9 hmq
 clear hmem hmq hb
 have hp:=EntsAt.paces he
 clear he
 generalize atV m.smiths b m.smiths.length=q at *
 obtain ⟨qa,qc,rfl,hqc,hqm,hr⟩:=hp
 have Hr:=Z9 hr
 clear hr
 go_wp2_with fail
 go_loopw [7,9] (fun n i wr=> ∃ k:Nat,k<=q.length/\i= .int .i64 k/\n= .int .i64 (VJ m but (q.take k))/\Below w1.heap.size w1 wr) (fun _ i _=>q.length-(intOf i).toNat)
 case atStart=>exact ⟨0,Nat.zero_le _,rfl,rfl,Below.refl _ _⟩
 case round=>
  obtain ⟨k,hk,rfl,rfl,hbr⟩:=hrel
  have hub:=Kq m but (q.take k)
  have htl:(q.take k).length<=k:=by rw [List.length_take];omega
  by_cases hlt:k<q.length
  ·rcases uh Hr with e0 | ⟨eb,eo,rfl,hbw,hcl⟩
   ·rw [e0] at hlt;simp at hlt
   obtain ⟨c0,c1⟩:=hcl k hlt
   rw [<-hbr.cell (p:=⟨eb,eo+k*2,none⟩) hbw] at c0
   rw [<-hbr.cell (p:=⟨eb,eo+k*2+1,none⟩) hbw] at c1
   obtain ⟨j,hj,hjp,hje⟩:=uh Hm _ (Ys hlt)
   have Hjp:=Z9 (Fv hjp)
   clear hjp
   have hst:=Ij m but hlt
   have hwb:=Rt m (j:Int)
   rw [hje] at c1 hst
   clear hje hcl
   generalize (Z7 q k).1=hd at *
   have Hst:=Z9 hst
   clear hst
   generalize VJ m but (q.take k)=u at *
   have u1:u<=1024*800:=by omega
   have kb1:=(uh kb).below hbr (uh kb).lt
   have Hv1:=Z9 ((uh Hv).below hbr)
   have Kb1:=Z9 kb1
   have Hbr:=Z9 hbr
   clear hbr kb1
   obtain ⟨x0,x1,x2,x3,x4,x5⟩:=(uh Kb1).c6
   by_cases hbut:(j:Int)=but
   ·have hbn:((j:Int) ==but)=true:=by simpa using hbut
    go_wp2_with fail
    go_roundw
    case rel=>exact ⟨k+1,by omega,by go_num,by rw [uh Hst,if_pos hbut],uh Hbr⟩
    case measure=>simp [intOf];omega
   ·have hbn:((j:Int) ==but)=false:=by simpa using hbut
    have Hw:=Z9 (fun (W:World) (hW:Below wr.heap.size wr W)=>PA ((uh Hv1).below hW) (uh HG).guilds hj ((uh HG).lo j hj (uh Hjp)) ((uh HG).hi j hj (uh Hjp)))
    generalize ZC m (j:Int)=wa at *
    have y0:=cell_regrown x0
    have y1:=cell_regrown x1
    have y2:=cell_regrown x2
    have y3:=cell_regrown x3
    have y4:=cell_regrown x4
    have y5:=cell_regrown x5
    have z0:=cell_regrown c0
    have z1:=cell_regrown c1
    go_wp2_with fail
    refine wp_region_quiet_below (by kernel_rfl) (by kernel_rfl) ?_
    repeat (go_big_quiet_step (exact Calls.regrown_of (uh Hw _ (below_regrown _ _ _))))
    refine wpQuiet_nil ?_
    intro _ hw'
    obtain ⟨⟨dq,osq⟩,hw''⟩:=hw'
    subst hw''
    go_wp2_with fail
    go_roundw
    case rel=>exact ⟨k+1,by omega,by go_num,by rw [uh Hst,if_neg hbut],(uh Hbr).trans ((below_regrown _ _ _).mono (uh Hbr).size)⟩
    case measure=>simp [intOf];omega
  ·obtain rfl:k=q.length:=by omega
   rw [List.take_length]
   go_wp2_with fail
   go_ret
   exact ⟨ZS (uh Hu).symm,(uh BB).trans (hbr.mono (uh BB).size)⟩
structure Sane (m:Z4):Prop where
 hall:YN m.rooms=true
 desks:(m.desks.length:Int)=Z0 m.rooms
 guilded:Fe m
 few:m.smiths.length<=12
theorem Sane.bench (h:Sane m) {b:Nat} (hb:b<m.desks.length):YV m.rooms (b:Int)=true:=LV h.hall (by omega) (by have:=h.desks;omega)
theorem Sane.eight (h:Sane m):m.desks.length<=8:=by have:=(Zi h.hall).2.2.2;have:=h.desks;omega
theorem Loose.sane (h:Loose m):Sane m:=by
 have hd:=h.head
 unfold Yc at hd
 simp only [Bool.and_eq_true,decide_eq_true_eq] at hd
 obtain ⟨h1,h2,h3,h4,_⟩:=hd
 refine ⟨h1,h4,⟨h2,fun i hi hs=> ?_,fun i hi hs=>(h.limits hi hs).2.1⟩,h3⟩
 have hp:=(h.limits hi hs).1
 generalize Z8 m.smiths i=s at *
 obtain ⟨st,be,rk,my,gu,lo',hi',hd,ca,ut,wk⟩:=s
 exact (Zk hp).2.2.2.2.1.1
theorem Sane.with (h:Sane m) {k:Nat} (hk:k<m.smiths.length) (hs:(Z8 m.smiths k).1 ≠ 0) (b:Int):Sane (Yg m (k:Int) b):=by
 have hset:∀ i,Z8 (Yg m (k:Int) b).smiths i=if i=k then Vd (Z8 m.smiths k) b else Z8 m.smiths i:=fun i=>by
  unfold Yg
  simp only [Int.toNat_natCast]
  exact ZV hk i
 refine ⟨h.hall,h.desks,⟨h.guilded.guilds,fun i hi hne=> ?_,fun i hi hne=> ?_⟩,by unfold Yg;simpa using h.few⟩
 ·have hi':i<m.smiths.length:=by unfold Yg at hi;simpa using hi
  rw [hset] at hne ⊢
  by_cases e:i=k
  ·rw [if_pos e];exact h.guilded.lo k hk hs
  ·rw [if_neg e] at hne ⊢;exact h.guilded.lo i hi' hne
 ·have hi':i<m.smiths.length:=by unfold Yg at hi;simpa using hi
  rw [hset] at hne ⊢
  by_cases e:i=k
  ·rw [if_pos e];exact h.guilded.hi k hk hs
  ·rw [if_neg e] at hne ⊢;exact h.guilded.hi i hi' hne
theorem Sane.few' (h:Sane m) (hp:m.paces.length<=1000):Few m:=by
 obtain ⟨r1,r2,r3,r4⟩:=Zi h.hall
 have hg:=(RC h.guilded.guilds).2
 refine ⟨by omega,fun r hr=> ?_,by omega,by have:=h.few;omega,by have:=h.eight;omega,hp⟩
 have hrb:=List.all_eq_true.1 r3 r hr
 unfold Zm at hrb
 simp only [Bool.and_eq_true] at hrb
 have:=ZP hrb.2.1
 omega
theorem NZ  {rs:List Z3} (n:Int) (h:IsRooms w v rs) (hbn:YV rs n=true) :
  Calls Tryz.prog 227 #[.agg #[v],.int .i64 n] w fun e w'=>e= .returned (.int .i64 (WT rs n))/\Below w.heap.size w w':=by
 obtain ⟨a,cap,rfl,hc,hm,hr⟩:=h
 have Hr:=Z9 hr
 have H:=Z9 hbn
 have hh:=(XC hbn).1
 have hn0:=(XC hbn).2.1
 have hn1:n<12:=by have h1:=(XC hbn).2.2;have:=(Zi hh).2.2.2;omega
 have Hh:=Z9 hh
 have hl3:rs.length<=3:=(Zi hh).2.1
 clear hr hbn hh
 go_enter Tryz.func227,Tryz.ntmps227
 go_wp2_with fail
 go_loop [1,5] (fun q i=> ∃ r:Nat,r<=rs.length/\i= .int .i64 r/\q= .int .i64 (n-Z0 (rs.take r))/\(∀ j,j<r->Z0 (rs.take (j+1))<=n)) (fun _ i=>rs.length-(intOf i).toNat)
 case atStart=>exact ⟨0,Nat.zero_le _,rfl,by simp [Z0],fun j hj=>by omega⟩
 case round=>
  obtain ⟨r,hr,rfl,rfl,hl⟩:=hrel
  have hlt:=Va (uh H) hr hl
  rcases uh Hr with e0 | ⟨b,off,rfl,hbw,hcl⟩
  ·rw [e0] at hlt;simp at hlt
  obtain ⟨c0,pv,c1,hip⟩:=hcl r hlt
  have hne:b ≠ w.heap.size:=Nat.ne_of_lt hbw
  have Hl:=Z9 hl
  have hb0:=Ya (uh Hh) r hr
  have hb1:=Ya (uh Hh) (r+1) hlt
  have Hs:=Z9 (Yy rs hlt)
  have HN:Hid (n<Z0 (rs.take (r+1))->WT rs n=r):=Z9 (fun hx=>Tb hlt hx (uh Hl))
  have HM:Hid (Z0 (rs.take (r+1))<=n-> ∀ j,j<r+1->Z0 (rs.take (j+1))<=n):=Z9 (fun hx=>Y2 (uh Hl) hx)
  rw [Yy rs hlt] at hb1 HN HM
  generalize Z0 (rs.take r)=s at *
  generalize (ZY rs r).1=rb at *
  clear hcl hip hl
  by_cases hq:rb<=n-s
  ·go_wp2_with fail
   go_round
   case rel=>exact ⟨r+1,by omega,by go_num,by rw [uh Hs];congr 1;omega,uh HM (by omega)⟩
   case measure=>simp [intOf];omega
  ·go_wp2_with fail
   go_ret
   exact ⟨ZS (by rw [uh HN (by omega)]),(Below.refl _ _).alloc (Nat.le_refl _) _⟩
theorem FC {a:Option Addr} {cap:Nat} {rs:List Z3} {r:Nat} (h:IsRooms w (.slice a rs.length cap) rs) (hr:r<rs.length) (hh:YN rs=true) :
  ∃ b off a' cap',a=some ⟨b,off,none⟩/\b<w.heap.size/\w.cell? ⟨b,off+r*2+1,none⟩=some (.slice (some a') (ZY rs r).2.length cap')/\1<=(ZY rs r).2.length/\(ZY rs r).2.length<=4/\a'.spot=none/\a'.block<w.heap.size/\w.cell? ⟨a'.block,a'.off+((ZY rs r).2.length-1)*2,none⟩=some (.int .i64 (U7 (ZY rs r).2)):=by
 obtain ⟨a0,cap0,he,hc,hm,hr'⟩:=h
 cases he
 rcases hr' with e0 | ⟨b,off,rfl,hbw,hcl⟩
 ·rw [e0] at hr;simp at hr
 obtain ⟨_,pv,c1,hip⟩:=hcl r hr
 have hb:=Rd (SA (Zi hh).2.2.1 hr)
 obtain ⟨pa,pcap,rfl,_,_,hp⟩:=hip
 rcases hp with e1 | ⟨b',off',rfl,hbw',hcl'⟩
 ·rw [e1] at hb;simp at hb
 ·exact ⟨b,off,⟨b',off',none⟩,pcap,rfl,hbw,c1,hb.2.2.1,hb.2.2.2,rfl,hbw',(hcl' _ (by omega)).1⟩
theorem Pa  {rs:List Z3} (n:Int) (h:IsRooms w v rs) :
  Calls Tryz.prog 356 #[.agg #[v],.int .i64 n] w fun e w'=>e= .returned (.int .i64 (YP rs n))/\Below w.heap.size w w':=by
 have Hv:=Z9 h
 obtain ⟨a,cap,rfl,hc,hm⟩:∃ a cap,v= .slice a rs.length cap/\rs.length<=cap/\cap<=9223372036854775807:=by obtain ⟨a,cap,rfl,hc,hm,_⟩:=h;exact ⟨a,cap,rfl,hc,hm⟩
 clear h
 cases h1:YV rs n
 ·have H2:=Z9 (CS h1)
  have H3:=Lx h1
  have H3':=Z9 H3
  clear H3 h1
  go_enter Tryz.func356,Tryz.ntmps356
  go_wp2_with fail
  refine (SM n ((uh Hv).alloc _)).mono ?_
  rw [uh H3']
  rintro e w1 ⟨rfl,hb⟩
  have Hb:=Z9 hb
  clear hb
  go_wp2_with fail
  go_ret
  exact ⟨ZS (uh H2).symm,((Below.refl _ _).alloc (Nat.le_refl _) _).trans ((uh Hb).mono (by simp))⟩
 ·have H2:=Z9 (QS h1)
  have H3:=Z9 (FB h1)
  have hlt:=Ov h1
  have Hh:=Z9 (XC h1).1
  have hl3:rs.length<=3:=(Zi (XC h1).1).2.1
  clear h1
  go_enter Tryz.func356,Tryz.ntmps356
  go_wp2_with fail
  refine (SM n ((uh Hv).alloc _)).mono ?_
  rw [uh H3]
  rintro e w1 ⟨rfl,hb⟩
  have hz:w.heap.size+1<=w1.heap.size:=by have:=hb.size;simpa using this
  have hbox:w1.cell? ⟨w.heap.size,0,none⟩=some (.slice a rs.length cap):=by rw [hb.cell (p:=⟨w.heap.size,0,none⟩) (by simp)];simp
  have hw1:=((uh Hv).alloc _).below hb
  have Hb:=Z9 hb
  obtain ⟨b,off,a',cap',rfl,hbw,d1,p1,p4,sp,hbw',d2⟩:=FC hw1 hlt (uh Hh)
  obtain ⟨b',off',sp'⟩:=a'
  simp only at sp hbw' d2
  subst sp
  clear hb hw1 H3
  generalize WT rs n=r at *
  generalize U7 (ZY rs r).2=fo at *
  generalize (ZY rs r).2.length=m at *
  have hr0:((r:Int) == -1)=false:=beq_eq_false_iff_ne.2 (by omega)
  go_wp2_with fail
  go_ret
  exact ⟨ZS (uh H2).symm,((Below.refl _ _).alloc (Nat.le_refl _) _).trans ((uh Hb).mono (by simp))⟩
def VW (rs:List Z3) (n:Int):Bool:=YN rs && inB n 0 ((rs.length:Int)-1)
def Xo (lo hi:Int):Int:=(2:Int) ^ hi.toNat-2 ^ lo.toNat
def V2 (rs:List Z3) (n:Int):Int:=if VW rs n=true then Xo (Z0 (rs.take n.toNat)) (Z0 (rs.take (n.toNat+1))) else -1
theorem GZ {rs:List Z3} {n:Int} (h:VW rs n=true):V2 rs n=Xo (Z0 (rs.take n.toNat)) (Z0 (rs.take (n.toNat+1))):=by unfold V2;rw [if_pos h]
theorem GY {rs:List Z3} {n:Int} (h:VW rs n=false):V2 rs n= -1:=by unfold V2;rw [h];rfl
theorem Es {rs:List Z3} {n:Int} (h:YN rs=false):VW rs n=false:=by unfold VW;rw [h];rfl
theorem L5 {rs:List Z3} {n:Int} (h:n<0\/rs.length<=n):VW rs n=false:=by unfold VW;rw [Xj (by omega)];simp
theorem Qk {s:Int} (h0:0<=s) (h1:s<=12):1<=(2:Int) ^ s.toNat/\(2:Int) ^ s.toNat<=4096:=by
 have key:∀ k:Fin 13,1<=(2:Int) ^ k.val/\(2:Int) ^ k.val<=4096:=by decide
 exact key ⟨s.toNat,by omega⟩
theorem Ua {x:Int} (h0 : -100000<=x) (h1:x<=100000):wrap64 x=x:=by unfold wrap64;omega
theorem VU  {rs:List Z3} (n:Int) (h:IsRooms w v rs) :
  Calls Tryz.prog 300 #[.agg #[v],.int .i64 n] w fun e w'=>e= .returned (.int .i64 (V2 rs n))/\Below w.heap.size w w':=by
 have Hv:=Z9 h
 obtain ⟨a,cap,rfl,hc,hm⟩:∃ a cap,v= .slice a rs.length cap/\rs.length<=cap/\cap<=9223372036854775807:=by obtain ⟨a,cap,rfl,hc,hm,_⟩:=h;exact ⟨a,cap,rfl,hc,hm⟩
 clear h
 have Hb0:Hid (Below w.heap.size w (w.alloc (.cells #[.slice a rs.length cap] 26))):=Z9 ((Below.refl _ _).alloc (Nat.le_refl _) _)
 cases h1:YN rs
 ·have H2:=Z9 (GY (Es (n:=n) h1))
  go_enter Tryz.func300,Tryz.ntmps300
  go_wp2_with fail
  refine (Yo ((uh Hv).alloc _)).mono ?_
  rintro e w1 ⟨rfl,hb⟩
  have Hb:=Z9 hb
  clear hb
  go_wp2_with fail
  go_ret
  exact ⟨ZS (uh H2).symm,(uh Hb0).trans ((uh Hb).mono (by simp))⟩
 by_cases h2:n<0
 ·have H2:=Z9 (GY (L5 (rs:=rs) (.inl h2)))
  go_enter Tryz.func300,Tryz.ntmps300
  go_wp2_with fail
  refine (Yo ((uh Hv).alloc _)).mono ?_
  rintro e w1 ⟨rfl,hb⟩
  have Hb:=Z9 hb
  clear hb
  go_wp2_with fail
  go_ret
  exact ⟨ZS (uh H2).symm,(uh Hb0).trans ((uh Hb).mono (by simp))⟩
 by_cases h3:(rs.length:Int)<=n
 ·have H2:=Z9 (GY (L5 (rs:=rs) (.inr h3)))
  go_enter Tryz.func300,Tryz.ntmps300
  go_wp2_with fail
  refine (Yo ((uh Hv).alloc _)).mono ?_
  rintro e w1 ⟨rfl,hb⟩
  have hbox:w1.cell? ⟨w.heap.size,0,none⟩=some (.slice a rs.length cap):=by rw [hb.cell (p:=⟨w.heap.size,0,none⟩) (by simp)];simp
  have Hb:=Z9 hb
  clear hb
  go_wp2_with fail
  go_ret
  exact ⟨ZS (uh H2).symm,(uh Hb0).trans ((uh Hb).mono (by simp))⟩
 have h4:VW rs n=true:=by unfold VW;rw [h1,Zj (by omega) (by omega)];rfl
 have H2:=Z9 (GZ h4)
 obtain ⟨r,rfl⟩:=Int.eq_ofNat_of_zero_le (show 0<=n by omega)
 have H1:=Z9 h1
 have Ha:=Z9 (Sb h1)
 have hl3:rs.length<=3:=(Zi h1).2.1
 have hb0:=Ya h1 r (by omega)
 have hb1:=Ya h1 (r+1) (by omega)
 go_enter Tryz.func300,Tryz.ntmps300
 go_wp2_with fail
 refine (Yo ((uh Hv).alloc _)).mono ?_
 rintro e w1 ⟨rfl,hb⟩
 have hbox:w1.cell? ⟨w.heap.size,0,none⟩=some (.slice a rs.length cap):=by rw [hb.cell (p:=⟨w.heap.size,0,none⟩) (by simp)];simp
 have k0:=cell_regrown hbox
 have Hb:=Z9 hb
 have Hw:=Z9 (((uh Hv).alloc _).below hb)
 clear hb h4
 go_wp2_with fail
 refine wp_region_quiet_below (by kernel_rfl) (by kernel_rfl) ?_
 repeat (go_big_quiet_step (first | exact Calls.regrown_of (WK (((uh Hw).below (below_regrown _ _ _)).taken (n:=r) (by omega)) ((uh Ha).taken _)) | exact Calls.regrown_of (WK (((uh Hw).below (below_regrown _ _ _)).taken (n:=r+1) (by omega)) ((uh Ha).taken _))))
 refine wpQuiet_nil ?_
 intro _ hw'
 obtain ⟨⟨dq,osq⟩,hw''⟩:=hw'
 subst hw''
 rw [Int.toNat_natCast] at H2
 generalize Z0 (rs.take r)=s0 at *
 generalize Z0 (rs.take (r+1))=s1 at *
 obtain ⟨x0,x1⟩:=hb0
 obtain ⟨y0,y1⟩:=hb1
 go_wp2_with fail
 go_quiet (fail)
 go_wp2_with fail
 go_ret
 refine ⟨ZS ?_,(uh Hb0).trans (((uh Hb).trans (XI ((below_regrown _ _ _).mono (uh Hb).size) _)).mono (by simp))⟩
 have p0:=Qk x0 x1
 have p1:=Qk y0 y1
 rw [uh H2,Ua (x:=2 ^ s1.toNat) (by omega) (by omega),Ua (x:=2 ^ s0.toNat) (by omega) (by omega),Ua (x:=2 ^ s1.toNat-2 ^ s0.toNat) (by omega) (by omega)]
 rfl
theorem Xs {rs:List Z3} (h:rs.all Zm=true) {i:Nat} : ∀ d,i+d<=rs.length->Z0 (rs.take i)<=Z0 (rs.take (i+d))
 | 0,_=>Int.le_refl _
 | d+1,hd=>by
  have ih:=Xs h (i:=i) d (by omega)
  have hb:=Rd (SA h (j:=i+d) (by omega))
  rw [<-Nat.add_assoc,Yy rs (by omega)];omega
theorem FD {rs:List Z3} {n:Int} (h:YV rs n=true) {r:Nat} (hr:r<rs.length):WT rs n=r ↔ Z0 (rs.take r)<=n/\n<Z0 (rs.take (r+1)):=by
 have hb:=XC h
 have ha:=(Zi hb.1).2.2.1
 have key:∀ d q:Nat,q+d=rs.length->(∀ j,j<q->Z0 (rs.take (j+1))<=n)->Z0 (rs.take (WT rs n))<=n/\n<Z0 (rs.take (WT rs n+1)):=by
  intro d
  induction d with
  | zero=>intro q hq hl;have:=Va h (by omega) hl;omega
  | succ d ih=>
   intro q hq hl
   have hlt:=Va h (r:=q) (by omega) hl
   by_cases hc:n<Z0 (rs.take (q+1))
   ·rw [Tb hlt hc hl]
    refine ⟨?_,hc⟩
    cases q with
    | zero=>simp [Z0];omega
    | succ q=>exact hl q (by omega)
   ·exact ih (q+1) (by omega) (Y2 hl (by omega))
 constructor
 ·intro e;have:=key rs.length 0 (by omega) (fun j hj=>by omega);rwa [e] at this
 ·intro hx
  refine Tb hr hx.2 (fun j hj=> ?_)
  have:=Xs ha (i:=j+1) (r-(j+1)) (by omega)
  rw [show j+1+(r-(j+1))=r by omega] at this
  omega
theorem PC (b:Int) (h0:0<=b) (h1:b<=12) (w:World):Calls Tryz.prog 62 #[.int .i64 b] w fun e w'=>e= .returned (.int .i64 (2 ^ b.toNat))/\w'=w:=by
 go_enter Tryz.func62,Tryz.ntmps62
 go_wp2
 all_goals
  go_ret
  refine ⟨ZS ?_,rfl⟩
  have:=Qk h0 h1
  exact Ua (by omega) (by omega)
open Go.ChangeShapes Go.WideShapes Go.ChangeAt Go.RowKit
def Vm (s:Int):Nat->List Int
 | 0=>[]
 | k+1=>if VY s k=true then Vm s k++[(k:Int)] else Vm s k
def TS (s:Int):List Int:=Vm s 8
def Wd (s:Int):Int:=(TS s).headD (-1)
theorem Ti {s:Int} {k:Nat} (h:VY s k=true):Vm s (k+1)=Vm s k++[(k:Int)]:=by simp [Vm,h]
theorem Vc {s:Int} {k:Nat} (h:VY s k=false):Vm s (k+1)=Vm s k:=by simp [Vm,h]
theorem Kn (s:Int):∀ k,(Vm s k).length<=k
 | 0=>by simp [Vm]
 | k+1=>by
  have:=Kn s k
  cases h:VY s k
  ·rw [Vc h];omega
  ·rw [Ti h];simp;omega
theorem Mv {s:Int} (h:inB s 0 255=false):∀ k,Vm s k=[]
 | 0=>rfl
 | k+1=>by rw [Vc (Gz (.inl h))];exact Mv h k
theorem DW (s:Int):∀ k,k<=8->Vm s k <+: TS s:=by
 have step:∀ k,Vm s k <+: Vm s (k+1):=fun k=>by
  cases h:VY s k
  ·rw [Vc h];exact List.prefix_refl _
  ·rw [Ti h];exact List.prefix_append _ _
 have go:∀ d k,Vm s k <+: Vm s (k+d):=by
  intro d
  induction d with
  | zero=>intro k;exact List.prefix_refl _
  | succ d ih=>intro k;exact (ih k).trans (step (k+d))
 intro k hk
 have:=go (8-k) k
 rwa [show k+(8-k)=8 by omega] at this
theorem Ed {lo hi:Int} (h0:0<=lo) (h1:lo<=hi) (h2:hi<=8):Xo 0 lo+Xo lo hi=Xo 0 hi/\bits .or .i64 (Xo 0 lo) (Xo lo hi)=Xo 0 hi:=by
 have key:∀ hi:Fin 9,∀ lo:Fin 9,lo.val<=hi.val->Xo 0 lo.val+Xo lo.val hi.val=Xo 0 hi.val/\bits .or .i64 (Xo 0 lo.val) (Xo lo.val hi.val)=Xo 0 hi.val:=by decide +kernel
 have:=key ⟨hi.toNat,by omega⟩ ⟨lo.toNat,by omega⟩ (by show lo.toNat<=hi.toNat;omega)
 simp only [show ((lo.toNat:Nat):Int)=lo by omega,show ((hi.toNat:Nat):Int)=hi by omega] at this
 exact this
theorem CH {lo hi b:Int} (h0:0<=lo) (h1:lo<=hi) (h2:hi<=8) (hb0 : -1<=b) (hb1:b<=8):VY (Xo lo hi) b=decide (lo<=b/\b<hi):=by
 have key:∀ b:Fin 10,∀ hi:Fin 9,∀ lo:Fin 9,lo.val<=hi.val->VY (Xo lo.val hi.val) ((b.val:Int)-1)=decide ((lo.val:Int)<=(b.val:Int)-1/\(b.val:Int)-1<hi.val):=by decide +kernel
 have:=key ⟨(b+1).toNat,by omega⟩ ⟨hi.toNat,by omega⟩ ⟨lo.toNat,by omega⟩ (by show lo.toNat<=hi.toNat;omega)
 simp only [show ((lo.toNat:Nat):Int)=lo by omega,show ((hi.toNat:Nat):Int)=hi by omega,show (((b+1).toNat:Nat):Int)-1=b by omega] at this
 exact this
def ZZ {α:Type} [Inhabited α] (p:α->Bool) (xs:List α):Nat->List Int
 | 0=>[]
 | k+1=>if p (Z8 xs k) then ZZ p xs k++[(k:Int)] else ZZ p xs k
theorem YY {α:Type} [Inhabited α] {p:α->Bool} {xs:List α} {k:Nat} (h:p (Z8 xs k)=true):ZZ p xs (k+1)=ZZ p xs k++[(k:Int)]:=by rw [ZZ,if_pos h]
theorem Yv {α:Type} [Inhabited α] {p:α->Bool} {xs:List α} {k:Nat} (h:p (Z8 xs k)=false):ZZ p xs (k+1)=ZZ p xs k:=by rw [ZZ,if_neg (by simp [h])]
theorem WB {α:Type} [Inhabited α] (p:α->Bool) (xs:List α):∀ k,(ZZ p xs k).length<=k
 | 0=>Nat.le_refl _
 | k+1=>by
  have:=WB p xs k
  unfold ZZ
  split
  ·simp;omega
  ·omega
theorem Xn {α:Type} [Inhabited α] (p:α->Bool) (xs:List α) (x:Int):∀ k,x ∈ ZZ p xs k ↔ ∃ i:Nat,i<k/\x=(i:Int)/\p (Z8 xs i)=true
 | 0=>by simp [ZZ]
 | k+1=>by
  have ih:=Xn p xs x k
  cases h:p (Z8 xs k)
  ·rw [Yv h,ih]
   constructor
   ·rintro ⟨i,hi,h1,h2⟩
    exact ⟨i,by omega,h1,h2⟩
   ·rintro ⟨i,hi,h1,h2⟩
    by_cases hik:i=k
    ·subst hik;rw [h] at h2;cases h2
    ·exact ⟨i,by omega,h1,h2⟩
  ·rw [YY h,List.mem_append,ih]
   constructor
   ·rintro (⟨i,hi,h1,h2⟩ | h1)
    ·exact ⟨i,by omega,h1,h2⟩
    ·exact ⟨k,by omega,by simpa using h1,h⟩
   ·rintro ⟨i,hi,h1,h2⟩
    by_cases hik:i=k
    ·subst hik;right;simp [h1]
    ·exact .inl ⟨i,by omega,h1,h2⟩
theorem PR {α:Type} [Inhabited α] (p:α->Bool) (xs:List α):∀ k,decide (0<(ZZ p xs k).length)=(List.range k).any fun j=>p (Z8 xs j)
 | 0=>rfl
 | k+1=>by
  have ih:=PR p xs k
  rw [Cw,<-ih]
  cases h:p (Z8 xs k)
  ·rw [Yv h];simp
  ·rw [YY h];simp
def YH {α:Type} [Inhabited α] (p:α->Bool) (xs:List α) (k:Nat):Bool:=(List.range k).all fun j=>p (Z8 xs j)
theorem QC {α:Type} [Inhabited α] {p:α->Bool} {xs:List α} {k n:Nat} (hk:k<n) (h:p (Z8 xs k)=false):YH p xs n=false:=Rx (p:=fun j=>p (Z8 xs j)) hk h
theorem QE {α:Type} [Inhabited α] {p:α->Bool} {xs:List α} {k:Nat} (h:YH p xs k=true) (h2:p (Z8 xs k)=true):YH p xs (k+1)=true:=by unfold YH at h ⊢;rw [UA,h,h2];rfl
theorem PV {α:Type} [Inhabited α] (p q:α->Bool) (xs:List α):∀ k,(YH p xs k && YH q xs k)=YH (fun x=>p x && q x) xs k
 | 0=>rfl
 | k+1=>by
  have ih:=PV p q xs k
  unfold YH at ih ⊢
  rw [UA,UA,UA,<-ih]
  generalize ((List.range k).all fun j=>p (Z8 xs j))=a
  generalize ((List.range k).all fun j=>q (Z8 xs j))=b
  cases a<;>cases b<;>cases hp:p (Z8 xs k)<;>cases hq:q (Z8 xs k)<;>simp [hp,hq]
theorem Iq {α:Type} [Inhabited α] {p q:α->Bool} (xs:List α) (h:∀ x,p x=q x) (k:Nat):YH p xs k=YH q xs k:=by unfold YH;congr 1;funext j;exact h _
def Yb (n:Nat) (i:Int):Bool:=decide (0<=i) && decide (i<n)
def atB (b:Int) (s:Z2):Bool:=(s.1 ==2 || s.1 ==3) && s.2.1 ==b
def Zf (b:Int) (s:Z2):Bool:=s.1 ==3 && s.2.1 ==b
def Xr (n:Nat) (s:Z2):Bool:=s.1 ==0 || (s.2.2.2.2.1 == -1 || Yb n s.2.2.2.2.1)
def Xm (ds:List YG) (s:Z2):Bool:=s.1 ==0 || (Yb ds.length s.2.1 && (s.1 ==1 || ((Z8 ds s.2.1.toNat).1 && (VY s.2.2.2.1 s.2.1 && VN s.2.2.2.2.2.2.2.1 (Z8 ds s.2.1.toNat).2.2))))
def Us (ss:List Z2) (n:Nat):Bool:=decide (ss.length<=12) && (YH Zu ss ss.length && YH (Xr n) ss ss.length)
def Sh (ds:List YG) (n:Int):Bool:=decide ((ds.length:Int)=n) && (YH Vw ds ds.length && decide (0<(ZZ (fun d:YG=>d.1) ds ds.length).length))
def VO (ps:List Int) (rs:List Z3):Bool:=decide (ps.length=rs.length) && (List.range ps.length).all fun j=>Yb (ZY rs j).2.length (Z8 ps j)
def Q9 (m:Z4):Bool:=YN m.rooms && (Zd m.guilds && (Us m.smiths m.guilds.length && (Sh m.desks (Z0 m.rooms) && (VO m.paces m.rooms && inB m.now 0 1000000))))
def Wt (m:Z4):Bool:=Q9 m && YH (Xm m.desks) m.smiths m.smiths.length
def U4 (m:Z4) (b:Nat):Bool:=if (Z8 m.desks b).2.1= -1 then decide ((ZZ (atB b) m.smiths m.smiths.length).length=0) else decide ((ZZ (Zf b) m.smiths m.smiths.length).length=1) && decide (Z8 (ZZ (Zf b) m.smiths m.smiths.length) 0=(Z8 m.desks b).2.1)
def Rn (m:Z4):Bool:=(List.range m.desks.length).all (U4 m)
def DG (m:Z4):Bool:=Wt m && Rn m
theorem Ea (h m:Int):VN h m=Xe h m:=by
 unfold VN Xe WC
 rw [Bool.and_assoc]
theorem Dl (m:Z4) (s:Z2):(Zu s && (Xr m.guilds.length s && Xm m.desks s))=(YJ m s && Ye m s):=by
 cases hs:Zu s
 ·unfold YJ;rw [hs];rfl
 ·have hh:YJ m s=(s.1 ==0 || (decide (s.2.2.2.2.1<m.guilds.length) && decide (s.2.1<m.desks.length))):=by unfold YJ;rw [hs];rfl
  rw [hh,Bool.true_and]
  unfold Zu at hs
  simp only [Bool.or_eq_true] at hs
  rcases hs with hg | hp
  ·have e:=Vy hg
   subst e
   rfl
  ·obtain ⟨st,be,rk,my,gu,lo,hi,hd,ca,ut,wk⟩:=s
   obtain ⟨⟨s1,s2⟩,⟨b1,b2⟩,_,⟨m1,m2⟩,⟨g1,g2⟩,_⟩:=Zk hp
   have hmem:VY my be=Xp my be:=Dd (Zj (by omega) (by omega)) (Zj (by omega) (by omega))
   have hst0:(st ==0)=false:=by simp;omega
   have hgu:(gu == -1 || Yb m.guilds.length gu)=decide (gu<m.guilds.length):=by
    unfold Yb
    by_cases e:gu= -1
    ·subst e;simp;omega
    ·have:(gu == -1)=false:=by simpa using e
     rw [this,Bool.false_or,show decide (0<=gu)=true from decide_eq_true (by omega),Bool.true_and]
   have hbe:Yb m.desks.length be=decide (be<m.desks.length):=by
    unfold Yb
    rw [show decide (0<=be)=true from decide_eq_true (by omega),Bool.true_and]
   have hpr:ZW (st,be,rk,my,gu,lo,hi,hd,ca,ut,wk)= !(st ==1):=by
    unfold ZW
    rcases (by omega:st=1\/st=2\/st=3) with e | e | e<;>subst e<;>rfl
   unfold Xr Xm Ye
   simp only
   rw [hst0,hgu,hbe,hpr,hmem,Ea,Bool.not_not]
   simp only [Bool.false_or,Bool.and_assoc]
theorem Mm (ss:List Z2) (b:Int):∀ k:Nat,
  (match XX ss b k with
   | none=>2<=(ZZ (Zf b) ss k).length
   | some (wk,wt)=>((wk= -1/\ZZ (Zf b) ss k=[])\/(0<=wk/\ZZ (Zf b) ss k=[wk]))/\((ZZ (atB b) ss k=[]) ↔ (ZZ (Zf b) ss k=[]/\wt=false)))
 | 0=>by simp [XX,ZZ]
 | k+1=>by
  have ih:=Mm ss b k
  unfold XX
  cases hsc:XX ss b k with
  | none=>
   rw [hsc] at ih
   simp only at ih ⊢
   unfold ZZ
   split
   ·simp;omega
   ·exact ih
  | some r=>
   obtain ⟨wk,wt⟩:=r
   rw [hsc] at ih
   simp only at ih ⊢
   by_cases hat:(Z8 ss k).2.1=b/\ZW (Z8 ss k)=true
   ·rw [if_pos hat]
    have hA:atB b (Z8 ss k)=true:=by
     have h2:=hat.2
     unfold ZW at h2
     unfold atB
     rw [h2,hat.1];simp
    by_cases h2:(Z8 ss k).1=2
    ·rw [if_pos h2]
     have hW:Zf b (Z8 ss k)=false:=by unfold Zf;rw [h2];rfl
     rw [Yv hW,YY hA]
     exact ⟨ih.1,by simp⟩
    ·rw [if_neg h2]
     have h3:(Z8 ss k).1=3:=by
      have:=hat.2
      unfold ZW at this
      simp only [Bool.or_eq_true,beq_iff_eq] at this
      omega
     have hW:Zf b (Z8 ss k)=true:=by unfold Zf;rw [h3,hat.1];simp
     rw [YY hW,YY hA]
     by_cases hwk:0<=wk
     ·rw [if_pos hwk]
      rcases ih.1 with ⟨e,_⟩ | ⟨_,e⟩
      ·omega
      ·simp only
       rw [e];simp
     ·rw [if_neg hwk]
      rcases ih.1 with ⟨_,e⟩ | ⟨e,_⟩
      ·simp only
       rw [e];simp
      ·omega
   ·rw [if_neg hat]
    have hA:atB b (Z8 ss k)=false:=by
     cases hc:atB b (Z8 ss k)
     ·rfl
     ·exfalso
      apply hat
      unfold atB at hc
      simp only [Bool.and_eq_true,beq_iff_eq] at hc
      exact ⟨hc.2,by unfold ZW;exact hc.1⟩
    have hW:Zf b (Z8 ss k)=false:=by
     cases hc:Zf b (Z8 ss k)
     ·rfl
     ·exfalso
      apply hat
      unfold Zf at hc
      simp only [Bool.and_eq_true,beq_iff_eq] at hc
      exact ⟨hc.2,by unfold ZW;rw [hc.1];rfl⟩
    rw [Yv hW,Yv hA]
    exact ih
theorem E5 (m:Z4) (b:Nat):U4 m b=Yn m b:=by
 have h:=Mm m.smiths b m.smiths.length
 unfold U4 Yn
 cases hsc:XX m.smiths b m.smiths.length with
 | none=>
  rw [hsc] at h
  simp only at h ⊢
  split
  ·have:ZZ (atB b) m.smiths m.smiths.length ≠ []:=by
    intro e
    have hx:Z8 (ZZ (Zf b) m.smiths m.smiths.length) 0 ∈ ZZ (Zf b) m.smiths m.smiths.length:=U9 (by omega)
    obtain ⟨i,hi,_,hw⟩:=(Xn _ _ _ _).1 hx
    have:(i:Int) ∈ ZZ (atB b) m.smiths m.smiths.length:=(Xn _ _ _ _).2 ⟨i,hi,rfl,by
     unfold Zf at hw
     simp only [Bool.and_eq_true,beq_iff_eq] at hw
     unfold atB
     rw [hw.1,hw.2];simp⟩
    rw [e] at this
    cases this
   simp only [List.length_eq_zero_iff,this,decide_false]
  ·rw [show decide ((ZZ (Zf b) m.smiths m.smiths.length).length=1)=false from decide_eq_false (by omega),Bool.false_and]
 | some r=>
  obtain ⟨wk,wt⟩:=r
  rw [hsc] at h
  simp only at h ⊢
  obtain ⟨h1,h2⟩:=h
  generalize ZZ (Zf b) m.smiths m.smiths.length=ws at *
  generalize ZZ (atB b) m.smiths m.smiths.length=az at *
  generalize (Z8 m.desks b).2.1=who at *
  by_cases hw:who= -1
  ·subst hw
   simp only [if_true,List.length_eq_zero_iff]
   rcases h1 with ⟨rfl,rfl⟩ | ⟨hk,rfl⟩
   ·cases wt
    ·simp at h2;simp [h2]
    ·simp at h2;simp [h2]
   ·have hne:az ≠ []:=by
     intro e
     have:=(h2.1 e).1
     cases this
    have:((-1:Int) ==wk)=false:=by simp;omega
    rw [this]
    simp [hne]
  ·rw [if_neg hw]
   rcases h1 with ⟨rfl,rfl⟩ | ⟨hk,rfl⟩
   ·have:(who == -1)=false:=by simpa using hw
    rw [this];simp
   ·have h0:decide (wk<0)=false:=decide_eq_false (by omega)
    rw [h0,Bool.and_false,Bool.not_false,Bool.and_true]
    simp only [List.length_cons,List.length_nil,decide_true,Bool.true_and]
    show decide (wk=who)=(who ==wk)
    by_cases e:wk=who
    ·subst e;simp
    ·rw [decide_eq_false e];symm;simp;omega
theorem CT (n:Nat) (i:Int):Yb n i=inB i 0 ((n:Int)-1):=by
 unfold Yb inB
 by_cases h0:0<=i<;>by_cases h1:i<n
 ·rw [decide_eq_true h0,decide_eq_true h1,decide_eq_true (show 0<=i/\i<=(n:Int)-1 by omega)];rfl
 ·rw [decide_eq_true h0,decide_eq_false h1,decide_eq_false (show ¬ (0<=i/\i<=(n:Int)-1) by omega)];rfl
 ·rw [decide_eq_false h0,decide_eq_false (show ¬ (0<=i/\i<=(n:Int)-1) by omega)];rfl
 ·rw [decide_eq_false h0,decide_eq_false (show ¬ (0<=i/\i<=(n:Int)-1) by omega)];rfl
theorem RH (m:Z4):Wt m=YF m:=by
 have e1:Wp m m.smiths.length=(YH Zu m.smiths m.smiths.length && (YH (Xr m.guilds.length) m.smiths m.smiths.length && YH (Xm m.desks) m.smiths m.smiths.length)):=by
  rw [PV,PV]
  exact (Iq m.smiths (Dl m) m.smiths.length).symm
 have e2:VO m.paces m.rooms=(decide (m.paces.length=m.rooms.length) && Wo m m.paces.length):=by
  unfold VO Wo
  congr 2
  funext j
  unfold Wl
  exact CT _ _
 have e3:decide (0<(ZZ (fun d:YG=>d.1) m.desks m.desks.length).length)=UF m m.desks.length:=PR _ _ _
 unfold Wt Q9 YF Yc Us Sh
 rw [e1,e2,e3]
 have e4:YH Vw m.desks m.desks.length=VP m m.desks.length:=rfl
 rw [e4]
 generalize YN m.rooms=x1
 generalize Zd m.guilds=x2
 generalize decide (m.smiths.length<=12)=x3
 generalize YH Zu m.smiths m.smiths.length=x4
 generalize YH (Xr m.guilds.length) m.smiths m.smiths.length=x5
 generalize decide ((m.desks.length:Int)=Z0 m.rooms)=x6
 generalize VP m m.desks.length=x7
 generalize UF m m.desks.length=x8
 generalize decide (m.paces.length=m.rooms.length)=x9
 generalize Wo m m.paces.length=x10
 generalize inB m.now 0 1000000=x11
 generalize YH (Xm m.desks) m.smiths m.smiths.length=x12
 rw [Bool.eq_iff_iff]
 simp only [Bool.and_eq_true]
 constructor
 ·rintro ⟨⟨a1,a2,⟨a3,a4,a5⟩,⟨a6,a7,a8⟩,⟨a9,a10⟩,a11⟩,a12⟩
  exact ⟨⟨a1,a2,a3,a6,a9,a11⟩,a7,a10,⟨a4,a5,a12⟩,a8⟩
 ·rintro ⟨⟨a1,a2,a3,a6,a9,a11⟩,a7,a10,⟨a4,a5,a12⟩,a8⟩
  exact ⟨⟨a1,a2,⟨a3,a4,a5⟩,⟨a6,a7,a8⟩,⟨a9,a10⟩,a11⟩,a12⟩
theorem DH (m:Z4):DG m=Zo m:=by
 unfold DG Zo Rn
 rw [RH,show U4 m=Yn m from funext (E5 m)]
def Wm (ss:List Z2) (ps:List Int):List Z6:=ps.foldl (fun q i=>VH q (XS (Z8 ss i.toNat),i)) []
theorem Rb (ss:List Z2) (ps:List Int) (i:Int):Wm ss (ps++[i])=VH (Wm ss ps) (XS (Z8 ss i.toNat),i):=by unfold Wm;rw [List.foldl_append];rfl
theorem RK (ss:List Z2) (b:Int):∀ k,Wm ss (ZZ (atB b) ss k)=atV ss b k
 | 0=>rfl
 | k+1=>by
  have ih:=RK ss b k
  by_cases hat:(Z8 ss k).2.1=b/\ZW (Z8 ss k)=true
  ·have hA:atB b (Z8 ss k)=true:=by
    have h2:=hat.2
    unfold ZW at h2
    unfold atB
    rw [h2,hat.1];simp
   rw [YY hA,Rb,ih,Ve hat.1 hat.2]
   rfl
  ·have hA:atB b (Z8 ss k)=false:=by
    cases hc:atB b (Z8 ss k)
    ·rfl
    ·exfalso
     apply hat
     unfold atB at hc
     simp only [Bool.and_eq_true,beq_iff_eq] at hc
     exact ⟨hc.2,by unfold ZW;exact hc.1⟩
   rw [Yv hA,UB hat,ih]
theorem Rj {ps:List Int} {k:Nat} (h:k<ps.length):ps.take (k+1)=ps.take k++[Z8 ps k]:=by
 unfold Z8
 rw [List.take_add_one,List.getD,List.getElem?_eq_getElem h];rfl
theorem Iw (h:Loose m) (b:Int) (k:Nat) (hk:k<=m.smiths.length):YS (atV m.smiths b k)=true:=by
 have hd:=h.head
 unfold Yc at hd
 simp only [Bool.and_eq_true,decide_eq_true_eq] at hd
 have hl:=UG m.smiths b k
 have h12:=hd.2.2.1
 refine GP ⟨by omega,fun p hp=> ?_,?_,Ub _ _ _⟩
 ·obtain ⟨i,hi,h1,h2,rfl⟩:=(Yl m.smiths b p k).1 hp
  have:=UM (h.at (i:=i) (by omega) h2).2.2.2.2
  unfold Nn
  rw [Zj (by omega) (by omega),Zj (by omega) (by show (i:Int)<=99;omega)];rfl
 ·refine ((OX m.smiths b k).and (Ub m.smiths b k)).imp fun {x y} hxy=> ?_
  have h1:=hxy.1
  have h2:=hxy.2
  rw [Mc] at h1
  rw [C9]
  omega
theorem PS {α:Type} [Inhabited α] (p:α->Bool) (xs:List α):∀ n k:Nat,∃ j,j<=n/\(ZZ p xs n).take k=ZZ p xs j
 | 0,k=>⟨0,Nat.le_refl _,by simp [ZZ]⟩
 | n+1,k=>by
  obtain ⟨j,hj,e⟩:=PS p xs n k
  cases h:p (Z8 xs n)
  ·rw [Yv h];exact ⟨j,by omega,e⟩
  ·rw [YY h]
   by_cases hk:k<=(ZZ p xs n).length
   ·rw [List.take_append_of_le_length hk];exact ⟨j,by omega,e⟩
   ·refine ⟨n+1,Nat.le_refl _,?_⟩
    rw [YY h,List.take_of_length_le (by simp;omega)]
theorem GJ (h:Loose m) (b:Int) (k:Nat):YS (Wm m.smiths ((ZZ (atB b) m.smiths m.smiths.length).take k))=true:=by
 obtain ⟨j,hj,e⟩:=PS (atB b) m.smiths m.smiths.length k
 rw [e,RK]
 exact Iw h b j hj
theorem OJ  {q:Bool} (hq:Zo m=q) (h:Smy w v0 v1 v2 v3 v4 m):Calls Tryz.prog 25 #[.agg #[v0,v1,v2,v3,v4,.int .i64 m.now]] w fun e w'=>e= .returned (.bool q)/\Below w.heap.size w w':=by
 have:=Qw h;rw [hq] at this;exact this
theorem NV  {b:Int} {q:Bool} (hq:Yp m b=q) (h:Smy w v0 v1 v2 v3 v4 m) :
  Calls Tryz.prog 91 #[.agg #[v0,v1,v2,v3,v4,.int .i64 m.now],.int .i64 b] w fun e w'=>e= .returned (.bool q)/\Below w.heap.size w w':=by
 have hq2:inB b 0 ((m.desks.length:Int)-1)=q:=hq
 clear hq
 obtain ⟨a0,p0,rfl,_,_⟩:=IsRooms.shape h.rooms
 obtain ⟨a1,p1,rfl,_,_⟩:=IsRec.shape h.guilds
 obtain ⟨a2,p2,rfl,_,_⟩:=IsRec.shape h.smiths
 obtain ⟨a3,p3,rfl,hc3,hm3⟩:=IsRec.shape h.desks
 obtain ⟨a4,p4,rfl,_,_⟩:=IsRec.shape h.paces
 clear h
 go_enter Tryz.func91,Tryz.ntmps91
 go_wp2_with (go_at_call 76;refine (ZX _ _ _ _).mono ?_;rw [hq2];rintro e w' ⟨rfl,h9⟩;subst w')
 go_ret
 exact ⟨rfl,(Below.refl _ _).alloc (Nat.le_refl _) _⟩
end Go.Proofs.YtjhijildaceadaaGreatDoor
