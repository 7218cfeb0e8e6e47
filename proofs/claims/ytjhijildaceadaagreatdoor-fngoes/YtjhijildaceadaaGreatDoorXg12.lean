/- Part 12 of what the proof rests on. No condition but those that a theorem names. -/
import Derived.Test.YtjhijildaceadaaGreatDoorXg11
set_option maxHeartbeats 8000000
set_option maxRecDepth 100000
namespace Go.Proofs.YtjhijildaceadaaGreatDoor
open Go.ChangeShapes Go.WideShapes Go.ChangeAt Go.RowKit Go.Sort
set_option linter.unusedVariables false
variable {w w' w0 w1 w2 w3 w₀ wr W W' X A B C : World} {v v0 v1 v2 v3 v4 u u0 u1 u2 u3 u4 : Value} {m : Z4}
structure GH (m:Z4):Prop where
 guilds:Zk m.guilds=true
 lo:∀ i,i<m.smiths.length->(Z8 m.smiths i).1 ≠ 0-> -1<=(Z8 m.smiths i).2.2.2.2.1
 hi:∀ i,i<m.smiths.length->(Z8 m.smiths i).1 ≠ 0->(Z8 m.smiths i).2.2.2.2.1<m.guilds.length
theorem Ia {s:Z3} (h:ZT s=true):s.1 ≠ 0:=fun e=>by unfold ZT at h;rw [e] at h;cases h
theorem Tt  {k:Nat} (h:Smy w v0 v1 v2 v3 v4 m) (hg:Zk m.guilds=true) (hk:k<m.smiths.length) (g0 : -1<=(Z8 m.smiths k).2.2.2.2.1) (g1:(Z8 m.smiths k).2.2.2.2.1<m.guilds.length) :
  Calls Tryz.prog 223 #[.agg #[v0,v1,v2,v3,v4,.int .i64 m.now],.int .i64 (k:Int)] w fun e w'=>e= .returned (.int .i64 (Yr m (k:Int)))/\Below w.heap.size w w':=by
 have hw:Yr m (k:Int)=PL m.guilds (Z8 m.smiths k):=rfl
 rw [hw]
 clear hw
 have Hv:=Z9 h
 obtain ⟨h0,h1,h2,h3,h4⟩:=h
 obtain ⟨a0,p0,rfl,hc0,hm0⟩:=IsRooms.shape h0
 obtain ⟨a1,p1,rfl,hc1,hm1⟩:=IsRec.shape h1
 obtain ⟨a2,p2,rfl,hc2,hm2,r2⟩:=h2
 obtain ⟨a3,p3,rfl,hc3,hm3⟩:=IsRec.shape h3
 obtain ⟨a4,p4,rfl,hc4,hm4⟩:=IsRec.shape h4
 clear h0 h1 h3 h4
 rcases r2 with e0 | ⟨sb,off,rfl,hbw,hcl⟩
 ·rw [e0] at hk;simp at hk
 obtain ⟨d0,d1,d2,d3,d4,d5,d6,d7,d8,d9,d10⟩:=ZK hcl hk
 clear hcl
 generalize Z8 m.smiths k=ss at *
 obtain ⟨st,be,rk,my,gu,lo,hi,hd,ca,ut,wk⟩:=ss
 simp only at d0 d1 d2 d3 d4 d5 d6 d7 d8 d9 d10 g0 g1
 have Hg:=Z9 hg
 clear hg
 go_enter Tryz.func223,Tryz.ntmps223
 go_wp2_with fail
 have BB:Hid (Below w.heap.size w ((w.alloc (.cells #[.slice a0 m.rooms.length p0,.slice a1 m.guilds.length p1,.slice (some ⟨sb,off,none⟩) m.smiths.length p2,.slice a3 m.desks.length p3,.slice a4 m.paces.length p4,.int .i64 m.now] 32)).alloc (.cells (I11 st be rk my gu lo hi hd ca ut wk) 43))):=Z9 (((Below.refl _ _).alloc (Nat.le_refl _) _).alloc (by simp) _)
 have Hv2:=Z9 ((uh Hv).below (uh BB)).guilds
 have ks:=Z9 (Blk.new (w.alloc (.cells #[.slice a0 m.rooms.length p0,.slice a1 m.guilds.length p1,.slice (some ⟨sb,off,none⟩) m.smiths.length p2,.slice a3 m.desks.length p3,.slice a4 m.paces.length p4,.int .i64 m.now] 32)) 43 (I11 st be rk my gu lo hi hd ca ut wk))
 simp only [World.size_alloc] at ks
 generalize (w.alloc (.cells #[.slice a0 m.rooms.length p0,.slice a1 m.guilds.length p1,.slice (some ⟨sb,off,none⟩) m.smiths.length p2,.slice a3 m.desks.length p3,.slice a4 m.paces.length p4,.int .i64 m.now] 32)).alloc (.cells (I11 st be rk my gu lo hi hd ca ut wk) 43)=W at *
 refine (QC gu lo hi (uh Hv2) (MA (uh Hg) m.guilds.length gu (uh Hv2) g0 g1 g1)).mono ?_
 rintro e w1 ⟨rfl,hb⟩
 replace ks:=bl ks hb
 replace BB:=bt BB hb
 have x9:=(uh ks).cell (i:=9) (v:= .int .i64 ut) rfl
 clear hb d0 d1 d2 d3 d4 d5 d6 d7 d8 d9 d10
 go_wp2_with (go_at_call 281;refine (TS _ _ _ _).mono ?_;rintro e w' ⟨rfl,h9⟩;subst w')
 go_ret
 exact ⟨rfl,uh BB⟩
theorem JE (m:Z4) (but:Int) {q:List Z6} {k:Nat} (hk:k<q.length):Vg m but (q.take (k+1))=if (Z7 q k).2=but then Vg m but (q.take k) else Vg m but (q.take k)+Yr m (Z7 q k).2:=by
 have:q.take (k+1)=q.take k++[Z7 q k]:=by
  rw [List.take_succ_eq_append_getElem hk];unfold Z7;simp [List.getD,hk]
 rw [this,JD]
theorem U9  (b but:Int) (h:Smy w v0 v1 v2 v3 v4 m) (hG:GH m) (hl:m.smiths.length<=800) :
  Calls Tryz.prog 160 #[.agg #[v0,v1,v2,v3,v4,.int .i64 m.now],.int .i64 b,.int .i64 but] w fun e w'=>e= .returned (.int .i64 (XF m b but))/\Below w.heap.size w w':=by
 have Hv:=Z9 (h.alloc (.cells #[v0,v1,v2,v3,v4,.int .i64 m.now] 32))
 obtain ⟨a0,p0,a1,p1,a2,p2,a3,p3,a4,p4,rfl,rfl,rfl,rfl,rfl,_,_,_,_,_,_,_,_,_,_⟩:=h.five
 clear h
 have HG:=Z9 hG
 clear hG
 go_enter Tryz.func160,Tryz.ntmps160
 go_wp2_with fail
 refine (SY b (uh Hv) hl).mono ?_
 rintro e w1 ⟨v',rfl,he,hb⟩
 have kb:Hid (Blk w1 w.heap.size 32 (S6 a0 p0 a1 p1 a2 p2 a3 p3 a4 p4 m)):=Z9 ((Blk.new w _ _).below hb (by simp))
 have BB:Hid (Below w.heap.size w w1):=Z9 (((Below.refl _ _).alloc (Nat.le_refl _) _).trans (hb.mono (by simp)))
 replace Hv:=Z9 ((uh Hv).below hb)
 have hq:=TY m.smiths b m.smiths.length
 have hmem:=Yj m.smiths b
 have Hu:Hid (XF m b but=Vg m but (atV m.smiths b m.smiths.length)):=Z9 rfl
 have hmq:∀ x ∈ atV m.smiths b m.smiths.length,∃ j:Nat,j<m.smiths.length/\ZT (Z8 m.smiths j)=true/\x.2=(j:Int):=fun x hx=>by
  obtain ⟨j,hj,_,hp,rfl⟩:=(hmem x m.smiths.length).1 hx
  exact ⟨j,hj,hp,rfl⟩
 have Hm:=Z9 hmq
 clear hmem hmq hb
 have hp:=EntsAt.paces he
 clear he
 generalize atV m.smiths b m.smiths.length=q at *
 obtain ⟨qa,qc,rfl,hqc,hqm,hr⟩:=hp
 have Hr:=Z9 hr
 clear hr
 go_wp2_with fail
 go_loopw [7,9] (fun n i wr=> ∃ k:Nat,k<=q.length/\i= .int .i64 k/\n= .int .i64 (Vg m but (q.take k))/\Below w1.heap.size w1 wr) (fun _ i _=>q.length-(intOf i).toNat)
 case atStart=>exact ⟨0,Nat.zero_le _,rfl,rfl,Below.refl _ _⟩
 case round=>
  obtain ⟨k,hk,rfl,rfl,hbr⟩:=hrel
  have hub:=LS m but (q.take k)
  have htl:(q.take k).length<=k:=by rw [List.length_take];omega
  by_cases hlt:k<q.length
  ·rcases uh Hr with e0 | ⟨eb,eo,rfl,hbw,hcl⟩
   ·rw [e0] at hlt;simp at hlt
   obtain ⟨c0,c1⟩:=hcl k hlt
   rw [<-hbr.cell (p:=⟨eb,eo+k*2,none⟩) hbw] at c0
   rw [<-hbr.cell (p:=⟨eb,eo+k*2+1,none⟩) hbw] at c1
   obtain ⟨j,hj,hjp,hje⟩:=uh Hm _ (XR hlt)
   have Hjp:=Z9 (Ia hjp)
   clear hjp
   have hst:=JE m but hlt
   have hwb:=LW m (j:Int)
   rw [hje] at c1 hst
   clear hje hcl
   generalize (Z7 q k).1=hd at *
   have Hst:=Z9 hst
   clear hst
   generalize Vg m but (q.take k)=u at *
   have u1:u<=1024*800:=by omega
   have kb1:=(uh kb).below hbr (uh kb).lt
   have Hv1:=Z9 ((uh Hv).below hbr)
   have Kb1:=Z9 kb1
   have Hbr:=Z9 hbr
   clear hbr kb1
   obtain ⟨x0,x1,x2,x3,x4,x5⟩:=(uh Kb1).c6
   by_cases hbut:(j:Int)=but
   ·have hbn:((j:Int) ==but)=true:=by simpa using hbut
    go_wp2_with fail
    go_roundw
    case rel=>exact ⟨k+1,by omega,by go_num,by rw [uh Hst,if_pos hbut],uh Hbr⟩
    case measure=>simp [intOf];omega
   ·have hbn:((j:Int) ==but)=false:=by simpa using hbut
    have Hw:=Z9 (fun (W:World) (hW:Below wr.heap.size wr W)=>Tt ((uh Hv1).below hW) (uh HG).guilds hj ((uh HG).lo j hj (uh Hjp)) ((uh HG).hi j hj (uh Hjp)))
    generalize Yr m (j:Int)=wa at *
    have y0:=cell_regrown x0
    have y1:=cell_regrown x1
    have y2:=cell_regrown x2
    have y3:=cell_regrown x3
    have y4:=cell_regrown x4
    have y5:=cell_regrown x5
    have z0:=cell_regrown c0
    have z1:=cell_regrown c1
    go_wp2_with fail
    refine wp_region_quiet_below (by kernel_rfl) (by kernel_rfl) ?_
    repeat (go_big_quiet_step (exact Calls.regrown_of (uh Hw _ (below_regrown _ _ _))))
    refine wpQuiet_nil ?_
    intro _ hw'
    obtain ⟨⟨dq,osq⟩,hw''⟩:=hw'
    subst hw''
    go_wp2_with fail
    go_roundw
    case rel=>exact ⟨k+1,by omega,by go_num,by rw [uh Hst,if_neg hbut],(uh Hbr).trans ((below_regrown _ _ _).mono (uh Hbr).size)⟩
    case measure=>simp [intOf];omega
  ·obtain rfl:k=q.length:=by omega
   rw [List.take_length]
   go_wp2_with fail
   go_ret
   exact ⟨Zy (uh Hu).symm,(uh BB).trans (hbr.mono (uh BB).size)⟩
structure Sane (m:Z4):Prop where
 hall:Ze m.rooms=true
 desks:(m.desks.length:Int)=ZY m.rooms
 guilded:GH m
 few:m.smiths.length<=12
theorem Sane.bench (h:Sane m) {b:Nat} (hb:b<m.desks.length):Xe m.rooms (b:Int)=true:=FP h.hall (by omega) (by have:=h.desks;omega)
theorem Sane.eight (h:Sane m):m.desks.length<=8:=by have:=(Zi h.hall).2.2.2;have:=h.desks;omega
theorem Loose.sane (h:Loose m):Sane m:=by
 have hd:=h.head
 unfold YW at hd
 simp only [Bool.and_eq_true,decide_eq_true_eq] at hd
 obtain ⟨h1,h2,h3,h4,_⟩:=hd
 refine ⟨h1,h4,⟨h2,fun i hi hs=> ?_,fun i hi hs=>(h.limits hi hs).2.1⟩,h3⟩
 have hp:=(h.limits hi hs).1
 generalize Z8 m.smiths i=s at *
 obtain ⟨st,be,rk,my,gu,lo',hi',hd,ca,ut,wk⟩:=s
 exact (Zn hp).2.2.2.2.1.1
theorem Sane.with (h:Sane m) {k:Nat} (hk:k<m.smiths.length) (hs:(Z8 m.smiths k).1 ≠ 0) (b:Int):Sane (TN m (k:Int) b):=by
 have hset:∀ i,Z8 (TN m (k:Int) b).smiths i=if i=k then RA (Z8 m.smiths k) b else Z8 m.smiths i:=fun i=>by
  unfold TN
  simp only [Int.toNat_natCast]
  exact ZJ hk i
 refine ⟨h.hall,h.desks,⟨h.guilded.guilds,fun i hi hne=> ?_,fun i hi hne=> ?_⟩,by unfold TN;simpa using h.few⟩
 ·have hi':i<m.smiths.length:=by unfold TN at hi;simpa using hi
  rw [hset] at hne ⊢
  by_cases e:i=k
  ·rw [if_pos e];exact h.guilded.lo k hk hs
  ·rw [if_neg e] at hne ⊢;exact h.guilded.lo i hi' hne
 ·have hi':i<m.smiths.length:=by unfold TN at hi;simpa using hi
  rw [hset] at hne ⊢
  by_cases e:i=k
  ·rw [if_pos e];exact h.guilded.hi k hk hs
  ·rw [if_neg e] at hne ⊢;exact h.guilded.hi i hi' hne
theorem Sane.few' (h:Sane m) (hp:m.paces.length<=1000):Few m:=by
 obtain ⟨r1,r2,r3,r4⟩:=Zi h.hall
 have hg:=(Wr h.guilded.guilds).2
 refine ⟨by omega,fun r hr=> ?_,by omega,by have:=h.few;omega,by have:=h.eight;omega,hp⟩
 have hrb:=List.all_eq_true.1 r3 r hr
 unfold Zu at hrb
 simp only [Bool.and_eq_true] at hrb
 have:=ZR hrb.2.1
 omega
theorem Ss  {rs:List Z2} (n:Int) (h:IsRooms w v rs) (hbn:Xe rs n=true) :
  Calls Tryz.prog 227 #[.agg #[v],.int .i64 n] w fun e w'=>e= .returned (.int .i64 (WL rs n))/\Below w.heap.size w w':=by
 obtain ⟨a,cap,rfl,hc,hm,hr⟩:=h
 have Hr:=Z9 hr
 have H:=Z9 hbn
 have hh:=(Wt hbn).1
 have hn0:=(Wt hbn).2.1
 have hn1:n<12:=by have h1:=(Wt hbn).2.2;have:=(Zi hh).2.2.2;omega
 have Hh:=Z9 hh
 have hl3:rs.length<=3:=(Zi hh).2.1
 clear hr hbn hh
 go_enter Tryz.func227,Tryz.ntmps227
 go_wp2_with fail
 go_loop [1,5] (fun q i=> ∃ r:Nat,r<=rs.length/\i= .int .i64 r/\q= .int .i64 (n-ZY (rs.take r))/\(∀ j,j<r->ZY (rs.take (j+1))<=n)) (fun _ i=>rs.length-(intOf i).toNat)
 case atStart=>exact ⟨0,Nat.zero_le _,rfl,by simp [ZY],fun j hj=>by omega⟩
 case round=>
  obtain ⟨r,hr,rfl,rfl,hl⟩:=hrel
  have hlt:=Rl (uh H) hr hl
  rcases uh Hr with e0 | ⟨b,off,rfl,hbw,hcl⟩
  ·rw [e0] at hlt;simp at hlt
  obtain ⟨c0,pv,c1,hip⟩:=hcl r hlt
  have hne:b ≠ w.heap.size:=Nat.ne_of_lt hbw
  have Hl:=Z9 hl
  have hb0:=RE (uh Hh) r hr
  have hb1:=RE (uh Hh) (r+1) hlt
  have Hs:=Z9 (Ye rs hlt)
  have HN:Hid (n<ZY (rs.take (r+1))->WL rs n=r):=Z9 (fun hx=>Lt hlt hx (uh Hl))
  have HM:Hid (ZY (rs.take (r+1))<=n-> ∀ j,j<r+1->ZY (rs.take (j+1))<=n):=Z9 (fun hx=>Ys (uh Hl) hx)
  rw [Ye rs hlt] at hb1 HN HM
  generalize ZY (rs.take r)=s at *
  generalize (ZW rs r).1=rb at *
  clear hcl hip hl
  by_cases hq:rb<=n-s
  ·go_wp2_with fail
   go_round
   case rel=>exact ⟨r+1,by omega,by go_num,by rw [uh Hs];congr 1;omega,uh HM (by omega)⟩
   case measure=>simp [intOf];omega
  ·go_wp2_with fail
   go_ret
   exact ⟨Zy (by rw [uh HN (by omega)]),(Below.refl _ _).alloc (Nat.le_refl _) _⟩
theorem DG {a:Option Addr} {cap:Nat} {rs:List Z2} {r:Nat} (h:IsRooms w (.slice a rs.length cap) rs) (hr:r<rs.length) (hh:Ze rs=true) :
  ∃ b off a' cap',a=some ⟨b,off,none⟩/\b<w.heap.size/\w.cell? ⟨b,off+r*2+1,none⟩=some (.slice (some a') (ZW rs r).2.length cap')/\1<=(ZW rs r).2.length/\(ZW rs r).2.length<=4/\a'.spot=none/\a'.block<w.heap.size/\w.cell? ⟨a'.block,a'.off+((ZW rs r).2.length-1)*2,none⟩=some (.int .i64 (VL (ZW rs r).2)):=by
 obtain ⟨a0,cap0,he,hc,hm,hr'⟩:=h
 cases he
 rcases hr' with e0 | ⟨b,off,rfl,hbw,hcl⟩
 ·rw [e0] at hr;simp at hr
 obtain ⟨_,pv,c1,hip⟩:=hcl r hr
 have hb:=ML (Ql (Zi hh).2.2.1 hr)
 obtain ⟨pa,pcap,rfl,_,_,hp⟩:=hip
 rcases hp with e1 | ⟨b',off',rfl,hbw',hcl'⟩
 ·rw [e1] at hb;simp at hb
 ·exact ⟨b,off,⟨b',off',none⟩,pcap,rfl,hbw,c1,hb.2.2.1,hb.2.2.2,rfl,hbw',(hcl' _ (by omega)).1⟩
theorem Gf {s:Int} (h0:0<=s) (h1:s<=12):1<=(2:Int) ^ s.toNat/\(2:Int) ^ s.toNat<=4096:=by
 have key:∀ k:Fin 13,1<=(2:Int) ^ k.val/\(2:Int) ^ k.val<=4096:=by decide
 exact key ⟨s.toNat,by omega⟩
theorem JK {x:Int} (h0 : -100000<=x) (h1:x<=100000):wrap64 x=x:=by unfold wrap64;omega
theorem Tz (b:Int) (h0:0<=b) (h1:b<=12) (w:World):Calls Tryz.prog 62 #[.int .i64 b] w fun e w'=>e= .returned (.int .i64 (2 ^ b.toNat))/\w'=w:=by
 go_enter Tryz.func62,Tryz.ntmps62
 go_wp2
 all_goals
  go_ret
  refine ⟨Zy ?_,rfl⟩
  have:=Gf h0 h1
  exact JK (by omega) (by omega)
open Go.ChangeShapes Go.WideShapes Go.ChangeAt Go.RowKit
def UT (s:Int):Nat->List Int
 | 0=>[]
 | k+1=>if Sv s k=true then UT s k++[(k:Int)] else UT s k
def KV (s:Int):List Int:=UT s 8
def WE (s:Int):Int:=(KV s).headD (-1)
theorem Sh {s:Int} {k:Nat} (h:Sv s k=true):UT s (k+1)=UT s k++[(k:Int)]:=by simp [UT,h]
theorem Tc {s:Int} {k:Nat} (h:Sv s k=false):UT s (k+1)=UT s k:=by simp [UT,h]
theorem LQ (s:Int):∀ k,(UT s k).length<=k
 | 0=>by simp [UT]
 | k+1=>by
  have:=LQ s k
  cases h:Sv s k
  ·rw [Tc h];omega
  ·rw [Sh h];simp;omega
theorem NL {s:Int} (h:inB s 0 255=false):∀ k,UT s k=[]
 | 0=>rfl
 | k+1=>by rw [Tc (I2 (.inl h))];exact NL h k
theorem Fo (s:Int):∀ k,k<=8->UT s k <+: KV s:=by
 have step:∀ k,UT s k <+: UT s (k+1):=fun k=>by
  cases h:Sv s k
  ·rw [Tc h];exact List.prefix_refl _
  ·rw [Sh h];exact List.prefix_append _ _
 have go:∀ d k,UT s k <+: UT s (k+d):=by
  intro d
  induction d with
  | zero=>intro k;exact List.prefix_refl _
  | succ d ih=>intro k;exact (ih k).trans (step (k+d))
 intro k hk
 have:=go (8-k) k
 rwa [show k+(8-k)=8 by omega] at this
def ZX {α:Type} [Inhabited α] (p:α->Bool) (xs:List α):Nat->List Int
 | 0=>[]
 | k+1=>if p (Z8 xs k) then ZX p xs k++[(k:Int)] else ZX p xs k
theorem YK {α:Type} [Inhabited α] {p:α->Bool} {xs:List α} {k:Nat} (h:p (Z8 xs k)=true):ZX p xs (k+1)=ZX p xs k++[(k:Int)]:=by rw [ZX,if_pos h]
theorem Yi {α:Type} [Inhabited α] {p:α->Bool} {xs:List α} {k:Nat} (h:p (Z8 xs k)=false):ZX p xs (k+1)=ZX p xs k:=by rw [ZX,if_neg (by simp [h])]
theorem Wh {α:Type} [Inhabited α] (p:α->Bool) (xs:List α):∀ k,(ZX p xs k).length<=k
 | 0=>Nat.le_refl _
 | k+1=>by
  have:=Wh p xs k
  unfold ZX
  split
  ·simp;omega
  ·omega
theorem WZ {α:Type} [Inhabited α] (p:α->Bool) (xs:List α) (x:Int):∀ k,x ∈ ZX p xs k ↔ ∃ i:Nat,i<k/\x=(i:Int)/\p (Z8 xs i)=true
 | 0=>by simp [ZX]
 | k+1=>by
  have ih:=WZ p xs x k
  cases h:p (Z8 xs k)
  ·rw [Yi h,ih]
   constructor
   ·rintro ⟨i,hi,h1,h2⟩
    exact ⟨i,by omega,h1,h2⟩
   ·rintro ⟨i,hi,h1,h2⟩
    by_cases hik:i=k
    ·subst hik;rw [h] at h2;cases h2
    ·exact ⟨i,by omega,h1,h2⟩
  ·rw [YK h,List.mem_append,ih]
   constructor
   ·rintro (⟨i,hi,h1,h2⟩ | h1)
    ·exact ⟨i,by omega,h1,h2⟩
    ·exact ⟨k,by omega,by simpa using h1,h⟩
   ·rintro ⟨i,hi,h1,h2⟩
    by_cases hik:i=k
    ·subst hik;right;simp [h1]
    ·exact .inl ⟨i,by omega,h1,h2⟩
theorem QR {α:Type} [Inhabited α] (p:α->Bool) (xs:List α):∀ k,decide (0<(ZX p xs k).length)=(List.range k).any fun j=>p (Z8 xs j)
 | 0=>rfl
 | k+1=>by
  have ih:=QR p xs k
  rw [DT,<-ih]
  cases h:p (Z8 xs k)
  ·rw [Yi h];simp
  ·rw [YK h];simp
def YD {α:Type} [Inhabited α] (p:α->Bool) (xs:List α) (k:Nat):Bool:=(List.range k).all fun j=>p (Z8 xs j)
theorem Rx {α:Type} [Inhabited α] {p:α->Bool} {xs:List α} {k n:Nat} (hk:k<n) (h:p (Z8 xs k)=false):YD p xs n=false:=Sl (p:=fun j=>p (Z8 xs j)) hk h
theorem Ry {α:Type} [Inhabited α] {p:α->Bool} {xs:List α} {k:Nat} (h:YD p xs k=true) (h2:p (Z8 xs k)=true):YD p xs (k+1)=true:=by unfold YD at h ⊢;rw [UX,h,h2];rfl
theorem QW {α:Type} [Inhabited α] (p q:α->Bool) (xs:List α):∀ k,(YD p xs k && YD q xs k)=YD (fun x=>p x && q x) xs k
 | 0=>rfl
 | k+1=>by
  have ih:=QW p q xs k
  unfold YD at ih ⊢
  rw [UX,UX,UX,<-ih]
  generalize ((List.range k).all fun j=>p (Z8 xs j))=a
  generalize ((List.range k).all fun j=>q (Z8 xs j))=b
  cases a<;>cases b<;>cases hp:p (Z8 xs k)<;>cases hq:q (Z8 xs k)<;>simp [hp,hq]
theorem JN {α:Type} [Inhabited α] {p q:α->Bool} (xs:List α) (h:∀ x,p x=q x) (k:Nat):YD p xs k=YD q xs k:=by unfold YD;congr 1;funext j;exact h _
def Xo (n:Nat) (i:Int):Bool:=decide (0<=i) && decide (i<n)
def atB (b:Int) (s:Z3):Bool:=(s.1 ==2 || s.1 ==3) && s.2.1 ==b
def Zs (b:Int) (s:Z3):Bool:=s.1 ==3 && s.2.1 ==b
def XH (n:Nat) (s:Z3):Bool:=s.1 ==0 || (s.2.2.2.2.1 == -1 || Xo n s.2.2.2.2.1)
def Xz (ds:List Yx) (s:Z3):Bool:=s.1 ==0 || (Xo ds.length s.2.1 && (s.1 ==1 || ((Z8 ds s.2.1.toNat).1 && (Sv s.2.2.2.1 s.2.1 && Wi s.2.2.2.2.2.2.2.1 (Z8 ds s.2.1.toNat).2.2))))
def UP (ss:List Z3) (n:Nat):Bool:=decide (ss.length<=12) && (YD ZG ss ss.length && YD (XH n) ss ss.length)
def SU (ds:List Yx) (n:Int):Bool:=decide ((ds.length:Int)=n) && (YD Wy ds ds.length && decide (0<(ZX (fun d:Yx=>d.1) ds ds.length).length))
def Wj (ps:List Int) (rs:List Z2):Bool:=decide (ps.length=rs.length) && (List.range ps.length).all fun j=>Xo (ZW rs j).2.length (Z8 ps j)
def RW (m:Z4):Bool:=Ze m.rooms && (Zk m.guilds && (UP m.smiths m.guilds.length && (SU m.desks (ZY m.rooms) && (Wj m.paces m.rooms && inB m.now 0 1000000))))
def WV (m:Z4):Bool:=RW m && YD (Xz m.desks) m.smiths m.smiths.length
def VZ (m:Z4) (b:Nat):Bool:=if (Z8 m.desks b).2.1= -1 then decide ((ZX (atB b) m.smiths m.smiths.length).length=0) else decide ((ZX (Zs b) m.smiths m.smiths.length).length=1) && decide (Z8 (ZX (Zs b) m.smiths m.smiths.length) 0=(Z8 m.desks b).2.1)
def Sg (m:Z4):Bool:=(List.range m.desks.length).all (VZ m)
def Fa (m:Z4):Bool:=WV m && Sg m
theorem Fy (h m:Int):Wi h m=XD h m:=by
 unfold Wi XD V8
 rw [Bool.and_assoc]
theorem EE (m:Z4) (s:Z3):(ZG s && (XH m.guilds.length s && Xz m.desks s))=(YA m s && Yt m s):=by
 cases hs:ZG s
 ·unfold YA;rw [hs];rfl
 ·have hh:YA m s=(s.1 ==0 || (decide (s.2.2.2.2.1<m.guilds.length) && decide (s.2.1<m.desks.length))):=by unfold YA;rw [hs];rfl
  rw [hh,Bool.true_and]
  unfold ZG at hs
  simp only [Bool.or_eq_true] at hs
  rcases hs with hg | hp
  ·have e:=V6 hg
   subst e
   rfl
  ·obtain ⟨st,be,rk,my,gu,lo,hi,hd,ca,ut,wk⟩:=s
   obtain ⟨⟨s1,s2⟩,⟨b1,b2⟩,_,⟨m1,m2⟩,⟨g1,g2⟩,_⟩:=Zn hp
   have hmem:Sv my be=Wl my be:=Ez (Zm (by omega) (by omega)) (Zm (by omega) (by omega))
   have hst0:(st ==0)=false:=by simp;omega
   have hgu:(gu == -1 || Xo m.guilds.length gu)=decide (gu<m.guilds.length):=by
    unfold Xo
    by_cases e:gu= -1
    ·subst e;simp;omega
    ·have:(gu == -1)=false:=by simpa using e
     rw [this,Bool.false_or,show decide (0<=gu)=true from decide_eq_true (by omega),Bool.true_and]
   have hbe:Xo m.desks.length be=decide (be<m.desks.length):=by
    unfold Xo
    rw [show decide (0<=be)=true from decide_eq_true (by omega),Bool.true_and]
   have hpr:ZT (st,be,rk,my,gu,lo,hi,hd,ca,ut,wk)= !(st ==1):=by
    unfold ZT
    rcases (by omega:st=1\/st=2\/st=3) with e | e | e<;>subst e<;>rfl
   unfold XH Xz Yt
   simp only
   rw [hst0,hgu,hbe,hpr,hmem,Fy,Bool.not_not]
   simp only [Bool.false_or,Bool.and_assoc]
theorem Ny (ss:List Z3) (b:Int):∀ k:Nat,
  (match Yn ss b k with
   | none=>2<=(ZX (Zs b) ss k).length
   | some (wk,wt)=>((wk= -1/\ZX (Zs b) ss k=[])\/(0<=wk/\ZX (Zs b) ss k=[wk]))/\((ZX (atB b) ss k=[]) ↔ (ZX (Zs b) ss k=[]/\wt=false)))
 | 0=>by simp [Yn,ZX]
 | k+1=>by
  have ih:=Ny ss b k
  unfold Yn
  cases hsc:Yn ss b k with
  | none=>
   rw [hsc] at ih
   simp only at ih ⊢
   unfold ZX
   split
   ·simp;omega
   ·exact ih
  | some r=>
   obtain ⟨wk,wt⟩:=r
   rw [hsc] at ih
   simp only at ih ⊢
   by_cases hat:(Z8 ss k).2.1=b/\ZT (Z8 ss k)=true
   ·rw [if_pos hat]
    have hA:atB b (Z8 ss k)=true:=by
     have h2:=hat.2
     unfold ZT at h2
     unfold atB
     rw [h2,hat.1];simp
    by_cases h2:(Z8 ss k).1=2
    ·rw [if_pos h2]
     have hW:Zs b (Z8 ss k)=false:=by unfold Zs;rw [h2];rfl
     rw [Yi hW,YK hA]
     exact ⟨ih.1,by simp⟩
    ·rw [if_neg h2]
     have h3:(Z8 ss k).1=3:=by
      have:=hat.2
      unfold ZT at this
      simp only [Bool.or_eq_true,beq_iff_eq] at this
      omega
     have hW:Zs b (Z8 ss k)=true:=by unfold Zs;rw [h3,hat.1];simp
     rw [YK hW,YK hA]
     by_cases hwk:0<=wk
     ·rw [if_pos hwk]
      rcases ih.1 with ⟨e,_⟩ | ⟨_,e⟩
      ·omega
      ·simp only
       rw [e];simp
     ·rw [if_neg hwk]
      rcases ih.1 with ⟨_,e⟩ | ⟨e,_⟩
      ·simp only
       rw [e];simp
      ·omega
   ·rw [if_neg hat]
    have hA:atB b (Z8 ss k)=false:=by
     cases hc:atB b (Z8 ss k)
     ·rfl
     ·exfalso
      apply hat
      unfold atB at hc
      simp only [Bool.and_eq_true,beq_iff_eq] at hc
      exact ⟨hc.2,by unfold ZT;exact hc.1⟩
    have hW:Zs b (Z8 ss k)=false:=by
     cases hc:Zs b (Z8 ss k)
     ·rfl
     ·exfalso
      apply hat
      unfold Zs at hc
      simp only [Bool.and_eq_true,beq_iff_eq] at hc
      exact ⟨hc.2,by unfold ZT;rw [hc.1];rfl⟩
    rw [Yi hW,Yi hA]
    exact ih
theorem NI (m:Z4) (b:Nat):VZ m b=YH m b:=by
 have h:=Ny m.smiths b m.smiths.length
 unfold VZ YH
 cases hsc:Yn m.smiths b m.smiths.length with
 | none=>
  rw [hsc] at h
  simp only at h ⊢
  split
  ·have:ZX (atB b) m.smiths m.smiths.length ≠ []:=by
    intro e
    have hx:Z8 (ZX (Zs b) m.smiths m.smiths.length) 0 ∈ ZX (Zs b) m.smiths m.smiths.length:=Ta (by omega)
    obtain ⟨i,hi,_,hw⟩:=(WZ _ _ _ _).1 hx
    have:(i:Int) ∈ ZX (atB b) m.smiths m.smiths.length:=(WZ _ _ _ _).2 ⟨i,hi,rfl,by
     unfold Zs at hw
     simp only [Bool.and_eq_true,beq_iff_eq] at hw
     unfold atB
     rw [hw.1,hw.2];simp⟩
    rw [e] at this
    cases this
   simp only [List.length_eq_zero_iff,this,decide_false]
  ·rw [show decide ((ZX (Zs b) m.smiths m.smiths.length).length=1)=false from decide_eq_false (by omega),Bool.false_and]
 | some r=>
  obtain ⟨wk,wt⟩:=r
  rw [hsc] at h
  simp only at h ⊢
  obtain ⟨h1,h2⟩:=h
  generalize ZX (Zs b) m.smiths m.smiths.length=ws at *
  generalize ZX (atB b) m.smiths m.smiths.length=az at *
  generalize (Z8 m.desks b).2.1=who at *
  by_cases hw:who= -1
  ·subst hw
   simp only [if_true,List.length_eq_zero_iff]
   rcases h1 with ⟨rfl,rfl⟩ | ⟨hk,rfl⟩
   ·cases wt
    ·simp at h2;simp [h2]
    ·simp at h2;simp [h2]
   ·have hne:az ≠ []:=by
     intro e
     have:=(h2.1 e).1
     cases this
    have:((-1:Int) ==wk)=false:=by simp;omega
    rw [this]
    simp [hne]
  ·rw [if_neg hw]
   rcases h1 with ⟨rfl,rfl⟩ | ⟨hk,rfl⟩
   ·have:(who == -1)=false:=by simpa using hw
    rw [this];simp
   ·have h0:decide (wk<0)=false:=decide_eq_false (by omega)
    rw [h0,Bool.and_false,Bool.not_false,Bool.and_true]
    simp only [List.length_cons,List.length_nil,decide_true,Bool.true_and]
    show decide (wk=who)=(who ==wk)
    by_cases e:wk=who
    ·subst e;simp
    ·rw [decide_eq_false e];symm;simp;omega
theorem Ei (n:Nat) (i:Int):Xo n i=inB i 0 ((n:Int)-1):=by
 unfold Xo inB
 by_cases h0:0<=i<;>by_cases h1:i<n
 ·rw [decide_eq_true h0,decide_eq_true h1,decide_eq_true (show 0<=i/\i<=(n:Int)-1 by omega)];rfl
 ·rw [decide_eq_true h0,decide_eq_false h1,decide_eq_false (show ¬ (0<=i/\i<=(n:Int)-1) by omega)];rfl
 ·rw [decide_eq_false h0,decide_eq_false (show ¬ (0<=i/\i<=(n:Int)-1) by omega)];rfl
 ·rw [decide_eq_false h0,decide_eq_false (show ¬ (0<=i/\i<=(n:Int)-1) by omega)];rfl
theorem Su (m:Z4):WV m=YY m:=by
 have e1:WO m m.smiths.length=(YD ZG m.smiths m.smiths.length && (YD (XH m.guilds.length) m.smiths m.smiths.length && YD (Xz m.desks) m.smiths m.smiths.length)):=by
  rw [QW,QW]
  exact (JN m.smiths (EE m) m.smiths.length).symm
 have e2:Wj m.paces m.rooms=(decide (m.paces.length=m.rooms.length) && WN m m.paces.length):=by
  unfold Wj WN
  congr 2
  funext j
  unfold Xf
  exact Ei _ _
 have e3:decide (0<(ZX (fun d:Yx=>d.1) m.desks m.desks.length).length)=U6 m m.desks.length:=QR _ _ _
 unfold WV RW YY YW UP SU
 rw [e1,e2,e3]
 have e4:YD Wy m.desks m.desks.length=Wk m m.desks.length:=rfl
 rw [e4]
 generalize Ze m.rooms=x1
 generalize Zk m.guilds=x2
 generalize decide (m.smiths.length<=12)=x3
 generalize YD ZG m.smiths m.smiths.length=x4
 generalize YD (XH m.guilds.length) m.smiths m.smiths.length=x5
 generalize decide ((m.desks.length:Int)=ZY m.rooms)=x6
 generalize Wk m m.desks.length=x7
 generalize U6 m m.desks.length=x8
 generalize decide (m.paces.length=m.rooms.length)=x9
 generalize WN m m.paces.length=x10
 generalize inB m.now 0 1000000=x11
 generalize YD (Xz m.desks) m.smiths m.smiths.length=x12
 rw [Bool.eq_iff_iff]
 simp only [Bool.and_eq_true]
 constructor
 ·rintro ⟨⟨a1,a2,⟨a3,a4,a5⟩,⟨a6,a7,a8⟩,⟨a9,a10⟩,a11⟩,a12⟩
  exact ⟨⟨a1,a2,a3,a6,a9,a11⟩,a7,a10,⟨a4,a5,a12⟩,a8⟩
 ·rintro ⟨⟨a1,a2,a3,a6,a9,a11⟩,a7,a10,⟨a4,a5,a12⟩,a8⟩
  exact ⟨⟨a1,a2,⟨a3,a4,a5⟩,⟨a6,a7,a8⟩,⟨a9,a10⟩,a11⟩,a12⟩
theorem Fb (m:Z4):Fa m=ZP m:=by
 unfold Fa ZP Sg
 rw [Su,show VZ m=YH m from funext (NI m)]
def WK (ss:List Z3) (ps:List Int):List Z6:=ps.foldl (fun q i=>Vi q (XM (Z8 ss i.toNat),i)) []
theorem RZ (ss:List Z3) (ps:List Int) (i:Int):WK ss (ps++[i])=Vi (WK ss ps) (XM (Z8 ss i.toNat),i):=by unfold WK;rw [List.foldl_append];rfl
theorem Sx (ss:List Z3) (b:Int):∀ k,WK ss (ZX (atB b) ss k)=atV ss b k
 | 0=>rfl
 | k+1=>by
  have ih:=Sx ss b k
  by_cases hat:(Z8 ss k).2.1=b/\ZT (Z8 ss k)=true
  ·have hA:atB b (Z8 ss k)=true:=by
    have h2:=hat.2
    unfold ZT at h2
    unfold atB
    rw [h2,hat.1];simp
   rw [YK hA,RZ,ih,RC hat.1 hat.2]
   rfl
  ·have hA:atB b (Z8 ss k)=false:=by
    cases hc:atB b (Z8 ss k)
    ·rfl
    ·exfalso
     apply hat
     unfold atB at hc
     simp only [Bool.and_eq_true,beq_iff_eq] at hc
     exact ⟨hc.2,by unfold ZT;exact hc.1⟩
   rw [Yi hA,Oo hat,ih]
theorem MT {ps:List Int} {k:Nat} (h:k<ps.length):ps.take (k+1)=ps.take k++[Z8 ps k]:=by
 unfold Z8
 rw [List.take_add_one,List.getD,List.getElem?_eq_getElem h];rfl
theorem JR (h:Loose m) (b:Int) (k:Nat) (hk:k<=m.smiths.length):YP (atV m.smiths b k)=true:=by
 have hd:=h.head
 unfold YW at hd
 simp only [Bool.and_eq_true,decide_eq_true_eq] at hd
 have hl:=TY m.smiths b k
 have h12:=hd.2.2.1
 refine Je ⟨by omega,fun p hp=> ?_,?_,Ux _ _ _⟩
 ·obtain ⟨i,hi,h1,h2,rfl⟩:=(Yj m.smiths b p k).1 hp
  have:=Vj (h.at (i:=i) (by omega) h2).2.2.2.2
  unfold OE
  rw [Zm (by omega) (by omega),Zm (by omega) (by show (i:Int)<=99;omega)];rfl
 ·refine ((PR m.smiths b k).and (Ux m.smiths b k)).imp fun {x y} hxy=> ?_
  have h1:=hxy.1
  have h2:=hxy.2
  rw [Nl] at h1
  rw [Ew]
  omega
theorem QS {α:Type} [Inhabited α] (p:α->Bool) (xs:List α):∀ n k:Nat,∃ j,j<=n/\(ZX p xs n).take k=ZX p xs j
 | 0,k=>⟨0,Nat.le_refl _,by simp [ZX]⟩
 | n+1,k=>by
  obtain ⟨j,hj,e⟩:=QS p xs n k
  cases h:p (Z8 xs n)
  ·rw [Yi h];exact ⟨j,by omega,e⟩
  ·rw [YK h]
   by_cases hk:k<=(ZX p xs n).length
   ·rw [List.take_append_of_le_length hk];exact ⟨j,by omega,e⟩
   ·refine ⟨n+1,Nat.le_refl _,?_⟩
    rw [YK h,List.take_of_length_le (by simp;omega)]
theorem Ja (h:Loose m) (b:Int) (k:Nat):YP (WK m.smiths ((ZX (atB b) m.smiths m.smiths.length).take k))=true:=by
 obtain ⟨j,hj,e⟩:=QS (atB b) m.smiths m.smiths.length k
 rw [e,Sx]
 exact JR h b j hj
theorem Yb  {q:Bool} (hq:ZP m=q) (h:Smy w v0 v1 v2 v3 v4 m):Calls Tryz.prog 25 #[.agg #[v0,v1,v2,v3,v4,.int .i64 m.now]] w fun e w'=>e= .returned (.bool q)/\Below w.heap.size w w':=by
 have:=Rr h;rw [hq] at this;exact this
theorem OX  {b:Int} {q:Bool} (hq:Vq m b=q) (h:Smy w v0 v1 v2 v3 v4 m) :
  Calls Tryz.prog 91 #[.agg #[v0,v1,v2,v3,v4,.int .i64 m.now],.int .i64 b] w fun e w'=>e= .returned (.bool q)/\Below w.heap.size w w':=by
 have hq2:inB b 0 ((m.desks.length:Int)-1)=q:=hq
 clear hq
 obtain ⟨a0,p0,rfl,_,_⟩:=IsRooms.shape h.rooms
 obtain ⟨a1,p1,rfl,_,_⟩:=IsRec.shape h.guilds
 obtain ⟨a2,p2,rfl,_,_⟩:=IsRec.shape h.smiths
 obtain ⟨a3,p3,rfl,hc3,hm3⟩:=IsRec.shape h.desks
 obtain ⟨a4,p4,rfl,_,_⟩:=IsRec.shape h.paces
 clear h
 go_enter Tryz.func91,Tryz.ntmps91
 go_wp2_with (go_at_call 76;refine (Z1 _ _ _ _).mono ?_;rw [hq2];rintro e w' ⟨rfl,h9⟩;subst w')
 go_ret
 exact ⟨rfl,(Below.refl _ _).alloc (Nat.le_refl _) _⟩
def PT (m:Z4) (r:Int):Bool:=inB r 0 ((m.rooms.length:Int)-1)
theorem Ig {b:Int} (h:PT m b=true):∃ k:Nat,b=(k:Int)/\k<m.rooms.length:=by
 have:=ZR (show inB b 0 ((m.rooms.length:Int)-1)=true from h)
 exact ⟨b.toNat,by omega,by omega⟩
theorem FV  {b:Int} {q:Bool} (hq:PT m b=q) (h:Smy w v0 v1 v2 v3 v4 m) :
  Calls Tryz.prog 347 #[.agg #[v0,v1,v2,v3,v4,.int .i64 m.now],.int .i64 b] w fun e w'=>e= .returned (.bool q)/\Below w.heap.size w w':=by
 have hq2:inB b 0 ((m.rooms.length:Int)-1)=q:=hq
 clear hq
 obtain ⟨a0,p0,rfl,hc3,hm3⟩:=IsRooms.shape h.rooms
 obtain ⟨a1,p1,rfl,_,_⟩:=IsRec.shape h.guilds
 obtain ⟨a2,p2,rfl,_,_⟩:=IsRec.shape h.smiths
 obtain ⟨a3,p3,rfl,_,_⟩:=IsRec.shape h.desks
 obtain ⟨a4,p4,rfl,_,_⟩:=IsRec.shape h.paces
 clear h
 go_enter Tryz.func347,Tryz.ntmps347
 go_wp2_with (go_at_call 76;refine (Z1 _ _ _ _).mono ?_;rw [hq2];rintro e w' ⟨rfl,h9⟩;subst w')
 go_ret
 exact ⟨rfl,(Below.refl _ _).alloc (Nat.le_refl _) _⟩
def SG (m X:Z4) (c:Int):Z4 × Int:=if ZP m then (if c=0 then (ZE X,0) else (m,c)) else (YM,3)
theorem RI (h:ZP m=false) (X:Z4) (c:Int):SG m X c=(YM,3):=by unfold SG;rw [h];rfl
theorem RK (h:ZP m=true) (X:Z4):SG m X 0=(ZE X,0):=by unfold SG;rw [h];rfl
theorem RJ (h:ZP m=true) (X:Z4) {c:Int} (hc:c ≠ 0):SG m X c=(m,c):=by unfold SG;rw [h,if_pos rfl,if_neg hc]
theorem NK (h:Loose m):ZE m=ZV m:=by unfold ZE;rw [h.mk',if_pos rfl]
def Wf (m:Z4) (who:Int):Int:=if Xl m who then (if (Z8 m.smiths who.toNat).1=1 then 2 else 0) else 1
def VW (m:Z4) (who:Int):Z4:=setS m who.toNat (stS (Z8 m.smiths who.toNat) 1)
theorem Ff (h:Loose m) {k:Nat} (hk:k<m.smiths.length) (hs:(Z8 m.smiths k).1 ≠ 0):ZT (Z8 m.smiths k)= !decide ((Z8 m.smiths k).1=1):=by
 obtain ⟨p,_,_⟩:=h.limits hk hs
 obtain ⟨⟨st,be,rk,my,gu,lo,hi,hd,ca,ut,wk⟩,hrk⟩:∃ d,Z8 m.smiths k=d:=⟨_,rfl⟩
 rw [hrk] at p hs ⊢
 obtain ⟨⟨x0,x1⟩,_⟩:=Zn p
 unfold ZT
 show (st ==2 || st ==3)= !decide (st=1)
 have hs':st ≠ 0:=hs
 rcases (by omega:st=1\/st=2\/st=3) with e | e | e<;>subst e<;>rfl
theorem DF (m:Z4) (who:Int):Xn m who=SG m (VW m who) (Wf m who):=by
 cases h:ZP m
 ·rw [RI h];unfold Xn;rw [h];rfl
 unfold Xn Wf
 rw [h]
 simp only [if_true]
 by_cases hw:Xl m who=true
 rotate_left
 ·rw [if_neg hw,if_neg hw,RJ h _ (by omega)]
 rw [if_pos hw,if_pos hw]
 obtain ⟨k,rfl,hk,hs⟩:=Yz hw
 rw [Int.toNat_natCast]
 have hp:=Ff (ZU h) hk hs
 by_cases e:(Z8 m.smiths k).1=1
 ·rw [decide_eq_true e] at hp
  rw [if_pos e,hp,RJ h _ (by omega)];rfl
 ·rw [decide_eq_false e] at hp
  rw [if_neg e,hp,RK h]
  have hl:=Nh (ZU h) hk hp
  unfold VW
  rw [Int.toNat_natCast,NK hl]
  rfl
def Xa (m:Z4) (who:Int):Int:=if Xl m who then 0 else 1
def Xm (m:Z4) (who:Int):Z4:=setS m who.toNat XC
theorem Et (m:Z4) (who:Int):Yf m who=SG m (Xm m who) (Xa m who):=by
 cases h:ZP m
 ·rw [RI h];unfold Yf;rw [h];rfl
 unfold Yf Xa
 rw [h]
 simp only [if_true]
 by_cases hw:Xl m who=true
 rotate_left
 ·rw [if_neg hw,if_neg hw,RJ h _ (by omega)]
 rw [if_pos hw,if_pos hw,RK h]
 obtain ⟨k,rfl,hk,hs⟩:=Yz hw
 unfold Xm
 rw [Int.toNat_natCast,NK (OV (ZU h) hk)]
theorem FM:(Tryz.prog.info? 251).map (fun i=>(i.zero,i.size,i.bytes))=some (some .nilIface,1,16):=by kernel_rfl
end Go.Proofs.YtjhijildaceadaaGreatDoor
