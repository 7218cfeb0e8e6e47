/- Part 7 of what the proof rests on. No condition but those that a theorem names. -/
import Derived.Test.YtamgfpdahadnfaaGreatDoorXh06
import Derived.ChangeKeysEq
set_option maxHeartbeats 8000000
set_option maxRecDepth 100000
namespace Go.Proofs.YtamgfpdahadnfaaGreatDoor
open Go.ChangeShapes Go.WideShapes Go.ChangeAt Go.RowKit Go.Sort
set_option linter.unusedVariables false
variable {w w' w0 w1 w2 w3 w₀ wr W W' X A B C : World} {v v0 v1 v2 v3 v4 u u0 u1 u2 u3 u4 : Value} {m : Z6}
structure CU (m:Z6):Prop where
 gd:Zk m.gd=true
 lo:∀ i,i<m.sm.length->(Z8 m.sm i).1 ≠ 0-> -1<=(Z8 m.sm i).2.2.2.2.1
 hi:∀ i,i<m.sm.length->(Z8 m.sm i).1 ≠ 0->(Z8 m.sm i).2.2.2.2.1<m.gd.length
theorem Dr {s:Z3} (h:ZL s=true):s.1 ≠ 0:=fun e=>by unfold ZL at h;rw [e] at h;cases h
theorem Ru  {k:Nat} (h:Smy w v0 v1 v2 v3 v4 m) (hg:Zk m.gd=true) (hk:k<m.sm.length) (g0 : -1<=(Z8 m.sm k).2.2.2.2.1) (g1:(Z8 m.sm k).2.2.2.2.1<m.gd.length) :
  Calls Tryz.prog 168 #[.agg #[v0,v1,v2,v3,v4,.int .i64 m.now],.int .i64 (k:Int)] w fun e w'=>e= .returned (.int .i64 (Zs m (k:Int)))/\Below w.heap.size w w':=by
 have hw:Zs m (k:Int)=PY m.gd (Z8 m.sm k):=rfl;rw [hw];clear hw;have Hv:=Z9 h;obtain ⟨h0,h1,h2,h3,h4⟩:=h;obtain ⟨a0,p0,rfl,hc0,hm0⟩:=IsRooms.shape h0;obtain ⟨a1,p1,rfl,hc1,hm1⟩:=IsRec.shape h1;obtain ⟨a2,p2,rfl,hc2,hm2,r2⟩:=h2;obtain ⟨a3,p3,rfl,hc3,hm3⟩:=IsRec.shape h3;obtain ⟨a4,p4,rfl,hc4,hm4⟩:=IsRec.shape h4;clear h0 h1 h3 h4
 rcases r2 with e0 | ⟨sb,off,rfl,hbw,hcl⟩
 ·rw [e0] at hk;simp at hk
 obtain ⟨d0,d1,d2,d3,d4,d5,d6,d7,d8,d9,d10⟩:=Zw hcl hk;clear hcl;generalize Z8 m.sm k=ss at *;obtain ⟨st,be,rk,my,gu,lo,hi,hd,ca,ut,wk⟩:=ss;simp only at d0 d1 d2 d3 d4 d5 d6 d7 d8 d9 d10 g0 g1;have Hg:=Z9 hg;clear hg;go_enter Tryz.func168,Tryz.ntmps168;go_wp2_with fail;have BB:Hid (Below w.heap.size w ((w.alloc (.cells #[.slice a0 m.rm.length p0,.slice a1 m.gd.length p1,.slice (some ⟨sb,off,none⟩) m.sm.length p2,.slice a3 m.dk.length p3,.slice a4 m.pc.length p4,.int .i64 m.now] 32)).alloc (.cells (I11 st be rk my gu lo hi hd ca ut wk) 40))):=Z9 (((ba _ _)).alloc (by simp) _);have Hv2:=Z9 ((uh Hv).below (uh BB)).gd;have ks:=Z9 (Blk.new (w.alloc (.cells #[.slice a0 m.rm.length p0,.slice a1 m.gd.length p1,.slice (some ⟨sb,off,none⟩) m.sm.length p2,.slice a3 m.dk.length p3,.slice a4 m.pc.length p4,.int .i64 m.now] 32)) 40 (I11 st be rk my gu lo hi hd ca ut wk));simp only [ZB] at ks;generalize (w.alloc (.cells #[.slice a0 m.rm.length p0,.slice a1 m.gd.length p1,.slice (some ⟨sb,off,none⟩) m.sm.length p2,.slice a3 m.dk.length p3,.slice a4 m.pc.length p4,.int .i64 m.now] 32)).alloc (.cells (I11 st be rk my gu lo hi hd ca ut wk) 40)=W at *;refine ck (N8 gu lo hi (uh Hv2) (Jg (uh Hg) m.gd.length gu (uh Hv2) g0 g1 g1)) fun w1 hb=> ?_;replace ks:=bl ks hb;replace BB:=bt BB hb;have x9:=(uh ks).cell (i:=9) (v:= .int .i64 ut) rfl;clear hb d0 d1 d2 d3 d4 d5 d6 d7 d8 d9 d10;go_wp2_with (go_at_call 220;refine (Sc _ _ _ _).mono ?_;rintro e w' ⟨rfl,h9⟩;subst w')
 go_ret;exact ⟨rfl,uh BB⟩
theorem Fm (m:Z6) (but:Int) {q:List Z4} {k:Nat} (hk:k<q.length):UU m but (q.take (k+1))=if (Z7 q k).2=but then UU m but (q.take k) else UU m but (q.take k)+Zs m (Z7 q k).2:=by
 have:q.take (k+1)=q.take k++[Z7 q k]:=by
  rw [List.take_succ_eq_append_getElem hk];unfold Z7;simp [List.getD,hk]
 rw [this,Fl]
theorem TN  (b but:Int) (h:Smy w v0 v1 v2 v3 v4 m) (hG:CU m) (hl:m.sm.length<=800) :
  Calls Tryz.prog 110 #[.agg #[v0,v1,v2,v3,v4,.int .i64 m.now],.int .i64 b,.int .i64 but] w fun e w'=>e= .returned (.int .i64 (Zc m b but))/\Below w.heap.size w w':=by
 have Hv:=Z9 (h.alloc (.cells #[v0,v1,v2,v3,v4,.int .i64 m.now] 32));obtain ⟨a0,p0,a1,p1,a2,p2,a3,p3,a4,p4,rfl,rfl,rfl,rfl,rfl,_,_,_,_,_,_,_,_,_,_⟩:=h.five;clear h;have HG:=Z9 hG;clear hG;go_enter Tryz.func110,Tryz.ntmps110;go_wp2_with fail;refine (QU b (uh Hv) hl).mono ?_;rintro e w1 ⟨v',rfl,he,hb⟩;have kb:Hid (Blk w1 w.heap.size 32 (S6 a0 p0 a1 p1 a2 p2 a3 p3 a4 p4 m)):=Z9 ((Blk.new w _ _).below hb (by simp));have BB:Hid (Below w.heap.size w w1):=Z9 (((ba _ _)).trans (hb.mono (by simp)));replace Hv:=Z9 ((uh Hv).below hb);have hq:=Si m.sm b m.sm.length;have hmem:=XF m.sm b;have Hu:Hid (Zc m b but=UU m but (atV m.sm b m.sm.length)):=Z9 rfl
 have hmq:∀ x ∈ atV m.sm b m.sm.length,∃ j:Nat,j<m.sm.length/\ZL (Z8 m.sm j)=true/\x.2=(j:Int):=fun x hx=>by
  obtain ⟨j,hj,_,hp,rfl⟩:=(hmem x m.sm.length).1 hx;exact ⟨j,hj,hp,rfl⟩
 have Hm:=Z9 hmq;clear hmem hmq hb;have hp:=EntsAt.pc he;clear he;generalize atV m.sm b m.sm.length=q at *;obtain ⟨qa,qc,rfl,hqc,hqm,hr⟩:=hp;have Hr:=Z9 hr;clear hr;go_wp2_with fail
 go_loopw [7,9] (fun n i wr=> ∃ k:Nat,k<=q.length/\i= .int .i64 k/\n= .int .i64 (UU m but (q.take k))/\Below w1.heap.size w1 wr) (fun _ i _=>q.length-(intOf i).toNat)
 case atStart=>exact ⟨0,ZA _,rfl,rfl,Z1 _ _⟩
 case round=>
  obtain ⟨k,hk,rfl,rfl,hbr⟩:=hrel;have hub:=IC m but (q.take k);have htl:(q.take k).length<=k:=by rw [List.length_take];omega
  by_cases hlt:k<q.length
  ·rcases uh Hr with e0 | ⟨eb,eo,rfl,hbw,hcl⟩
   ·rw [e0] at hlt;simp at hlt
   obtain ⟨c0,c1⟩:=hcl k hlt;rw [<-hbr.cell (p:=⟨eb,eo+k*2,none⟩) hbw] at c0;rw [<-hbr.cell (p:=⟨eb,eo+k*2+1,none⟩) hbw] at c1;obtain ⟨j,hj,hjp,hje⟩:=uh Hm _ (WZ hlt);have Hjp:=Z9 (Dr hjp);clear hjp;have hst:=Fm m but hlt;have hwb:=PZ m (j:Int);rw [hje] at c1 hst;clear hje hcl;generalize (Z7 q k).1=hd at *;have Hst:=Z9 hst;clear hst;generalize UU m but (q.take k)=u at *;have u1:u<=1024*800:=by omega
   have kb1:=(uh kb).below hbr (uh kb).lt;have Hv1:=Z9 ((uh Hv).below hbr);have Kb1:=Z9 kb1;have Hbr:=Z9 hbr;clear hbr kb1;obtain ⟨x0,x1,x2,x3,x4,x5⟩:=(uh Kb1).c6;by_cases hbut:(j:Int)=but
   ·have hbn:((j:Int) ==but)=true:=by simpa using hbut
    go_wp2_with fail;go_roundw
    case rel=>exact ⟨k+1,by omega,by go_num,by rw [uh Hst,if_pos hbut],uh Hbr⟩
    case measure=>exact ms
   ·have hbn:((j:Int) ==but)=false:=by simpa using hbut
    have Hw:=Z9 (fun (W:World) (hW:Below wr.heap.size wr W)=>Ru ((uh Hv1).below hW) (uh HG).gd hj ((uh HG).lo j hj (uh Hjp)) ((uh HG).hi j hj (uh Hjp)));generalize Zs m (j:Int)=wa at *;have y0:=ZW x0;have y1:=ZW x1;have y2:=ZW x2;have y3:=ZW x3;have y4:=ZW x4;have y5:=ZW x5;have z0:=ZW c0;have z1:=ZW c1;go_wp2_with fail;refine wq ?_
    repeat (go_big_quiet_step (exact ZY (uh Hw _ (Z0 _ _ _))))
    refine wpQuiet_nil ?_;intro _ hw';obtain ⟨⟨dq,osq⟩,hw''⟩:=hw';subst hw'';go_wp2_with fail;go_roundw
    case rel=>exact ⟨k+1,by omega,by go_num,by rw [uh Hst,if_neg hbut],(uh Hbr).trans ((Z0 _ _ _).mono (uh Hbr).size)⟩
    case measure=>exact ms
  ·obtain rfl:k=q.length:=by omega
   rw [List.take_length];go_wp2_with fail;go_ret;exact ⟨ZC (uh Hu).symm,(uh BB).trans (hbr.mono (uh BB).size)⟩
structure Sane (m:Z6):Prop where
 hall:Y2 m.rm=true
 dk:(m.dk.length:Int)=ZV m.rm
 guilded:CU m
 few:m.sm.length<=12
theorem Sane.bench (h:Sane m) {b:Nat} (hb:b<m.dk.length):Yt m.rm (b:Int)=true:=JP h.hall (by omega) (by have:=h.dk;omega)
theorem Sane.eight (h:Sane m):m.dk.length<=8:=by have:=(Zo h.hall).2.2.2;have:=h.dk;omega
theorem Loose.sane (h:Loose m):Sane m:=by
 have hd:=h.head;unfold YD at hd;simp only [ZM,YW] at hd;obtain ⟨h1,h2,h3,h4,_⟩:=hd;refine ⟨h1,h4,⟨h2,fun i hi hs=> ?_,fun i hi hs=>(h.limits hi hs).2.1⟩,h3⟩;have hp:=(h.limits hi hs).1;generalize Z8 m.sm i=s at *;obtain ⟨st,be,rk,my,gu,lo',hi',hd,ca,ut,wk⟩:=s;exact (Zi hp).2.2.2.2.1.1
theorem Sane.with (h:Sane m) {k:Nat} (hk:k<m.sm.length) (hs:(Z8 m.sm k).1 ≠ 0) (b:Int):Sane (WD m (k:Int) b):=by
 have hset:∀ i,Z8 (WD m (k:Int) b).sm i=if i=k then QO (Z8 m.sm k) b else Z8 m.sm i:=fun i=>by
  unfold WD;simp only [Zz];exact ZJ hk i
 refine ⟨h.hall,h.dk,⟨h.guilded.gd,fun i hi hne=> ?_,fun i hi hne=> ?_⟩,by unfold WD;simpa using h.few⟩
 ·have hi':i<m.sm.length:=by unfold WD at hi;simpa using hi
  rw [hset] at hne ⊢;by_cases e:i=k
  ·rw [if_pos e];exact h.guilded.lo k hk hs
  ·rw [if_neg e] at hne ⊢;exact h.guilded.lo i hi' hne
 ·have hi':i<m.sm.length:=by unfold WD at hi;simpa using hi
  rw [hset] at hne ⊢;by_cases e:i=k
  ·rw [if_pos e];exact h.guilded.hi k hk hs
  ·rw [if_neg e] at hne ⊢;exact h.guilded.hi i hi' hne
theorem Sane.few' (h:Sane m) (hp:m.pc.length<=1000):Few m:=by
 obtain ⟨r1,r2,r3,r4⟩:=Zo h.hall;have hg:=(Vp h.guilded.gd).2;refine ⟨by omega,fun r hr=> ?_,by omega,by have:=h.few;omega,by have:=h.eight;omega,hp⟩;have hrb:=List.all_eq_true.1 r3 r hr;unfold Ze at hrb;simp only [ZM] at hrb;have:=ZO hrb.2.1;omega
theorem Qc  {rs:List ZZ} (n:Int) (h:IsRooms w v rs) (hbn:Yt rs n=true) :
  Calls Tryz.prog 172 #[.agg #[v],.int .i64 n] w fun e w'=>e= .returned (.int .i64 (Xo rs n))/\Below w.heap.size w w':=by
 obtain ⟨a,cap,rfl,hc,hm,hr⟩:=h;have Hr:=Z9 hr;have H:=Z9 hbn;have hh:=(WY hbn).1;have hn0:=(WY hbn).2.1;have hn1:n<12:=by have h1:=(WY hbn).2.2;have:=(Zo hh).2.2.2;omega
 have Hh:=Z9 hh;have hl3:rs.length<=3:=(Zo hh).2.1;clear hr hbn hh;go_enter Tryz.func172,Tryz.ntmps172;go_wp2_with fail
 go_loop [1,5] (fun q i=> ∃ r:Nat,r<=rs.length/\i= .int .i64 r/\q= .int .i64 (n-ZV (rs.take r))/\(∀ j,j<r->ZV (rs.take (j+1))<=n)) (fun _ i=>rs.length-(intOf i).toNat)
 case atStart=>exact ⟨0,ZA _,rfl,by simp [ZV],fun j hj=>by omega⟩
 case round=>
  obtain ⟨r,hr,rfl,rfl,hl⟩:=hrel;have hlt:=UC (uh H) hr hl
  rcases uh Hr with e0 | ⟨b,off,rfl,hbw,hcl⟩
  ·rw [e0] at hlt;simp at hlt
  obtain ⟨c0,pv,c1,hip⟩:=hcl r hlt;have hne:b ≠ w.heap.size:=U5 hbw;have Hl:=Z9 hl;have hb0:=WV (uh Hh) r hr;have hb1:=WV (uh Hh) (r+1) hlt;have Hs:=Z9 (XS rs hlt);have HN:Hid (n<ZV (rs.take (r+1))->Xo rs n=r):=Z9 (fun hx=>RN hlt hx (uh Hl));have HM:Hid (ZV (rs.take (r+1))<=n-> ∀ j,j<r+1->ZV (rs.take (j+1))<=n):=Z9 (fun hx=>Yh (uh Hl) hx);rw [XS rs hlt] at hb1 HN HM;generalize ZV (rs.take r)=s at *;generalize (ZR rs r).1=rb at *;clear hcl hip hl;by_cases hq:rb<=n-s
  ·go_wp2_with fail
   go_round
   case rel=>exact ⟨r+1,by omega,by go_num,by rw [uh Hs];congr 1;omega,uh HM (by omega)⟩
   case measure=>exact ms
  ·go_wp2_with fail
   go_ret;exact ⟨ZC (by rw [uh HN (by omega)]),(ba _ _)⟩
theorem Dx {a:Option Addr} {cap:Nat} {rs:List ZZ} {r:Nat} (h:IsRooms w (.slice a rs.length cap) rs) (hr:r<rs.length) (hh:Y2 rs=true) :
  ∃ b off a' cap',a=some ⟨b,off,none⟩/\b<w.heap.size/\w.cell? ⟨b,off+r*2+1,none⟩=some (.slice (some a') (ZR rs r).2.length cap')/\1<=(ZR rs r).2.length/\(ZR rs r).2.length<=4/\a'.spot=none/\a'.block<w.heap.size/\w.cell? ⟨a'.block,a'.off+((ZR rs r).2.length-1)*2,none⟩=some (.int .i64 (Vr (ZR rs r).2)):=by
 obtain ⟨a0,cap0,he,hc,hm,hr'⟩:=h;cases he
 rcases hr' with e0 | ⟨b,off,rfl,hbw,hcl⟩
 ·rw [e0] at hr;simp at hr
 obtain ⟨_,pv,c1,hip⟩:=hcl r hr;have hb:=PK (Rc (Zo hh).2.2.1 hr);obtain ⟨pa,pcap,rfl,_,_,hp⟩:=hip
 rcases hp with e1 | ⟨b',off',rfl,hbw',hcl'⟩
 ·rw [e1] at hb;simp at hb
 ·exact ⟨b,off,⟨b',off',none⟩,pcap,rfl,hbw,c1,hb.2.2.1,hb.2.2.2,rfl,hbw',(hcl' _ (by omega)).1⟩
theorem Nr  {rs:List ZZ} (n:Int) (h:IsRooms w v rs) :
  Calls Tryz.prog 293 #[.agg #[v],.int .i64 n] w fun e w'=>e= .returned (.int .i64 (Zd rs n))/\Below w.heap.size w w':=by
 have Hv:=Z9 h;obtain ⟨a,cap,rfl,hc,hm⟩:∃ a cap,v= .slice a rs.length cap/\rs.length<=cap/\cap<=9223372036854775807:=by obtain ⟨a,cap,rfl,hc,hm,_⟩:=h;exact ⟨a,cap,rfl,hc,hm⟩
 clear h;cases h1:Yt rs n
 ·have H2:=Z9 (Ad h1)
  have H3:=Ju h1;have H3':=Z9 H3;clear H3 h1;go_enter Tryz.func293,Tryz.ntmps293;go_wp2_with fail;refine (Rs n ((uh Hv).alloc _)).mono ?_;rw [uh H3'];rintro e w1 ⟨rfl,hb⟩;have Hb:=Z9 hb;clear hb;go_wp2_with fail;go_ret;exact ⟨ZC (uh H2).symm,((ba _ _)).trans ((uh Hb).mono (by simp))⟩
 ·have H2:=Z9 (Ta h1)
  have H3:=Z9 (Dw h1);have hlt:=Qj h1;have Hh:=Z9 (WY h1).1;have hl3:rs.length<=3:=(Zo (WY h1).1).2.1;clear h1;go_enter Tryz.func293,Tryz.ntmps293;go_wp2_with fail;refine (Rs n ((uh Hv).alloc _)).mono ?_;rw [uh H3];rintro e w1 ⟨rfl,hb⟩;have hz:w.heap.size+1<=w1.heap.size:=by have:=hb.size;simpa using this
  have hbox:w1.cell? ⟨w.heap.size,0,none⟩=some (.slice a rs.length cap):=by rw [hb.cell (p:=⟨w.heap.size,0,none⟩) (by simp)];simp
  have hw1:=((uh Hv).alloc _).below hb;have Hb:=Z9 hb;obtain ⟨b,off,a',cap',rfl,hbw,d1,p1,p4,sp,hbw',d2⟩:=Dx hw1 hlt (uh Hh);obtain ⟨b',off',sp'⟩:=a';simp only at sp hbw' d2;subst sp;clear hb hw1 H3;generalize Xo rs n=r at *;generalize Vr (ZR rs r).2=fo at *;generalize (ZR rs r).2.length=m at *;have hr0:((r:Int) == -1)=false:=beq_eq_false_iff_ne.2 (by omega);go_wp2_with fail;go_ret;exact ⟨ZC (uh H2).symm,((ba _ _)).trans ((uh Hb).mono (by simp))⟩
def Uh (rs:List ZZ) (n:Int):Bool:=Y2 rs && inB n 0 ((rs.length:Int)-1)
def CX (lo hi:Int):Int:=(2:Int) ^ hi.toNat-2 ^ lo.toNat
def Vd (rs:List ZZ) (n:Int):Int:=if Uh rs n=true then CX (ZV (rs.take n.toNat)) (ZV (rs.take (n.toNat+1))) else -1
theorem AW {rs:List ZZ} {n:Int} (h:Uh rs n=true):Vd rs n=CX (ZV (rs.take n.toNat)) (ZV (rs.take (n.toNat+1))):=by unfold Vd;rw [if_pos h]
theorem EU {rs:List ZZ} {n:Int} (h:Uh rs n=false):Vd rs n= -1:=by unfold Vd;rw [h];rfl
theorem BS {rs:List ZZ} {n:Int} (h:Y2 rs=false):Uh rs n=false:=by unfold Uh;rw [h];rfl
theorem JT {rs:List ZZ} {n:Int} (h:n<0\/rs.length<=n):Uh rs n=false:=by unfold Uh;rw [Wv (by omega)];simp
theorem OR {s:Int} (h0:0<=s) (h1:s<=12):1<=(2:Int) ^ s.toNat/\(2:Int) ^ s.toNat<=4096:=by
 have key:∀ k:Fin 13,1<=(2:Int) ^ k.val/\(2:Int) ^ k.val<=4096:=by decide
 exact key ⟨s.toNat,by omega⟩
theorem SY {x:Int} (h0 : -100000<=x) (h1:x<=100000):wrap64 x=x:=by unfold wrap64;omega
theorem Tf  {rs:List ZZ} (n:Int) (h:IsRooms w v rs) :
  Calls Tryz.prog 248 #[.agg #[v],.int .i64 n] w fun e w'=>e= .returned (.int .i64 (Vd rs n))/\Below w.heap.size w w':=by
 have Hv:=Z9 h;obtain ⟨a,cap,rfl,hc,hm⟩:∃ a cap,v= .slice a rs.length cap/\rs.length<=cap/\cap<=9223372036854775807:=by obtain ⟨a,cap,rfl,hc,hm,_⟩:=h;exact ⟨a,cap,rfl,hc,hm⟩
 clear h;have Hb0:Hid (Below w.heap.size w (w.alloc (.cells #[.slice a rs.length cap] 26))):=Z9 ((ba _ _));cases h1:Y2 rs
 ·have H2:=Z9 (EU (BS (n:=n) h1))
  go_enter Tryz.func248,Tryz.ntmps248;go_wp2_with fail;refine ck (XI ((uh Hv).alloc _)) fun w1 hb=> ?_;have Hb:=Z9 hb;clear hb;go_wp2_with fail;go_ret;exact ⟨ZC (uh H2).symm,(uh Hb0).trans ((uh Hb).mono (by simp))⟩
 by_cases h2:n<0
 ·have H2:=Z9 (EU (JT (rs:=rs) (.inl h2)))
  go_enter Tryz.func248,Tryz.ntmps248;go_wp2_with fail;refine ck (XI ((uh Hv).alloc _)) fun w1 hb=> ?_;have Hb:=Z9 hb;clear hb;go_wp2_with fail;go_ret;exact ⟨ZC (uh H2).symm,(uh Hb0).trans ((uh Hb).mono (by simp))⟩
 by_cases h3:(rs.length:Int)<=n
 ·have H2:=Z9 (EU (JT (rs:=rs) (.inr h3)))
  go_enter Tryz.func248,Tryz.ntmps248;go_wp2_with fail;refine ck (XI ((uh Hv).alloc _)) fun w1 hb=> ?_;have hbox:w1.cell? ⟨w.heap.size,0,none⟩=some (.slice a rs.length cap):=by rw [hb.cell (p:=⟨w.heap.size,0,none⟩) (by simp)];simp
  have Hb:=Z9 hb;clear hb;go_wp2_with fail;go_ret;exact ⟨ZC (uh H2).symm,(uh Hb0).trans ((uh Hb).mono (by simp))⟩
 have h4:Uh rs n=true:=by unfold Uh;rw [h1,Zn (by omega) (by omega)];rfl
 have H2:=Z9 (AW h4);obtain ⟨r,rfl⟩:=Int.eq_ofNat_of_zero_le (show 0<=n by omega);have H1:=Z9 h1;have Ha:=Z9 (SZ h1);have hl3:rs.length<=3:=(Zo h1).2.1;have hb0:=WV h1 r (by omega);have hb1:=WV h1 (r+1) (by omega);go_enter Tryz.func248,Tryz.ntmps248;go_wp2_with fail;refine ck (XI ((uh Hv).alloc _)) fun w1 hb=> ?_;have hbox:w1.cell? ⟨w.heap.size,0,none⟩=some (.slice a rs.length cap):=by rw [hb.cell (p:=⟨w.heap.size,0,none⟩) (by simp)];simp
 have k0:=ZW hbox;have Hb:=Z9 hb;have Hw:=Z9 (((uh Hv).alloc _).below hb);clear hb h4;go_wp2_with fail;refine wq ?_
 repeat (go_big_quiet_step (first | exact ZY (V8 (((uh Hw).below (Z0 _ _ _)).taken (n:=r) (by omega)) ((uh Ha).taken _)) | exact ZY (V8 (((uh Hw).below (Z0 _ _ _)).taken (n:=r+1) (by omega)) ((uh Ha).taken _))))
 refine wpQuiet_nil ?_;intro _ hw';obtain ⟨⟨dq,osq⟩,hw''⟩:=hw';subst hw'';rw [Zz] at H2;generalize ZV (rs.take r)=s0 at *;generalize ZV (rs.take (r+1))=s1 at *;obtain ⟨x0,x1⟩:=hb0;obtain ⟨y0,y1⟩:=hb1;go_wp2_with fail;go_quiet (fail);go_wp2_with fail;go_ret;refine ⟨ZC ?_,(uh Hb0).trans (((uh Hb).trans (Xc ((Z0 _ _ _).mono (uh Hb).size) _)).mono (by simp))⟩;have p0:=OR x0 x1;have p1:=OR y0 y1;rw [uh H2,SY (x:=2 ^ s1.toNat) (by omega) (by omega),SY (x:=2 ^ s0.toNat) (by omega) (by omega),SY (x:=2 ^ s1.toNat-2 ^ s0.toNat) (by omega) (by omega)];rfl
theorem Vh {rs:List ZZ} (h:rs.all Ze=true) {i:Nat} : ∀ d,i+d<=rs.length->ZV (rs.take i)<=ZV (rs.take (i+d))
 | 0,_=>Int.le_refl _
 | d+1,hd=>by
  have ih:=Vh h (i:=i) d (by omega);have hb:=PK (Rc h (j:=i+d) (by omega));rw [<-Nat.add_assoc,XS rs (by omega)];omega
theorem Dy {rs:List ZZ} {n:Int} (h:Yt rs n=true) {r:Nat} (hr:r<rs.length):Xo rs n=r ↔ ZV (rs.take r)<=n/\n<ZV (rs.take (r+1)):=by
 have hb:=WY h;have ha:=(Zo hb.1).2.2.1
 have key:∀ d q:Nat,q+d=rs.length->(∀ j,j<q->ZV (rs.take (j+1))<=n)->ZV (rs.take (Xo rs n))<=n/\n<ZV (rs.take (Xo rs n+1)):=by
  intro d
  induction d with
  | zero=>intro q hq hl;have:=UC h (by omega) hl;omega
  | succ d ih=>
   intro q hq hl;have hlt:=UC h (r:=q) (by omega) hl;by_cases hc:n<ZV (rs.take (q+1))
   ·rw [RN hlt hc hl]
    refine ⟨?_,hc⟩;cases q with
    | zero=>simp [ZV];omega
    | succ q=>exact hl q (by omega)
   ·exact ih (q+1) (by omega) (Yh hl (by omega))
 constructor
 ·intro e;have:=key rs.length 0 (by omega) (fun j hj=>by omega);rwa [e] at this
 ·intro hx
  refine RN hr hx.2 (fun j hj=> ?_);have:=Vh ha (i:=j+1) (r-(j+1)) (by omega);rw [show j+1+(r-(j+1))=r by omega] at this;omega
theorem TP (b:Int) (h0:0<=b) (h1:b<=12) (w:World):Calls Tryz.prog 70 #[.int .i64 b] w fun e w'=>e= .returned (.int .i64 (2 ^ b.toNat))/\w'=w:=by
 go_enter Tryz.func70,Tryz.ntmps70
 go_wp2
 all_goals
  go_ret;refine ⟨ZC ?_,rfl⟩;have:=OR h0 h1;exact SY (by omega) (by omega)
open Go.ChangeShapes Go.WideShapes Go.ChangeAt Go.RowKit
def US (s:Int):Nat->List Int
 | 0=>[]
 | k+1=>if Vt s k=true then US s k++[(k:Int)] else US s k
def SF (s:Int):List Int:=US s 8
def VE (s:Int):Int:=(SF s).headD (-1)
theorem RV {s:Int} {k:Nat} (h:Vt s k=true):US s (k+1)=US s k++[(k:Int)]:=by simp [US,h]
theorem UF {s:Int} {k:Nat} (h:Vt s k=false):US s (k+1)=US s k:=by simp [US,h]
theorem IA (s:Int):∀ k,(US s k).length<=k
 | 0=>by simp [US]
 | k+1=>by
  have:=IA s k;cases h:Vt s k
  ·rw [UF h];omega
  ·rw [RV h];simp;omega
theorem Ks {s:Int} (h:inB s 0 255=false):∀ k,US s k=[]
 | 0=>rfl
 | k+1=>by rw [UF (EA (.inl h))];exact Ks h k
theorem Bj (s:Int):∀ k,k<=8->US s k <+: SF s:=by
 have step:∀ k,US s k <+: US s (k+1):=fun k=>by
  cases h:Vt s k
  ·rw [UF h];exact List.prefix_refl _
  ·rw [RV h];exact List.prefix_append _ _
 have go:∀ d k,US s k <+: US s (k+d):=by
  intro d
  induction d with
  | zero=>intro k;exact List.prefix_refl _
  | succ d ih=>intro k;exact (ih k).trans (step (k+d))
 intro k hk;have:=go (8-k) k
 rwa [show k+(8-k)=8 by omega] at this
theorem zO {lo hi b:Int} (h0:0<=lo) (h1:lo<=hi) (h2:hi<=8) (hb0 : -1<=b) (hb1:b<=8):Vt (CX lo hi) b=decide (lo<=b/\b<hi):=by
 have key:∀ b:Fin 10,∀ hi:Fin 9,∀ lo:Fin 9,lo.val<=hi.val->Vt (CX lo.val hi.val) ((b.val:Int)-1)=decide ((lo.val:Int)<=(b.val:Int)-1/\(b.val:Int)-1<hi.val):=by decide +kernel
 have:=key ⟨(b+1).toNat,by omega⟩ ⟨hi.toNat,by omega⟩ ⟨lo.toNat,by omega⟩ (by show lo.toNat<=hi.toNat;omega);simp only [show ((lo.toNat:Nat):Int)=lo by omega,show ((hi.toNat:Nat):Int)=hi by omega,show (((b+1).toNat:Nat):Int)-1=b by omega] at this;exact this
def ZQ {α:Type} [Inhabited α] (p:α->Bool) (xs:List α):Nat->List Int
 | 0=>[]
 | k+1=>if p (Z8 xs k) then ZQ p xs k++[(k:Int)] else ZQ p xs k
theorem Yo {α:Type} [Inhabited α] {p:α->Bool} {xs:List α} {k:Nat} (h:p (Z8 xs k)=true):ZQ p xs (k+1)=ZQ p xs k++[(k:Int)]:=by rw [ZQ,if_pos h]
theorem XO {α:Type} [Inhabited α] {p:α->Bool} {xs:List α} {k:Nat} (h:p (Z8 xs k)=false):ZQ p xs (k+1)=ZQ p xs k:=by rw [ZQ,if_neg (by simp [h])]
theorem VZ {α:Type} [Inhabited α] (p:α->Bool) (xs:List α):∀ k,(ZQ p xs k).length<=k
 | 0=>Z2 _
 | k+1=>by
  have:=VZ p xs k;unfold ZQ
  split
  ·simp;omega
  ·omega
theorem WC {α:Type} [Inhabited α] (p:α->Bool) (xs:List α) (x:Int):∀ k,x ∈ ZQ p xs k ↔ ∃ i:Nat,i<k/\x=(i:Int)/\p (Z8 xs i)=true
 | 0=>by simp [ZQ]
 | k+1=>by
  have ih:=WC p xs x k;cases h:p (Z8 xs k)
  ·rw [XO h,ih]
   constructor
   ·rintro ⟨i,hi,h1,h2⟩
    exact ⟨i,by omega,h1,h2⟩
   ·rintro ⟨i,hi,h1,h2⟩
    by_cases hik:i=k
    ·subst hik;rw [h] at h2;cases h2
    ·exact ⟨i,by omega,h1,h2⟩
  ·rw [Yo h,List.mem_append,ih]
   constructor
   ·rintro (⟨i,hi,h1,h2⟩ | h1)
    ·exact ⟨i,by omega,h1,h2⟩
    ·exact ⟨k,by omega,by simpa using h1,h⟩
   ·rintro ⟨i,hi,h1,h2⟩
    by_cases hik:i=k
    ·subst hik;right;simp [h1]
    ·exact .inl ⟨i,by omega,h1,h2⟩
theorem Om {α:Type} [Inhabited α] (p:α->Bool) (xs:List α):∀ k,decide (0<(ZQ p xs k).length)=(List.range k).any fun j=>p (Z8 xs j)
 | 0=>rfl
 | k+1=>by
  have ih:=Om p xs k;rw [zE,<-ih];cases h:p (Z8 xs k)
  ·rw [XO h];simp
  ·rw [Yo h];simp
def XZ {α:Type} [Inhabited α] (p:α->Bool) (xs:List α) (k:Nat):Bool:=(List.range k).all fun j=>p (Z8 xs j)
theorem Pc {α:Type} [Inhabited α] {p:α->Bool} {xs:List α} {k n:Nat} (hk:k<n) (h:p (Z8 xs k)=false):XZ p xs n=false:=P2 (p:=fun j=>p (Z8 xs j)) hk h
theorem Pd {α:Type} [Inhabited α] {p:α->Bool} {xs:List α} {k:Nat} (h:XZ p xs k=true) (h2:p (Z8 xs k)=true):XZ p xs (k+1)=true:=by unfold XZ at h ⊢;rw [Tz,h,h2];rfl
theorem Ot {α:Type} [Inhabited α] (p q:α->Bool) (xs:List α):∀ k,(XZ p xs k && XZ q xs k)=XZ (fun x=>p x && q x) xs k
 | 0=>rfl
 | k+1=>by
  have ih:=Ot p q xs k;unfold XZ at ih ⊢;rw [Tz,Tz,Tz,<-ih];generalize ((List.range k).all fun j=>p (Z8 xs j))=a;generalize ((List.range k).all fun j=>q (Z8 xs j))=b;cases a<;>cases b<;>cases hp:p (Z8 xs k)<;>cases hq:q (Z8 xs k)<;>simp [hp,hq]
theorem Fx {α:Type} [Inhabited α] {p q:α->Bool} (xs:List α) (h:∀ x,p x=q x) (k:Nat):XZ p xs k=XZ q xs k:=by unfold XZ;congr 1;funext j;exact h _
def WX (n:Nat) (i:Int):Bool:=decide (0<=i) && decide (i<n)
def atB (b:Int) (s:Z3):Bool:=(s.1 ==2 || s.1 ==3) && s.2.1 ==b
def Y0 (b:Int) (s:Z3):Bool:=s.1 ==3 && s.2.1 ==b
def WM (n:Nat) (s:Z3):Bool:=s.1 ==0 || (s.2.2.2.2.1 == -1 || WX n s.2.2.2.2.1)
def Ww (ds:List XQ) (s:Z3):Bool:=s.1 ==0 || (WX ds.length s.2.1 && (s.1 ==1 || ((Z8 ds s.2.1.toNat).1 && (Vt s.2.2.2.1 s.2.1 && Vi s.2.2.2.2.2.2.2.1 (Z8 ds s.2.1.toNat).2.2))))
def Ts (ss:List Z3) (n:Nat):Bool:=decide (ss.length<=12) && (XZ Zx ss ss.length && XZ (WM n) ss ss.length)
def QR (ds:List XQ) (n:Int):Bool:=decide ((ds.length:Int)=n) && (XZ Vy ds ds.length && decide (0<(ZQ (fun d:XQ=>d.1) ds ds.length).length))
def Vj (ps:List Int) (rs:List ZZ):Bool:=decide (ps.length=rs.length) && (List.range ps.length).all fun j=>WX (ZR rs j).2.length (Z8 ps j)
def PE (m:Z6):Bool:=Y2 m.rm && (Zk m.gd && (Ts m.sm m.gd.length && (QR m.dk (ZV m.rm) && (Vj m.pc m.rm && inB m.now 0 1000000))))
def VU (m:Z6):Bool:=PE m && XZ (Ww m.dk) m.sm m.sm.length
def U3 (m:Z6) (b:Nat):Bool:=if (Z8 m.dk b).2.1= -1 then decide ((ZQ (atB b) m.sm m.sm.length).length=0) else decide ((ZQ (Y0 b) m.sm m.sm.length).length=1) && decide (Z8 (ZQ (Y0 b) m.sm m.sm.length) 0=(Z8 m.dk b).2.1)
def PV (m:Z6):Bool:=(List.range m.dk.length).all (U3 m)
def A2 (m:Z6):Bool:=VU m && PV m
theorem By (h m:Int):Vi h m=WE h m:=by
 unfold Vi WE Wf;rw [Bool.and_assoc]
theorem AD (m:Z6) (s:Z3):(Zx s && (WM m.gd.length s && Ww m.dk s))=(XV m s && XL m s):=by
 cases hs:Zx s
 ·unfold XV;rw [hs];rfl
 ·have hh:XV m s=(s.1 ==0 || (decide (s.2.2.2.2.1<m.gd.length) && decide (s.2.1<m.dk.length))):=by unfold XV;rw [hs];rfl
  rw [hh,Bool.true_and];unfold Zx at hs;simp only [Bool.or_eq_true] at hs
  rcases hs with hg | hp
  ·have e:=Wa hg
   subst e;rfl
  ·obtain ⟨st,be,rk,my,gu,lo,hi,hd,ca,ut,wk⟩:=s
   obtain ⟨⟨s1,s2⟩,⟨b1,b2⟩,_,⟨m1,m2⟩,⟨g1,g2⟩,_⟩:=Zi hp;have hmem:Vt my be=WI my be:=Au (Zn (by omega) (by omega)) (Zn (by omega) (by omega));have hst0:(st ==0)=false:=by simp;omega
   have hgu:(gu == -1 || WX m.gd.length gu)=decide (gu<m.gd.length):=by
    unfold WX;by_cases e:gu= -1
    ·subst e;simp;omega
    ·have:(gu == -1)=false:=by simpa using e
     rw [this,Bool.false_or,show decide (0<=gu)=true from decide_eq_true (by omega),Bool.true_and]
   have hbe:WX m.dk.length be=decide (be<m.dk.length):=by
    unfold WX;rw [show decide (0<=be)=true from decide_eq_true (by omega),Bool.true_and]
   have hpr:ZL (st,be,rk,my,gu,lo,hi,hd,ca,ut,wk)= !(st ==1):=by
    unfold ZL
    rcases (by omega:st=1\/st=2\/st=3) with e | e | e<;>subst e<;>rfl
   unfold WM Ww XL;simp only;rw [hst0,hgu,hbe,hpr,hmem,By,Bool.not_not];simp only [Bool.false_or,Bool.and_assoc]
theorem Kg (ss:List Z3) (b:Int):∀ k:Nat,
  (match Xz ss b k with
   | none=>2<=(ZQ (Y0 b) ss k).length
   | some (wk,wt)=>((wk= -1/\ZQ (Y0 b) ss k=[])\/(0<=wk/\ZQ (Y0 b) ss k=[wk]))/\((ZQ (atB b) ss k=[]) ↔ (ZQ (Y0 b) ss k=[]/\wt=false)))
 | 0=>by simp [Xz,ZQ]
 | k+1=>by
  have ih:=Kg ss b k;unfold Xz;cases hsc:Xz ss b k with
  | none=>
   rw [hsc] at ih;simp only at ih ⊢;unfold ZQ
   split
   ·simp;omega
   ·exact ih
  | some r=>
   obtain ⟨wk,wt⟩:=r;rw [hsc] at ih;simp only at ih ⊢;by_cases hat:(Z8 ss k).2.1=b/\ZL (Z8 ss k)=true
   ·rw [if_pos hat]
    have hA:atB b (Z8 ss k)=true:=by
     have h2:=hat.2;unfold ZL at h2;unfold atB;rw [h2,hat.1];simp
    by_cases h2:(Z8 ss k).1=2
    ·rw [if_pos h2]
     have hW:Y0 b (Z8 ss k)=false:=by unfold Y0;rw [h2];rfl
     rw [XO hW,Yo hA];exact ⟨ih.1,by simp⟩
    ·rw [if_neg h2]
     have h3:(Z8 ss k).1=3:=by
      have:=hat.2;unfold ZL at this;simp only [Bool.or_eq_true,beq_iff_eq] at this;omega
     have hW:Y0 b (Z8 ss k)=true:=by unfold Y0;rw [h3,hat.1];simp
     rw [Yo hW,Yo hA];by_cases hwk:0<=wk
     ·rw [if_pos hwk]
      rcases ih.1 with ⟨e,_⟩ | ⟨_,e⟩
      ·omega
      ·simp only
       rw [e];simp
     ·rw [if_neg hwk]
      rcases ih.1 with ⟨_,e⟩ | ⟨e,_⟩
      ·simp only
       rw [e];simp
      ·omega
   ·rw [if_neg hat]
    have hA:atB b (Z8 ss k)=false:=by
     cases hc:atB b (Z8 ss k)
     ·rfl
     ·exfalso
      apply hat;unfold atB at hc;simp only [ZM,beq_iff_eq] at hc;exact ⟨hc.2,by unfold ZL;exact hc.1⟩
    have hW:Y0 b (Z8 ss k)=false:=by
     cases hc:Y0 b (Z8 ss k)
     ·rfl
     ·exfalso
      apply hat;unfold Y0 at hc;simp only [ZM,beq_iff_eq] at hc;exact ⟨hc.2,by unfold ZL;rw [hc.1];rfl⟩
    rw [XO hW,XO hA];exact ih
theorem Kq (m:Z6) (b:Nat):U3 m b=Ya m b:=by
 have h:=Kg m.sm b m.sm.length;unfold U3 Ya;cases hsc:Xz m.sm b m.sm.length with
 | none=>
  rw [hsc] at h;simp only at h ⊢
  split
  ·have:ZQ (atB b) m.sm m.sm.length ≠ []:=by
    intro e;have hx:Z8 (ZQ (Y0 b) m.sm m.sm.length) 0 ∈ ZQ (Y0 b) m.sm m.sm.length:=Vu (by omega);obtain ⟨i,hi,_,hw⟩:=(WC _ _ _ _).1 hx
    have:(i:Int) ∈ ZQ (atB b) m.sm m.sm.length:=(WC _ _ _ _).2 ⟨i,hi,rfl,by
     unfold Y0 at hw;simp only [ZM,beq_iff_eq] at hw;unfold atB
     rw [hw.1,hw.2];simp⟩
    rw [e] at this;cases this
   simp only [List.length_eq_zero_iff,this,decide_false]
  ·rw [show decide ((ZQ (Y0 b) m.sm m.sm.length).length=1)=false from decide_eq_false (by omega),Bool.false_and]
 | some r=>
  obtain ⟨wk,wt⟩:=r;rw [hsc] at h;simp only at h ⊢;obtain ⟨h1,h2⟩:=h;generalize ZQ (Y0 b) m.sm m.sm.length=ws at *;generalize ZQ (atB b) m.sm m.sm.length=az at *;generalize (Z8 m.dk b).2.1=who at *;by_cases hw:who= -1
  ·subst hw
   simp only [if_true,List.length_eq_zero_iff]
   rcases h1 with ⟨rfl,rfl⟩ | ⟨hk,rfl⟩
   ·cases wt
    ·simp at h2;simp [h2]
    ·simp at h2;simp [h2]
   ·have hne:az ≠ []:=by
     intro e;have:=(h2.1 e).1;cases this
    have:((-1:Int) ==wk)=false:=by simp;omega
    rw [this];simp [hne]
  ·rw [if_neg hw]
   rcases h1 with ⟨rfl,rfl⟩ | ⟨hk,rfl⟩
   ·have:(who == -1)=false:=by simpa using hw
    rw [this];simp
   ·have h0:decide (wk<0)=false:=Xr (by omega)
    rw [h0,Bool.and_false,Bool.not_false,Bool.and_true];simp only [YT,YM,decide_true,Bool.true_and];show decide (wk=who)=(who ==wk)
    by_cases e:wk=who
    ·subst e;simp
    ·rw [decide_eq_false e];symm;simp;omega
theorem Ag (n:Nat) (i:Int):WX n i=inB i 0 ((n:Int)-1):=by
 unfold WX inB;by_cases h0:0<=i<;>by_cases h1:i<n
 ·rw [decide_eq_true h0,decide_eq_true h1,decide_eq_true (show 0<=i/\i<=(n:Int)-1 by omega)];rfl
 ·rw [decide_eq_true h0,decide_eq_false h1,decide_eq_false (show ¬ (0<=i/\i<=(n:Int)-1) by omega)];rfl
 ·rw [decide_eq_false h0,decide_eq_false (show ¬ (0<=i/\i<=(n:Int)-1) by omega)];rfl
 ·rw [decide_eq_false h0,decide_eq_false (show ¬ (0<=i/\i<=(n:Int)-1) by omega)];rfl
theorem Qd (m:Z6):VU m=Yv m:=by
 have e1:VN m m.sm.length=(XZ Zx m.sm m.sm.length && (XZ (WM m.gd.length) m.sm m.sm.length && XZ (Ww m.dk) m.sm m.sm.length)):=by
  rw [Ot,Ot];exact (Fx m.sm (AD m) m.sm.length).symm
 have e2:Vj m.pc m.rm=(decide (m.pc.length=m.rm.length) && VM m m.pc.length):=by
  unfold Vj VM
  congr 2
  funext j
  unfold V4;exact Ag _ _
 have e3:decide (0<(ZQ (fun d:XQ=>d.1) m.dk m.dk.length).length)=TJ m m.dk.length:=Om _ _ _;unfold VU PE Yv YD Ts QR;rw [e1,e2,e3];have e4:XZ Vy m.dk m.dk.length=Vk m m.dk.length:=rfl;rw [e4];generalize Y2 m.rm=x1;generalize Zk m.gd=x2;generalize decide (m.sm.length<=12)=x3;generalize XZ Zx m.sm m.sm.length=x4;generalize XZ (WM m.gd.length) m.sm m.sm.length=x5;generalize decide ((m.dk.length:Int)=ZV m.rm)=x6;generalize Vk m m.dk.length=x7;generalize TJ m m.dk.length=x8;generalize decide (m.pc.length=m.rm.length)=x9;generalize VM m m.pc.length=x10;generalize inB m.now 0 1000000=x11;generalize XZ (Ww m.dk) m.sm m.sm.length=x12;rw [Bool.eq_iff_iff];simp only [ZM];constructor
 ·rintro ⟨⟨a1,a2,⟨a3,a4,a5⟩,⟨a6,a7,a8⟩,⟨a9,a10⟩,a11⟩,a12⟩
  exact ⟨⟨a1,a2,a3,a6,a9,a11⟩,a7,a10,⟨a4,a5,a12⟩,a8⟩
 ·rintro ⟨⟨a1,a2,a3,a6,a9,a11⟩,a7,a10,⟨a4,a5,a12⟩,a8⟩
  exact ⟨⟨a1,a2,⟨a3,a4,a5⟩,⟨a6,a7,a8⟩,⟨a9,a10⟩,a11⟩,a12⟩
theorem A3 (m:Z6):A2 m=ZI m:=by
 unfold A2 ZI PV;rw [Qd,show U3 m=Ya m from funext (Kq m)]
def VL (ss:List Z3) (ps:List Int):List Z4:=ps.foldl (fun q i=>Vb q (Xq (Z8 ss i.toNat),i)) []
theorem PH (ss:List Z3) (ps:List Int) (i:Int):VL ss (ps++[i])=Vb (VL ss ps) (Xq (Z8 ss i.toNat),i):=by unfold VL;rw [List.foldl_append];rfl
theorem Qg (ss:List Z3) (b:Int):∀ k,VL ss (ZQ (atB b) ss k)=atV ss b k
 | 0=>rfl
 | k+1=>by
  have ih:=Qg ss b k;by_cases hat:(Z8 ss k).2.1=b/\ZL (Z8 ss k)=true
  ·have hA:atB b (Z8 ss k)=true:=by
    have h2:=hat.2;unfold ZL at h2;unfold atB;rw [h2,hat.1];simp
   rw [Yo hA,PH,ih,UH hat.1 hat.2];rfl
  ·have hA:atB b (Z8 ss k)=false:=by
    cases hc:atB b (Z8 ss k)
    ·rfl
    ·exfalso
     apply hat;unfold atB at hc;simp only [ZM,beq_iff_eq] at hc;exact ⟨hc.2,by unfold ZL;exact hc.1⟩
   rw [XO hA,TA hat,ih]
theorem PT {ps:List Int} {k:Nat} (h:k<ps.length):ps.take (k+1)=ps.take k++[Z8 ps k]:=by
 unfold Z8;rw [List.take_add_one,List.getD,List.getElem?_eq_getElem h];rfl
theorem FC (h:Loose m) (b:Int) (k:Nat) (hk:k<=m.sm.length):Yf (atV m.sm b k)=true:=by
 have hd:=h.head;unfold YD at hd;simp only [ZM,YW] at hd;have hl:=Si m.sm b k;have h12:=hd.2.2.1;refine EM ⟨by omega,fun p hp=> ?_,?_,S0 _ _ _⟩
 ·obtain ⟨i,hi,h1,h2,rfl⟩:=(XF m.sm b p k).1 hp
  have:=TZ (h.at (i:=i) (by omega) h2).2.2.2.2;unfold LA;rw [Zn (by omega) (by omega),Zn (by omega) (by show (i:Int)<=99;omega)];rfl
 ·refine ((M5 m.sm b k).and (S0 m.sm b k)).imp fun {x y} hxy=> ?_
  have h1:=hxy.1;have h2:=hxy.2;rw [J1] at h1;rw [Ar];omega
theorem On {α:Type} [Inhabited α] (p:α->Bool) (xs:List α):∀ n k:Nat,∃ j,j<=n/\(ZQ p xs n).take k=ZQ p xs j
 | 0,k=>⟨0,Z2 _,by simp [ZQ]⟩
 | n+1,k=>by
  obtain ⟨j,hj,e⟩:=On p xs n k;cases h:p (Z8 xs n)
  ·rw [XO h];exact ⟨j,by omega,e⟩
  ·rw [Yo h]
   by_cases hk:k<=(ZQ p xs n).length
   ·rw [List.take_append_of_le_length hk];exact ⟨j,by omega,e⟩
   ·refine ⟨n+1,Z2 _,?_⟩
    rw [Yo h,List.take_of_length_le (by simp;omega)]
theorem EI (h:Loose m) (b:Int) (k:Nat):Yf (VL m.sm ((ZQ (atB b) m.sm m.sm.length).take k))=true:=by
 obtain ⟨j,hj,e⟩:=On (atB b) m.sm m.sm.length k;rw [e,Qg];exact FC h b j hj
theorem XN  {q:Bool} (hq:ZI m=q) (h:Smy w v0 v1 v2 v3 v4 m):Calls Tryz.prog 12 #[.agg #[v0,v1,v2,v3,v4,.int .i64 m.now]] w fun e w'=>e= .returned (.bool q)/\Below w.heap.size w w':=by
 have:=O6 h;rw [hq] at this;exact this
theorem L9  {b:Int} {q:Bool} (hq:Ug m b=q) (h:Smy w v0 v1 v2 v3 v4 m) :
  Calls Tryz.prog 85 #[.agg #[v0,v1,v2,v3,v4,.int .i64 m.now],.int .i64 b] w fun e w'=>e= .returned (.bool q)/\Below w.heap.size w w':=by
 have hq2:inB b 0 ((m.dk.length:Int)-1)=q:=hq;clear hq;obtain ⟨a0,p0,rfl,_,_⟩:=IsRooms.shape h.rm;obtain ⟨a1,p1,rfl,_,_⟩:=IsRec.shape h.gd;obtain ⟨a2,p2,rfl,_,_⟩:=IsRec.shape h.sm;obtain ⟨a3,p3,rfl,hc3,hm3⟩:=IsRec.shape h.dk;obtain ⟨a4,p4,rfl,_,_⟩:=IsRec.shape h.pc;clear h;go_enter Tryz.func85,Tryz.ntmps85;go_wp2_with (go_at_call 59;refine (ZT _ _ _ _).mono ?_;rw [hq2];rintro e w' ⟨rfl,h9⟩;subst w')
 go_ret;exact ⟨rfl,(ba _ _)⟩
def M8 (m:Z6) (r:Int):Bool:=inB r 0 ((m.rm.length:Int)-1)
theorem Dz {b:Int} (h:M8 m b=true):∃ k:Nat,b=(k:Int)/\k<m.rm.length:=by
 have:=ZO (show inB b 0 ((m.rm.length:Int)-1)=true from h);exact ⟨b.toNat,by omega,by omega⟩
theorem BX  {b:Int} {q:Bool} (hq:M8 m b=q) (h:Smy w v0 v1 v2 v3 v4 m) :
  Calls Tryz.prog 281 #[.agg #[v0,v1,v2,v3,v4,.int .i64 m.now],.int .i64 b] w fun e w'=>e= .returned (.bool q)/\Below w.heap.size w w':=by
 have hq2:inB b 0 ((m.rm.length:Int)-1)=q:=hq;clear hq;obtain ⟨a0,p0,rfl,hc3,hm3⟩:=IsRooms.shape h.rm;obtain ⟨a1,p1,rfl,_,_⟩:=IsRec.shape h.gd;obtain ⟨a2,p2,rfl,_,_⟩:=IsRec.shape h.sm;obtain ⟨a3,p3,rfl,_,_⟩:=IsRec.shape h.dk;obtain ⟨a4,p4,rfl,_,_⟩:=IsRec.shape h.pc;clear h;go_enter Tryz.func281,Tryz.ntmps281;go_wp2_with (go_at_call 59;refine (ZT _ _ _ _).mono ?_;rw [hq2];rintro e w' ⟨rfl,h9⟩;subst w')
 go_ret;exact ⟨rfl,(ba _ _)⟩
def Qm (m:Z6):List Z4->Int
 | []=>0
 | e::q=>Zs m e.2+Qm m q
def U2 (m:Z6):List Int->Int
 | []=>0
 | x::q=>Zs m x+U2 m q
theorem Ir (m:Z6) (a b:List Z4):Qm m (a++b)=Qm m a+Qm m b:=by
 induction a with
 | nil=>show Qm m b=0+Qm m b;omega
 | cons e a ih=>show Zs m e.2+Qm m (a++b)=Zs m e.2+Qm m a+Qm m b;omega
theorem Bd (m:Z6) (a b:List Int):U2 m (a++b)=U2 m a+U2 m b:=by
 induction a with
 | nil=>show U2 m b=0+U2 m b;omega
 | cons e a ih=>show Zs m e+U2 m (a++b)=Zs m e+U2 m a+U2 m b;omega
theorem Km (m:Z6) (a:List Int) (x:Int):U2 m (a++[x])=U2 m a+Zs m x:=by rw [Bd];show _+(Zs m x+0)=_;omega
theorem DD (m:Z6):∀ a:List Int,0<=U2 m a/\U2 m a<=1024*a.length
 | []=>by simp [U2]
 | x::a=>by
  have ih:=DD m a;have hw:=PZ m x;show 0<=Zs m x+U2 m a/\Zs m x+U2 m a<=1024*((a.length+1:Nat):Int);omega
theorem Bc (m:Z6) (q:List Z4) (e:Z4):Qm m (Vb q e)=Qm m q+Zs m e.2:=by
 have h:=Ir m (q.take (XJ e q)) (q.drop (XJ e q));rw [List.take_append_drop] at h;unfold Vb;rw [Ir,h];show _+(Zs m e.2+_)=_;omega
theorem Kt (m:Z6) (but:Int):∀ (q:List Z4) (n:Int),(∀ e ∈ q,e.2 ≠ but)->q.foldl (fun n e=>if e.2=but then n else n+Zs m e.2) n=n+Qm m q
 | [],n,_=>by show n=n+0;omega
 | e::q,n,h=>by
  have h0:=h e (by simp);have ih:=Kt m but q (if e.2=but then n else n+Zs m e.2) (fun x hx=>h x (by simp [hx]));rw [List.foldl_cons,ih,if_neg h0];show _=n+(Zs m e.2+Qm m q);omega
theorem CN (m:Z6) (b:Int):Zc m b (-1)=Qm m (atV m.sm b m.sm.length):=by
 have:=Kt m (-1) (atV m.sm b m.sm.length) 0 (fun e he=>by
  obtain ⟨i,_,_,_,rfl⟩:=(XF m.sm b e m.sm.length).1 he;show (i:Int) ≠ -1
  omega)
 unfold Zc UU;omega
theorem yz (b:Int) (s:Z3):atB b s=decide (s.2.1=b/\ZL s=true):=by
 unfold atB ZL;rw [Bool.eq_iff_iff];simp only [ZM,YW,beq_iff_eq];exact ⟨fun h=>⟨h.2,h.1⟩,fun h=>⟨h.2,h.1⟩⟩
theorem Kv (m:Z6) (ss:List Z3) (b:Int):∀ k,U2 m (ZQ (atB b) ss k)=Qm m (atV ss b k)
 | 0=>rfl
 | k+1=>by
  have ih:=Kv m ss b k;by_cases hat:(Z8 ss k).2.1=b/\ZL (Z8 ss k)=true
  ·rw [Yo (by rw [yz];exact decide_eq_true hat),Km,UH hat.1 hat.2,Bc,ih]
  ·rw [XO (by rw [yz];exact decide_eq_false hat),TA hat,ih]
theorem Fo (m:Z6) (b:Int):U2 m (ZQ (atB b) m.sm m.sm.length)=Zc m b (-1):=by rw [Kv,CN]
theorem CB (m:Z6) {ws:List Int} {k:Nat} (h:k<ws.length):U2 m (ws.take (k+1))=U2 m (ws.take k)+Zs m (Z8 ws k):=by rw [PT h,Km]
structure Wants (m:Z6):Prop where
 gd:Zk m.gd=true
 each:∀ i,i<m.sm.length->(Z8 m.sm i).1 ≠ 0->isB m.gd (Z8 m.sm i).2.2.2.2.1=true/\Yx (Z8 m.sm i).2.2.2.2.2.1 (Z8 m.sm i).2.2.2.2.2.2.1=true
theorem Loose.wants (h:Loose m):Wants m:=by
 have hd:=h.head;unfold YD at hd;simp only [ZM,YW] at hd;refine ⟨hd.2.1,fun i hi hs=> ?_⟩;obtain ⟨hp,hg,_⟩:=h.limits hi hs;have hgs:=hd.2.1;generalize Z8 m.sm i=s at *;obtain ⟨st,be,rk,my,gu,lo,hi,hd,ca,ut,wk⟩:=s;obtain ⟨_,_,_,_,⟨g0,g5⟩,hpair,_⟩:=Zi hp;simp only at hg;exact ⟨by unfold isB;rw [hgs,Zn g0 (by omega)];rfl,hpair⟩
theorem Bq (m:Z6) {k:Nat} (hk:k<m.sm.length) (b:Int) (i:Nat):Z8 (WD m (k:Int) b).sm i=if i=k then QO (Z8 m.sm k) b else Z8 m.sm i:=by
 unfold WD;simp only [Zz];exact ZJ hk i
theorem Wants.with (h:Wants m) {k:Nat} (hk:k<m.sm.length) (hs:(Z8 m.sm k).1 ≠ 0) (b:Int):Wants (WD m (k:Int) b):=by
 refine ⟨h.gd,fun i hi hne=> ?_⟩;have hi':i<m.sm.length:=by unfold WD at hi;simpa using hi
 rw [Bq m hk] at hne ⊢;by_cases e:i=k
 ·rw [if_pos e];exact h.each k hk hs
 ·rw [if_neg e] at hne ⊢;exact h.each i hi' hne
def Ur (m:Z6) (b:Int):Bool:=WX m.dk.length b && (Z8 m.dk b.toNat).1
def U9 (m:Z6) (bs:List Int):Int:=bs.foldl (fun n b=>if Ur m b then max n (Zc m b (-1)) else n) 0
def UA (m:Z6) (bs:List Int):Int:=bs.foldl (fun n b=>n+Zc m b (-1)) 0
theorem Mh (m:Z6) (bs:List Int) (b:Int):U9 m (bs++[b])=if Ur m b then max (U9 m bs) (Zc m b (-1)) else U9 m bs:=by unfold U9;rw [List.foldl_append];rfl
theorem MY (m:Z6) (bs:List Int) (b:Int):UA m (bs++[b])=UA m bs+Zc m b (-1):=by unfold UA;rw [List.foldl_append];rfl
theorem GK (m:Z6) (hl:m.sm.length<=12):∀ (bs:List Int) (n:Int),0<=n->n<=12288->0<=bs.foldl (fun n b=>if Ur m b then max n (Zc m b (-1)) else n) n/\bs.foldl (fun n b=>if Ur m b then max n (Zc m b (-1)) else n) n<=12288
 | [],n,h0,h1=>⟨h0,h1⟩
 | b::bs,n,h0,h1=>by
  have hu:=Tx m b (-1);refine GK m hl bs (if Ur m b then max n (Zc m b (-1)) else n) ?_ ?_<;>split<;>omega
theorem AA (m:Z6) (hl:m.sm.length<=12) (bs:List Int):0<=U9 m bs/\U9 m bs<=12288:=GK m hl bs 0 (by omega) (by omega)
theorem IH (m:Z6) (hl:m.sm.length<=12):∀ (bs:List Int) (n:Int),0<=n->0<=bs.foldl (fun n b=>n+Zc m b (-1)) n/\bs.foldl (fun n b=>n+Zc m b (-1)) n<=n+12288*bs.length
 | [],n,h0=>⟨h0,by simp⟩
 | b::bs,n,h0=>by
  have hu:=Tx m b (-1);have ih:=IH m hl bs (n+Zc m b (-1)) (by omega);refine ⟨ih.1,Int.le_trans ih.2 ?_⟩;simp only [YT,Int.natCast_add,Int.natCast_one];omega
theorem Br (m:Z6) (hl:m.sm.length<=12) (bs:List Int):0<=UA m bs/\UA m bs<=12288*bs.length:=by
 have:=IH m hl bs 0 (by omega);unfold UA;omega
theorem Ic (h:Sane m) {r:Nat} (hr:r<m.rm.length) {b:Nat} (hb:b<8):Vt (Vd m.rm (r:Int)) (b:Int)=true ↔ b<m.dk.length/\(Xo m.rm b:Int)=(r:Int):=by
 have hR:Uh m.rm (r:Int)=true:=by unfold Uh;rw [h.hall,Zn (by omega) (by omega)];rfl
 have ha:=(Zo h.hall).2.2.1;have h0:=WV h.hall r (by omega);have h1:=WV h.hall (r+1) (by omega);have hm:=Vh ha (i:=r) 1 (by omega);have hm0:=Vh ha (i:=r+1) (m.rm.length-(r+1)) (by omega);rw [show r+1+(m.rm.length-(r+1))=m.rm.length by omega,List.take_length] at hm0;have h8:=h.eight;have hd:=h.dk;rw [AW hR,Zz,zO h0.1 hm (by omega) (by omega) (by omega),decide_eq_true_iff];constructor
 ·intro hx
  have hbd:b<m.dk.length:=by omega
  exact ⟨hbd,by rw [(Dy (h.bench hbd) hr).2 hx]⟩
 ·rintro ⟨hbd,e⟩
  exact (Dy (h.bench hbd) hr).1 (by omega)
theorem Ke (h:Sane m) {r:Nat} (hr:r<m.rm.length):∀ k:Nat,k<=m.dk.length->U9 m (US (Vd m.rm (r:Int)) k)=(YV m r k).1/\UA m (US (Vd m.rm (r:Int)) k)=(YV m r k).2
 | 0,_=>⟨rfl,rfl⟩
 | k+1,hk=>by
  have ih:=Ke h hr k (by omega);have h8:=h.eight;have hs:=Ic h hr (b:=k) (by omega);by_cases e:(Xo m.rm k:Int)=(r:Int)
  ·rw [RV (hs.2 ⟨by omega,e⟩),Mh,MY,ih.1,ih.2]
   have ho:Ur m (k:Int)=(Z8 m.dk k).1:=by
    unfold Ur WX;rw [Zz,decide_eq_true (show (0:Int)<=(k:Int) by omega),decide_eq_true (show (k:Int)<(m.dk.length:Int) by omega)];simp
   rw [ho];show _=(if _ then _ else _:Int × Int).1/\_=(if _ then _ else _:Int × Int).2;rw [if_pos e];exact ⟨rfl,rfl⟩
  ·have hn:Vt (Vd m.rm (r:Int)) (k:Int)=false:=by
    cases hc:Vt (Vd m.rm (r:Int)) (k:Int)
    ·rfl
    ·exact absurd (hs.1 hc).2 e
   rw [UF hn];show _=(if _ then _ else _:Int × Int).1/\_=(if _ then _ else _:Int × Int).2;rw [if_neg e];exact ih
theorem Cr (h:Sane m) {r:Nat} (hr:r<m.rm.length):U9 m (SF (Vd m.rm (r:Int)))=(YV m r m.dk.length).1/\UA m (SF (Vd m.rm (r:Int)))=(YV m r m.dk.length).2:=by
 have key:∀ d k:Nat,m.dk.length+d=k->k<=8->US (Vd m.rm (r:Int)) k=US (Vd m.rm (r:Int)) m.dk.length:=by
  intro d
  induction d with
  | zero=>intro k hk _;rw [<-hk];rfl
  | succ d ih=>
   intro k hk h8;obtain ⟨j,rfl⟩:∃ j,k=j+1:=⟨k-1,by omega⟩
   have hn:Vt (Vd m.rm (r:Int)) (j:Int)=false:=by
    cases hc:Vt (Vd m.rm (r:Int)) (j:Int)
    ·rfl
    ·have:=((Ic h hr (b:=j) (by omega)).1 hc).1;omega
   rw [UF hn];exact ih j (by omega) (by omega)
 have h8:=h.eight;have e:=key (8-m.dk.length) 8 (by omega) (by omega);unfold SF;rw [e];exact Ke h hr m.dk.length (Z2 _)
def yA (s:Z3):Z3:=(1,s.2)
def Xb (m:Z6) (who:Int):Z6:={ m with sm:=m.sm.set who.toNat (yA (Z8 m.sm who.toNat)) }
theorem M6 (m:Z6) {k:Nat} (hk:k<m.sm.length) (i:Nat):Z8 (Xb m (k:Int)).sm i=if i=k then yA (Z8 m.sm k) else Z8 m.sm i:=by
 unfold Xb;simp only [Zz];exact ZJ hk i
theorem Lm (m:Z6) (who:Int):(Xb m who).sm.length=m.sm.length:=by unfold Xb;simp
theorem Bw (m:Z6) {k:Nat} (hk:k<m.sm.length) (x:Int):Zs (Xb m (k:Int)) x=Zs m x:=by
 unfold Zs;rw [M6 m hk];by_cases e:x.toNat=k
 ·rw [if_pos e,e];rfl
 ·rw [if_neg e];rfl
def QI (m:Z6) (but:Int):List Z4->Int
 | []=>0
 | e::q=>(if e.2=but then 0 else Zs m e.2)+QI m but q
theorem Iq (m:Z6) (but:Int) (a b:List Z4):QI m but (a++b)=QI m but a+QI m but b:=by
 induction a with
 | nil=>show QI m but b=0+QI m but b;omega
 | cons e a ih=>show _+QI m but (a++b)=_+QI m but a+QI m but b;omega
theorem MR (m:Z6) (but:Int) (q:List Z4) (e:Z4):QI m but (Vb q e)=QI m but q+(if e.2=but then 0 else Zs m e.2):=by
 have h:=Iq m but (q.take (XJ e q)) (q.drop (XJ e q));rw [List.take_append_drop] at h;unfold Vb;rw [Iq,h];show _+((if e.2=but then 0 else Zs m e.2)+_)=_;omega
theorem DG (m:Z6) (but:Int):∀ (q:List Z4) (n:Int),q.foldl (fun n e=>if e.2=but then n else n+Zs m e.2) n=n+QI m but q
 | [],n=>by show n=n+0;omega
 | e::q,n=>by
  have ih:=DG m but q (if e.2=but then n else n+Zs m e.2);rw [List.foldl_cons,ih];show _=n+((if e.2=but then 0 else Zs m e.2)+QI m but q)
  split<;>omega
theorem DH (m:Z6) (b but:Int):Zc m b but=QI m but (atV m.sm b m.sm.length):=by
 have:=DG m but (atV m.sm b m.sm.length) 0;unfold Zc UU;omega
theorem Is (m:Z6) {k:Nat} (hk:k<m.sm.length) (b:Int):∀ j,QI (Xb m (k:Int)) (-1) (atV (Xb m (k:Int)).sm b j)=QI m (k:Int) (atV m.sm b j)
 | 0=>rfl
 | j+1=>by
  have ih:=Is m hk b j;by_cases e:j=k
  ·subst e
   rw [TA (ss:=(Xb m (j:Int)).sm) (by rw [M6 m hk,if_pos rfl];rintro ⟨_,h⟩;cases h),ih];by_cases hat:(Z8 m.sm j).2.1=b/\ZL (Z8 m.sm j)=true
   ·rw [UH hat.1 hat.2,MR,if_pos rfl];omega
   ·rw [TA hat]
  ·have hr:Z8 (Xb m (k:Int)).sm j=Z8 m.sm j:=by rw [M6 m hk,if_neg e]
   by_cases hat:(Z8 m.sm j).2.1=b/\ZL (Z8 m.sm j)=true
   ·rw [UH (ss:=(Xb m (k:Int)).sm) (by rw [hr];exact hat.1) (by rw [hr];exact hat.2),UH hat.1 hat.2,MR,MR,ih,Bw m hk]
    show _+(if (j:Int)= -1 then 0 else Zs m (j:Int))=_+(if (j:Int)=(k:Int) then 0 else Zs m (j:Int));rw [if_neg (by omega),if_neg (by omega)]
   ·rw [TA (ss:=(Xb m (k:Int)).sm) (by rw [hr];exact hat),TA hat,ih]
theorem CO (m:Z6) {k:Nat} (hk:k<m.sm.length) (b:Int):Zc (Xb m (k:Int)) b (-1)=Zc m b (k:Int):=by
 rw [DH,DH,Lm];exact Is m hk b _
theorem Wants.away (h:Wants m) {k:Nat} (hk:k<m.sm.length) (hs:(Z8 m.sm k).1 ≠ 0):Wants (Xb m (k:Int)):=by
 refine ⟨h.gd,fun i hi hne=> ?_⟩;rw [Lm] at hi;rw [M6 m hk] at hne ⊢;by_cases e:i=k
 ·rw [if_pos e];exact h.each k hk hs
 ·rw [if_neg e] at hne ⊢;exact h.each i hi hne
abbrev Ym:=Int × Int × Int
def Sk (m:Z6) (k:Nat):Ym:=((k:Int),Zc m (k:Int) (-1),Zd m.rm (k:Int))
def XK (m:Z6):Nat->List Ym
 | 0=>[]
 | k+1=>if (Z8 m.dk k).1 then XK m k++[Sk m k] else XK m k
theorem Qf {k:Nat} (h:(Z8 m.dk k).1=true):XK m (k+1)=XK m k++[Sk m k]:=by show (if _ then _ else _)=_;rw [if_pos h]
theorem OP {k:Nat} (h:(Z8 m.dk k).1=false):XK m (k+1)=XK m k:=by show (if _ then _ else _)=_;rw [h];rfl
theorem SH (m:Z6):∀ k,(XK m k).length<=k
 | 0=>Z2 _
 | k+1=>by
  have:=SH m k;unfold XK
  split
  ·simp;omega
  ·omega
theorem SI (m:Z6) (x:Ym):∀ k,x ∈ XK m k ↔ ∃ b:Nat,b<k/\(Z8 m.dk b).1=true/\x=Sk m b
 | 0=>by simp [XK]
 | k+1=>by
  have ih:=SI m x k;cases ho:(Z8 m.dk k).1
  ·rw [OP ho,ih]
   constructor
   ·rintro ⟨b,hb,h⟩;exact ⟨b,by omega,h⟩
   ·rintro ⟨b,hb,h1,h2⟩
    by_cases e:b=k
    ·subst e;rw [ho] at h1;cases h1
    ·exact ⟨b,by omega,h1,h2⟩
  ·rw [Qf ho,List.mem_append,ih]
   constructor
   ·rintro (⟨b,hb,h⟩ | h)
    ·exact ⟨b,by omega,h⟩
    ·exact ⟨k,by omega,ho,by simpa using h⟩
   ·rintro ⟨b,hb,h1,h2⟩
    by_cases e:b=k
    ·subst e;right;simp [h2]
    ·left;exact ⟨b,by omega,h1,h2⟩
def BC (m:Z6) (who:Int) (k:Nat):Ym:=((k:Int),Zc m (k:Int) who,Zd m.rm (k:Int))
def VJ (m:Z6) (who:Int):Nat->List Ym
 | 0=>[]
 | k+1=>if Yw m who k then VJ m who k++[BC m who k] else VJ m who k
theorem OM {who:Int} {k:Nat} (h:Yw m who k=true):VJ m who (k+1)=VJ m who k++[BC m who k]:=by show (if _ then _ else _)=_;rw [if_pos h]
theorem PB {who:Int} {k:Nat} (h:Yw m who k=false):VJ m who (k+1)=VJ m who k:=by show (if _ then _ else _)=_;rw [h];rfl
theorem J4 (m:Z6) (who:Int):∀ k,(VJ m who k).length<=k
 | 0=>Z2 _
 | k+1=>by
  have:=J4 m who k;unfold VJ
  split
  ·simp;omega
  ·omega
def TM (m:Z6) (k:Nat) (x:Ym):Bool:=WI (Z8 m.sm k).2.2.2.1 x.1
theorem GQ (m:Z6) {k:Nat} (hk:k<m.sm.length):∀ n,(XK (Xb m (k:Int)) n).filter (TM m k)=VJ m (k:Int) n
 | 0=>rfl
 | n+1=>by
  have ih:=GQ m hk n;have hd:(Xb m (k:Int)).dk=m.dk:=rfl;have hm:Yw m (k:Int) n=((Z8 m.dk n).1 && WI (Z8 m.sm k).2.2.2.1 (n:Int)):=rfl;have hi:TM m k (Sk (Xb m (k:Int)) n)=WI (Z8 m.sm k).2.2.2.1 (n:Int):=rfl;cases ho:(Z8 m.dk n).1
  ·rw [OP (by rw [hd];exact ho),ih,PB (by rw [hm,ho];rfl)]
  ·rw [Qf (by rw [hd];exact ho),List.filter_append,ih]
   cases hb:WI (Z8 m.sm k).2.2.2.1 (n:Int)
   ·rw [PB (by rw [hm,ho,hb];rfl),List.filter_cons_of_neg (by rw [hi,hb];simp)]
    simp
   ·rw [OM (by rw [hm,ho,hb];rfl),List.filter_cons_of_pos (by rw [hi,hb])]
    have hv:Sk (Xb m (k:Int)) n=BC m (k:Int) n:=by unfold Sk BC;rw [CO m hk];rfl
    rw [hv];rfl
def WL (wn:Int) (x:Ym):Bool:=Ws wn x.2.1 x.2.2
theorem Jo (m:Z6) (who:Int):∀ k,((VJ m who k).filter (WL (Zs m who))).map (·.1)=UT m who k
 | 0=>rfl
 | k+1=>by
  have ih:=Jo m who k;have hf:NS m who k=(Yw m who k && WL (Zs m who) (BC m who k)):=rfl;cases hm:Yw m who k
  ·rw [PB hm,ih]
   show _=if _ then _ else _
   rw [hf,hm];rfl
  ·rw [OM hm,List.filter_append,List.map_append,ih]
   show _=if _ then _ else _
   cases ht:WL (Zs m who) (BC m who k)
   ·rw [hf,hm,ht,List.filter_cons_of_neg (by rw [ht];simp)];simp
   ·rw [hf,hm,ht,List.filter_cons_of_pos ht];rfl
def PJ (a:Int × Int) (x:Ym):Int × Int:=if a.1= -1\/a.2<XM x.2.1 x.2.2 then (x.1,XM x.2.1 x.2.2) else a
def RM (l:List Ym):Int × Int:=l.foldl PJ (-1,0)
theorem My (l:List Ym) (x:Ym):RM (l++[x])=PJ (RM l) x:=by unfold RM;rw [List.foldl_append];rfl
theorem GH (m:Z6) (who:Int):∀ k,RM (VJ m who k)=YE m who k
 | 0=>rfl
 | k+1=>by
  have ih:=GH m who k;have ho:=Jr m who k
  have hn:((YE m who k).1<0) ↔ (YE m who k).1= -1:=by
   rcases ho with ⟨e,_⟩ | ⟨b,_,e,_⟩
   ·rw [e];omega
   ·rw [e];omega
  have hM:YE m who (k+1)=if Yw m who k && (decide ((YE m who k).1<0) || decide ((YE m who k).2<XM (Zc m k who) (Zd m.rm k))) then ((k:Int),XM (Zc m k who) (Zd m.rm k)) else YE m who k:=rfl
  rw [hM];cases hm:Yw m who k
  ·rw [PB hm,ih];rfl
  ·rw [OM hm,My,ih]
   show (if (YE m who k).1= -1\/(YE m who k).2<XM (Zc m k who) (Zd m.rm k) then _ else _)=_;by_cases hc:(YE m who k).1= -1\/(YE m who k).2<XM (Zc m k who) (Zd m.rm k)
   ·rw [if_pos hc,if_pos (by rw [Bool.true_and,Bool.or_eq_true,decide_eq_true_iff,decide_eq_true_iff,hn];exact hc)];rfl
   ·rw [if_neg hc,if_neg (by rw [Bool.true_and,Bool.or_eq_true,decide_eq_true_iff,decide_eq_true_iff,hn];exact hc)]
def Xh (m:Z6) (who:Int) (a:Int × Int) (b:Int):Int × Int:=if a.1= -1\/Za m who b<a.2\/(Za m who b=a.2/\b=(Z8 m.sm who.toNat).2.1) then (b,Za m who b) else a
def UX (m:Z6) (who:Int) (f:List Int):Int × Int:=f.foldl (Xh m who) (-1,0)
theorem FL (m:Z6) (who:Int) (f:List Int) (b:Int):UX m who (f++[b])=Xh m who (UX m who f) b:=by unfold UX;rw [List.foldl_append];rfl
theorem Lr (m:Z6) (who:Int):∀ (f:List Int) (a:Int × Int),0<=a.1->(∀ x ∈ f,0<=x)->f.foldl (Xh m who) a=f.foldl (WT m who) a
 | [],a,_,_=>rfl
 | b::f,a,h0,hf=>by
  have e:Xh m who a b=WT m who a b:=by
   unfold Xh WT;by_cases hc:Za m who b<a.2\/(Za m who b=a.2/\b=(Z8 m.sm who.toNat).2.1)
   ·rw [if_pos hc,if_pos (.inr hc)]
   ·rw [if_neg hc,if_neg (not_or.2 ⟨by omega,hc⟩)]
  rw [List.foldl_cons,List.foldl_cons,e];refine Lr m who f _ ?_ (fun x hx=>hf x (List.mem_cons_of_mem _ hx));unfold WT
  split
  ·exact hf b (by simp)
  ·exact h0
theorem DT (m:Z6) (who:Int) {f:List Int} (h:0<f.length) (hf:∀ x ∈ f,0<=x):UX m who f=Xg m who f f.length:=by
 obtain ⟨x,r,rfl⟩:∃ x r,f=x::r:=by
  cases f with
  | nil=>simp at h
  | cons x r=>exact ⟨x,r,rfl⟩
 unfold UX Xg;rw [List.take_length,List.foldl_cons];show r.foldl (Xh m who) (Xh m who (-1,0) x)=r.foldl (WT m who) (x,Za m who x);have e:Xh m who (-1,0) x=(x,Za m who x):=by unfold Xh;rw [if_pos (.inl rfl)]
 rw [e];exact Lr m who r _ (hf x (by simp)) (fun y hy=>hf y (by simp [hy]))
theorem zY {who x:Int} (h:x ∈ YN m who):∃ b:Nat,b<m.dk.length/\x=(b:Int)/\Yw m who b=true:=by
 obtain ⟨b,hb,e,hf⟩:=(OC m who x m.dk.length).1 h;unfold NS at hf;simp only [ZM] at hf;exact ⟨b,hb,e,hf.1⟩
theorem SV {α:Type} [Inhabited α] {l:List α} {k:Nat} (h:k<l.length):l.take (k+1)=l.take k++[Z8 l k]:=by
 rw [List.take_succ_eq_append_getElem h,Q6 h]
theorem zl {k:Nat} (hk:k<m.dk.length):Ur m (k:Int)=(Z8 m.dk k).1:=by
 unfold Ur WX;rw [Zz,decide_eq_true (show (0:Int)<=(k:Int) by omega),decide_eq_true (show (k:Int)<(m.dk.length:Int) by omega)];simp
theorem BE (m:Z6):(XK m m.dk.length).any (fun x=>VK x.2.1 x.2.2)=WJ m:=by
 unfold WJ;rw [Bool.eq_iff_iff,List.any_eq_true,List.any_eq_true];constructor
 ·rintro ⟨x,hx,hm⟩
  obtain ⟨b,hb,ho,rfl⟩:=(SI m x _).1 hx;exact ⟨b,List.mem_range.2 hb,by unfold Sm;rw [ho];exact hm⟩
 ·rintro ⟨b,hb,hc⟩
  unfold Sm at hc;simp only [ZM] at hc;exact ⟨Sk m b,(SI m _ _).2 ⟨b,List.mem_range.1 hb,hc.1,rfl⟩,hc.2⟩
theorem xN {α:Type} [Inhabited α] {p:α->Bool} {l:List α} (h:∀ i,i<l.length->p (Z8 l i)=false):l.any p=false:=by
 rw [List.any_eq_false];intro x hx;obtain ⟨i,hi,rfl⟩:=List.getElem_of_mem hx;rw [<-Q6 hi,h i hi];simp
theorem yU {α:Type} [Inhabited α] {p:α->Bool} {l:List α} {i:Nat} (hi:i<l.length) (h:p (Z8 l i)=true):l.any p=true:=List.any_eq_true.2 ⟨_,Vu hi,h⟩
theorem LC {α:Type} [Inhabited α] {p:α->Bool} {l:List α} {j:Nat} (hj:j<l.length) (h:p (Z8 l j)=true):(l.take (j+1)).filter p=(l.take j).filter p++[Z8 l j]:=by
 rw [SV hj,List.filter_append,List.filter_cons_of_pos h];rfl
theorem JK {α:Type} [Inhabited α] {p:α->Bool} {l:List α} {j:Nat} (hj:j<l.length) (h:p (Z8 l j)=false):(l.take (j+1)).filter p=(l.take j).filter p:=by
 rw [SV hj,List.filter_append,List.filter_cons_of_neg (by rw [h];simp)];simp
theorem Cs {l:List Ym} {j:Nat} (hj:j<l.length):RM (l.take (j+1))=PJ (RM (l.take j)) (Z8 l j):=by rw [SV hj,My]
theorem DU {who:Int} {l:List Int} {j:Nat} (hj:j<l.length):UX m who (l.take (j+1))=Xh m who (UX m who (l.take j)) (Z8 l j):=by rw [SV hj,FL]
def Ua (m X:Z6) (c:Int):Z6 × Int:=if ZI m then (if c=0 then (YX X,0) else (m,c)) else (Yj,3)
theorem Pq (h:ZI m=false) (X:Z6) (c:Int):Ua m X c=(Yj,3):=by unfold Ua;rw [h];rfl
theorem Rl (h:ZI m=true) (X:Z6):Ua m X 0=(YX X,0):=by unfold Ua;rw [h];rfl
theorem TL (h:ZI m=true) (X:Z6) {c:Int} (hc:c ≠ 0):Ua m X c=(m,c):=by unfold Ua;rw [h,if_pos rfl,if_neg hc]
theorem Ra (h:Loose m):YX m=ZN m:=by unfold YX;rw [h.mk',if_pos rfl]
theorem A7 (h:Loose m) {k:Nat} (hk:k<m.sm.length) (hs:(Z8 m.sm k).1 ≠ 0):ZL (Z8 m.sm k)= !decide ((Z8 m.sm k).1=1):=by
 obtain ⟨p,_,_⟩:=h.limits hk hs;obtain ⟨⟨st,be,rk,my,gu,lo,hi,hd,ca,ut,wk⟩,hrk⟩:∃ d,Z8 m.sm k=d:=⟨_,rfl⟩
 rw [hrk] at p hs ⊢;obtain ⟨⟨x0,x1⟩,_⟩:=Zi p;unfold ZL;show (st ==2 || st ==3)= !decide (st=1);have hs':st ≠ 0:=hs
 rcases (by omega:st=1\/st=2\/st=3) with e | e | e<;>subst e<;>rfl
set_option maxRecDepth 100000
theorem DP (a b c d:Int) (w:World):(Op.equalIn 10000 171 (.agg #[.int .i64 a,.int .i64 b]) (.agg #[.int .i64 c,.int .i64 d])).run Tryz.prog w= .ok (a ==c && b ==d) w:=by
 have u:=Tryz.underlying2;have ag:=Tryz.isAgg2;have z:=Tryz.sizeOf2;have hc:Tryz.prog.cellsOf 2=1:=by kernel_rfl
 obtain ⟨i,hi⟩:=Option.isSome_iff_exists.1 (show (Tryz.prog.info? 2).isSome=true by kernel_rfl);rw [show (10000:Nat)=9999+1 from rfl,run_equalIn_array w 9999 _ _ Tryz.underlying171 hi,hc];simp only [show List.range 2=[0,1] from rfl,Op.eqItems];go_simp;by_cases h:a=c
 ·subst h
  by_cases h2:b=d
  ·subst h2;simp
  ·simp [h2]
 ·simp [h]
theorem zK (a b c d:Int) (w:World):(binOp .eql 171 (.agg #[.int .i64 a,.int .i64 b]) (.agg #[.int .i64 c,.int .i64 d])).run Tryz.prog w= .ok (.bool (a ==c && b ==d)) w:=by
 rw [run_eql_struct,DP];rfl
theorem Pk (lo hi n:Int) (w:World):Calls Tryz.prog 235 #[.agg #[.int .i64 lo,.int .i64 hi],.int .i64 n] w fun e w'=>e= .returned (.agg #[.int .i64 (min lo n),.int .i64 (max hi n)])/\Below w.heap.size w w':=by
 by_cases h1:lo<=n
 all_goals
  by_cases h2:hi<n
  all_goals
   go_enter Tryz.func235,Tryz.ntmps235;go_wp2_with fail;exact ZS (v:= .agg #[.int .i64 (min lo n),.int .i64 (max hi n)]) (by simp [results,Tryz.results235,go_sem];omega) rfl ⟨rfl,((ba _ _)).alloc (by simp) _⟩
theorem DO (m:Int) (w:World) (m0 : -1000000000000<=m) (m1:m<=1000000000000):Calls Tryz.prog 187 #[.int .i64 m] w fun e w'=>e= .returned (.agg #[.int .i64 (m-20000),.int .i64 (m+63000)])/\Below w.heap.size w w':=by
 go_enter Tryz.func187,Tryz.ntmps187;go_wp2_with fail;exact ZS (v:= .agg #[.int .i64 (m-20000),.int .i64 (m+63000)]) (by simp [results,Tryz.results187,go_sem]) rfl ⟨rfl,(ba _ _)⟩
def loL (lo:Int) (zs:List Int):Int:=zs.foldl min lo
def hiL (hi:Int) (zs:List Int):Int:=zs.foldl max hi
theorem yb (zs:List Int):∀ lo,loL lo zs<=lo:=by
 induction zs with
 | nil=>intro lo;exact Int.le_refl _
 | cons z zs ih=>intro lo;exact Int.le_trans (ih (min lo z)) (Int.min_le_left _ _)
theorem xW (zs:List Int):∀ hi,hi<=hiL hi zs:=by
 induction zs with
 | nil=>intro hi;exact Int.le_refl _
 | cons z zs ih=>intro hi;exact Int.le_trans (Int.le_max_left _ _) (ih (max hi z))
theorem JC (zs:List Int):∀ lo hi,(loL lo zs ==lo && hiL hi zs ==hi)=zs.all fun z=>inB z lo hi:=by
 induction zs with
 | nil=>intro lo hi;simp [loL,hiL]
 | cons z zs ih=>
  intro lo hi;show (loL (min lo z) zs ==lo && hiL (max hi z) zs ==hi)=(inB z lo hi && zs.all fun z=>inB z lo hi)
  cases hz:inB z lo hi
  ·have hn:¬ (lo<=z/\z<=hi):=of_decide_eq_false hz
   have h1:=yb zs (min lo z);have h2:=xW zs (max hi z);simp only [Bool.false_and,Bool.and_eq_false_iff,beq_eq_false_iff_ne];omega
  ·obtain ⟨h1,h2⟩:=ZO hz
   rw [show min lo z=lo by omega,show max hi z=hi by omega,ih];rfl
theorem Aq {lo:Int} {zs:List Int} {k:Nat} (hk:k<zs.length):loL lo (zs.take (k+1))=min (loL lo (zs.take k)) (zs.getD k 0):=by
 unfold loL;rw [List.take_succ_eq_append_getElem hk,List.foldl_append];simp [List.getD,List.getElem?_eq_getElem hk]
theorem Ah {hi:Int} {zs:List Int} {k:Nat} (hk:k<zs.length):hiL hi (zs.take (k+1))=max (hiL hi (zs.take k)) (zs.getD k 0):=by
 unfold hiL;rw [List.take_succ_eq_append_getElem hk,List.foldl_append];simp [List.getD,List.getElem?_eq_getElem hk]
attribute [local go_sem ↓] zK
theorem Qt (lo hi:Int) (b cap:Nat) (zs:List Int) (w:World) (hl:zs.length<=1000) (hb:b<w.heap.size) (hc:∀ k,k<zs.length->w.cell? ⟨b,k,none⟩=some (.int .i64 (zs.getD k 0))) :
  Calls Tryz.prog 189 #[.agg #[.int .i64 lo,.int .i64 hi],.slice (some ⟨b,0,none⟩) zs.length cap] w fun e w'=>e= .returned (.bool (zs.all fun z=>inB z lo hi))/\Below w.heap.size w w':=by
 have Hc:=Z9 hc;clear hc;go_enter Tryz.func189,Tryz.ntmps189;go_wp2_with fail
 go_loopw [11] (fun i wr=> ∃ k:Nat,k<=zs.length/\i= .int .i64 k/\Blk wr (w.heap.size+1) 171 #[.int .i64 (loL lo (zs.take k)),.int .i64 (hiL hi (zs.take k))]/\Blk wr w.heap.size 171 #[.int .i64 lo,.int .i64 hi]/\Below w.heap.size w wr) (fun i _=>zs.length-(intOf i).toNat)
 case atStart=>
  refine ⟨0,ZA _,rfl,?_,(Blk.new w _ _).alloc _,((ba _ _)).alloc (by simp) _⟩;have:=Blk.new (w.alloc (.cells #[.int .i64 lo,.int .i64 hi] 171)) 171 #[.int .i64 lo,.int .i64 hi];simpa [loL,hiL] using this
 case round=>
  obtain ⟨k,hk,rfl,hs,ho,hbl⟩:=hrel;have Hs:=Z9 hs;have Ho:=Z9 ho;have Hb:=Z9 hbl;by_cases hlt:k<zs.length
  ·have c0:=uh Hc k hlt
   rw [<-hbl.cell (p:=⟨b,k,none⟩) hb] at c0;have e1:=Aq (lo:=lo) hlt;have e2:=Ah (hi:=hi) hlt;have s0:=hs.cell (i:=0) rfl;have s1:=hs.cell (i:=1) rfl;have g0:=hs.free 0;have g1:=hs.free 1;generalize zs.getD k 0=z at *;generalize loL lo (zs.take k)=x at *;generalize hiL hi (zs.take k)=y at *;have E1:=Z9 e1;have E2:=Z9 e2;clear e1 e2 hs ho hbl;go_wp2_with fail;refine ck (Pk x y z _) fun w1 hb1=> ?_;have hs1:=(uh Hs).below hb1 (uh Hs).lt;have Hs1:=Z9 hs1;have Ho1:Hid (Blk w1 w.heap.size 171 #[.int .i64 lo,.int .i64 hi]):=Z9 ((uh Ho).below hb1 (uh Ho).lt);have B1:Hid (Below w.heap.size w w1):=Z9 ((uh Hb).trans (hb1.mono (uh Hb).size));have s0:=hs1.cell (i:=0) rfl;have s1:=hs1.cell (i:=1) rfl;have g0:=hs1.free 0;have g1:=hs1.free 1;clear hs1 hb1;go_wp2_with fail;go_roundw
   case rel=>
    refine ⟨k+1,by omega,by go_num,?_,?_,?_⟩
    ·rw [uh E1,uh E2]
     simpa using ((uh Hs1).set 0 (.int .i64 (min x z))).set 1 (.int .i64 (max y z))
    ·exact ((uh Ho1).other (by simp) _).other (by simp) _
    ·exact ((uh B1).setCell (by simp) _).setCell (by simp) _
   case measure=>exact ms
  ·obtain rfl:k=zs.length:=by omega
   rw [List.take_length] at hs;have e3:=JC zs lo hi;have s0:=hs.cell (i:=0) rfl;have s1:=hs.cell (i:=1) rfl;have o0:=ho.cell (i:=0) rfl;have o1:=ho.cell (i:=1) rfl;generalize loL lo zs=x at *;generalize hiL hi zs=y at *;have E3:=Z9 e3;clear e3 hs ho hbl Hs;go_wp2_with fail;go_ret;exact ⟨Z5 (uh E3),uh Hb⟩
theorem VP (b cap:Nat) (zs:List Int) (w:World) (hl:zs.length<=1000) (hb:b<w.heap.size) (hc:∀ k,k<zs.length->w.cell? ⟨b,k,none⟩=some (.int .i64 (zs.getD k 0))) :
  Calls Tryz.prog 186 #[.slice (some ⟨b,0,none⟩) zs.length cap] w fun e w'=>e= .returned (.bool (zs.all fun z=>inB z (-1000000000000) 1000000000000))/\Below w.heap.size w w':=by
 have Hc:=Z9 hc;clear hc;go_enter Tryz.func186,Tryz.ntmps186;go_wp2_with fail;refine ck (Qt _ _ b cap zs _ hl hb (uh Hc)) fun w1 hb1=> ?_;have B1:=Z9 hb1;clear hb1;go_wp2_with fail;go_ret;exact ⟨rfl,uh B1⟩
theorem LR (h m:Int) (w:World):Calls Tryz.prog 129 #[.int .i64 h,.int .i64 m] w fun e w'=>e= .returned (.bool (Vi h m))/\Below w.heap.size w w':=by
 cases hh:Wf h && Wf m
 ·have hs:Vi h m=false:=by unfold Vi;rw [hh];rfl
  have Hs:=Z9 hs;clear hs;go_enter Tryz.func129,Tryz.ntmps129;go_wp2_with fail;refine (VP _ _ [h,m] _ (by simp) (by simp) ?_).mono ?_
  ·intro k hk
   simp at hk
   match k,hk with
   | 0,_=>simp
   | 1,_=>simp
  rintro e w1 ⟨rfl,hb⟩;rw [C9,hh];have B1:Hid (Below w.heap.size w w1):=Z9 (((ba _ _)).trans (hb.mono (by simp)));clear hb;go_wp2_with fail;go_ret;exact ⟨Z5 (uh Hs).symm,uh B1⟩
 ·have hs:Vi h m=inB (h-m) (-20000) 63000:=by unfold Vi;rw [hh];rfl
  have Hs:=Z9 hs;have h':=hh;simp only [ZM] at h';obtain ⟨m0,m1⟩:=Rq h'.2;clear hs h';go_enter Tryz.func129,Tryz.ntmps129;go_wp2_with fail;refine (VP _ _ [h,m] _ (by simp) (by simp) ?_).mono ?_
  ·intro k hk
   simp at hk
   match k,hk with
   | 0,_=>simp
   | 1,_=>simp
  rintro e w1 ⟨rfl,hb⟩;rw [C9,hh];have B1:Hid (Below w.heap.size w w1):=Z9 (((ba _ _)).trans (hb.mono (by simp)));clear hb;go_wp2_with fail;refine ck (DO m _ m0 m1) fun w2 hb=> ?_;have B2:Hid (Below w.heap.size w w2):=Z9 ((uh B1).trans (hb.mono (uh B1).size));clear hb B1;go_wp2_with fail;refine (Qt _ _ _ _ [h] _ (by simp) (by simp) ?_).mono ?_
  ·intro k hk
   simp at hk;subst hk;simp
  rintro e w3 ⟨rfl,hb⟩;rw [yY];have B3:Hid (Below w.heap.size w w3):=Z9 (((uh B2).alloc (uh B2).size _).trans (hb.mono (by have:=(uh B2).size;simp;omega)));clear hb B2;go_wp2_with fail;go_ret;exact ⟨Z5 (uh Hs).symm,uh B3⟩
theorem KG (h f t:Int) (w:World):Calls Tryz.prog 128 #[.int .i64 h,.int .i64 f,.int .i64 t] w fun e w'=>e= .returned (.int .i64 (Zq h f t))/\Below w.heap.size w w':=by
 cases hh:Wf h && (Wf f && Wf t)
 ·have hs:Zq h f t=h:=by unfold Zq;rw [hh];rfl
  have Hs:=Z9 hs;clear hs;go_enter Tryz.func128,Tryz.ntmps128;go_wp2_with fail;refine (VP _ _ [h,f,t] _ (by simp) (by simp) ?_).mono ?_
  ·intro k hk
   simp at hk
   match k,hk with
   | 0,_=>simp
   | 1,_=>simp
   | 2,_=>simp
  rintro e w1 ⟨rfl,hb⟩;rw [yD,hh];have B1:Hid (Below w.heap.size w w1):=Z9 (((ba _ _)).trans (hb.mono (by simp)));clear hb;go_wp2_with fail;go_ret;exact ⟨ZC (uh Hs).symm,uh B1⟩
 ·have hs:Zq h f t=h-f+t:=by unfold Zq;rw [hh];rfl
  have Hs:=Z9 hs;have h':=hh;simp only [ZM] at h';obtain ⟨h0,h1⟩:=Rq h'.1;obtain ⟨f0,f1⟩:=Rq h'.2.1;obtain ⟨t0,t1⟩:=Rq h'.2.2;clear hs h';go_enter Tryz.func128,Tryz.ntmps128;go_wp2_with fail;refine (VP _ _ [h,f,t] _ (by simp) (by simp) ?_).mono ?_
  ·intro k hk
   simp at hk
   match k,hk with
   | 0,_=>simp
   | 1,_=>simp
   | 2,_=>simp
  rintro e w1 ⟨rfl,hb⟩;rw [yD,hh];have B1:Hid (Below w.heap.size w w1):=Z9 (((ba _ _)).trans (hb.mono (by simp)));clear hb;go_wp2_with fail;go_ret;exact ⟨ZC (uh Hs).symm,uh B1⟩
theorem LS (m f:Int) (w:World):Calls Tryz.prog 215 #[.int .i64 m,.int .i64 f] w fun e w'=>e= .returned (.int .i64 (Zv m f))/\Below w.heap.size w w':=by
 cases hh:Wf m && Wf f
 ·have hs:Zv m f=m:=by unfold Zv;rw [hh];rfl
  have Hs:=Z9 hs;clear hs;go_enter Tryz.func215,Tryz.ntmps215;go_wp2_with fail;refine (VP _ _ [m,f] _ (by simp) (by simp) ?_).mono ?_
  ·intro k hk
   simp at hk
   match k,hk with
   | 0,_=>simp
   | 1,_=>simp
  rintro e w1 ⟨rfl,hb⟩;rw [C9,hh];have B1:Hid (Below w.heap.size w w1):=Z9 (((ba _ _)).trans (hb.mono (by simp)));clear hb;go_wp2_with fail;go_ret;exact ⟨ZC (uh Hs).symm,uh B1⟩
 ·have hs:Zv m f=min (max m f) 900000000000:=by unfold Zv;rw [hh];rfl
  have Hs:=Z9 hs;clear hs;go_enter Tryz.func215,Tryz.ntmps215;go_wp2_with fail;refine (VP _ _ [m,f] _ (by simp) (by simp) ?_).mono ?_
  ·intro k hk
   simp at hk
   match k,hk with
   | 0,_=>simp
   | 1,_=>simp
  rintro e w1 ⟨rfl,hb⟩;rw [C9,hh];have B1:Hid (Below w.heap.size w w1):=Z9 (((ba _ _)).trans (hb.mono (by simp)));clear hb;go_wp2_with fail;refine ck (U1 m f 900000000000 _) fun w2 hw2=> ?_;subst w2;go_wp2_with fail;go_ret;exact ⟨ZC (uh Hs).symm,uh B1⟩
theorem FD (x:Int) (w:World):Calls Tryz.prog 103 #[.int .i64 x] w fun e w'=>e= .returned (.bool (Wf x))/\w'=w:=by
 go_enter Tryz.func103,Tryz.ntmps103;go_wp2_with (go_at_call 59;refine (ZT _ _ _ _).mono ?_;rintro e w' ⟨rfl,rfl⟩)
 go_ret;exact ⟨rfl,rfl⟩
theorem Yq {x:Int} {r:Bool} (h:Wf x=r) (w:World):Calls Tryz.prog 103 #[.int .i64 x] w fun e w'=>e= .returned (.bool r)/\w'=w:=by
 rw [<-h];exact FD x w
theorem MN (h m:Int) (w:World):Calls Tryz.prog 65 #[.int .i64 h,.int .i64 m] w fun e w'=>e= .returned (.int .i64 (YL h m))/\w'=w:=by
 cases h2:Wf m
 ·have hs:YL h m=h:=by unfold YL;rw [h2];rfl
  have Hs:=Z9 hs;have H2:=Z9 h2;clear hs h2;go_enter Tryz.func65,Tryz.ntmps65;go_wp2_with (go_at_call 103;refine (Yq (uh H2) _).mono ?_;rintro e w' ⟨rfl,rfl⟩)
  go_ret;exact ⟨ZC (uh Hs).symm,rfl⟩
 have hs:YL h m=max h (m-20000):=by unfold YL;rw [h2];rfl
 obtain ⟨b0,b1⟩:=Rq h2;have Hs:=Z9 hs;have H2:=Z9 h2;clear hs h2;go_enter Tryz.func65,Tryz.ntmps65;go_wp2_with (first | (go_at_call 124;refine (Th _ _ _).mono ?_;rintro e w' ⟨rfl,rfl⟩) | (go_at_call 103;refine (Yq (uh H2) _).mono ?_;rintro e w' ⟨rfl,rfl⟩))
 go_ret;exact ⟨ZC (uh Hs).symm,rfl⟩
theorem QE (h f t:Int) (w:World):Calls Tryz.prog 66 #[.int .i64 h,.int .i64 f,.int .i64 t] w fun e w'=>e= .returned (.int .i64 (Zq h f t))/\w'=w:=by
 cases h1:Wf h
 ·have hs:Zq h f t=h:=by unfold Zq;rw [h1];rfl
  have Hs:=Z9 hs;have H1:=Z9 h1;clear hs h1;go_enter Tryz.func66,Tryz.ntmps66;go_wp2_with (go_at_call 103;refine (Yq (uh H1) _).mono ?_;rintro e w' ⟨rfl,rfl⟩)
  go_ret;exact ⟨ZC (uh Hs).symm,rfl⟩
 cases h2:Wf f
 ·have hs:Zq h f t=h:=by unfold Zq;rw [h1,h2];rfl
  have Hs:=Z9 hs;have H1:=Z9 h1;have H2:=Z9 h2;clear hs h1 h2;go_enter Tryz.func66,Tryz.ntmps66;go_wp2_with (go_at_call 103;first | (refine (Yq (uh H1) _).mono ?_;rintro e w' ⟨rfl,rfl⟩) | (refine (Yq (uh H2) _).mono ?_;rintro e w' ⟨rfl,rfl⟩))
  go_ret;exact ⟨ZC (uh Hs).symm,rfl⟩
 cases h3:Wf t
 ·have hs:Zq h f t=h:=by unfold Zq;rw [h1,h2,h3];rfl
  have Hs:=Z9 hs;have H1:=Z9 h1;have H2:=Z9 h2;have H3:=Z9 h3;clear hs h1 h2 h3;go_enter Tryz.func66,Tryz.ntmps66;go_wp2_with (go_at_call 103;first | (refine (Yq (uh H1) _).mono ?_;rintro e w' ⟨rfl,rfl⟩) | (refine (Yq (uh H2) _).mono ?_;rintro e w' ⟨rfl,rfl⟩) | (refine (Yq (uh H3) _).mono ?_;rintro e w' ⟨rfl,rfl⟩))
  go_ret;exact ⟨ZC (uh Hs).symm,rfl⟩
 have hs:Zq h f t=h-f+t:=by unfold Zq;rw [h1,h2,h3];rfl
 obtain ⟨a0,a1⟩:=Rq h1;obtain ⟨b0,b1⟩:=Rq h2;obtain ⟨c0,c1⟩:=Rq h3;have Hs:=Z9 hs;have H1:=Z9 h1;have H2:=Z9 h2;have H3:=Z9 h3;clear hs h1 h2 h3;go_enter Tryz.func66,Tryz.ntmps66;go_wp2_with (go_at_call 103;first | (refine (Yq (uh H1) _).mono ?_;rintro e w' ⟨rfl,rfl⟩) | (refine (Yq (uh H2) _).mono ?_;rintro e w' ⟨rfl,rfl⟩) | (refine (Yq (uh H3) _).mono ?_;rintro e w' ⟨rfl,rfl⟩))
 go_ret;exact ⟨ZC (uh Hs).symm,rfl⟩
theorem MJ (m f:Int) (w:World):Calls Tryz.prog 173 #[.int .i64 m,.int .i64 f] w fun e w'=>e= .returned (.int .i64 (Zv m f))/\w'=w:=by
 cases h1:Wf m
 ·have hs:Zv m f=m:=by unfold Zv;rw [h1];rfl
  have Hs:=Z9 hs;have H1:=Z9 h1;clear hs h1;go_enter Tryz.func173,Tryz.ntmps173;go_wp2_with (go_at_call 103;refine (Yq (uh H1) _).mono ?_;rintro e w' ⟨rfl,rfl⟩)
  go_ret;exact ⟨ZC (uh Hs).symm,rfl⟩
 cases h2:Wf f
 ·have hs:Zv m f=m:=by unfold Zv;rw [h1,h2];rfl
  have Hs:=Z9 hs;have H1:=Z9 h1;have H2:=Z9 h2;clear hs h1 h2;go_enter Tryz.func173,Tryz.ntmps173;go_wp2_with (go_at_call 103;first | (refine (Yq (uh H1) _).mono ?_;rintro e w' ⟨rfl,rfl⟩) | (refine (Yq (uh H2) _).mono ?_;rintro e w' ⟨rfl,rfl⟩))
  go_ret;exact ⟨ZC (uh Hs).symm,rfl⟩
 have hs:Zv m f=min (max m f) 900000000000:=by unfold Zv;rw [h1,h2];rfl
 have Hs:=Z9 hs;have H1:=Z9 h1;have H2:=Z9 h2;clear hs h1 h2;go_enter Tryz.func173,Tryz.ntmps173;go_wp2_with (first | (go_at_call 124;refine (Th _ _ _).mono ?_;rintro e w' ⟨rfl,rfl⟩) | (go_at_call 222;refine (JY _ _ _).mono ?_;rintro e w' ⟨rfl,rfl⟩) | (go_at_call 103;first | (refine (Yq (uh H1) _).mono ?_;rintro e w' ⟨rfl,rfl⟩) | (refine (Yq (uh H2) _).mono ?_;rintro e w' ⟨rfl,rfl⟩)))
 go_ret;exact ⟨ZC (uh Hs).symm,rfl⟩
end Go.Proofs.YtamgfpdahadnfaaGreatDoor
