/- Part 24 of what the proof rests on. No condition but those that a theorem names. -/
import Derived.Test.YtgdpaigcmoifbaaGreatDoorXr16
import Derived.Test.YtgdpaigcmoifbaaGreatDoorXr20
import Derived.Test.YtgdpaigcmoifbaaGreatDoorXr21
set_option maxHeartbeats 8000000
set_option maxRecDepth 100000
namespace Go.Proofs.YtgdpaigcmoifbaaGreatDoor
open Go.ChangeShapes Go.WideShapes Go.ChangeAt Go.RowKit Go.Sort Go.Proofs.Tryz
set_option linter.unusedVariables false
variable {w w' w0 w1 w2 w3 w₀ wr W W' X A B C : World} {v v0 v1 v2 v3 v4 u u0 u1 u2 u3 u4 : Value} {m : Z3}
structure Gk (m:Z3):Prop where
 gd:Zk m.gd=true
 lo:∀ i,i<m.sm.length->(Z8 m.sm i).1 ≠ 0-> -1<=(Z8 m.sm i).2.2.2.2.1
 hi:∀ i,i<m.sm.length->(Z8 m.sm i).1 ≠ 0->(Z8 m.sm i).2.2.2.2.1<m.gd.length
theorem Dv {s:ZZ} (h:ZM s=true):s.1 ≠ 0:=fun e=>by unfold ZM at h;rw [e] at h;cases h
theorem Qg  {k:Nat} (h:Smy w v0 v1 v2 v3 v4 m) (hg:Zk m.gd=true) (hk:k<m.sm.length) (g0 : -1<=(Z8 m.sm k).2.2.2.2.1) (g1:(Z8 m.sm k).2.2.2.2.1<m.gd.length) :
  cB 139 #[.agg #[v0,v1,v2,v3,v4,.int .i64 m.now],.int .i64 (k:Int)] w (.int .i64 (Zy m (k:Int))):=by
 have hw:Zy m (k:Int)=Pw m.gd (Z8 m.sm k):=rfl;rw [hw];clear hw;have Hv:=Z9 h;obtain ⟨h0,h1,h2,h3,h4⟩:=h;obtain ⟨a0,p0,rfl,hc0,hm0⟩:=IsRooms.shape h0;obtain ⟨a1,p1,rfl,hc1,hm1⟩:=IsRec.shape h1;obtain ⟨a2,p2,rfl,hc2,hm2,r2⟩:=h2;obtain ⟨a3,p3,rfl,hc3,hm3⟩:=IsRec.shape h3;obtain ⟨a4,p4,rfl,hc4,hm4⟩:=IsRec.shape h4;clear h0 h1 h3 h4
 rcases r2 with e0 | ⟨sb,off,rfl,hbw,hcl⟩
 ·rw [e0] at hk;simp at hk
 obtain ⟨d0,d1,d2,d3,d4,d5,d6,d7,d8,d9,d10⟩:=ZB hcl hk;clear hcl;generalize Z8 m.sm k=ss at *;obtain ⟨st,be,rk,my,gu,lo,hi,hd,ca,ut,wk⟩:=ss;simp only at d0 d1 d2 d3 d4 d5 d6 d7 d8 d9 d10 g0 g1;have Hg:=Z9 hg;clear hg;go_enter func139,ntmps139;go_wp2_with fail;have BB:Hid (Below w.heap.size w ((w.alloc (.cells #[.slice a0 m.rm.length p0,.slice a1 m.gd.length p1,.slice (some ⟨sb,off,none⟩) m.sm.length p2,.slice a3 m.dk.length p3,.slice a4 m.pc.length p4,.int .i64 m.now] 39)).alloc (.cells (I11 st be rk my gu lo hi hd ca ut wk) 59))):=Z9 (((ba _ _)).alloc (by simp) _);have Hv2:=Z9 ((uh Hv).below (uh BB)).gd;have ks:=Z9 (Blk.new (w.alloc (.cells #[.slice a0 m.rm.length p0,.slice a1 m.gd.length p1,.slice (some ⟨sb,off,none⟩) m.sm.length p2,.slice a3 m.dk.length p3,.slice a4 m.pc.length p4,.int .i64 m.now] 39)) 59 (I11 st be rk my gu lo hi hd ca ut wk));simp only [YW] at ks;generalize (w.alloc (.cells #[.slice a0 m.rm.length p0,.slice a1 m.gd.length p1,.slice (some ⟨sb,off,none⟩) m.sm.length p2,.slice a3 m.dk.length p3,.slice a4 m.pc.length p4,.int .i64 m.now] 39)).alloc (.cells (I11 st be rk my gu lo hi hd ca ut wk) 59)=W at *;refine ck (Qj gu lo hi (uh Hv2) (L9 (uh Hg) m.gd.length gu (uh Hv2) g0 g1 g1)) fun w1 hb=> ?_;replace ks:=bl ks hb;replace BB:=bt BB hb;have x9:=(uh ks).cell (i:=9) (v:= .int .i64 ut) rfl;clear hb d0 d1 d2 d3 d4 d5 d6 d7 d8 d9 d10;go_wp2_with (go_at_call 173;refine (TN _ _ _ _).mono ?_;rintro e w' ⟨rfl,h9⟩;subst w')
 go_ret;exact ⟨rfl,uh BB⟩
theorem Jc (m:Z3) (but:Int) {q:List Z6} {k:Nat} (hk:k<q.length):VN m but (q.take (k+1))=if (Z7 q k).2=but then VN m but (q.take k) else VN m but (q.take k)+Zy m (Z7 q k).2:=by
 have:q.take (k+1)=q.take k++[Z7 q k]:=by
  rw [List.take_succ_eq_append_getElem hk];unfold Z7;simp [List.getD,hk]
 rw [this,Jb]
theorem U5  (b but:Int) (h:Smy w v0 v1 v2 v3 v4 m) (hG:Gk m) (hl:m.sm.length<=800) :
  cB 93 #[.agg #[v0,v1,v2,v3,v4,.int .i64 m.now],.int .i64 b,.int .i64 but] w (.int .i64 (Zu m b but)):=by
 have Hv:=Z9 (h.alloc (.cells #[v0,v1,v2,v3,v4,.int .i64 m.now] 39));obtain ⟨a0,p0,a1,p1,a2,p2,a3,p3,a4,p4,rfl,rfl,rfl,rfl,rfl,_,_,_,_,_,_,_,_,_,_⟩:=h.five;clear h;have HG:=Z9 hG;clear hG;go_enter func93,ntmps93;go_wp2_with fail;refine (MT b (uh Hv) hl).mono ?_;rintro e w1 ⟨v',rfl,he,hb⟩;have kb:Hid (Blk w1 w.heap.size 39 (S6 a0 p0 a1 p1 a2 p2 a3 p3 a4 p4 m)):=Z9 ((Blk.new w _ _).below hb (by simp));have BB:Hid (Below w.heap.size w w1):=Z9 (((ba _ _)).trans (hb.mono (by simp)));replace Hv:=Z9 ((uh Hv).below hb);have hq:=TU m.sm b m.sm.length;have hmem:=WS m.sm b;have Hu:Hid (Zu m b but=VN m but (atV m.sm b m.sm.length)):=Z9 rfl
 have hmq:∀ x ∈ atV m.sm b m.sm.length,∃ j:Nat,j<m.sm.length/\ZM (Z8 m.sm j)=true/\x.2=(j:Int):=fun x hx=>by
  obtain ⟨j,hj,_,hp,rfl⟩:=(hmem x m.sm.length).1 hx;exact ⟨j,hj,hp,rfl⟩
 have Hm:=Z9 hmq;clear hmem hmq hb;have hp:=EntsAt.pc he;clear he;generalize atV m.sm b m.sm.length=q at *;obtain ⟨qa,qc,rfl,hqc,hqm,hr⟩:=hp;have Hr:=Z9 hr;clear hr;go_wp2_with fail
 go_loopw [7,9] (fun n i wr=> ∃ k:Nat,k<=q.length/\i= .int .i64 k/\n= .int .i64 (VN m but (q.take k))/\Below w1.heap.size w1 wr) (fun _ i _=>q.length-(intOf i).toNat)
 case atStart=>exact ⟨0,ZR _,rfl,rfl,Z0 _ _⟩
 case round=>
  obtain ⟨k,hk,rfl,rfl,hbr⟩:=hrel;have hub:=Lj m but (q.take k);have htl:(q.take k).length<=k:=by rw [List.length_take];omega
  by_cases hlt:k<q.length
  ·rcases uh Hr with e0 | ⟨eb,eo,rfl,hbw,hcl⟩
   ·rw [e0] at hlt;simp at hlt
   obtain ⟨c0,c1⟩:=hcl k hlt;rw [<-hbr.cell (p:=⟨eb,eo+k*2,none⟩) hbw] at c0;rw [<-hbr.cell (p:=⟨eb,eo+k*2+1,none⟩) hbw] at c1;obtain ⟨j,hj,hjp,hje⟩:=uh Hm _ (Wo hlt);have Hjp:=Z9 (Dv hjp);clear hjp;have hst:=Jc m but hlt;have hwb:=TD m (j:Int);rw [hje] at c1 hst;clear hje hcl;generalize (Z7 q k).1=hd at *;have Hst:=Z9 hst;clear hst;generalize VN m but (q.take k)=u at *;have u1:u<=1024*800:=by omega
   have kb1:=(uh kb).below hbr (uh kb).lt;have Hv1:=Z9 ((uh Hv).below hbr);have Kb1:=Z9 kb1;have Hbr:=Z9 hbr;clear hbr kb1;obtain ⟨x0,x1,x2,x3,x4,x5⟩:=(uh Kb1).c6;by_cases hbut:(j:Int)=but
   ·have hbn:((j:Int) ==but)=true:=by simpa using hbut
    go_wp2_with fail;go_roundw
    case rel=>exact ⟨k+1,by omega,by go_num,by rw [uh Hst,if_pos hbut],uh Hbr⟩
    case measure=>exact ms
   ·have hbn:((j:Int) ==but)=false:=by simpa using hbut
    have Hw:=Z9 (fun (W:World) (hW:Below wr.heap.size wr W)=>Qg ((uh Hv1).below hW) (uh HG).gd hj ((uh HG).lo j hj (uh Hjp)) ((uh HG).hi j hj (uh Hjp)));generalize Zy m (j:Int)=wa at *;have y0:=Z1 x0;have y1:=Z1 x1;have y2:=Z1 x2;have y3:=Z1 x3;have y4:=Z1 x4;have y5:=Z1 x5;have z0:=Z1 c0;have z1:=Z1 c1;go_wp2_with fail;refine wq ?_
    repeat (go_big_quiet_step (exact ZX (uh Hw _ (Z2 _ _ _))))
    refine wpQuiet_nil ?_;intro _ hw';obtain ⟨⟨dq,osq⟩,hw''⟩:=hw';subst hw'';go_wp2_with fail;go_roundw
    case rel=>exact ⟨k+1,by omega,by go_num,by rw [uh Hst,if_neg hbut],(uh Hbr).trans ((Z2 _ _ _).mono (uh Hbr).size)⟩
    case measure=>exact ms
  ·obtain rfl:k=q.length:=by omega
   rw [List.take_length];go_wp2_with fail;go_ret;exact ⟨ZQ (uh Hu).symm,(uh BB).trans (hbr.mono (uh BB).size)⟩
open Go.ChangeShapes Go.WideShapes Go.ChangeAt Go.RowKit Go.Sort
structure Sane (m:Z3):Prop where
 hall:YF m.rm=true
 dk:(m.dk.length:Int)=ZW m.rm
 guilded:Gk m
 few:m.sm.length<=12
theorem Sane.bench (h:Sane m) {b:Nat} (hb:b<m.dk.length):YS m.rm (b:Int)=true:=MM h.hall (by omega) (by have:=h.dk;omega)
theorem Sane.eight (h:Sane m):m.dk.length<=8:=by have:=(Zd h.hall).2.2.2;have:=h.dk;omega
theorem Loose.sane (h:Loose m):Sane m:=by
 have hd:=h.head;unfold XT at hd;simp only [ZJ,Yg] at hd;obtain ⟨h1,h2,h3,h4,_⟩:=hd;refine ⟨h1,h4,⟨h2,fun i hi hs=> ?_,fun i hi hs=>(h.limits hi hs).2.1⟩,h3⟩;have hp:=(h.limits hi hs).1;generalize Z8 m.sm i=s at *;obtain ⟨st,be,rk,my,gu,lo',hi',hd,ca,ut,wk⟩:=s;exact (Xu hp).2.2.2.2.1.1
theorem Sane.with (h:Sane m) {k:Nat} (hk:k<m.sm.length) (hs:(Z8 m.sm k).1 ≠ 0) (b:Int):Sane (Xw m (k:Int) b):=by
 have hset:∀ i,Z8 (Xw m (k:Int) b).sm i=if i=k then St (Z8 m.sm k) b else Z8 m.sm i:=fun i=>by
  unfold Xw;simp only [Zm];exact ZC hk i
 refine ⟨h.hall,h.dk,⟨h.guilded.gd,fun i hi hne=> ?_,fun i hi hne=> ?_⟩,by unfold Xw;simpa using h.few⟩
 ·have hi':i<m.sm.length:=by unfold Xw at hi;simpa using hi
  rw [hset] at hne ⊢;by_cases e:i=k
  ·rw [if_pos e];exact h.guilded.lo k hk hs
  ·rw [if_neg e] at hne ⊢;exact h.guilded.lo i hi' hne
 ·have hi':i<m.sm.length:=by unfold Xw at hi;simpa using hi
  rw [hset] at hne ⊢;by_cases e:i=k
  ·rw [if_pos e];exact h.guilded.hi k hk hs
  ·rw [if_neg e] at hne ⊢;exact h.guilded.hi i hi' hne
theorem Sane.few' (h:Sane m) (hp:m.pc.length<=1000):Few m:=by
 obtain ⟨r1,r2,r3,r4⟩:=Zd h.hall;have hg:=(RQ h.guilded.gd).2;refine ⟨by omega,fun r hr=> ?_,by omega,by have:=h.few;omega,by have:=h.eight;omega,hp⟩;have hrb:=List.all_eq_true.1 r3 r hr;unfold Zn at hrb;simp only [ZJ] at hrb;have:=ZO hrb.2.1;omega
def R6 (m:Z3):List Z6->Int
 | []=>0
 | e::q=>Zy m e.2+R6 m q
def VY (m:Z3):List Int->Int
 | []=>0
 | x::q=>Zy m x+VY m q
theorem KP (m:Z3) (a b:List Z6):R6 m (a++b)=R6 m a+R6 m b:=by
 induction a with
 | nil=>show R6 m b=0+R6 m b;omega
 | cons e a ih=>show Zy m e.2+R6 m (a++b)=Zy m e.2+R6 m a+R6 m b;omega
theorem EU (m:Z3) (a b:List Int):VY m (a++b)=VY m a+VY m b:=by
 induction a with
 | nil=>show VY m b=0+VY m b;omega
 | cons e a ih=>show Zy m e+VY m (a++b)=Zy m e+VY m a+VY m b;omega
theorem Nj (m:Z3) (a:List Int) (x:Int):VY m (a++[x])=VY m a+Zy m x:=by rw [EU];show _+(Zy m x+0)=_;omega
theorem GM (m:Z3):∀ a:List Int,0<=VY m a/\VY m a<=1024*a.length
 | []=>by simp [VY]
 | x::a=>by
  have ih:=GM m a;have hw:=TD m x;show 0<=Zy m x+VY m a/\Zy m x+VY m a<=1024*((a.length+1:Nat):Int);omega
theorem ET (m:Z3) (q:List Z6) (e:Z6):R6 m (V9 q e)=R6 m q+Zy m e.2:=by
 have h:=KP m (q.take (Yo e q)) (q.drop (Yo e q));rw [List.take_append_drop] at h;unfold V9;rw [KP,h];show _+(Zy m e.2+_)=_;omega
theorem Np (m:Z3) (but:Int):∀ (q:List Z6) (n:Int),(∀ e ∈ q,e.2 ≠ but)->q.foldl (fun n e=>if e.2=but then n else n+Zy m e.2) n=n+R6 m q
 | [],n,_=>by show n=n+0;omega
 | e::q,n,h=>by
  have h0:=h e (by simp);have ih:=Np m but q (if e.2=but then n else n+Zy m e.2) (fun x hx=>h x (by simp [hx]));rw [List.foldl_cons,ih,if_neg h0];show _=n+(Zy m e.2+R6 m q);omega
theorem Gc (m:Z3) (b:Int):Zu m b (-1)=R6 m (atV m.sm b m.sm.length):=by
 have:=Np m (-1) (atV m.sm b m.sm.length) 0 (fun e he=>by
  obtain ⟨i,_,_,_,rfl⟩:=(WS m.sm b e m.sm.length).1 he;show (i:Int) ≠ -1
  omega)
 unfold Zu VN;omega
theorem CS (b:Int) (s:ZZ):atB b s=decide (s.2.1=b/\ZM s=true):=by
 unfold atB ZM;rw [Bool.eq_iff_iff];simp only [ZJ,Yg,beq_iff_eq];exact ⟨fun h=>⟨h.2,h.1⟩,fun h=>⟨h.2,h.1⟩⟩
theorem Nt (m:Z3) (ss:List ZZ) (b:Int):∀ k,VY m (ZS (atB b) ss k)=R6 m (atV ss b k)
 | 0=>rfl
 | k+1=>by
  have ih:=Nt m ss b k;by_cases hat:(Z8 ss k).2.1=b/\ZM (Z8 ss k)=true
  ·rw [YK (by rw [CS];exact decide_eq_true hat),Nj,Vz hat.1 hat.2,ET,ih]
  ·rw [Yf (by rw [CS];exact decide_eq_false hat),UP hat,ih]
theorem Jd (m:Z3) (b:Int):VY m (ZS (atB b) m.sm m.sm.length)=Zu m b (-1):=by rw [Nt,Gc]
theorem F5 (m:Z3) {ws:List Int} {k:Nat} (h:k<ws.length):VY m (ws.take (k+1))=VY m (ws.take k)+Zy m (Z8 ws k):=by rw [RC h,Nj]
structure Wants (m:Z3):Prop where
 gd:Zk m.gd=true
 each:∀ i,i<m.sm.length->(Z8 m.sm i).1 ≠ 0->isB m.gd (Z8 m.sm i).2.2.2.2.1=true/\Yq (Z8 m.sm i).2.2.2.2.2.1 (Z8 m.sm i).2.2.2.2.2.2.1=true
theorem Loose.wants (h:Loose m):Wants m:=by
 have hd:=h.head;unfold XT at hd;simp only [ZJ,Yg] at hd;refine ⟨hd.2.1,fun i hi hs=> ?_⟩;obtain ⟨hp,hg,_⟩:=h.limits hi hs;have hgs:=hd.2.1;generalize Z8 m.sm i=s at *;obtain ⟨st,be,rk,my,gu,lo,hi,hd,ca,ut,wk⟩:=s;obtain ⟨_,_,_,_,⟨g0,g5⟩,hpair,_⟩:=Xu hp;simp only at hg;exact ⟨by unfold isB;rw [hgs,Zf g0 (by omega)];rfl,hpair⟩
theorem Fc (m:Z3) {k:Nat} (hk:k<m.sm.length) (b:Int) (i:Nat):Z8 (Xw m (k:Int) b).sm i=if i=k then St (Z8 m.sm k) b else Z8 m.sm i:=by
 unfold Xw;simp only [Zm];exact ZC hk i
theorem Wants.with (h:Wants m) {k:Nat} (hk:k<m.sm.length) (hs:(Z8 m.sm k).1 ≠ 0) (b:Int):Wants (Xw m (k:Int) b):=by
 refine ⟨h.gd,fun i hi hne=> ?_⟩;have hi':i<m.sm.length:=by unfold Xw at hi;simpa using hi
 rw [Fc m hk] at hne ⊢;by_cases e:i=k
 ·rw [if_pos e];exact h.each k hk hs
 ·rw [if_neg e] at hne ⊢;exact h.each i hi' hne
def Vo (m:Z3) (b:Int):Bool:=XW m.dk.length b && (Z8 m.dk b.toNat).1
def V4 (m:Z3) (bs:List Int):Int:=bs.foldl (fun n b=>if Vo m b then max n (Zu m b (-1)) else n) 0
def Vs (m:Z3) (bs:List Int):Int:=bs.foldl (fun n b=>n+Zu m b (-1)) 0
theorem OZ (m:Z3) (bs:List Int) (b:Int):V4 m (bs++[b])=if Vo m b then max (V4 m bs) (Zu m b (-1)) else V4 m bs:=by unfold V4;rw [List.foldl_append];rfl
theorem PA (m:Z3) (bs:List Int) (b:Int):Vs m (bs++[b])=Vs m bs+Zu m b (-1):=by unfold Vs;rw [List.foldl_append];rfl
theorem Ki (m:Z3) (hl:m.sm.length<=12):∀ (bs:List Int) (n:Int),0<=n->n<=12288->0<=bs.foldl (fun n b=>if Vo m b then max n (Zu m b (-1)) else n) n/\bs.foldl (fun n b=>if Vo m b then max n (Zu m b (-1)) else n) n<=12288
 | [],n,h0,h1=>⟨h0,h1⟩
 | b::bs,n,h0,h1=>by
  have hu:=UL m b (-1);refine Ki m hl bs (if Vo m b then max n (Zu m b (-1)) else n) ?_ ?_<;>split<;>omega
theorem Et (m:Z3) (hl:m.sm.length<=12) (bs:List Int):0<=V4 m bs/\V4 m bs<=12288:=Ki m hl bs 0 (by omega) (by omega)
theorem Lo (m:Z3) (hl:m.sm.length<=12):∀ (bs:List Int) (n:Int),0<=n->0<=bs.foldl (fun n b=>n+Zu m b (-1)) n/\bs.foldl (fun n b=>n+Zu m b (-1)) n<=n+12288*bs.length
 | [],n,h0=>⟨h0,by simp⟩
 | b::bs,n,h0=>by
  have hu:=UL m b (-1);have ih:=Lo m hl bs (n+Zu m b (-1)) (by omega);refine ⟨ih.1,Int.le_trans ih.2 ?_⟩;simp only [XY,Int.natCast_add,Int.natCast_one];omega
theorem Fd (m:Z3) (hl:m.sm.length<=12) (bs:List Int):0<=Vs m bs/\Vs m bs<=12288*bs.length:=by
 have:=Lo m hl bs 0 (by omega);unfold Vs;omega
theorem KG (h:Sane m) {r:Nat} (hr:r<m.rm.length) {b:Nat} (hb:b<8):VW (Wb m.rm (r:Int)) (b:Int)=true ↔ b<m.dk.length/\(Xg m.rm b:Int)=(r:Int):=by
 have hR:Vk m.rm (r:Int)=true:=by unfold Vk;rw [h.hall,Zf (by omega) (by omega)];rfl
 have ha:=(Zd h.hall).2.2.1;have h0:=XF h.hall r (by omega);have h1:=XF h.hall (r+1) (by omega);have hm:=We ha (i:=r) 1 (by omega);have hm0:=We ha (i:=r+1) (m.rm.length-(r+1)) (by omega);rw [show r+1+(m.rm.length-(r+1))=m.rm.length by omega,List.take_length] at hm0;have h8:=h.eight;have hd:=h.dk;rw [EI hR,Zm,DT h0.1 hm (by omega) (by omega) (by omega),decide_eq_true_iff];constructor
 ·intro hx
  have hbd:b<m.dk.length:=by omega
  exact ⟨hbd,by rw [(GJ (h.bench hbd) hr).2 hx]⟩
 ·rintro ⟨hbd,e⟩
  exact (GJ (h.bench hbd) hr).1 (by omega)
theorem Na (h:Sane m) {r:Nat} (hr:r<m.rm.length):∀ k:Nat,k<=m.dk.length->V4 m (VJ (Wb m.rm (r:Int)) k)=(Zj m r k).1/\Vs m (VJ (Wb m.rm (r:Int)) k)=(Zj m r k).2
 | 0,_=>⟨rfl,rfl⟩
 | k+1,hk=>by
  have ih:=Na h hr k (by omega);have h8:=h.eight;have hs:=KG h hr (b:=k) (by omega);by_cases e:(Xg m.rm k:Int)=(r:Int)
  ·rw [TC (hs.2 ⟨by omega,e⟩),OZ,PA,ih.1,ih.2]
   have ho:Vo m (k:Int)=(Z8 m.dk k).1:=by
    unfold Vo XW;rw [Zm,decide_eq_true (show (0:Int)<=(k:Int) by omega),decide_eq_true (show (k:Int)<(m.dk.length:Int) by omega)];simp
   rw [ho];show _=(if _ then _ else _:Int × Int).1/\_=(if _ then _ else _:Int × Int).2;rw [if_pos e];exact ⟨rfl,rfl⟩
  ·have hn:VW (Wb m.rm (r:Int)) (k:Int)=false:=by
    cases hc:VW (Wb m.rm (r:Int)) (k:Int)
    ·rfl
    ·exact absurd (hs.1 hc).2 e
   rw [Vy hn];show _=(if _ then _ else _:Int × Int).1/\_=(if _ then _ else _:Int × Int).2;rw [if_neg e];exact ih
theorem FU (h:Sane m) {r:Nat} (hr:r<m.rm.length):V4 m (Uf (Wb m.rm (r:Int)))=(Zj m r m.dk.length).1/\Vs m (Uf (Wb m.rm (r:Int)))=(Zj m r m.dk.length).2:=by
 have key:∀ d k:Nat,m.dk.length+d=k->k<=8->VJ (Wb m.rm (r:Int)) k=VJ (Wb m.rm (r:Int)) m.dk.length:=by
  intro d
  induction d with
  | zero=>intro k hk _;rw [<-hk];rfl
  | succ d ih=>
   intro k hk h8;obtain ⟨j,rfl⟩:∃ j,k=j+1:=⟨k-1,by omega⟩
   have hn:VW (Wb m.rm (r:Int)) (j:Int)=false:=by
    cases hc:VW (Wb m.rm (r:Int)) (j:Int)
    ·rfl
    ·have:=((KG h hr (b:=j) (by omega)).1 hc).1;omega
   rw [Vy hn];exact ih j (by omega) (by omega)
 have h8:=h.eight;have e:=key (8-m.dk.length) 8 (by omega) (by omega);unfold Uf;rw [e];exact Na h hr m.dk.length (ZY _)
def CT (s:ZZ):ZZ:=(1,s.2)
def XP (m:Z3) (who:Int):Z3:={ m with sm:=m.sm.set who.toNat (CT (Z8 m.sm who.toNat)) }
theorem PE (m:Z3) {k:Nat} (hk:k<m.sm.length) (i:Nat):Z8 (XP m (k:Int)).sm i=if i=k then CT (Z8 m.sm k) else Z8 m.sm i:=by
 unfold XP;simp only [Zm];exact ZC hk i
theorem Ob (m:Z3) (who:Int):(XP m who).sm.length=m.sm.length:=by unfold XP;simp
theorem Fg (m:Z3) {k:Nat} (hk:k<m.sm.length) (x:Int):Zy (XP m (k:Int)) x=Zy m x:=by
 unfold Zy;rw [PE m hk];by_cases e:x.toNat=k
 ·rw [if_pos e,e];rfl
 ·rw [if_neg e];rfl
def Sn (m:Z3) (but:Int):List Z6->Int
 | []=>0
 | e::q=>(if e.2=but then 0 else Zy m e.2)+Sn m but q
theorem KO (m:Z3) (but:Int) (a b:List Z6):Sn m but (a++b)=Sn m but a+Sn m but b:=by
 induction a with
 | nil=>show Sn m but b=0+Sn m but b;omega
 | cons e a ih=>show _+Sn m but (a++b)=_+Sn m but a+Sn m but b;omega
theorem Po (m:Z3) (but:Int) (q:List Z6) (e:Z6):Sn m but (V9 q e)=Sn m but q+(if e.2=but then 0 else Zy m e.2):=by
 have h:=KO m but (q.take (Yo e q)) (q.drop (Yo e q));rw [List.take_append_drop] at h;unfold V9;rw [KO,h];show _+((if e.2=but then 0 else Zy m e.2)+_)=_;omega
theorem GN (m:Z3) (but:Int):∀ (q:List Z6) (n:Int),q.foldl (fun n e=>if e.2=but then n else n+Zy m e.2) n=n+Sn m but q
 | [],n=>by show n=n+0;omega
 | e::q,n=>by
  have ih:=GN m but q (if e.2=but then n else n+Zy m e.2);rw [List.foldl_cons,ih];show _=n+((if e.2=but then 0 else Zy m e.2)+Sn m but q)
  split<;>omega
theorem GO (m:Z3) (b but:Int):Zu m b but=Sn m but (atV m.sm b m.sm.length):=by
 have:=GN m but (atV m.sm b m.sm.length) 0;unfold Zu VN;omega
theorem KQ (m:Z3) {k:Nat} (hk:k<m.sm.length) (b:Int):∀ j,Sn (XP m (k:Int)) (-1) (atV (XP m (k:Int)).sm b j)=Sn m (k:Int) (atV m.sm b j)
 | 0=>rfl
 | j+1=>by
  have ih:=KQ m hk b j;by_cases e:j=k
  ·subst e
   rw [UP (ss:=(XP m (j:Int)).sm) (by rw [PE m hk,if_pos rfl];rintro ⟨_,h⟩;cases h),ih];by_cases hat:(Z8 m.sm j).2.1=b/\ZM (Z8 m.sm j)=true
   ·rw [Vz hat.1 hat.2,Po,if_pos rfl];omega
   ·rw [UP hat]
  ·have hr:Z8 (XP m (k:Int)).sm j=Z8 m.sm j:=by rw [PE m hk,if_neg e]
   by_cases hat:(Z8 m.sm j).2.1=b/\ZM (Z8 m.sm j)=true
   ·rw [Vz (ss:=(XP m (k:Int)).sm) (by rw [hr];exact hat.1) (by rw [hr];exact hat.2),Vz hat.1 hat.2,Po,Po,ih,Fg m hk]
    show _+(if (j:Int)= -1 then 0 else Zy m (j:Int))=_+(if (j:Int)=(k:Int) then 0 else Zy m (j:Int));rw [if_neg (by omega),if_neg (by omega)]
   ·rw [UP (ss:=(XP m (k:Int)).sm) (by rw [hr];exact hat),UP hat,ih]
theorem Gd (m:Z3) {k:Nat} (hk:k<m.sm.length) (b:Int):Zu (XP m (k:Int)) b (-1)=Zu m b (k:Int):=by
 rw [GO,GO,Ob];exact KQ m hk b _
theorem Wants.away (h:Wants m) {k:Nat} (hk:k<m.sm.length) (hs:(Z8 m.sm k).1 ≠ 0):Wants (XP m (k:Int)):=by
 refine ⟨h.gd,fun i hi hne=> ?_⟩;rw [Ob] at hi;rw [PE m hk] at hne ⊢;by_cases e:i=k
 ·rw [if_pos e];exact h.each k hk hs
 ·rw [if_neg e] at hne ⊢;exact h.each i hi hne
abbrev YU:=Int × Int × Int
def TW (m:Z3) (k:Nat):YU:=((k:Int),Zu m (k:Int) (-1),YO m.rm (k:Int))
def Yp (m:Z3):Nat->List YU
 | 0=>[]
 | k+1=>if (Z8 m.dk k).1 then Yp m k++[TW m k] else Yp m k
theorem RX {k:Nat} (h:(Z8 m.dk k).1=true):Yp m (k+1)=Yp m k++[TW m k]:=by show (if _ then _ else _)=_;rw [if_pos h]
theorem QT {k:Nat} (h:(Z8 m.dk k).1=false):Yp m (k+1)=Yp m k:=by show (if _ then _ else _)=_;rw [h];rfl
theorem Uh (m:Z3):∀ k,(Yp m k).length<=k
 | 0=>ZY _
 | k+1=>by
  have:=Uh m k;unfold Yp
  split
  ·simp;omega
  ·omega
theorem Ui (m:Z3) (x:YU):∀ k,x ∈ Yp m k ↔ ∃ b:Nat,b<k/\(Z8 m.dk b).1=true/\x=TW m b
 | 0=>by simp [Yp]
 | k+1=>by
  have ih:=Ui m x k;cases ho:(Z8 m.dk k).1
  ·rw [QT ho,ih]
   constructor
   ·rintro ⟨b,hb,h⟩;exact ⟨b,by omega,h⟩
   ·rintro ⟨b,hb,h1,h2⟩
    by_cases e:b=k
    ·subst e;rw [ho] at h1;cases h1
    ·exact ⟨b,by omega,h1,h2⟩
  ·rw [RX ho,List.mem_append,ih]
   constructor
   ·rintro (⟨b,hb,h⟩ | h)
    ·exact ⟨b,by omega,h⟩
    ·exact ⟨k,by omega,ho,by simpa using h⟩
   ·rintro ⟨b,hb,h1,h2⟩
    by_cases e:b=k
    ·subst e;right;simp [h2]
    ·left;exact ⟨b,by omega,h1,h2⟩
def Fk (m:Z3) (who:Int) (k:Nat):YU:=((k:Int),Zu m (k:Int) who,YO m.rm (k:Int))
def WA (m:Z3) (who:Int):Nat->List YU
 | 0=>[]
 | k+1=>if Yi m who k then WA m who k++[Fk m who k] else WA m who k
theorem QQ {who:Int} {k:Nat} (h:Yi m who k=true):WA m who (k+1)=WA m who k++[Fk m who k]:=by show (if _ then _ else _)=_;rw [if_pos h]
theorem Rr {who:Int} {k:Nat} (h:Yi m who k=false):WA m who (k+1)=WA m who k:=by show (if _ then _ else _)=_;rw [h];rfl
theorem MZ (m:Z3) (who:Int):∀ k,(WA m who k).length<=k
 | 0=>ZY _
 | k+1=>by
  have:=MZ m who k;unfold WA
  split
  ·simp;omega
  ·omega
def U2 (m:Z3) (k:Nat) (x:YU):Bool:=UQ (Z8 m.sm k).2.2.2.1 x.1
theorem Kk (m:Z3) {k:Nat} (hk:k<m.sm.length):∀ n,(Yp (XP m (k:Int)) n).filter (U2 m k)=WA m (k:Int) n
 | 0=>rfl
 | n+1=>by
  have ih:=Kk m hk n;have hd:(XP m (k:Int)).dk=m.dk:=rfl;have hm:Yi m (k:Int) n=((Z8 m.dk n).1 && UQ (Z8 m.sm k).2.2.2.1 (n:Int)):=rfl;have hi:U2 m k (TW (XP m (k:Int)) n)=UQ (Z8 m.sm k).2.2.2.1 (n:Int):=rfl;cases ho:(Z8 m.dk n).1
  ·rw [QT (by rw [hd];exact ho),ih,Rr (by rw [hm,ho];rfl)]
  ·rw [RX (by rw [hd];exact ho),List.filter_append,ih]
   cases hb:UQ (Z8 m.sm k).2.2.2.1 (n:Int)
   ·rw [Rr (by rw [hm,ho,hb];rfl),List.filter_cons_of_neg (by rw [hi,hb];simp)]
    simp
   ·rw [QQ (by rw [hm,ho,hb];rfl),List.filter_cons_of_pos (by rw [hi,hb])]
    have hv:TW (XP m (k:Int)) n=Fk m (k:Int) n:=by unfold TW Fk;rw [Gd m hk];rfl
    rw [hv];rfl
def ZA (m:Z3) (who:Int):Int:=if Zl m && Xd m who then YL m who else -1
def XC (wn:Int) (x:YU):Bool:=Vg wn x.2.1 x.2.2
theorem Mi (m:Z3) (who:Int):∀ k,((WA m who k).filter (XC (Zy m who))).map (·.1)=VM m who k
 | 0=>rfl
 | k+1=>by
  have ih:=Mi m who k;have hf:Qd m who k=(Yi m who k && XC (Zy m who) (Fk m who k)):=rfl;cases hm:Yi m who k
  ·rw [Rr hm,ih]
   show _=if _ then _ else _
   rw [hf,hm];rfl
  ·rw [QQ hm,List.filter_append,List.map_append,ih]
   show _=if _ then _ else _
   cases ht:XC (Zy m who) (Fk m who k)
   ·rw [hf,hm,ht,List.filter_cons_of_neg (by rw [ht];simp)];simp
   ·rw [hf,hm,ht,List.filter_cons_of_pos ht];rfl
def Rx (a:Int × Int) (x:YU):Int × Int:=if a.1= -1\/a.2<Yr x.2.1 x.2.2 then (x.1,Yr x.2.1 x.2.2) else a
def Tu (l:List YU):Int × Int:=l.foldl Rx (-1,0)
theorem Pa (l:List YU) (x:YU):Tu (l++[x])=Rx (Tu l) x:=by unfold Tu;rw [List.foldl_append];rfl
theorem Kg (m:Z3) (who:Int):∀ k,Tu (WA m who k)=Y8 m who k
 | 0=>rfl
 | k+1=>by
  have ih:=Kg m who k;have ho:=Ml m who k
  have hn:((Y8 m who k).1<0) ↔ (Y8 m who k).1= -1:=by
   rcases ho with ⟨e,_⟩ | ⟨b,_,e,_⟩
   ·rw [e];omega
   ·rw [e];omega
  have hM:Y8 m who (k+1)=if Yi m who k && (decide ((Y8 m who k).1<0) || decide ((Y8 m who k).2<Yr (Zu m k who) (YO m.rm k))) then ((k:Int),Yr (Zu m k who) (YO m.rm k)) else Y8 m who k:=rfl
  rw [hM];cases hm:Yi m who k
  ·rw [Rr hm,ih];rfl
  ·rw [QQ hm,Pa,ih]
   show (if (Y8 m who k).1= -1\/(Y8 m who k).2<Yr (Zu m k who) (YO m.rm k) then _ else _)=_;by_cases hc:(Y8 m who k).1= -1\/(Y8 m who k).2<Yr (Zu m k who) (YO m.rm k)
   ·rw [if_pos hc,if_pos (by rw [Bool.true_and,Bool.or_eq_true,decide_eq_true_iff,decide_eq_true_iff,hn];exact hc)];rfl
   ·rw [if_neg hc,if_neg (by rw [Bool.true_and,Bool.or_eq_true,decide_eq_true_iff,decide_eq_true_iff,hn];exact hc)]
def Ya (m:Z3) (who:Int) (a:Int × Int) (b:Int):Int × Int:=if a.1= -1\/Zt m who b<a.2\/(Zt m who b=a.2/\b=(Z8 m.sm who.toNat).2.1) then (b,Zt m who b) else a
def VQ (m:Z3) (who:Int) (f:List Int):Int × Int:=f.foldl (Ya m who) (-1,0)
theorem Jv (m:Z3) (who:Int) (f:List Int) (b:Int):VQ m who (f++[b])=Ya m who (VQ m who f) b:=by unfold VQ;rw [List.foldl_append];rfl
theorem Oe (m:Z3) (who:Int):∀ (f:List Int) (a:Int × Int),0<=a.1->(∀ x ∈ f,0<=x)->f.foldl (Ya m who) a=f.foldl (XD m who) a
 | [],a,_,_=>rfl
 | b::f,a,h0,hf=>by
  have e:Ya m who a b=XD m who a b:=by
   unfold Ya XD;by_cases hc:Zt m who b<a.2\/(Zt m who b=a.2/\b=(Z8 m.sm who.toNat).2.1)
   ·rw [if_pos hc,if_pos (.inr hc)]
   ·rw [if_neg hc,if_neg (not_or.2 ⟨by omega,hc⟩)]
  rw [List.foldl_cons,List.foldl_cons,e];refine Oe m who f _ ?_ (fun x hx=>hf x (List.mem_cons_of_mem _ hx));unfold XD
  split
  ·exact hf b (by simp)
  ·exact h0
theorem GW (m:Z3) (who:Int) {f:List Int} (h:0<f.length) (hf:∀ x ∈ f,0<=x):VQ m who f=X8 m who f f.length:=by
 obtain ⟨x,r,rfl⟩:∃ x r,f=x::r:=by
  cases f with
  | nil=>simp at h
  | cons x r=>exact ⟨x,r,rfl⟩
 unfold VQ X8;rw [List.take_length,List.foldl_cons];show r.foldl (Ya m who) (Ya m who (-1,0) x)=r.foldl (XD m who) (x,Zt m who x);have e:Ya m who (-1,0) x=(x,Zt m who x):=by unfold Ya;rw [if_pos (.inl rfl)]
 rw [e];exact Oe m who r _ (hf x (by simp)) (fun y hy=>hf y (by simp [hy]))
theorem D2 {who x:Int} (h:x ∈ Zc m who):∃ b:Nat,b<m.dk.length/\x=(b:Int)/\Yi m who b=true:=by
 obtain ⟨b,hb,e,hf⟩:=(QF m who x m.dk.length).1 h;unfold Qd at hf;simp only [ZJ] at hf;exact ⟨b,hb,e,hf.1⟩
theorem Un {α:Type} [Inhabited α] {l:List α} {k:Nat} (h:k<l.length):l.take (k+1)=l.take k++[Z8 l k]:=by
 rw [List.take_succ_eq_append_getElem h,UF h]
theorem CH (h:Loose m) {k:Nat} (hk:k<m.sm.length) (hs:(Z8 m.sm k).1 ≠ 0):0<=(Z8 m.sm k).2.2.2.1/\(Z8 m.sm k).2.2.2.1<=255:=by
 obtain ⟨hp,_,_⟩:=h.limits hk hs;generalize Z8 m.sm k=s at *;obtain ⟨st,be,rk,my,gu,lo,hi,hd,ca,ut,wk⟩:=s;obtain ⟨_,_,_,⟨y0,y1⟩,_⟩:=Xu hp;show 0<=my/\my<=255;omega
theorem Ds {k:Nat} (hk:k<m.dk.length):Vo m (k:Int)=(Z8 m.dk k).1:=by
 unfold Vo XW;rw [Zm,decide_eq_true (show (0:Int)<=(k:Int) by omega),decide_eq_true (show (k:Int)<(m.dk.length:Int) by omega)];simp
theorem Fp (m:Z3):(Yp m m.dk.length).any (fun x=>WB x.2.1 x.2.2)=XA m:=by
 unfold XA;rw [Bool.eq_iff_iff,List.any_eq_true,List.any_eq_true];constructor
 ·rintro ⟨x,hx,hm⟩
  obtain ⟨b,hb,ho,rfl⟩:=(Ui m x _).1 hx;exact ⟨b,List.mem_range.2 hb,by unfold TY;rw [ho];exact hm⟩
 ·rintro ⟨b,hb,hc⟩
  unfold TY at hc;simp only [ZJ] at hc;exact ⟨TW m b,(Ui m _ _).2 ⟨b,List.mem_range.1 hb,hc.1,rfl⟩,hc.2⟩
theorem Cp {α:Type} [Inhabited α] {p:α->Bool} {l:List α} (h:∀ i,i<l.length->p (Z8 l i)=false):l.any p=false:=by
 rw [List.any_eq_false];intro x hx;obtain ⟨i,hi,rfl⟩:=List.getElem_of_mem hx;rw [<-UF hi,h i hi];simp
theorem Dg {α:Type} [Inhabited α] {p:α->Bool} {l:List α} {i:Nat} (hi:i<l.length) (h:p (Z8 l i)=true):l.any p=true:=List.any_eq_true.2 ⟨_,Vv hi,h⟩
theorem Om {α:Type} [Inhabited α] {p:α->Bool} {l:List α} {j:Nat} (hj:j<l.length) (h:p (Z8 l j)=true):(l.take (j+1)).filter p=(l.take j).filter p++[Z8 l j]:=by
 rw [Un hj,List.filter_append,List.filter_cons_of_pos h];rfl
theorem MJ {α:Type} [Inhabited α] {p:α->Bool} {l:List α} {j:Nat} (hj:j<l.length) (h:p (Z8 l j)=false):(l.take (j+1)).filter p=(l.take j).filter p:=by
 rw [Un hj,List.filter_append,List.filter_cons_of_neg (by rw [h];simp)];simp
theorem FV {l:List YU} {j:Nat} (hj:j<l.length):Tu (l.take (j+1))=Rx (Tu (l.take j)) (Z8 l j):=by rw [Un hj,Pa]
theorem GX {who:Int} {l:List Int} {j:Nat} (hj:j<l.length):VQ m who (l.take (j+1))=Ya m who (VQ m who (l.take j)) (Z8 l j):=by rw [Un hj,Jv]
theorem Gb {room:Int} {k:Nat} (h:¬ (Xg m.rm k:Int)=room):Zj m room (k+1)=Zj m room k:=by show (if _ then _ else _)=_;rw [if_neg h]
theorem Ja {room:Int} {k:Nat} (h:(Xg m.rm k:Int)=room):Zj m room (k+1)=((if (Z8 m.dk k).1 then max (Zj m room k).1 (Zu m k (-1)) else (Zj m room k).1),(Zj m room k).2+Zu m k (-1)):=by show (if _ then _ else _)=_;rw [if_pos h]
theorem J3  (room:Int) (h:Smy w v0 v1 v2 v3 v4 m) (hS:Sane m) :
  cB 203 #[.agg #[v0,v1,v2,v3,v4,.int .i64 m.now],.int .i64 room] w (.tuple #[.int .i64 (Zj m room m.dk.length).1,.int .i64 (Zj m room m.dk.length).2]):=by
 have Hv:=Z9 (h.alloc (.cells #[v0,v1,v2,v3,v4,.int .i64 m.now] 39));obtain ⟨a0,p0,a1,p1,a2,p2,a3,p3,a4,p4,rfl,rfl,rfl,rfl,rfl,_,_,_,_,_,_,_,_,_,_⟩:=h.five;clear h;have HS:=Z9 hS;obtain ⟨BB0,kb0⟩:=V5 w 39 (S6 a0 p0 a1 p1 a2 p2 a3 p3 a4 p4 m);have h8:=hS.eight;have hbd:=Nq m room hS.few;have Hbd:=Z9 hbd;clear hS hbd;go_enter func203,ntmps203;go_wp2_with fail
 go_loopw [6,7,8] (fun mo al i wr=> ∃ k:Nat,k<=m.dk.length/\i= .int .i64 k/\mo= .int .i64 (Zj m room k).1/\al= .int .i64 (Zj m room k).2/\Blk wr w.heap.size 39 (S6 a0 p0 a1 p1 a2 p2 a3 p3 a4 p4 m)/\Smy wr (.slice a0 m.rm.length p0) (.slice a1 m.gd.length p1) (.slice a2 m.sm.length p2) (.slice a3 m.dk.length p3) (.slice a4 m.pc.length p4) m/\Below w.heap.size w wr) (fun _ _ i _=>m.dk.length-(intOf i).toNat)
 case atStart=>exact ⟨0,ZR _,rfl,rfl,rfl,uh kb0,uh Hv,uh BB0⟩
 case round=>
  obtain ⟨k,hk,rfl,rfl,rfl,hkb,hv,hb0⟩:=hrel;obtain ⟨⟨u0,u1⟩,u2,u3⟩:=uh Hbd k;have kb:=Z9 hkb;have Hv1:=Z9 hv;have BB:=Z9 hb0;clear hkb hv hb0 kb0 BB0 Hv;obtain ⟨c0,c1,c2,c3,c4,c5⟩:=(uh kb).c6;by_cases hlt:k<m.dk.length
  ·have hlt1:(k:Int)<(m.dk.length:Int):=by omega
   have Hno:=Z9 (fun hh=>Gb (m:=m) (room:=room) (k:=k) hh);have Hyes:=Z9 (fun hh=>Ja (m:=m) (room:=room) (k:=k) hh);obtain ⟨⟨mo,al⟩,hmo⟩:=ZI (Zj m room k);rw [hmo] at u0 u1 u2 u3 Hno Hyes ⊢;simp only at u0 u1 u2 u3 Hyes ⊢;clear hmo;go_wp2_with fail;refine ck (OP (k:Int) (uh Hv1).rm ((uh HS).bench hlt)) fun w1 hb=> ?_;replace kb:=bl kb hb;replace Hv1:=Z9 ((uh Hv1).below hb);replace BB:=bt BB hb;clear hb c0 c1 c2 c3 c4 c5;obtain ⟨rn,hrn⟩:∃ r:Int,(Xg m.rm k:Int)=r:=⟨_,rfl⟩
   rw [hrn] at Hno Hyes ⊢;clear hrn;by_cases hr:rn=room;rotate_left
   ·have hrb:(rn ==room)=false:=by simpa using hr
    go_wp2_with fail;go_roundw
    case rel=>exact ⟨k+1,by omega,by go_num,by rw [uh Hno hr],by rw [uh Hno hr],uh kb,uh Hv1,uh BB⟩
    case measure=>exact ms
   have hrb:(rn ==room)=true:=by simpa using hr
   obtain ⟨c0,c1,c2,c3,c4,c5⟩:=(uh kb).c6;go_wp2_with fail;refine ck (U5 (k:Int) (-1) (uh Hv1) (uh HS).guilded (by have:=(uh HS).few;omega)) fun w2 hb=> ?_;replace kb:=bl kb hb;replace Hv1:=Z9 ((uh Hv1).below hb);replace BB:=bt BB hb;clear hb c0 c1 c2 c3 c4 c5;have hub:=UL m (k:Int) (-1);have hfew:=(uh HS).few;have hy:=uh Hyes hr;generalize Zu m (k:Int) (-1)=us at *;obtain ⟨_,_,hde,_,_,r3⟩:=(uh Hv1).dk;cases hde
   rcases r3 with e0 | ⟨db,off,rfl,hbw,hcl⟩
   ·rw [e0] at hlt;simp at hlt
   obtain ⟨d0,_,_⟩:=Zg hcl hlt;clear hcl;obtain ⟨op,hop⟩:=ZI ((Z8 m.dk k).1);rw [hop] at d0 hy;have Hy:=Z9 hy;clear hop hy Hno Hyes;have c3:=(uh kb).cell (i:=3) (v:= .slice (some ⟨db,off,none⟩) m.dk.length p3) rfl;cases op
   ·go_wp2_with fail
    go_roundw
    case rel=>exact ⟨k+1,by omega,by go_num,by rw [uh Hy];rfl,by rw [uh Hy],uh kb,uh Hv1,uh BB⟩
    case measure=>exact ms
   ·go_wp2_with (go_at_call 97;refine (SC _ _ _).mono ?_;rintro e w' ⟨rfl,h9⟩;subst w')
    go_roundw
    case rel=>exact ⟨k+1,by omega,by go_num,by rw [uh Hy];rfl,by rw [uh Hy],uh kb,uh Hv1,uh BB⟩
    case measure=>exact ms
  ·obtain rfl:k=m.dk.length:=by omega
   go_wp2_with fail
   go_ret2
   exact ⟨rfl,uh BB⟩
theorem J2  {r:Nat} (h:Smy w v0 v1 v2 v3 v4 m) (hS:Sane m) (hr:r<m.rm.length) :
  cB 174 #[.agg #[v0,v1,v2,v3,v4,.int .i64 m.now],.int .i64 (r:Int)] w (.int .i64 (UR m r)):=by
 have Hv:=Z9 (h.alloc (.cells #[v0,v1,v2,v3,v4,.int .i64 m.now] 39));obtain ⟨a0,p0,a1,p1,a2,p2,a3,p3,a4,p4,rfl,rfl,rfl,rfl,rfl,_,_,_,_,_,_,_,_,_,_⟩:=h.five;clear h;have HS:=Z9 hS;obtain ⟨BB0,kb0⟩:=V5 w 39 (S6 a0 p0 a1 p1 a2 p2 a3 p3 a4 p4 m);have hr1:(r:Int)<(m.rm.length:Int):=by omega
 have Hc:Hid (UR m r=QN (ZU m.rm r) (Zj m (r:Int) m.dk.length).1 (Zj m (r:Int) m.dk.length).2):=Z9 rfl;rw [uh Hc];clear Hc hS;obtain ⟨⟨n,ps⟩,hrm⟩:=ZI (ZU m.rm r);obtain ⟨mo,hmo⟩:=ZI ((Zj m (r:Int) m.dk.length).1);obtain ⟨al,hal⟩:=ZI ((Zj m (r:Int) m.dk.length).2);rw [hrm,hmo,hal];have Hrm:=Z9 hrm;have Hmo:=Z9 hmo;have Hal:=Z9 hal;clear hrm hmo hal;go_enter func174,ntmps174;go_wp2_with fail;have hu:=J3 (r:Int) (uh Hv) (uh HS);rw [uh Hmo,uh Hal] at hu;refine hu.mono ?_;clear hu;rintro e w1 ⟨rfl,hb⟩;have kb:=Z9 ((uh kb0).below hb (uh kb0).lt);replace Hv:=Z9 ((uh Hv).below hb);have BB:=Z9 ((uh BB0).trans (hb.mono (uh BB0).size));clear hb kb0 BB0;obtain ⟨_,_,hre,_,_,r0⟩:=(uh Hv).rm;cases hre
 rcases r0 with e0 | ⟨rb,off,rfl,hbw,hcl⟩
 ·rw [e0] at hr;simp at hr
 obtain ⟨d0,pv,d1,hpv⟩:=hcl r hr;rw [uh Hrm] at d0 hpv;simp only at d0 hpv;have Hpv:=Z9 hpv;obtain ⟨pa,pc,rfl,_,_,_⟩:=hpv;have c0:=(uh kb).cell (i:=0) (v:= .slice (some ⟨rb,off,none⟩) m.rm.length p0) rfl;clear hcl;go_wp2_with fail;refine ck (RA n mo al (uh Hpv)) fun w2 hb=> ?_;replace BB:=bt BB hb;clear hb;go_wp2_with fail;go_ret;exact ⟨rfl,uh BB⟩
theorem Im  (h:Smy w v0 v1 v2 v3 v4 m) (hS:Sane m) :
  cB 141 #[.agg #[v0,v1,v2,v3,v4,.int .i64 m.now]] w (.int .i64 (Re m)):=by
 have Hv:=Z9 (h.alloc (.cells #[v0,v1,v2,v3,v4,.int .i64 m.now] 39));obtain ⟨a0,p0,a1,p1,a2,p2,a3,p3,a4,p4,rfl,rfl,rfl,rfl,rfl,_,_,_,_,_,_,_,_,_,_⟩:=h.five;clear h;have HS:=Z9 hS;obtain ⟨BB0,kb0⟩:=V5 w 39 (S6 a0 p0 a1 p1 a2 p2 a3 p3 a4 p4 m);have h3:=(Zd hS.hall).2.1;have Hbd:=Z9 (QC m);clear hS;go_enter func141,ntmps141;go_wp2_with fail
 go_loopw [3,4] (fun n i wr=> ∃ k:Nat,k<=m.rm.length/\i= .int .i64 k/\n= .int .i64 (Ws m k)/\Blk wr w.heap.size 39 (S6 a0 p0 a1 p1 a2 p2 a3 p3 a4 p4 m)/\Smy wr (.slice a0 m.rm.length p0) (.slice a1 m.gd.length p1) (.slice a2 m.sm.length p2) (.slice a3 m.dk.length p3) (.slice a4 m.pc.length p4) m/\Below w.heap.size w wr) (fun _ i _=>m.rm.length-(intOf i).toNat)
 case atStart=>exact ⟨0,ZR _,rfl,rfl,uh kb0,uh Hv,uh BB0⟩
 case round=>
  obtain ⟨k,hk,rfl,rfl,hkb,hv,hb0⟩:=hrel;obtain ⟨u0,u1⟩:=uh Hbd k;obtain ⟨u2,u3⟩:=uh Hbd (k+1);have hst:Ws m (k+1)=Ws m k+UR m k:=rfl;have kb:=Z9 hkb;have Hv1:=Z9 hv;have BB:=Z9 hb0;clear hkb hv hb0 kb0 BB0 Hv;obtain ⟨c0,c1,c2,c3,c4,c5⟩:=(uh kb).c6;by_cases hlt:k<m.rm.length
  ·have hlt1:(k:Int)<(m.rm.length:Int):=by omega
   go_wp2_with fail;refine ck (J2 (uh Hv1) (uh HS) hlt) fun w1 hb=> ?_;replace kb:=bl kb hb;replace Hv1:=Z9 ((uh Hv1).below hb);replace BB:=bt BB hb;rw [hst] at u2 u3;have Hst:=Z9 hst;clear hb c0 c1 c2 c3 c4 c5 hst;generalize UR m k=ci at *;generalize Ws m k=ct at *;go_wp2_with fail;go_roundw
   case rel=>exact ⟨k+1,by omega,by go_num,by rw [uh Hst],uh kb,uh Hv1,uh BB⟩
   case measure=>exact ms
  ·obtain rfl:k=m.rm.length:=by omega
   go_wp2_with fail;go_ret;exact ⟨rfl,uh BB⟩
def Uu (x:YU):List Value:=[.iface 274 (.agg #[.int .i64 x.1,.int .i64 x.2.1,.int .i64 x.2.2])]
theorem Xj (x:YU):(Uu x).length=1:=rfl
abbrev YX (n₀:Nat) (w:World) (v:Value) (xs:List YU):Prop:=RecAt 235 1 Uu n₀ w v xs
theorem ML:(prog.info? 235).map (fun i=>(i.zero,i.size,i.bytes))=some (some .nilIface,1,16):=by kernel_rfl
theorem TX {g:Nat} {xs:List YU} (h:∀ j,j<xs.length-> ∀ i u,(Uu (Z8 xs j))[i]?=some u->w.cell? ⟨g,j*1+i,none⟩=some u) {j:Nat} (hj:j<xs.length):w.cell? ⟨g,j,none⟩=some (.iface 274 (.agg #[.int .i64 (Z8 xs j).1,.int .i64 (Z8 xs j).2.1,.int .i64 (Z8 xs j).2.2])):=by
 have:=h j hj 0 _ rfl;simpa using this
theorem QY {base t ty:Nat} (ht:prog.underlying t=some (.slice 235)) {v x:Value} {ps qs:List YU} (hown:YX base w v ps) (hx:IsRec 1 Uu w x qs) (hb:ps.length+qs.length<=4000) (hbase:base<=w.heap.size) :
  ∃ v' w',(Builtin.append_ #[t,t] ty #[v,x]).run prog w= .ok v' w'/\YX base w' v' (ps++qs)/\w.grownBy w' v.ownBlock/\(v'.ownBlock=v.ownBlock\/v'.ownBlock=some w.heap.size):=by
 obtain ⟨i0,hi,hz0,hz1,hz2⟩:=Rv ML;obtain ⟨a,c,rfl,hc,hm,hr⟩:=hx;by_cases h0:qs=[]
 ·subst h0
  refine ⟨v,w,TL ht hi hown a c,by simpa using hown,Xr _ _,.inl rfl⟩
 ·rcases hr with hr | ⟨b,off,rfl,hlt,hcl⟩
  ·exact absurd hr h0
  ·obtain ⟨v',w',hr,h2,h3,_,h5⟩:=run_append_own_at (P:=prog) w base t ty 235 i0 .nilIface 1 16 ht hi hz0 hz1 hz2 rfl (by omega) v ps.length _ hown ⟨b,off,none⟩ qs.length c (VT Uu qs) (Wx Xj qs)
    (M8 Xj (by omega) hcl) (JN (fun x u hu=>by rcases List.mem_singleton.1 hu with rfl;rfl) qs) (by simp only [maxLen];omega) (by omega) hbase
   refine ⟨v',w',hr,?_,h3,h5⟩;unfold YX RecAt;rw [Qe,List.length_append];exact h2
theorem VP {ops:Array Oper} {rest:List Oper} {o:Oper} {a:Act} {Q:Exit->Act->World->Prop} (hgd:o.guard=none) (s x:Operand) (t:TypeId) (ht:prog.underlying t=some (.slice 235))
  (ho:o.op= .call { callee:= .builtin .append,args:=#[s,x],argTypes:=#[t,t] }) (base:Nat) (v u:Value) (ps qs:List YU) (hs:a.eval s=v) (hx:a.eval x=u) (hown:YX base w v ps) (hr:IsRec 1 Uu w u qs)
  (hb:ps.length+qs.length<=4000) (hbase:base<=w.heap.size)
  (h:∀ v' w',YX base w' v' (ps++qs)->w.grownBy w' v.ownBlock->(v'.ownBlock=v.ownBlock\/v'.ownBlock=some w.heap.size)->wpList prog ops Q rest (a.put o.dst v') w') :
  wpList prog ops Q (o::rest) a w:=by
 refine wpList_plain hgd fun K hK=> ?_;obtain ⟨v',w',hrun,h2,h3,h5⟩:=QY (ty:=o.type) ht hown hr hb hbase;unfold Oper.wp execOp;simp only [ho,resolve,invoke,builtin,Sem.run_bind,Sem.run_pure,Result.andThen_ok,List.map_toArray,List.map_cons,List.map_nil,hs,hx,hrun];exact hK _ _ (h v' w' h2 h3 h5)
set_option linter.unusedSimpArgs false
theorem Qh  {k:Nat} (b:Int) (h:Smy w v0 v1 v2 v3 v4 m) (hS:Sane m) (hp:m.pc.length<=1000) (hk:k<m.sm.length) (hs:(Z8 m.sm k).1 ≠ 0) :
  cB 91 #[.agg #[v0,v1,v2,v3,v4,.int .i64 m.now],.int .i64 (k:Int),.int .i64 b] w (.int .i64 (Zt m (k:Int) b)):=by
 have Hv:=Z9 (h.alloc (.cells #[v0,v1,v2,v3,v4,.int .i64 m.now] 39));obtain ⟨a0,p0,a1,p1,a2,p2,a3,p3,a4,p4,rfl,rfl,rfl,rfl,rfl,_,_,_,_,_,_,_,_,_,_⟩:=h.five;clear h;have HF:=Z9 (hS.few' hp);have HSW:=Z9 (hS.with hk hs b);have Hc:Hid (Zt m (k:Int) b=Re (Xw m (k:Int) b)):=Z9 rfl;rw [uh Hc];have hk1:(k:Int)<(m.sm.length:Int):=by omega
 clear hS hp hs Hc;have BB0:Hid (Below w.heap.size w (w.alloc (.cells (S6 a0 p0 a1 p1 a2 p2 a3 p3 a4 p4 m) 39))):=Z9 ((ba _ _));go_enter func91,ntmps91;go_wp2_with fail;refine (U4 (uh Hv) (uh HF)).mono ?_;rintro e w1 ⟨y0,y1,y2,y3,y4,oq,rfl,ho,hb⟩;have k9:=ho.smy;obtain ⟨b0,q0,b1,q1,b2,q2,b3,q3,b4,q4,rfl,rfl,rfl,rfl,rfl,_,_,_,_,_,_,_,_,_,_⟩:=k9.five;have HO:=Z9 (ho.mono (n₁:=w.heap.size) (by simp));have BB:=Z9 ((uh BB0).trans (hb.mono (uh BB0).size));clear k9 ho hb BB0 Hv;go_upto_region 2 with fail;obtain ⟨W,hW,hba,ko⟩:=U7 w1 39 (S6 b0 q0 b1 q1 b2 q2 b3 q3 b4 q4 m);have LO:Hid (∀ i,WX (.slice b0 m.rm.length q0) (.slice b1 m.gd.length q1) (.slice b2 m.sm.length q2) (.slice b3 m.dk.length q3) (.slice b4 m.pc.length q4) oq i->w.heap.size<=i/\i<w1.heap.size):=Z9 (fun i e=>(uh HO).own e);replace HO:=Z9 ((uh HO).below hba);replace BB:=bt BB hba;clear hba;rw [hW];clear hW;generalize w1.heap.size=ob at *;obtain ⟨g2,hga,_,_,hc2,hz2⟩:=RecAt.view ZV (by omega) (uh HO).sm rfl (by omega);cases hga;have hg2o:=(uh LO g2 (.inr (.inr (.inr (.inl rfl)))))
 have s1:=hc2 k hk 1 _ rfl;have f1:=hz2 (k*11+1);have hp1:=(uh HO).putS rfl (j:=k) (i:=1) hk (by omega) (.int .i64 b) (((Z8 m.sm k).1,b,(Z8 m.sm k).2.2)) rfl;have hlen:(m.sm.set k (((Z8 m.sm k).1,b,(Z8 m.sm k).2.2))).length=m.sm.length:=by simp
 have hs1:Z8 (m.sm.set k (((Z8 m.sm k).1,b,(Z8 m.sm k).2.2))) k=(((Z8 m.sm k).1,b,(Z8 m.sm k).2.2)):=by rw [ZC hk,if_pos rfl]
 have hp2:=hp1.putS hlen.symm (j:=k) (i:=0) (by show k<(m.sm.set k _).length;omega) (by omega) (.int .i64 2) (St (Z8 m.sm k) b) (by show Zz (St (Z8 m.sm k) b)=(Zz (Z8 (m.sm.set k (((Z8 m.sm k).1,b,(Z8 m.sm k).2.2))) k)).set 0 _;rw [hs1];rfl);obtain ⟨_,hga,_,_,hc3,hz3⟩:=RecAt.view ZV (by omega) hp1.sm hlen.symm (by show 0<(m.sm.set k _).length;omega);cases hga;have s2:=hc3 k (by show k<(m.sm.set k _).length;omega) 0 _ rfl;have f2:=hz3 (k*11);have x2:=(uh ko).cell (i:=2) (v:= .slice (some ⟨g2,0,none⟩) m.sm.length q2) rfl;have x3:=((uh ko).other (a:=⟨g2,k*11+1,none⟩) (by show ob ≠ g2;omega) (.int .i64 b)).cell (i:=2) (v:= .slice (some ⟨g2,0,none⟩) m.sm.length q2) rfl;simp only [Nat.add_zero,List.set_set] at hp2 s2 f2;have hwm:({ m with sm:=m.sm.set k (St (Z8 m.sm k) b) } : Z3)=Xw m (k:Int) b:=by unfold Xw;simp
 rw [hwm] at hp2;have HP:=Z9 hp2.smy;clear hc2 hz2 hc3 hz3 hp1 hp2 hwm hs1 hlen HO;go_upto_region 4 with fail;clear s1 f1 s2 f2 x2 x3;replace ko:Hid (Blk ((W.setCell ⟨g2,k*11+1,none⟩ (.int .i64 b)).setCell ⟨g2,k*11,none⟩ (.int .i64 2)) ob 39 (S6 b0 q0 b1 q1 (some ⟨g2,0,none⟩) q2 b3 q3 b4 q4 m)):=Z9 (((uh ko).other (a:=⟨g2,k*11+1,none⟩) (by show ob ≠ g2;omega) _).other (a:=⟨g2,k*11,none⟩) (by show ob ≠ g2;omega) _);replace BB:Hid (Below w.heap.size w ((W.setCell ⟨g2,k*11+1,none⟩ (.int .i64 b)).setCell ⟨g2,k*11,none⟩ (.int .i64 2))):=Z9 (((uh BB).setCell (p:=⟨g2,k*11+1,none⟩) (by show w.heap.size<=g2;omega) _).setCell (p:=⟨g2,k*11,none⟩) (by show w.heap.size<=g2;omega) _);generalize (W.setCell ⟨g2,k*11+1,none⟩ (.int .i64 b)).setCell ⟨g2,k*11,none⟩ (.int .i64 2)=W3 at *;obtain ⟨c0,c1,c2,c3,c4,c5⟩:=(uh ko).c6;go_wp2_with fail;refine ck (Im (m:=Xw m (k:Int) b) (uh HP) (uh HSW)) fun w5 hb=> ?_;replace BB:=bt BB hb;clear hb;go_wp2_with fail;go_ret;exact ⟨rfl,uh BB⟩
theorem Calls.same_below {P:Program} {f:FuncId} {args:Array Value}  (h:Calls P f args w fun e w'=>e= .returned v/\w'=w):Calls P f args w fun e w'=>e= .returned v/\Below w.heap.size w w':=
 h.mono fun e w' ⟨he,hw⟩=>⟨he,by rw [hw];exact Z0 _ _⟩
theorem OM  {k b:Nat} (h:Smy w v0 v1 v2 v3 v4 m) (hk:k<m.sm.length) (hb:b<m.dk.length) (h7:b<=7) (y0:0<=(Z8 m.sm k).2.2.2.1) (y1:(Z8 m.sm k).2.2.2.1<=255) :
  cB 95 #[.agg #[v0,v1,v2,v3,v4,.int .i64 m.now],.int .i64 (k:Int),.int .i64 (b:Int)] w (.bool (Yi m (k:Int) b)):=by
 have hm:Yi m (k:Int) b=((Z8 m.dk b).1 && UQ (Z8 m.sm k).2.2.2.1 b):=rfl;rw [hm];clear hm;obtain ⟨a0,p0,rfl,_,_⟩:=IsRooms.shape h.rm;obtain ⟨a1,p1,rfl,_,_⟩:=IsRec.shape h.gd;obtain ⟨a4,p4,rfl,_,_⟩:=IsRec.shape h.pc;obtain ⟨a2,p2,rfl,_,_,r2⟩:=h.sm;obtain ⟨a3,p3,rfl,_,_,r3⟩:=h.dk;clear h
 rcases r2 with e0 | ⟨sb,so,rfl,hbs,hcs⟩
 ·rw [e0] at hk;simp at hk
 rcases r3 with e0 | ⟨db,dof,rfl,hbd,hcd⟩
 ·rw [e0] at hb;simp at hb
 obtain ⟨_,_,_,s3,_⟩:=ZB hcs hk;obtain ⟨d0,_,_⟩:=Zg hcd hb;have hk1:(k:Int)<(m.sm.length:Int):=by omega
 have hb1:(b:Int)<(m.dk.length:Int):=by omega
 clear hcs hcd;generalize (Z8 m.sm k).2.2.2.1=my at *;generalize (Z8 m.dk b).1=op at *;cases op
 all_goals
  go_enter func95,ntmps95;go_wp2_with (go_at_call 101;refine (MV my (b:Int) _ y0 y1 (by omega) (by omega)).mono ?_;rintro e w' ⟨rfl,h9⟩;subst w')
  go_ret;exact ⟨rfl,(ba _ _)⟩
theorem Te  (h:Smy w v0 v1 v2 v3 v4 m) (hS:Sane m) :
  cB 90 #[.agg #[v0,v1,v2,v3,v4,.int .i64 m.now]] w (.bool (XA m)):=by
 have Hv:=Z9 (h.alloc (.cells #[v0,v1,v2,v3,v4,.int .i64 m.now] 39));obtain ⟨a0,p0,a1,p1,a2,p2,a3,p3,a4,p4,rfl,rfl,rfl,rfl,rfl,_,_,_,_,_,_,_,_,_,_⟩:=h.five;clear h;obtain ⟨BB0,kb0⟩:=V5 w 39 (S6 a0 p0 a1 p1 a2 p2 a3 p3 a4 p4 m);have HS:=Z9 hS;have h8:=hS.eight;clear hS;have hyes:∀ k,k<m.dk.length->TY m k=true->XA m=true:=fun k hk hc=>List.any_eq_true.2 ⟨k,List.mem_range.2 hk,hc⟩
 have hno:(∀ k,k<m.dk.length->TY m k=false)->XA m=false:=fun hn=>by
  unfold XA;rw [List.any_eq_false];intro k hk;rw [hn k (List.mem_range.1 hk)];simp
 have Hyes:=Z9 hyes;have Hno:=Z9 hno;clear hyes hno;go_enter func90,ntmps90;go_wp2_with fail
 go_loopw [3] (fun i wr=> ∃ k:Nat,k<=m.dk.length/\i= .int .i64 k/\(∀ j,j<k->TY m j=false)/\Blk wr w.heap.size 39 (S6 a0 p0 a1 p1 a2 p2 a3 p3 a4 p4 m)/\Smy wr (.slice a0 m.rm.length p0) (.slice a1 m.gd.length p1) (.slice a2 m.sm.length p2) (.slice a3 m.dk.length p3) (.slice a4 m.pc.length p4) m/\Below w.heap.size w wr) (fun i _=>m.dk.length-(intOf i).toNat)
 case atStart=>exact ⟨0,ZR _,rfl,fun j hj=>by omega,uh kb0,uh Hv,uh BB0⟩
 case round=>
  obtain ⟨k,hk,rfl,hn,hkb,hv,hb0⟩:=hrel;have Hn:=Z9 hn;have kb:=Z9 hkb;have Hv1:=Z9 hv;have BB:=Z9 hb0;clear hkb hv hb0 kb0 BB0 Hv hn;obtain ⟨c0,c1,c2,c3,c4,c5⟩:=(uh kb).c6;by_cases hlt:k<m.dk.length
  ·have hlt1:(k:Int)<(m.dk.length:Int):=by omega
   have Hc:Hid (TY m k=((Z8 m.dk k).1 && WB (Zu m (k:Int) (-1)) (YO m.rm (k:Int)))):=Z9 rfl;obtain ⟨_,_,hde,_,_,r3⟩:=(uh Hv1).dk;cases hde
   rcases r3 with e0 | ⟨db,off,rfl,hbw,hcl⟩
   ·rw [e0] at hlt;simp at hlt
   obtain ⟨d0,_,_⟩:=Zg hcl hlt;clear hcl;have hfo:=Rg ((uh HS).bench hlt);have Hu:=Z9 (fun (W:World) (hW:Below wr.heap.size wr W)=>U5 (k:Int) (-1) ((uh Hv1).below hW) (uh HS).guilded (by have:=(uh HS).few;omega));have Hf:=Z9 (fun (W:World) (hW:Below wr.heap.size wr W)=>Tg (k:Int) ((uh Hv1).below hW).rm ((uh HS).bench hlt));rw [<-hfo] at Hf;clear hfo;generalize Zu m (k:Int) (-1)=us at *;generalize YO m.rm (k:Int)=fo at *;generalize (Z8 m.dk k).1=op at *;have y0:=Z1 c0;have y1:=Z1 c1;have y2:=Z1 c2;have y3:=Z1 c3;have y4:=Z1 c4;have y5:=Z1 c5;have z0:=Z1 d0;obtain ⟨mu,hmu⟩:=ZI (WB us fo);have Ht:=Z9 (fun (W:World)=>Calls.same_below (PZ us fo W));rw [hmu] at Hc Ht;clear hmu;cases op
   ·go_wp2_with fail
    refine wq ?_
    repeat (go_big_quiet_step (first | exact ZX (uh Hu _ (Z2 _ _ _)) | exact ZX (uh Hf _ (Z2 _ _ _)) | exact ZX (uh Ht _)))
    refine wpQuiet_nil ?_;intro _ hw';obtain ⟨⟨dq,osq⟩,hw''⟩:=hw';subst hw'';go_wp2_with fail;go_roundw
    case rel=>exact ⟨k+1,by omega,by go_num,Y4 (uh Hn) (uh Hc),(uh kb).below (Z2 _ _ _) (uh kb).lt,(uh Hv1).below (Z2 _ _ _),(uh BB).trans ((Z2 _ _ _).mono (uh BB).size)⟩
    case measure=>exact ms
   ·cases mu
    ·go_wp2_with fail
     refine wq ?_
     repeat (go_big_quiet_step (first | exact ZX (uh Hu _ (Z2 _ _ _)) | exact ZX (uh Hf _ (Z2 _ _ _)) | exact ZX (uh Ht _)))
     refine wpQuiet_nil ?_;intro _ hw';obtain ⟨⟨dq,osq⟩,hw''⟩:=hw';subst hw'';go_wp2_with fail;go_roundw
     case rel=>exact ⟨k+1,by omega,by go_num,Y4 (uh Hn) (uh Hc),(uh kb).below (Z2 _ _ _) (uh kb).lt,(uh Hv1).below (Z2 _ _ _),(uh BB).trans ((Z2 _ _ _).mono (uh BB).size)⟩
     case measure=>exact ms
    ·go_wp2_with fail
     refine wq ?_
     repeat (go_big_quiet_step (first | exact ZX (uh Hu _ (Z2 _ _ _)) | exact ZX (uh Hf _ (Z2 _ _ _)) | exact ZX (uh Ht _)))
     refine wpQuiet_nil ?_;intro _ hw';obtain ⟨⟨dq,osq⟩,hw''⟩:=hw';subst hw'';go_wp2_with fail;go_ret;exact ⟨Z5 (uh Hyes k hlt (uh Hc)).symm,(uh BB).trans ((Z2 _ _ _).mono (uh BB).size)⟩
  ·obtain rfl:k=m.dk.length:=by omega
   go_wp2_with fail;go_ret;exact ⟨Z5 (uh Hno (uh Hn)).symm,uh BB⟩
structure PC (m:Z3) (k:Nat):Prop where
 lt:k<m.sm.length
 st:(Z8 m.sm k).1 ≠ 0
 y0:0<=(Z8 m.sm k).2.2.2.1
 y1:(Z8 m.sm k).2.2.2.1<=255
theorem D3 {who:Int} {k:Nat} (h:Qd m who k=false):VM m who (k+1)=VM m who k:=by show (if _ then _ else _)=_;rw [h];rfl
theorem Fu {who:Int} {k:Nat} (h:Qd m who k=true):VM m who (k+1)=VM m who k++[(k:Int)]:=by show (if _ then _ else _)=_;rw [h];rfl
theorem Tf  {who:Nat} (h:Smy w v0 v1 v2 v3 v4 m) (hS:Sane m) (hA:PC m who) :
  Calls prog 89 #[.agg #[v0,v1,v2,v3,v4,.int .i64 m.now],.int .i64 (who:Int)] w fun e w'=> ∃ v',e= .returned v'/\NumsAt w.heap.size w' v' (Zc m (who:Int))/\Below w.heap.size w w':=by
 have Hv:=Z9 (h.alloc (.cells #[v0,v1,v2,v3,v4,.int .i64 m.now] 39));obtain ⟨a0,p0,a1,p1,a2,p2,a3,p3,a4,p4,rfl,rfl,rfl,rfl,rfl,_,_,_,_,_,_,_,_,_,_⟩:=h.five;have HW:=Z9 h;clear h;obtain ⟨BB0,kb0⟩:=V5 w 39 (S6 a0 p0 a1 p1 a2 p2 a3 p3 a4 p4 m);have HS:=Z9 hS;have HA:=Z9 hA;have h8:=hS.eight;clear hS hA;have kb1:Hid (Blk ((w.alloc (.cells (S6 a0 p0 a1 p1 a2 p2 a3 p3 a4 p4 m) 39)).alloc (.cells #[] 2)) w.heap.size 39 (S6 a0 p0 a1 p1 a2 p2 a3 p3 a4 p4 m)):=Z9 ((uh kb0).alloc _);have BB1:Hid (Below w.heap.size w ((w.alloc (.cells (S6 a0 p0 a1 p1 a2 p2 a3 p3 a4 p4 m) 39)).alloc (.cells #[] 2))):=Z9 ((uh BB0).alloc (uh BB0).size _);have Hv0:=Z9 ((uh Hv).alloc (.cells #[] 2));have E0:Hid (NumsAt (w.heap.size+1) ((w.alloc (.cells (S6 a0 p0 a1 p1 a2 p2 a3 p3 a4 p4 m) 39)).alloc (.cells #[] 2)) (.slice (some ⟨w.heap.size+1,0,none⟩) 0 0) []):=Z9 (Zh (by simp) (by simp));clear kb0 BB0 Hv;go_enter func89,ntmps89;go_wp2_with fail
 go_loopw [5,6] (fun l i wr=> ∃ k:Nat,k<=m.dk.length/\i= .int .i64 k/\NumsAt (w.heap.size+1) wr l (VM m (who:Int) k)/\Blk wr w.heap.size 39 (S6 a0 p0 a1 p1 a2 p2 a3 p3 a4 p4 m)/\Smy wr (.slice a0 m.rm.length p0) (.slice a1 m.gd.length p1) (.slice a2 m.sm.length p2) (.slice a3 m.dk.length p3) (.slice a4 m.pc.length p4) m/\Below w.heap.size w wr) (fun _ i _=>m.dk.length-(intOf i).toNat)
 case atStart=>exact ⟨0,ZR _,rfl,uh E0,uh kb1,uh Hv0,uh BB1⟩
 case round=>
  obtain ⟨k,hk,rfl,hl,hkb,hv,hb0⟩:=hrel;obtain ⟨la,lc,rfl⟩:=RecAt.shape hl;have HL:=Z9 hl;have kb:=Z9 hkb;have Hv1:=Z9 hv;have BB:=Z9 hb0;have hbl:=(uh kb).lt;have hfl:=QE m (who:Int) k;clear hkb hv hb0 kb1 BB1 Hv0 E0 hl;obtain ⟨c0,c1,c2,c3,c4,c5⟩:=(uh kb).c6;by_cases hlt:k<m.dk.length
  ·have hlt1:(k:Int)<(m.dk.length:Int):=by omega
   have Hc:Hid (Qd m (who:Int) k=(Yi m (who:Int) k && Vg (Zy m (who:Int)) (Zu m (k:Int) (who:Int)) (YO m.rm (k:Int)))):=Z9 rfl;have Hno:=Z9 (fun hh=>D3 (m:=m) (who:=(who:Int)) (k:=k) hh);have Hyes:=Z9 (fun hh=>Fu (m:=m) (who:=(who:Int)) (k:=k) hh);have hfo:=Rg ((uh HS).bench hlt);have Hma:=Z9 (fun (W:World) (hW:Below wr.heap.size wr W)=>OM ((uh Hv1).below hW) (uh HA).lt hlt (by omega) (uh HA).y0 (uh HA).y1);have Hwa:=Z9 (fun (W:World) (hW:Below wr.heap.size wr W)=>Qg ((uh Hv1).below hW) (uh HS).guilded.gd (uh HA).lt ((uh HS).guilded.lo who (uh HA).lt (uh HA).st) ((uh HS).guilded.hi who (uh HA).lt (uh HA).st));have Hu:=Z9 (fun (W:World) (hW:Below wr.heap.size wr W)=>U5 (k:Int) (who:Int) ((uh Hv1).below hW) (uh HS).guilded (by have:=(uh HS).few;omega));have Hf:=Z9 (fun (W:World) (hW:Below wr.heap.size wr W)=>Tg (k:Int) ((uh Hv1).below hW).rm ((uh HS).bench hlt));rw [<-hfo] at Hf;clear hfo;have Ht:=Z9 (fun (W:World)=>Calls.same_below (Pf (Zy m (who:Int)) (Zu m (k:Int) (who:Int)) (YO m.rm (k:Int)) W));generalize Yi m (who:Int) k=ma at *;generalize Zy m (who:Int)=wa at *;generalize Zu m (k:Int) (who:Int)=us at *;generalize YO m.rm (k:Int)=fo at *;generalize Vg wa us fo=fi at *;have y0:=Z1 c0;have y1:=Z1 c1;have y2:=Z1 c2;have y3:=Z1 c3;have y4:=Z1 c4;have y5:=Z1 c5;cases ma
   ·go_wp2_with fail
    refine wq ?_
    repeat (go_big_quiet_step (first | exact ZX (uh Hma _ (Z2 _ _ _)) | exact ZX (uh Hwa _ (Z2 _ _ _)) | exact ZX (uh Hu _ (Z2 _ _ _)) | exact ZX (uh Hf _ (Z2 _ _ _)) | exact ZX (uh Ht _)))
    refine wpQuiet_nil ?_;intro _ hw';obtain ⟨⟨dq,osq⟩,hw''⟩:=hw';subst hw'';go_wp2_with fail;go_roundw
    case rel=>exact ⟨k+1,by omega,by go_num,by rw [uh Hno (uh Hc)];exact RecAt.later (uh HL) (Z2 _ _ _),(uh kb).below (Z2 _ _ _) (uh kb).lt,(uh Hv1).below (Z2 _ _ _),(uh BB).trans ((Z2 _ _ _).mono (uh BB).size)⟩
    case measure=>exact ms
   cases fi
   ·go_wp2_with fail
    refine wq ?_
    repeat (go_big_quiet_step (first | exact ZX (uh Hma _ (Z2 _ _ _)) | exact ZX (uh Hwa _ (Z2 _ _ _)) | exact ZX (uh Hu _ (Z2 _ _ _)) | exact ZX (uh Hf _ (Z2 _ _ _)) | exact ZX (uh Ht _)))
    refine wpQuiet_nil ?_;intro _ hw';obtain ⟨⟨dq,osq⟩,hw''⟩:=hw';subst hw'';go_wp2_with fail;go_roundw
    case rel=>exact ⟨k+1,by omega,by go_num,by rw [uh Hno (uh Hc)];exact RecAt.later (uh HL) (Z2 _ _ _),(uh kb).below (Z2 _ _ _) (uh kb).lt,(uh Hv1).below (Z2 _ _ _),(uh BB).trans ((Z2 _ _ _).mono (uh BB).size)⟩
    case measure=>exact ms
   ·go_wp2_with fail
    refine wq ?_
    repeat (go_big_quiet_step (first | exact ZX (uh Hma _ (Z2 _ _ _)) | exact ZX (uh Hwa _ (Z2 _ _ _)) | exact ZX (uh Hu _ (Z2 _ _ _)) | exact ZX (uh Hf _ (Z2 _ _ _)) | exact ZX (uh Ht _)))
    refine wpQuiet_nil ?_;intro _ hw';obtain ⟨⟨dq,osq⟩,hw''⟩:=hw';subst hw'';clear c0 c1 c2 c3 c4 c5 y0 y1 y2 y3 y4 y5 Hma Hwa Hu Hf Ht;have hb9:=Z2 wr dq osq;replace HL:=Z9 (RecAt.later (uh HL) hb9);replace kb:=Z9 ((uh kb).below hb9 (uh kb).lt);replace Hv1:=Z9 ((uh Hv1).below hb9);replace BB:=Z9 ((uh BB).trans (hb9.mono (uh BB).size));clear hb9;generalize grow (redrawn wr dq) osq=X at *;have hsx:=(uh BB).size;go_wp2_with (at_builtin;refine ZN tyN rfl (.tmp 33) (.tmp 35) 28 underlying28 rfl (w.heap.size+1) _ _ (VM m (who:Int) k) [(k:Int)] rfl rfl (RecAt.later (uh HL) ((ba _ _))) (Wa (k:Int) rfl (ZY _) (by omega)) (by simp;omega) (by simp;omega) ?_;intro u9 w9 hp9 hg9 hat9;have HP9:=Z9 hp9;have HG9:=Z9 hg9;clear hp9 hg9 hat9)
    have hlx:=(uh kb).lt;have hgo:∀ i,(Value.slice la (VM m (who:Int) k).length lc).ownBlock=some i->w.heap.size+1<=i:=fun i e=>(RecAt.lt (uh HL) e).1;have hb9:Below (w.heap.size+1) X w9:=((Z0 _ _).alloc hlx _).trans ((Z0 _ _).grown (uh HG9) (by simp;omega) hgo);have hb8:=(uh BB).trans (hb9.mono (Nat.le_succ _));go_wp2_with fail;go_roundw
    case rel=>exact ⟨k+1,by omega,by go_num,by rw [uh Hyes (uh Hc)];exact uh HP9,(uh kb).below hb9 (Nat.lt_succ_self _),(uh HW).below hb8,hb8⟩
    case measure=>exact ms
  ·obtain rfl:k=m.dk.length:=by omega
   go_wp2_with fail;go_ret;exact ⟨_,rfl,RecAt.mono (uh HL) (Nat.le_succ _),uh BB⟩
theorem Dr {g:Nat} {zs:List Int} (h:∀ j,j<zs.length-> ∀ i u,(VS (Z8 zs j))[i]?=some u->w.cell? ⟨g,j*1+i,none⟩=some u) {j:Nat} (hj:j<zs.length):w.cell? ⟨g,j,none⟩=some (.int .i64 (Z8 zs j)):=by
 have:=h j hj 0 _ rfl;simpa using this
theorem Jz {who:Int} (h:XA m=true\/(XA m=false/\(Zc m who).length=0)):YL m who=(Y8 m who m.dk.length).1:=by
 unfold YL
 rcases h with e | ⟨e,e'⟩
 ·rw [e];rfl
 ·rw [e,e'];rfl
theorem Jy {who:Int} (h:XA m=false) (h':0<(Zc m who).length):YL m who=(X8 m who (Zc m who) (Zc m who).length).1:=by
 unfold YL;rw [h,decide_eq_true h'];rfl
theorem Iy {who:Int} {k:Nat} (hm:Yi m who k=true) (h:(Y8 m who k).1<0\/(Y8 m who k).2<Yr (Zu m k who) (YO m.rm k)):Y8 m who (k+1)=((k:Int),Yr (Zu m k who) (YO m.rm k)):=by
 show (if _ then _ else _)=_;rw [hm]
 rcases h with h | h
 ·rw [decide_eq_true h];rfl
 ·rw [decide_eq_true h,Bool.or_true];rfl
theorem FE {who:Int} {k:Nat} (h:Yi m who k=false\/(¬ (Y8 m who k).1<0/\ ¬ (Y8 m who k).2<Yr (Zu m k who) (YO m.rm k))):Y8 m who (k+1)=Y8 m who k:=by
 show (if _ then _ else _)=_
 rcases h with h | ⟨h,h'⟩
 ·rw [h];rfl
 ·rw [decide_eq_false h,decide_eq_false h',Bool.or_false,Bool.and_false];rfl
theorem Od {who:Int} {f:List Int} : X8 m who f 1=(Z8 f 0,Zt m who (Z8 f 0)):=by
 cases f<;>rfl
theorem P8 {who:Int} {f:List Int} {k:Nat} (h1:1<=k) (hk:k<f.length):X8 m who f (k+1)=XD m who (X8 m who f k) (Z8 f k):=by
 unfold X8
 have e:f.take (k+1)=f.take k++[Z8 f k]:=by
  rw [List.take_add_one,List.getElem?_eq_getElem hk,UF hk];rfl
 rw [e,List.drop_append_of_le_length (by simp;omega),List.foldl_append];rfl
theorem GU {who:Nat} {f:List Int} {k:Nat} (h1:1<=k) (hk:k<f.length) (h:Zt m (who:Int) (Z8 f k)<(X8 m (who:Int) f k).2\/(Zt m (who:Int) (Z8 f k)=(X8 m (who:Int) f k).2/\Z8 f k=(Z8 m.sm who).2.1)):X8 m (who:Int) f (k+1)=(Z8 f k,Zt m (who:Int) (Z8 f k)):=by
 rw [P8 h1 hk];unfold XD;exact if_pos h
theorem Fj {who:Nat} {f:List Int} {k:Nat} (h1:1<=k) (hk:k<f.length) (h:¬ (Zt m (who:Int) (Z8 f k)<(X8 m (who:Int) f k).2\/(Zt m (who:Int) (Z8 f k)=(X8 m (who:Int) f k).2/\Z8 f k=(Z8 m.sm who).2.1))):X8 m (who:Int) f (k+1)=X8 m (who:Int) f k:=by
 rw [P8 h1 hk];unfold XD;exact if_neg h
theorem Si  {who:Nat} (h:Smy w v0 v1 v2 v3 v4 m) (hS:Sane m) (hp:m.pc.length<=1000) (hA:PC m who) :
  cB 57 #[.agg #[v0,v1,v2,v3,v4,.int .i64 m.now],.int .i64 (who:Int)] w (.int .i64 (YL m (who:Int))):=by
 have Hv:=Z9 (h.alloc (.cells #[v0,v1,v2,v3,v4,.int .i64 m.now] 39));obtain ⟨a0,p0,a1,p1,a2,p2,a3,p3,a4,p4,rfl,rfl,rfl,rfl,rfl,_,_,_,_,_,_,_,_,_,_⟩:=h.five;clear h;obtain ⟨BB0,kb0⟩:=V5 w 39 (S6 a0 p0 a1 p1 a2 p2 a3 p3 a4 p4 m);have HS:=Z9 hS;have HA:=Z9 hA;have HP:=Z9 hp;have h8:=hS.eight;clear hS hA hp;obtain ⟨c0,c1,c2,c3,c4,c5⟩:=(uh kb0).c6
 have hX:(XA m=true\/(XA m=false/\(Zc m (who:Int)).length=0))\/(XA m=false/\0<(Zc m (who:Int)).length):=by
  cases XA m
  ·by_cases h0:(Zc m (who:Int)).length=0
   ·exact .inl (.inr ⟨rfl,h0⟩)
   ·exact .inr ⟨rfl,by omega⟩
  ·exact .inl (.inl rfl)
 rcases hX with hX | ⟨hcr,hle⟩
 ·rw [Jz hX]
  rcases hX with hcr | ⟨hcr,hle⟩
  all_goals
   go_enter func57,ntmps57;go_wp2_with (first | (go_at_call 89;refine (Tf (uh Hv) (uh HS) (uh HA)).mono ?_;rintro e w1 ⟨fv,rfl,hf1,hb1⟩;obtain ⟨la,lc,rfl⟩:=RecAt.shape hf1;have HF:=Z9 hf1;have B1:=Z9 hb1;have kb1:=Z9 ((uh kb0).below hb1 (uh kb0).lt);have Hv1:=Z9 ((uh Hv).below hb1);have BB1:=Z9 ((uh BB0).trans (hb1.mono (uh BB0).size));clear hf1 hb1 kb0 Hv BB0 B1 c0 c1 c2 c3 c4 c5;have d0:=(uh kb1).cell (i:=0) (v:= .slice a0 m.rm.length p0) rfl;have d1:=(uh kb1).cell (i:=1) (v:= .slice a1 m.gd.length p1) rfl;have d2:=(uh kb1).cell (i:=2) (v:= .slice a2 m.sm.length p2) rfl;have d3:=(uh kb1).cell (i:=3) (v:= .slice a3 m.dk.length p3) rfl;have d4:=(uh kb1).cell (i:=4) (v:= .slice a4 m.pc.length p4) rfl;have d5:=(uh kb1).cell (i:=5) (v:= .int .i64 m.now) rfl) | (go_at_call 90;refine (Te (uh Hv1) (uh HS)).mono ?_;rintro e w2 ⟨he,hb2⟩;rw [hcr] at he;subst he;have B2:=Z9 hb2;clear hb2) | fail)
   have kb2:=Z9 ((uh kb1).below (uh B2) (uh kb1).lt);have Hv2:=Z9 ((uh Hv1).below (uh B2));have BB2:=Z9 ((uh BB1).trans ((uh B2).mono (uh BB1).size));clear kb1 Hv1 BB1 B2 d0 d1 d2 d3 d4 d5 HF
   go_loopw [10,11,12] (fun bv mv i wr=> ∃ k:Nat,k<=m.dk.length/\bv= .int .i64 (Y8 m (who:Int) k).1/\mv= .int .i64 (Y8 m (who:Int) k).2/\i= .int .i64 k/\Blk wr w.heap.size 39 (S6 a0 p0 a1 p1 a2 p2 a3 p3 a4 p4 m)/\Smy wr (.slice a0 m.rm.length p0) (.slice a1 m.gd.length p1) (.slice a2 m.sm.length p2) (.slice a3 m.dk.length p3) (.slice a4 m.pc.length p4) m/\Below w.heap.size w wr) (fun _ _ i _=>m.dk.length-(intOf i).toNat)
   case atStart=>exact ⟨0,ZR _,rfl,rfl,rfl,uh kb2,uh Hv2,uh BB2⟩
   case round=>
    obtain ⟨k,hk,rfl,rfl,rfl,hkb,hv,hb0⟩:=hrel;have kb:=Z9 hkb;have Hv3:=Z9 hv;have BB:=Z9 hb0;clear hkb hv hb0 kb2 BB2 Hv2;obtain ⟨e0,e1,e2,e3,e4,e5⟩:=(uh kb).c6;by_cases hlt:k<m.dk.length
    ·have hlt1:(k:Int)<(m.dk.length:Int):=by omega
     have Hno:=Z9 (fun hh=>FE (m:=m) (who:=(who:Int)) (k:=k) hh);have Hyes:=Z9 (fun ha hh=>Iy (m:=m) (who:=(who:Int)) (k:=k) ha hh);have hfo:=Rg ((uh HS).bench hlt);have Hma:=Z9 (fun (W:World) (hW:Below wr.heap.size wr W)=>OM ((uh Hv3).below hW) (uh HA).lt hlt (by omega) (uh HA).y0 (uh HA).y1);have Hu:=Z9 (fun (W:World) (hW:Below wr.heap.size wr W)=>U5 (k:Int) (who:Int) ((uh Hv3).below hW) (uh HS).guilded (by have:=(uh HS).few;omega));have Hf:=Z9 (fun (W:World) (hW:Below wr.heap.size wr W)=>Tg (k:Int) ((uh Hv3).below hW).rm ((uh HS).bench hlt));rw [<-hfo] at Hf;clear hfo;have Ht:=Z9 (fun (W:World)=>Calls.same_below (PY (Zu m (k:Int) (who:Int)) (YO m.rm (k:Int)) W));generalize Yi m (who:Int) k=ma at *;generalize Zu m (k:Int) (who:Int)=us at *;generalize YO m.rm (k:Int)=fo at *;generalize Yr us fo=sp at *;obtain ⟨bt,hbt⟩:=ZI ((Y8 m (who:Int) k).1);obtain ⟨mt,hmt⟩:=ZI ((Y8 m (who:Int) k).2);rw [hbt,hmt] at Hno Hyes;rw [hbt,hmt];have Hbt:=Z9 hbt;have Hmt:=Z9 hmt;clear hbt hmt;have y0:=Z1 e0;have y1:=Z1 e1;have y2:=Z1 e2;have y3:=Z1 e3;have y4:=Z1 e4;have y5:=Z1 e5;cases ma
     ·go_wp2_with fail
      refine wq ?_
      repeat (go_big_quiet_step (first | exact ZX (uh Hu _ (Z2 _ _ _)) | exact ZX (uh Hf _ (Z2 _ _ _)) | exact ZX (uh Ht _)))
      refine wpQuiet_nil ?_;intro _ hw';obtain ⟨⟨dq,osq⟩,hw''⟩:=hw';subst hw'';go_wp2_with (go_at_call 95;refine (uh Hma _ (Z2 _ _ _)).mono ?_;rintro e w5 ⟨rfl,hb5⟩;have HX:=Z9 ((Z2 wr dq osq).trans (hb5.mono (Z2 _ _ _).size));clear hb5)
      go_roundw
      case rel=>exact ⟨k+1,by omega,by rw [uh Hno (.inl (by simp)),uh Hbt],by rw [uh Hno (.inl (by simp)),uh Hmt],by go_num,(uh kb).below (uh HX) (uh kb).lt,(uh Hv3).below (uh HX),(uh BB).trans ((uh HX).mono (uh BB).size)⟩
      case measure=>exact ms
     by_cases hb1:bt<0
     ·go_wp2_with fail
      refine wq ?_
      repeat (go_big_quiet_step (first | exact ZX (uh Hu _ (Z2 _ _ _)) | exact ZX (uh Hf _ (Z2 _ _ _)) | exact ZX (uh Ht _)))
      refine wpQuiet_nil ?_;intro _ hw';obtain ⟨⟨dq,osq⟩,hw''⟩:=hw';subst hw'';go_wp2_with (go_at_call 95;refine (uh Hma _ (Z2 _ _ _)).mono ?_;rintro e w5 ⟨rfl,hb5⟩;have HX:=Z9 ((Z2 wr dq osq).trans (hb5.mono (Z2 _ _ _).size));clear hb5)
      go_roundw
      case rel=>exact ⟨k+1,by omega,by rw [uh Hyes (by simp) (.inl hb1)],by rw [uh Hyes (by simp) (.inl hb1)],by go_num,(uh kb).below (uh HX) (uh kb).lt,(uh Hv3).below (uh HX),(uh BB).trans ((uh HX).mono (uh BB).size)⟩
      case measure=>exact ms
     by_cases hb2:mt<sp
     ·go_wp2_with fail
      refine wq ?_
      repeat (go_big_quiet_step (first | exact ZX (uh Hu _ (Z2 _ _ _)) | exact ZX (uh Hf _ (Z2 _ _ _)) | exact ZX (uh Ht _)))
      refine wpQuiet_nil ?_;intro _ hw';obtain ⟨⟨dq,osq⟩,hw''⟩:=hw';subst hw'';go_wp2_with (go_at_call 95;refine (uh Hma _ (Z2 _ _ _)).mono ?_;rintro e w5 ⟨rfl,hb5⟩;have HX:=Z9 ((Z2 wr dq osq).trans (hb5.mono (Z2 _ _ _).size));clear hb5)
      go_roundw
      case rel=>exact ⟨k+1,by omega,by rw [uh Hyes (by simp) (.inr hb2)],by rw [uh Hyes (by simp) (.inr hb2)],by go_num,(uh kb).below (uh HX) (uh kb).lt,(uh Hv3).below (uh HX),(uh BB).trans ((uh HX).mono (uh BB).size)⟩
      case measure=>exact ms
     ·go_wp2_with fail
      refine wq ?_
      repeat (go_big_quiet_step (first | exact ZX (uh Hu _ (Z2 _ _ _)) | exact ZX (uh Hf _ (Z2 _ _ _)) | exact ZX (uh Ht _)))
      refine wpQuiet_nil ?_;intro _ hw';obtain ⟨⟨dq,osq⟩,hw''⟩:=hw';subst hw'';go_wp2_with (go_at_call 95;refine (uh Hma _ (Z2 _ _ _)).mono ?_;rintro e w5 ⟨rfl,hb5⟩;have HX:=Z9 ((Z2 wr dq osq).trans (hb5.mono (Z2 _ _ _).size));clear hb5)
      go_roundw
      case rel=>exact ⟨k+1,by omega,by rw [uh Hno (.inr ⟨by omega,by omega⟩),uh Hbt],by rw [uh Hno (.inr ⟨by omega,by omega⟩),uh Hmt],by go_num,(uh kb).below (uh HX) (uh kb).lt,(uh Hv3).below (uh HX),(uh BB).trans ((uh HX).mono (uh BB).size)⟩
      case measure=>exact ms
    ·obtain rfl:k=m.dk.length:=by omega
     go_wp2_with fail;go_ret;exact ⟨rfl,uh BB⟩
 ·rw [Jy hcr hle]
  have hlb:(Zc m (who:Int)).length<=m.dk.length:=QE m (who:Int) m.dk.length;generalize hL:Zc m (who:Int)=L at *;go_enter func57,ntmps57;go_wp2_with (first | (go_at_call 89;refine (Tf (uh Hv) (uh HS) (uh HA)).mono ?_;rintro e w1 ⟨fv,rfl,hf1,hb1⟩;rw [hL] at hf1;obtain ⟨la,lc,rfl⟩:=RecAt.shape hf1;obtain ⟨g,rfl,_,g1,hgc,_⟩:=RecAt.view Yd (by omega) hf1 rfl hle;have C1:=Z9 (fun j hj=>Dr hgc (j:=j) hj);have kb1:=Z9 ((uh kb0).below hb1 (uh kb0).lt);have Hv1:=Z9 ((uh Hv).below hb1);have BB1:=Z9 ((uh BB0).trans (hb1.mono (uh BB0).size));clear hf1 hb1 hgc kb0 Hv BB0 c0 c1 c2 c3 c4 c5;have d0:=(uh kb1).cell (i:=0) (v:= .slice a0 m.rm.length p0) rfl;have d1:=(uh kb1).cell (i:=1) (v:= .slice a1 m.gd.length p1) rfl;have d2:=(uh kb1).cell (i:=2) (v:= .slice a2 m.sm.length p2) rfl;have d3:=(uh kb1).cell (i:=3) (v:= .slice a3 m.dk.length p3) rfl;have d4:=(uh kb1).cell (i:=4) (v:= .slice a4 m.pc.length p4) rfl;have d5:=(uh kb1).cell (i:=5) (v:= .int .i64 m.now) rfl) | (go_at_call 90;refine (Te (uh Hv1) (uh HS)).mono ?_;rintro e w2 ⟨he,hb2⟩;rw [hcr] at he;subst he;have kb2:=Z9 ((uh kb1).below hb2 (uh kb1).lt);have Hv2:=Z9 ((uh Hv1).below hb2);have BB2:=Z9 ((uh BB1).trans (hb2.mono (uh BB1).size));have C2:=Z9 (fun j hj=>(hb2.cell (p:=⟨g,j,none⟩) g1).trans (uh C1 j hj));have g2:=ZD g1 hb2.size;clear hb2 kb1 Hv1 BB1 C1 g1 d0 d1 d2 d3 d4 d5;have d0:=(uh kb2).cell (i:=0) (v:= .slice a0 m.rm.length p0) rfl;have d1:=(uh kb2).cell (i:=1) (v:= .slice a1 m.gd.length p1) rfl;have d2:=(uh kb2).cell (i:=2) (v:= .slice a2 m.sm.length p2) rfl;have d3:=(uh kb2).cell (i:=3) (v:= .slice a3 m.dk.length p3) rfl;have d4:=(uh kb2).cell (i:=4) (v:= .slice a4 m.pc.length p4) rfl;have d5:=(uh kb2).cell (i:=5) (v:= .int .i64 m.now) rfl;have x0:=uh C2 0 hle) | (go_at_call 91;refine (Qh _ (uh Hv2) (uh HS) (uh HP) (uh HA).lt (uh HA).st).mono ?_;rintro e w3 ⟨rfl,hb3⟩;have B3:=Z9 hb3;clear hb3) | fail)
  have kb3:=Z9 ((uh kb2).below (uh B3) (uh kb2).lt);have Hv3:=Z9 ((uh Hv2).below (uh B3));have BB3:=Z9 ((uh BB2).trans ((uh B3).mono (uh BB2).size));have C3:=Z9 (fun j hj=>((uh B3).cell (p:=⟨g,j,none⟩) g2).trans (uh C2 j hj));have g3:=ZD g2 (uh B3).size;clear kb2 Hv2 BB2 B3 C2 g2 d0 d1 d2 d3 d4 d5 x0
  go_loopw [6,7,8] (fun bv lv i wr=> ∃ k:Nat,1<=k/\k<=L.length/\bv= .int .i64 (X8 m (who:Int) L k).1/\lv= .int .i64 (X8 m (who:Int) L k).2/\i= .int .i64 k/\(∀ j,j<L.length->wr.cell? ⟨g,j,none⟩=some (.int .i64 (Z8 L j)))/\g<wr.heap.size/\Blk wr w.heap.size 39 (S6 a0 p0 a1 p1 a2 p2 a3 p3 a4 p4 m)/\Smy wr (.slice a0 m.rm.length p0) (.slice a1 m.gd.length p1) (.slice a2 m.sm.length p2) (.slice a3 m.dk.length p3) (.slice a4 m.pc.length p4) m/\Below w.heap.size w wr) (fun _ _ i _=>L.length-(intOf i).toNat)
  case atStart=>exact ⟨1,ZY _,by omega,by rw [Od],by rw [Od],rfl,uh C3,g3,uh kb3,uh Hv3,uh BB3⟩
  case round=>
   obtain ⟨k,hk1,hk,rfl,rfl,rfl,hc,hg,hkb,hv,hb0⟩:=hrel;have HC:=Z9 hc;have kb:=Z9 hkb;have Hv4:=Z9 hv;have BB:=Z9 hb0;clear hkb hv hb0 kb3 BB3 Hv3 hc C3 g3;obtain ⟨e0,e1,e2,e3,e4,e5⟩:=(uh kb).c6;by_cases hlt:k<L.length
   ·have hlt1:(k:Int)<(L.length:Int):=by omega
    have x0:=uh HC k hlt;obtain ⟨_,_,hse,_,_,r2⟩:=(uh Hv4).sm;cases hse;have hwl:=(uh HA).lt
    rcases r2 with e0 | ⟨sb,so,rfl,hbs,hcs⟩
    ·rw [e0] at hwl;simp at hwl
    obtain ⟨_,s1,_⟩:=ZB hcs hwl;clear hcs;have hwl1:(who:Int)<(m.sm.length:Int):=by omega
    have Hno:=Z9 (fun hh=>Fj (m:=m) (who:=who) (k:=k) hk1 hlt hh);have Hyes:=Z9 (fun hh=>GU (m:=m) (who:=who) (k:=k) hk1 hlt hh);have Hw:=Z9 (fun (W:World) (hW:Below wr.heap.size wr W)=>Qh (Z8 L k) ((uh Hv4).below hW) (uh HS) (uh HP) (uh HA).lt (uh HA).st);generalize Zt m (who:Int) (Z8 L k)=n at *;generalize Z8 L k=x at *;generalize (Z8 m.sm who).2.1=y at *;obtain ⟨bt,hbt⟩:=ZI ((X8 m (who:Int) L k).1);obtain ⟨lt,hmt⟩:=ZI ((X8 m (who:Int) L k).2);rw [hmt] at Hno Hyes;rw [hbt,hmt];have Hbt:=Z9 hbt;have Hmt:=Z9 hmt;clear hbt hmt;have y0:=Z1 e0;have y1:=Z1 e1;have y2:=Z1 e2;have y3:=Z1 e3;have y4:=Z1 e4;have y5:=Z1 e5;have z0:=Z1 x0;have z1:=Z1 s1;go_wp2_with fail;refine wq ?_
    repeat (go_big_quiet_step (first | exact ZX (uh Hw _ (Z2 _ _ _))))
    refine wpQuiet_nil ?_;intro _ hw';obtain ⟨⟨dq,osq⟩,hw''⟩:=hw';subst hw'';go_wp2_with fail;have hX:=Z9 (Z2 wr dq osq);have q0:=y0 dq osq;have q1:=y1 dq osq;have q2:=y2 dq osq;have q3:=y3 dq osq;have q4:=y4 dq osq;have q5:=y5 dq osq;have r0:=z0 dq osq;have r1:=z1 dq osq;clear z0 z1 x0 s1 y0 y1 y2 y3 y4 y5 e0 e1 e2 e3 e4 e5 Hw;have HC2:=Z9 (fun j hj=>((uh hX).cell (p:=⟨g,j,none⟩) hg).trans (uh HC j hj));have hg2:=ZD hg (uh hX).size;have kb9:=Z9 ((uh kb).below (uh hX) (uh kb).lt);have Hv9:=Z9 ((uh Hv4).below (uh hX));have BB9:=Z9 ((uh BB).trans ((uh hX).mono (uh BB).size));clear HC hg kb Hv4 BB hX hbs;generalize grow (redrawn wr dq) osq=X at *;have r2:=Z1 r0;have r3:=Z1 r1;have t0:=Z1 q0;have t1:=Z1 q1;have t2:=Z1 q2;have t3:=Z1 q3;have t4:=Z1 q4;have t5:=Z1 q5;by_cases hn:n<lt
    ·refine wq ?_
     repeat (go_big_quiet_step (fail))
     refine wpQuiet_nil ?_;intro _ hw';obtain ⟨⟨dq,osq⟩,hw''⟩:=hw';subst hw'';go_wp2_with fail;go_roundw
     case rel=>exact ⟨k+1,by omega,by omega,by rw [uh Hyes (by omega)],by rw [uh Hyes (by omega)],by go_num,fun j hj=>((Z2 X dq osq).cell (p:=⟨g,j,none⟩) hg2).trans (uh HC2 j hj),ZD hg2 (Z2 X dq osq).size,(uh kb9).below (Z2 X dq osq) (uh kb9).lt,(uh Hv9).below (Z2 X dq osq),(uh BB9).trans ((Z2 X dq osq).mono (uh BB9).size)⟩
     case measure=>exact ms
    by_cases he:n=lt
    ·subst he
     by_cases hxy:x=y
     ·subst hxy
      refine wq ?_
      repeat (go_big_quiet_step (fail))
      refine wpQuiet_nil ?_;intro _ hw';obtain ⟨⟨dq,osq⟩,hw''⟩:=hw';subst hw'';go_wp2_with fail;go_roundw
      case rel=>exact ⟨k+1,by omega,by omega,by rw [uh Hyes (by omega)],by rw [uh Hyes (by omega)],by go_num,fun j hj=>((Z2 X dq osq).cell (p:=⟨g,j,none⟩) hg2).trans (uh HC2 j hj),ZD hg2 (Z2 X dq osq).size,(uh kb9).below (Z2 X dq osq) (uh kb9).lt,(uh Hv9).below (Z2 X dq osq),(uh BB9).trans ((Z2 X dq osq).mono (uh BB9).size)⟩
      case measure=>exact ms
     ·refine wq ?_
      repeat (go_big_quiet_step (fail))
      refine wpQuiet_nil ?_;intro _ hw';obtain ⟨⟨dq,osq⟩,hw''⟩:=hw';subst hw'';go_wp2_with fail;go_roundw
      case rel=>exact ⟨k+1,by omega,by omega,by rw [uh Hno (by omega),uh Hbt],by rw [uh Hno (by omega),uh Hmt],by go_num,fun j hj=>((Z2 X dq osq).cell (p:=⟨g,j,none⟩) hg2).trans (uh HC2 j hj),ZD hg2 (Z2 X dq osq).size,(uh kb9).below (Z2 X dq osq) (uh kb9).lt,(uh Hv9).below (Z2 X dq osq),(uh BB9).trans ((Z2 X dq osq).mono (uh BB9).size)⟩
      case measure=>exact ms
    ·have e1:(n ==lt)=false:=by simpa using he
     have e2:decide (n=lt)=false:=TG he;refine wq ?_
     repeat (go_big_quiet_step (fail))
     refine wpQuiet_nil ?_;intro _ hw';obtain ⟨⟨dq,osq⟩,hw''⟩:=hw';subst hw'';go_wp2_with fail;go_roundw
     case rel=>exact ⟨k+1,by omega,by omega,by rw [uh Hno (by omega),uh Hbt],by rw [uh Hno (by omega),uh Hmt],by go_num,fun j hj=>((Z2 X dq osq).cell (p:=⟨g,j,none⟩) hg2).trans (uh HC2 j hj),ZD hg2 (Z2 X dq osq).size,(uh kb9).below (Z2 X dq osq) (uh kb9).lt,(uh Hv9).below (Z2 X dq osq),(uh BB9).trans ((Z2 X dq osq).mono (uh BB9).size)⟩
     case measure=>exact ms
   ·obtain rfl:k=L.length:=by omega
    go_wp2_with fail;go_ret;exact ⟨rfl,uh BB⟩
end Go.Proofs.YtgdpaigcmoifbaaGreatDoor
