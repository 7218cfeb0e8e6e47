/- Part 39 of what the proof rests on. No condition but those that a theorem names. -/
import Derived.Test.YtamgfpdahadnfaaGreatDoorXf37
import Derived.Test.YtamgfpdahadnfaaGreatDoorXf38
set_option maxHeartbeats 8000000
set_option maxRecDepth 100000
namespace Go.Proofs.YtamgfpdahadnfaaGreatDoor
open Go.ChangeShapes Go.WideShapes Go.ChangeAt Go.RowKit Go.Sort Go.Shelf
set_option linter.unusedVariables false
set_option linter.unusedSimpArgs false
set_option maxRecDepth 100000
variable {w w' w0 w1 w2 w3 w₀ wr W W' X A B C : World} {v v0 v1 v2 v3 v4 u u0 u1 u2 u3 u4 : Value} {m : Z6}
theorem zG (n:Nat):WG 0 (n:Int)=Zn n:=by unfold WG Zn;simp
theorem zx {rs:List ZZ} (h:Y0 rs=true) {r:Nat} (hr:r<rs.length):bits .or .i64 (WG 0 (ZW (rs.take r))) (Vv rs (r:Int))=WG 0 (ZW (rs.take (r+1))):=by
 obtain ⟨_,_,ha,h8⟩:=Zq h;have b0:=(Xo h r (by omega)).1;have b1:=WM ha (i:=r) 1 (by omega);have b2:=WM ha (i:=r+1) (rs.length-(r+1)) (by omega);rw [show r+1+(rs.length-(r+1))=rs.length by omega,VA] at b2;rw [EY (show Vp rs (r:Int)=true by unfold Vp;rw [h,Zp (by omega) (by omega)];rfl),Zy];exact (BD b0 b1 (by omega)).2
theorem Lt  (h:Smy w v0 v1 v2 v3 v4 m) (hs:Sane m):Calls Tryz.prog 202 #[.agg #[v0,v1,v2,v3,v4,.int .i64 m.now]] w fun e w'=>e= .returned (.int .i64 (Zn m.dk.length))/\Below w.heap.size w w':=by
 have HH:=Z9 hs;have hr3:=(Zq hs.hall).2.1;clear hs;obtain ⟨a0,p0,a1,p1,a2,p2,a3,p3,a4,p4,rfl,rfl,rfl,rfl,rfl,K⟩:=Bx.new h;clear h;go_enter Tryz.func202,Tryz.ntmps202;go_wp2_with fail;generalize w.alloc (.cells (S6 a0 p0 a1 p1 a2 p2 a3 p3 a4 p4 m) 32)=W at *;have HK:=Z9 K;obtain ⟨c0,_,_,_,_,_⟩:=K.cells;clear K;go_wp2_with fail;clear c0
 go_loopw [3,9] (fun s i wr=> ∃ r:Nat,r<=m.rm.length/\i= .int .i64 r/\s= .int .i64 (WG 0 (ZW (m.rm.take r)))/\Bx w wr w.heap.size a0 p0 a1 p1 a2 p2 a3 p3 a4 p4 m) (fun _ i _=>m.rm.length-(intOf i).toNat)
 case atStart=>exact ⟨0,Zz _,rfl,rfl,uh HK⟩
 case round=>
  obtain ⟨r,hr,rfl,rfl,K⟩:=hrel;clear HK;by_cases hlt:r<m.rm.length
  ·have hlt1:(r:Int)<(m.rm.length:Int):=by omega
   have Hor:=Z9 (zx (uh HH).hall hlt);obtain ⟨c0,_,_,_,_,_⟩:=K.cells;generalize WG 0 (ZW (m.rm.take r))=x at *;obtain ⟨y,hy⟩:∃ y,WG 0 (ZW (m.rm.take (r+1)))=y:=⟨_,rfl⟩
   rw [hy] at Hor;have HY:=Z9 hy;clear hy;go_wp2_with fail;refine (Vm (r:Int) K.smy.rm).mono ?_;rintro e w1 ⟨rfl,hb⟩;replace K:=K.next hb;clear hb c0;have hor:=uh Hor;go_wp2_with fail;go_roundw
   case rel=>exact ⟨r+1,by omega,by go_num,by rw [uh HY],K⟩
   case measure=>simp [intOf];omega
  ·obtain rfl:r=m.rm.length:=by omega
   have hfin:WG 0 (ZW (m.rm.take m.rm.length))=Zn m.dk.length:=by rw [VA,<-(uh HH).dk,zG]
   rw [hfin];go_wp2_with fail;go_ret;exact ⟨rfl,K.bb⟩
theorem Bv {k:Nat} (A:Asks m k) (hd:1<=m.dk.length):Asks (Wc m k) k:=by
 unfold Wc
 split
 ·have hat:∀ i,Z8 (XU m k (Zn m.dk.length)).sm i=if i=k then U7 (Z8 m.sm k) (Zn m.dk.length) else Z8 m.sm i:=fun i=>ZI A.hk i
  have hl:(XU m k (Zn m.dk.length)).sm.length=m.sm.length:=by unfold XU setS;simp
  obtain ⟨sg,sl,sh⟩:=A.sane.guilded;have hb:=P1 hd A.sane.eight;refine ⟨⟨A.sane.hall,A.sane.dk,⟨sg,fun i hi hne=> ?_,fun i hi hne=> ?_⟩,by rw [hl];exact A.sane.few⟩,⟨A.wants.gd,fun i hi hne=> ?_⟩,by rw [hl];exact A.hk,?_,?_⟩
  ·rw [hl] at hi
   rw [hat] at hne ⊢;by_cases e:i=k
   ·rw [if_pos e];exact sl k A.hk A.hs
   ·rw [if_neg e] at hne ⊢;exact sl i hi hne
  ·rw [hl] at hi
   rw [hat] at hne ⊢;by_cases e:i=k
   ·rw [if_pos e];exact sh k A.hk A.hs
   ·rw [if_neg e] at hne ⊢;exact sh i hi hne
  ·rw [hl] at hi
   rw [hat] at hne ⊢;by_cases e:i=k
   ·rw [if_pos e];exact A.wants.each k A.hk A.hs
   ·rw [if_neg e] at hne ⊢;exact A.wants.each i hi hne
  ·rw [hat,if_pos rfl];exact A.hs
  ·rw [hat,if_pos rfl];exact ⟨by show 0<=Zn m.dk.length;omega,hb.2⟩
 ·exact A
theorem G5 {F:Nat->TypeId->Array Value->Prop} {R:Nat}  {qs:List (ZZ × Value)} (K:Ny F w W R v0 v1 v2 v3 v4 m qs) {k bn:Nat} (A:Asks m k) (hd:1<=m.dk.length) (hbn:(Z8 m.sm k).2.1=(bn:Int)) (hbl:bn<m.dk.length) (hch:∃ b:Nat,b<m.dk.length/\Y1 (Wc m k) (k:Int)=(b:Int)) :
  Calls Tryz.prog 145 #[.pointer (some ⟨R,0,none⟩),.int .i64 (k:Int)] W fun e W'=>e= .returned (.tuple #[])/\Ny F w W' R v0 v1 v2 v3 v4 (Se m k) qs:=by
 obtain ⟨a0,p0,a1,p1,a2,p2,a3,p3,a4,p4,rfl,rfl,rfl,rfl,rfl⟩:=Wh K.full;have hk:=A.hk;have hk1:(k:Int)<(m.sm.length:Int):=by omega
 have HA:=Z9 A;have HA2:=Z9 (Bv A hd);obtain ⟨g2,hga,_,_,_,_⟩:=RecAt.view ZT (by omega) K.full.sm rfl (by omega);cases hga;obtain ⟨b,hb8,hcb⟩:=hch;have Hcb:=Z9 hcb;obtain ⟨ch,hc1⟩:∃ x,Y1 m (k:Int)=x:=⟨_,rfl⟩
 have Hc1:=Z9 hc1;clear A hd hcb hc1;have HWX:Hid (Wc m k=if ch= -1 then XU m k (Zn m.dk.length) else m):=Z9 (by unfold Wc;rw [uh Hc1]);obtain ⟨c0,c1,c2,c3,c4,c5⟩:=K.cells;go_enter Tryz.func145,Tryz.ntmps145;go_wp2_with fail;clear c0 c1 c2 c3 c4 c5;refine (NZ (uh Hc1) K.full.smy (uh HA)).mono ?_;rintro e w1 ⟨rfl,hb⟩;replace K:=K.next hb;clear hb;obtain ⟨X,hX⟩:∃ x,Wc m k=x:=⟨_,rfl⟩
 have HX:=Z9 hX;have hlX:X.sm.length=m.sm.length:=by rw [<-hX];unfold Wc;split;(unfold XU setS;simp);rfl
 have hdX:X.dk=m.dk:=by rw [<-hX];unfold Wc;split<;>rfl
 clear hX
 go_upto_if 9 with fail
 have HK:=Z9 K
 go_cut [] (fun wc=>Ny F w wc R (.slice a0 m.rm.length p0) (.slice a1 m.gd.length p1) (.slice (some ⟨g2,0,none⟩) m.sm.length p2) (.slice a3 m.dk.length p3) (.slice a4 m.pc.length p4) X qs)
 case first=>
  clear K;have K:=uh HK;by_cases hc:ch= -1
  ·have e1:(ch == -1)=true:=by simp [hc]
   have e2:decide (ch= -1)=true:=by simp [hc]
   have HX1:Hid (X=XU m k (Zn m.dk.length)):=Z9 (by rw [<-uh HX,uh HWX,if_pos hc]);clear hc hlX hdX;obtain ⟨c0,c1,c2,c3,c4,c5⟩:=K.cells;go_wp2_with fail;refine ZS (S:=fun w'=>w'.cell? ⟨R,0,none⟩=some (.slice a0 m.rm.length p0)/\w'.cell? ⟨R,1,none⟩=some (.slice a1 m.gd.length p1)/\w'.cell? ⟨R,2,none⟩=some (.slice (some ⟨g2,0,none⟩) m.sm.length p2)/\w'.cell? ⟨R,3,none⟩=some (.slice a3 m.dk.length p3)/\w'.cell? ⟨R,4,none⟩=some (.slice a4 m.pc.length p4)/\w'.cell? ⟨R,5,none⟩=some (.int .i64 m.now)) (by kernel_rfl) (XM _ _) (by kernel_rfl) ⟨c0,c1,c2,c3,c4,c5⟩ (fun hHeld=> ?_);simp only [XN,XO,Y4,YQ,Nat.zero_add,Nat.reduceAdd];replace K:=K.next ((Z1 _ _).drew:Below w1.heap.size w1 w1.drew);clear c0 c1 c2 c3 c4 c5;generalize w1.drew=W5 at *;obtain ⟨c0,c1,c2,c3,c4,c5⟩:=K.cells
   (refine tk 0 rfl (by assumption) ?_;(try simp only [Act.put,sA,sZ,sS]))
   (refine tk 1 rfl (by assumption) ?_;(try simp only [Act.put,sA,sZ,sS]))
   (refine tk 2 rfl (by assumption) ?_;(try simp only [Act.put,sA,sZ,sS]))
   (refine tk 3 rfl (by assumption) ?_;(try simp only [Act.put,sA,sZ,sS]))
   (refine tk 4 rfl (by assumption) ?_;(try simp only [Act.put,sA,sZ,sS]))
   (refine tk 5 rfl (by assumption) ?_;(try simp only [Act.put,sA,sZ,sS]))
   (refine tk 6 rfl (by assumption) ?_;(try simp only [Act.put,sA,sZ,sS]))
   (refine tk 7 rfl (by assumption) ?_;(try simp only [Act.put,sA,sZ,sS]))
   refine wpAnyH_ready (rs:=[8]) (by kernel_rfl) (by simp) ?_;refine AllReadyH.cons rfl (fun K0 hK=> ?_) AllReadyH.nil;go_simp;refine (Lt K.full.smy (uh HA).sane).mono ?_;rintro e9 w9 ⟨rfl,hb⟩;replace K:=K.next hb;clear hb;clear c0 c1 c2 c3 c4 c5;obtain ⟨c0,c1,c2,c3,c4,c5⟩:=K.cells;refine hK.out _ _ ⟨c0,c1,c2,c3,c4,c5⟩ (fun hHeld=> ?_);clear hK K0
   (try simp only [Act.put,sA,sZ,sS])
   (refine tk 9 rfl (by assumption) ?_;(try simp only [Act.put,sA,sZ,sS]))
   (refine tk 10 rfl (by assumption) ?_;(try simp only [Act.put,sA,sZ,sS]))
   obtain ⟨_,hga,_,_,hc,hz⟩:=RecAt.view ZT (by omega) K.full.sm rfl (by omega);cases hga;have s3:=hc k hk 3 _ rfl;have f3:=hz (k*11+3);have K1:=K.putS rfl hk (i:=3) (by omega) (.int .i64 (Zn m.dk.length)) (U7 (Z8 m.sm k) (Zn m.dk.length)) rfl;have HK1:=Z9 K1;clear K1 hc hz K;refine wpAnyH_done (by kernel_rfl) ?_ _;refine ZK rfl rfl ?_;go_simp;clear hHeld;go_wp2_with fail;go_meet;rw [uh HX1];exact uh HK1
  ·have e1:(ch == -1)=false:=by simp [hc]
   have e2:decide (ch= -1)=false:=by simp [hc]
   have HX1:Hid (X=m):=Z9 (by rw [<-uh HX,uh HWX,if_neg hc]);clear hc hlX hdX;go_wp2_with fail;go_meet;rw [uh HX1];exact K
 case rest=>
 clear K HK;have K:=hcut;clear hcut;rw [uh HX] at Hcb HA2;obtain ⟨c0,c1,c2,c3,c4,c5⟩:=K.cells;go_wp2_with fail;clear c0 c1 c2 c3 c4 c5;refine (NZ (uh Hcb) K.full.smy (uh HA2)).mono ?_;rintro e w3 ⟨rfl,hb⟩;replace K:=K.next hb;clear hb
 have hbX:(Z8 X.sm k).2.1=(bn:Int):=by
  rw [<-uh HX];unfold Wc
  split
  ·rw [Sx hk,if_pos rfl];exact hbn
  ·exact hbn
 have K2:Ny F w w3 R (.slice a0 m.rm.length p0) (.slice a1 m.gd.length p1) (.slice (some ⟨g2,0,none⟩) X.sm.length p2) (.slice a3 m.dk.length p3) (.slice a4 m.pc.length p4) X qs:=by rw [hlX];exact K
 go_wp2_with fail;refine (zh K2 (by omega) (by rw [hdX];exact hb8) hbX (by rw [hdX];exact hbl)).mono ?_;rintro e9 w4 ⟨rfl,K3⟩
 have HK:Hid (Ny F w w4 R (.slice a0 m.rm.length p0) (.slice a1 m.gd.length p1) (.slice (some ⟨g2,0,none⟩) m.sm.length p2) (.slice a3 m.dk.length p3) (.slice a4 m.pc.length p4) (Se m k) qs):=Z9 (by
  unfold Se;rw [uh HX,uh Hcb,<-hlX]
  exact K3)
 clear K3 K2 K;go_wp2_with fail
 go_end0
 exact ⟨rfl,uh HK⟩
theorem Lk.sane {A B:Z6} (h:Lk A B) (s:Sane A):Sane B:=⟨by rw [h.rm];exact s.hall,by rw [h.dk,h.rm];exact s.dk,⟨by rw [h.gd];exact s.guilded.gd,fun i hi hne=>by rw [(h.each i).1];exact s.guilded.lo i (by rw [<-h.len];exact hi) (h.ne0 hne),fun i hi hne=>by rw [(h.each i).1,h.gd];exact s.guilded.hi i (by rw [<-h.len];exact hi) (h.ne0 hne)⟩,by rw [h.len];exact s.few⟩
theorem Lk.wants {A B:Z6} (h:Lk A B) (s:Wants A):Wants B:=⟨by rw [h.gd];exact s.gd,fun i hi hne=>by rw [(h.each i).1,h.gd];exact s.each i (by rw [<-h.len];exact hi) (h.ne0 hne)⟩
theorem Shut.wants {m0 m:Z6} {b:Nat} {P:Nat->Prop} (h:Shut m0 b P m) (h0:Loose m0):Wants m:=by
 have hgs:=h0.wants.gd;refine ⟨by rw [h.gd];exact hgs,fun i hi hs=> ?_⟩
 rcases XP.1 (h.here i hi) with e | ⟨hp,hg,_⟩
 ·rw [e] at hs;exact absurd rfl hs
 rw [h.gd] at hg ⊢;generalize Z8 m.sm i=s at *;obtain ⟨st,be,rk,my,gu,lo,hi,hd,ca,ut,wk⟩:=s;obtain ⟨_,_,_,_,⟨g0,g5⟩,hpair,_⟩:=Zj hp;simp only at hg;exact ⟨by unfold isB;rw [hgs,Zp g0 (by omega)];rfl,hpair⟩
theorem FQ {m0:Z6} (h0:Loose m0) {b:Nat} (hb:b<m0.dk.length) (hop:ZC m0 b m0.dk.length ≠ 0) {j:Nat} (hj:j<(atV m0.sm b m0.sm.length).length) {B:Z6} (hB:Xb (Zk m0 b false) (atV m0.sm b m0.sm.length) j=B) :
  ∃ i:Nat,(Z7 (atV m0.sm b m0.sm.length) j).2=(i:Int)/\Asks B i/\(Z8 B.sm i).2.1=(b:Int)/\B.dk.length=m0.dk.length/\(∃ c:Nat,c<B.dk.length/\Y1 (Wc B i) (i:Int)=(c:Int))/\Xb (Zk m0 b false) (atV m0.sm b m0.sm.length) (j+1)=Se B i:=by
 have hL:=Am h0 hb hop j (by omega);have hs:=SK h0 hb hop j (by omega);obtain ⟨i,hi',h1,h2,e2⟩:=(Yi m0.sm b _ m0.sm.length).1 (XV hj);have hw:PZ (atV m0.sm b m0.sm.length) j i:=⟨j,Z2 _,hj,by rw [e2]⟩
 rw [hB] at hL;generalize YS (ZC m0 b m0.dk.length) (Zk m0 b false) (atV m0.sm b m0.sm.length) j=A at *;obtain ⟨hwl,hp,hbe,_⟩:=hs.left i hw;obtain ⟨hpb,_⟩:=hs.pres hw;have hdl:B.dk.length=m0.dk.length:=by rw [hL.dk,hs.dk,XR]
 refine ⟨i,by rw [e2],⟨hL.sane (hs.sane h0),hL.wants (hs.wants h0),by rw [hL.len];exact hwl,Js (by rw [(hL.each i).2];exact hp),?_⟩,by rw [(hL.each i).1];exact hbe,hdl,?_,?_⟩
 ·rw [(hL.each i).1]
  generalize Z8 A.sm i=s at *;obtain ⟨st,be,rk,my,gu,lo',hi',hd,ca,ut,wk⟩:=s;have:=(Zj hpb).2.2.2.1;exact ⟨by show 0<=my;omega,by show my<=255;omega⟩
 ·obtain ⟨c,hc,ec,_⟩:=hs.chosen h0 hb hop hw
  refine ⟨c,by rw [hL.dk];exact hc,?_⟩;unfold OC at ec;rw [hs.wide hb hw] at ec;rw [(hL.wide hwl).chosen];exact ec
 ·show Se (Xb _ _ j) (Z7 (atV m0.sm b m0.sm.length) j).2.toNat=_
  rw [hB,e2];rfl
theorem ES  {k:Nat} (b:Int) (h:Smy w v0 v1 v2 v3 v4 (Zk m k false)) (hL:Loose m):Calls Tryz.prog 144 #[.agg #[v0,v1,v2,v3,v4,.int .i64 (Zk m k false).now],.int .i64 b] w fun e w'=> ∃ v',e= .returned v'/\EntsAt w.heap.size w' v' (atV m.sm b m.sm.length)/\Below w.heap.size w w':=MI b h hL rfl
theorem BK {n:Nat}  {ps:List Z4} (h:EntsAt n w3 v ps) (hf:∀ k t cs,v.ownBlock=some k->Blk w3 k t cs->Blk wr k t cs):EntsAt n wr v ps:=h.same fun k hk=>by
 rcases h.2 with ⟨e,_⟩ | ⟨g,cap,cur,e,_,hg,_⟩
 ·rw [e] at hk;cases hk
 ·have hk2:=hk
  rw [e] at hk2;obtain rfl:=Option.some.inj hk2;exact (hf _ _ _ hk hg).trans hg.symm
theorem Fy {k:Nat} (hk:k<m.dk.length):decide (0<(ZO Vs (Zk m k false).dk (Zk m k false).dk.length).length)= !decide (ZC m k m.dk.length=0):=by
 have hd:∀ j,j<m.dk.length->((ZC m k m.dk.length).testBit j=true ↔ (Z8 (Zk m k false).dk j).1=true):=fun j hj=>by
  rw [VX,TS hk];by_cases e:j=k
  ·rw [if_pos e];simp [e]
  ·rw [if_neg e];simp [hj,e]
 by_cases h0:ZC m k m.dk.length=0
 ·rw [decide_eq_true h0]
  refine Xn ?_
  have hnil:(ZO Vs (Zk m k false).dk (Zk m k false).dk.length).length=0:=by
   rw [List.length_eq_zero_iff];refine List.eq_nil_iff_forall_not_mem.2 fun x hx=> ?_;obtain ⟨j,hj,_,hp⟩:=(Xt _ _ _ _).1 hx;rw [XR] at hj;have:=(hd j hj).2 hp;rw [h0,Nat.zero_testBit] at this;cases this
  omega
 ·rw [decide_eq_false h0]
  refine VN ?_;obtain ⟨j,hj⟩:=Rb h0
  have hjl:j<m.dk.length:=by
   have:=hj;rw [VX] at this;simp only [ZL,YZ] at this;exact this.1
  have hm:((j:Nat):Int) ∈ ZO Vs (Zk m k false).dk (Zk m k false).dk.length:=(Xt _ _ _ _).2 ⟨j,by rw [XR];exact hjl,rfl,(hd j hjl).1 hj⟩;have:=List.length_pos_of_mem hm;omega
theorem DX {F:Nat->TypeId->Array Value->Prop} {R:Nat}  {qs:List (ZZ × Value)} {q:Int->Addr} (K:Ny F w W R v0 v1 v2 v3 v4 m qs) (he:Errs w q) (hm:ZF m=true) (who:Int):Calls Tryz.prog 81 #[.pointer (some ⟨R,0,none⟩),.int .i64 who] W fun e W'=>PChg F w R q (Wf m who) (Xw m who) e W':=by
 obtain ⟨a0,p0,a1,p1,a2,p2,a3,p3,a4,p4,rfl,rfl,rfl,rfl,rfl⟩:=Wh K.full;have HE:=Z9 he;have HM:=Z9 hm;clear he hm;obtain ⟨wq,hwq⟩:∃ b,YP m who=b:=⟨_,rfl⟩
 have Hwq:=Z9 hwq;clear hwq;cases wq
 ·have hc0:Xw m who=1:=by unfold Xw;rw [uh Hwq];rfl
  go_enter Tryz.func81,Tryz.ntmps81;go_wp2_with fail;refine (JO K (uh HE) ((JS m who).trans (uh Hwq))).mono ?_;rintro e w1 ⟨rfl,hb,hF⟩;go_wp2_with fail;exact ⟨rfl,PChg.no hb hF hc0 (by omega)⟩
 obtain ⟨k,rfl,hk⟩:=SX (uh Hwq);have hk1:(k:Int)<(m.dk.length:Int):=by omega
 obtain ⟨g3,hga,_,_,_,_⟩:=RecAt.view ZH (by omega) K.full.dk rfl (by omega);cases hga;go_enter Tryz.func81,Tryz.ntmps81;go_wp2_with fail;refine (LM K (uh HE) hk).mono ?_;rintro e w1 ⟨rfl,K1⟩;clear K;have K:=K1;clear K1;obtain ⟨op,hop⟩:∃ d,(Z8 m.dk k).1=d:=⟨_,rfl⟩
 obtain ⟨_,hga,_,_,hc,hz⟩:=RecAt.view ZH (by omega) K.full.dk rfl (by omega);cases hga;have s0:=hc k hk 0 (.bool op) (by rw [<-hop];rfl);simp only [Nat.add_zero] at s0;have Hop:=Z9 hop;clear hop hc hz;have x1:=((uh HE).below K.bb).c2;go_wp2_with fail;cases op
 ·refine ZS (S:=fun w'=>w'.cell? ⟨g3,k*3,none⟩=some (.bool false)/\w'.cell? ⟨2,0,none⟩=some (YA (q 2))) (by kernel_rfl) (XM _ _) (by kernel_rfl) ⟨s0,x1⟩ (fun hHeld=> ?_)
  simp only [XN,XO,Y4,YQ,Nat.zero_add,Nat.reduceAdd];replace K:=K.next ((Z1 _ _).drew:Below w1.heap.size w1 w1.drew);clear s0 x1;generalize w1.drew=W5 at *;obtain ⟨_,hga,_,_,hc,hz⟩:=RecAt.view ZH (by omega) K.full.dk rfl (by omega);cases hga;have s0:=hc k hk 0 (.bool false) (by rw [<-uh Hop];rfl);simp only [Nat.add_zero] at s0;have x1:=((uh HE).below K.bb).c2
  (refine tk 0 rfl (by assumption) ?_;(try simp only [Act.put,sA,sZ,sS]))
  (refine tk 1 rfl (by assumption) ?_;(try simp only [Act.put,sA,sZ,sS]))
  (refine tk 2 rfl (by assumption) ?_;(try simp only [Act.put,sA,sZ,sS]))
  (refine tk 3 rfl (by assumption) ?_;(try simp only [Act.put,sA,sZ,sS]))
  (refine tk 4 rfl (by assumption) ?_;(try simp only [Act.put,sA,sZ,sS]))
  refine wpAnyH_done (by kernel_rfl) ?_ _;refine ZK rfl rfl ?_;go_simp;clear hHeld;refine (QU (q 2) _).mono ?_;rintro e8 w8 ⟨rfl,h8⟩;subst w8;have hc0:Xw m (k:Int)=2:=by unfold Xw;rw [uh Hwq,Zy,uh Hop];rfl
  go_wp2_with fail;exact ⟨rfl,PChg.no K.bb K.fb hc0 (by omega)⟩
 refine ZS (S:=fun w'=>w'.cell? ⟨g3,k*3,none⟩=some (.bool true)/\w'.cell? ⟨2,0,none⟩=some (YA (q 2))) (by kernel_rfl) (XM _ _) (by kernel_rfl) ⟨s0,x1⟩ (fun hHeld=> ?_);simp only [XN,XO,Y4,YQ,Nat.zero_add,Nat.reduceAdd];replace K:=K.next ((Z1 _ _).drew:Below w1.heap.size w1 w1.drew);clear s0 x1;generalize w1.drew=W5 at *;obtain ⟨_,hga,_,_,hc,hz⟩:=RecAt.view ZH (by omega) K.full.dk rfl (by omega);cases hga;have s0:=hc k hk 0 (.bool true) (by rw [<-uh Hop];rfl);simp only [Nat.add_zero] at s0;have x1:=((uh HE).below K.bb).c2
 (refine tk 0 rfl (by assumption) ?_;(try simp only [Act.put,sA,sZ,sS]))
 (refine tk 1 rfl (by assumption) ?_;(try simp only [Act.put,sA,sZ,sS]))
 (refine tk 2 rfl (by assumption) ?_;(try simp only [Act.put,sA,sZ,sS]))
 (refine tk 3 rfl (by assumption) ?_;(try simp only [Act.put,sA,sZ,sS]))
 (refine tk 4 rfl (by assumption) ?_;(try simp only [Act.put,sA,sZ,sS]))
 refine wpAnyH_done (by kernel_rfl) ?_ _;refine ZK rfl rfl ?_;go_simp;clear hHeld;refine (Sk _ _).mono ?_;rintro e8 w8 ⟨rfl,h8⟩;subst w8;have f0:=hz (k*3);have K1:=K.putD rfl hk (i:=0) (by omega) (.bool false) (false,(Z8 m.dk k).2) rfl;simp only [Nat.add_zero] at K1;have hD:Zk m k false={ m with dk:=m.dk.set k (false,(Z8 m.dk k).2) }:=rfl;rw [<-hD] at K1;have HK:=Z9 K1;clear K1 hc hz x1 hD;go_upto_region 3 with fail;clear s0 f0 K;have K:=uh HK;clear HK;generalize W5.setCell ⟨g3,k*3,none⟩ (.bool false)=W6 at *;have HLo:=Z9 (ZM (uh HM));have hd8:=(uh HLo).sane.eight;have Hlen:Hid ((Zk m k false).dk.length=m.dk.length):=Z9 (XR _ _ _);obtain ⟨c0,c1,c2,c3,c4,c5⟩:=K.cells;have x1:=((uh HE).below K.bb).c5;go_wp2_with fail;refine ZS (S:=fun w'=>w'.cell? ⟨R,0,none⟩=some (.slice a0 m.rm.length p0)/\w'.cell? ⟨R,1,none⟩=some (.slice a1 m.gd.length p1)/\w'.cell? ⟨R,2,none⟩=some (.slice a2 m.sm.length p2)/\w'.cell? ⟨R,3,none⟩=some (.slice (some ⟨g3,0,none⟩) m.dk.length p3)/\w'.cell? ⟨R,4,none⟩=some (.slice a4 m.pc.length p4)/\w'.cell? ⟨R,5,none⟩=some (.int .i64 m.now)/\w'.cell? ⟨4,0,none⟩=some (YA (q 5))) (by kernel_rfl) (XM _ _) (by kernel_rfl) ⟨c0,c1,c2,c3,c4,c5,x1⟩ (fun hHeld=> ?_);simp only [XN,XO,Y4,YQ,Nat.zero_add,Nat.reduceAdd];replace K:=K.next ((Z1 _ _).drew:Below W6.heap.size W6 W6.drew);clear c0 c1 c2 c3 c4 c5 x1;generalize W6.drew=W7 at *;obtain ⟨c0,c1,c2,c3,c4,c5⟩:=K.cells;have x1:=((uh HE).below K.bb).c5
 (refine tk 0 rfl (by assumption) ?_;(try simp only [Act.put,sA,sZ,sS]))
 (refine tk 1 rfl (by assumption) ?_;(try simp only [Act.put,sA,sZ,sS]))
 (refine tk 2 rfl (by assumption) ?_;(try simp only [Act.put,sA,sZ,sS]))
 (refine tk 7 rfl (by assumption) ?_;(try simp only [Act.put,sA,sZ,sS]))
 refine wpAnyH_ready (rs:=[3]) (by kernel_rfl) (by simp) ?_;refine AllReadyH.cons rfl (fun K0 hK=> ?_) AllReadyH.nil;go_simp;refine (U0 _ _ _ _ _ _ _ _ _ _ _ _ _ _ _ _ _).mono ?_;rintro e9 w9 ⟨rfl,hb⟩;replace K:=K.next hb;clear hb;clear c0 c1 c2 c3 c4 c5 x1;obtain ⟨c0,c1,c2,c3,c4,c5⟩:=K.cells;have x1:=((uh HE).below K.bb).c5;refine hK.out _ _ ⟨c0,c1,c2,c3,c4,c5,x1⟩ (fun hHeld=> ?_);clear hK K0
 (try simp only [Act.put,sA,sZ,sS])
 refine wpAnyH_ready (rs:=[4]) (by kernel_rfl) (by simp) ?_;refine AllReadyH.cons rfl (fun K0 hK=> ?_) AllReadyH.nil;go_simp;refine (QB K.full.smy.dk (by rw [uh Hlen];omega)).mono ?_;rintro e9 w9 ⟨v9,rfl,hn,hb⟩;obtain ⟨na,nc,rfl⟩:=RecAt.shape hn;replace K:=K.next hb;clear hb hn;have hgt:=Fy hk;generalize (ZO Vs (Zk m k false).dk (Zk m k false).dk.length).length=n9 at *;clear c0 c1 c2 c3 c4 c5 x1;obtain ⟨c0,c1,c2,c3,c4,c5⟩:=K.cells;have x1:=((uh HE).below K.bb).c5;refine hK.out _ _ ⟨c0,c1,c2,c3,c4,c5,x1⟩ (fun hHeld=> ?_);clear hK K0
 (try simp only [Act.put,sA,sZ,sS])
 (refine tk 5 rfl (by assumption) ?_;(try simp only [Act.put,sA,sZ,sS]))
 (refine tk 6 rfl (by assumption) ?_;(try simp only [Act.put,sA,sZ,sS]))
 refine wpAnyH_done (by kernel_rfl) ?_ _;refine ZK rfl rfl ?_;go_simp;clear hHeld
 (try rw [hgt])
 obtain ⟨ob,hob⟩:∃ b,decide (ZC m k m.dk.length=0)=b:=⟨_,rfl⟩
 rw [hob];clear hgt;cases ob;rotate_left
 ·have hc0:Xw m (k:Int)=5:=by unfold Xw;rw [uh Hwq,Zy,uh Hop];simp only [if_true];rw [if_pos (of_decide_eq_true hob)]
  refine (QU (q 5) _).mono ?_;rintro e8 w8 ⟨rfl,h8⟩;subst w8;go_wp2_with fail;exact ⟨rfl,PChg.no K.bb K.fb hc0 (by omega)⟩
 have hop0:ZC m k m.dk.length ≠ 0:=of_decide_eq_false hob;have Hc0:Hid (Xw m (k:Int)=0):=Z9 (by unfold Xw;rw [uh Hwq,Zy,uh Hop];simp only [if_true];rw [if_neg hop0]);have HR:Hid (∀ j B,j<(atV m.sm (k:Int) m.sm.length).length->Xb (Zk m k false) (atV m.sm (k:Int) m.sm.length) j=B->_):=Z9 (fun j B hj hB=>FQ (uh HLo) hk hop0 hj hB);refine (Sk _ _).mono ?_;rintro e8 w8 ⟨rfl,h8⟩;subst w8;clear hob hop0 x1;go_wp2_with fail;clear c0 c1 c2 c3 c4 c5;refine (ES (k:Int) K.full.smy (uh HLo)).mono ?_;rintro e w10 ⟨v8,rfl,he,hb⟩;obtain ⟨qa,qc,rfl⟩:=EntsAt.shape he
 have hle:(atV m.sm (k:Int) m.sm.length).length<=1000:=by
  have h1:=TK m.sm (k:Int) m.sm.length;have h2:=(uh HLo).sane.few;omega
 have KL:Ny (fun i t cs=>F i t cs\/((Value.slice qa (atV m.sm (k:Int) m.sm.length).length qc).ownBlock=some i/\Blk w10 i t cs)) w w10 R _ _ _ _ _ (Zk m k false) qs:=⟨(K.next hb).nx,fun i t cs hF=>by
  rcases hF with hF | ⟨h1,h2⟩
  ·exact (K.next hb).fx i t cs hF
  ·have h3:=(EntsAt.lt he h1).1
   exact ⟨h2,fun e=>by subst e;have:=K.blk.lt;omega,fun e=>by have:=(K.full.own e).2;omega⟩⟩
 have HE5:=Z9 he;have HX:Hid (Wf m (k:Int)=Xb (Zk m k false) (atV m.sm (k:Int) m.sm.length) (atV m.sm (k:Int) m.sm.length).length):=Z9 (by unfold Wf;rw [Zy]);have hst:Xb (Zk m k false) (atV m.sm (k:Int) m.sm.length) 0=Zk m k false:=rfl;have HK0:=Z9 KL;clear he hb K KL;obtain ⟨Q,hQ⟩:∃ q,atV m.sm (k:Int) m.sm.length=q:=⟨_,rfl⟩
 rw [hQ] at HE5 HK0 HX hst hle HR;rw [hQ];clear hQ;go_wp2_with fail
 go_loopw [34] (fun i wr=> ∃ j:Nat,j<=Q.length/\i= .int .i64 j/\Ny (fun i t cs=>F i t cs\/((Value.slice qa Q.length qc).ownBlock=some i/\Blk w10 i t cs)) w wr R (.slice a0 m.rm.length p0) (.slice a1 m.gd.length p1) (.slice a2 m.sm.length p2) (.slice (some ⟨g3,0,none⟩) m.dk.length p3) (.slice a4 m.pc.length p4) (Xb (Zk m k false) Q j) qs) (fun i _=>Q.length-(intOf i).toNat)
 case atStart=>exact ⟨0,Zz _,rfl,uh HK0⟩
 case round=>
  obtain ⟨j,hj,rfl,K⟩:=hrel;clear HK0;obtain ⟨B,hB⟩:∃ b,Xb (Zk m k false) Q j=b:=⟨_,rfl⟩
  rw [hB] at K;by_cases hlt:j<Q.length
  ·have hlt1:(j:Int)<(Q.length:Int):=by omega
   obtain ⟨i,hi,hA,hbe,hdl,hch,hnx⟩:=uh HR j B hlt hB;have hee:EntsAt _ wr _ Q:=BK (uh HE5) (fun k t cs h1 h2=>(K.fx k t cs (.inr ⟨h1,h2⟩)).1);obtain ⟨_,_,hqe,_,_,hr⟩:=EntsAt.pc hee;cases hqe
   rcases hr with e0 | ⟨eb,eo,rfl,hbw,hcl⟩
   ·rw [e0] at hlt;simp at hlt
   obtain ⟨d0,d1⟩:=hcl j hlt;rw [hi] at d1;obtain ⟨hv,hhv⟩:∃ x,(Z7 Q j).1=x:=⟨_,rfl⟩
   rw [hhv] at d0;have HA:=Z9 hA;have Hnx:=Z9 hnx;have Hch:=Z9 hch;have Hbe:=Z9 hbe;have Hdl:=Z9 hdl;clear hA hnx hch hbe hdl hi hhv hcl hee hB;go_upto_region 7 with fail;have hba:Below wr.heap.size wr (wr.alloc (.cells #[.int .i64 hv,.int .i64 (i:Int)] 91)):=(Z1 _ _).alloc (Z2 _) _;have ke:=Blk.new wr 91 #[.int .i64 hv,.int .i64 (i:Int)];replace K:=K.next hba;clear d0 d1 hba;generalize wr.alloc (.cells #[.int .i64 hv,.int .i64 (i:Int)] 91)=W9 at *;generalize wr.heap.size=sb at *;have d1:=ke.cell (i:=1) (v:= .int .i64 (i:Int)) rfl;clear ke;go_wp2_with fail;refine (G5 K (uh HA) (by rw [uh Hdl];omega) (uh Hbe) (by rw [uh Hdl];exact hk) (uh Hch)).mono ?_;rintro e9 w11 ⟨rfl,K2⟩;have HK2:=Z9 K2;clear K K2 d1;go_wp2_with fail;go_roundw
   case rel=>exact ⟨j+1,by omega,by go_num,by rw [uh Hnx];exact uh HK2⟩
   case measure=>simp [intOf];omega
  ·obtain rfl:j=Q.length:=by omega
   have HK2:Hid (Ny F w wr R _ _ _ _ _ (Wf m (k:Int)) qs):=Z9 ⟨by rw [uh HX,hB];exact K.nx,fun i t cs e=>K.fx i t cs (.inl e)⟩;clear K hB;go_wp2_with fail
   go_end0
   exact PChg.yes (uh HK2) (uh Hc0) rfl
set_option maxRecDepth 100000
theorem FR {F:Nat->TypeId->Array Value->Prop} {R:Nat}  {qs:List (ZZ × Value)} {q:Int->Addr} (K:Ny F w W R v0 v1 v2 v3 v4 m qs) (he:Errs w q) (hm:ZF m=true) {who:Int} {k0:Nat} (h0:W.cell? ⟨k0,0,none⟩=some (.int .i64 who)):Calls Tryz.prog 80 #[.pointer (some ⟨R,0,none⟩),.pointer (some ⟨k0,0,none⟩)] W fun e W'=>PChg F w R q (Wf m who) (Xw m who) e W':=by
 have HC:=Z9 (DX K he hm who);clear K;go_enter Tryz.func80,Tryz.ntmps80;go_wp2_with fail;refine (uh HC).mono ?_;rintro e w1 ⟨hb,hF,h9⟩;clear h0
 rcases h9 with ⟨hc0,rfl,hx⟩ | ⟨hc0,rfl⟩
 ·go_wp2_with fail
  go_end0
  exact ⟨hb,hF,.inl ⟨hc0,rfl,hx⟩⟩
 ·go_wp2_with fail
  exact ⟨rfl,hb,hF,.inr ⟨hc0,rfl⟩⟩
theorem DO {R:Nat}  {qs:List (ZZ × Value)} {q:Int->Addr} (K:Nx w W R v0 v1 v2 v3 v4 m qs) (he:Errs w q) (hm:ZF m=true) {who:Int} {cb k0:Nat} (hc:W.cell? ⟨cb,0,none⟩=some (.func (Fn.func 80) #[] #[.pointer (some ⟨k0,0,none⟩)])) (h0:W.cell? ⟨k0,0,none⟩=some (.int .i64 who)):Calls Tryz.prog 130 #[.pointer (some ⟨R,0,none⟩),.pointer (some ⟨cb,0,none⟩)] W fun e W'=>Chg w R q (Wf m who) (Xw m who) e W':=by
 have hmf:∀ (fn:Fn) (first cap:Array Value) (w:World),(Instr.makeFunc fn first cap).run Tryz.prog w= .ok (.func fn first cap) w:=fun _ _ _ _=>rfl;have HE:=Z9 he;have HM:=Z9 hm;have hRl:=K.hR;clear he hm;have hba:Below W.heap.size W (W.alloc (.cells #[.nilIface] 62)):=ba _ _;have kw:Hid (Blk (W.alloc (.cells #[.nilIface] 62)) W.heap.size 62 #[.nilIface]):=Z9 (Blk.new _ _ _);replace hc:=(hba.cell (World.block_lt_of_cell? _ _ hc)).trans hc;replace h0:=(hba.cell (World.block_lt_of_cell? _ _ h0)).trans h0;have hsz:w.heap.size<=W.heap.size:=K.bb.size;have HO:Hid (R ≠ W.heap.size/\ ∀ k,We v0 v1 v2 v3 v4 qs k->k ≠ W.heap.size):=Z9 ⟨by have:=K.blk.lt;omega,fun k e=>by have:=(K.full.own e).2;omega⟩;replace K:=K.next hba;clear hba
 go_enter_defers Tryz.func130,Tryz.ntmps130
 go_wp2_with fail;generalize W.alloc (.cells #[.nilIface] 62)=W1 at *;generalize W.heap.size=bw at *;have KY:Ny (fun k t cs=>k=bw/\t=62/\cs=#[.nilIface]) w W1 R v0 v1 v2 v3 v4 m qs:=⟨K,fun k t cs hF=>by obtain ⟨rfl,rfl,rfl⟩:=hF;exact ⟨uh kw,(uh HO).1.symm,fun e=>(uh HO).2 _ e rfl⟩⟩
 refine (FR KY (uh HE) (uh HM) h0).mono ?_;rintro e w1 ⟨hb,hF,h9⟩;have kw1:=hF bw _ _ ⟨rfl,rfl,rfl⟩;have c9:=kw1.cell (i:=0) (v:= .nilIface) rfl;have f9:=kw1.free 0;have Hb:=Z9 hb;clear hF kw KY K hc HO hb h0
 rcases h9 with ⟨hc0,rfl,u0,u1,u2,u3,u4,rs,KN⟩ | ⟨hc0,rfl⟩
 ·obtain ⟨_,hnR,hnO⟩:=KN.fx bw _ _ ⟨rfl,rfl,rfl⟩
  have HK:Hid (Nx w (w1.setCell ⟨bw,0,none⟩ .nilIface) R u0 u1 u2 u3 u4 (Wf m who) rs):=Z9 ⟨KN.full.set_off (fun k e e2=>hnO (by rw [<-e2];exact e)) _ _,KN.blk.other (a:=⟨bw,0,none⟩) (fun e=>hnR e.symm) _,KN.nx.own,KN.bb.setCell (p:=⟨bw,0,none⟩) hsz _,KN.nx.hR⟩;clear KN hnR hnO kw1;go_wp2_with fail;refine leaves_cons (f:=131) (args:=#[.pointer (some ⟨bw,0,none⟩)]) (by simp) (by simp [go_sem]) ?_;refine (LB ⟨bw,0,none⟩ _).mono ?_;rintro e u' w'' ⟨rfl,rfl,rfl⟩;have c8:(w1.setCell ⟨bw,0,none⟩ .nilIface).cell? ⟨bw,0,none⟩=some .nilIface:=by simp [c9,f9,go_sem]
  have hfin:Chg w R q (Wf m who) (Xw m who) (.returned .nilIface) (w1.setCell ⟨bw,0,none⟩ .nilIface):=⟨(uh HK).bb,.inl ⟨hc0,rfl,u0,u1,u2,u3,u4,rs,uh HK⟩⟩
  simp [Leaves,settle,results,Tryz.results130,go_sem,c8,hfin]
 ·have hfin:Chg w R q (Wf m who) (Xw m who) (.returned (YA (q (Xw m who)))) (w1.setCell ⟨bw,0,none⟩ (YA (q (Xw m who)))):=⟨(uh Hb).setCell (p:=⟨bw,0,none⟩) hsz _,.inr ⟨hc0,rfl⟩⟩
  have HC8:=Z9 (JM bw (q (Xw m who)) w1 c9 f9);have c8:(w1.setCell ⟨bw,0,none⟩ (YA (q (Xw m who)))).cell? ⟨bw,0,none⟩=some (YA (q (Xw m who))):=by simp [c9,f9,go_sem]
  clear kw1;go_wp2_with fail;refine leaves_cons (f:=131) (args:=#[.pointer (some ⟨bw,0,none⟩)]) (by simp) (by simp [go_sem]) ?_;refine (uh HC8).mono ?_;rintro e u' w'' ⟨rfl,rfl,rfl⟩;simp [Leaves,settle,results,Tryz.results130,go_sem,c8,hfin]
theorem Mc  {q:Int->Addr} (who:Int) (he:Errs w q) (h:Smy w v0 v1 v2 v3 v4 m):Calls Tryz.prog 30 #[.agg #[v0,v1,v2,v3,v4,.int .i64 m.now],.int .i64 who] w fun e w'=>Ty w.heap.size (Yr m who).1 (Yr m who).2 e w'/\Below w.heap.size w w':=by
 have HE:=Z9 he;clear he;obtain ⟨a0,p0,a1,p1,a2,p2,a3,p3,a4,p4,rfl,rfl,rfl,rfl,rfl,K⟩:=Bx.new h;clear h;replace K:=K.alloc (.cells #[.int .i64 who] 2);replace K:=K.alloc (.cells E6 32)
 have kc0:Hid (Blk (((w.alloc (.cells (S6 a0 p0 a1 p1 a2 p2 a3 p3 a4 p4 m) 32)).alloc (.cells #[.int .i64 who] 2)).alloc (.cells E6 32)) (w.heap.size+1) 2 #[.int .i64 who]):=Z9 (by
  have k:=Blk.new (w.alloc (.cells (S6 a0 p0 a1 p1 a2 p2 a3 p3 a4 p4 m) 32)) 2 #[.int .i64 who];rw [Y8] at k
  exact k.alloc _)
 have kr:Hid (Blk (((w.alloc (.cells (S6 a0 p0 a1 p1 a2 p2 a3 p3 a4 p4 m) 32)).alloc (.cells #[.int .i64 who] 2)).alloc (.cells E6 32)) (w.heap.size+1+1) 32 E6):=Z9 (by
  have k:=Blk.new ((w.alloc (.cells (S6 a0 p0 a1 p1 a2 p2 a3 p3 a4 p4 m) 32)).alloc (.cells #[.int .i64 who] 2)) 32 E6;rw [Y8,Y8] at k
  exact k)
 replace HE:=Z9 ((uh HE).below K.bb);have hsz:(((w.alloc (.cells (S6 a0 p0 a1 p1 a2 p2 a3 p3 a4 p4 m) 32)).alloc (.cells #[.int .i64 who] 2)).alloc (.cells E6 32)).heap.size=(w.heap.size+1+1+1):=by simp
 obtain ⟨⟨M,cd⟩,hD⟩:∃ D,S0 m (Wf m who) (Xw m who)=D:=⟨_,rfl⟩
 rw [BF,hD];have HD:=Z9 hD;clear hD;go_enter Tryz.func30,Tryz.ntmps30;go_upto_region 1 with fail;generalize (((w.alloc (.cells (S6 a0 p0 a1 p1 a2 p2 a3 p3 a4 p4 m) 32)).alloc (.cells #[.int .i64 who] 2)).alloc (.cells E6 32))=W1 at *;obtain ⟨c0,c1,c2,c3,c4,c5⟩:=K.cells;go_wp2_with fail;refine (Qo (X:=Wf m who) (c:=Xw m who) (uh HE) K.smy (fun cb w1 W R v0 v1 v2 v3 v4 rs h0 h1 h2 h3=>DO h3 ((uh HE).below h0) h2 ((h3.bb.cell (World.block_lt_of_cell? _ _ h1)).trans h1) (h3.bb.cell (World.block_lt_of_cell? _ _ (((uh kc0).below h0 (uh kc0).lt).cell (i:=0) (v:= .int .i64 who) rfl)) |>.trans (((uh kc0).below h0 (uh kc0).lt).cell (i:=0) rfl)))).mono ?_;rintro e w2 ⟨⟨u0,u1,u2,u3,u4,rs,he9,hf⟩,hb⟩;rw [uh HD] at he9 hf;simp only at he9 hf;subst he9;have HF:=Z9 hf;clear hf c0 c1 c2 c3 c4 c5;replace K:=K.next hb;replace kr:=bl kr hb;clear hb;obtain ⟨e0,g0,e1,g1,e2,g2,e3,g3,e4,g4,rfl,rfl,rfl,rfl,rfl⟩:=Wh (uh HF);obtain ⟨o0,o1,o2,o3,o4,o5⟩:=(uh kr).c6;obtain ⟨f0,f1,f2,f3,f4,f5⟩:=(uh kr).f6;go_wp2_with fail;refine ZQ (v:= .tuple #[.agg (S6 e0 g0 e1 g1 e2 g2 e3 g3 e4 g4 M),.int .i64 cd]) (by simp [results,Tryz.results30,go_sem, *]) rfl ⟨?_,?_⟩
 ·refine ⟨_,_,_,_,_,rs,rfl,?_⟩
  refine FullSmy.mono (n₀:=(w.heap.size+1+1+1)) ?_ (by omega)
  iterate 6 (refine FullSmy.set_off ?_ (fun k e=>by have:=((uh HF).own e).1;omega) _ _)
  exact (uh HF).mono (Nat.le_of_eq hsz.symm)
 ·iterate 6 (refine YF ?_ (by show _<=w.heap.size+1+1;omega) _)
  exact K.bb
end Go.Proofs.YtamgfpdahadnfaaGreatDoor
