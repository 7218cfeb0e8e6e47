/- Part 36 of what the proof rests on. No condition but those that a theorem names. -/
import Derived.Test.YtjhijildaceadaaGreatDoorXa35
set_option maxHeartbeats 8000000
set_option maxRecDepth 100000
namespace Go.Proofs.YtjhijildaceadaaGreatDoor
open Go.ChangeShapes Go.WideShapes Go.ChangeAt Go.RowKit Go.Sort Go.Shelf
set_option linter.unusedVariables false
set_option linter.unusedSimpArgs false
set_option maxRecDepth 100000
variable {w w' w0 w1 w2 w3 w₀ wr W W' X A B C : World} {v v0 v1 v2 v3 v4 u u0 u1 u2 u3 u4 : Value} {m : Z4}
theorem CG (n:Nat):Xo 0 (n:Int)=ZG n:=by unfold Xo ZG;simp
theorem Cu {rs:List Z3} (h:YN rs=true) {r:Nat} (hr:r<rs.length):bits .or .i64 (Xo 0 (Z0 (rs.take r))) (V2 rs (r:Int))=Xo 0 (Z0 (rs.take (r+1))):=by
 obtain ⟨_,_,ha,h8⟩:=Zi h
 have b0:=(Ya h r (by omega)).1
 have b1:=Xs ha (i:=r) 1 (by omega)
 have b2:=Xs ha (i:=r+1) (rs.length-(r+1)) (by omega)
 rw [show r+1+(rs.length-(r+1))=rs.length by omega,Wa] at b2
 rw [GZ (show VW rs (r:Int)=true by unfold VW;rw [h,Zj (by omega) (by omega)];rfl),Int.toNat_natCast]
 exact (Ed b0 b1 (by omega)).2
theorem Na  (h:Smy w v0 v1 v2 v3 v4 m) (hs:Sane m):Calls Tryz.prog 241 #[.agg #[v0,v1,v2,v3,v4,.int .i64 m.now]] w fun e w'=>e= .returned (.int .i64 (ZG m.desks.length))/\Below w.heap.size w w':=by
 have HH:=Z9 hs
 have hr3:=(Zi hs.hall).2.1
 clear hs
 obtain ⟨a0,p0,a1,p1,a2,p2,a3,p3,a4,p4,rfl,rfl,rfl,rfl,rfl,K⟩:=Bx.new h
 clear h
 go_enter Tryz.func241,Tryz.ntmps241
 go_wp2_with fail
 generalize w.alloc (.cells #[.slice a0 m.rooms.length p0,.slice a1 m.guilds.length p1,.slice a2 m.smiths.length p2,.slice a3 m.desks.length p3,.slice a4 m.paces.length p4,.int .i64 m.now] 32)=W at *
 have HK:=Z9 K
 obtain ⟨c0,_,_,_,_,_⟩:=K.cells
 clear K
 go_wp2_with fail
 clear c0
 go_loopw [3,9] (fun s i wr=> ∃ r:Nat,r<=m.rooms.length/\i= .int .i64 r/\s= .int .i64 (Xo 0 (Z0 (m.rooms.take r)))/\Bx w wr w.heap.size a0 p0 a1 p1 a2 p2 a3 p3 a4 p4 m) (fun _ i _=>m.rooms.length-(intOf i).toNat)
 case atStart=>exact ⟨0,Nat.zero_le _,rfl,rfl,uh HK⟩
 case round=>
  obtain ⟨r,hr,rfl,rfl,K⟩:=hrel
  clear HK
  by_cases hlt:r<m.rooms.length
  ·have hlt1:(r:Int)<(m.rooms.length:Int):=by omega
   have Hor:=Z9 (Cu (uh HH).hall hlt)
   obtain ⟨c0,_,_,_,_,_⟩:=K.cells
   generalize Xo 0 (Z0 (m.rooms.take r))=x at *
   obtain ⟨y,hy⟩:∃ y,Xo 0 (Z0 (m.rooms.take (r+1)))=y:=⟨_,rfl⟩
   rw [hy] at Hor
   have HY:=Z9 hy
   clear hy
   go_wp2_with fail
   refine (VU (r:Int) K.smy.rooms).mono ?_
   rintro e w1 ⟨rfl,hb⟩
   replace K:=K.next hb
   clear hb c0
   have hor:=uh Hor
   go_wp2_with fail
   go_roundw
   case rel=>exact ⟨r+1,by omega,by go_num,by rw [uh HY],K⟩
   case measure=>simp [intOf];omega
  ·obtain rfl:r=m.rooms.length:=by omega
   have hfin:Xo 0 (Z0 (m.rooms.take m.rooms.length))=ZG m.desks.length:=by rw [Wa,<-(uh HH).desks,CG]
   rw [hfin]
   go_wp2_with fail
   go_ret
   exact ⟨rfl,K.bb⟩
theorem D6 {k:Nat} (A:Asks m k) (hd:1<=m.desks.length):Asks (WQ m k) k:=by
 unfold WQ
 split
 ·have hat:∀ i,Z8 (Zx m k (ZG m.desks.length)).smiths i=if i=k then XE (Z8 m.smiths k) (ZG m.desks.length) else Z8 m.smiths i:=fun i=>ZV A.hk i
  have hl:(Zx m k (ZG m.desks.length)).smiths.length=m.smiths.length:=by unfold Zx setS;simp
  obtain ⟨sg,sl,sh⟩:=A.sane.guilded
  have hb:=Rw hd A.sane.eight
  refine ⟨⟨A.sane.hall,A.sane.desks,⟨sg,fun i hi hne=> ?_,fun i hi hne=> ?_⟩,by rw [hl];exact A.sane.few⟩,⟨A.wants.guilds,fun i hi hne=> ?_⟩,by rw [hl];exact A.hk,?_,?_⟩
  ·rw [hl] at hi
   rw [hat] at hne ⊢
   by_cases e:i=k
   ·rw [if_pos e];exact sl k A.hk A.hs
   ·rw [if_neg e] at hne ⊢;exact sl i hi hne
  ·rw [hl] at hi
   rw [hat] at hne ⊢
   by_cases e:i=k
   ·rw [if_pos e];exact sh k A.hk A.hs
   ·rw [if_neg e] at hne ⊢;exact sh i hi hne
  ·rw [hl] at hi
   rw [hat] at hne ⊢
   by_cases e:i=k
   ·rw [if_pos e];exact A.wants.each k A.hk A.hs
   ·rw [if_neg e] at hne ⊢;exact A.wants.each i hi hne
  ·rw [hat,if_pos rfl];exact A.hs
  ·rw [hat,if_pos rfl];exact ⟨by show 0<=ZG m.desks.length;omega,hb.2⟩
 ·exact A
theorem JK {F:Nat->TypeId->Array Value->Prop} {R:Nat}  {qs:List (Z3 × Value)} (K:Ny F w W R v0 v1 v2 v3 v4 m qs) {k bn:Nat} (A:Asks m k) (hd:1<=m.desks.length) (hbn:(Z8 m.smiths k).2.1=(bn:Int)) (hbl:bn<m.desks.length) (hch:∃ b:Nat,b<m.desks.length/\Zn (WQ m k) (k:Int)=(b:Int)) :
  Calls Tryz.prog 179 #[.pointer (some ⟨R,0,none⟩),.int .i64 (k:Int)] W fun e W'=>e= .returned (.tuple #[])/\Ny F w W' R v0 v1 v2 v3 v4 (TF m k) qs:=by
 obtain ⟨a0,p0,a1,p1,a2,p2,a3,p3,a4,p4,rfl,rfl,rfl,rfl,rfl⟩:=YQ K.full
 have hk:=A.hk
 have hk1:(k:Int)<(m.smiths.length:Int):=by omega
 have HA:=Z9 A
 have HA2:=Z9 (D6 A hd)
 obtain ⟨g2,hga,_,_,_,_⟩:=RecAt.view Z1 (by omega) K.full.smiths rfl (by omega)
 cases hga
 obtain ⟨b,hb8,hcb⟩:=hch
 have Hcb:=Z9 hcb
 obtain ⟨ch,hc1⟩:∃ x,Zn m (k:Int)=x:=⟨_,rfl⟩
 have Hc1:=Z9 hc1
 clear A hd hcb hc1
 have HWX:Hid (WQ m k=if ch= -1 then Zx m k (ZG m.desks.length) else m):=Z9 (by unfold WQ;rw [uh Hc1])
 obtain ⟨c0,c1,c2,c3,c4,c5⟩:=K.cells
 go_enter Tryz.func179,Tryz.ntmps179
 go_wp2_with fail
 clear c0 c1 c2 c3 c4 c5
 refine (SF (uh Hc1) K.full.smy (uh HA)).mono ?_
 rintro e w1 ⟨rfl,hb⟩
 replace K:=K.next hb
 clear hb
 obtain ⟨X,hX⟩:∃ x,WQ m k=x:=⟨_,rfl⟩
 have HX:=Z9 hX
 have hlX:X.smiths.length=m.smiths.length:=by rw [<-hX];unfold WQ;split;(unfold Zx setS;simp);rfl
 have hdX:X.desks=m.desks:=by rw [<-hX];unfold WQ;split<;>rfl
 clear hX
 go_upto_if 9 with fail
 have HK:=Z9 K
 go_cut [] (fun wc=>Ny F w wc R (.slice a0 m.rooms.length p0) (.slice a1 m.guilds.length p1) (.slice (some ⟨g2,0,none⟩) m.smiths.length p2) (.slice a3 m.desks.length p3) (.slice a4 m.paces.length p4) X qs)
 case first=>
  clear K
  have K:=uh HK
  by_cases hc:ch= -1
  ·have e1:(ch == -1)=true:=by simp [hc]
   have e2:decide (ch= -1)=true:=by simp [hc]
   have HX1:Hid (X=Zx m k (ZG m.desks.length)):=Z9 (by rw [<-uh HX,uh HWX,if_pos hc])
   clear hc hlX hdX
   obtain ⟨c0,c1,c2,c3,c4,c5⟩:=K.cells
   go_wp2_with fail
   refine ZU (S:=fun w'=>w'.cell? ⟨R,0,none⟩=some (.slice a0 m.rooms.length p0)/\w'.cell? ⟨R,1,none⟩=some (.slice a1 m.guilds.length p1)/\w'.cell? ⟨R,2,none⟩=some (.slice (some ⟨g2,0,none⟩) m.smiths.length p2)/\w'.cell? ⟨R,3,none⟩=some (.slice a3 m.desks.length p3)/\w'.cell? ⟨R,4,none⟩=some (.slice a4 m.paces.length p4)/\w'.cell? ⟨R,5,none⟩=some (.int .i64 m.now)) (by kernel_rfl) (List.cons_ne_nil _ _) (by kernel_rfl) ⟨c0,c1,c2,c3,c4,c5⟩ (fun hHeld=> ?_)
   simp only [List.dropLast_cons_cons,List.dropLast_singleton,List.length_cons,List.length_nil,Nat.zero_add,Nat.reduceAdd]
   replace K:=K.next ((Below.refl _ _).drew:Below w1.heap.size w1 w1.drew)
   clear c0 c1 c2 c3 c4 c5
   generalize w1.drew=W5 at *
   obtain ⟨c0,c1,c2,c3,c4,c5⟩:=K.cells
   (refine tk 0 rfl (by assumption) ?_;(try simp only [Act.put,sA,sZ,sS]))
   (refine tk 1 rfl (by assumption) ?_;(try simp only [Act.put,sA,sZ,sS]))
   (refine tk 2 rfl (by assumption) ?_;(try simp only [Act.put,sA,sZ,sS]))
   (refine tk 3 rfl (by assumption) ?_;(try simp only [Act.put,sA,sZ,sS]))
   (refine tk 4 rfl (by assumption) ?_;(try simp only [Act.put,sA,sZ,sS]))
   (refine tk 5 rfl (by assumption) ?_;(try simp only [Act.put,sA,sZ,sS]))
   (refine tk 6 rfl (by assumption) ?_;(try simp only [Act.put,sA,sZ,sS]))
   (refine tk 7 rfl (by assumption) ?_;(try simp only [Act.put,sA,sZ,sS]))
   refine wpAnyH_ready (rs:=[8]) (by kernel_rfl) (by simp) ?_
   refine AllReadyH.cons rfl (fun K0 hK=> ?_) AllReadyH.nil
   go_simp
   refine (Na K.full.smy (uh HA).sane).mono ?_
   rintro e9 w9 ⟨rfl,hb⟩
   replace K:=K.next hb
   clear hb
   clear c0 c1 c2 c3 c4 c5
   obtain ⟨c0,c1,c2,c3,c4,c5⟩:=K.cells
   refine hK.out _ _ ⟨c0,c1,c2,c3,c4,c5⟩ (fun hHeld=> ?_)
   clear hK K0
   (try simp only [Act.put,sA,sZ,sS])
   (refine tk 9 rfl (by assumption) ?_;(try simp only [Act.put,sA,sZ,sS]))
   (refine tk 10 rfl (by assumption) ?_;(try simp only [Act.put,sA,sZ,sS]))
   obtain ⟨_,hga,_,_,hc,hz⟩:=RecAt.view Z1 (by omega) K.full.smiths rfl (by omega)
   cases hga
   have s3:=hc k hk 3 _ rfl
   have f3:=hz (k*11+3)
   have K1:=K.putS rfl hk (i:=3) (by omega) (.int .i64 (ZG m.desks.length)) (XE (Z8 m.smiths k) (ZG m.desks.length)) rfl
   have HK1:=Z9 K1
   clear K1 hc hz K
   refine wpAnyH_done (by kernel_rfl) ?_ _
   refine ZF rfl rfl ?_
   go_simp
   clear hHeld
   go_wp2_with fail
   go_meet
   rw [uh HX1]
   exact uh HK1
  ·have e1:(ch == -1)=false:=by simp [hc]
   have e2:decide (ch= -1)=false:=by simp [hc]
   have HX1:Hid (X=m):=Z9 (by rw [<-uh HX,uh HWX,if_neg hc])
   clear hc hlX hdX
   go_wp2_with fail
   go_meet
   rw [uh HX1]
   exact K
 case rest=>
 clear K HK
 have K:=hcut
 clear hcut
 rw [uh HX] at Hcb HA2
 obtain ⟨c0,c1,c2,c3,c4,c5⟩:=K.cells
 go_wp2_with fail
 clear c0 c1 c2 c3 c4 c5
 refine (SF (uh Hcb) K.full.smy (uh HA2)).mono ?_
 rintro e w3 ⟨rfl,hb⟩
 replace K:=K.next hb
 clear hb
 have hbX:(Z8 X.smiths k).2.1=(bn:Int):=by
  rw [<-uh HX]
  unfold WQ
  split
  ·rw [Q6 hk,if_pos rfl];exact hbn
  ·exact hbn
 have K2:Ny F w w3 R (.slice a0 m.rooms.length p0) (.slice a1 m.guilds.length p1) (.slice (some ⟨g2,0,none⟩) X.smiths.length p2) (.slice a3 m.desks.length p3) (.slice a4 m.paces.length p4) X qs:=by rw [hlX];exact K
 go_wp2_with fail
 refine (Fw K2 (by omega) (by rw [hdX];exact hb8) hbX (by rw [hdX];exact hbl)).mono ?_
 rintro e9 w4 ⟨rfl,K3⟩
 have HK:Hid (Ny F w w4 R (.slice a0 m.rooms.length p0) (.slice a1 m.guilds.length p1) (.slice (some ⟨g2,0,none⟩) m.smiths.length p2) (.slice a3 m.desks.length p3) (.slice a4 m.paces.length p4) (TF m k) qs):=Z9 (by
  unfold TF
  rw [uh HX,uh Hcb,<-hlX]
  exact K3)
 clear K3 K2 K
 go_wp2_with fail
 go_end0
 exact ⟨rfl,uh HK⟩
theorem Lk.sane {A B:Z4} (h:Lk A B) (s:Sane A):Sane B:=⟨by rw [h.rooms];exact s.hall,by rw [h.desks,h.rooms];exact s.desks,⟨by rw [h.guilds];exact s.guilded.guilds,fun i hi hne=>by rw [(h.each i).1];exact s.guilded.lo i (by rw [<-h.len];exact hi) (h.ne0 hne),fun i hi hne=>by rw [(h.each i).1,h.guilds];exact s.guilded.hi i (by rw [<-h.len];exact hi) (h.ne0 hne)⟩,by rw [h.len];exact s.few⟩
theorem Lk.wants {A B:Z4} (h:Lk A B) (s:Wants A):Wants B:=⟨by rw [h.guilds];exact s.guilds,fun i hi hne=>by rw [(h.each i).1,h.guilds];exact s.each i (by rw [<-h.len];exact hi) (h.ne0 hne)⟩
theorem Shut.wants {m0 m:Z4} {b:Nat} {P:Nat->Prop} (h:Shut m0 b P m) (h0:Loose m0):Wants m:=by
 have hgs:=h0.wants.guilds
 refine ⟨by rw [h.guilds];exact hgs,fun i hi hs=> ?_⟩
 rcases XT.1 (h.here i hi) with e | ⟨hp,hg,_⟩
 ·rw [e] at hs;exact absurd rfl hs
 rw [h.guilds] at hg ⊢
 generalize Z8 m.smiths i=s at *
 obtain ⟨st,be,rk,my,gu,lo,hi,hd,ca,ut,wk⟩:=s
 obtain ⟨_,_,_,_,⟨g0,g5⟩,hpair,_⟩:=Zk hp
 simp only at hg
 exact ⟨by unfold isB;rw [hgs,Zj g0 (by omega)];rfl,hpair⟩
theorem IH {m0:Z4} (h0:Loose m0) {b:Nat} (hb:b<m0.desks.length) (hop:ZJ m0 b m0.desks.length ≠ 0) {j:Nat} (hj:j<(atV m0.smiths b m0.smiths.length).length) {B:Z4} (hB:XQ (Zt m0 b false) (atV m0.smiths b m0.smiths.length) j=B) :
  ∃ i:Nat,(Z7 (atV m0.smiths b m0.smiths.length) j).2=(i:Int)/\Asks B i/\(Z8 B.smiths i).2.1=(b:Int)/\B.desks.length=m0.desks.length/\(∃ c:Nat,c<B.desks.length/\Zn (WQ B i) (i:Int)=(c:Int))/\XQ (Zt m0 b false) (atV m0.smiths b m0.smiths.length) (j+1)=TF B i:=by
 have hL:=C7 h0 hb hop j (by omega)
 have hs:=Rg h0 hb hop j (by omega)
 obtain ⟨i,hi',h1,h2,e2⟩:=(Yl m0.smiths b _ m0.smiths.length).1 (Ys hj)
 have hw:PT (atV m0.smiths b m0.smiths.length) j i:=⟨j,Nat.le_refl _,hj,by rw [e2]⟩
 rw [hB] at hL
 generalize Y7 (ZJ m0 b m0.desks.length) (Zt m0 b false) (atV m0.smiths b m0.smiths.length) j=A at *
 obtain ⟨hwl,hp,hbe,_⟩:=hs.left i hw
 obtain ⟨hpb,_⟩:=hs.pres hw
 have hdl:B.desks.length=m0.desks.length:=by rw [hL.desks,hs.desks,Xv]
 refine ⟨i,by rw [e2],⟨hL.sane (hs.sane h0),hL.wants (hs.wants h0),by rw [hL.len];exact hwl,Fv (by rw [(hL.each i).2];exact hp),?_⟩,by rw [(hL.each i).1];exact hbe,hdl,?_,?_⟩
 ·rw [(hL.each i).1]
  generalize Z8 A.smiths i=s at *
  obtain ⟨st,be,rk,my,gu,lo',hi',hd,ca,ut,wk⟩:=s
  have:=(Zk hpb).2.2.2.1
  exact ⟨by show 0<=my;omega,by show my<=255;omega⟩
 ·obtain ⟨c,hc,ec,_⟩:=hs.chosen h0 hb hop hw
  refine ⟨c,by rw [hL.desks];exact hc,?_⟩
  unfold PY at ec
  rw [hs.wide hb hw] at ec
  rw [(hL.wide hwl).chosen]
  exact ec
 ·show TF (XQ _ _ j) (Z7 (atV m0.smiths b m0.smiths.length) j).2.toNat=_
  rw [hB,e2]
  rfl
theorem GQ  {k:Nat} (b:Int) (h:Smy w v0 v1 v2 v3 v4 (Zt m k false)) (hL:Loose m):Calls Tryz.prog 178 #[.agg #[v0,v1,v2,v3,v4,.int .i64 (Zt m k false).now],.int .i64 b] w fun e w'=> ∃ v',e= .returned v'/\EntsAt w.heap.size w' v' (atV m.smiths b m.smiths.length)/\Below w.heap.size w w':=Om b h hL rfl
theorem Ej {n:Nat}  {ps:List Z6} (h:EntsAt n w3 v ps) (hf:∀ k t cs,v.ownBlock=some k->Blk w3 k t cs->Blk wr k t cs):EntsAt n wr v ps:=h.same fun k hk=>by
 rcases h.2 with ⟨e,_⟩ | ⟨g,cap,cur,e,_,hg,_⟩
 ·rw [e] at hk;cases hk
 ·have hk2:=hk
  rw [e] at hk2
  obtain rfl:=Option.some.inj hk2
  exact (hf _ _ _ hk hg).trans hg.symm
theorem Im {k:Nat} (hk:k<m.desks.length):decide (0<(ZZ VZ (Zt m k false).desks (Zt m k false).desks.length).length)= !decide (ZJ m k m.desks.length=0):=by
 have hd:∀ j,j<m.desks.length->((ZJ m k m.desks.length).testBit j=true ↔ (Z8 (Zt m k false).desks j).1=true):=fun j hj=>by
  rw [Wx,Sx hk]
  by_cases e:j=k
  ·rw [if_pos e];simp [e]
  ·rw [if_neg e];simp [hj,e]
 by_cases h0:ZJ m k m.desks.length=0
 ·rw [decide_eq_true h0]
  refine decide_eq_false ?_
  have hnil:(ZZ VZ (Zt m k false).desks (Zt m k false).desks.length).length=0:=by
   rw [List.length_eq_zero_iff]
   refine List.eq_nil_iff_forall_not_mem.2 fun x hx=> ?_
   obtain ⟨j,hj,_,hp⟩:=(Xn _ _ _ _).1 hx
   rw [Xv] at hj
   have:=(hd j hj).2 hp
   rw [h0,Nat.zero_testBit] at this
   cases this
  omega
 ·rw [decide_eq_false h0]
  refine decide_eq_true ?_
  obtain ⟨j,hj⟩:=SE h0
  have hjl:j<m.desks.length:=by
   have:=hj
   rw [Wx] at this
   simp only [Bool.and_eq_true,decide_eq_true_eq] at this
   exact this.1
  have hm:((j:Nat):Int) ∈ ZZ VZ (Zt m k false).desks (Zt m k false).desks.length:=(Xn _ _ _ _).2 ⟨j,by rw [Xv];exact hjl,rfl,(hd j hjl).1 hj⟩
  have:=List.length_pos_of_mem hm
  omega
theorem F0 {F:Nat->TypeId->Array Value->Prop} {R:Nat}  {qs:List (Z3 × Value)} {q:Int->Addr} (K:Ny F w W R v0 v1 v2 v3 v4 m qs) (he:Errs w q) (hm:Zo m=true) (who:Int):Calls Tryz.prog 87 #[.pointer (some ⟨R,0,none⟩),.int .i64 who] W fun e W'=>PChg F w R q (WW m who) (Yi m who) e W':=by
 obtain ⟨a0,p0,a1,p1,a2,p2,a3,p3,a4,p4,rfl,rfl,rfl,rfl,rfl⟩:=YQ K.full
 have HE:=Z9 he
 have HM:=Z9 hm
 clear he hm
 obtain ⟨wq,hwq⟩:∃ b,Yp m who=b:=⟨_,rfl⟩
 have Hwq:=Z9 hwq
 clear hwq
 cases wq
 ·have hc0:Yi m who=1:=by unfold Yi;rw [uh Hwq];rfl
  go_enter Tryz.func87,Tryz.ntmps87
  go_wp2_with fail
  refine (LN K (uh HE) ((LR m who).trans (uh Hwq))).mono ?_
  rintro e w1 ⟨rfl,hb,hF⟩
  go_wp2_with fail
  exact ⟨rfl,PChg.no hb hF hc0 (by omega)⟩
 obtain ⟨k,rfl,hk⟩:=Uc (uh Hwq)
 have hk1:(k:Int)<(m.desks.length:Int):=by omega
 obtain ⟨g3,hga,_,_,_,_⟩:=RecAt.view ZT (by omega) K.full.desks rfl (by omega)
 cases hga
 go_enter Tryz.func87,Tryz.ntmps87
 go_wp2_with fail
 refine (Nm K (uh HE) hk).mono ?_
 rintro e w1 ⟨rfl,K1⟩
 clear K
 have K:=K1
 clear K1
 obtain ⟨op,hop⟩:∃ d,(Z8 m.desks k).1=d:=⟨_,rfl⟩
 obtain ⟨_,hga,_,_,hc,hz⟩:=RecAt.view ZT (by omega) K.full.desks rfl (by omega)
 cases hga
 have s0:=hc k hk 0 (.bool op) (by rw [<-hop];rfl)
 simp only [Nat.add_zero] at s0
 have Hop:=Z9 hop
 clear hop hc hz
 have x1:=((uh HE).below K.bb).c2
 go_wp2_with fail
 cases op
 ·refine ZU (S:=fun w'=>w'.cell? ⟨g3,k*3,none⟩=some (.bool false)/\w'.cell? ⟨1,0,none⟩=some (Zv (q 2))) (by kernel_rfl) (List.cons_ne_nil _ _) (by kernel_rfl) ⟨s0,x1⟩ (fun hHeld=> ?_)
  simp only [List.dropLast_cons_cons,List.dropLast_singleton,List.length_cons,List.length_nil,Nat.zero_add,Nat.reduceAdd]
  replace K:=K.next ((Below.refl _ _).drew:Below w1.heap.size w1 w1.drew)
  clear s0 x1
  generalize w1.drew=W5 at *
  obtain ⟨_,hga,_,_,hc,hz⟩:=RecAt.view ZT (by omega) K.full.desks rfl (by omega)
  cases hga
  have s0:=hc k hk 0 (.bool false) (by rw [<-uh Hop];rfl)
  simp only [Nat.add_zero] at s0
  have x1:=((uh HE).below K.bb).c2
  (refine tk 0 rfl (by assumption) ?_;(try simp only [Act.put,sA,sZ,sS]))
  (refine tk 1 rfl (by assumption) ?_;(try simp only [Act.put,sA,sZ,sS]))
  (refine tk 2 rfl (by assumption) ?_;(try simp only [Act.put,sA,sZ,sS]))
  (refine tk 3 rfl (by assumption) ?_;(try simp only [Act.put,sA,sZ,sS]))
  (refine tk 4 rfl (by assumption) ?_;(try simp only [Act.put,sA,sZ,sS]))
  refine wpAnyH_done (by kernel_rfl) ?_ _
  refine ZF rfl rfl ?_
  go_simp
  clear hHeld
  refine (WZ (q 2) _).mono ?_
  rintro e8 w8 ⟨rfl,h8⟩
  subst w8
  have hc0:Yi m (k:Int)=2:=by unfold Yi;rw [uh Hwq,Int.toNat_natCast,uh Hop];rfl
  go_wp2_with fail
  exact ⟨rfl,PChg.no K.bb K.fb hc0 (by omega)⟩
 refine ZU (S:=fun w'=>w'.cell? ⟨g3,k*3,none⟩=some (.bool true)/\w'.cell? ⟨1,0,none⟩=some (Zv (q 2))) (by kernel_rfl) (List.cons_ne_nil _ _) (by kernel_rfl) ⟨s0,x1⟩ (fun hHeld=> ?_)
 simp only [List.dropLast_cons_cons,List.dropLast_singleton,List.length_cons,List.length_nil,Nat.zero_add,Nat.reduceAdd]
 replace K:=K.next ((Below.refl _ _).drew:Below w1.heap.size w1 w1.drew)
 clear s0 x1
 generalize w1.drew=W5 at *
 obtain ⟨_,hga,_,_,hc,hz⟩:=RecAt.view ZT (by omega) K.full.desks rfl (by omega)
 cases hga
 have s0:=hc k hk 0 (.bool true) (by rw [<-uh Hop];rfl)
 simp only [Nat.add_zero] at s0
 have x1:=((uh HE).below K.bb).c2
 (refine tk 0 rfl (by assumption) ?_;(try simp only [Act.put,sA,sZ,sS]))
 (refine tk 1 rfl (by assumption) ?_;(try simp only [Act.put,sA,sZ,sS]))
 (refine tk 2 rfl (by assumption) ?_;(try simp only [Act.put,sA,sZ,sS]))
 (refine tk 3 rfl (by assumption) ?_;(try simp only [Act.put,sA,sZ,sS]))
 (refine tk 4 rfl (by assumption) ?_;(try simp only [Act.put,sA,sZ,sS]))
 refine wpAnyH_done (by kernel_rfl) ?_ _
 refine ZF rfl rfl ?_
 go_simp
 clear hHeld
 refine (XA _ _).mono ?_
 rintro e8 w8 ⟨rfl,h8⟩
 subst w8
 have f0:=hz (k*3)
 have K1:=K.putD rfl hk (i:=0) (by omega) (.bool false) (false,(Z8 m.desks k).2) rfl
 simp only [Nat.add_zero] at K1
 have hD:Zt m k false={ m with desks:=m.desks.set k (false,(Z8 m.desks k).2) }:=rfl
 rw [<-hD] at K1
 have HK:=Z9 K1
 clear K1 hc hz x1 hD
 go_upto_region 3 with fail
 clear s0 f0 K
 have K:=uh HK
 clear HK
 generalize W5.setCell ⟨g3,k*3,none⟩ (.bool false)=W6 at *
 have HLo:=Z9 (Ze (uh HM))
 have hd8:=(uh HLo).sane.eight
 have Hlen:Hid ((Zt m k false).desks.length=m.desks.length):=Z9 (Xv _ _ _)
 obtain ⟨c0,c1,c2,c3,c4,c5⟩:=K.cells
 have x1:=((uh HE).below K.bb).c5
 go_wp2_with fail
 refine ZU (S:=fun w'=>w'.cell? ⟨R,0,none⟩=some (.slice a0 m.rooms.length p0)/\w'.cell? ⟨R,1,none⟩=some (.slice a1 m.guilds.length p1)/\w'.cell? ⟨R,2,none⟩=some (.slice a2 m.smiths.length p2)/\w'.cell? ⟨R,3,none⟩=some (.slice (some ⟨g3,0,none⟩) m.desks.length p3)/\w'.cell? ⟨R,4,none⟩=some (.slice a4 m.paces.length p4)/\w'.cell? ⟨R,5,none⟩=some (.int .i64 m.now)/\w'.cell? ⟨2,0,none⟩=some (Zv (q 5))) (by kernel_rfl) (List.cons_ne_nil _ _) (by kernel_rfl) ⟨c0,c1,c2,c3,c4,c5,x1⟩ (fun hHeld=> ?_)
 simp only [List.dropLast_cons_cons,List.dropLast_singleton,List.length_cons,List.length_nil,Nat.zero_add,Nat.reduceAdd]
 replace K:=K.next ((Below.refl _ _).drew:Below W6.heap.size W6 W6.drew)
 clear c0 c1 c2 c3 c4 c5 x1
 generalize W6.drew=W7 at *
 obtain ⟨c0,c1,c2,c3,c4,c5⟩:=K.cells
 have x1:=((uh HE).below K.bb).c5
 (refine tk 0 rfl (by assumption) ?_;(try simp only [Act.put,sA,sZ,sS]))
 (refine tk 1 rfl (by assumption) ?_;(try simp only [Act.put,sA,sZ,sS]))
 (refine tk 2 rfl (by assumption) ?_;(try simp only [Act.put,sA,sZ,sS]))
 (refine tk 7 rfl (by assumption) ?_;(try simp only [Act.put,sA,sZ,sS]))
 refine wpAnyH_ready (rs:=[3]) (by kernel_rfl) (by simp) ?_
 refine AllReadyH.cons rfl (fun K0 hK=> ?_) AllReadyH.nil
 go_simp
 refine (Vx _ _ _ _ _ _ _ _ _ _ _ _ _ _ _ _ _).mono ?_
 rintro e9 w9 ⟨rfl,hb⟩
 replace K:=K.next hb
 clear hb
 clear c0 c1 c2 c3 c4 c5 x1
 obtain ⟨c0,c1,c2,c3,c4,c5⟩:=K.cells
 have x1:=((uh HE).below K.bb).c5
 refine hK.out _ _ ⟨c0,c1,c2,c3,c4,c5,x1⟩ (fun hHeld=> ?_)
 clear hK K0
 (try simp only [Act.put,sA,sZ,sS])
 refine wpAnyH_ready (rs:=[4]) (by kernel_rfl) (by simp) ?_
 refine AllReadyH.cons rfl (fun K0 hK=> ?_) AllReadyH.nil
 go_simp
 refine (R9 K.full.smy.desks (by rw [uh Hlen];omega)).mono ?_
 rintro e9 w9 ⟨v9,rfl,hn,hb⟩
 obtain ⟨na,nc,rfl⟩:=RecAt.shape hn
 replace K:=K.next hb
 clear hb hn
 have hgt:=Im hk
 generalize (ZZ VZ (Zt m k false).desks (Zt m k false).desks.length).length=n9 at *
 clear c0 c1 c2 c3 c4 c5 x1
 obtain ⟨c0,c1,c2,c3,c4,c5⟩:=K.cells
 have x1:=((uh HE).below K.bb).c5
 refine hK.out _ _ ⟨c0,c1,c2,c3,c4,c5,x1⟩ (fun hHeld=> ?_)
 clear hK K0
 (try simp only [Act.put,sA,sZ,sS])
 (refine tk 5 rfl (by assumption) ?_;(try simp only [Act.put,sA,sZ,sS]))
 (refine tk 6 rfl (by assumption) ?_;(try simp only [Act.put,sA,sZ,sS]))
 refine wpAnyH_done (by kernel_rfl) ?_ _
 refine ZF rfl rfl ?_
 go_simp
 clear hHeld
 (try rw [hgt])
 obtain ⟨ob,hob⟩:∃ b,decide (ZJ m k m.desks.length=0)=b:=⟨_,rfl⟩
 rw [hob]
 clear hgt
 cases ob
 rotate_left
 ·have hc0:Yi m (k:Int)=5:=by unfold Yi;rw [uh Hwq,Int.toNat_natCast,uh Hop];simp only [if_true];rw [if_pos (of_decide_eq_true hob)]
  refine (WZ (q 5) _).mono ?_
  rintro e8 w8 ⟨rfl,h8⟩
  subst w8
  go_wp2_with fail
  exact ⟨rfl,PChg.no K.bb K.fb hc0 (by omega)⟩
 have hop0:ZJ m k m.desks.length ≠ 0:=of_decide_eq_false hob
 have Hc0:Hid (Yi m (k:Int)=0):=Z9 (by unfold Yi;rw [uh Hwq,Int.toNat_natCast,uh Hop];simp only [if_true];rw [if_neg hop0])
 have HR:Hid (∀ j B,j<(atV m.smiths (k:Int) m.smiths.length).length->XQ (Zt m k false) (atV m.smiths (k:Int) m.smiths.length) j=B->_):=Z9 (fun j B hj hB=>IH (uh HLo) hk hop0 hj hB)
 refine (XA _ _).mono ?_
 rintro e8 w8 ⟨rfl,h8⟩
 subst w8
 clear hob hop0 x1
 go_wp2_with fail
 clear c0 c1 c2 c3 c4 c5
 refine (GQ (k:Int) K.full.smy (uh HLo)).mono ?_
 rintro e w10 ⟨v8,rfl,he,hb⟩
 obtain ⟨qa,qc,rfl⟩:=EntsAt.shape he
 have hle:(atV m.smiths (k:Int) m.smiths.length).length<=1000:=by
  have h1:=UG m.smiths (k:Int) m.smiths.length
  have h2:=(uh HLo).sane.few
  omega
 have KL:Ny (fun i t cs=>F i t cs\/((Value.slice qa (atV m.smiths (k:Int) m.smiths.length).length qc).ownBlock=some i/\Blk w10 i t cs)) w w10 R _ _ _ _ _ (Zt m k false) qs:=⟨(K.next hb).nx,fun i t cs hF=>by
  rcases hF with hF | ⟨h1,h2⟩
  ·exact (K.next hb).fx i t cs hF
  ·have h3:=(EntsAt.lt he h1).1
   exact ⟨h2,fun e=>by subst e;have:=K.blk.lt;omega,fun e=>by have:=(K.full.own e).2;omega⟩⟩
 have HE5:=Z9 he
 have HX:Hid (WW m (k:Int)=XQ (Zt m k false) (atV m.smiths (k:Int) m.smiths.length) (atV m.smiths (k:Int) m.smiths.length).length):=Z9 (by unfold WW;rw [Int.toNat_natCast])
 have hst:XQ (Zt m k false) (atV m.smiths (k:Int) m.smiths.length) 0=Zt m k false:=rfl
 have HK0:=Z9 KL
 clear he hb K KL
 obtain ⟨Q,hQ⟩:∃ q,atV m.smiths (k:Int) m.smiths.length=q:=⟨_,rfl⟩
 rw [hQ] at HE5 HK0 HX hst hle HR
 rw [hQ]
 clear hQ
 go_wp2_with fail
 go_loopw [34] (fun i wr=> ∃ j:Nat,j<=Q.length/\i= .int .i64 j/\Ny (fun i t cs=>F i t cs\/((Value.slice qa Q.length qc).ownBlock=some i/\Blk w10 i t cs)) w wr R (.slice a0 m.rooms.length p0) (.slice a1 m.guilds.length p1) (.slice a2 m.smiths.length p2) (.slice (some ⟨g3,0,none⟩) m.desks.length p3) (.slice a4 m.paces.length p4) (XQ (Zt m k false) Q j) qs) (fun i _=>Q.length-(intOf i).toNat)
 case atStart=>exact ⟨0,Nat.zero_le _,rfl,uh HK0⟩
 case round=>
  obtain ⟨j,hj,rfl,K⟩:=hrel
  clear HK0
  obtain ⟨B,hB⟩:∃ b,XQ (Zt m k false) Q j=b:=⟨_,rfl⟩
  rw [hB] at K
  by_cases hlt:j<Q.length
  ·have hlt1:(j:Int)<(Q.length:Int):=by omega
   obtain ⟨i,hi,hA,hbe,hdl,hch,hnx⟩:=uh HR j B hlt hB
   have hee:EntsAt _ wr _ Q:=Ej (uh HE5) (fun k t cs h1 h2=>(K.fx k t cs (.inr ⟨h1,h2⟩)).1)
   obtain ⟨_,_,hqe,_,_,hr⟩:=EntsAt.paces hee
   cases hqe
   rcases hr with e0 | ⟨eb,eo,rfl,hbw,hcl⟩
   ·rw [e0] at hlt;simp at hlt
   obtain ⟨d0,d1⟩:=hcl j hlt
   rw [hi] at d1
   obtain ⟨hv,hhv⟩:∃ x,(Z7 Q j).1=x:=⟨_,rfl⟩
   rw [hhv] at d0
   have HA:=Z9 hA
   have Hnx:=Z9 hnx
   have Hch:=Z9 hch
   have Hbe:=Z9 hbe
   have Hdl:=Z9 hdl
   clear hA hnx hch hbe hdl hi hhv hcl hee hB
   go_upto_region 7 with fail
   have hba:Below wr.heap.size wr (wr.alloc (.cells #[.int .i64 hv,.int .i64 (i:Int)] 94)):=(Below.refl _ _).alloc (Nat.le_refl _) _
   have ke:=Blk.new wr 94 #[.int .i64 hv,.int .i64 (i:Int)]
   replace K:=K.next hba
   clear d0 d1 hba
   generalize wr.alloc (.cells #[.int .i64 hv,.int .i64 (i:Int)] 94)=W9 at *
   generalize wr.heap.size=sb at *
   have d1:=ke.cell (i:=1) (v:= .int .i64 (i:Int)) rfl
   clear ke
   go_wp2_with fail
   refine (JK K (uh HA) (by rw [uh Hdl];omega) (uh Hbe) (by rw [uh Hdl];exact hk) (uh Hch)).mono ?_
   rintro e9 w11 ⟨rfl,K2⟩
   have HK2:=Z9 K2
   clear K K2 d1
   go_wp2_with fail
   go_roundw
   case rel=>exact ⟨j+1,by omega,by go_num,by rw [uh Hnx];exact uh HK2⟩
   case measure=>simp [intOf];omega
  ·obtain rfl:j=Q.length:=by omega
   have HK2:Hid (Ny F w wr R _ _ _ _ _ (WW m (k:Int)) qs):=Z9 ⟨by rw [uh HX,hB];exact K.nx,fun i t cs e=>K.fx i t cs (.inl e)⟩
   clear K hB
   go_wp2_with fail
   go_end0
   exact PChg.yes (uh HK2) (uh Hc0) rfl
end Go.Proofs.YtjhijildaceadaaGreatDoor
