/- Part 27 of what the proof rests on. No condition but those that a theorem names. -/
import Derived.Test.YtamgfpdahadnfaaGreatDoorXf22
import Derived.Test.YtamgfpdahadnfaaGreatDoorXf23
import Derived.Test.YtamgfpdahadnfaaGreatDoorXf24
import Derived.Test.YtamgfpdahadnfaaGreatDoorXf25
set_option maxHeartbeats 8000000
set_option maxRecDepth 100000
namespace Go.Proofs.YtamgfpdahadnfaaGreatDoor
open Go.ChangeShapes Go.WideShapes Go.ChangeAt Go.RowKit Go.Sort
set_option linter.unusedVariables false
set_option maxRecDepth 100000
variable {w w' w0 w1 w2 w3 w₀ wr W W' X A B C : World} {v v0 v1 v2 v3 v4 u u0 u1 u2 u3 u4 : Value} {m : Z6}
theorem K6  {r:Nat} (h:Smy w v0 v1 v2 v3 v4 m) (hS:Sane m) (hr:r<m.rm.length) :
  Calls Tryz.prog 282 #[.agg #[v0,v1,v2,v3,v4,.int .i64 m.now],.int .i64 (r:Int)] w fun e w'=>e= .returned (.int .i64 (SR m r))/\Below w.heap.size w w':=by
 have Hv:=Z9 (h.alloc (.cells #[v0,v1,v2,v3,v4,.int .i64 m.now] 32));obtain ⟨a0,p0,a1,p1,a2,p2,a3,p3,a4,p4,rfl,rfl,rfl,rfl,rfl,_,_,_,_,_,_,_,_,_,_⟩:=h.five;clear h;have kb:Hid (Blk (w.alloc (.cells (S6 a0 p0 a1 p1 a2 p2 a3 p3 a4 p4 m) 32)) w.heap.size 32 (S6 a0 p0 a1 p1 a2 p2 a3 p3 a4 p4 m)):=Z9 (Blk.new w _ _);have BB:Hid (Below w.heap.size w (w.alloc (.cells (S6 a0 p0 a1 p1 a2 p2 a3 p3 a4 p4 m) 32))):=Z9 ((ba _ _));obtain ⟨x,hx⟩:∃ x,SR m r=x:=⟨_,rfl⟩
 rw [hx];obtain ⟨ms,hms⟩:∃ q,usedIn m (r:Int) m.dk.length=q:=⟨_,rfl⟩
 have Hx:Hid (Xf (ZN m.rm r) ms.1=x):=Z9 (by rw [<-hx,<-hms];rfl);have Hms:=Z9 hms;have HS:=Z9 hS;have hr1:(r:Int)<(m.rm.length:Int):=by omega
 clear hx hms hS;obtain ⟨mo,al⟩:=ms;go_enter Tryz.func282,Tryz.ntmps282;go_wp2_with fail;generalize w.alloc (.cells (S6 a0 p0 a1 p1 a2 p2 a3 p3 a4 p4 m) 32)=W at *;refine (Oc (r:Int) (uh Hv) (uh HS)).mono ?_;rw [uh Hms];rintro e w1 ⟨rfl,hb⟩;replace Hv:=Z9 ((uh Hv).below hb);replace kb:=bl kb hb;replace BB:=bt BB hb;clear hb;obtain ⟨_,_,hre,_,_,r0⟩:=(uh Hv).rm;cases hre
 rcases r0 with e0 | ⟨rb,off,rfl,hbw,hcl⟩
 ·rw [e0] at hr;simp at hr
 obtain ⟨d0,pv,d1,hpv⟩:=hcl r hr;have Hpv:=Z9 hpv;obtain ⟨pa,pc,rfl,_,_,_⟩:=hpv;obtain ⟨⟨bn,ps⟩,hrm⟩:∃ q,ZN m.rm r=q:=⟨_,rfl⟩
 rw [hrm] at d0 d1 Hpv Hx;simp only at d0 d1;clear hcl hrm;have c0:=(uh kb).cell (i:=0) (v:= .slice (some ⟨rb,off,none⟩) m.rm.length p0) rfl;go_wp2_with fail;refine ck (R7 bn mo (uh Hpv)) fun w2 hb=> ?_;replace BB:=bt BB hb;clear hb;go_wp2_with fail;go_ret;exact ⟨ZA (uh Hx),uh BB⟩
theorem Rt  {b:Nat} (h:Smy w v0 v1 v2 v3 v4 m) (hb0:b<m.dk.length) (hl:m.sm.length<=800) :
  Calls Tryz.prog 87 #[.agg #[v0,v1,v2,v3,v4,.int .i64 m.now],.int .i64 (b:Int)] w fun e w'=>e= .returned (.bool (WH m b))/\Below w.heap.size w w':=by
 have Hv:=Z9 (h.alloc (.cells #[v0,v1,v2,v3,v4,.int .i64 m.now] 32));obtain ⟨a0,p0,a1,p1,a2,p2,a3,p3,a4,p4,rfl,rfl,rfl,rfl,rfl,_,_,_,_,_,_,_,_,_,_⟩:=h.five;clear h;have kb:Hid (Blk (w.alloc (.cells (S6 a0 p0 a1 p1 a2 p2 a3 p3 a4 p4 m) 32)) w.heap.size 32 (S6 a0 p0 a1 p1 a2 p2 a3 p3 a4 p4 m)):=Z9 (Blk.new w _ _);have BB:Hid (Below w.heap.size w (w.alloc (.cells (S6 a0 p0 a1 p1 a2 p2 a3 p3 a4 p4 m) 32))):=Z9 ((ba _ _));have hb1:(b:Int)<(m.dk.length:Int):=by omega
 obtain ⟨qs,hqs⟩:∃ q,atV m.sm (b:Int) m.sm.length=q:=⟨_,rfl⟩
 obtain ⟨op,hop⟩:∃ q,(Z8 m.dk b).1=q:=⟨_,rfl⟩
 have hI:WH m b=(op && decide (qs.length=0)):=by unfold WH;rw [hqs,hop]
 rw [hI];have Hqs:=Z9 hqs;have Hop:=Z9 hop;clear hI hqs hop;go_enter Tryz.func87,Tryz.ntmps87;go_upto_region 1 with fail;generalize w.alloc (.cells (S6 a0 p0 a1 p1 a2 p2 a3 p3 a4 p4 m) 32)=W at *;obtain ⟨_,_,hde,_,_,r3⟩:=(uh Hv).dk;cases hde
 rcases r3 with e0 | ⟨db,off,rfl,hbw,hcl⟩
 ·rw [e0] at hb0;simp at hb0
 obtain ⟨d0,_,_⟩:=Y2 hcl hb0;rw [uh Hop] at d0;clear hcl Hop;obtain ⟨c0,c1,c2,c3,c4,c5⟩:=(uh kb).c6;cases op
 ·go_wp2_with fail
  go_ret;exact ⟨rfl,uh BB⟩
 go_wp2_with fail;refine (Tc (b:Int) (uh Hv) (by omega)).mono ?_;rw [uh Hqs];rintro e w2 ⟨v',rfl,he,hb⟩;obtain ⟨ua,uc,rfl⟩:=EntsAt.shape he;replace BB:=bt BB hb;clear hb he c0 c1 c2 c3 c4 c5;go_wp2_with fail;go_ret;exact ⟨Z5 (by rw [Bool.true_and,Bool.eq_iff_iff];simp only [beq_iff_eq,YZ];omega),uh BB⟩
set_option maxRecDepth 100000
theorem NT  (h:Smy w v0 v1 v2 v3 v4 m) :
  Calls Tryz.prog 284 #[.agg #[v0,v1,v2,v3,v4,.int .i64 m.now]] w fun e w'=>e= .returned (CL (Vd m))/\Below w.heap.size w w':=by
 have Hv0:=Z9 (h.alloc (.cells #[v0,v1,v2,v3,v4,.int .i64 m.now] 32));obtain ⟨a0,p0,a1,p1,a2,p2,a3,p3,a4,p4,rfl,rfl,rfl,rfl,rfl,_,_,_,_,_,_,_,_,_,_⟩:=h.five;clear h;obtain ⟨BB0,kb0⟩:=V9 w 32 (S6 a0 p0 a1 p1 a2 p2 a3 p3 a4 p4 m);obtain ⟨tv,htv⟩:∃ t,CL (Vd m)=t:=⟨_,rfl⟩
 rw [htv];obtain ⟨ok,hok⟩:∃ q,ZF m=q:=⟨_,rfl⟩
 have Hok:=Z9 hok;have HT:=Z9 htv;clear hok htv;cases ok
 ·obtain rfl:tv= .tuple #[.int .i64 0,.int .i64 0,.bool false]:=by rw [<-uh HT];unfold Vd;rw [uh Hok];rfl
  go_enter Tryz.func284,Tryz.ntmps284;go_wp2_with fail
  go_loopw [5] (fun i wr=>i= .int .i64 0/\Blk wr w.heap.size 32 (S6 a0 p0 a1 p1 a2 p2 a3 p3 a4 p4 m)/\Smy wr (.slice a0 m.rm.length p0) (.slice a1 m.gd.length p1) (.slice a2 m.sm.length p2) (.slice a3 m.dk.length p3) (.slice a4 m.pc.length p4) m/\Below w.heap.size w wr) (fun _ _=>1)
  case atStart=>exact ⟨rfl,uh kb0,uh Hv0,uh BB0⟩
  case round=>
   obtain ⟨rfl,hkb,hv,hb0⟩:=hrel;have kb:=Z9 hkb;have Hv:=Z9 hv;have BB:=Z9 hb0;clear hkb hv hb0 kb0 Hv0 BB0;obtain ⟨c0,c1,c2,c3,c4,c5⟩:=(uh kb).c6;by_cases hlt:0<m.dk.length
   ·have hlt1:(0:Int)<(m.dk.length:Int):=by omega
    go_wp2_with fail;refine ck (Xx (uh Hok) (uh Hv)) fun w1 hb=> ?_;replace BB:=bt BB hb;clear hb;go_wp2_with fail;refine ZQ (v:= .tuple #[.int .i64 0,.int .i64 0,.bool false]) (by simp [results,Tryz.results284,go_sem]) rfl ⟨rfl,uh BB⟩
   ·have hlt1:¬ ((0:Int)<(m.dk.length:Int)):=by omega
    go_wp2_with fail;refine ZQ (v:= .tuple #[.int .i64 0,.int .i64 0,.bool false]) (by simp [results,Tryz.results284,go_sem]) rfl ⟨rfl,uh BB⟩
 have hlo:=ZM (uh Hok);have HLo:=Z9 hlo;have h12:=YO hlo;have h8:=VQ hlo;clear hlo;have HW:Hid (tv=CL (Wo m m.dk.length)):=Z9 (by rw [<-uh HT];unfold Vd;rw [uh Hok];rfl);clear HT;go_enter Tryz.func284,Tryz.ntmps284;go_wp2_with fail
 go_loopw [5] (fun i wr=> ∃ k:Nat,k<=m.dk.length/\i= .int .i64 k/\Wo m k=none/\Blk wr w.heap.size 32 (S6 a0 p0 a1 p1 a2 p2 a3 p3 a4 p4 m)/\Smy wr (.slice a0 m.rm.length p0) (.slice a1 m.gd.length p1) (.slice a2 m.sm.length p2) (.slice a3 m.dk.length p3) (.slice a4 m.pc.length p4) m/\Below w.heap.size w wr) (fun i _=>m.dk.length-(intOf i).toNat)
 case atStart=>exact ⟨0,Zz _,rfl,rfl,uh kb0,uh Hv0,uh BB0⟩
 case round=>
  obtain ⟨k,hk,rfl,hno,hkb,hv,hb0⟩:=hrel;have Hno:=Z9 hno;clear hno;have kb:=Z9 hkb;have Hv:=Z9 hv;have BB:=Z9 hb0;clear hkb hv hb0;clear kb0 Hv0 BB0;obtain ⟨c0,c1,c2,c3,c4,c5⟩:=(uh kb).c6;by_cases hlt:k<m.dk.length;rotate_left
  ·have hlt1:¬ ((k:Int)<(m.dk.length:Int)):=by omega
   obtain rfl:k=m.dk.length:=by omega
   obtain rfl:tv= .tuple #[.int .i64 0,.int .i64 0,.bool false]:=by rw [uh HW,uh Hno];rfl
   go_wp2_with fail;refine ZQ (v:= .tuple #[.int .i64 0,.int .i64 0,.bool false]) (by simp [results,Tryz.results284,go_sem]) rfl ⟨rfl,uh BB⟩
  have hlt1:(k:Int)<(m.dk.length:Int):=by omega
  go_wp2_with fail;refine ck (Xx (uh Hok) (uh Hv)) fun w1 hb=> ?_;replace Hv:=Z9 ((uh Hv).below hb);replace kb:=bl kb hb;replace BB:=bt BB hb;clear hb c0 c1 c2 c3 c4 c5;obtain ⟨qi,hqi⟩:∃ q,WH m k=q:=⟨_,rfl⟩
  have Hqi:=Z9 hqi;clear hqi;have HN:Hid (∀ w9,Pe m k=w9->Wo m (k+1)=w9.map fun x=>(x,k)):=Z9 (fun w9 e=>by unfold Wo;rw [uh Hno,e]);obtain ⟨c0,c1,c2,c3,c4,c5⟩:=(uh kb).c6;go_wp2_with fail;refine (Rt (uh Hv) hlt (by omega)).mono ?_;rw [uh Hqi];rintro e w2 ⟨rfl,hb⟩;replace Hv:=Z9 ((uh Hv).below hb);replace kb:=bl kb hb;replace BB:=bt BB hb;clear hb c0 c1 c2 c3 c4 c5;cases qi
  ·go_wp2_with fail
   go_roundw
   case rel=>exact ⟨k+1,by omega,by go_num,by rw [uh HN none (by unfold Pe;rw [uh Hqi];rfl)];rfl,uh kb,uh Hv,uh BB⟩
   case measure=>exact ms
  go_wp2_with fail
  go_loopw [6] (fun i wr=> ∃ j:Nat,j<=m.sm.length/\i= .int .i64 j/\UY m k j=none/\Blk wr w.heap.size 32 (S6 a0 p0 a1 p1 a2 p2 a3 p3 a4 p4 m)/\Smy wr (.slice a0 m.rm.length p0) (.slice a1 m.gd.length p1) (.slice a2 m.sm.length p2) (.slice a3 m.dk.length p3) (.slice a4 m.pc.length p4) m/\Below w.heap.size w wr) (fun i _=>m.sm.length-(intOf i).toNat)
  case atStart=>exact ⟨0,Zz _,rfl,rfl,uh kb,uh Hv,uh BB⟩
  case round=>
   obtain ⟨j,hj,rfl,hno2,hkb,hv,hb0⟩:=hrel;have Hno2:=Z9 hno2;clear hno2 kb Hv BB;have kb:=Z9 hkb;have Hv:=Z9 hv;have BB:=Z9 hb0;clear hkb hv hb0;obtain ⟨c0,c1,c2,c3,c4,c5⟩:=(uh kb).c6;by_cases hlj:j<m.sm.length;rotate_left
   ·have hlj1:¬ ((j:Int)<(m.sm.length:Int)):=by omega
    obtain rfl:j=m.sm.length:=by omega
    go_wp2_with fail;go_roundw
    case rel=>exact ⟨k+1,by omega,by go_num,by rw [uh HN none (by unfold Pe;rw [uh Hqi];exact uh Hno2)];rfl,uh kb,uh Hv,uh BB⟩
    case measure=>exact ms
   have hlj1:(j:Int)<(m.sm.length:Int):=by omega
   have HS:Hid (∀ q,Ot m j k=q->UY m k (j+1)=if q then some j else none):=Z9 (fun q e=>by unfold UY;rw [uh Hno2,e]);have HB:Hid (Ot m j k=((Z8 m.sm j).1 ==2 && YK m (j:Int) k)):=Z9 rfl;obtain ⟨_,_,hse,_,_,r2⟩:=(uh Hv).sm;cases hse
   rcases r2 with e0 | ⟨sb,off,rfl,hbw,hcl⟩
   ·rw [e0] at hlj;simp at hlj
   obtain ⟨d0,_⟩:=Zx hcl hlj;clear hcl;obtain ⟨st,hst⟩:∃ q,(Z8 m.sm j).1=q:=⟨_,rfl⟩
   rw [hst] at d0;by_cases h2:st=2;rotate_left
   ·have hn2:(st ==2)=false:=by simpa using h2
    have HB2:Hid (Ot m j k=false):=Z9 (by rw [uh HB,hst,hn2];rfl);clear hst;go_wp2_with fail;go_roundw
    case rel=>exact ⟨j+1,by omega,by go_num,by rw [uh HS _ (uh HB2)];rfl,uh kb,uh Hv,uh BB⟩
    case measure=>exact ms
   subst h2;have hlim:=(uh HLo).limits hlj (by rw [hst];omega)
   have hmy:0<=(Z8 m.sm j).2.2.2.1/\(Z8 m.sm j).2.2.2.1<=255:=by
    have hp:=hlim.1;generalize Z8 m.sm j=s at *;obtain ⟨st,be,rk,my,gu,lo',hi',hd,ca,ut,wk⟩:=s;have:=(Zj hp).2.2.2.1;exact ⟨by show 0<=my;omega,this.2⟩
   obtain ⟨qm,hqm⟩:∃ q,YK m (j:Int) k=q:=⟨_,rfl⟩
   have Hqm:=Z9 hqm;have HB2:Hid (Ot m j k=qm):=Z9 (by rw [uh HB,hst,hqm];rfl);have HM:=Z9 (fun (X:World) (hX:Smy X (.slice a0 m.rm.length p0) (.slice a1 m.gd.length p1) (.slice (some ⟨sb,off,none⟩) m.sm.length p2) (.slice a3 m.dk.length p3) (.slice a4 m.pc.length p4) m)=>Ss hX hlj hlt (by omega) hmy.1 hmy.2);clear hst hlim hmy hqm;go_wp2_with fail;refine (uh HM _ (uh Hv)).mono ?_;rw [uh Hqm];rintro e w3 ⟨rfl,hb⟩;replace Hv:=Z9 ((uh Hv).below hb);replace kb:=bl kb hb;replace BB:=bt BB hb;clear hb c0 c1 c2 c3 c4 c5 d0 HM;cases qm
   ·go_wp2_with fail
    go_roundw
    case rel=>exact ⟨j+1,by omega,by go_num,by rw [uh HS _ (uh HB2)];rfl,uh kb,uh Hv,uh BB⟩
    case measure=>exact ms
   have HR:Hid (tv= .tuple #[.int .i64 (j:Int),.int .i64 (k:Int),.bool true]):=Z9 (by
    rw [uh HW,Fv (k:=k+1) (w:=j) (b:=k) (by rw [uh HN (some j) (by unfold Pe;rw [uh Hqi];exact CU (k:=j+1) (by rw [uh HS _ (uh HB2)];rfl) (by omega))];rfl) (by omega)]
    rfl)
   obtain rfl:=uh HR;go_wp2_with fail;refine ZQ (v:= .tuple #[.int .i64 (j:Int),.int .i64 (k:Int),.bool true]) (by simp [results,Tryz.results284,go_sem]) rfl ⟨rfl,uh BB⟩
set_option maxRecDepth 100000
theorem MZ  (h:Smy w v0 v1 v2 v3 v4 m) :
  Calls Tryz.prog 283 #[.agg #[v0,v1,v2,v3,v4,.int .i64 m.now]] w fun e w'=>e= .returned (CL (UH m))/\Below w.heap.size w w':=by
 have Hv0:=Z9 (h.alloc (.cells #[v0,v1,v2,v3,v4,.int .i64 m.now] 32));obtain ⟨a0,p0,a1,p1,a2,p2,a3,p3,a4,p4,rfl,rfl,rfl,rfl,rfl,_,_,_,_,_,_,_,_,_,_⟩:=h.five;clear h;obtain ⟨BB0,kb0⟩:=V9 w 32 (S6 a0 p0 a1 p1 a2 p2 a3 p3 a4 p4 m);obtain ⟨tv,htv⟩:∃ t,CL (UH m)=t:=⟨_,rfl⟩
 rw [htv];obtain ⟨ok,hok⟩:∃ q,ZF m=q:=⟨_,rfl⟩
 have Hok:=Z9 hok;have HT:=Z9 htv;clear hok htv;cases ok
 ·obtain rfl:tv= .tuple #[.int .i64 0,.int .i64 0,.bool false]:=by rw [<-uh HT];unfold UH;rw [uh Hok];rfl
  go_enter Tryz.func283,Tryz.ntmps283;go_wp2_with fail
  go_loopw [5] (fun i wr=>i= .int .i64 0/\Blk wr w.heap.size 32 (S6 a0 p0 a1 p1 a2 p2 a3 p3 a4 p4 m)/\Smy wr (.slice a0 m.rm.length p0) (.slice a1 m.gd.length p1) (.slice a2 m.sm.length p2) (.slice a3 m.dk.length p3) (.slice a4 m.pc.length p4) m/\Below w.heap.size w wr) (fun _ _=>1)
  case atStart=>exact ⟨rfl,uh kb0,uh Hv0,uh BB0⟩
  case round=>
   obtain ⟨rfl,hkb,hv,hb0⟩:=hrel;have kb:=Z9 hkb;have Hv:=Z9 hv;have BB:=Z9 hb0;clear hkb hv hb0 kb0 Hv0 BB0;obtain ⟨c0,c1,c2,c3,c4,c5⟩:=(uh kb).c6;by_cases hlt:0<m.sm.length
   ·have hlt1:(0:Int)<(m.sm.length:Int):=by omega
    go_wp2_with fail;refine ck (Xx (uh Hok) (uh Hv)) fun w1 hb=> ?_;replace BB:=bt BB hb;clear hb;go_wp2_with fail;refine ZQ (v:= .tuple #[.int .i64 0,.int .i64 0,.bool false]) (by simp [results,Tryz.results283,go_sem]) rfl ⟨rfl,uh BB⟩
   ·have hlt1:¬ ((0:Int)<(m.sm.length:Int)):=by omega
    go_wp2_with fail;refine ZQ (v:= .tuple #[.int .i64 0,.int .i64 0,.bool false]) (by simp [results,Tryz.results283,go_sem]) rfl ⟨rfl,uh BB⟩
 have hlo:=ZM (uh Hok);have HLo:=Z9 hlo;have HSa:=Z9 hlo.sane;have h12:=YO hlo;have h8:=VQ hlo;clear hlo;have HW:Hid (tv=CL (Tg m m.sm.length)):=Z9 (by rw [<-uh HT];unfold UH;rw [uh Hok];rfl);clear HT;go_enter Tryz.func283,Tryz.ntmps283;go_wp2_with fail
 go_loopw [5] (fun i wr=> ∃ k:Nat,k<=m.sm.length/\i= .int .i64 k/\Tg m k=none/\Blk wr w.heap.size 32 (S6 a0 p0 a1 p1 a2 p2 a3 p3 a4 p4 m)/\Smy wr (.slice a0 m.rm.length p0) (.slice a1 m.gd.length p1) (.slice a2 m.sm.length p2) (.slice a3 m.dk.length p3) (.slice a4 m.pc.length p4) m/\Below w.heap.size w wr) (fun i _=>m.sm.length-(intOf i).toNat)
 case atStart=>exact ⟨0,Zz _,rfl,rfl,uh kb0,uh Hv0,uh BB0⟩
 case round=>
  obtain ⟨k,hk,rfl,hno,hkb,hv,hb0⟩:=hrel;have Hno:=Z9 hno;clear hno;have kb:=Z9 hkb;have Hv:=Z9 hv;have BB:=Z9 hb0;clear hkb hv hb0;clear kb0 Hv0 BB0;obtain ⟨c0,c1,c2,c3,c4,c5⟩:=(uh kb).c6;by_cases hlt:k<m.sm.length;rotate_left
  ·have hlt1:¬ ((k:Int)<(m.sm.length:Int)):=by omega
   obtain rfl:k=m.sm.length:=by omega
   obtain rfl:tv= .tuple #[.int .i64 0,.int .i64 0,.bool false]:=by rw [uh HW,uh Hno];rfl
   go_wp2_with fail;refine ZQ (v:= .tuple #[.int .i64 0,.int .i64 0,.bool false]) (by simp [results,Tryz.results283,go_sem]) rfl ⟨rfl,uh BB⟩
  have hlt1:(k:Int)<(m.sm.length:Int):=by omega
  go_wp2_with fail;refine ck (Xx (uh Hok) (uh Hv)) fun w1 hb=> ?_;replace Hv:=Z9 ((uh Hv).below hb);replace kb:=bl kb hb;replace BB:=bt BB hb;clear hb c0 c1 c2 c3 c4 c5;have HN:Hid (∀ w9,PB m k=w9->Tg m (k+1)=w9.map fun x=>(k,x)):=Z9 (fun w9 e=>by unfold Tg;rw [uh Hno,e]);have HMB:Hid (QC m k=(ZR (Z8 m.sm k) && !Ww (Zu m (k:Int)) 0 (Zb m.rm (Z8 m.sm k).2.1))):=Z9 rfl;obtain ⟨_,_,hse,_,_,r2⟩:=(uh Hv).sm;cases hse
  rcases r2 with e0 | ⟨sb,off,rfl,hbw,hcl⟩
  ·rw [e0] at hlt;simp at hlt
  obtain ⟨d0,d1,d2,d3,d4,d5,d6,d7,d8,d9,d10⟩:=Zx hcl hlt;clear hcl;obtain ⟨ps,hps⟩:∃ q,ZR (Z8 m.sm k)=q:=⟨_,rfl⟩
  obtain ⟨fi,hfi⟩:∃ q,Ww (Zu m (k:Int)) 0 (Zb m.rm (Z8 m.sm k).2.1)=q:=⟨_,rfl⟩
  have HM2:Hid (QC m k=(ps && !fi)):=Z9 (by rw [uh HMB,hps,hfi]);have HP0:=Z9 hps
  have HA1:Hid (ps=true->0<=(Z8 m.sm k).2.1/\(Z8 m.sm k).2.1<m.dk.length/\ -1<=(Z8 m.sm k).2.2.2.2.1/\(Z8 m.sm k).2.2.2.2.1<m.gd.length/\0<=(Z8 m.sm k).2.2.2.1/\(Z8 m.sm k).2.2.2.1<=255):=Z9 (fun e=>by
   have hp:=(uh HP0).trans e;have h1:=(uh HLo).at hlt hp;have h2:=(uh HLo).limits hlt (Js hp);have h3:=h2.1;have h4:=h2.2.1;have a0:=h1.1;have a1:=h1.2.1;generalize Z8 m.sm k=s at *;obtain ⟨st,be,rk,my,gu,lo',hi',hd,ca,ut,wk⟩:=s;have h5:=Zj h3
   exact ⟨a0,a1,h5.2.2.2.2.1.1,h4,by show 0<=my;omega,h5.2.2.2.1.2⟩)
  have HG:=Z9 (uh HSa).guilded.gd;have Hwa:=Z9 (fun (e:ps=true) (X:World) (hX:Smy X (.slice a0 m.rm.length p0) (.slice a1 m.gd.length p1) (.slice (some ⟨sb,off,none⟩) m.sm.length p2) (.slice a3 m.dk.length p3) (.slice a4 m.pc.length p4) m)=>Rs hX (uh HG) hlt (uh HA1 e).2.2.1 (uh HA1 e).2.2.2.1)
  have Hfo:=Z9 (fun (e:ps=true) (X:World) (hX:Smy X (.slice a0 m.rm.length p0) (.slice a1 m.gd.length p1) (.slice (some ⟨sb,off,none⟩) m.sm.length p2) (.slice a3 m.dk.length p3) (.slice a4 m.pc.length p4) m)=>U6 (Z8 m.sm k).2.1 hX.rm (by
   have h9:=uh HA1 e;obtain ⟨j9,e9⟩:∃ j:Nat,(Z8 m.sm k).2.1=(j:Int):=⟨(Z8 m.sm k).2.1.toNat,by omega⟩
   rw [e9]
   exact (uh HSa).bench (by omega)))
  have HFv:Hid (ps=true->Vq (ZN m.rm (Xg m.rm (Z8 m.sm k).2.1)).2=Zb m.rm (Z8 m.sm k).2.1):=Z9 (fun e=>(S8 (by
   have h9:=uh HA1 e;obtain ⟨j9,e9⟩:∃ j:Nat,(Z8 m.sm k).2.1=(j:Int):=⟨(Z8 m.sm k).2.1.toNat,by omega⟩
   rw [e9]
   exact (uh HSa).bench (by omega))).symm)
  have Hmy:=Z9 (fun (e:ps=true)=>(uh HA1 e).2.2.2.2);obtain ⟨⟨st,be,rk,my,gu,lo,hi,hd,ca,ut,wk⟩,hrk⟩:∃ d,Z8 m.sm k=d:=⟨_,rfl⟩
  rw [hrk] at d0 d1 d2 d3 d4 d5 d6 d7 d8 d9 d10 hps hfi Hfo HFv;simp only at d0 d1 d2 d3 d4 d5 d6 d7 d8 d9 d10 hfi Hfo HFv;have Hps:=Z9 hps;have Hfi:=Z9 hfi;have Hrk:=Z9 hrk;clear hps hfi hrk HMB HP0;have hsbw:sb<w1.heap.size:=hbw;obtain ⟨c0,c1,c2,c3,c4,c5⟩:=(uh kb).c6;go_upto_region 5 with fail;clear d0 d1 d2 d3 d4 d5 d6 d7 d8 d9 d10 c0 c1 c2 c3 c4 c5;obtain ⟨WQ,hWQ,hba,ks⟩:=Yz w1 40 (I11 st be rk my gu lo hi hd ca ut wk);replace Hv:=Z9 ((uh Hv).below hba);replace kb:=bl kb hba;replace BB:=bt BB hba;clear hba hsbw hbw;rw [hWQ];clear hWQ;generalize w1.heap.size=sx at *;obtain ⟨c0,c1,c2,c3,c4,c5⟩:=(uh kb).c6;have y0:=ZY c0;have y1:=ZY c1;have y2:=ZY c2;have y3:=ZY c3;have y4:=ZY c4;have y5:=ZY c5;have s0:=ZY ((uh ks).cell (i:=0) (v:= .int .i64 st) rfl);have s1:=ZY ((uh ks).cell (i:=1) (v:= .int .i64 be) rfl);have s2:=ZY ((uh ks).cell (i:=2) (v:= .int .i64 rk) rfl);have s3:=ZY ((uh ks).cell (i:=3) (v:= .int .i64 my) rfl);have s4:=ZY ((uh ks).cell (i:=4) (v:= .int .i64 gu) rfl);have s5:=ZY ((uh ks).cell (i:=5) (v:= .int .i64 lo) rfl);have s6:=ZY ((uh ks).cell (i:=6) (v:= .int .i64 hi) rfl);have s7:=ZY ((uh ks).cell (i:=7) (v:= .int .i64 hd) rfl);have s8:=ZY ((uh ks).cell (i:=8) (v:= .int .i64 ca) rfl);have s9:=ZY ((uh ks).cell (i:=9) (v:= .int .i64 ut) rfl);have s10:=ZY ((uh ks).cell (i:=10) (v:= .int .i64 wk) rfl);have H1:=Z9 (fun (X:World)=>Yt (uh Hps) X);cases ps
  ·have hm0:PB m k=none:=by unfold PB;rw [uh HM2];rfl
   have Hm0:=Z9 hm0;clear hm0;go_wp2_with fail;refine wq ?_
   repeat (go_big_quiet_step (first | exact ZX (uh H1 _)))
   refine wqn fun W9 hb=> ?_;replace Hv:=Z9 ((uh Hv).below hb);replace kb:=bl kb hb;replace BB:=bt BB hb;clear hb;go_wp2_with fail;go_roundw
   case rel=>exact ⟨k+1,by omega,by go_num,by rw [uh HN none (uh Hm0)];rfl,uh kb,uh Hv,uh BB⟩
   case measure=>exact ms
  have H2:=Z9 (fun (X:World) (hX:Below WQ.heap.size WQ X)=>uh Hwa rfl X ((uh Hv).below hX));have H3:=Z9 (fun (X:World) (hX:Below WQ.heap.size WQ X)=>uh Hfo rfl X ((uh Hv).below hX));rw [uh HFv rfl] at H3;have H4:=Z9 (fun (X:World)=>Calls.bool_of (Calls.same_below (Up (Zu m (k:Int)) 0 (Zb m.rm be) X)) (uh Hfi));have Hmy2:=Z9 (uh Hmy rfl);obtain ⟨wa,hwa⟩:∃ q,Zu m (k:Int)=q:=⟨_,rfl⟩
  obtain ⟨fo,hfo⟩:∃ q,Zb m.rm be=q:=⟨_,rfl⟩
  have HWb:=Z9 (fun (X:World) (hX:Smy X (.slice a0 m.rm.length p0) (.slice a1 m.gd.length p1) (.slice (some ⟨sb,off,none⟩) m.sm.length p2) (.slice a3 m.dk.length p3) (.slice a4 m.pc.length p4) m)=>uh Hwa rfl X hX);rw [hwa] at H2 H4 HWb;rw [hfo] at H3 H4;have HWa:=Z9 hwa;clear hwa hfo Hwa Hfo HFv Hmy;cases fi;rotate_left
  ·have hm0:PB m k=none:=by unfold PB;rw [uh HM2];rfl
   have Hm0:=Z9 hm0;clear hm0;go_wp2_with fail;refine wq ?_
   repeat (go_big_quiet_step (first | exact ZX (uh H1 _) | exact ZX (uh H2 _ (Z0 _ _ _)) | exact ZX (uh H3 _ (Z0 _ _ _)) | exact ZX (uh H4 _)))
   refine wqn fun W9 hb=> ?_;replace Hv:=Z9 ((uh Hv).below hb);replace kb:=bl kb hb;replace BB:=bt BB hb;clear hb;go_wp2_with fail;go_roundw
   case rel=>exact ⟨k+1,by omega,by go_num,by rw [uh HN none (uh Hm0)];rfl,uh kb,uh Hv,uh BB⟩
   case measure=>exact ms
  have HMA:Hid (PB m k=Vk m k m.dk.length):=Z9 (by unfold PB;rw [uh HM2];rfl);go_wp2_with fail;refine wq ?_
  repeat (go_big_quiet_step (first | exact ZX (uh H1 _) | exact ZX (uh H2 _ (Z0 _ _ _)) | exact ZX (uh H3 _ (Z0 _ _ _)) | exact ZX (uh H4 _)))
  refine wqn fun W9 hb=> ?_;replace Hv:=Z9 ((uh Hv).below hb);replace kb:=bl kb hb;replace BB:=bt BB hb;clear hb c0 c1 c2 c3 c4 c5 s0 s1 s2 s3 s4 s5 s6 s7 s8 s9 s10 y0 y1 y2 y3 y4 y5 H1 H2 H3 H4 ks;go_wp2_with fail
  go_loopw [7] (fun i wr=> ∃ j:Nat,j<=m.dk.length/\i= .int .i64 j/\Vk m k j=none/\Blk wr w.heap.size 32 #[.slice a0 m.rm.length p0,.slice a1 m.gd.length p1,.slice (some ⟨sb,off,none⟩) m.sm.length p2,.slice a3 m.dk.length p3,.slice a4 m.pc.length p4,.int .i64 m.now]/\Smy wr (.slice a0 m.rm.length p0) (.slice a1 m.gd.length p1) (.slice (some ⟨sb,off,none⟩) m.sm.length p2) (.slice a3 m.dk.length p3) (.slice a4 m.pc.length p4) m/\Below w.heap.size w wr) (fun i _=>m.dk.length-(intOf i).toNat)
  case atStart=>exact ⟨0,Zz _,rfl,rfl,uh kb,uh Hv,uh BB⟩
  case round=>
   obtain ⟨j,hj,rfl,hno2,hkb,hv,hb0⟩:=hrel;have Hno2:=Z9 hno2;obtain ⟨WQ,rfl⟩:∃ x,x=wr:=⟨wr,rfl⟩
   clear hno2 kb Hv BB;have kb:=Z9 hkb;have Hv:=Z9 hv;have BB:=Z9 hb0;clear hkb hv hb0;obtain ⟨c0,c1,c2,c3,c4,c5⟩:=(uh kb).c6;by_cases hlj:j<m.dk.length;rotate_left
   ·have hlj1:¬ ((j:Int)<(m.dk.length:Int)):=by omega
    obtain rfl:j=m.dk.length:=by omega
    go_wp2_with fail;go_roundw
    case rel=>exact ⟨k+1,by omega,by go_num,by rw [uh HN none (by rw [uh HMA];exact uh Hno2)];rfl,uh kb,uh Hv,uh BB⟩
    case measure=>exact ms
   have hlj1:(j:Int)<(m.dk.length:Int):=by omega
   have HS:Hid (∀ q,L6 m k j=q->Vk m k (j+1)=if q then some j else none):=Z9 (fun q e=>by unfold Vk;rw [uh Hno2,e]);obtain ⟨qi,hqi⟩:∃ q,WH m j=q:=⟨_,rfl⟩
   obtain ⟨qm,hqm⟩:∃ q,YK m (k:Int) j=q:=⟨_,rfl⟩
   obtain ⟨qf,hqf⟩:∃ q,Ww wa 0 (Zb m.rm (j:Int))=q:=⟨_,rfl⟩
   have HB2:Hid (L6 m k j=(qi && (qm && qf))):=Z9 (by unfold L6;rw [hqi,hqm,uh HWa,hqf]);have hfov:=S8 ((uh HSa).bench hlj);have H1:=Z9 (fun (X:World) (hX:Below WQ.heap.size WQ X)=>Calls.bool_of (Rt ((uh Hv).below hX) hlj (by omega)) hqi);have H2:=Z9 (fun (X:World) (hX:Below WQ.heap.size WQ X)=>Calls.bool_of (Ss ((uh Hv).below hX) hlt hlj (by omega) (uh Hmy2).1 (uh Hmy2).2) hqm);have H3:=Z9 (fun (X:World) (hX:Below WQ.heap.size WQ X)=>uh HWb X ((uh Hv).below hX));have H4:=Z9 (fun (X:World) (hX:Below WQ.heap.size WQ X)=>U6 (j:Int) ((uh Hv).below hX).rm ((uh HSa).bench hlj));rw [<-hfov] at H4;have H5:=Z9 (fun (X:World)=>Calls.bool_of (Calls.same_below (Up wa 0 (Zb m.rm (j:Int)) X)) hqf);clear hqi hqm hqf hfov;generalize Zb m.rm (j:Int)=fj at *;have y0:=ZY c0;have y1:=ZY c1;have y2:=ZY c2;have y3:=ZY c3;have y4:=ZY c4;have y5:=ZY c5;cases qi
   ·go_wp2_with fail
    refine wq ?_
    repeat (go_big_quiet_step (first | exact ZX (uh H1 _ (Z0 _ _ _)) | exact ZX (uh H2 _ (Z0 _ _ _)) | exact ZX (uh H3 _ (Z0 _ _ _)) | exact ZX (uh H4 _ (Z0 _ _ _)) | exact ZX (uh H5 _)))
    refine wqn fun W9 hb=> ?_;replace Hv:=Z9 ((uh Hv).below hb);replace kb:=bl kb hb;replace BB:=bt BB hb;clear hb;go_wp2_with fail;go_roundw
    case rel=>exact ⟨j+1,by omega,by go_num,by rw [uh HS _ (uh HB2)];rfl,uh kb,uh Hv,uh BB⟩
    case measure=>exact ms
   cases qm
   ·go_wp2_with fail
    refine wq ?_
    repeat (go_big_quiet_step (first | exact ZX (uh H1 _ (Z0 _ _ _)) | exact ZX (uh H2 _ (Z0 _ _ _)) | exact ZX (uh H3 _ (Z0 _ _ _)) | exact ZX (uh H4 _ (Z0 _ _ _)) | exact ZX (uh H5 _)))
    refine wqn fun W9 hb=> ?_;replace Hv:=Z9 ((uh Hv).below hb);replace kb:=bl kb hb;replace BB:=bt BB hb;clear hb;go_wp2_with fail;go_roundw
    case rel=>exact ⟨j+1,by omega,by go_num,by rw [uh HS _ (uh HB2)];rfl,uh kb,uh Hv,uh BB⟩
    case measure=>exact ms
   cases qf
   ·go_wp2_with fail
    refine wq ?_
    repeat (go_big_quiet_step (first | exact ZX (uh H1 _ (Z0 _ _ _)) | exact ZX (uh H2 _ (Z0 _ _ _)) | exact ZX (uh H3 _ (Z0 _ _ _)) | exact ZX (uh H4 _ (Z0 _ _ _)) | exact ZX (uh H5 _)))
    refine wqn fun W9 hb=> ?_;replace Hv:=Z9 ((uh Hv).below hb);replace kb:=bl kb hb;replace BB:=bt BB hb;clear hb;go_wp2_with fail;go_roundw
    case rel=>exact ⟨j+1,by omega,by go_num,by rw [uh HS _ (uh HB2)];rfl,uh kb,uh Hv,uh BB⟩
    case measure=>exact ms
   go_wp2_with fail;refine wq ?_
   repeat (go_big_quiet_step (first | exact ZX (uh H1 _ (Z0 _ _ _)) | exact ZX (uh H2 _ (Z0 _ _ _)) | exact ZX (uh H3 _ (Z0 _ _ _)) | exact ZX (uh H4 _ (Z0 _ _ _)) | exact ZX (uh H5 _)))
   refine wqn fun W9 hb=> ?_;replace Hv:=Z9 ((uh Hv).below hb);replace kb:=bl kb hb;replace BB:=bt BB hb;clear hb
   have HR:Hid (tv= .tuple #[.int .i64 (k:Int),.int .i64 (j:Int),.bool true]):=Z9 (by
    rw [uh HW,At (k:=k+1) (w:=k) (b:=j) (by rw [uh HN (some j) (by rw [uh HMA];exact BP (k:=j+1) (by rw [uh HS _ (uh HB2)];rfl) (by omega))];rfl) (by omega)]
    rfl)
   obtain rfl:=uh HR;go_wp2_with fail;refine ZQ (v:= .tuple #[.int .i64 (k:Int),.int .i64 (j:Int),.bool true]) (by simp [results,Tryz.results283,go_sem]) rfl ⟨rfl,uh BB⟩
set_option linter.unusedSimpArgs false
def yM (n₀:Nat) (M:Z6) (e:Ending) (w':World):Prop:=
 ∃ u0 u1 u2 u3 u4 qs,e= .returned (.agg #[u0,u1,u2,u3,u4,.int .i64 M.now])/\FullSmy n₀ w' u0 u1 u2 u3 u4 M qs
theorem O6  (h:Smy w v0 v1 v2 v3 v4 m) :
  Calls Tryz.prog 257 #[.agg #[v0,v1,v2,v3,v4,.int .i64 m.now]] w fun e w'=>yM w.heap.size (VU m) e w'/\Below w.heap.size w w':=by
 obtain ⟨X,hX⟩:∃ x,VU m=x:=⟨_,rfl⟩
 rw [hX];have HX:=Z9 hX;clear hX;have Hv0:=Z9 h;obtain ⟨a0,p0,a1,p1,a2,p2,a3,p3,a4,p4,rfl,rfl,rfl,rfl,rfl,_,_,_,_,_,_,_,_,_,_⟩:=h.five;clear h;obtain ⟨ok,hok⟩:∃ q,ZF m=q:=⟨_,rfl⟩
 have Hok:=Z9 hok;clear hok;go_enter Tryz.func257,Tryz.ntmps257;go_wp2_with fail;obtain ⟨W,hW,kb,kr,BB⟩:=YB w 32 (S6 a0 p0 a1 p1 a2 p2 a3 p3 a4 p4 m) 32 E6;have Hv:=Z9 ((uh Hv0).below (uh BB));clear Hv0;rw [hW];clear hW;refine ck (Xx (uh Hok) (uh Hv)) fun w1 hb=> ?_;replace kb:=bl kb hb;replace kr:=bl kr hb;replace Hv:=Z9 ((uh Hv).below hb);replace BB:=bt BB hb;clear hb;cases ok
 ·
  obtain ⟨o0,o1,o2,o3,o4,o5⟩:=(uh kr).c6;obtain ⟨f0,f1,f2,f3,f4,f5⟩:=(uh kr).f6;go_wp2_with fail;have hX0:X=Yc:=by rw [<-uh HX];unfold VU;rw [uh Hok];rfl
  refine ZQ (v:= .agg E6) (by simp [results,Tryz.results257,go_sem, *]) rfl ⟨?_,?_⟩
  ·rw [hX0];exact ⟨_,_,_,_,_,[],rfl,Yq _ _⟩
  ·iterate 6 (refine YF ?_ (by show _<=w.heap.size+1;omega) _)
   exact uh BB
 have hlo:=ZM (uh Hok);have HLo:=Z9 hlo;have HFew:=Z9 (WJ hlo);clear hlo;obtain ⟨c0,c1,c2,c3,c4,c5⟩:=(uh kb).c6;go_wp2_with fail;clear c0 c1 c2 c3 c4 c5;have hWs:w.heap.size+2<=w1.heap.size:=by have:=(uh kr).lt;omega
 refine (XL (uh Hv) (uh HFew)).mono ?_;rintro e w2 ⟨y0,y1,y2,y3,y4,oq,rfl,ho,hb⟩;have k9:=ho.smy;obtain ⟨b0,q0,b1,q1,b2,q2,b3,q3,b4,q4,rfl,rfl,rfl,rfl,rfl,_,_,_,_,_,_,_,_,_,_⟩:=k9.five;clear k9;replace kb:=bl kb hb;replace kr:=bl kr hb;replace Hv:=Z9 ((uh Hv).below hb);replace BB:=bt BB hb;have HO:=Z9 (ho.mono hWs);have LO:Hid (∀ k,We (.slice b0 m.rm.length q0) (.slice b1 m.gd.length q1) (.slice b2 m.sm.length q2) (.slice b3 m.dk.length q3) (.slice b4 m.pc.length q4) oq k->w.heap.size+2<=k/\k<w2.heap.size):=Z9 (fun k e=>(uh HO).own e);have hsz9:=hb.size;clear ho hb;go_upto_region 4 with fail;obtain ⟨W2,hW2,hba,ko⟩:=Yz w2 32 (S6 b0 q0 b1 q1 b2 q2 b3 q3 b4 q4 m);replace kb:=bl kb hba;replace kr:=bl kr hba;replace Hv:=Z9 ((uh Hv).below hba);replace HO:=Z9 ((uh HO).below hba);replace BB:=bt BB hba;have hob:w.heap.size+2<=w2.heap.size:=XA hWs hsz9;clear hba hsz9 hWs;rw [hW2];clear hW2;generalize w2.heap.size=ob at *;have HX2:Hid (TE m=X):=Z9 (by rw [<-uh HX];unfold VU;rw [uh Hok];rfl);have hofR:∀ k,We (.slice b0 m.rm.length q0) (.slice b1 m.gd.length q1) (.slice b2 m.sm.length q2) (.slice b3 m.dk.length q3) (.slice b4 m.pc.length q4) oq k->k ≠ ob:=fun k e=>by have:=(uh LO k e).2;omega
 have H2:Hid ((Value.slice b2 m.sm.length q2).ownBlock ≠ some ob):=Z9 (fun e=>hofR _ (.inr (.inr (.inr (.inl e)))) rfl);have H3:Hid ((Value.slice b3 m.dk.length q3).ownBlock ≠ some ob):=Z9 (fun e=>hofR _ (.inr (.inr (.inr (.inr (.inl e))))) rfl);clear hofR;go_wp2_with fail
 go_loopg [4] (RW m+1) (fun k i wr=> ∃ (M:Z6) (more:Bool),i= .bool more/\k=(if more=true then RW M+1 else 0)/\ZF M=true/\M.now=m.now/\TE M=TE m/\(more=false->Uk M=none)/\FullSmy (w.heap.size+2) wr (.slice b0 m.rm.length q0) (.slice b1 m.gd.length q1) (.slice b2 m.sm.length q2) (.slice b3 m.dk.length q3) (.slice b4 m.pc.length q4) M oq/\Two (Value.slice b2 m.sm.length q2).ownBlock (Value.slice b3 m.dk.length q3).ownBlock W2 wr)
 case atStart=>exact ⟨m,true,rfl,rfl,uh Hok,rfl,rfl,(fun e=>by cases e),uh HO,Two.refl _ _ _⟩
 case round=>
  obtain ⟨M,more,rfl,hgk,hsm,hnow,hlv,hno,hf1,htw⟩:=hrel;have HF1:=Z9 hf1;have Tw:=Z9 htw;have Hsm:=Z9 hsm;have Hnow:=Z9 hnow;have Hlv:=Z9 hlv;have Hno:=Z9 hno;replace ko:=Z9 ((uh ko).two htw (uh H2) (uh H3));clear hf1 htw hsm hnow hlv hno;cases more
  ·
   clear hgk;replace kr:=Z9 ((uh kr).two (uh Tw) (fun e=>by have:=(uh LO _ (.inr (.inr (.inr (.inl e))))).1;omega) (fun e=>by have:=(uh LO _ (.inr (.inr (.inr (.inr (.inl e)))))).1;omega));replace BB:=Z9 ((uh BB).trans ((uh Tw).below (uh BB).size (fun k e=>by have:=(uh LO k (.inr (.inr (.inr (.inl e))))).1;omega) (fun k e=>by have:=(uh LO k (.inr (.inr (.inr (.inr (.inl e)))))).1;omega)));obtain ⟨x0,x1,x2,x3,x4,x5⟩:=(uh ko).c6;obtain ⟨o0,o1,o2,o3,o4,o5⟩:=(uh kr).c6;obtain ⟨f0,f1,f2,f3,f4,f5⟩:=(uh kr).f6;go_wp2_with fail;have hX0:X=M:=by rw [<-uh HX2,<-uh Hlv];exact Gx (uh Hno (by trivial))
   refine ZQ (v:= .agg (S6 b0 q0 b1 q1 b2 q2 b3 q3 b4 q4 m)) (by simp [results,Tryz.results257,go_sem, *]) rfl ⟨?_,?_⟩
   ·rw [hX0];refine ⟨_,_,_,_,_,oq,by rw [uh Hnow],?_⟩
    iterate 6 (refine FullSmy.set_off ?_ (fun k e=>by have:=(uh LO k e).1;omega) _ _)
    exact (uh HF1).mono (by omega)
   ·iterate 6 (refine YF ?_ (by show _<=w.heap.size+1;omega) _)
    exact uh BB
  simp only [if_true] at hgk;subst hgk;clear Hno;obtain ⟨mi,hmi⟩:∃ q,UH M=q:=⟨_,rfl⟩
  have hc:=MZ (uh HF1).smy;rw [uh Hnow] at hc;have Hc:=Z9 hc;clear hc;rw [hmi] at Hc;have Hmi:=Z9 hmi;clear hmi;obtain ⟨x0,x1,x2,x3,x4,x5⟩:=(uh ko).c6;cases mi with
  | some r=>
   obtain ⟨wh,bb⟩:=r;have Hc2:Hid (Calls Tryz.prog 283 #[.agg (S6 b0 q0 b1 q1 b2 q2 b3 q3 b4 q4 m)] wr fun e w'=>e= .returned (.tuple #[.int .i64 (wh:Int),.int .i64 (bb:Int),.bool true])/\Below wr.heap.size wr w'):=Hc;clear Hc;have Hc:=Hc2;clear Hc2;go_wp2_with fail;clear x0 x1 x2 x3 x4 x5;refine ck (uh Hc) fun w5 hb=> ?_;replace HF1:=Z9 ((uh HF1).below hb);replace ko:=bl ko hb;replace Tw:=Z9 ((uh Tw).trans (Two.of_below hb));clear hb Hc;have hmv:Uk M=some (wh,bb):=by unfold Uk;rw [uh Hmi]
   have mv:=RD hmv;have Hmv:=Z9 hmv;obtain ⟨a0',a1',_⟩:=(ZM (uh Hsm)).at mv.who mv.pres;obtain ⟨bn,hbn⟩:∃ bn:Nat,(Z8 M.sm wh).2.1=(bn:Int):=⟨(Z8 M.sm wh).2.1.toNat,by omega⟩
   have Hbn:=Z9 hbn;have hbl:bn<M.dk.length:=by omega
   have Mv:=Z9 mv;have Hbl:=Z9 hbl;clear hmv hbn hbl a0' a1' mv;have k8:Hid (Blk w5 ob 32 #[.slice b0 m.rm.length q0,.slice b1 m.gd.length q1,.slice b2 m.sm.length q2,.slice b3 m.dk.length q3,.slice b4 m.pc.length q4,.int .i64 M.now]):=Z9 (by rw [uh Hnow];exact uh ko);go_wp2_with fail;refine (Uf (m:=M) (k:=wh) (bn:=bn) (b:=bb) (uh k8) (uh HF1) (uh H2) (uh H3) (uh Mv).who (uh Hbn) (uh Hbl) (uh Mv).bench).mono ?_;rintro e w7 ⟨rfl,hf7,ht7⟩;have k7:Hid (Blk w7 ob 32 #[.slice b0 m.rm.length q0,.slice b1 m.gd.length q1,.slice b2 m.sm.length q2,.slice b3 m.dk.length q3,.slice b4 m.pc.length q4,.int .i64 M.now]):=Z9 ((uh k8).two ht7 (uh H2) (uh H3));have HF7:=Z9 hf7;have T7:=Z9 ((uh Tw).trans ht7);clear hf7 ht7 k8;have h12:=YO (ZM (uh Hsm));have h8:=(ZM (uh Hsm)).sane.eight;have hl12:(TG M wh bb).sm.length<=800:=by rw [Un];omega
   have hd8:(TG M wh bb).dk.length<=1000:=by show M.dk.length<=1000;omega
   have Hl12:=Z9 hl12;have Hd8:=Z9 hd8;clear h12 h8 hl12 hd8;go_wp2_with fail;refine (Ru (m:=TG M wh bb) (uh k7) (uh HF7) (uh H2) (uh H3) (uh Hl12) (uh Hd8)).mono ?_;rintro e w8 ⟨rfl,hf8,ht8⟩;have HF8:=Z9 hf8;have T8:=Z9 ((uh T7).trans ht8);clear hf8 ht8;go_wp2_with fail
   go_roundg (RW (Ul M wh bb)+1)
   case measure=>have:=(uh Mv).falls;omega
   case rel=>exact ⟨Ul M wh bb,true,rfl,rfl,(uh Mv).keeps,((ZG _ _).2.2.2.1).trans (uh Hnow),(J5 (uh Hmv)).symm.trans (uh Hlv),(fun e=>by cases e),uh HF8,uh T8⟩
  | none=>
   have Hc2:Hid (Calls Tryz.prog 283 #[.agg (S6 b0 q0 b1 q1 b2 q2 b3 q3 b4 q4 m)] wr fun e w'=>e= .returned (.tuple #[.int .i64 0,.int .i64 0,.bool false])/\Below wr.heap.size wr w'):=Hc;clear Hc;have Hc:=Hc2;clear Hc2;go_wp2_with fail;clear x0 x1 x2 x3 x4 x5;refine ck (uh Hc) fun w5 hb=> ?_;replace HF1:=Z9 ((uh HF1).below hb);replace ko:=bl ko hb;replace Tw:=Z9 ((uh Tw).trans (Two.of_below hb));clear hb Hc;obtain ⟨wi,hwi⟩:∃ q,Vd M=q:=⟨_,rfl⟩
   have hc:=NT (uh HF1).smy;rw [uh Hnow] at hc;have Hc:=Z9 hc;clear hc;rw [hwi] at Hc;have hmv:Uk M=wi:=by unfold Uk;rw [uh Hmi];exact hwi
   clear hwi;obtain ⟨x0,x1,x2,x3,x4,x5⟩:=(uh ko).c6;cases wi with
   | some r=>
    obtain ⟨wh,bb⟩:=r;have Hc2:Hid (Calls Tryz.prog 284 #[.agg (S6 b0 q0 b1 q1 b2 q2 b3 q3 b4 q4 m)] w5 fun e w'=>e= .returned (.tuple #[.int .i64 (wh:Int),.int .i64 (bb:Int),.bool true])/\Below w5.heap.size w5 w'):=Hc;clear Hc;have Hc:=Hc2;clear Hc2;have Hm0:=Z9 hmv;clear hmv;go_wp2_with fail;clear x0 x1 x2 x3 x4 x5;refine ck (uh Hc) fun w6 hb=> ?_;replace HF1:=Z9 ((uh HF1).below hb);replace ko:=bl ko hb;replace Tw:=Z9 ((uh Tw).trans (Two.of_below hb));clear hb Hc;have hmv:=uh Hm0;clear Hm0;have mv:=RD hmv;have Hmv:=Z9 hmv;obtain ⟨a0',a1',_⟩:=(ZM (uh Hsm)).at mv.who mv.pres;obtain ⟨bn,hbn⟩:∃ bn:Nat,(Z8 M.sm wh).2.1=(bn:Int):=⟨(Z8 M.sm wh).2.1.toNat,by omega⟩
    have Hbn:=Z9 hbn;have hbl:bn<M.dk.length:=by omega
    have Mv:=Z9 mv;have Hbl:=Z9 hbl;clear hmv hbn hbl a0' a1' mv;have k8:Hid (Blk w6 ob 32 #[.slice b0 m.rm.length q0,.slice b1 m.gd.length q1,.slice b2 m.sm.length q2,.slice b3 m.dk.length q3,.slice b4 m.pc.length q4,.int .i64 M.now]):=Z9 (by rw [uh Hnow];exact uh ko);go_wp2_with fail;refine (Uf (m:=M) (k:=wh) (bn:=bn) (b:=bb) (uh k8) (uh HF1) (uh H2) (uh H3) (uh Mv).who (uh Hbn) (uh Hbl) (uh Mv).bench).mono ?_;rintro e w7 ⟨rfl,hf7,ht7⟩;have k7:Hid (Blk w7 ob 32 #[.slice b0 m.rm.length q0,.slice b1 m.gd.length q1,.slice b2 m.sm.length q2,.slice b3 m.dk.length q3,.slice b4 m.pc.length q4,.int .i64 M.now]):=Z9 ((uh k8).two ht7 (uh H2) (uh H3));have HF7:=Z9 hf7;have T7:=Z9 ((uh Tw).trans ht7);clear hf7 ht7 k8;have h12:=YO (ZM (uh Hsm));have h8:=(ZM (uh Hsm)).sane.eight;have hl12:(TG M wh bb).sm.length<=800:=by rw [Un];omega
    have hd8:(TG M wh bb).dk.length<=1000:=by show M.dk.length<=1000;omega
    have Hl12:=Z9 hl12;have Hd8:=Z9 hd8;clear h12 h8 hl12 hd8;go_wp2_with fail;refine (Ru (m:=TG M wh bb) (uh k7) (uh HF7) (uh H2) (uh H3) (uh Hl12) (uh Hd8)).mono ?_;rintro e w8 ⟨rfl,hf8,ht8⟩;have HF8:=Z9 hf8;have T8:=Z9 ((uh T7).trans ht8);clear hf8 ht8;go_wp2_with fail
    go_roundg (RW (Ul M wh bb)+1)
    case measure=>have:=(uh Mv).falls;omega
    case rel=>exact ⟨Ul M wh bb,true,rfl,rfl,(uh Mv).keeps,((ZG _ _).2.2.2.1).trans (uh Hnow),(J5 (uh Hmv)).symm.trans (uh Hlv),(fun e=>by cases e),uh HF8,uh T8⟩
   | none=>
    have Hc2:Hid (Calls Tryz.prog 284 #[.agg (S6 b0 q0 b1 q1 b2 q2 b3 q3 b4 q4 m)] w5 fun e w'=>e= .returned (.tuple #[.int .i64 0,.int .i64 0,.bool false])/\Below w5.heap.size w5 w'):=Hc;clear Hc;have Hc:=Hc2;clear Hc2;have Hm0:=Z9 hmv;clear hmv;go_wp2_with fail;clear x0 x1 x2 x3 x4 x5;refine ck (uh Hc) fun w6 hb=> ?_;replace HF1:=Z9 ((uh HF1).below hb);replace ko:=bl ko hb;replace Tw:=Z9 ((uh Tw).trans (Two.of_below hb));clear hb Hc;go_wp2_with fail
    go_roundg 0
    case measure=>omega
    case rel=>exact ⟨M,false,rfl,rfl,uh Hsm,uh Hnow,uh Hlv,(fun _=>uh Hm0),uh HF1,uh Tw⟩
set_option maxRecDepth 100000
theorem MX  {b:Int} {q:Bool} (hq:Sp m b=q) (h:Smy w v0 v1 v2 v3 v4 m) :
  Calls Tryz.prog 35 #[.agg #[v0,v1,v2,v3,v4,.int .i64 m.now],.int .i64 b] w fun e w'=>e= .returned (.bool q)/\Below w.heap.size w w':=by
 have Hq:=Z9 hq;clear hq;have Hv:=Z9 (h.alloc (.cells #[v0,v1,v2,v3,v4,.int .i64 m.now] 32));obtain ⟨a0,p0,a1,p1,a2,p2,a3,p3,a4,p4,rfl,rfl,rfl,rfl,rfl,_,_,_,_,_,_,_,_,_,_⟩:=h.five;clear h;have kb:Hid (Blk (w.alloc (.cells (S6 a0 p0 a1 p1 a2 p2 a3 p3 a4 p4 m) 32)) w.heap.size 32 (S6 a0 p0 a1 p1 a2 p2 a3 p3 a4 p4 m)):=Z9 (Blk.new w _ _);have BB:Hid (Below w.heap.size w (w.alloc (.cells (S6 a0 p0 a1 p1 a2 p2 a3 p3 a4 p4 m) 32))):=Z9 ((ba _ _));obtain ⟨ok,hok⟩:∃ q,ZF m=q:=⟨_,rfl⟩
 have Hok:=Z9 hok;clear hok;go_enter Tryz.func35,Tryz.ntmps35;go_wp2_with fail;generalize w.alloc (.cells (S6 a0 p0 a1 p1 a2 p2 a3 p3 a4 p4 m) 32)=W at *;refine ck (Xx (uh Hok) (uh Hv)) fun w1 hb=> ?_;replace Hv:=Z9 ((uh Hv).below hb);replace kb:=bl kb hb;replace BB:=bt BB hb;clear hb;cases ok
 ·obtain rfl:q=false:=by rw [<-uh Hq];unfold Sp;rw [uh Hok];rfl
  go_wp2_with fail;go_ret;exact ⟨rfl,uh BB⟩
 obtain ⟨qb,hqb⟩:∃ q,YP m b=q:=⟨_,rfl⟩
 have Hqb:=Z9 hqb;clear hqb;obtain ⟨c0,c1,c2,c3,c4,c5⟩:=(uh kb).c6;go_wp2_with fail;clear c0 c1 c2 c3 c4 c5;refine ck (Sq (uh Hqb) (uh Hv)) fun w2 hb=> ?_;replace Hv:=Z9 ((uh Hv).below hb);replace kb:=bl kb hb;replace BB:=bt BB hb;clear hb;cases qb
 ·obtain rfl:q=false:=by rw [<-uh Hq];unfold Sp;rw [uh Hqb];simp
  go_wp2_with fail;go_ret;exact ⟨rfl,uh BB⟩
 obtain ⟨bn,hbn,rfl⟩:∃ k:Nat,k<m.dk.length/\b=(k:Int):=by
  have:=ZJ (uh Hqb);exact ⟨b.toNat,by omega,by omega⟩
 have h12:=YO (ZM (uh Hok));have HI:Hid (Sp m (bn:Int)=WH m bn):=Z9 (by unfold Sp;rw [uh Hok,uh Hqb];rfl);obtain ⟨c0,c1,c2,c3,c4,c5⟩:=(uh kb).c6;go_wp2_with fail;clear c0 c1 c2 c3 c4 c5;refine (Rt (uh Hv) hbn (by omega)).mono ?_;rw [<-uh HI,uh Hq];rintro e w3 ⟨rfl,hb⟩;replace Hv:=Z9 ((uh Hv).below hb);replace kb:=bl kb hb;replace BB:=bt BB hb;clear hb;go_wp2_with fail;go_ret;exact ⟨rfl,uh BB⟩
end Go.Proofs.YtamgfpdahadnfaaGreatDoor
