/- Part 34 of what the proof rests on. No condition but those that a theorem names. -/
import Derived.Test.YtgdpaigcmoifbaaGreatXw27
import Derived.Test.YtgdpaigcmoifbaaGreatXw29
import Derived.Test.YtgdpaigcmoifbaaGreatXw30
set_option maxHeartbeats 8000000
set_option maxRecDepth 100000
namespace Go.Proofs.YtgdpaigcmoifbaaGreat
open Go.ChangeShapes Go.WideShapes Go.ChangeAt Go.RowKit Go.Sort Go.Proofs.Tryz
set_option linter.unusedVariables false
set_option maxRecDepth 100000
variable {w w' w0 w1 w2 w3 w₀ wr W W' X A B C : World} {v v0 v1 v2 v3 v4 u u0 u1 u2 u3 u4 : Value} {m : Z6}
theorem N6  (h:Smy w v0 v1 v2 v3 v4 m) :
  cB 315 #[.agg #[v0,v1,v2,v3,v4,.int .i64 m.now]] w (CF (U5 m)):=by
 have Hv0:=Z9 (h.alloc (.cells #[v0,v1,v2,v3,v4,.int .i64 m.now] 32));obtain ⟨a0,p0,a1,p1,a2,p2,a3,p3,a4,p4,rfl,rfl,rfl,rfl,rfl,_,_,_,_,_,_,_,_,_,_⟩:=h.five;clear h;obtain ⟨BB0,kb0⟩:=V5 w 32 (S6 a0 p0 a1 p1 a2 p2 a3 p3 a4 p4 m);obtain ⟨tv,htv⟩:=ZJ (CF (U5 m));rw [htv];obtain ⟨ok,hok⟩:=ZJ (ZM m);have Hok:=Z9 hok;have HT:=Z9 htv;clear hok htv;cases ok
 ·obtain rfl:tv= .tuple #[.int .i64 0,.int .i64 0,.bool false]:=by rw [<-uh HT];unfold U5;rw [uh Hok];rfl
  go_enter func315,ntmps315;go_wp2_with fail
  go_loopw [5] (fun i wr=>i= .int .i64 0/\Blk wr w.heap.size 32 (S6 a0 p0 a1 p1 a2 p2 a3 p3 a4 p4 m)/\Smy wr (.slice a0 m.rm.length p0) (.slice a1 m.gd.length p1) (.slice a2 m.sm.length p2) (.slice a3 m.dk.length p3) (.slice a4 m.pc.length p4) m/\Below w.heap.size w wr) (fun _ _=>1)
  case atStart=>exact ⟨rfl,uh kb0,uh Hv0,uh BB0⟩
  case round=>
   obtain ⟨rfl,hkb,hv,hb0⟩:=hrel;have kb:=Z9 hkb;have Hv:=Z9 hv;have BB:=Z9 hb0;clear hkb hv hb0 kb0 Hv0 BB0;obtain ⟨c0,c1,c2,c3,c4,c5⟩:=(uh kb).c6;by_cases hlt:0<m.dk.length
   ·have hlt1:(0:Int)<(m.dk.length:Int):=by omega
    go_wp2_with fail;refine ck (Ww (uh Hok) (uh Hv)) fun w1 hb=> ?_;replace BB:=bt BB hb;clear hb;go_wp2_with fail;refine Zz (v:= .tuple #[.int .i64 0,.int .i64 0,.bool false]) (by simp [results,results315,go_sem]) rfl ⟨rfl,uh BB⟩
   ·have hlt1:¬ ((0:Int)<(m.dk.length:Int)):=by omega
    go_wp2_with fail;refine Zz (v:= .tuple #[.int .i64 0,.int .i64 0,.bool false]) (by simp [results,results315,go_sem]) rfl ⟨rfl,uh BB⟩
 have hlo:=ZU (uh Hok);have HLo:=Z9 hlo;have h12:=YH hlo;have h8:=V8 hlo;clear hlo;have HW:Hid (tv=CF (We m m.dk.length)):=Z9 (by rw [<-uh HT];unfold U5;rw [uh Hok];rfl);clear HT;go_enter func315,ntmps315;go_wp2_with fail
 go_loopw [5] (fun i wr=> ∃ k:Nat,k<=m.dk.length/\i= .int .i64 k/\We m k=none/\Blk wr w.heap.size 32 (S6 a0 p0 a1 p1 a2 p2 a3 p3 a4 p4 m)/\Smy wr (.slice a0 m.rm.length p0) (.slice a1 m.gd.length p1) (.slice a2 m.sm.length p2) (.slice a3 m.dk.length p3) (.slice a4 m.pc.length p4) m/\Below w.heap.size w wr) (fun i _=>m.dk.length-(intOf i).toNat)
 case atStart=>exact ⟨0,ZA _,rfl,rfl,uh kb0,uh Hv0,uh BB0⟩
 case round=>
  obtain ⟨k,hk,rfl,hno,hkb,hv,hb0⟩:=hrel;have Hno:=Z9 hno;clear hno;have kb:=Z9 hkb;have Hv:=Z9 hv;have BB:=Z9 hb0;clear hkb hv hb0;clear kb0 Hv0 BB0;obtain ⟨c0,c1,c2,c3,c4,c5⟩:=(uh kb).c6;by_cases hlt:k<m.dk.length;rotate_left
  ·have hlt1:¬ ((k:Int)<(m.dk.length:Int)):=by omega
   obtain rfl:k=m.dk.length:=by omega
   obtain rfl:tv= .tuple #[.int .i64 0,.int .i64 0,.bool false]:=by rw [uh HW,uh Hno];rfl
   go_wp2_with fail;refine Zz (v:= .tuple #[.int .i64 0,.int .i64 0,.bool false]) (by simp [results,results315,go_sem]) rfl ⟨rfl,uh BB⟩
  have hlt1:(k:Int)<(m.dk.length:Int):=by omega
  go_wp2_with fail;refine ck (Ww (uh Hok) (uh Hv)) fun w1 hb=> ?_;replace Hv:=Z9 ((uh Hv).below hb);replace kb:=bl kb hb;replace BB:=bt BB hb;clear hb c0 c1 c2 c3 c4 c5;obtain ⟨qi,Hqi⟩:=YV (VJ m k);have HN:Hid (∀ w9,Pk m k=w9->We m (k+1)=w9.map fun x=>(x,k)):=Z9 (fun w9 e=>by unfold We;rw [uh Hno,e]);obtain ⟨c0,c1,c2,c3,c4,c5⟩:=(uh kb).c6;go_wp2_with fail;refine (Ri (uh Hv) hlt (by omega)).mono ?_;rw [uh Hqi];rintro e w2 ⟨rfl,hb⟩;replace Hv:=Z9 ((uh Hv).below hb);replace kb:=bl kb hb;replace BB:=bt BB hb;clear hb c0 c1 c2 c3 c4 c5;cases qi
  ·go_wp2_with fail
   go_roundw
   case rel=>exact ⟨k+1,by omega,by go_num,by rw [uh HN none (by unfold Pk;rw [uh Hqi];rfl)];rfl,uh kb,uh Hv,uh BB⟩
   case measure=>exact ms
  go_wp2_with fail
  go_loopw [6] (fun i wr=> ∃ j:Nat,j<=m.sm.length/\i= .int .i64 j/\UP m k j=none/\Blk wr w.heap.size 32 (S6 a0 p0 a1 p1 a2 p2 a3 p3 a4 p4 m)/\Smy wr (.slice a0 m.rm.length p0) (.slice a1 m.gd.length p1) (.slice a2 m.sm.length p2) (.slice a3 m.dk.length p3) (.slice a4 m.pc.length p4) m/\Below w.heap.size w wr) (fun i _=>m.sm.length-(intOf i).toNat)
  case atStart=>exact ⟨0,ZA _,rfl,rfl,uh kb,uh Hv,uh BB⟩
  case round=>
   obtain ⟨j,hj,rfl,hno2,hkb,hv,hb0⟩:=hrel;have Hno2:=Z9 hno2;clear hno2 kb Hv BB;have kb:=Z9 hkb;have Hv:=Z9 hv;have BB:=Z9 hb0;clear hkb hv hb0;obtain ⟨c0,c1,c2,c3,c4,c5⟩:=(uh kb).c6;by_cases hlj:j<m.sm.length;rotate_left
   ·have hlj1:¬ ((j:Int)<(m.sm.length:Int)):=by omega
    obtain rfl:j=m.sm.length:=by omega
    go_wp2_with fail;go_roundw
    case rel=>exact ⟨k+1,by omega,by go_num,by rw [uh HN none (by unfold Pk;rw [uh Hqi];exact uh Hno2)];rfl,uh kb,uh Hv,uh BB⟩
    case measure=>exact ms
   have hlj1:(j:Int)<(m.sm.length:Int):=by omega
   have HS:Hid (∀ q,OC m j k=q->UP m k (j+1)=if q then some j else none):=Z9 (fun q e=>by unfold UP;rw [uh Hno2,e]);have HB:Hid (OC m j k=((Z8 m.sm j).1 ==2 && Zk m (j:Int) k)):=Z9 rfl;obtain ⟨_,_,hse,_,_,r2⟩:=(uh Hv).sm;cases hse
   rcases r2 with e0 | ⟨sb,off,rfl,hbw,hcl⟩
   ·rw [e0] at hlj;simp at hlj
   obtain ⟨d0,_⟩:=Zu hcl hlj;clear hcl;obtain ⟨st,hst⟩:=ZJ ((Z8 m.sm j).1);rw [hst] at d0;by_cases h2:st=2;rotate_left
   ·have hn2:(st ==2)=false:=by simpa using h2
    have HB2:Hid (OC m j k=false):=Z9 (by rw [uh HB,hst,hn2];rfl);clear hst;go_wp2_with fail;go_roundw
    case rel=>exact ⟨j+1,by omega,by go_num,by rw [uh HS _ (uh HB2)];rfl,uh kb,uh Hv,uh BB⟩
    case measure=>exact ms
   subst h2;have hlim:=(uh HLo).limits hlj (by rw [hst];omega)
   have hmy:0<=(Z8 m.sm j).2.2.2.1/\(Z8 m.sm j).2.2.2.1<=255:=by
    have hp:=hlim.1;generalize Z8 m.sm j=s at *;obtain ⟨st,be,rk,my,gu,lo',hi',hd,ca,ut,wk⟩:=s;have:=(Y2 hp).2.2.2.1;exact ⟨by show 0<=my;omega,this.2⟩
   obtain ⟨qm,hqm⟩:=ZJ (Zk m (j:Int) k);have Hqm:=Z9 hqm;have HB2:Hid (OC m j k=qm):=Z9 (by rw [uh HB,hst,hqm];rfl);have HM:=Z9 (fun (X:World) (hX:Smy X (.slice a0 m.rm.length p0) (.slice a1 m.gd.length p1) (.slice (some ⟨sb,off,none⟩) m.sm.length p2) (.slice a3 m.dk.length p3) (.slice a4 m.pc.length p4) m)=>TY hX hlj hlt (by omega) hmy.1 hmy.2);clear hst hlim hmy hqm;go_wp2_with fail;refine (uh HM _ (uh Hv)).mono ?_;rw [uh Hqm];rintro e w3 ⟨rfl,hb⟩;replace Hv:=Z9 ((uh Hv).below hb);replace kb:=bl kb hb;replace BB:=bt BB hb;clear hb c0 c1 c2 c3 c4 c5 d0 HM;cases qm
   ·go_wp2_with fail
    go_roundw
    case rel=>exact ⟨j+1,by omega,by go_num,by rw [uh HS _ (uh HB2)];rfl,uh kb,uh Hv,uh BB⟩
    case measure=>exact ms
   have HR:Hid (tv= .tuple #[.int .i64 (j:Int),.int .i64 (k:Int),.bool true]):=Z9 (by
    rw [uh HW,Fl (k:=k+1) (w:=j) (b:=k) (by rw [uh HN (some j) (by unfold Pk;rw [uh Hqi];exact CN (k:=j+1) (by rw [uh HS _ (uh HB2)];rfl) (by omega))];rfl) (by omega)]
    rfl)
   obtain rfl:=uh HR;go_wp2_with fail;refine Zz (v:= .tuple #[.int .i64 (j:Int),.int .i64 (k:Int),.bool true]) (by simp [results,results315,go_sem]) rfl ⟨rfl,uh BB⟩
set_option maxRecDepth 100000
theorem DO (h:Loose m) {k:Nat} (hk:k<m.sm.length) (hs:(Z8 m.sm k).1 ≠ 0):RZ m k:=by
 have key:=AA h hk hs;exact ⟨hk,hs,key.1,key.2⟩
theorem VY  {who b:Int} {q:Bool} (hq:XJ m who b=q) (h:Smy w v0 v1 v2 v3 v4 m):cB 24 #[.agg #[v0,v1,v2,v3,v4,.int .i64 m.now],.int .i64 who,.int .i64 b] w (.bool q):=by
 have Hq:=Z9 hq;clear hq;obtain ⟨ok,Hok⟩:=YV (ZM m);obtain ⟨a0,p0,a1,p1,a2,p2,a3,p3,a4,p4,rfl,rfl,rfl,rfl,rfl,K⟩:=Bx.new h;clear h;go_enter func24,ntmps24;go_wp2_with fail;generalize w.alloc (.cells (S6 a0 p0 a1 p1 a2 p2 a3 p3 a4 p4 m) 32)=W at *;refine ck (Ww (uh Hok) K.smy) fun w1 hb=> ?_;replace K:=K.next hb;clear hb;cases ok
 ·obtain rfl:q=false:=by rw [<-uh Hq];unfold XJ;rw [uh Hok];simp
  go_wp2_with fail;go_ret;exact ⟨rfl,K.bb⟩
 obtain ⟨qw,Hw⟩:=YV (Yn m who);obtain ⟨c0,c1,c2,c3,c4,c5⟩:=K.cells;go_wp2_with fail;refine ck (WD (uh Hw) K.smy) fun w2 hb=> ?_;replace K:=K.next hb;clear hb c0 c1 c2 c3 c4 c5;cases qw
 ·obtain rfl:q=false:=by rw [<-uh Hq];unfold XJ;rw [uh Hw];simp
  go_wp2_with fail;go_ret;exact ⟨rfl,K.bb⟩
 obtain ⟨qb,Hb⟩:=YV (Y1 m b);obtain ⟨c0,c1,c2,c3,c4,c5⟩:=K.cells;go_wp2_with fail;refine ck (VR (uh Hb) K.smy) fun w3 hb=> ?_;replace K:=K.next hb;clear hb c0 c1 c2 c3 c4 c5;cases qb
 ·obtain rfl:q=false:=by rw [<-uh Hq];unfold XJ;rw [uh Hb];simp
  go_wp2_with fail;go_ret;exact ⟨rfl,K.bb⟩
 obtain ⟨k,rfl,hk,hs⟩:=YK (uh Hw);have hbb:0<=b/\b<(m.dk.length:Int):=by have:=ZN (show inB b 0 ((m.dk.length:Int)-1)=true from uh Hb);omega
 obtain ⟨bn,rfl⟩:∃ bn:Nat,b=bn:=⟨b.toNat,by omega⟩
 have hlt:bn<m.dk.length:=by omega
 obtain rfl:q=Zk m (k:Int) bn:=by rw [<-uh Hq];unfold XJ;rw [uh Hok,uh Hw,uh Hb,Zp];rfl
 have HA:=Z9 (DO (ZU (uh Hok)) hk hs);have h8:=(ZU (uh Hok)).sane.eight;obtain ⟨c0,c1,c2,c3,c4,c5⟩:=K.cells;go_wp2_with fail;refine ck (TY K.smy hk hlt (by omega) (uh HA).y0 (uh HA).y1) fun w4 hb=> ?_;replace K:=K.next hb;clear hb c0 c1 c2 c3 c4 c5;go_wp2_with fail;go_ret;exact ⟨rfl,K.bb⟩
theorem RU  {who:Int} {q:List Int} (hq:Zi m who=q) (h:Smy w v0 v1 v2 v3 v4 m):Calls prog 22 #[.agg #[v0,v1,v2,v3,v4,.int .i64 m.now],.int .i64 who] w fun e w'=> ∃ v',e= .returned v'/\NumsAt w.heap.size w' v' q/\Below w.heap.size w w':=by
 have Hq:=Z9 hq;clear hq;obtain ⟨ok,Hok⟩:=YV (ZM m);obtain ⟨a0,p0,a1,p1,a2,p2,a3,p3,a4,p4,rfl,rfl,rfl,rfl,rfl,K⟩:=Bx.new h;clear h;go_enter func22,ntmps22;go_wp2_with fail;generalize w.alloc (.cells (S6 a0 p0 a1 p1 a2 p2 a3 p3 a4 p4 m) 32)=W at *;refine ck (Ww (uh Hok) K.smy) fun w1 hb=> ?_;replace K:=K.next hb;clear hb;cases ok
 ·obtain rfl:q=[]:=by rw [<-uh Hq];unfold Zi;rw [uh Hok];simp
  go_wp2_with fail;go_ret;have hE:NumsAt w.heap.size (w1.alloc (.cells #[] 2)) (.slice (some ⟨w1.heap.size,0,none⟩) 0 0) []:=Zq rfl K.bb.size;exact ⟨_,rfl,hE,K.bb.alloc K.bb.size _⟩
 obtain ⟨qw,Hw⟩:=YV (Yn m who);obtain ⟨c0,c1,c2,c3,c4,c5⟩:=K.cells;go_wp2_with fail;refine ck (WD (uh Hw) K.smy) fun w2 hb=> ?_;replace K:=K.next hb;clear hb c0 c1 c2 c3 c4 c5;cases qw
 ·obtain rfl:q=[]:=by rw [<-uh Hq];unfold Zi;rw [uh Hw];simp
  go_wp2_with fail;go_ret;have hE:NumsAt w.heap.size (w2.alloc (.cells #[] 2)) (.slice (some ⟨w2.heap.size,0,none⟩) 0 0) []:=Zq rfl K.bb.size;exact ⟨_,rfl,hE,K.bb.alloc K.bb.size _⟩
 obtain ⟨k,rfl,hk,hs⟩:=YK (uh Hw);obtain rfl:q=Zr m (k:Int):=by rw [<-uh Hq];unfold Zi;rw [uh Hok,uh Hw];rfl
 have HA:=Z9 (DO (ZU (uh Hok)) hk hs);have HS:=Z9 (ZU (uh Hok)).sane;obtain ⟨c0,c1,c2,c3,c4,c5⟩:=K.cells;go_wp2_with fail;refine (TX K.smy (uh HS) (uh HA)).mono ?_;rintro e w4 ⟨v9,rfl,hn,hb⟩;have hn9:NumsAt w.heap.size w4 v9 (Zr m (k:Int)):=RecAt.mono hn K.bb.size;clear hn;replace K:=K.next hb;clear hb c0 c1 c2 c3 c4 c5;obtain ⟨na,nc,rfl⟩:=RecAt.shape hn9;have HN:=Z9 hn9;clear hn9;go_wp2_with fail;go_ret;exact ⟨_,rfl,uh HN,K.bb⟩
theorem RT   {q:Bool} (hq:Xx m=q) (h:Smy w v0 v1 v2 v3 v4 m):cB 37 #[.agg #[v0,v1,v2,v3,v4,.int .i64 m.now]] w (.bool q):=by
 have Hq:=Z9 hq;clear hq;obtain ⟨ok,Hok⟩:=YV (ZM m);obtain ⟨a0,p0,a1,p1,a2,p2,a3,p3,a4,p4,rfl,rfl,rfl,rfl,rfl,K⟩:=Bx.new h;clear h;go_enter func37,ntmps37;go_wp2_with fail;generalize w.alloc (.cells (S6 a0 p0 a1 p1 a2 p2 a3 p3 a4 p4 m) 32)=W at *;refine ck (Ww (uh Hok) K.smy) fun w1 hb=> ?_;replace K:=K.next hb;clear hb;cases ok
 ·obtain rfl:q=false:=by rw [<-uh Hq];unfold Xx;rw [uh Hok];simp
  go_wp2_with fail;go_ret;exact ⟨rfl,K.bb⟩
 obtain rfl:q=XT m:=by rw [<-uh Hq];unfold Xx;rw [uh Hok];rfl
 have HS:=Z9 (ZU (uh Hok)).sane;obtain ⟨c0,c1,c2,c3,c4,c5⟩:=K.cells;go_wp2_with fail;refine ck (TW K.smy (uh HS)) fun w2 hb=> ?_;replace K:=K.next hb;clear hb c0 c1 c2 c3 c4 c5;go_wp2_with fail;go_ret;exact ⟨rfl,K.bb⟩
theorem MQ  {who:Int} {q:Int} (hq:X9 m who=q) (h:Smy w v0 v1 v2 v3 v4 m):cB 36 #[.agg #[v0,v1,v2,v3,v4,.int .i64 m.now],.int .i64 who] w (.int .i64 q):=by
 have Hq:=Z9 hq;clear hq;obtain ⟨ok,Hok⟩:=YV (ZM m);obtain ⟨a0,p0,a1,p1,a2,p2,a3,p3,a4,p4,rfl,rfl,rfl,rfl,rfl,K⟩:=Bx.new h;clear h;go_enter func36,ntmps36;go_wp2_with fail;generalize w.alloc (.cells (S6 a0 p0 a1 p1 a2 p2 a3 p3 a4 p4 m) 32)=W at *;refine ck (Ww (uh Hok) K.smy) fun w1 hb=> ?_;replace K:=K.next hb;clear hb;cases ok
 ·obtain rfl:q= -1:=by rw [<-uh Hq];unfold X9;rw [uh Hok];simp
  go_wp2_with fail;go_ret;exact ⟨rfl,K.bb⟩
 obtain ⟨qw,Hw⟩:=YV (Yn m who);obtain ⟨c0,c1,c2,c3,c4,c5⟩:=K.cells;go_wp2_with fail;refine ck (WD (uh Hw) K.smy) fun w2 hb=> ?_;replace K:=K.next hb;clear hb c0 c1 c2 c3 c4 c5;cases qw
 ·obtain rfl:q= -1:=by rw [<-uh Hq];unfold X9;rw [uh Hw];simp
  go_wp2_with fail;go_ret;exact ⟨rfl,K.bb⟩
 obtain ⟨k,rfl,hk,hs⟩:=YK (uh Hw);obtain rfl:q=Zl m (k:Int):=by rw [<-uh Hq];unfold X9;rw [uh Hok,uh Hw];rfl
 have HA:=Z9 (DO (ZU (uh Hok)) hk hs);have HS:=Z9 (ZU (uh Hok)).sane;have hp:=(Sd (ZU (uh Hok))).nums;obtain ⟨c0,c1,c2,c3,c4,c5⟩:=K.cells;go_wp2_with fail;refine ck (Wx K.smy (uh HS) hp (uh HA)) fun w3 hb=> ?_;replace K:=K.next hb;clear hb c0 c1 c2 c3 c4 c5;go_wp2_with fail;go_ret;exact ⟨rfl,K.bb⟩
open Go.ChangeShapes Go.WideShapes Go.ChangeAt Go.RowKit Go.Sort
theorem OG {m x:Z6} (b:Int) (hg:x.gd=m.gd) (hs:∀ i,i<m.sm.length->atB b (Z8 x.sm i)=atB b (Z8 m.sm i)/\TG m.gd (Z8 x.sm i)=TG m.gd (Z8 m.sm i)) :
  ∀ k,k<=m.sm.length->Vp x (ZP (atB b) x.sm k)=Vp m (ZP (atB b) m.sm k)
 | 0,_=>rfl
 | k+1,hk=>by
  have ih:=OG b hg hs k (by omega);obtain ⟨e1,e2⟩:=hs k (by omega);cases ha:atB b (Z8 m.sm k)
  ·rw [XZ ha,XZ (e1.trans ha),ih]
  ·rw [Yy ha,Yy (e1.trans ha),QS,QS,ih]
   have:ZC x (k:Int)=ZC m (k:Int):=by unfold ZC;rw [hg,Zp];exact e2
   rw [this]
theorem Ng {m x:Z6} (b:Int) (hl:x.sm.length=m.sm.length) (hg:x.gd=m.gd) (hs:∀ i,i<m.sm.length->atB b (Z8 x.sm i)=atB b (Z8 m.sm i)/\TG m.gd (Z8 x.sm i)=TG m.gd (Z8 m.sm i)):Zx x b (-1)=Zx m b (-1):=by
 rw [<-Ql,<-Ql,hl];exact OG b hg hs m.sm.length (Z0 _)
theorem PZ {m x:Z6} (r:Int) (hr:x.rm=m.rm) (hu:∀ b:Nat,Zx x b (-1)=Zx m b (-1)):∀ k,(∀ b,b<k->(Z8 x.dk b).1=(Z8 m.dk b).1)->Y3 x r k=Y3 m r k
 | 0,_=>rfl
 | k+1,ho=>by
  have ih:=PZ r hr hu k (fun b hb=>ho b (by omega));show (if _ then _ else _)=(if _ then _ else _)
  rw [hr,ih,hu k,ho k (by omega)]
theorem LB {m x:Z6} (hr:x.rm=m.rm) (hd:x.dk.length=m.dk.length) (ho:∀ b,b<m.dk.length->(Z8 x.dk b).1=(Z8 m.dk b).1) (hu:∀ b:Nat,Zx x b (-1)=Zx m b (-1)):WK x=WK m:=by
 have key:∀ k,Xg x k=Xg m k:=by
  intro k
  induction k with
  | zero=>rfl
  | succ k ih=>
   show Xg x k+Wv x k=Xg m k+Wv m k
   have e:Wv x k=Wv m k:=by
    unfold Wv;rw [hr,hd,PZ (k:Int) hr hu m.dk.length ho]
   rw [ih,e]
 unfold WK;rw [hr];exact key _
theorem JE (ss:List Z2) (b:Int) (d:Yg):(Xq ss b d).1=d.1:=by
 unfold Xq;cases atV ss b ss.length<;>rfl
theorem FT (m:Z6):WK (ZH m)=WK m:=by
 obtain ⟨e0,e1,_,_,e4,e5⟩:=Zv m m.dk.length;refine LB e0 e5 (fun b hb=> ?_) (fun b=>Ng _ e4 e1 fun i hi=> ?_)
 ·have:=VT m b m.dk.length (Z0 _)
  rw [if_pos hb] at this;show (Z8 (YU m m.dk.length).dk b).1=_;rw [this,JE]
 ·obtain ⟨t1,t2⟩:=PW (m:=m) hi
  refine ⟨?_,?_⟩
  ·rw [CV,CV,t1,t2]
  ·unfold TG;rw [t2]
def yz (m:Z6) (k b:Nat):Z2:=(2,(b:Int),(Z8 m.sm k).2.2.1,255,(Z8 m.sm k).2.2.2.2.1,(Z8 m.sm k).2.2.2.2.2.1,(Z8 m.sm k).2.2.2.2.2.2.1,(Z8 m.dk b).2.2,(Z8 m.sm k).2.2.2.2.2.2.2.2)
def KT (m:Z6) (k b:Nat):Z6:=setS m k (yz m k b)
theorem zd {b:Nat} (h:b<8):V6 255 (b:Int)=true:=by
 have key:∀ k:Fin 8,V6 255 (k.val:Int)=true:=by decide
 exact key ⟨b,h⟩
theorem B7 (h:Loose m) {k b:Nat} (hk:k<m.sm.length) (hs:(Z8 m.sm k).1 ≠ 0) (hb:b<m.dk.length) (ho:(Z8 m.dk b).1=true):Loose (KT m k b):=by
 obtain ⟨p,g1,b1⟩:=h.limits hk hs;have h8:=V8 h;have hmk:=SL (h.desk b hb)
 have hp:YN (Sn (Z8 m.sm k) 255)=true:=by
  generalize Z8 m.sm k=s at *;obtain ⟨st,be,rk,my,gu,lo',hi',hd,ca,ut,wk⟩:=s;obtain ⟨x0,x1,x2,x3,x4,x5,x6,x7,x8,x9⟩:=Y2 p;exact Ud x0 x1 x2 ⟨by omega,by omega⟩ x4 x5 x6 x7 x8 x9
 obtain ⟨k1,k2⟩:=Gr (s:=Sn (Z8 m.sm k) 255) (had:=(Z8 m.dk b).2.2) h hp g1 hb ho (zd (by omega)) (Pn (by omega) (by omega) (by omega) (by omega) (by omega) (by omega));exact h.setS hk k1 k2
theorem Ar {k b:Nat} (hk:k<m.sm.length):WK (KT m k b)=WK (WJ m (k:Int) (b:Int)):=by
 have e1:∀ i,Z8 (KT m k b).sm i=if i=k then yz m k b else Z8 m.sm i:=fun i=>ZD hk i
 refine LB rfl rfl (fun _ _=>rfl) (fun c=>Ng _ ?_ rfl fun i hi=> ?_)
 ·unfold KT setS WJ;simp
 ·rw [e1,II m hk]
  by_cases e:i=k
  ·rw [if_pos e,if_pos e];exact ⟨rfl,rfl⟩
  ·rw [if_neg e,if_neg e];exact ⟨rfl,rfl⟩
theorem As (h:ZM m=true) {k b:Nat} (hk:k<m.sm.length) (hs:(Z8 m.sm k).1 ≠ 0) (hb:b<m.dk.length) (ho:(Z8 m.dk b).1=true):Sb (Xr (KT m k b))=ZS m (k:Int) (b:Int):=by
 have hl:=B7 (ZU h) hk hs hb ho;unfold Xr;rw [hl.mk'];show Sb (ZH (KT m k b))=_;unfold Sb;rw [YS hl];show WK (ZH (KT m k b))=_;rw [FT,Ar hk];rfl
theorem DX (h:Sane m) {r:Nat} (hr:r<m.rm.length):0<=Wv m r:=by
 have hb:=QU m (r:Int) h.few m.dk.length;have h8:=h.eight;have ha:=(Zj h.hall).2.2.1;have hro:Y8 (ZQ m.rm r)=true:=Tq ha hr;unfold Wv Qc;generalize (Y3 m (r:Int) m.dk.length).1=mo at *;generalize (Y3 m (r:Int) m.dk.length).2=al at *;have h1:inB mo 0 1000000=true:=Zn (by omega) (by omega);have h2:inB al 0 1000000=true:=Zn (by omega) (by omega);have hbd:=QQ hro;have hp:=MA mo (ZQ m.rm r).2 (by omega);rw [Qf hro h1];have h3:inB ((S0 mo (ZQ m.rm r).2:Nat):Int) 0 ((ZQ m.rm r).2.length-1)=true:=Zn (by omega) (by omega);rw [Sa hro h2 h3];have hr2:=QR hro (k:=(((S0 mo (ZQ m.rm r).2:Nat):Int)).toNat) (by omega);generalize Z7 (ZQ m.rm r).2 (((S0 mo (ZQ m.rm r).2:Nat):Int)).toNat=p at *;rw [J7 (by omega) (by omega) (by omega) (by omega) (by omega) (by omega)];exact Int.ediv_nonneg (Int.mul_nonneg (by omega) (by omega)) (by omega)
theorem Ly (h:Sane m):∀ k,k<=m.rm.length->0<=Xg m k
 | 0,_=>by show (0:Int)<=0;omega
 | k+1,hk=>by
  have ih:=Ly h k (by omega);have:=DX h (r:=k) (by omega);show 0<=Xg m k+Wv m k;omega
theorem Lz (m:Z6) (who b:Int):Zf m who b= -1\/(0<=Zf m who b/\ZM m=true/\Yn m who=true/\WG m b=true/\Zf m who b=ZS m who b):=by
 unfold Zf;by_cases h:(ZM m && (Yn m who && WG m b))=true
 ·right
  rw [if_pos h];simp only [ZO] at h;obtain ⟨h1,h2,h3⟩:=h;obtain ⟨k,rfl,hk,hs⟩:=YK h2;exact ⟨Ly ((ZU h1).sane.with hk hs b) _ (Z0 _),h1,h2,h3,rfl⟩
 ·left;rw [if_neg h]
set_option linter.unusedSimpArgs false
set_option maxRecDepth 100000
theorem RN (w:World) (v0 v1 v2 v3 v4:Value) (m:Z6) (h:Smy w v0 v1 v2 v3 v4 m) :
  Calls prog 49 #[.agg #[v0,v1,v2,v3,v4,.int .i64 m.now]] w fun e w'=> ∃ v',e= .returned v'/\NumsAt w.heap.size w' v' (XS m)/\Below w.heap.size w w':=by
 obtain ⟨M,hM⟩:=ZJ (XS m);rw [hM];have HM:=Z9 hM;clear hM;have HW:=Z9 h;have Hv0:=Z9 ((h.alloc (.cells #[v0,v1,v2,v3,v4,.int .i64 m.now] 32)).alloc (.cells #[] 2));obtain ⟨a0,p0,a1,p1,a2,p2,a3,p3,a4,p4,rfl,rfl,rfl,rfl,rfl,_,_,_,_,_,_,_,_,_,_⟩:=h.five;clear h;have kb1:Hid (Blk ((w.alloc (.cells (S6 a0 p0 a1 p1 a2 p2 a3 p3 a4 p4 m) 32)).alloc (.cells #[] 2)) w.heap.size 32 (S6 a0 p0 a1 p1 a2 p2 a3 p3 a4 p4 m)):=Z9 ((Blk.new w _ _).alloc _);have BB1:Hid (Below w.heap.size w ((w.alloc (.cells (S6 a0 p0 a1 p1 a2 p2 a3 p3 a4 p4 m) 32)).alloc (.cells #[] 2))):=Z9 (((ba _ _)).alloc (by simp) _);have E0:Hid (NumsAt (w.heap.size+1) ((w.alloc (.cells (S6 a0 p0 a1 p1 a2 p2 a3 p3 a4 p4 m) 32)).alloc (.cells #[] 2)) (.slice (some ⟨w.heap.size+1,0,none⟩) 0 0) []):=Z9 (Zq (by simp) (by simp));obtain ⟨ok,Hok⟩:=YV (ZM m);go_enter func49,ntmps49;go_wp2_with fail;generalize (w.alloc (.cells (S6 a0 p0 a1 p1 a2 p2 a3 p3 a4 p4 m) 32)).alloc (.cells #[] 2)=W at *;refine ck (TS _ _ _ _ _ _ _ _ (uh Hok) (uh Hv0)) fun w1 hb=> ?_;replace kb1:=bl kb1 hb;replace BB1:=Z9 ((uh BB1).trans (hb.mono (uh BB1).size));replace E0:=Z9 (RecAt.later (uh E0) hb);clear hb Hv0;cases ok
 ·obtain rfl:M=[]:=by rw [<-uh HM];unfold XS;rw [uh Hok];rfl
  go_wp2_with fail;go_ret;exact ⟨_,rfl,RecAt.mono (uh E0) (Nat.le_succ _),uh BB1⟩
 obtain rfl:M=UQ m.dk:=by rw [<-uh HM];unfold XS;rw [uh Hok];rfl
 have c3:=(uh kb1).cell (i:=3) (v:= .slice a3 m.dk.length p3) rfl;go_wp2_with fail;clear c3
 go_loopw [3,14] (fun l i wr=> ∃ k:Nat,k<=m.dk.length/\i= .int .i64 k/\NumsAt (w.heap.size+1) wr l (UQ (m.dk.take k))/\Blk wr w.heap.size 32 (S6 a0 p0 a1 p1 a2 p2 a3 p3 a4 p4 m)/\Below w.heap.size w wr) (fun _ i _=>m.dk.length-(intOf i).toNat)
 case atStart=>exact ⟨0,ZA _,rfl,uh E0,uh kb1,uh BB1⟩
 case round=>
  obtain ⟨k,hk,rfl,hl,hkb,hb0⟩:=hrel;obtain ⟨la,lc,rfl⟩:=RecAt.shape hl;have HL:=Z9 hl;have kb:=Z9 hkb;have BB:=Z9 hb0;have Hv:=Z9 ((uh HW).below hb0);have hfl:(UQ (m.dk.take k)).length=k:=by rw [Nm,List.length_take];omega
  have Hfl:=Z9 hfl;clear hl hkb hb0 hfl;by_cases hlt:k<m.dk.length
  ·
   have hlt1:(k:Int)<(m.dk.length:Int):=by omega
   obtain ⟨_,_,hde,_,_,r3⟩:=(uh Hv).dk;cases hde
   rcases r3 with e0 | ⟨db,off,rfl,hbw,hcl⟩
   ·rw [e0] at hlt;simp at hlt
   obtain ⟨d0,d1,d2⟩:=Zh hcl hlt;have HT:Hid (UQ (m.dk.take (k+1))=UQ (m.dk.take k)++[(Z8 m.dk k).2.1]):=Z9 (KE hlt);generalize Z8 m.dk k=d at *;obtain ⟨op,wh,mk⟩:=d;simp only at d0 d1 d2 HT;clear hcl;go_upto_region 7 with fail;clear d0 d1 d2;obtain ⟨X,hX,hb,kd⟩:=Zc wr 40 #[.bool op,.int .i64 wh,.int .i64 mk];replace HL:=Z9 (RecAt.later (uh HL) hb);replace Hv:=Z9 ((uh Hv).below hb);replace kb:=bl kb hb;replace BB:=bt BB hb;clear hb;rw [hX];clear hX;have d1:=(uh kd).cell (i:=1) (v:= .int .i64 wh) rfl;have hsx:=(uh BB).size;have hlx:=(uh kb).lt;have hfw:m.dk.length<=8:=(ZU (uh Hok)).sane.eight;have hfl:(UQ (m.dk.take k)).length<=8:=by rw [uh Hfl];omega
   go_wp2_with (at_builtin;refine ZG tyN rfl (.tmp 18) (.tmp 21) 30 underlying30 rfl (w.heap.size+1) _ _ (UQ (m.dk.take k)) [wh] rfl rfl (RecAt.later (uh HL) ((ba _ _))) (WH wh rfl (Z0 _) (by omega)) (by simp;omega) (by simp;omega) ?_;intro u9 w9 hp9 hg9 hat9;have HP9:=Z9 hp9;have HG9:=Z9 hg9;clear hp9 hg9 hat9)
   have hgo:∀ i,(Value.slice la (UQ (m.dk.take k)).length lc).ownBlock=some i->w.heap.size+1<=i:=fun i e=>(RecAt.lt (uh HL) e).1;have hb9:Below (w.heap.size+1) X w9:=((Z3 _ _).alloc hlx _).trans ((Z3 _ _).grown (uh HG9) (by simp;omega) hgo);have hb8:=(uh BB).trans (hb9.mono (Nat.le_succ _));go_wp2_with fail;go_roundw
   case rel=>exact ⟨k+1,by omega,by go_num,by rw [uh HT];exact uh HP9,(uh kb).below hb9 (Nat.lt_succ_self _),hb8⟩
   case measure=>exact ms
  ·
   obtain rfl:k=m.dk.length:=by omega
   have HL9:Hid (NumsAt (w.heap.size+1) wr (.slice la (UQ (m.dk.take m.dk.length)).length lc) (UQ m.dk)):=Z9 (by have h9:=uh HL;rw [List.take_length] at h9 ⊢;exact h9);go_wp2_with fail;go_ret;exact ⟨_,rfl,RecAt.mono (uh HL9) (Nat.le_succ _),uh BB⟩
set_option maxRecDepth 100000
theorem M8 (w:World) (v0 v1 v2 v3 v4:Value) (m:Z6) (h:Smy w v0 v1 v2 v3 v4 m) :
  Calls prog 17 #[.agg #[v0,v1,v2,v3,v4,.int .i64 m.now]] w fun e w'=> ∃ u0 u1 u2 u3 u4 rs,e= .returned (.agg #[u0,u1,u2,u3,u4,.int .i64 (Xr m).now])/\FullSmy w.heap.size w' u0 u1 u2 u3 u4 (Xr m) rs/\Below w.heap.size w w':=by
 obtain ⟨M,hM⟩:=ZJ (Xr m);rw [hM];have HM:=Z9 hM;clear hM;have Hv0:=Z9 h;obtain ⟨a0,p0,a1,p1,a2,p2,a3,p3,a4,p4,rfl,rfl,rfl,rfl,rfl,_,_,_,_,_,_,_,_,_,_⟩:=h.five;clear h;obtain ⟨ok,Hok⟩:=YV (YA m);go_enter func17,ntmps17;go_wp2_with fail;obtain ⟨W,hW,kb,kr,BB⟩:=VP w 32 (S6 a0 p0 a1 p1 a2 p2 a3 p3 a4 p4 m) 32 E6;have Hv:=Z9 ((uh Hv0).below (uh BB));rw [hW];clear hW;refine (Uw (uh Hv)).mono ?_;rw [uh Hok];rintro e w1 ⟨rfl,hb⟩;replace Hv:=Z9 ((uh Hv).below hb);replace kb:=bl kb hb;replace kr:=bl kr hb;replace BB:=bt BB hb;clear hb;cases ok
 ·
  obtain rfl:M=W7:=by rw [<-uh HM];unfold Xr;rw [uh Hok];rfl
  obtain ⟨o0,o1,o2,o3,o4,o5⟩:=(uh kr).c6;obtain ⟨f0,f1,f2,f3,f4,f5⟩:=(uh kr).f6;go_wp2_with fail;refine Zz (v:= .agg E6) (by simp [results,results17,go_sem, *]) rfl ⟨_,_,_,_,_,[],rfl,Um _ _,?_⟩
  iterate 6 (refine Yv ?_ (by show _<=w.heap.size+1;omega) _)
  exact uh BB
 obtain rfl:M=ZH m:=by rw [<-uh HM];unfold Xr;rw [uh Hok];rfl
 have hlo:=Ro (uh Hok);have HFew:=Z9 (Sd hlo);clear hlo;obtain ⟨c0,c1,c2,c3,c4,c5⟩:=(uh kb).c6;go_wp2_with fail;clear c0 c1 c2 c3 c4 c5;have hWs:w.heap.size+2<=w1.heap.size:=by have:=(uh kr).lt;omega
 refine (Xz (uh Hv) (uh HFew)).mono ?_;rintro e w2 ⟨y0,y1,y2,y3,y4,oq,rfl,ho,hb⟩;have k9:=ho.smy;obtain ⟨b0,q0,b1,q1,b2,q2,b3,q3,b4,q4,rfl,rfl,rfl,rfl,rfl,_,_,_,_,_,_,_,_,_,_⟩:=k9.five;replace Hv:=Z9 ((uh Hv).below hb);replace kb:=bl kb hb;replace kr:=bl kr hb;replace BB:=bt BB hb;have HO:=Z9 (ho.mono hWs);have LO:Hid (∀ k,V7 (.slice b0 m.rm.length q0) (.slice b1 m.gd.length q1) (.slice b2 m.sm.length q2) (.slice b3 m.dk.length q3) (.slice b4 m.pc.length q4) oq k->w.heap.size+2<=k/\k<w2.heap.size):=Z9 (fun k e=>(uh HO).own e);have hsz9:=hb.size;clear ho hb k9;go_upto_region 4 with fail;obtain ⟨W2,hW2,hb,ko⟩:=Zc w2 32 (S6 b0 q0 b1 q1 b2 q2 b3 q3 b4 q4 m);replace Hv:=Z9 ((uh Hv).below hb);replace kb:=bl kb hb;replace kr:=bl kr hb;replace BB:=bt BB hb;replace HO:=Z9 ((uh HO).below hb);have hob:w.heap.size+2<=w2.heap.size:=Xv hWs hsz9;clear hb hsz9 hWs;rw [hW2];clear hW2;generalize w2.heap.size=ob at *;go_wp2_with fail;have H2:(Value.slice b2 m.sm.length q2).ownBlock ≠ some ob:=fun e=>by have:=(uh LO _ (.inr (.inr (.inr (.inl e))))).2;omega
 have H3:(Value.slice b3 m.dk.length q3).ownBlock ≠ some ob:=fun e=>by have:=(uh LO _ (.inr (.inr (.inr (.inr (.inl e)))))).2;omega
 refine (Ty (uh ko) (uh HO) H2 H3 (uh HFew).sm (uh HFew).dk).mono ?_;rintro e w3 ⟨rfl,hf3,ht3⟩;have ko1:=Z9 ((uh ko).two ht3 H2 H3);have HF1:=Z9 hf3;have Tw:=Z9 ht3;clear hf3 ht3 H2 H3;replace kr:=Z9 ((uh kr).two (uh Tw) (fun e=>by have:=(uh LO _ (.inr (.inr (.inr (.inl e))))).1;omega) (fun e=>by have:=(uh LO _ (.inr (.inr (.inr (.inr (.inl e)))))).1;omega));replace BB:=Z9 ((uh BB).trans ((uh Tw).below (uh BB).size (fun k e=>by have:=(uh LO k (.inr (.inr (.inr (.inl e))))).1;omega) (fun k e=>by have:=(uh LO k (.inr (.inr (.inr (.inr (.inl e)))))).1;omega)));obtain ⟨x0,x1,x2,x3,x4,x5⟩:=(uh ko1).c6;obtain ⟨o0,o1,o2,o3,o4,o5⟩:=(uh kr).c6;obtain ⟨f0,f1,f2,f3,f4,f5⟩:=(uh kr).f6;have Hnow:Hid ((ZH m).now=m.now):=Z9 (Zv m _).2.2.2.1;go_wp2_with fail;refine Zz (v:= .agg (S6 b0 q0 b1 q1 b2 q2 b3 q3 b4 q4 m)) (by simp [results,results17,go_sem, *]) rfl ⟨_,_,_,_,_,oq,by rw [uh Hnow],?_,?_⟩
 ·iterate 6 (refine FullSmy.set_off ?_ (fun k e=>by have:=(uh LO k e).1;omega) _ _)
  exact (uh HF1).mono (by omega)
 ·iterate 6 (refine Yv ?_ (by show _<=w.heap.size+1;omega) _)
  exact uh BB
theorem MV  {b:Int} {q:Bool} (hq:VW m b=q) (h:Smy w v0 v1 v2 v3 v4 m) :
  cB 53 #[.agg #[v0,v1,v2,v3,v4,.int .i64 m.now],.int .i64 b] w (.bool q):=by
 have Hq:=Z9 hq;clear hq;have Hv:=Z9 (h.alloc (.cells #[v0,v1,v2,v3,v4,.int .i64 m.now] 32));obtain ⟨a0,p0,a1,p1,a2,p2,a3,p3,a4,p4,rfl,rfl,rfl,rfl,rfl,_,_,_,_,_,_,_,_,_,_⟩:=h.five;clear h;have kb:Hid (Blk (w.alloc (.cells (S6 a0 p0 a1 p1 a2 p2 a3 p3 a4 p4 m) 32)) w.heap.size 32 (S6 a0 p0 a1 p1 a2 p2 a3 p3 a4 p4 m)):=Z9 (Blk.new w _ _);have BB:Hid (Below w.heap.size w (w.alloc (.cells (S6 a0 p0 a1 p1 a2 p2 a3 p3 a4 p4 m) 32))):=Z9 ((ba _ _));obtain ⟨ok,Hok⟩:=YV (ZM m);go_enter func53,ntmps53;go_wp2_with fail;generalize w.alloc (.cells (S6 a0 p0 a1 p1 a2 p2 a3 p3 a4 p4 m) 32)=W at *;refine ck (Ww (uh Hok) (uh Hv)) fun w1 hb=> ?_;replace Hv:=Z9 ((uh Hv).below hb);replace kb:=bl kb hb;replace BB:=bt BB hb;clear hb;cases ok
 ·obtain rfl:q=false:=by rw [<-uh Hq];unfold VW;rw [uh Hok];rfl
  go_wp2_with fail;go_ret;exact ⟨rfl,uh BB⟩
 obtain ⟨qb,Hqb⟩:=YV (Y1 m b);obtain ⟨c0,c1,c2,c3,c4,c5⟩:=(uh kb).c6;go_wp2_with fail;clear c0 c1 c2 c3 c4 c5;refine ck (VR (uh Hqb) (uh Hv)) fun w2 hb=> ?_;replace Hv:=Z9 ((uh Hv).below hb);replace kb:=bl kb hb;replace BB:=bt BB hb;clear hb;cases qb
 ·obtain rfl:q=false:=by rw [<-uh Hq];unfold VW;rw [uh Hqb];simp
  go_wp2_with fail;go_ret;exact ⟨rfl,uh BB⟩
 obtain ⟨bn,hbn,rfl⟩:∃ k:Nat,k<m.dk.length/\b=(k:Int):=by
  have:=ZN (uh Hqb);exact ⟨b.toNat,by omega,by omega⟩
 have h12:=YH (ZU (uh Hok));have HI:Hid (VW m (bn:Int)=VJ m bn):=Z9 (by unfold VW;rw [uh Hok,uh Hqb];rfl);obtain ⟨c0,c1,c2,c3,c4,c5⟩:=(uh kb).c6;go_wp2_with fail;clear c0 c1 c2 c3 c4 c5;refine (Ri (uh Hv) hbn (by omega)).mono ?_;rw [<-uh HI,uh Hq];rintro e w3 ⟨rfl,hb⟩;replace Hv:=Z9 ((uh Hv).below hb);replace kb:=bl kb hb;replace BB:=bt BB hb;clear hb;go_wp2_with fail;go_ret;exact ⟨rfl,uh BB⟩
theorem N7 (w:World) (v0 v1 v2 v3 v4:Value) (m:Z6) (h:Smy w v0 v1 v2 v3 v4 m) :
  Calls prog 52 #[.agg #[v0,v1,v2,v3,v4,.int .i64 m.now]] w fun e w'=> ∃ v',e= .returned v'/\NumsAt w.heap.size w' v' (XS m)/\Below w.heap.size w w':=by
 obtain ⟨M,hM⟩:=ZJ (XS m);rw [hM];have HM:=Z9 hM;clear hM;have HW:=Z9 h;have Hv0:=Z9 ((h.alloc (.cells #[v0,v1,v2,v3,v4,.int .i64 m.now] 32)).alloc (.cells #[] 2));obtain ⟨a0,p0,a1,p1,a2,p2,a3,p3,a4,p4,rfl,rfl,rfl,rfl,rfl,_,_,_,_,_,_,_,_,_,_⟩:=h.five;clear h;have kb1:Hid (Blk ((w.alloc (.cells (S6 a0 p0 a1 p1 a2 p2 a3 p3 a4 p4 m) 32)).alloc (.cells #[] 2)) w.heap.size 32 (S6 a0 p0 a1 p1 a2 p2 a3 p3 a4 p4 m)):=Z9 ((Blk.new w _ _).alloc _);have BB1:Hid (Below w.heap.size w ((w.alloc (.cells (S6 a0 p0 a1 p1 a2 p2 a3 p3 a4 p4 m) 32)).alloc (.cells #[] 2))):=Z9 (((ba _ _)).alloc (by simp) _);have E0:Hid (NumsAt (w.heap.size+1) ((w.alloc (.cells (S6 a0 p0 a1 p1 a2 p2 a3 p3 a4 p4 m) 32)).alloc (.cells #[] 2)) (.slice (some ⟨w.heap.size+1,0,none⟩) 0 0) []):=Z9 (Zq (by simp) (by simp));obtain ⟨ok,Hok⟩:=YV (ZM m);go_enter func52,ntmps52;go_wp2_with fail
 go_loopw [3,4] (fun l i wr=> ∃ k:Nat,k<=m.dk.length/\i= .int .i64 k/\NumsAt (w.heap.size+1) wr l (UQ (m.dk.take k))/\(k=0\/ZM m=true)/\Blk wr w.heap.size 32 (S6 a0 p0 a1 p1 a2 p2 a3 p3 a4 p4 m)/\Below w.heap.size w wr) (fun _ i _=>m.dk.length-(intOf i).toNat)
 case atStart=>exact ⟨0,ZA _,rfl,uh E0,.inl rfl,uh kb1,uh BB1⟩
 case round=>
  obtain ⟨k,hk,rfl,hl,hz,hkb,hb0⟩:=hrel;obtain ⟨la,lc,rfl⟩:=RecAt.shape hl;have HL:=Z9 hl;have kb:=Z9 hkb;have BB:=Z9 hb0;have Hz:=Z9 hz;clear hz;have Hv:=Z9 ((uh HW).below hb0);have hfl:(UQ (m.dk.take k)).length=k:=by rw [Nm,List.length_take];omega
  have Hfl:=Z9 hfl;clear hl hkb hb0 hfl;obtain ⟨c0,c1,c2,c3,c4,c5⟩:=(uh kb).c6;by_cases hlt:k<m.dk.length
  ·
   have hlt1:(k:Int)<(m.dk.length:Int):=by omega
   go_wp2_with fail;clear c0 c1 c2 c3 c4 c5;refine ck (Ww (uh Hok) (uh Hv)) fun w1 hb=> ?_;replace HL:=Z9 (RecAt.later (uh HL) hb);replace Hv:=Z9 ((uh Hv).below hb);replace kb:=bl kb hb;replace BB:=bt BB hb;clear hb;cases ok
   ·obtain rfl:k=0:=by
     rcases uh Hz with e | e
     ·exact e
     ·rw [uh Hok] at e;cases e
    obtain rfl:M=[]:=by rw [<-uh HM];unfold XS;rw [uh Hok];rfl
    go_wp2_with fail;go_ret;exact ⟨_,rfl,RecAt.mono (uh HL) (Nat.le_succ _),uh BB⟩
   obtain ⟨_,_,hde,_,_,r3⟩:=(uh Hv).dk;cases hde
   rcases r3 with e0 | ⟨db,off,rfl,hbw,hcl⟩
   ·rw [e0] at hlt;simp at hlt
   obtain ⟨d0,d1,d2⟩:=Zh hcl hlt;have HT:Hid (UQ (m.dk.take (k+1))=UQ (m.dk.take k)++[(Z8 m.dk k).2.1]):=Z9 (KE hlt);generalize Z8 m.dk k=d at *;obtain ⟨op,wh,mk⟩:=d;simp only at d0 d1 d2 HT;clear hcl;have c3:=(uh kb).cell (i:=3) (v:= .slice (some ⟨db,off,none⟩) m.dk.length p3) rfl;obtain ⟨X,hX⟩:∃ x,x=w1:=⟨_,rfl⟩
   clear hX;have hsx:=(uh BB).size;have hlx:=(uh kb).lt;have hfw:m.dk.length<=8:=(ZU (uh Hok)).sane.eight;have hfl:(UQ (m.dk.take k)).length<=8:=by rw [uh Hfl];omega
   go_wp2_with (at_builtin;refine ZG tyN rfl (.tmp 17) (.tmp 24) 30 underlying30 rfl (w.heap.size+1) _ _ (UQ (m.dk.take k)) [wh] rfl rfl (RecAt.later (uh HL) ((ba _ _))) (WH wh rfl (Z0 _) (by omega)) (by simp;omega) (by simp;omega) ?_;intro u9 w9 hp9 hg9 hat9;have HP9:=Z9 hp9;have HG9:=Z9 hg9;clear hp9 hg9 hat9)
   have hgo:∀ i,(Value.slice la (UQ (m.dk.take k)).length lc).ownBlock=some i->w.heap.size+1<=i:=fun i e=>(RecAt.lt (uh HL) e).1;have hb9:Below (w.heap.size+1) w1 w9:=((Z3 _ _).alloc hlx _).trans ((Z3 _ _).grown (uh HG9) (by simp;omega) hgo);have hb8:=(uh BB).trans (hb9.mono (Nat.le_succ _));go_wp2_with fail;go_roundw
   case rel=>exact ⟨k+1,by omega,by go_num,by rw [uh HT];exact uh HP9,.inr (uh Hok),(uh kb).below hb9 (Nat.lt_succ_self _),hb8⟩
   case measure=>exact ms
  ·
   obtain rfl:k=m.dk.length:=by omega
   have HL9:Hid (NumsAt (w.heap.size+1) wr (.slice la (UQ (m.dk.take m.dk.length)).length lc) M):=Z9 (by
    have h9:=uh HL;rw [<-uh HM];unfold XS
    rcases uh Hz with e | e
    ·have hd0:m.dk=[]:=List.eq_nil_of_length_eq_zero e
     rw [hd0] at h9 ⊢
     split<;>exact h9
    ·rw [e]
     simp only [if_true];rw [List.take_length] at h9 ⊢
     exact h9)
   go_wp2_with fail;go_ret;exact ⟨_,rfl,RecAt.mono (uh HL9) (Nat.le_succ _),uh BB⟩
end Go.Proofs.YtgdpaigcmoifbaaGreat
