/- Part 29 of what the proof rests on. No condition but those that a theorem names. -/
import Derived.Test.YtgdpaigcmoifbaaGreatXw22
import Derived.Test.YtgdpaigcmoifbaaGreatXw23
set_option maxHeartbeats 8000000
set_option maxRecDepth 100000
namespace Go.Proofs.YtgdpaigcmoifbaaGreat
open Go.ChangeShapes Go.WideShapes Go.ChangeAt Go.RowKit Go.Sort Go.Proofs.Tryz
set_option linter.unusedVariables false
set_option maxRecDepth 100000
variable {w w' w0 w1 w2 w3 w₀ wr W W' X A B C : World} {v v0 v1 v2 v3 v4 u u0 u1 u2 u3 u4 : Value} {m : Z6}
theorem KQ  {r:Nat} (h:Smy w v0 v1 v2 v3 v4 m) (hS:Sane m) (hr:r<m.rm.length) :
  cB 313 #[.agg #[v0,v1,v2,v3,v4,.int .i64 m.now],.int .i64 (r:Int)] w (.int .i64 (SH m r)):=by
 have Hv:=Z9 (h.alloc (.cells #[v0,v1,v2,v3,v4,.int .i64 m.now] 32));obtain ⟨a0,p0,a1,p1,a2,p2,a3,p3,a4,p4,rfl,rfl,rfl,rfl,rfl,_,_,_,_,_,_,_,_,_,_⟩:=h.five;clear h;have kb:Hid (Blk (w.alloc (.cells (S6 a0 p0 a1 p1 a2 p2 a3 p3 a4 p4 m) 32)) w.heap.size 32 (S6 a0 p0 a1 p1 a2 p2 a3 p3 a4 p4 m)):=Z9 (Blk.new w _ _);have BB:Hid (Below w.heap.size w (w.alloc (.cells (S6 a0 p0 a1 p1 a2 p2 a3 p3 a4 p4 m) 32))):=Z9 ((ba _ _));obtain ⟨x,hx⟩:=ZJ (SH m r);rw [hx];obtain ⟨ms,hms⟩:=ZJ (Y3 m (r:Int) m.dk.length);have Hx:Hid (Xk (ZQ m.rm r) ms.1=x):=Z9 (by rw [<-hx,<-hms];rfl);have Hms:=Z9 hms;have HS:=Z9 hS;have hr1:(r:Int)<(m.rm.length:Int):=by omega
 clear hx hms hS;obtain ⟨mo,al⟩:=ms;go_enter func313,ntmps313;go_wp2_with fail;generalize w.alloc (.cells (S6 a0 p0 a1 p1 a2 p2 a3 p3 a4 p4 m) 32)=W at *;refine (Ol (r:Int) (uh Hv) (uh HS)).mono ?_;rw [uh Hms];rintro e w1 ⟨rfl,hb⟩;replace Hv:=Z9 ((uh Hv).below hb);replace kb:=bl kb hb;replace BB:=bt BB hb;clear hb;obtain ⟨_,_,hre,_,_,r0⟩:=(uh Hv).rm;cases hre
 rcases r0 with e0 | ⟨rb,off,rfl,hbw,hcl⟩
 ·rw [e0] at hr;simp at hr
 obtain ⟨d0,pv,d1,hpv⟩:=hcl r hr;have Hpv:=Z9 hpv;obtain ⟨pa,pc,rfl,_,_,_⟩:=hpv;obtain ⟨⟨bn,ps⟩,hrm⟩:=ZJ (ZQ m.rm r);rw [hrm] at d0 d1 Hpv Hx;simp only at d0 d1;clear hcl hrm;have c0:=(uh kb).cell (i:=0) (v:= .slice (some ⟨rb,off,none⟩) m.rm.length p0) rfl;go_wp2_with fail;refine ck (RV bn mo (uh Hpv)) fun w2 hb=> ?_;replace BB:=bt BB hb;clear hb;go_wp2_with fail;go_ret;exact ⟨ZB (uh Hx),uh BB⟩
theorem Ri  {b:Nat} (h:Smy w v0 v1 v2 v3 v4 m) (hb0:b<m.dk.length) (hl:m.sm.length<=800) :
  cB 109 #[.agg #[v0,v1,v2,v3,v4,.int .i64 m.now],.int .i64 (b:Int)] w (.bool (VJ m b)):=by
 have Hv:=Z9 (h.alloc (.cells #[v0,v1,v2,v3,v4,.int .i64 m.now] 32));obtain ⟨a0,p0,a1,p1,a2,p2,a3,p3,a4,p4,rfl,rfl,rfl,rfl,rfl,_,_,_,_,_,_,_,_,_,_⟩:=h.five;clear h;have kb:Hid (Blk (w.alloc (.cells (S6 a0 p0 a1 p1 a2 p2 a3 p3 a4 p4 m) 32)) w.heap.size 32 (S6 a0 p0 a1 p1 a2 p2 a3 p3 a4 p4 m)):=Z9 (Blk.new w _ _);have BB:Hid (Below w.heap.size w (w.alloc (.cells (S6 a0 p0 a1 p1 a2 p2 a3 p3 a4 p4 m) 32))):=Z9 ((ba _ _));have hb1:(b:Int)<(m.dk.length:Int):=by omega
 obtain ⟨qs,hqs⟩:=ZJ (atV m.sm (b:Int) m.sm.length);obtain ⟨op,hop⟩:=ZJ ((Z8 m.dk b).1);have hI:VJ m b=(op && decide (qs.length=0)):=by unfold VJ;rw [hqs,hop]
 rw [hI];have Hqs:=Z9 hqs;have Hop:=Z9 hop;clear hI hqs hop;go_enter func109,ntmps109;go_upto_region 1 with fail;generalize w.alloc (.cells (S6 a0 p0 a1 p1 a2 p2 a3 p3 a4 p4 m) 32)=W at *;obtain ⟨_,_,hde,_,_,r3⟩:=(uh Hv).dk;cases hde
 rcases r3 with e0 | ⟨db,off,rfl,hbw,hcl⟩
 ·rw [e0] at hb0;simp at hb0
 obtain ⟨d0,_,_⟩:=Zh hcl hb0;rw [uh Hop] at d0;clear hcl Hop;obtain ⟨c0,c1,c2,c3,c4,c5⟩:=(uh kb).c6;cases op
 ·go_wp2_with fail
  go_ret;exact ⟨rfl,uh BB⟩
 go_wp2_with fail;refine (SU (b:Int) (uh Hv) (by omega)).mono ?_;rw [uh Hqs];rintro e w2 ⟨v',rfl,he,hb⟩;obtain ⟨ua,uc,rfl⟩:=EntsAt.shape he;replace BB:=bt BB hb;clear hb he c0 c1 c2 c3 c4 c5;go_wp2_with fail;go_ret;exact ⟨Z5 (by rw [Bool.true_and,Bool.eq_iff_iff];simp only [beq_iff_eq,YZ];omega),uh BB⟩
set_option maxRecDepth 100000
theorem Uh  {who q:Int} (hq:YM m who=q) (h:Smy w v0 v1 v2 v3 v4 m):cB 26 #[.agg #[v0,v1,v2,v3,v4,.int .i64 m.now],.int .i64 who] w (.int .i64 q):=by
 have Hq:=Z9 hq;clear hq;have Hv:=Z9 (h.alloc (.cells #[v0,v1,v2,v3,v4,.int .i64 m.now] 32));obtain ⟨a0,p0,a1,p1,a2,p2,a3,p3,a4,p4,rfl,rfl,rfl,rfl,rfl,_,_,_,_,_,_,_,_,_,_⟩:=h.five;clear h;have kb:Hid (Blk (w.alloc (.cells (S6 a0 p0 a1 p1 a2 p2 a3 p3 a4 p4 m) 32)) w.heap.size 32 (S6 a0 p0 a1 p1 a2 p2 a3 p3 a4 p4 m)):=Z9 (Blk.new w _ _);have BB:Hid (Below w.heap.size w (w.alloc (.cells (S6 a0 p0 a1 p1 a2 p2 a3 p3 a4 p4 m) 32))):=Z9 ((ba _ _));obtain ⟨ok,Hok⟩:=YV (ZM m);go_enter func26,ntmps26;go_wp2_with fail;generalize w.alloc (.cells (S6 a0 p0 a1 p1 a2 p2 a3 p3 a4 p4 m) 32)=W at *;refine ck (RC (uh Hok) (uh Hv)) fun w1 hb=> ?_;replace Hv:=Z9 ((uh Hv).below hb);replace kb:=bl kb hb;replace BB:=bt BB hb;clear hb;cases ok
 ·obtain rfl:q= -1:=by rw [<-uh Hq];unfold YM;rw [uh Hok];rfl
  go_wp2_with fail;go_ret;exact ⟨rfl,uh BB⟩
 obtain ⟨qw,Hw⟩:=YV (Yn m who);obtain ⟨c0,c1,c2,c3,c4,c5⟩:=(uh kb).c6;go_wp2_with fail;refine ck (WD (uh Hw) (uh Hv)) fun w2 hb=> ?_;replace Hv:=Z9 ((uh Hv).below hb);replace kb:=bl kb hb;replace BB:=bt BB hb;clear hb c0 c1 c2 c3 c4 c5;cases qw
 ·obtain rfl:q= -1:=by rw [<-uh Hq];unfold YM;rw [uh Hw];simp
  go_wp2_with fail;go_ret;exact ⟨rfl,uh BB⟩
 obtain ⟨k,rfl,hk,hs⟩:=YK (uh Hw);obtain rfl:q=ZC m (k:Int):=by rw [<-uh Hq];unfold YM;rw [uh Hw,uh Hok];rfl
 have HS:=Z9 (ZU (uh Hok)).sane;obtain ⟨c0,c1,c2,c3,c4,c5⟩:=(uh kb).c6;go_wp2_with fail;refine ck (Tx (uh Hv) (uh HS).guilded.gd hk ((uh HS).guilded.lo k hk hs) ((uh HS).guilded.hi k hk hs)) fun w3 hb=> ?_;replace Hv:=Z9 ((uh Hv).below hb);replace kb:=bl kb hb;replace BB:=bt BB hb;clear hb c0 c1 c2 c3 c4 c5;go_wp2_with fail;go_ret;exact ⟨rfl,uh BB⟩
theorem Wn  {b q:Int} (hq:Ve m b=q) (h:Smy w v0 v1 v2 v3 v4 m):cB 27 #[.agg #[v0,v1,v2,v3,v4,.int .i64 m.now],.int .i64 b] w (.int .i64 q):=by
 have Hq:=Z9 hq;clear hq;have Hv:=Z9 (h.alloc (.cells #[v0,v1,v2,v3,v4,.int .i64 m.now] 32));obtain ⟨a0,p0,a1,p1,a2,p2,a3,p3,a4,p4,rfl,rfl,rfl,rfl,rfl,_,_,_,_,_,_,_,_,_,_⟩:=h.five;clear h;have kb:Hid (Blk (w.alloc (.cells (S6 a0 p0 a1 p1 a2 p2 a3 p3 a4 p4 m) 32)) w.heap.size 32 (S6 a0 p0 a1 p1 a2 p2 a3 p3 a4 p4 m)):=Z9 (Blk.new w _ _);have BB:Hid (Below w.heap.size w (w.alloc (.cells (S6 a0 p0 a1 p1 a2 p2 a3 p3 a4 p4 m) 32))):=Z9 ((ba _ _));obtain ⟨ok,Hok⟩:=YV (ZM m);go_enter func27,ntmps27;go_wp2_with fail;generalize w.alloc (.cells (S6 a0 p0 a1 p1 a2 p2 a3 p3 a4 p4 m) 32)=W at *;refine ck (RC (uh Hok) (uh Hv)) fun w1 hb=> ?_;replace Hv:=Z9 ((uh Hv).below hb);replace kb:=bl kb hb;replace BB:=bt BB hb;clear hb;cases ok
 ·obtain rfl:q= -1:=by rw [<-uh Hq];unfold Ve;rw [uh Hok];rfl
  go_wp2_with fail;go_ret;exact ⟨rfl,uh BB⟩
 obtain ⟨qw,Hw⟩:=YV (Y1 m b);obtain ⟨c0,c1,c2,c3,c4,c5⟩:=(uh kb).c6;go_wp2_with fail;refine ck (VR (uh Hw) (uh Hv)) fun w2 hb=> ?_;replace Hv:=Z9 ((uh Hv).below hb);replace kb:=bl kb hb;replace BB:=bt BB hb;clear hb c0 c1 c2 c3 c4 c5;cases qw
 ·obtain rfl:q= -1:=by rw [<-uh Hq];unfold Ve;rw [uh Hw];simp
  go_wp2_with fail;go_ret;exact ⟨rfl,uh BB⟩
 obtain rfl:q=Zx m b (-1):=by rw [<-uh Hq];unfold Ve;rw [uh Hw,uh Hok];rfl
 have HS:=Z9 (ZU (uh Hok)).sane;obtain ⟨c0,c1,c2,c3,c4,c5⟩:=(uh kb).c6;go_wp2_with fail;refine ck (UY b (-1) (uh Hv) (uh HS).guilded (by have:=(uh HS).few;omega)) fun w3 hb=> ?_;replace Hv:=Z9 ((uh Hv).below hb);replace kb:=bl kb hb;replace BB:=bt BB hb;clear hb c0 c1 c2 c3 c4 c5;go_wp2_with fail;go_ret;exact ⟨rfl,uh BB⟩
end Go.Proofs.YtgdpaigcmoifbaaGreat
