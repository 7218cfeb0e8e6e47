/- Part 23 of what the proof rests on. No condition but those that a theorem names. -/
import Derived.Test.YtmdgokjeobnnaaaGreatDoorXt17
set_option maxHeartbeats 8000000
set_option maxRecDepth 100000
namespace Go.Proofs.YtmdgokjeobnnaaaGreatDoor
open Go.ChangeShapes Go.WideShapes Go.ChangeAt Go.RowKit Go.Sort Go.Proofs.Tryz
set_option linter.unusedVariables false
set_option maxRecDepth 100000
variable {w w' w0 w1 w2 w3 w₀ wr W W' X A B C : World} {v v0 v1 v2 v3 v4 u u0 u1 u2 u3 u4 : Value} {m : Z7}
theorem PM  {r:Nat} (h:Smy w v0 v1 v2 v3 v4 m) (hS:Sane m) (hr:r<m.rm.length) :
  cB 144 #[.agg #[v0,v1,v2,v3,v4,.int .i64 m.now],.int .i64 (r:Int)] w (.int .i64 (U1 m r)):=by
 have Hv:=Z9 (h.alloc (.cells #[v0,v1,v2,v3,v4,.int .i64 m.now] 40));obtain ⟨a0,p0,a1,p1,a2,p2,a3,p3,a4,p4,rfl,rfl,rfl,rfl,rfl,_,_,_,_,_,_,_,_,_,_⟩:=h.five;clear h;have kb:Hid (Blk (w.alloc (.cells (S6 a0 p0 a1 p1 a2 p2 a3 p3 a4 p4 m) 40)) w.heap.size 40 (S6 a0 p0 a1 p1 a2 p2 a3 p3 a4 p4 m)):=Z9 (Blk.new w _ _);have BB:Hid (Below w.heap.size w (w.alloc (.cells (S6 a0 p0 a1 p1 a2 p2 a3 p3 a4 p4 m) 40))):=Z9 ((ba _ _));obtain ⟨x,hx⟩:=ZE (U1 m r);rw [hx];obtain ⟨ms,hms⟩:=ZE (Zd m (r:Int) m.dk.length);have Hx:Hid (XN (ZO m.rm r) ms.1=x):=Z9 (by rw [<-hx,<-hms];rfl);have Hms:=Z9 hms;have HS:=Z9 hS;have hr1:(r:Int)<(m.rm.length:Int):=by omega
 clear hx hms hS;obtain ⟨mo,al⟩:=ms;go_enter func144,ntmps144;go_wp2_with fail;generalize w.alloc (.cells (S6 a0 p0 a1 p1 a2 p2 a3 p3 a4 p4 m) 40)=W at *;refine (RW (r:Int) (uh Hv) (uh HS)).mono ?_;rw [uh Hms];rintro e w1 ⟨rfl,hb⟩;replace Hv:=Z9 ((uh Hv).below hb);replace kb:=bl kb hb;replace BB:=bt BB hb;clear hb;obtain ⟨_,_,hre,_,_,r0⟩:=(uh Hv).rm;cases hre
 rcases r0 with e0 | ⟨rb,off,rfl,hbw,hcl⟩
 ·rw [e0] at hr;simp at hr
 obtain ⟨d0,pv,d1,hpv⟩:=hcl r hr;have Hpv:=Z9 hpv;obtain ⟨pa,pc,rfl,_,_,_⟩:=hpv;obtain ⟨⟨bn,ps⟩,hrm⟩:=ZE (ZO m.rm r);rw [hrm] at d0 d1 Hpv Hx;simp only at d0 d1;clear hcl hrm;have c0:=(uh kb).cell (i:=0) (v:= .slice (some ⟨rb,off,none⟩) m.rm.length p0) rfl;go_wp2_with fail;refine ck (UB bn mo (uh Hpv)) fun w2 hb=> ?_;replace BB:=bt BB hb;clear hb;go_wp2_with fail;go_ret;exact ⟨Za (uh Hx),uh BB⟩
theorem RV  {b:Nat} (h:Smy w v0 v1 v2 v3 v4 m) (hb0:b<m.dk.length) (hl:m.sm.length<=800) :
  cB 166 #[.agg #[v0,v1,v2,v3,v4,.int .i64 m.now],.int .i64 (b:Int)] w (.bool (WO m b)):=by
 have Hv:=Z9 (h.alloc (.cells #[v0,v1,v2,v3,v4,.int .i64 m.now] 40));obtain ⟨a0,p0,a1,p1,a2,p2,a3,p3,a4,p4,rfl,rfl,rfl,rfl,rfl,_,_,_,_,_,_,_,_,_,_⟩:=h.five;clear h;have kb:Hid (Blk (w.alloc (.cells (S6 a0 p0 a1 p1 a2 p2 a3 p3 a4 p4 m) 40)) w.heap.size 40 (S6 a0 p0 a1 p1 a2 p2 a3 p3 a4 p4 m)):=Z9 (Blk.new w _ _);have BB:Hid (Below w.heap.size w (w.alloc (.cells (S6 a0 p0 a1 p1 a2 p2 a3 p3 a4 p4 m) 40))):=Z9 ((ba _ _));have hb1:(b:Int)<(m.dk.length:Int):=by omega
 obtain ⟨qs,hqs⟩:=ZE (atV m.sm (b:Int) m.sm.length);obtain ⟨op,hop⟩:=ZE ((Z8 m.dk b).1);have hI:WO m b=(op && decide (qs.length=0)):=by unfold WO;rw [hqs,hop]
 rw [hI];have Hqs:=Z9 hqs;have Hop:=Z9 hop;clear hI hqs hop;go_enter func166,ntmps166;go_upto_region 1 with fail;generalize w.alloc (.cells (S6 a0 p0 a1 p1 a2 p2 a3 p3 a4 p4 m) 40)=W at *;obtain ⟨_,_,hde,_,_,r3⟩:=(uh Hv).dk;cases hde
 rcases r3 with e0 | ⟨db,off,rfl,hbw,hcl⟩
 ·rw [e0] at hb0;simp at hb0
 obtain ⟨d0,_,_⟩:=Yv hcl hb0;rw [uh Hop] at d0;clear hcl Hop;obtain ⟨c0,c1,c2,c3,c4,c5⟩:=(uh kb).c6;cases op
 ·go_wp2_with fail
  go_ret;exact ⟨rfl,uh BB⟩
 go_wp2_with fail;refine (TO (b:Int) (uh Hv) (by omega)).mono ?_;rw [uh Hqs];rintro e w2 ⟨v',rfl,he,hb⟩;obtain ⟨ua,uc,rfl⟩:=EntsAt.shape he;replace BB:=bt BB hb;clear hb he c0 c1 c2 c3 c4 c5;go_wp2_with fail;go_ret;exact ⟨ZU (by rw [Bool.true_and,Bool.eq_iff_iff];simp only [beq_iff_eq,YV];omega),uh BB⟩
end Go.Proofs.YtmdgokjeobnnaaaGreatDoor
