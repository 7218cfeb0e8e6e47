/- Part 16 of what the proof rests on. No condition but those that a theorem names. -/
import Derived.Test.YtlcpgkakdieeaaaGreatXk06
import Derived.Test.YtlcpgkakdieeaaaGreatXk07
import Derived.Test.YtlcpgkakdieeaaaGreatXk11
set_option maxHeartbeats 8000000
set_option maxRecDepth 100000
namespace Go.Proofs.YtlcpgkakdieeaaaGreat
open Go.ChangeShapes Go.WideShapes Go.ChangeAt Go.RowKit Go.Sort Go.Proofs.Tryz
set_option linter.unusedVariables false
variable {w w' w0 w1 w2 w3 w₀ wr W W' X A B C : World} {v v0 v1 v2 v3 v4 u u0 u1 u2 u3 u4 : Value}
theorem UL (x:Int) (w:World):cE 53 #[.int .i64 x] w (.bool (inB x 0 1000000)):=by
 go_enter func53,ntmps53;go_wp2_with (go_at_call 64;refine (ZV _ _ _ _).mono ?_;rintro e w' ⟨rfl,rfl⟩)
 go_ret;exact ⟨rfl,rfl⟩
theorem SY  {ps:List Z4} (b need:Int) (h:IsPaces w v ps) :
  cB 235 #[.agg #[.int .i64 b,v],.int .i64 need] w (.int .i64 (Xl (b,ps) need)):=by
 have Hv:=Z9 h;obtain ⟨a,cap,rfl,hc,hm,hrow⟩:=h;clear hrow;cases hr:Ze (b,ps)
 ·rw [JC hr]
  go_enter func235,ntmps235;go_wp2_with fail;refine ck (YJ b ((uh Hv).below ((ba _ _)))) fun w1 hb=> ?_;have B1:Hid (Below w.heap.size w w1):=Z9 (((ba _ _)).trans (hb.mono (by simp)));clear hb;go_wp2_with fail;go_ret;exact ⟨rfl,uh B1⟩
 cases hn:inB need 0 1000000
 ·rw [JD hn]
  go_enter func235,ntmps235;go_wp2_with fail;refine ck (YJ b ((uh Hv).below ((ba _ _)))) fun w1 hb=> ?_;have B1:Hid (Below w.heap.size w w1):=Z9 (((ba _ _)).trans (hb.mono (by simp)));clear hb;go_wp2_with (go_at_call 53;refine (UL _ _).mono ?_;rintro e w' ⟨rfl,rfl⟩)
  go_ret;exact ⟨rfl,uh B1⟩
 rw [GG hr hn];have Hr:=Z9 hr;have hn':=hn;obtain ⟨n0,n1⟩:=ZN hn';clear hn';go_enter func235,ntmps235;go_wp2_with fail;refine ck (YJ b ((uh Hv).below ((ba _ _)))) fun w1 hb=> ?_;have x1:w1.cell? ⟨w.heap.size,1,none⟩=some (.slice a ps.length cap):=(hb.cell (p:=⟨w.heap.size,1,none⟩) (by simp)).trans (by simp);have B1:Hid (Below w.heap.size w w1):=Z9 (((ba _ _)).trans (hb.mono (by simp)));clear hb;have hv1:=(uh Hv).below (uh B1);obtain ⟨a',cap',he,_,_,hrow⟩:=hv1;cases he;have hbd:=Lb (uh Hr);simp only at hbd;obtain ⟨_,_,hl1,hl4⟩:=hbd
 rcases hrow with h0 | ⟨bk,off,rfl,hbw,hcl⟩
 ·rw [h0] at hl1;simp at hl1
 have Hcl:=Z9 hcl;clear hcl;go_wp2_with (go_at_call 53;refine (UL _ _).mono ?_;rintro e w' ⟨rfl,rfl⟩)
 clear hr hn
 go_loop [5] (fun i=> ∃ k:Nat,k+1<=ps.length/\i= .int .i64 k/\(∀ j,j<k->RN need (Z7 ps j)=false)) (fun i=>ps.length-(intOf i).toNat)
 case atStart=>exact ⟨0,by omega,rfl,fun j hj=>by omega⟩
 case round=>
  obtain ⟨k,hk,rfl,hlo⟩:=hrel;have Hlo:=Z9 hlo;clear hlo;by_cases hlast:k+1=ps.length
  ·have Hp:=Z9 (Od need ps k hk (uh Hlo) (.inl hlast))
   have hd:¬ (k:Int)+1<(ps.length:Int):=by omega
   go_wp2_with fail;go_ret;exact ⟨ZA (by rw [uh Hp]),uh B1⟩
  ·have hd:(k:Int)+1<(ps.length:Int):=by omega
   obtain ⟨c0,c1⟩:=uh Hcl k (by omega);have hpb:=Md (uh Hr) (k:=k) (show k<ps.length by omega);simp only at hpb;generalize hp:Z7 ps k=p at c0 c1 hpb;have Hp:=Z9 hp;clear hp;obtain ⟨f,c⟩:=p;simp only at c0 c1 hpb;obtain ⟨f0,f1,_,_⟩:=hpb;by_cases hen:4*f<5*need
   ·go_wp2_with fail
    go_round
    case rel=>exact ⟨k+1,by omega,by go_num,Yi (uh Hlo) (by rw [uh Hp];exact Co hen)⟩
    case measure=>exact ms
   ·have Hq:=Z9 (Od need ps k hk (uh Hlo) (.inr (by rw [uh Hp];exact Cp (by simp only;omega))))
    go_wp2_with fail;go_ret;exact ⟨ZA (by rw [uh Hq]),uh B1⟩
theorem Pg  {ps:List Z4} (b pace work:Int) (h:IsPaces w v ps) :
  cB 247 #[.agg #[.int .i64 b,v],.int .i64 pace,.int .i64 work] w (.int .i64 (Xk (b,ps) pace work)):=by
 have Hv:=Z9 h;obtain ⟨a,cap,rfl,hc,hm,hrow⟩:=h;clear hrow;have hl:(ps.length:Int)<=9223372036854775807:=by omega
 cases hr:Ze (b,ps)
 ·rw [Pt hr]
  go_enter func247,ntmps247;go_wp2_with fail;refine ck (YJ b ((uh Hv).below ((ba _ _)))) fun w1 hb=> ?_;have B1:Hid (Below w.heap.size w w1):=Z9 (((ba _ _)).trans (hb.mono (by simp)));clear hb;go_wp2_with fail;go_ret;exact ⟨rfl,uh B1⟩
 cases hn:inB work 0 1000000
 ·rw [Pu hn]
  go_enter func247,ntmps247;go_wp2_with fail;refine ck (YJ b ((uh Hv).below ((ba _ _)))) fun w1 hb=> ?_;have B1:Hid (Below w.heap.size w w1):=Z9 (((ba _ _)).trans (hb.mono (by simp)));clear hb;go_wp2_with (go_at_call 53;refine (UL _ _).mono ?_;rintro e w' ⟨rfl,rfl⟩)
  go_ret;exact ⟨rfl,uh B1⟩
 cases hp:inB pace 0 ((ps.length:Int)-1)
 ·rw [Pv hp]
  go_enter func247,ntmps247;go_wp2_with fail;refine ck (YJ b ((uh Hv).below ((ba _ _)))) fun w1 hb=> ?_;have x1:w1.cell? ⟨w.heap.size,1,none⟩=some (.slice a ps.length cap):=(hb.cell (p:=⟨w.heap.size,1,none⟩) (by simp)).trans (by simp);have B1:Hid (Below w.heap.size w w1):=Z9 (((ba _ _)).trans (hb.mono (by simp)));clear hb;go_wp2_with (first | (go_at_call 53;refine (UL _ _).mono ?_;rintro e w' ⟨rfl,rfl⟩) | (go_at_call 64;refine (ZV _ _ _ _).mono ?_;rintro e w' ⟨rfl,rfl⟩))
  go_ret;exact ⟨rfl,uh B1⟩
 rw [Nm hr hn hp];have hpp:=ZN hp;obtain ⟨hp0,hp1⟩:=hpp;obtain ⟨k,rfl⟩:=Int.eq_ofNat_of_zero_le hp0;have hk:k<ps.length:=by omega
 rw [Zr];simp only;generalize hpk:Z7 ps k=p;have Hpk:=Z9 hpk;clear hpk;obtain ⟨f,c⟩:=p;simp only;go_enter func247,ntmps247;go_wp2_with fail;refine ck (YJ b ((uh Hv).below ((ba _ _)))) fun w1 hb=> ?_;have x1:w1.cell? ⟨w.heap.size,1,none⟩=some (.slice a ps.length cap):=(hb.cell (p:=⟨w.heap.size,1,none⟩) (by simp)).trans (by simp);have B1:Hid (Below w.heap.size w w1):=Z9 (((ba _ _)).trans (hb.mono (by simp)));clear hb;have hv1:=(uh Hv).below (uh B1);obtain ⟨a',cap',he,_,_,hrow⟩:=hv1;cases he
 rcases hrow with h0 | ⟨bk,off,rfl,hbw,hcl⟩
 ·rw [h0] at hk;simp at hk
 obtain ⟨c0,c1⟩:=hcl k hk;clear hcl;rw [uh Hpk] at c0 c1;simp only at c0 c1;go_wp2_with (first | (go_at_call 53;refine (UL _ _).mono ?_;rintro e w' ⟨rfl,rfl⟩) | (go_at_call 64;refine (ZV _ _ _ _).mono ?_;rintro e w' ⟨rfl,rfl⟩))
 go_quiet (exact Yw (OC _ _ _ _));go_wp2_with fail;go_ret;exact ⟨rfl,WS (uh B1) _⟩
theorem Q4  {ps:List Z4} (b need work:Int) (h:IsPaces w v ps) :
  cB 246 #[.agg #[.int .i64 b,v],.int .i64 need,.int .i64 work] w (.int .i64 (KU (b,ps) need work)):=by
 have Hv:=Z9 h;obtain ⟨a,cap,rfl,hc,hm,hrow⟩:=h;clear hrow;have k0:=ZY (w:=w.alloc (.cells #[.int .i64 b,.slice a ps.length cap] 78)) (a:=⟨w.heap.size,0,none⟩) (v:= .int .i64 b) (by simp);have k1:=ZY (w:=w.alloc (.cells #[.int .i64 b,.slice a ps.length cap] 78)) (a:=⟨w.heap.size,1,none⟩) (v:= .slice a ps.length cap) (by simp);have Ha:Hid (IsPaces (w.alloc (.cells #[.int .i64 b,.slice a ps.length cap] 78)) (.slice a ps.length cap) ps):=Z9 ((uh Hv).below ((ba _ _)));go_enter func246,ntmps246;go_wp2_with fail;refine wq ?_
 repeat (go_big_quiet_step (first | exact ZX (SY b need ((uh Ha).below (Z1 _ _ _))) | exact ZX (Pg b _ work ((uh Ha).below (Z1 _ _ _)))))
 refine wpQuiet_nil ?_;intro _ hw';obtain ⟨⟨dq,osq⟩,hw''⟩:=hw';subst hw'';go_wp2_with fail;go_ret;exact ⟨rfl,((ba _ _)).trans ((Z1 _ _ _).mono (by simp))⟩
end Go.Proofs.YtlcpgkakdieeaaaGreat
