/- Part 16 of what the proof rests on. No condition but those that a theorem names. -/
import Derived.Test.YtgdpaigcmoifbaaGreatDoorXr05
import Derived.Test.YtgdpaigcmoifbaaGreatDoorXr07
import Derived.Test.YtgdpaigcmoifbaaGreatDoorXr09
set_option maxHeartbeats 8000000
set_option maxRecDepth 100000
namespace Go.Proofs.YtgdpaigcmoifbaaGreatDoor
open Go.ChangeShapes Go.WideShapes Go.ChangeAt Go.RowKit Go.Sort Go.Proofs.Tryz
set_option linter.unusedVariables false
variable {w w' w0 w1 w2 w3 w₀ wr W W' X A B C : World} {v v0 v1 v2 v3 v4 u u0 u1 u2 u3 u4 : Value}
theorem G9 (f c need:Int) (w:World) (f0:1<=f) (f1:f<=1024) (n0:0<=need) (n1:need<=1000000) :
  cB 281 #[.int .i64 f,.int .i64 need] w (.bool (VA need (f,c))):=
 (Ua f need w (by omega) (by omega) n0 (by omega)).mono fun _ _ ⟨he,hw⟩=>⟨he,hw ▸ Z0 _ _⟩
theorem KN  {ps:List Z6} (b need:Int) (h:IsPaces w v ps) (hr:Zn (b,ps)=true) (hn:inB need 0 1000000=true) :
  cB 277 #[v,.int .i64 need] w (.int .i64 (O5 need ps)):=by
 obtain ⟨a,cap,rfl,hc,hm,hrow⟩:=h;have hbd:=Ry hr;simp only at hbd;obtain ⟨_,_,hl1,hl4⟩:=hbd;obtain ⟨n0,n1⟩:=ZO hn
 rcases hrow with h0 | ⟨bk,off,rfl,hbw,hcl⟩
 ·rw [h0] at hl1;simp at hl1
 have Hcl:=Z9 hcl;have Hr:=Z9 hr;clear hcl hr hn;go_enter func277,ntmps277;go_wp2_with fail
 go_step3
 go_wp2_with fail
 go_step3
 go_wp2_with fail
 go_loopw [5] (fun i wr=> ∃ k:Nat,k+1<=ps.length/\i= .int .i64 k/\(∀ j,j<k->VA need (Z7 ps j)=false)/\Below w.heap.size w wr) (fun i _=>ps.length-(intOf i).toNat)
 case atStart=>exact ⟨0,by omega,rfl,fun j hj=>by omega,Z0 _ _⟩
 case round=>
  obtain ⟨k,hk,rfl,hlo,hb⟩:=hrel;have Hlo:=Z9 hlo;have Hb:=Z9 hb;clear hlo;by_cases hlast:k+1=ps.length
  ·clear hb
   have he:(k:Int)=(ps.length:Int)-1:=by omega
   have Hp:=Z9 (Ts need ps k hk (uh Hlo) (.inl hlast));go_wp2_with fail
   (try rw [Exit.noGoto_ret])
   go_ret;exact ⟨ZQ (by rw [uh Hp]),uh Hb⟩
  ·have hne:¬ (k:Int)=(ps.length:Int)-1:=by omega
   obtain ⟨c0,c1⟩:=uh Hcl k (by omega);rw [<-hb.cell (p:=⟨bk,off+k*2,none⟩) hbw] at c0;rw [<-hb.cell (p:=⟨bk,off+k*2+1,none⟩) hbw] at c1;have hpb:=QX (uh Hr) (k:=k) (show k<ps.length by omega);simp only at hpb;generalize hp:Z7 ps k=p at c0 c1 hpb;have Hp:=Z9 hp;clear hp hb;obtain ⟨f,c⟩:=p;simp only at c0 c1 hpb;obtain ⟨f0,f1,_,_⟩:=hpb;go_wp2_with fail;refine ck (G9 f c need _ f0 f1 n0 n1) fun w1 hb1=> ?_;have Hb1:=Z9 hb1;clear hb1;cases hen:VA need (f,c)
   ·go_wp2_with fail
    go_roundw
    case rel=>exact ⟨k+1,by omega,by go_num,Y4 (uh Hlo) (by rw [uh Hp];exact hen),(uh Hb).trans ((uh Hb1).mono (uh Hb).size)⟩
    case measure=>exact ms
   ·have Hq:=Z9 (Ts need ps k hk (uh Hlo) (.inr (by rw [uh Hp];exact hen)))
    go_wp2_with fail
    (try rw [Exit.noGoto_ret])
    go_ret;exact ⟨ZQ (by rw [uh Hq]),(uh Hb).trans ((uh Hb1).mono (uh Hb).size)⟩
theorem PS  {ps:List Z6} (b need:Int) (h:IsPaces w v ps) :
  cB 271 #[.agg #[.int .i64 b,v],.int .i64 need] w (.int .i64 (WZ (b,ps) need)):=by
 have Hv:=Z9 h;obtain ⟨a,cap,rfl,hc,hm,hrow⟩:=h;clear hrow;cases hr:Zn (b,ps)
 ·rw [Qk hr]
  go_enter func271,ntmps271;go_wp2_with fail;refine ck (Ze b ((uh Hv).below ((ba _ _)))) fun w1 hb=> ?_;have B1:Hid (Below w.heap.size w w1):=Z9 (((ba _ _)).trans (hb.mono (by simp)));clear hb;go_wp2_with fail;go_ret;exact ⟨rfl,uh B1⟩
 cases hn:inB need 0 1000000
 ·rw [Ql hn]
  go_enter func271,ntmps271;go_wp2_with fail;refine ck (Ze b ((uh Hv).below ((ba _ _)))) fun w1 hb=> ?_;have B1:Hid (Below w.heap.size w w1):=Z9 (((ba _ _)).trans (hb.mono (by simp)));clear hb;go_wp2_with (go_at_call 192;refine (ZL _ _ _ _).mono ?_;rintro e w' ⟨rfl,rfl⟩)
  go_ret;exact ⟨rfl,uh B1⟩
 ·rw [O4 hr hn]
  have Hr:=Z9 hr;go_enter func271,ntmps271;go_wp2_with fail;refine ck (Ze b ((uh Hv).below ((ba _ _)))) fun w1 hb=> ?_;have x1:w1.cell? ⟨w.heap.size,1,none⟩=some (.slice a ps.length cap):=(hb.cell (p:=⟨w.heap.size,1,none⟩) (by simp)).trans (by simp);have B1:Hid (Below w.heap.size w w1):=Z9 (((ba _ _)).trans (hb.mono (by simp)));clear hb;go_wp2_with (go_at_call 192;refine (ZL _ _ _ _).mono ?_;rintro e w' ⟨rfl,rfl⟩)
  refine ck (KN b need ((uh Hv).below (uh B1)) (uh Hr) hn) fun w2 hb2=> ?_;have Hb2:=Z9 hb2;clear hb2;go_wp2_with fail;go_ret;exact ⟨rfl,(uh B1).trans ((uh Hb2).mono (uh B1).size)⟩
theorem Vl (x:Int) (w:World):cE 142 #[.int .i64 x] w (.bool (inB x 0 1000000)):=by
 go_enter func142,ntmps142;go_wp2_with (go_at_call 70;refine (ZT _ _ _ _).mono ?_;rintro e w' ⟨rfl,rfl⟩)
 go_ret;exact ⟨rfl,rfl⟩
theorem PX  {ps:List Z6} (b need:Int) (h:IsPaces w v ps) :
  cB 238 #[.agg #[.int .i64 b,v],.int .i64 need] w (.int .i64 (WZ (b,ps) need)):=by
 have Hv:=Z9 h;obtain ⟨a,cap,rfl,hc,hm,hrow⟩:=h;clear hrow;cases hr:Zn (b,ps)
 ·rw [Qk hr]
  go_enter func238,ntmps238;go_wp2_with fail;refine ck (Y5 b ((uh Hv).below ((ba _ _)))) fun w1 hb=> ?_;have B1:Hid (Below w.heap.size w w1):=Z9 (((ba _ _)).trans (hb.mono (by simp)));clear hb;go_wp2_with fail;go_ret;exact ⟨rfl,uh B1⟩
 cases hn:inB need 0 1000000
 ·rw [Ql hn]
  go_enter func238,ntmps238;go_wp2_with fail;refine ck (Y5 b ((uh Hv).below ((ba _ _)))) fun w1 hb=> ?_;have B1:Hid (Below w.heap.size w w1):=Z9 (((ba _ _)).trans (hb.mono (by simp)));clear hb;go_wp2_with (go_at_call 142;refine (Vl _ _).mono ?_;rintro e w' ⟨rfl,rfl⟩)
  go_ret;exact ⟨rfl,uh B1⟩
 rw [O4 hr hn];have Hr:=Z9 hr;have hn':=hn;obtain ⟨n0,n1⟩:=ZO hn';clear hn';go_enter func238,ntmps238;go_wp2_with fail;refine ck (Y5 b ((uh Hv).below ((ba _ _)))) fun w1 hb=> ?_;have x1:w1.cell? ⟨w.heap.size,1,none⟩=some (.slice a ps.length cap):=(hb.cell (p:=⟨w.heap.size,1,none⟩) (by simp)).trans (by simp);have B1:Hid (Below w.heap.size w w1):=Z9 (((ba _ _)).trans (hb.mono (by simp)));clear hb;have hv1:=(uh Hv).below (uh B1);obtain ⟨a',cap',he,_,_,hrow⟩:=hv1;cases he;have hbd:=Ry (uh Hr);simp only at hbd;obtain ⟨_,_,hl1,hl4⟩:=hbd
 rcases hrow with h0 | ⟨bk,off,rfl,hbw,hcl⟩
 ·rw [h0] at hl1;simp at hl1
 have Hcl:=Z9 hcl;clear hcl;go_wp2_with (go_at_call 142;refine (Vl _ _).mono ?_;rintro e w' ⟨rfl,rfl⟩)
 clear hr hn
 go_loop [5] (fun i=> ∃ k:Nat,k+1<=ps.length/\i= .int .i64 k/\(∀ j,j<k->VA need (Z7 ps j)=false)) (fun i=>ps.length-(intOf i).toNat)
 case atStart=>exact ⟨0,by omega,rfl,fun j hj=>by omega⟩
 case round=>
  obtain ⟨k,hk,rfl,hlo⟩:=hrel;have Hlo:=Z9 hlo;clear hlo;by_cases hlast:k+1=ps.length
  ·have Hp:=Z9 (Ts need ps k hk (uh Hlo) (.inl hlast))
   have hd:¬ (k:Int)+1<(ps.length:Int):=by omega
   go_wp2_with fail;go_ret;exact ⟨ZQ (by rw [uh Hp]),uh B1⟩
  ·have hd:(k:Int)+1<(ps.length:Int):=by omega
   obtain ⟨c0,c1⟩:=uh Hcl k (by omega);have hpb:=QX (uh Hr) (k:=k) (show k<ps.length by omega);simp only at hpb;generalize hp:Z7 ps k=p at c0 c1 hpb;have Hp:=Z9 hp;clear hp;obtain ⟨f,c⟩:=p;simp only at c0 c1 hpb;obtain ⟨f0,f1,_,_⟩:=hpb;by_cases hen:4*f<5*need
   ·go_wp2_with fail
    go_round
    case rel=>exact ⟨k+1,by omega,by go_num,Y4 (uh Hlo) (by rw [uh Hp];exact DX hen)⟩
    case measure=>exact ms
   ·have Hq:=Z9 (Ts need ps k hk (uh Hlo) (.inr (by rw [uh Hp];exact DY (by simp only;omega))))
    go_wp2_with fail;go_ret;exact ⟨ZQ (by rw [uh Hq]),uh B1⟩
theorem PN  {ps:List Z6} (b pace work:Int) (h:IsPaces w v ps) :
  cB 270 #[.agg #[.int .i64 b,v],.int .i64 pace,.int .i64 work] w (.int .i64 (Yb (b,ps) pace work)):=by
 have Hv:=Z9 h;obtain ⟨a,cap,rfl,hc,hm,hrow⟩:=h;clear hrow;have hl:(ps.length:Int)<=9223372036854775807:=by omega
 cases hr:Zn (b,ps)
 ·rw [SV hr]
  go_enter func270,ntmps270;go_wp2_with fail;refine ck (Ze b ((uh Hv).below ((ba _ _)))) fun w1 hb=> ?_;have B1:Hid (Below w.heap.size w w1):=Z9 (((ba _ _)).trans (hb.mono (by simp)));clear hb;go_wp2_with fail;go_ret;exact ⟨rfl,uh B1⟩
 by_cases hp0:pace<0
 ·rw [UY (Xt (by omega))]
  go_enter func270,ntmps270;go_wp2_with fail;refine ck (Ze b ((uh Hv).below ((ba _ _)))) fun w1 hb=> ?_;have B1:Hid (Below w.heap.size w w1):=Z9 (((ba _ _)).trans (hb.mono (by simp)));clear hb;go_wp2_with fail;go_ret;exact ⟨rfl,uh B1⟩
 by_cases hp1:(ps.length:Int)<=pace
 ·rw [UY (Xt (by simp only;omega))]
  go_enter func270,ntmps270;go_wp2_with fail;refine ck (Ze b ((uh Hv).below ((ba _ _)))) fun w1 hb=> ?_;have x1:w1.cell? ⟨w.heap.size,1,none⟩=some (.slice a ps.length cap):=(hb.cell (p:=⟨w.heap.size,1,none⟩) (by simp)).trans (by simp);have B1:Hid (Below w.heap.size w w1):=Z9 (((ba _ _)).trans (hb.mono (by simp)));clear hb;go_wp2_with fail;go_ret;exact ⟨rfl,uh B1⟩
 cases hn:inB work 0 1000000
 ·rw [SW hn]
  go_enter func270,ntmps270;go_wp2_with fail;refine ck (Ze b ((uh Hv).below ((ba _ _)))) fun w1 hb=> ?_;have x1:w1.cell? ⟨w.heap.size,1,none⟩=some (.slice a ps.length cap):=(hb.cell (p:=⟨w.heap.size,1,none⟩) (by simp)).trans (by simp);have B1:Hid (Below w.heap.size w w1):=Z9 (((ba _ _)).trans (hb.mono (by simp)));clear hb;go_wp2_with (go_at_call 192;refine (ZL _ _ _ _).mono ?_;rintro e w' ⟨rfl,rfl⟩)
  go_ret;exact ⟨rfl,uh B1⟩
 rw [RO hr hn (Zf (by omega) (by simp only;omega))];obtain ⟨k,rfl⟩:=Int.eq_ofNat_of_zero_le (show 0<=pace by omega);have hk:k<ps.length:=by omega
 rw [Zm];simp only;generalize hpk:Z7 ps k=p;have Hpk:=Z9 hpk;clear hpk;obtain ⟨f,c⟩:=p;simp only;have Hn:=Z9 hn;go_enter func270,ntmps270;go_wp2_with fail;refine ck (Ze b ((uh Hv).below ((ba _ _)))) fun w1 hb=> ?_;have x1:w1.cell? ⟨w.heap.size,1,none⟩=some (.slice a ps.length cap):=(hb.cell (p:=⟨w.heap.size,1,none⟩) (by simp)).trans (by simp);have B1:Hid (Below w.heap.size w w1):=Z9 (((ba _ _)).trans (hb.mono (by simp)));have hz1:w.heap.size+1<=w1.heap.size:=by have:=hb.size;simpa using this
 clear hb;have hv1:=(uh Hv).below (uh B1);obtain ⟨a',cap',he,_,_,hrow⟩:=hv1;cases he
 rcases hrow with h0 | ⟨bk,off,rfl,hbw,hcl⟩
 ·rw [h0] at hk;simp at hk
 obtain ⟨c0,c1⟩:=hcl k hk;clear hcl;rw [uh Hpk] at c0 c1;simp only at c0 c1;go_wp2_with (go_at_call 192;refine (ZL _ _ _ _).mono ?_;rintro e w' ⟨rfl,rfl⟩)
 refine ck (OA c work f _) fun w2 hb2=> ?_;have Hb2:=Z9 hb2;clear hb2;go_wp2_with fail;go_ret;exact ⟨rfl,(uh B1).trans (((Z0 _ _).alloc (uh B1).size _).trans ((uh Hb2).mono (by simp;omega)))⟩
theorem PW  {ps:List Z6} (b pace work:Int) (h:IsPaces w v ps) :
  cB 237 #[.agg #[.int .i64 b,v],.int .i64 pace,.int .i64 work] w (.int .i64 (Yb (b,ps) pace work)):=by
 have Hv:=Z9 h;obtain ⟨a,cap,rfl,hc,hm,hrow⟩:=h;clear hrow;have hl:(ps.length:Int)<=9223372036854775807:=by omega
 cases hr:Zn (b,ps)
 ·rw [SV hr]
  go_enter func237,ntmps237;go_wp2_with fail;refine ck (Y5 b ((uh Hv).below ((ba _ _)))) fun w1 hb=> ?_;have B1:Hid (Below w.heap.size w w1):=Z9 (((ba _ _)).trans (hb.mono (by simp)));clear hb;go_wp2_with fail;go_ret;exact ⟨rfl,uh B1⟩
 cases hn:inB work 0 1000000
 ·rw [SW hn]
  go_enter func237,ntmps237;go_wp2_with fail;refine ck (Y5 b ((uh Hv).below ((ba _ _)))) fun w1 hb=> ?_;have B1:Hid (Below w.heap.size w w1):=Z9 (((ba _ _)).trans (hb.mono (by simp)));clear hb;go_wp2_with (go_at_call 142;refine (Vl _ _).mono ?_;rintro e w' ⟨rfl,rfl⟩)
  go_ret;exact ⟨rfl,uh B1⟩
 cases hp:inB pace 0 ((ps.length:Int)-1)
 ·rw [UY hp]
  go_enter func237,ntmps237;go_wp2_with fail;refine ck (Y5 b ((uh Hv).below ((ba _ _)))) fun w1 hb=> ?_;have x1:w1.cell? ⟨w.heap.size,1,none⟩=some (.slice a ps.length cap):=(hb.cell (p:=⟨w.heap.size,1,none⟩) (by simp)).trans (by simp);have B1:Hid (Below w.heap.size w w1):=Z9 (((ba _ _)).trans (hb.mono (by simp)));clear hb;go_wp2_with (first | (go_at_call 142;refine (Vl _ _).mono ?_;rintro e w' ⟨rfl,rfl⟩) | (go_at_call 70;refine (ZT _ _ _ _).mono ?_;rintro e w' ⟨rfl,rfl⟩))
  go_ret;exact ⟨rfl,uh B1⟩
 rw [RO hr hn hp];have hpp:=ZO hp;obtain ⟨hp0,hp1⟩:=hpp;obtain ⟨k,rfl⟩:=Int.eq_ofNat_of_zero_le hp0;have hk:k<ps.length:=by omega
 rw [Zm];simp only;generalize hpk:Z7 ps k=p;have Hpk:=Z9 hpk;clear hpk;obtain ⟨f,c⟩:=p;simp only;go_enter func237,ntmps237;go_wp2_with fail;refine ck (Y5 b ((uh Hv).below ((ba _ _)))) fun w1 hb=> ?_;have x1:w1.cell? ⟨w.heap.size,1,none⟩=some (.slice a ps.length cap):=(hb.cell (p:=⟨w.heap.size,1,none⟩) (by simp)).trans (by simp);have B1:Hid (Below w.heap.size w w1):=Z9 (((ba _ _)).trans (hb.mono (by simp)));clear hb;have hv1:=(uh Hv).below (uh B1);obtain ⟨a',cap',he,_,_,hrow⟩:=hv1;cases he
 rcases hrow with h0 | ⟨bk,off,rfl,hbw,hcl⟩
 ·rw [h0] at hk;simp at hk
 obtain ⟨c0,c1⟩:=hcl k hk;clear hcl;rw [uh Hpk] at c0 c1;simp only at c0 c1;go_wp2_with (first | (go_at_call 142;refine (Vl _ _).mono ?_;rintro e w' ⟨rfl,rfl⟩) | (go_at_call 70;refine (ZT _ _ _ _).mono ?_;rintro e w' ⟨rfl,rfl⟩))
 go_quiet (exact YD (Pk _ _ _ _));go_wp2_with fail;go_ret;exact ⟨rfl,XQ (uh B1) _⟩
theorem Rk  {ps:List Z6} (b need work:Int) (h:IsPaces w v ps) :
  cB 259 #[.agg #[.int .i64 b,v],.int .i64 need,.int .i64 work] w (.int .i64 (QN (b,ps) need work)):=by
 have Hv:=Z9 h;obtain ⟨a,cap,rfl,hc,hm,hrow⟩:=h;clear hrow;have k0:=Z1 (w:=w.alloc (.cells #[.int .i64 b,.slice a ps.length cap] 126)) (a:=⟨w.heap.size,0,none⟩) (v:= .int .i64 b) (by simp);have k1:=Z1 (w:=w.alloc (.cells #[.int .i64 b,.slice a ps.length cap] 126)) (a:=⟨w.heap.size,1,none⟩) (v:= .slice a ps.length cap) (by simp);have Ha:Hid (IsPaces (w.alloc (.cells #[.int .i64 b,.slice a ps.length cap] 126)) (.slice a ps.length cap) ps):=Z9 ((uh Hv).below ((ba _ _)));go_enter func259,ntmps259;go_wp2_with fail;refine wq ?_
 repeat (go_big_quiet_step (first | exact ZX (PS b need ((uh Ha).below (Z2 _ _ _))) | exact ZX (PN b _ work ((uh Ha).below (Z2 _ _ _)))))
 refine wpQuiet_nil ?_;intro _ hw';obtain ⟨⟨dq,osq⟩,hw''⟩:=hw';subst hw'';go_wp2_with fail;go_ret;exact ⟨rfl,((ba _ _)).trans ((Z2 _ _ _).mono (by simp))⟩
theorem RA  {ps:List Z6} (b need work:Int) (h:IsPaces w v ps) :
  cB 204 #[.agg #[.int .i64 b,v],.int .i64 need,.int .i64 work] w (.int .i64 (QN (b,ps) need work)):=by
 have Hv:=Z9 h;obtain ⟨a,cap,rfl,hc,hm,hrow⟩:=h;clear hrow;have k0:=Z1 (w:=w.alloc (.cells #[.int .i64 b,.slice a ps.length cap] 126)) (a:=⟨w.heap.size,0,none⟩) (v:= .int .i64 b) (by simp);have k1:=Z1 (w:=w.alloc (.cells #[.int .i64 b,.slice a ps.length cap] 126)) (a:=⟨w.heap.size,1,none⟩) (v:= .slice a ps.length cap) (by simp);have Ha:Hid (IsPaces (w.alloc (.cells #[.int .i64 b,.slice a ps.length cap] 126)) (.slice a ps.length cap) ps):=Z9 ((uh Hv).below ((ba _ _)));go_enter func204,ntmps204;go_wp2_with fail;refine wq ?_
 repeat (go_big_quiet_step (first | exact ZX (PX b need ((uh Ha).below (Z2 _ _ _))) | exact ZX (PW b _ work ((uh Ha).below (Z2 _ _ _)))))
 refine wpQuiet_nil ?_;intro _ hw';obtain ⟨⟨dq,osq⟩,hw''⟩:=hw';subst hw'';go_wp2_with fail;go_ret;exact ⟨rfl,((ba _ _)).trans ((Z2 _ _ _).mono (by simp))⟩
end Go.Proofs.YtgdpaigcmoifbaaGreatDoor
