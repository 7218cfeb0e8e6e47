/- Part 11 of what the proof rests on. No condition but those that a theorem names. -/
import Derived.Test.YtmdgokjeobnnaaaGreatDoorXt03
import Derived.Test.YtmdgokjeobnnaaaGreatDoorXt04
import Derived.Test.YtmdgokjeobnnaaaGreatDoorXt05
import Derived.Test.YtmdgokjeobnnaaaGreatDoorXt06
set_option maxHeartbeats 8000000
set_option maxRecDepth 100000
namespace Go.Proofs.YtmdgokjeobnnaaaGreatDoor
open Go.ChangeShapes Go.WideShapes Go.ChangeAt Go.RowKit
set_option linter.unusedVariables false
def TM (need:Int) (p:Z1):Bool:=decide (5*need<=4*p.1)
def Tc (need:Int):List Z1->Nat
 | []=>0
 | [_]=>0
 | p::q::ps=>if TM need p then 0 else Tc need (q::ps)+1
def XN (r:Z5) (need:Int):Int:=if Zc r && inB need 0 1000000 then Tc need r.2 else -1
def XM (r:Z5) (pace work:Int):Int:=if Zc r && (inB work 0 1000000 && inB pace 0 (r.2.length-1)) then Xv (ZY r.2 pace.toNat).2 work (ZY r.2 pace.toNat).1 else -1
def OS (r:Z5) (need work:Int):Int:=XM r (XN r need) work
theorem NQ (p:Z1) (ps:List Z1):ZY (p::ps) 0=p:=rfl
theorem NS (p:Z1) (ps:List Z1) (k:Nat):ZY (p::ps) (k+1)=ZY ps k:=by unfold ZY;simp [List.getD]
theorem It {need:Int} {p:Z1} (h:5*need<=4*p.1):TM need p=true:=Wa h
theorem Is {need:Int} {p:Z1} (h:4*p.1<5*need):TM need p=false:=Ya (by omega)
theorem QF (need:Int):∀ (ps:List Z1) (k:Nat),k+1<=ps.length->(∀ j,j<k->TM need (ZY ps j)=false)->(k+1=ps.length\/TM need (ZY ps k)=true)->Tc need ps=k
 | [],k,hk,_,_=>by simp at hk
 | [p],k,hk,_,_=>by simp at hk;subst hk;rfl
 | p::q::ps,0,_,_,he=>by
  rcases he with he | he
  ·simp at he
  ·rw [NQ] at he;simp [Tc,he]
 | p::q::ps,k+1,hk,hlo,he=>by
  have h0:=hlo 0 (by omega);rw [NQ] at h0
  have ih:=QF need (q::ps) k (by simp at hk ⊢;omega) (fun j hj=>by have:=hlo (j+1) (by omega);rwa [NS] at this) (by
   rcases he with he | he
   ·left;simp at he ⊢;omega
   ·right;rwa [NS] at he)
  simp [Tc,h0,ih]
theorem NW (need:Int):∀ ps:List Z1,1<=ps.length->Tc need ps+1<=ps.length
 | [],h=>by simp at h
 | [p],_=>by simp [Tc]
 | p::q::ps,_=>by
  have ih:=NW need (q::ps) (by simp);unfold Tc;split<;>simp at ih ⊢;omega
theorem PA {r:Z5} (h:Zc r=true) {k:Nat} (hk:k<r.2.length):1<=(ZY r.2 k).1/\(ZY r.2 k).1<=1024/\1<=(ZY r.2 k).2/\(ZY r.2 k).2<=1024:=by
 unfold Zc at h;simp only [ZR] at h;have h1:=Ps h.2.2 hk;unfold V1 QE at h1;simp only [ZR] at h1;have a:=ZS h1.1.1;have b:=ZS h1.1.2;omega
theorem NU {r:Z5} {need:Int} (h:Zc r=false):XN r need= -1:=by unfold XN;simp [h]
theorem NV {r:Z5} {need:Int} (h:inB need 0 1000000=false):XN r need= -1:=by unfold XN;simp [h]
theorem L8 {r:Z5} {need:Int} (h:Zc r=true) (h2:inB need 0 1000000=true):XN r need=Tc need r.2:=by unfold XN;simp [h,h2]
theorem RM {r:Z5} {pace work:Int} (h:Zc r=false):XM r pace work= -1:=by unfold XM;simp [h]
theorem RN {r:Z5} {pace work:Int} (h:inB work 0 1000000=false):XM r pace work= -1:=by unfold XM;simp [h]
theorem RO {r:Z5} {pace work:Int} (h:inB pace 0 (r.2.length-1)=false):XM r pace work= -1:=by unfold XM;simp [h]
theorem Qb {r:Z5} {pace work:Int} (h:Zc r=true) (h2:inB work 0 1000000=true) (h3:inB pace 0 (r.2.length-1)=true):XM r pace work=Xv (ZY r.2 pace.toNat).2 work (ZY r.2 pace.toNat).1:=by unfold XM;simp [h,h2,h3]
theorem J5 {a b c:Int} (a0:0<=a) (a1:a<=1000000000) (b0:0<=b) (b1:b<=1000000000) (c0:1<=c) (c1:c<=1000000000):Xv a b c=a*b / c:=by
 unfold Xv;rw [YJ a0 a1,YJ b0 b1,YJ c0 c1];rfl
theorem M8 (r:Z5) (pace work:Int) : -1<=XM r pace work/\XM r pace work<=1024000000:=by
 cases h:Zc r
 ·rw [RM h];omega
 cases h2:inB work 0 1000000
 ·rw [RN h2];omega
 cases h3:inB pace 0 (r.2.length-1)
 ·rw [RO h3];omega
 rw [Qb h h2 h3];have hb:=ZS h2;have hp:=ZS h3;have hr:=PA h (k:=pace.toNat) (by omega);generalize ZY r.2 pace.toNat=p at *;rw [J5 (by omega) (by omega) (by omega) (by omega) (by omega) (by omega)];have m0:0<=p.2*work:=Int.mul_nonneg (by omega) (by omega);have m1:p.2*work<=1024*1000000:=Int.mul_le_mul (by omega) (by omega) (by omega) (by omega);have d0:=Int.ediv_nonneg m0 (show 0<=p.1 by omega);have d1:=Int.ediv_le_self p.1 m0;omega
open Go.ChangeShapes Go.WideShapes Go.ChangeAt Go.RowKit Go.Sort Go.Proofs.Tryz
theorem VP (x:Int) (w:World):cE 170 #[.int .i64 x] w (.bool (inB x 0 1000000)):=by
 go_enter func170,ntmps170;go_wp2_with (go_at_call 27;refine (Z4 _ _ _ _).mono ?_;rintro e w' ⟨rfl,rfl⟩)
 go_ret;exact ⟨rfl,rfl⟩
theorem UB {w:World} {v:Value} {ps:List Z1} (b need:Int) (h:IsPaces w v ps) :
  cB 163 #[.agg #[.int .i64 b,v],.int .i64 need] w (.int .i64 (XN (b,ps) need)):=by
 have Hv:=Z9 h;obtain ⟨a,cap,rfl,hc,hm,hrow⟩:=h;clear hrow;cases hr:Zc (b,ps)
 ·rw [NU hr]
  go_enter func163,ntmps163;go_wp2_with fail;refine ck (YS b ((uh Hv).below ((ba _ _)))) fun w1 hb=> ?_;have B1:Hid (Below w.heap.size w w1):=Z9 (((ba _ _)).trans (hb.mono (by simp)));clear hb;go_wp2_with fail;go_ret;exact ⟨rfl,uh B1⟩
 cases hn:inB need 0 1000000
 ·rw [NV hn]
  go_enter func163,ntmps163;go_wp2_with fail;refine ck (YS b ((uh Hv).below ((ba _ _)))) fun w1 hb=> ?_;have B1:Hid (Below w.heap.size w w1):=Z9 (((ba _ _)).trans (hb.mono (by simp)));clear hb;go_wp2_with (go_at_call 170;refine (VP _ _).mono ?_;rintro e w' ⟨rfl,rfl⟩)
  go_ret;exact ⟨rfl,uh B1⟩
 rw [L8 hr hn];have Hr:=Z9 hr;have hn':=hn;obtain ⟨n0,n1⟩:=ZS hn';clear hn';go_enter func163,ntmps163;go_wp2_with fail;refine ck (YS b ((uh Hv).below ((ba _ _)))) fun w1 hb=> ?_;have x1:w1.cell? ⟨w.heap.size,1,none⟩=some (.slice a ps.length cap):=(hb.cell (p:=⟨w.heap.size,1,none⟩) (by simp)).trans (by simp);have B1:Hid (Below w.heap.size w w1):=Z9 (((ba _ _)).trans (hb.mono (by simp)));clear hb;have hv1:=(uh Hv).below (uh B1);obtain ⟨a',cap',he,_,_,hrow⟩:=hv1;cases he;have hbd:=OY (uh Hr);simp only at hbd;obtain ⟨_,_,hl1,hl4⟩:=hbd
 rcases hrow with h0 | ⟨bk,off,rfl,hbw,hcl⟩
 ·rw [h0] at hl1;simp at hl1
 have Hcl:=Z9 hcl;clear hcl;go_wp2_with (go_at_call 170;refine (VP _ _).mono ?_;rintro e w' ⟨rfl,rfl⟩)
 clear hr hn
 go_loop [5] (fun i=> ∃ k:Nat,k+1<=ps.length/\i= .int .i64 k/\(∀ j,j<k->TM need (ZY ps j)=false)) (fun i=>ps.length-(intOf i).toNat)
 case atStart=>exact ⟨0,by omega,rfl,fun j hj=>by omega⟩
 case round=>
  obtain ⟨k,hk,rfl,hlo⟩:=hrel;have Hlo:=Z9 hlo;clear hlo;by_cases hlast:k+1=ps.length
  ·have Hp:=Z9 (QF need ps k hk (uh Hlo) (.inl hlast))
   have hd:¬ (k:Int)+1<(ps.length:Int):=by omega
   go_wp2_with fail;go_ret;exact ⟨Za (by rw [uh Hp]),uh B1⟩
  ·have hd:(k:Int)+1<(ps.length:Int):=by omega
   obtain ⟨c0,c1⟩:=uh Hcl k (by omega);have hpb:=PA (uh Hr) (k:=k) (show k<ps.length by omega);simp only at hpb;generalize hp:ZY ps k=p at c0 c1 hpb;have Hp:=Z9 hp;clear hp;obtain ⟨f,c⟩:=p;simp only at c0 c1 hpb;obtain ⟨f0,f1,_,_⟩:=hpb;by_cases hen:4*f<5*need
   ·go_wp2_with fail
    go_round
    case rel=>exact ⟨k+1,by omega,by go_num,WR (uh Hlo) (by rw [uh Hp];exact Is hen)⟩
    case measure=>exact ms
   ·have Hq:=Z9 (QF need ps k hk (uh Hlo) (.inr (by rw [uh Hp];exact It (by simp only;omega))))
    go_wp2_with fail;go_ret;exact ⟨Za (by rw [uh Hq]),uh B1⟩
theorem RB {w:World} {v:Value} {ps:List Z1} (b pace work:Int) (h:IsPaces w v ps) :
  cB 180 #[.agg #[.int .i64 b,v],.int .i64 pace,.int .i64 work] w (.int .i64 (XM (b,ps) pace work)):=by
 have Hv:=Z9 h;obtain ⟨a,cap,rfl,hc,hm,hrow⟩:=h;clear hrow;have hl:(ps.length:Int)<=9223372036854775807:=by omega
 cases hr:Zc (b,ps)
 ·rw [RM hr]
  go_enter func180,ntmps180;go_wp2_with fail;refine ck (YS b ((uh Hv).below ((ba _ _)))) fun w1 hb=> ?_;have B1:Hid (Below w.heap.size w w1):=Z9 (((ba _ _)).trans (hb.mono (by simp)));clear hb;go_wp2_with fail;go_ret;exact ⟨rfl,uh B1⟩
 cases hn:inB work 0 1000000
 ·rw [RN hn]
  go_enter func180,ntmps180;go_wp2_with fail;refine ck (YS b ((uh Hv).below ((ba _ _)))) fun w1 hb=> ?_;have B1:Hid (Below w.heap.size w w1):=Z9 (((ba _ _)).trans (hb.mono (by simp)));clear hb;go_wp2_with (go_at_call 170;refine (VP _ _).mono ?_;rintro e w' ⟨rfl,rfl⟩)
  go_ret;exact ⟨rfl,uh B1⟩
 cases hp:inB pace 0 ((ps.length:Int)-1)
 ·rw [RO hp]
  go_enter func180,ntmps180;go_wp2_with fail;refine ck (YS b ((uh Hv).below ((ba _ _)))) fun w1 hb=> ?_;have x1:w1.cell? ⟨w.heap.size,1,none⟩=some (.slice a ps.length cap):=(hb.cell (p:=⟨w.heap.size,1,none⟩) (by simp)).trans (by simp);have B1:Hid (Below w.heap.size w w1):=Z9 (((ba _ _)).trans (hb.mono (by simp)));clear hb;go_wp2_with (first | (go_at_call 170;refine (VP _ _).mono ?_;rintro e w' ⟨rfl,rfl⟩) | (go_at_call 27;refine (Z4 _ _ _ _).mono ?_;rintro e w' ⟨rfl,rfl⟩))
  go_ret;exact ⟨rfl,uh B1⟩
 rw [Qb hr hn hp];have hpp:=ZS hp;obtain ⟨hp0,hp1⟩:=hpp;obtain ⟨k,rfl⟩:=Int.eq_ofNat_of_zero_le hp0;have hk:k<ps.length:=by omega
 rw [Zl];simp only;generalize hpk:ZY ps k=p;have Hpk:=Z9 hpk;clear hpk;obtain ⟨f,c⟩:=p;simp only;go_enter func180,ntmps180;go_wp2_with fail;refine ck (YS b ((uh Hv).below ((ba _ _)))) fun w1 hb=> ?_;have x1:w1.cell? ⟨w.heap.size,1,none⟩=some (.slice a ps.length cap):=(hb.cell (p:=⟨w.heap.size,1,none⟩) (by simp)).trans (by simp);have B1:Hid (Below w.heap.size w w1):=Z9 (((ba _ _)).trans (hb.mono (by simp)));clear hb;have hv1:=(uh Hv).below (uh B1);obtain ⟨a',cap',he,_,_,hrow⟩:=hv1;cases he
 rcases hrow with h0 | ⟨bk,off,rfl,hbw,hcl⟩
 ·rw [h0] at hk;simp at hk
 obtain ⟨c0,c1⟩:=hcl k hk;clear hcl;rw [uh Hpk] at c0 c1;simp only at c0 c1;go_wp2_with (first | (go_at_call 170;refine (VP _ _).mono ?_;rintro e w' ⟨rfl,rfl⟩) | (go_at_call 27;refine (Z4 _ _ _ _).mono ?_;rintro e w' ⟨rfl,rfl⟩))
 go_quiet (exact YG (Q6 _ _ _ _));go_wp2_with fail;go_ret;exact ⟨rfl,XB (uh B1) _⟩
theorem Tj {w:World} {v:Value} {ps:List Z1} (b need work:Int) (h:IsPaces w v ps) :
  cB 179 #[.agg #[.int .i64 b,v],.int .i64 need,.int .i64 work] w (.int .i64 (OS (b,ps) need work)):=by
 have Hv:=Z9 h;obtain ⟨a,cap,rfl,hc,hm,hrow⟩:=h;clear hrow;have k0:=ZX (w:=w.alloc (.cells #[.int .i64 b,.slice a ps.length cap] 112)) (a:=⟨w.heap.size,0,none⟩) (v:= .int .i64 b) (by simp);have k1:=ZX (w:=w.alloc (.cells #[.int .i64 b,.slice a ps.length cap] 112)) (a:=⟨w.heap.size,1,none⟩) (v:= .slice a ps.length cap) (by simp);have Ha:Hid (IsPaces (w.alloc (.cells #[.int .i64 b,.slice a ps.length cap] 112)) (.slice a ps.length cap) ps):=Z9 ((uh Hv).below ((ba _ _)));go_enter func179,ntmps179;go_wp2_with fail;refine wq ?_
 repeat (go_big_quiet_step (first | exact ZW (UB b need ((uh Ha).below (Z0 _ _ _))) | exact ZW (RB b _ work ((uh Ha).below (Z0 _ _ _)))))
 refine wpQuiet_nil ?_;intro _ hw';obtain ⟨⟨dq,osq⟩,hw''⟩:=hw';subst hw'';go_wp2_with fail;go_ret;exact ⟨rfl,((ba _ _)).trans ((Z0 _ _ _).mono (by simp))⟩
open Go.ChangeShapes Go.WideShapes Go.ChangeAt Go.RowKit Go.Sort
open Draw (St Off Row Cur)
theorem YY {a:Option Addr} {len cap bc:Nat} {w w':World} (h:St a len cap bc w) (hb:Below (bc+1) w w'):St a len cap bc w':=by
 obtain ⟨⟨hlt,i,x,h0,h1,c0,c1,c2,f1,f2⟩,hr⟩:=h;have hc:∀ o,w'.cell? ⟨bc,o,none⟩=w.cell? ⟨bc,o,none⟩:=fun o=>hb.cell (p:=⟨bc,o,none⟩) (Nat.lt_succ_self bc);have hf:∀ o,w'.frozen? ⟨bc,o,none⟩=w.frozen? ⟨bc,o,none⟩:=fun o=>hb.frozen (p:=⟨bc,o,none⟩) (Nat.lt_succ_self bc);refine ⟨⟨YH hlt hb.size,i,x,h0,h1,(hc 0).trans c0,(hc 1).trans c1,(hc 2).trans c2,(hf 1).trans f1,(hf 2).trans f2⟩,Draw.row_below hr (hb.mono (Nat.le_succ bc))⟩
theorem Xs {a:Option Addr} {len cap bc:Nat} {w:World} (h:St a len cap bc w):bc<w.heap.size:=h.cur.1
theorem X7 {bc:Nat} {a b c:World} (h:Off bc a b) (k:Below a.heap.size b c):Off bc a c:=
 ⟨k.os.trans h.os,k.tape.trans h.tape,k.output.trans h.output,XA h.size k.size,fun i hi hn=>(k.block i hi).trans (h.block i hi hn)⟩
theorem Uk {bc:Nat} {w w':World} (h:Off bc w.drew w'):Off bc w w':=⟨h.os,h.tape,h.output,h.size,h.block⟩
theorem Tm {a:Option Addr} {len cap bc:Nat} {w:World} (h:St a len cap bc w):St a len cap bc w.drew:=⟨h.cur,h.row⟩
theorem Kg {bc:Nat} {w w':World} {cs:Array Value} {t:TypeId} {j:Int} (p:Off bc (w.alloc (.cells cs t)) w') (hb:bc<w.heap.size) (h0:0<=j) (h1:j<cs.size) (hz:cs.toList.all Draw.isI64=true):∃ v,w'.cell? ⟨w.heap.size,j.toNat,none⟩=some (.int .i64 v):=by
 obtain ⟨v,hv⟩:=Draw.pick_any cs j.toNat (by omega) hz;exact ⟨v,by rw [p.cell (p:=⟨w.heap.size,j.toNat,none⟩) (by simp) (by simp;omega),World.cell?_alloc_at _ _ _ _ rfl];exact hv⟩
theorem Lo:RI 106 3 (.agg #[.int .i64 0,.int .i64 0,.int .i64 0]) XC:=
 ⟨JJ,rfl,Yf,by omega,by omega,fun x u hu=>by
  unfold XC at hu;simp only [List.mem_cons,List.not_mem_nil,or_false] at hu
  rcases hu with rfl | rfl | rfl<;>rfl⟩
theorem Qj {w:World} (x0 x1 x2:Int) {g c:Nat} (hg:g=w.heap.size) (hc:1<=c) (hc2:c<=4000):WD (w.alloc (.cells #[.int .i64 x0,.int .i64 x1,.int .i64 x2] 106)) (.slice (some ⟨g,0,none⟩) 1 c) [(x0,x1,x2)]:=
 Uo (e:=106) (enc:=XC) (x0,x1,x2) hg hc hc2
theorem RecAt.away {α:Type} {t k:Nat} {enc:α->List Value} {n₀ bc:Nat} {w w':World} {v:Value} {xs:List α} (h:RecAt t k enc n₀ w v xs) (ho:Off bc w w') (hb:bc<n₀):RecAt t k enc n₀ w' v xs:=
 h.same fun i hi=>ho.block i (h.lt hi).2 (by have:=(h.lt hi).1;omega)
structure Gbox (a:Option Addr) (len cap bc:Nat) (w0 w:World) (v:Value) (ps:List Zy):Prop where
 st:St a len cap bc w
 off:Off bc w0 w
 gt:bc<w0.heap.size
 row:GuildsAt w0.heap.size w v ps
section
variable {a : Option Addr} {len cap bc : Nat} {w0 w w' : World} {v : Value} {ps : List Zy}
theorem Gbox.step (h:Gbox a len cap bc w0 w v ps) (hs:St a len cap bc w') (ho:Off bc w w'):Gbox a len cap bc w0 w' v ps:=⟨hs,h.off.trans ho,h.gt,RecAt.away h.row ho h.gt⟩
theorem Gbox.alloc (h:Gbox a len cap bc w0 w v ps) (o:Obj):Gbox a len cap bc w0 (w.alloc o) v ps:=h.step (h.st.alloc _) ((Off.refl _ _).alloc _)
theorem Gbox.grown (h:Gbox a len cap bc w0 w v ps) {v':Value} {qs:List Zy} (hg:w.grownBy w' v.ownBlock) (hr:GuildsAt w0.heap.size w' v' qs):Gbox a len cap bc w0 w' v' qs:=by
 have hk:∀ k,v.ownBlock=some k->w0.heap.size<=k:=fun k e=>(RecAt.lt h.row e).1;have h1:=h.gt;have h2:=h.off.size;have hb:Below w0.heap.size w w':=(Z2 _ _).grown hg h2 hk;exact ⟨YY h.st (hb.mono (by omega)),X7 h.off hb,h.gt,hr⟩
end
theorem LU (a:Option Addr) (len cap bc:Nat) (w:World) (hs:St a len cap bc w) :
  Calls prog 56 #[.pointer (some ⟨bc,0,none⟩)] w fun e w'=> ∃ v ps,e= .returned v/\ps.length<=4/\Gbox a len cap bc w w' v ps:=by
 have Hs:=Z9 hs;have hbc:=Xs hs;clear hs;go_enter func56,ntmps56;go_wp2_with fail;have HE:Hid (GuildsAt w.heap.size (w.alloc (.cells #[] 106)) (.slice (some ⟨w.heap.size,0,none⟩) 0 0) []):=Z9 (XE rfl (Z3 _));refine (Draw.below_any a len cap bc 5 (by omega) (by omega) _ ((uh Hs).alloc _)).mono ?_;rintro e w1 ⟨n,rfl,n0,n1,s1,o1⟩;have HG1:Hid (Gbox a len cap bc w w1 (.slice (some ⟨w.heap.size,0,none⟩) 0 0) []):=Z9 (Gbox.step ⟨(uh Hs).alloc _,(Off.refl _ _).alloc _,hbc,uh HE⟩ s1 o1);clear s1 o1 HE;go_wp2_with fail
 go_loopw [3,4] (fun s i wr=> ∃ (k:Nat) (ps:List Zy),ps.length+k<=4/\i= .int .i64 k/\Gbox a len cap bc w wr s ps) (fun _ i _=>(intOf i).toNat)
 case atStart=>exact ⟨n.toNat,[],by simp;omega,by rw [show ((n.toNat:Nat):Int)=n by omega],uh HG1⟩
 case round=>
  obtain ⟨k,ps,hk,rfl,hG⟩:=hrel;obtain ⟨ra,rcap,rfl⟩:=RecAt.shape hG.row;have HG:=Z9 hG;clear hG;by_cases hk0:0<k
  ·go_wp2_with fail
   refine (Draw.below_any a len cap bc 600 (by omega) (by omega) _ (uh HG).st).mono ?_;rintro e w2 ⟨low,rfl,l0,l1,s2,o2⟩;have HG2:=Z9 ((uh HG).step s2 o2);clear s2 o2 HG;go_wp2_with fail;refine (Draw.below_any a len cap bc _ (by omega) (by omega) _ (uh HG2).st).mono ?_;rintro e w3 ⟨ab,rfl,a0,a1,s3,o3⟩;have HG3:=Z9 ((uh HG2).step s3 o3);clear s3 o3 HG2;go_wp2_with fail;refine (Draw.from_any a len cap bc low 1024 (by omega) (by omega) (by omega) _ (uh HG3).st).mono ?_;rintro e w4 ⟨hi,rfl,h0,h1,s4,o4⟩;have HG4:=Z9 ((uh HG3).step s4 o4);have hsz:=(uh HG4).off.size;clear s4 o4 HG3;go_wp2_with (at_builtin;refine Zm Lo rfl (.tmp 15) (.tmp 27) 35 underlying35 rfl w.heap.size _ _ ps [(ab-1,low,hi)] rfl rfl ((uh HG4).alloc _).row (Qj _ _ _ rfl (Z3 _) (by omega)) (by simp;omega) (by simp;omega) ?_;intro v' w5 hown hgrow hat)
   have HG5:=Z9 (((uh HG4).alloc _).grown hgrow hown);clear hown hgrow hat;go_wp2_with fail;go_roundw
   case rel=>exact ⟨k-1,ps++[(ab-1,low,hi)],by simp;omega,by rw [show ((k:Int)-1)=((k-1:Nat):Int) by omega],uh HG5⟩
   case measure=>exact ms
  ·obtain rfl:k=0:=by omega
   go_wp2_with fail;go_ret;exact ⟨_,ps,rfl,by omega,uh HG⟩
end Go.Proofs.YtmdgokjeobnnaaaGreatDoor
namespace Go.Proofs.YtmdgokjeobnnaaaGreatDoor
open Go.ChangeShapes Go.WideShapes Go.ChangeAt Go.RowKit Go.Sort Go.Proofs.Tryz
open Draw (St Off Row Cur)
set_option linter.unusedVariables false
theorem Gbox.put {a:Option Addr} {len cap bc:Nat} {w0 w:World} {g n rcap:Nat} {ps:List Zy} (h:Gbox a len cap bc w0 w (.slice (some ⟨g,0,none⟩) n rcap) ps) (hn:n=ps.length) {j i:Nat} (hj:j<ps.length) (hi:i<3) (y:Int) :
  ∃ qs:List Zy,qs.length=ps.length/\Gbox a len cap bc w0 (w.setCell ⟨g,j*3+i,none⟩ (.int .i64 y)) (.slice (some ⟨g,0,none⟩) n rcap) qs:=by
 have key:∃ x:Zy,XC x=(XC (Z8 ps j)).set i (.int .i64 y):=by
  generalize Z8 ps j=p;obtain ⟨p0,p1,p2⟩:=p
  rcases (show i=0\/i=1\/i=2 by omega) with rfl | rfl | rfl
  ·exact ⟨(y,p1,p2),rfl⟩
  ·exact ⟨(p0,y,p2),rfl⟩
  ·exact ⟨(p0,p1,y),rfl⟩
 obtain ⟨x,hx⟩:=key;obtain ⟨h1,h2⟩:=RecAt.put1 Yf (by omega) h.row hn hj hi (.int .i64 y) x hx;exact ⟨ps.set j x,by simp,h.grown h2 h1⟩
theorem PN (a:Option Addr) (len cap bc:Nat) (w:World) (hs:St a len cap bc w) :
  Calls prog 41 #[.pointer (some ⟨bc,0,none⟩)] w fun e w'=> ∃ v ps,e= .returned v/\ps.length<=4/\Gbox a len cap bc w w' v ps:=by
 have Hs:=Z9 hs;clear hs;go_enter func41,ntmps41;go_wp2_with fail;refine (LU a len cap bc _ (uh Hs)).mono ?_;rintro e w1 ⟨v,ps,rfl,hl,hG⟩;obtain ⟨ra,rcap,rfl⟩:=RecAt.shape hG.row;have HG:=Z9 hG;clear hG Hs;by_cases hz:0<ps.length
 ·go_wp2_with fail
  refine (Draw.once_any a len cap bc 6 (by omega) (by omega) _ (uh HG).st).mono ?_;rintro e w2 ⟨b,rfl,s2,o2⟩;have HG2:=Z9 ((uh HG).step s2 o2);clear s2 o2 HG;cases b
  ·go_wp2_with fail
   go_ret;exact ⟨_,ps,rfl,hl,uh HG2⟩
  ·go_wp2_with fail
   refine (Draw.below_any a len cap bc _ (by omega) (by omega) _ (uh HG2).st).mono ?_;rintro e w3 ⟨x,rfl,x0,x1,s3,o3⟩;have HG3:=Z9 ((uh HG2).step s3 o3);clear s3 o3 HG2;obtain ⟨j,rfl⟩:∃ j:Nat,x=j:=⟨x.toNat,by omega⟩
   have hj:j<ps.length:=by omega
   obtain ⟨g,rfl,_⟩:=RecAt.view Yf (by omega) (uh HG3).row rfl hz;go_wp2_with fail;refine (Draw.below_any a len cap bc 3 (by omega) (by omega) _ (uh HG3).st).mono ?_;rintro e w4 ⟨y,rfl,y0,y1,s4,o4⟩;have HG4:=Z9 ((uh HG3).step s4 o4);clear s4 o4 HG3
   rcases (show y=0\/y=1\/y=2 by omega) with rfl | rfl | rfl
   ·go_wp2_with fail
    refine (Draw.from_any a len cap bc (-2) ps.length (by omega) (by omega) (by omega) _ (uh HG4).st).mono ?_;rintro e w5 ⟨z,rfl,z0,z1,s5,o5⟩;have HG5:=Z9 ((uh HG4).step s5 o5);clear s5 o5 HG4;obtain ⟨g',hg',_,_,hcells,hfz⟩:=RecAt.view Yf (by omega) (uh HG5).row rfl hz;cases hg';have c0:=hcells j hj 0 _ rfl;have f0:=hfz (j*3);simp only [Nat.add_zero] at c0;obtain ⟨qs,hq,hG6⟩:=(uh HG5).put rfl hj (i:=0) (by omega) z;have HG6:=Z9 hG6;clear hcells hfz hG6;go_wp2_with fail;go_ret;exact ⟨_,qs,rfl,by omega,uh HG6⟩
   ·go_wp2_with fail
    refine (Draw.drawForce_any a len cap bc _ (uh HG4).st).mono ?_;rintro e w5 ⟨z,rfl,s5,o5⟩;have HG5:=Z9 ((uh HG4).step s5 o5);clear s5 o5 HG4;obtain ⟨g',hg',_,_,hcells,hfz⟩:=RecAt.view Yf (by omega) (uh HG5).row rfl hz;cases hg';have c0:=hcells j hj 1 _ rfl;have f0:=hfz (j*3+1);obtain ⟨qs,hq,hG6⟩:=(uh HG5).put rfl hj (i:=1) (by omega) z;have HG6:=Z9 hG6;clear hcells hfz hG6;go_wp2_with fail;go_ret;exact ⟨_,qs,rfl,by omega,uh HG6⟩
   ·go_wp2_with fail
    refine (Draw.drawForce_any a len cap bc _ (uh HG4).st).mono ?_;rintro e w5 ⟨z,rfl,s5,o5⟩;have HG5:=Z9 ((uh HG4).step s5 o5);clear s5 o5 HG4;obtain ⟨g',hg',_,_,hcells,hfz⟩:=RecAt.view Yf (by omega) (uh HG5).row rfl hz;cases hg';have c0:=hcells j hj 2 _ rfl;have f0:=hfz (j*3+2);obtain ⟨qs,hq,hG6⟩:=(uh HG5).put rfl hj (i:=2) (by omega) z;have HG6:=Z9 hG6;clear hcells hfz hG6;go_wp2_with fail;go_ret;exact ⟨_,qs,rfl,by omega,uh HG6⟩
 ·obtain rfl:ps=[]:=List.eq_nil_of_length_eq_zero (by omega)
  go_wp2_with fail;go_ret;exact ⟨_,[],rfl,by simp,uh HG⟩
end Go.Proofs.YtmdgokjeobnnaaaGreatDoor
