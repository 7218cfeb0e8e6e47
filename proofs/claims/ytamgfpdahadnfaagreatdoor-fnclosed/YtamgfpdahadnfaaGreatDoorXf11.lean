/- Part 11 of what the proof rests on. No condition but those that a theorem names. -/
import Derived.Test.YtamgfpdahadnfaaGreatDoorXf06
import Derived.Test.YtamgfpdahadnfaaGreatDoorXf07
import Derived.Test.YtamgfpdahadnfaaGreatDoorXf09
set_option maxHeartbeats 8000000
set_option maxRecDepth 100000
namespace Go.Proofs.YtamgfpdahadnfaaGreatDoor
open Go.ChangeShapes Go.WideShapes Go.ChangeAt Go.RowKit Go.Sort
set_option linter.unusedVariables false
structure Z6 where
 rm:List ZZ
 gd:List Zt
 sm:List Z3
 dk:List XW
 pc:List Int
 now:Int
structure Smy (w:World) (v0 v1 v2 v3 v4:Value) (m:Z6):Prop where
 rm:IsRooms w v0 m.rm
 gd:Xz w v1 m.gd
 sm:Vy w v2 m.sm
 dk:UA w v3 m.dk
 pc:Ow w v4 m.pc
theorem Smy.below {w w':World} {v0 v1 v2 v3 v4:Value} {m:Z6} (h:Smy w v0 v1 v2 v3 v4 m) (hb:Below w.heap.size w w'):Smy w' v0 v1 v2 v3 v4 m:=
 ⟨h.rm.below hb,h.gd.below hb,h.sm.below hb,h.dk.below hb,h.pc.below hb⟩
theorem Smy.alloc {w:World} {v0 v1 v2 v3 v4:Value} {m:Z6} (h:Smy w v0 v1 v2 v3 v4 m) (o:Obj):Smy (w.alloc o) v0 v1 v2 v3 v4 m:=h.below ((ba _ _))
theorem RecAt.set_old {α:Type} {t k:Nat} {enc:α->List Value} {n₀:Nat} {w:World} {v:Value} {xs:List α} (h:RecAt t k enc n₀ w v xs) (g o:Nat) (u:Value) (hg:g<n₀):RecAt t k enc n₀ (w.setCell ⟨g,o,none⟩ u) v xs:=
 h.same fun i hi=>heap_setCell_other w _ i u (by have:=(h.lt hi).1;show i ≠ g;omega)
abbrev E6:Array Value:=#[.slice none 0 0,.slice none 0 0,.slice none 0 0,.slice none 0 0,.slice none 0 0,.int .i64 0]
abbrev S6 (a0:Option Addr) (p0:Nat) (a1:Option Addr) (p1:Nat) (a2:Option Addr) (p2:Nat) (a3:Option Addr) (p3:Nat) (a4:Option Addr) (p4:Nat) (m:Z6):Array Value:=#[.slice a0 m.rm.length p0,.slice a1 m.gd.length p1,.slice a2 m.sm.length p2,.slice a3 m.dk.length p3,.slice a4 m.pc.length p4,.int .i64 m.now]
theorem Smy.five {w:World} {v0 v1 v2 v3 v4:Value} {m:Z6} (h:Smy w v0 v1 v2 v3 v4 m):∃ a0 p0 a1 p1 a2 p2 a3 p3 a4 p4,v0= .slice a0 m.rm.length p0/\v1= .slice a1 m.gd.length p1/\v2= .slice a2 m.sm.length p2/\v3= .slice a3 m.dk.length p3/\v4= .slice a4 m.pc.length p4/\m.rm.length<=p0/\p0<=9223372036854775807/\m.gd.length<=p1/\p1<=9223372036854775807/\m.sm.length<=p2/\p2<=9223372036854775807/\m.dk.length<=p3/\p3<=9223372036854775807/\m.pc.length<=p4/\p4<=9223372036854775807:=by
 obtain ⟨a0,p0,e0,x0,y0,_⟩:=h.rm;obtain ⟨a1,p1,e1,x1,y1,_⟩:=h.gd;obtain ⟨a2,p2,e2,x2,y2,_⟩:=h.sm;obtain ⟨a3,p3,e3,x3,y3,_⟩:=h.dk;obtain ⟨a4,p4,e4,x4,y4,_⟩:=h.pc;exact ⟨a0,p0,a1,p1,a2,p2,a3,p3,a4,p4,e0,e1,e2,e3,e4,x0,y0,x1,y1,x2,y2,x3,y3,x4,y4⟩
theorem D8 (f c need:Int) (w:World) (f0:1<=f) (f1:f<=1024) (n0:0<=need) (n1:need<=1000000) :
  Calls Tryz.prog 315 #[.int .i64 f,.int .i64 need] w fun e w'=>e= .returned (.bool (UE need (f,c)))/\Below w.heap.size w w':=
 (So f need w (by omega) (by omega) n0 (by omega)).mono fun _ _ ⟨he,hw⟩=>⟨he,hw ▸ Z1 _ _⟩
theorem Im {w:World} {v:Value} {ps:List Z4} (b need:Int) (h:IsPaces w v ps) (hr:Zc (b,ps)=true) (hn:inB need 0 1000000=true) :
  Calls Tryz.prog 311 #[v,.int .i64 need] w fun e w'=>e= .returned (.int .i64 (Qv need ps))/\Below w.heap.size w w':=by
 obtain ⟨a,cap,rfl,hc,hm,hrow⟩:=h;have hbd:=PJ hr;simp only at hbd;obtain ⟨_,_,hl1,hl4⟩:=hbd;obtain ⟨n0,n1⟩:=ZJ hn
 rcases hrow with h0 | ⟨bk,off,rfl,hbw,hcl⟩
 ·rw [h0] at hl1;simp at hl1
 have Hcl:=Z9 hcl;have Hr:=Z9 hr;clear hcl hr hn;go_enter Tryz.func311,Tryz.ntmps311;go_wp2_with fail
 go_step3
 go_wp2_with fail
 go_step3
 go_wp2_with fail
 go_loopw [5] (fun i wr=> ∃ k:Nat,k+1<=ps.length/\i= .int .i64 k/\(∀ j,j<k->UE need (Z7 ps j)=false)/\Below w.heap.size w wr) (fun i _=>ps.length-(intOf i).toNat)
 case atStart=>exact ⟨0,by omega,rfl,fun j hj=>by omega,Z1 _ _⟩
 case round=>
  obtain ⟨k,hk,rfl,hlo,hb⟩:=hrel;have Hlo:=Z9 hlo;have Hb:=Z9 hb;clear hlo;by_cases hlast:k+1=ps.length
  ·clear hb
   have he:(k:Int)=(ps.length:Int)-1:=by omega
   have Hp:=Z9 (RF need ps k hk (uh Hlo) (.inl hlast));go_wp2_with fail
   (try rw [Exit.noGoto_ret])
   go_ret;exact ⟨ZA (by rw [uh Hp]),uh Hb⟩
  ·have hne:¬ (k:Int)=(ps.length:Int)-1:=by omega
   obtain ⟨c0,c1⟩:=uh Hcl k (by omega);rw [<-hb.cell (p:=⟨bk,off+k*2,none⟩) hbw] at c0;rw [<-hb.cell (p:=⟨bk,off+k*2+1,none⟩) hbw] at c1;have hpb:=O2 (uh Hr) (k:=k) (show k<ps.length by omega);simp only at hpb;generalize hp:Z7 ps k=p at c0 c1 hpb;have Hp:=Z9 hp;clear hp hb;obtain ⟨f,c⟩:=p;simp only at c0 c1 hpb;obtain ⟨f0,f1,_,_⟩:=hpb;go_wp2_with fail;refine ck (D8 f c need _ f0 f1 n0 n1) fun w1 hb1=> ?_;have Hb1:=Z9 hb1;clear hb1;cases hen:UE need (f,c)
   ·go_wp2_with fail
    go_roundw
    case rel=>exact ⟨k+1,by omega,by go_num,Yg (uh Hlo) (by rw [uh Hp];exact hen),(uh Hb).trans ((uh Hb1).mono (uh Hb).size)⟩
    case measure=>exact ms
   ·have Hq:=Z9 (RF need ps k hk (uh Hlo) (.inr (by rw [uh Hp];exact hen)))
    go_wp2_with fail
    (try rw [Exit.noGoto_ret])
    go_ret;exact ⟨ZA (by rw [uh Hq]),(uh Hb).trans ((uh Hb1).mono (uh Hb).size)⟩
theorem NH {w:World} {v:Value} {ps:List Z4} (b need:Int) (h:IsPaces w v ps) :
  Calls Tryz.prog 308 #[.agg #[.int .i64 b,v],.int .i64 need] w fun e w'=>e= .returned (.int .i64 (Xf (b,ps) need))/\Below w.heap.size w w':=by
 have Hv:=Z9 h;obtain ⟨a,cap,rfl,hc,hm,hrow⟩:=h;clear hrow;cases hr:Zc (b,ps)
 ·rw [Oh hr]
  go_enter Tryz.func308,Tryz.ntmps308;go_wp2_with fail;refine ck (YI b ((uh Hv).below ((ba _ _)))) fun w1 hb=> ?_;have B1:Hid (Below w.heap.size w w1):=Z9 (((ba _ _)).trans (hb.mono (by simp)));clear hb;go_wp2_with fail;go_ret;exact ⟨rfl,uh B1⟩
 cases hn:inB need 0 1000000
 ·rw [Oi hn]
  go_enter Tryz.func308,Tryz.ntmps308;go_wp2_with fail;refine ck (YI b ((uh Hv).below ((ba _ _)))) fun w1 hb=> ?_;have B1:Hid (Below w.heap.size w w1):=Z9 (((ba _ _)).trans (hb.mono (by simp)));clear hb;go_wp2_with (go_at_call 181;refine (Zw _ _ _ _).mono ?_;rintro e w' ⟨rfl,rfl⟩)
  go_ret;exact ⟨rfl,uh B1⟩
 ·rw [MD hr hn]
  have Hr:=Z9 hr;go_enter Tryz.func308,Tryz.ntmps308;go_wp2_with fail;refine ck (YI b ((uh Hv).below ((ba _ _)))) fun w1 hb=> ?_;have x1:w1.cell? ⟨w.heap.size,1,none⟩=some (.slice a ps.length cap):=(hb.cell (p:=⟨w.heap.size,1,none⟩) (by simp)).trans (by simp);have B1:Hid (Below w.heap.size w w1):=Z9 (((ba _ _)).trans (hb.mono (by simp)));clear hb;go_wp2_with (go_at_call 181;refine (Zw _ _ _ _).mono ?_;rintro e w' ⟨rfl,rfl⟩)
  refine ck (Im b need ((uh Hv).below (uh B1)) (uh Hr) hn) fun w2 hb2=> ?_;have Hb2:=Z9 hb2;clear hb2;go_wp2_with fail;go_ret;exact ⟨rfl,(uh B1).trans ((uh Hb2).mono (uh B1).size)⟩
theorem Ug (x:Int) (w:World):Calls Tryz.prog 171 #[.int .i64 x] w fun e w'=>e= .returned (.bool (inB x 0 1000000))/\w'=w:=by
 go_enter Tryz.func171,Tryz.ntmps171;go_wp2_with (go_at_call 59;refine (ZU _ _ _ _).mono ?_;rintro e w' ⟨rfl,rfl⟩)
 go_ret;exact ⟨rfl,rfl⟩
theorem R7 {w:World} {v:Value} {ps:List Z4} (b need:Int) (h:IsPaces w v ps) :
  Calls Tryz.prog 287 #[.agg #[.int .i64 b,v],.int .i64 need] w fun e w'=>e= .returned (.int .i64 (Xf (b,ps) need))/\Below w.heap.size w w':=by
 have Hv:=Z9 h;obtain ⟨a,cap,rfl,hc,hm,hrow⟩:=h;clear hrow;cases hr:Zc (b,ps)
 ·rw [Oh hr]
  go_enter Tryz.func287,Tryz.ntmps287;go_wp2_with fail;refine ck (Yv b ((uh Hv).below ((ba _ _)))) fun w1 hb=> ?_;have B1:Hid (Below w.heap.size w w1):=Z9 (((ba _ _)).trans (hb.mono (by simp)));clear hb;go_wp2_with fail;go_ret;exact ⟨rfl,uh B1⟩
 cases hn:inB need 0 1000000
 ·rw [Oi hn]
  go_enter Tryz.func287,Tryz.ntmps287;go_wp2_with fail;refine ck (Yv b ((uh Hv).below ((ba _ _)))) fun w1 hb=> ?_;have B1:Hid (Below w.heap.size w w1):=Z9 (((ba _ _)).trans (hb.mono (by simp)));clear hb;go_wp2_with (go_at_call 171;refine (Ug _ _).mono ?_;rintro e w' ⟨rfl,rfl⟩)
  go_ret;exact ⟨rfl,uh B1⟩
 rw [MD hr hn];have Hr:=Z9 hr;have hn':=hn;obtain ⟨n0,n1⟩:=ZJ hn';clear hn';go_enter Tryz.func287,Tryz.ntmps287;go_wp2_with fail;refine ck (Yv b ((uh Hv).below ((ba _ _)))) fun w1 hb=> ?_;have x1:w1.cell? ⟨w.heap.size,1,none⟩=some (.slice a ps.length cap):=(hb.cell (p:=⟨w.heap.size,1,none⟩) (by simp)).trans (by simp);have B1:Hid (Below w.heap.size w w1):=Z9 (((ba _ _)).trans (hb.mono (by simp)));clear hb;have hv1:=(uh Hv).below (uh B1);obtain ⟨a',cap',he,_,_,hrow⟩:=hv1;cases he;have hbd:=PJ (uh Hr);simp only at hbd;obtain ⟨_,_,hl1,hl4⟩:=hbd
 rcases hrow with h0 | ⟨bk,off,rfl,hbw,hcl⟩
 ·rw [h0] at hl1;simp at hl1
 have Hcl:=Z9 hcl;clear hcl;go_wp2_with (go_at_call 171;refine (Ug _ _).mono ?_;rintro e w' ⟨rfl,rfl⟩)
 clear hr hn
 go_loop [5] (fun i=> ∃ k:Nat,k+1<=ps.length/\i= .int .i64 k/\(∀ j,j<k->UE need (Z7 ps j)=false)) (fun i=>ps.length-(intOf i).toNat)
 case atStart=>exact ⟨0,by omega,rfl,fun j hj=>by omega⟩
 case round=>
  obtain ⟨k,hk,rfl,hlo⟩:=hrel;have Hlo:=Z9 hlo;clear hlo;by_cases hlast:k+1=ps.length
  ·have Hp:=Z9 (RF need ps k hk (uh Hlo) (.inl hlast))
   have hd:¬ (k:Int)+1<(ps.length:Int):=by omega
   go_wp2_with fail;go_ret;exact ⟨ZA (by rw [uh Hp]),uh B1⟩
  ·have hd:(k:Int)+1<(ps.length:Int):=by omega
   obtain ⟨c0,c1⟩:=uh Hcl k (by omega);have hpb:=O2 (uh Hr) (k:=k) (show k<ps.length by omega);simp only at hpb;generalize hp:Z7 ps k=p at c0 c1 hpb;have Hp:=Z9 hp;clear hp;obtain ⟨f,c⟩:=p;simp only at c0 c1 hpb;obtain ⟨f0,f1,_,_⟩:=hpb;by_cases hen:4*f<5*need
   ·go_wp2_with fail
    go_round
    case rel=>exact ⟨k+1,by omega,by go_num,Yg (uh Hlo) (by rw [uh Hp];exact zO hen)⟩
    case measure=>exact ms
   ·have Hq:=Z9 (RF need ps k hk (uh Hlo) (.inr (by rw [uh Hp];exact zP (by simp only;omega))))
    go_wp2_with fail;go_ret;exact ⟨ZA (by rw [uh Hq]),uh B1⟩
theorem NC {w:World} {v:Value} {ps:List Z4} (b pace work:Int) (h:IsPaces w v ps) :
  Calls Tryz.prog 307 #[.agg #[.int .i64 b,v],.int .i64 pace,.int .i64 work] w fun e w'=>e= .returned (.int .i64 (Xc (b,ps) pace work))/\Below w.heap.size w w':=by
 have Hv:=Z9 h;obtain ⟨a,cap,rfl,hc,hm,hrow⟩:=h;clear hrow;have hl:(ps.length:Int)<=9223372036854775807:=by omega
 cases hr:Zc (b,ps)
 ·rw [Re hr]
  go_enter Tryz.func307,Tryz.ntmps307;go_wp2_with fail;refine ck (YI b ((uh Hv).below ((ba _ _)))) fun w1 hb=> ?_;have B1:Hid (Below w.heap.size w w1):=Z9 (((ba _ _)).trans (hb.mono (by simp)));clear hb;go_wp2_with fail;go_ret;exact ⟨rfl,uh B1⟩
 by_cases hp0:pace<0
 ·rw [TL (Wy (by omega))]
  go_enter Tryz.func307,Tryz.ntmps307;go_wp2_with fail;refine ck (YI b ((uh Hv).below ((ba _ _)))) fun w1 hb=> ?_;have B1:Hid (Below w.heap.size w w1):=Z9 (((ba _ _)).trans (hb.mono (by simp)));clear hb;go_wp2_with fail;go_ret;exact ⟨rfl,uh B1⟩
 by_cases hp1:(ps.length:Int)<=pace
 ·rw [TL (Wy (by simp only;omega))]
  go_enter Tryz.func307,Tryz.ntmps307;go_wp2_with fail;refine ck (YI b ((uh Hv).below ((ba _ _)))) fun w1 hb=> ?_;have x1:w1.cell? ⟨w.heap.size,1,none⟩=some (.slice a ps.length cap):=(hb.cell (p:=⟨w.heap.size,1,none⟩) (by simp)).trans (by simp);have B1:Hid (Below w.heap.size w w1):=Z9 (((ba _ _)).trans (hb.mono (by simp)));clear hb;go_wp2_with fail;go_ret;exact ⟨rfl,uh B1⟩
 cases hn:inB work 0 1000000
 ·rw [Rf hn]
  go_enter Tryz.func307,Tryz.ntmps307;go_wp2_with fail;refine ck (YI b ((uh Hv).below ((ba _ _)))) fun w1 hb=> ?_;have x1:w1.cell? ⟨w.heap.size,1,none⟩=some (.slice a ps.length cap):=(hb.cell (p:=⟨w.heap.size,1,none⟩) (by simp)).trans (by simp);have B1:Hid (Below w.heap.size w w1):=Z9 (((ba _ _)).trans (hb.mono (by simp)));clear hb;go_wp2_with (go_at_call 181;refine (Zw _ _ _ _).mono ?_;rintro e w' ⟨rfl,rfl⟩)
  go_ret;exact ⟨rfl,uh B1⟩
 rw [P7 hr hn (Zp (by omega) (by simp only;omega))];obtain ⟨k,rfl⟩:=Int.eq_ofNat_of_zero_le (show 0<=pace by omega);have hk:k<ps.length:=by omega
 rw [Zy];simp only;generalize hpk:Z7 ps k=p;have Hpk:=Z9 hpk;clear hpk;obtain ⟨f,c⟩:=p;simp only;have Hn:=Z9 hn;go_enter Tryz.func307,Tryz.ntmps307;go_wp2_with fail;refine ck (YI b ((uh Hv).below ((ba _ _)))) fun w1 hb=> ?_;have x1:w1.cell? ⟨w.heap.size,1,none⟩=some (.slice a ps.length cap):=(hb.cell (p:=⟨w.heap.size,1,none⟩) (by simp)).trans (by simp);have B1:Hid (Below w.heap.size w w1):=Z9 (((ba _ _)).trans (hb.mono (by simp)));have hz1:w.heap.size+1<=w1.heap.size:=by have:=hb.size;simpa using this
 clear hb;have hv1:=(uh Hv).below (uh B1);obtain ⟨a',cap',he,_,_,hrow⟩:=hv1;cases he
 rcases hrow with h0 | ⟨bk,off,rfl,hbw,hcl⟩
 ·rw [h0] at hk;simp at hk
 obtain ⟨c0,c1⟩:=hcl k hk;clear hcl;rw [uh Hpk] at c0 c1;simp only at c0 c1;go_wp2_with (go_at_call 181;refine (Zw _ _ _ _).mono ?_;rintro e w' ⟨rfl,rfl⟩)
 refine ck (Mh c work f _) fun w2 hb2=> ?_;have Hb2:=Z9 hb2;clear hb2;go_wp2_with fail;go_ret;exact ⟨rfl,(uh B1).trans (((Z1 _ _).alloc (uh B1).size _).trans ((uh Hb2).mono (by simp;omega)))⟩
theorem NO {w:World} {v:Value} {ps:List Z4} (b pace work:Int) (h:IsPaces w v ps) :
  Calls Tryz.prog 286 #[.agg #[.int .i64 b,v],.int .i64 pace,.int .i64 work] w fun e w'=>e= .returned (.int .i64 (Xc (b,ps) pace work))/\Below w.heap.size w w':=by
 have Hv:=Z9 h;obtain ⟨a,cap,rfl,hc,hm,hrow⟩:=h;clear hrow;have hl:(ps.length:Int)<=9223372036854775807:=by omega
 cases hr:Zc (b,ps)
 ·rw [Re hr]
  go_enter Tryz.func286,Tryz.ntmps286;go_wp2_with fail;refine ck (Yv b ((uh Hv).below ((ba _ _)))) fun w1 hb=> ?_;have B1:Hid (Below w.heap.size w w1):=Z9 (((ba _ _)).trans (hb.mono (by simp)));clear hb;go_wp2_with fail;go_ret;exact ⟨rfl,uh B1⟩
 cases hn:inB work 0 1000000
 ·rw [Rf hn]
  go_enter Tryz.func286,Tryz.ntmps286;go_wp2_with fail;refine ck (Yv b ((uh Hv).below ((ba _ _)))) fun w1 hb=> ?_;have B1:Hid (Below w.heap.size w w1):=Z9 (((ba _ _)).trans (hb.mono (by simp)));clear hb;go_wp2_with (go_at_call 171;refine (Ug _ _).mono ?_;rintro e w' ⟨rfl,rfl⟩)
  go_ret;exact ⟨rfl,uh B1⟩
 cases hp:inB pace 0 ((ps.length:Int)-1)
 ·rw [TL hp]
  go_enter Tryz.func286,Tryz.ntmps286;go_wp2_with fail;refine ck (Yv b ((uh Hv).below ((ba _ _)))) fun w1 hb=> ?_;have x1:w1.cell? ⟨w.heap.size,1,none⟩=some (.slice a ps.length cap):=(hb.cell (p:=⟨w.heap.size,1,none⟩) (by simp)).trans (by simp);have B1:Hid (Below w.heap.size w w1):=Z9 (((ba _ _)).trans (hb.mono (by simp)));clear hb;go_wp2_with (first | (go_at_call 171;refine (Ug _ _).mono ?_;rintro e w' ⟨rfl,rfl⟩) | (go_at_call 59;refine (ZU _ _ _ _).mono ?_;rintro e w' ⟨rfl,rfl⟩))
  go_ret;exact ⟨rfl,uh B1⟩
 rw [P7 hr hn hp];have hpp:=ZJ hp;obtain ⟨hp0,hp1⟩:=hpp;obtain ⟨k,rfl⟩:=Int.eq_ofNat_of_zero_le hp0;have hk:k<ps.length:=by omega
 rw [Zy];simp only;generalize hpk:Z7 ps k=p;have Hpk:=Z9 hpk;clear hpk;obtain ⟨f,c⟩:=p;simp only;go_enter Tryz.func286,Tryz.ntmps286;go_wp2_with fail;refine ck (Yv b ((uh Hv).below ((ba _ _)))) fun w1 hb=> ?_;have x1:w1.cell? ⟨w.heap.size,1,none⟩=some (.slice a ps.length cap):=(hb.cell (p:=⟨w.heap.size,1,none⟩) (by simp)).trans (by simp);have B1:Hid (Below w.heap.size w w1):=Z9 (((ba _ _)).trans (hb.mono (by simp)));clear hb;have hv1:=(uh Hv).below (uh B1);obtain ⟨a',cap',he,_,_,hrow⟩:=hv1;cases he
 rcases hrow with h0 | ⟨bk,off,rfl,hbw,hcl⟩
 ·rw [h0] at hk;simp at hk
 obtain ⟨c0,c1⟩:=hcl k hk;clear hcl;rw [uh Hpk] at c0 c1;simp only at c0 c1;go_wp2_with (first | (go_at_call 171;refine (Ug _ _).mono ?_;rintro e w' ⟨rfl,rfl⟩) | (go_at_call 59;refine (ZU _ _ _ _).mono ?_;rintro e w' ⟨rfl,rfl⟩))
 go_quiet (exact Yf (M0 _ _ _ _));go_wp2_with fail;go_ret;exact ⟨rfl,WW (uh B1) _⟩
theorem Pt {w:World} {v:Value} {ps:List Z4} (b need work:Int) (h:IsPaces w v ps) :
  Calls Tryz.prog 295 #[.agg #[.int .i64 b,v],.int .i64 need,.int .i64 work] w fun e w'=>e= .returned (.int .i64 (ON (b,ps) need work))/\Below w.heap.size w w':=by
 have Hv:=Z9 h;obtain ⟨a,cap,rfl,hc,hm,hrow⟩:=h;clear hrow;have k0:=ZY (w:=w.alloc (.cells #[.int .i64 b,.slice a ps.length cap] 112)) (a:=⟨w.heap.size,0,none⟩) (v:= .int .i64 b) (by simp);have k1:=ZY (w:=w.alloc (.cells #[.int .i64 b,.slice a ps.length cap] 112)) (a:=⟨w.heap.size,1,none⟩) (v:= .slice a ps.length cap) (by simp);have Ha:Hid (IsPaces (w.alloc (.cells #[.int .i64 b,.slice a ps.length cap] 112)) (.slice a ps.length cap) ps):=Z9 ((uh Hv).below ((ba _ _)));go_enter Tryz.func295,Tryz.ntmps295;go_wp2_with fail;refine wq ?_
 repeat (go_big_quiet_step (first | exact ZX (NH b need ((uh Ha).below (Z0 _ _ _))) | exact ZX (NC b _ work ((uh Ha).below (Z0 _ _ _)))))
 refine wpQuiet_nil ?_;intro _ hw';obtain ⟨⟨dq,osq⟩,hw''⟩:=hw';subst hw'';go_wp2_with fail;go_ret;exact ⟨rfl,((ba _ _)).trans ((Z0 _ _ _).mono (by simp))⟩
theorem PO {w:World} {v:Value} {ps:List Z4} (b need work:Int) (h:IsPaces w v ps) :
  Calls Tryz.prog 265 #[.agg #[.int .i64 b,v],.int .i64 need,.int .i64 work] w fun e w'=>e= .returned (.int .i64 (ON (b,ps) need work))/\Below w.heap.size w w':=by
 have Hv:=Z9 h;obtain ⟨a,cap,rfl,hc,hm,hrow⟩:=h;clear hrow;have k0:=ZY (w:=w.alloc (.cells #[.int .i64 b,.slice a ps.length cap] 112)) (a:=⟨w.heap.size,0,none⟩) (v:= .int .i64 b) (by simp);have k1:=ZY (w:=w.alloc (.cells #[.int .i64 b,.slice a ps.length cap] 112)) (a:=⟨w.heap.size,1,none⟩) (v:= .slice a ps.length cap) (by simp);have Ha:Hid (IsPaces (w.alloc (.cells #[.int .i64 b,.slice a ps.length cap] 112)) (.slice a ps.length cap) ps):=Z9 ((uh Hv).below ((ba _ _)));go_enter Tryz.func265,Tryz.ntmps265;go_wp2_with fail;refine wq ?_
 repeat (go_big_quiet_step (first | exact ZX (R7 b need ((uh Ha).below (Z0 _ _ _))) | exact ZX (NO b _ work ((uh Ha).below (Z0 _ _ _)))))
 refine wpQuiet_nil ?_;intro _ hw';obtain ⟨⟨dq,osq⟩,hw''⟩:=hw';subst hw'';go_wp2_with fail;go_ret;exact ⟨rfl,((ba _ _)).trans ((Z0 _ _ _).mono (by simp))⟩
structure Bx (w W:World) (R:Nat) (a0:Option Addr) (p0:Nat) (a1:Option Addr) (p1:Nat) (a2:Option Addr) (p2:Nat) (a3:Option Addr) (p3:Nat) (a4:Option Addr) (p4:Nat) (m:Z6):Prop where
 smy:Smy W (.slice a0 m.rm.length p0) (.slice a1 m.gd.length p1) (.slice a2 m.sm.length p2) (.slice a3 m.dk.length p3) (.slice a4 m.pc.length p4) m
 blk:Blk W R 32 (S6 a0 p0 a1 p1 a2 p2 a3 p3 a4 p4 m)
 bb:Below w.heap.size w W
section
variable {w W X : World} {R : Nat} {a0 a1 a2 a3 a4 : Option Addr} {p0 p1 p2 p3 p4 : Nat} {m : Z6}
theorem Bx.next (h:Bx w W R a0 p0 a1 p1 a2 p2 a3 p3 a4 p4 m) (hb:Below W.heap.size W X):Bx w X R a0 p0 a1 p1 a2 p2 a3 p3 a4 p4 m:=⟨h.smy.below hb,h.blk.below hb h.blk.lt,h.bb.trans (hb.mono h.bb.size)⟩
theorem Bx.alloc (h:Bx w W R a0 p0 a1 p1 a2 p2 a3 p3 a4 p4 m) (o:Obj):Bx w (W.alloc o) R a0 p0 a1 p1 a2 p2 a3 p3 a4 p4 m:=h.next ((ba _ _))
theorem Bx.drew (h:Bx w W R a0 p0 a1 p1 a2 p2 a3 p3 a4 p4 m):Bx w W.drew R a0 p0 a1 p1 a2 p2 a3 p3 a4 p4 m:=h.next (Z1 _ _).drew
theorem Bx.cells (h:Bx w W R a0 p0 a1 p1 a2 p2 a3 p3 a4 p4 m):W.cell? ⟨R,0,none⟩=some (.slice a0 m.rm.length p0)/\W.cell? ⟨R,1,none⟩=some (.slice a1 m.gd.length p1)/\W.cell? ⟨R,2,none⟩=some (.slice a2 m.sm.length p2)/\W.cell? ⟨R,3,none⟩=some (.slice a3 m.dk.length p3)/\W.cell? ⟨R,4,none⟩=some (.slice a4 m.pc.length p4)/\W.cell? ⟨R,5,none⟩=some (.int .i64 m.now):=h.blk.c6
end
theorem Bx.new {w:World} {v0 v1 v2 v3 v4:Value} {m:Z6} (h:Smy w v0 v1 v2 v3 v4 m):∃ a0 p0 a1 p1 a2 p2 a3 p3 a4 p4,v0= .slice a0 m.rm.length p0/\v1= .slice a1 m.gd.length p1/\v2= .slice a2 m.sm.length p2/\v3= .slice a3 m.dk.length p3/\v4= .slice a4 m.pc.length p4/\Bx w (w.alloc (.cells (S6 a0 p0 a1 p1 a2 p2 a3 p3 a4 p4 m) 32)) w.heap.size a0 p0 a1 p1 a2 p2 a3 p3 a4 p4 m:=by
 obtain ⟨a0,p0,a1,p1,a2,p2,a3,p3,a4,p4,rfl,rfl,rfl,rfl,rfl,_⟩:=h.five;exact ⟨a0,p0,a1,p1,a2,p2,a3,p3,a4,p4,rfl,rfl,rfl,rfl,rfl,h.alloc _,Blk.new _ _ _,(ba _ _)⟩
theorem Bx.put {w W:World} {v0 v1 v2 v3 v4:Value} {m:Z6} (h:Smy W v0 v1 v2 v3 v4 m) (hb:Below w.heap.size w W):∃ a0 p0 a1 p1 a2 p2 a3 p3 a4 p4,v0= .slice a0 m.rm.length p0/\v1= .slice a1 m.gd.length p1/\v2= .slice a2 m.sm.length p2/\v3= .slice a3 m.dk.length p3/\v4= .slice a4 m.pc.length p4/\Bx w (W.alloc (.cells (S6 a0 p0 a1 p1 a2 p2 a3 p3 a4 p4 m) 32)) W.heap.size a0 p0 a1 p1 a2 p2 a3 p3 a4 p4 m:=by
 obtain ⟨a0,p0,a1,p1,a2,p2,a3,p3,a4,p4,rfl,rfl,rfl,rfl,rfl,_⟩:=h.five;exact ⟨a0,p0,a1,p1,a2,p2,a3,p3,a4,p4,rfl,rfl,rfl,rfl,rfl,h.alloc _,Blk.new _ _ _,hb.trans (((ba _ _)).mono hb.size)⟩
end Go.Proofs.YtamgfpdahadnfaaGreatDoor
