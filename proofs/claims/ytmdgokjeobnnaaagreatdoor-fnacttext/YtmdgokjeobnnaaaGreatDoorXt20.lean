/- Part 20 of what the proof rests on. No condition but those that a theorem names. -/
import Derived.Test.YtmdgokjeobnnaaaGreatDoorXt13
import Derived.Test.YtmdgokjeobnnaaaGreatDoorXt15
set_option maxHeartbeats 8000000
set_option maxRecDepth 100000
namespace Go.Proofs.YtmdgokjeobnnaaaGreatDoor
open Go.ChangeShapes Go.WideShapes Go.ChangeAt Go.RowKit Go.Sort Go.Proofs.Tryz
open Go.Lib (decDigits itoa join joinTail)
set_option linter.unusedVariables false
set_option linter.unusedSimpArgs false
set_option maxRecDepth 100000
theorem UN (w:World):Calls prog 24 #[] w fun e w'=> ∃ v,e= .returned v/\StrsAt w.heap.size w' v Zt/\Below w.heap.size w w':=by
 go_enter func24,ntmps24;go_wp2_with fail;go_ret;exact ⟨_,rfl,World.ownsRow_lit w _ 14 (Z3 _) (by simp [maxLen]) rfl,(ba _ _)⟩
theorem S8 (k:Nat) (hk:k<14) (w:World):Calls prog 25 #[.int .i64 ((k:Int)+1)] w fun e w'=> ∃ v,e= .returned v/\PartsAt w' v (Y0.getD k [])/\(∀ q,v.ownBlock=some q->w.heap.size<=q)/\Below w.heap.size w w':=by
 have hk1:(k:Int)<14:=by omega
 go_enter func25,ntmps25;go_wp2_with fail;go_ret;have B0:Below w.heap.size w w:=Z2 _ _;obtain ⟨W1,e1,b1,s1,f1⟩:=ZF w 3 #[.int .i64 1,.int .i64 2];rw [e1];have B1:Below w.heap.size w W1:=by rw [<-e1];exact B0.alloc B0.size _
 clear e1 B0;obtain ⟨W2,e2,b2,s2,f2⟩:=ZF W1 3 #[.int .i64 0];rw [e2];have B2:Below w.heap.size w W2:=by rw [<-e2];exact B1.alloc B1.size _
 clear e2 B1;obtain ⟨W3,e3,b3,s3,f3⟩:=ZF W2 3 #[.int .i64 0];rw [e3];have B3:Below w.heap.size w W3:=by rw [<-e3];exact B2.alloc B2.size _
 clear e3 B2;obtain ⟨W4,e4,b4,s4,f4⟩:=ZF W3 3 #[.int .i64 0];rw [e4];have B4:Below w.heap.size w W4:=by rw [<-e4];exact B3.alloc B3.size _
 clear e4 B3;obtain ⟨W5,e5,b5,s5,f5⟩:=ZF W4 3 #[.int .i64 0,.int .i64 1];rw [e5];have B5:Below w.heap.size w W5:=by rw [<-e5];exact B4.alloc B4.size _
 clear e5 B4;obtain ⟨W6,e6,b6,s6,f6⟩:=ZF W5 3 #[.int .i64 0,.int .i64 1];rw [e6];have B6:Below w.heap.size w W6:=by rw [<-e6];exact B5.alloc B5.size _
 clear e6 B5;obtain ⟨W7,e7,b7,s7,f7⟩:=ZF W6 3 #[.int .i64 0,.int .i64 1,.int .i64 2];rw [e7];have B7:Below w.heap.size w W7:=by rw [<-e7];exact B6.alloc B6.size _
 clear e7 B6;obtain ⟨W8,e8,b8,s8,f8⟩:=ZF W7 3 #[.int .i64 1];rw [e8];have B8:Below w.heap.size w W8:=by rw [<-e8];exact B7.alloc B7.size _
 clear e8 B7;obtain ⟨W9,e9,b9,s9,f9⟩:=ZF W8 3 #[.int .i64 1];rw [e9];have B9:Below w.heap.size w W9:=by rw [<-e9];exact B8.alloc B8.size _
 clear e9 B8;obtain ⟨W10,e10,b10,s10,f10⟩:=ZF W9 3 #[.int .i64 1];rw [e10];have B10:Below w.heap.size w W10:=by rw [<-e10];exact B9.alloc B9.size _
 clear e10 B9;obtain ⟨W11,e11,b11,s11,f11⟩:=ZF W10 3 #[.int .i64 1,.int .i64 2];rw [e11];have B11:Below w.heap.size w W11:=by rw [<-e11];exact B10.alloc B10.size _
 clear e11 B10;obtain ⟨W12,e12,b12,s12,f12⟩:=ZF W11 3 #[];rw [e12];have B12:Below w.heap.size w W12:=by rw [<-e12];exact B11.alloc B11.size _
 clear e12 B11;obtain ⟨W13,e13,b13,s13,f13⟩:=ZF W12 3 #[];rw [e13];have B13:Below w.heap.size w W13:=by rw [<-e13];exact B12.alloc B12.size _
 clear e13 B12;obtain ⟨W14,e14,b14,s14,f14⟩:=ZF W13 3 #[.int .i64 0,.int .i64 1];rw [e14];have B14:Below w.heap.size w W14:=by rw [<-e14];exact B13.alloc B13.size _
 clear e14 B13;obtain ⟨W,e,b,s,f⟩:=ZF W14 60 #[.slice (some ⟨w.heap.size,0,none⟩) 2 2,.slice (some ⟨w.heap.size+1,0,none⟩) 1 1,.slice (some ⟨w.heap.size+1+1,0,none⟩) 1 1,.slice (some ⟨w.heap.size+1+1+1,0,none⟩) 1 1,.slice (some ⟨w.heap.size+1+1+1+1,0,none⟩) 2 2,.slice (some ⟨w.heap.size+1+1+1+1+1,0,none⟩) 2 2,.slice (some ⟨w.heap.size+1+1+1+1+1+1,0,none⟩) 3 3,.slice (some ⟨w.heap.size+1+1+1+1+1+1+1,0,none⟩) 1 1,.slice (some ⟨w.heap.size+1+1+1+1+1+1+1+1,0,none⟩) 1 1,.slice (some ⟨w.heap.size+1+1+1+1+1+1+1+1+1,0,none⟩) 1 1,.slice (some ⟨w.heap.size+1+1+1+1+1+1+1+1+1+1,0,none⟩) 2 2,.slice (some ⟨w.heap.size+1+1+1+1+1+1+1+1+1+1+1,0,none⟩) 0 0,.slice (some ⟨w.heap.size+1+1+1+1+1+1+1+1+1+1+1+1,0,none⟩) 0 0,.slice (some ⟨w.heap.size+1+1+1+1+1+1+1+1+1+1+1+1+1,0,none⟩) 2 2];rw [e];have B:Below w.heap.size w W:=by rw [<-e];exact B14.alloc B14.size _
 clear e;have k1:=f (f14 (f13 (f12 (f11 (f10 (f9 (f8 (f7 (f6 (f5 (f4 (f3 (f2 (b1))))))))))))));have k2:=f (f14 (f13 (f12 (f11 (f10 (f9 (f8 (f7 (f6 (f5 (f4 (f3 (b2)))))))))))));have k3:=f (f14 (f13 (f12 (f11 (f10 (f9 (f8 (f7 (f6 (f5 (f4 (b3))))))))))));have k4:=f (f14 (f13 (f12 (f11 (f10 (f9 (f8 (f7 (f6 (f5 (b4)))))))))));have k5:=f (f14 (f13 (f12 (f11 (f10 (f9 (f8 (f7 (f6 (b5))))))))));have k6:=f (f14 (f13 (f12 (f11 (f10 (f9 (f8 (f7 (b6)))))))));have k7:=f (f14 (f13 (f12 (f11 (f10 (f9 (f8 (b7))))))));have k8:=f (f14 (f13 (f12 (f11 (f10 (f9 (b8)))))));have k9:=f (f14 (f13 (f12 (f11 (f10 (b9))))));have k10:=f (f14 (f13 (f12 (f11 (b10)))));have k11:=f (f14 (f13 (f12 (b11))));have k12:=f (f14 (f13 (b12)));have k13:=f (f14 (b13));have k14:=f (b14);rw [s1] at k2;rw [s2,s1] at k3;rw [s3,s2,s1] at k4;rw [s4,s3,s2,s1] at k5;rw [s5,s4,s3,s2,s1] at k6;rw [s6,s5,s4,s3,s2,s1] at k7;rw [s7,s6,s5,s4,s3,s2,s1] at k8;rw [s8,s7,s6,s5,s4,s3,s2,s1] at k9;rw [s9,s8,s7,s6,s5,s4,s3,s2,s1] at k10;rw [s10,s9,s8,s7,s6,s5,s4,s3,s2,s1] at k11;rw [s11,s10,s9,s8,s7,s6,s5,s4,s3,s2,s1] at k12;rw [s12,s11,s10,s9,s8,s7,s6,s5,s4,s3,s2,s1] at k13;rw [s13,s12,s11,s10,s9,s8,s7,s6,s5,s4,s3,s2,s1] at k14
 rcases (show k=0\/k=1\/k=2\/k=3\/k=4\/k=5\/k=6\/k=7\/k=8\/k=9\/k=10\/k=11\/k=12\/k=13 by omega) with rfl | rfl | rfl | rfl | rfl | rfl | rfl | rfl | rfl | rfl | rfl | rfl | rfl | rfl
 ·exact ⟨_,rfl,Ws k1.lt (k1.cell (i:=0) rfl) (k1.cell (i:=1) rfl),(fun q e=>by have e2:=Option.some.inj (show some (w.heap.size)=some q from e);omega),B⟩
 ·exact ⟨_,rfl,Xm k2.lt (k2.cell (i:=0) rfl),(fun q e=>by have e2:=Option.some.inj (show some (w.heap.size+1)=some q from e);omega),B⟩
 ·exact ⟨_,rfl,Xm k3.lt (k3.cell (i:=0) rfl),(fun q e=>by have e2:=Option.some.inj (show some (w.heap.size+1+1)=some q from e);omega),B⟩
 ·exact ⟨_,rfl,Xm k4.lt (k4.cell (i:=0) rfl),(fun q e=>by have e2:=Option.some.inj (show some (w.heap.size+1+1+1)=some q from e);omega),B⟩
 ·exact ⟨_,rfl,Ws k5.lt (k5.cell (i:=0) rfl) (k5.cell (i:=1) rfl),(fun q e=>by have e2:=Option.some.inj (show some (w.heap.size+1+1+1+1)=some q from e);omega),B⟩
 ·exact ⟨_,rfl,Ws k6.lt (k6.cell (i:=0) rfl) (k6.cell (i:=1) rfl),(fun q e=>by have e2:=Option.some.inj (show some (w.heap.size+1+1+1+1+1)=some q from e);omega),B⟩
 ·exact ⟨_,rfl,Li k7.lt (k7.cell (i:=0) rfl) (k7.cell (i:=1) rfl) (k7.cell (i:=2) rfl),(fun q e=>by have e2:=Option.some.inj (show some (w.heap.size+1+1+1+1+1+1)=some q from e);omega),B⟩
 ·exact ⟨_,rfl,Xm k8.lt (k8.cell (i:=0) rfl),(fun q e=>by have e2:=Option.some.inj (show some (w.heap.size+1+1+1+1+1+1+1)=some q from e);omega),B⟩
 ·exact ⟨_,rfl,Xm k9.lt (k9.cell (i:=0) rfl),(fun q e=>by have e2:=Option.some.inj (show some (w.heap.size+1+1+1+1+1+1+1+1)=some q from e);omega),B⟩
 ·exact ⟨_,rfl,Xm k10.lt (k10.cell (i:=0) rfl),(fun q e=>by have e2:=Option.some.inj (show some (w.heap.size+1+1+1+1+1+1+1+1+1)=some q from e);omega),B⟩
 ·exact ⟨_,rfl,Ws k11.lt (k11.cell (i:=0) rfl) (k11.cell (i:=1) rfl),(fun q e=>by have e2:=Option.some.inj (show some (w.heap.size+1+1+1+1+1+1+1+1+1+1)=some q from e);omega),B⟩
 ·exact ⟨_,rfl,TS,(fun q e=>by have e2:=Option.some.inj (show some (w.heap.size+1+1+1+1+1+1+1+1+1+1+1)=some q from e);omega),B⟩
 ·exact ⟨_,rfl,TS,(fun q e=>by have e2:=Option.some.inj (show some (w.heap.size+1+1+1+1+1+1+1+1+1+1+1+1)=some q from e);omega),B⟩
 ·exact ⟨_,rfl,Ws k14.lt (k14.cell (i:=0) rfl) (k14.cell (i:=1) rfl),(fun q e=>by have e2:=Option.some.inj (show some (w.heap.size+1+1+1+1+1+1+1+1+1+1+1+1+1)=some q from e);omega),B⟩
theorem Mi {wd:Txt} {t:List Nat} {a:Yp} {j:Nat} (hj:j<t.length):join ((Zw wd t a).take (j+2)) [32]=(join ((Zw wd t a).take (j+1)) [32]++[32])++itoa (Xw a (t.getD j 0)):=by
 rw [JO [32] (by omega) (by rw [Yy];omega)]
 congr 1
 unfold Zw;simp [List.getD,hj]
theorem Gk {l:Txt} {x:Txt} : (bs l++⟨#[32]⟩)++bs x=bs ((l++[32])++x):=Il (by rw [WJ,WJ,Y3,Y3])
theorem UC {w:World} (a:Yp) (ha:S5 a) :
  cB 10 #[.agg #[.int .i64 a.1,.int .i64 a.2.1,.int .i64 a.2.2.1,.int .i64 a.2.2.2]] w (.string (bs (Zk a))):=by
 have Ha:=Z9 ha;obtain ⟨Z,hZ⟩:=ZE (Zk a);rw [hZ];have HZ:=Z9 hZ;obtain ⟨a0,a1,a2,a3⟩:=a;clear ha hZ;obtain ⟨W1,k1⟩:=Xr w 25 #[.int .i64 a0,.int .i64 a1,.int .i64 a2,.int .i64 a3];by_cases hk:1<=a0/\a0<=14;rotate_left
 ·have Hk:Hid (a0<1\/14<a0):=Z9 (by omega)
  have hq:inB a0 1 14=false:=by
   cases h:inB a0 1 14
   ·rfl
   ·exact absurd (ZS h) hk
  have hE:=Z9 ((uh HZ).symm.trans (UW (a:=(a0,a1,a2,a3)) (uh Hk)));clear hk;go_enter func10,ntmps10;go_wp2_with fail;generalize w.alloc (.cells #[.int .i64 a0,.int .i64 a1,.int .i64 a2,.int .i64 a3] 25)=W at *;refine (Z4 a0 1 14 W).mono ?_;rw [hq];rintro e w1 ⟨rfl,rfl⟩;go_wp2_with fail;go_ret;exact ⟨by rw [uh hE];rfl,uh W1⟩
 obtain ⟨k,hk14,hka⟩:∃ k:Nat,k<14/\a0=(k:Int)+1:=⟨(a0-1).toNat,by omega,by omega⟩
 have hq:inB a0 1 14=true:=YJ hk.1 hk.2;have hE:=Z9 ((uh HZ).symm.trans (V6 (a:=(a0,a1,a2,a3)) hka hk14));unfold TD at hE;have HT:=Z9 (Vg k hk14).1;have HTl:=Z9 (Vf k hk14);have Hwl:=Z9 (SL k hk14);have Hkp:=Z9 hk14;obtain ⟨wd,hwd⟩:=ZE (Zt.getD k []);obtain ⟨t,htd⟩:=ZE (Y0.getD k []);rw [hwd] at Hwl hE;rw [htd] at HT HTl hE;have Hwd:=Z9 hwd;have Htd:=Z9 htd;clear hk hwd htd;subst hka;go_enter func10,ntmps10;go_wp2_with fail;generalize w.alloc (.cells #[.int .i64 ((k:Int)+1),.int .i64 a1,.int .i64 a2,.int .i64 a3] 25)=W at *;refine (Z4 ((k:Int)+1) 1 14 W).mono ?_;rw [hq];rintro e w1 ⟨rfl,rfl⟩;have y0:=(uh k1).cell (i:=0) (v:= .int .i64 ((k:Int)+1)) rfl;have hzW:=(uh W1).size;have hk1:(k:Int)<14:=by omega
 go_wp2_with fail;refine ZN (S:=fun w'=>w'.cell? ⟨w.heap.size,0,none⟩=some (.int .i64 ((k:Int)+1))) (by kernel_rfl) (WV _ _) (by kernel_rfl) y0 (fun hHeld=> ?_);simp only [WW,WX,Zn,Y2,Nat.zero_add,Nat.reduceAdd];clear y0;have hwk:IntKind.i64.wrap (k:Int)=(k:Int):=by rw [IntKind.wrap_i64];omega
 have hkl:(k:Int)<(Zt.length:Int):=hk1;refine tp 1 ?_;refine tp 2 ?_;refine tp 3 ?_;refine rd 0 rfl (fun K hK=> ?_);go_simp;refine (UN w1.drew).mono ?_;rintro e9 w2 ⟨v,rfl,hst,hb⟩;obtain ⟨va,vcap,rfl,hc,hcm,hrow⟩:=hst.view
 rcases hrow with h0 | ⟨g,rfl,hg0,hg,hcl⟩
 ·cases h0
 have hcw:=hcl k (uh Hkp);rw [uh Hwd] at hcw;have hb2:Below w1.heap.size w1 w2:=(Z2 _ _).drew.trans hb;replace k1:=bl k1 hb2;have W2:Hid (Below w.heap.size w w2):=Z9 ((uh W1).trans (hb2.mono hzW));refine hK.out _ _ ((uh k1).cell (i:=0) (v:= .int .i64 ((k:Int)+1)) rfl) (fun hHeld=> ?_);clear hK K hb hb2 hst W1
 (try simp only [Act.put,sA,sZ,sS])
 refine tp 4 ?_;refine rd 5 rfl (fun K hK=> ?_);go_simp;refine hK.out _ _ ((uh k1).cell (i:=0) (v:= .int .i64 ((k:Int)+1)) rfl) (fun hHeld=> ?_);clear hK K
 (try simp only [Act.put,sA,sZ,sS])
 refine wpAnyH_done (by kernel_rfl) ?_ _;refine ZH rfl rfl ?_;go_simp;clear hHeld hcw hcl hg hg0 hc hcm;have y0:=(uh k1).cell (i:=0) (v:= .int .i64 ((k:Int)+1)) rfl;have hzW:=(uh W2).size;go_wp2_with fail;refine (S8 k (uh Hkp) w2).mono ?_;rintro e w3 ⟨tv,rfl,hpt,-,hb⟩;rw [uh Htd] at hpt;obtain ⟨ta,tcap,rfl,hp⟩:=hpt;replace k1:=bl k1 hb;have W3:Hid (Below w.heap.size w w3):=Z9 ((uh W2).trans (hb.mono hzW));have Hp:=Z9 hp;clear hb hp W2 y0 hzW
 have HL:Hid ((join (Zw wd t ((k:Int)+1,a1,a2,a3)) [32]).length<=1000000):=Z9 (by
  have h:=S7 [32] 21 _ (TV (w:=wd) (t:=t) (uh Ha) (uh HT) (uh Hwl));have:=uh HTl
  rw [Yy] at h;simp only [Zn,Y2] at h;omega)
 have HS:Hid (∀ j,j<t.length->((join ((Zw wd t ((k:Int)+1,a1,a2,a3)).take (j+1)) [32]).length<=1000000)):=Z9 (fun j hj=>by
  have h:=S7 [32] 21 ((Zw wd t ((k:Int)+1,a1,a2,a3)).take (j+1)) (fun z hz=>TV (uh Ha) (uh HT) (uh Hwl) z (List.mem_of_mem_take hz));have:=uh HTl;rw [List.length_take,Yy] at h;simp only [Zn,Y2] at h;have:min (j+1) (t.length+1)<=4:=by omega
  have h2:min (j+1) (t.length+1)*(21+1)<=4*22:=Nat.mul_le_mul this (by omega)
  omega)
 have H0:Hid (join ((Zw wd t ((k:Int)+1,a1,a2,a3)).take 1) [32]=wd):=Z9 (by unfold Zw;simp [Go.Lib.join_one]);go_wp2_with fail
 go_loopw [3,5] (fun s i wr=> ∃ j:Nat,j<=t.length/\i= .int .i64 j/\s= .string (bs (join ((Zw wd t ((k:Int)+1,a1,a2,a3)).take (j+1)) [32]))/\Below w3.heap.size w3 wr) (fun _ i _=>t.length-(intOf i).toNat)
 case atStart=>exact ⟨0,Zi _,rfl,by rw [uh H0],Z2 _ _⟩
 case round=>
  obtain ⟨j,hj,rfl,rfl,hb⟩:=hrel;have Hb:=Z9 hb;have hzr:=hb.size;have hz3:=(uh W3).size;clear hb;by_cases hlt:j<t.length
  ·have hlt1:(j:Int)<(t.length:Int):=by omega
   have hj3:j<4:=by have:=uh HTl;omega
   obtain ⟨g,rfl,hg,hc⟩:=uh Hp j hlt
   have hc':=(uh Hb).cell (p:=⟨g,j,none⟩) hg |>.trans hc
   have HN:=Z9 (Mi (wd:=wd) (t:=t) (a:=((k:Int)+1,a1,a2,a3)) hlt);have hti:=uh HT _ (show t.getD j 0 ∈ t by simp [List.getD,hlt]);have hsl:=uh HS j hlt;rw [<-WI] at hsl;have k3:=bl k1 (uh Hb);clear hc;generalize t.getD j 0=ti at *;generalize join ((Zw wd t ((k:Int)+1,a1,a2,a3)).take (j+1)) [32]=P at *;have hs1:(bs P).size+(⟨#[32]⟩:ByteArray).size<=9223372036854775807:=by have:(⟨#[32]⟩:ByteArray).size=1:=rfl;omega
   have hf:=uh Ha ti hti;have hil:=Nt _ hf.1 hf.2;rw [<-WI] at hil;have hs2:(bs P++⟨#[32]⟩).size+(bs (itoa (Xw ((k:Int)+1,a1,a2,a3) ti))).size<=9223372036854775807:=by rw [Jf];have:(⟨#[32]⟩:ByteArray).size=1:=rfl;omega
   have hs3:(bs P).size+1<=9223372036854775807:=hs1;have hs4:(bs P).size+1+(bs (itoa (Xw ((k:Int)+1,a1,a2,a3) ti))).size<=9223372036854775807:=by omega
   obtain ⟨x,hx⟩:=ZE (Xw ((k:Int)+1,a1,a2,a3) ti);rw [hx] at HN hf hs2 hs4;have hn1:(9223372036854775807<(bs P).size+1)=False:=eq_false (by omega);have hn2:(9223372036854775807<(bs P).size+1+(bs (itoa x)).size)=False:=eq_false (by omega);have Hx:=Z9 hx;have Hf:=Z9 hf;have y1:=(uh k3).cell (i:=1) (v:= .int .i64 a1) rfl;have y2:=(uh k3).cell (i:=2) (v:= .int .i64 a2) rfl;have y3:=(uh k3).cell (i:=3) (v:= .int .i64 a3) rfl;clear hx hf hil hsl;go_wp2_with fail;refine ZN (S:=fun w'=>w'.cell? ⟨w.heap.size,1,none⟩=some (.int .i64 a1)/\w'.cell? ⟨w.heap.size,2,none⟩=some (.int .i64 a2)/\w'.cell? ⟨w.heap.size,3,none⟩=some (.int .i64 a3)/\w'.cell? ⟨g,j,none⟩=some (.int .i64 (ti:Int))) (by kernel_rfl) (WV _ _) (by kernel_rfl) ⟨y1,y2,y3,hc'⟩ (fun hHeld=> ?_);simp only [WW,WX,Zn,Y2,Nat.zero_add,Nat.reduceAdd];have hb0:Below wr.heap.size wr wr.drew:=(Z2 _ _).drew;replace k3:=bl k3 hb0;have hc2:=(hb0.cell (p:=⟨g,j,none⟩) (YH hg hzr)).trans hc';replace Hb:=Z9 ((uh Hb).trans (hb0.mono hzr));clear y1 y2 y3 hc' hb0;generalize wr.drew=W4 at *
   iterate 8 refine tz ?_
   refine tp 9 ?_;refine tp 10 ?_;refine tp 11 ?_;refine tp 12 ?_;refine rd 8 rfl (fun K hK=> ?_);go_simp
   rcases (show ti=0\/ti=1\/ti=2 by omega) with rfl | rfl | rfl
   all_goals
    have hba:Below W4.heap.size W4 (W4.alloc (.cells #[.int .i64 a1,.int .i64 a2,.int .i64 a3] 2)):=ba _ _;replace k3:=bl k3 hba;replace hc2:=(hba.cell (p:=⟨g,j,none⟩) (World.block_lt_of_cell? _ _ hc2)).trans hc2;have HBa:=Z9 ((uh Hb).trans (hba.mono (uh Hb).size));have kn:=Blk.new W4 2 #[.int .i64 a1,.int .i64 a2,.int .i64 a3];refine hK.out _ _ ⟨(uh k3).cell (i:=1) (v:= .int .i64 a1) rfl,(uh k3).cell (i:=2) (v:= .int .i64 a2) rfl,(uh k3).cell (i:=3) (v:= .int .i64 a3) rfl,hc2⟩ (fun hHeld=> ?_);clear hK K hba Hb
    (try simp only [Act.put,sA,sZ,sS])
    generalize W4.alloc (.cells #[.int .i64 a1,.int .i64 a2,.int .i64 a3] 2)=W5 at *;generalize W4.heap.size=nb at *;have n0:=kn.cell (i:=0) (v:= .int .i64 a1) rfl;have n1:=kn.cell (i:=1) (v:= .int .i64 a2) rfl;have n2:=kn.cell (i:=2) (v:= .int .i64 a3) rfl;refine tp 13 ?_;refine rd 14 rfl (fun K hK=> ?_);go_simp;refine hK.out _ _ ⟨(uh k3).cell (i:=1) (v:= .int .i64 a1) rfl,(uh k3).cell (i:=2) (v:= .int .i64 a2) rfl,(uh k3).cell (i:=3) (v:= .int .i64 a3) rfl,hc2⟩ (fun hHeld=> ?_);clear hK K n0 n1 n2 kn
    (try simp only [Act.put,sA,sZ,sS])
    refine rd 15 rfl (fun K hK=> ?_);go_simp
    first | (have e9:a1=x:=uh Hx;subst e9) | (have e9:a2=x:=uh Hx;subst e9) | (have e9:a3=x:=uh Hx;subst e9)
    refine ck (GY _ (uh Hf).1 (uh Hf).2 W5) fun w9 hb9=> ?_;replace k3:=bl k3 hb9;have hc9:=(hb9.cell (p:=⟨g,j,none⟩) (World.block_lt_of_cell? _ _ hc2)).trans hc2;have HB9:=Z9 ((uh HBa).trans (hb9.mono (uh HBa).size));refine hK.out _ _ ⟨(uh k3).cell (i:=1) (v:= .int .i64 a1) rfl,(uh k3).cell (i:=2) (v:= .int .i64 a2) rfl,(uh k3).cell (i:=3) (v:= .int .i64 a3) rfl,hc9⟩ (fun hHeld=> ?_);clear hK K hb9 hc2 hc9 HBa
    (try simp only [Act.put,sA,sZ,sS])
    refine tp 16 ?_;refine wpAnyH_done (by kernel_rfl) ?_ _;refine ZH rfl rfl ?_;go_simp;clear hHeld hn1 hn2 hs1 hs2 hs3 hs4;go_wp2_with fail;go_roundw
    case rel=>exact ⟨j+1,by omega,by go_num,by rw [uh HN,<-Gk],uh HB9⟩
    case measure=>exact ms
  ·obtain rfl:j=t.length:=by omega
   have hall:(Zw wd t ((k:Int)+1,a1,a2,a3)).take (t.length+1)=Zw wd t ((k:Int)+1,a1,a2,a3):=List.take_of_length_le (by rw [Yy];omega);rw [hall];have hB:Below w.heap.size w wr:=(uh W3).trans ((uh Hb).mono hz3);have HB:=Z9 hB;clear hall hB;go_wp2_with fail;go_ret;exact ⟨by rw [uh hE];rfl,uh HB⟩
set_option maxRecDepth 100000
def atI (zs:List Txt) (s:Txt):Int:=match Ze s zs 0 with
 | none=> -1
 | some k=>(k:Int)
theorem MS {zs:List Txt} {s:Txt} {k:Nat} (h:Ze s zs 0=some k):atI zs s=(k:Int):=by unfold atI;rw [h]
theorem MR {zs:List Txt} {s:Txt} (h:Ze s zs 0=none):atI zs s= -1:=by unfold atI;rw [h]
theorem Qu {n₀:Nat} {w:World} {v:Value} {zs:List Txt} (h:StrsAt n₀ w v zs) (s:Txt) (hz:zs.length<=1000):cE 23 #[v,.string (bs s)] w (.int .i64 (atI zs s)):=by
 obtain ⟨a,cap,rfl,hc,hcm,hrow⟩:=h.view;obtain ⟨Z,hZ⟩:=ZE (atI zs s);rw [hZ];have HZ:=Z9 hZ
 have Hcl:Hid (∀ j,j<zs.length-> ∃ g,a=some ⟨g,0,none⟩/\w.cell? ⟨g,j,none⟩=some (.string (bs (zs.getD j [])))):=Z9 (fun j hj=>by
  rcases hrow with h0 | ⟨g,e,_,hg,hcl⟩
  ·rw [h0] at hj;simp at hj
  ·exact ⟨g,e,hcl j hj⟩)
 clear h hrow hZ;go_enter func23,ntmps23;go_wp2_with fail
 go_loopw [5] (fun i wr=> ∃ j:Nat,j<=zs.length/\i= .int .i64 j/\(∀ q:Nat,q<j->zs.getD q [] ≠ s)/\wr=w) (fun i _=>zs.length-(intOf i).toNat)
 case atStart=>exact ⟨0,by omega,rfl,fun q h=>by omega,rfl⟩
 case round=>
  obtain ⟨j,hj,rfl,hno,rfl⟩:=hrel;have Hno:=Z9 hno;clear hno;by_cases hlt:j<zs.length
  ·have hlt1:(j:Int)<(zs.length:Int):=by omega
   obtain ⟨g,rfl,hcw⟩:=uh Hcl j hlt
   have hf:Hid (zs.getD j []=s->Z=(j:Int)):=Z9 (fun h=>by
    rw [<-uh HZ];refine (MS (Ty zs 0 j (uh Hno) hlt h)).trans ?_
    rw [Nat.zero_add])
   obtain ⟨z,hz9⟩:=ZE (zs.getD j []);rw [hz9] at hcw hf;have Hz9:=Z9 hz9;clear hz9;by_cases hk:z=s
   ·have hst:=Gd hk
    have hZj:=Z9 (uh hf hk);clear hk;go_wp2_with fail;go_ret;exact ⟨by rw [uh hZj];rfl,rfl⟩
   ·have hst:=GC hk
    have Hk:Hid (zs.getD j [] ≠ s):=Z9 (by rw [uh Hz9];exact hk);clear hk;go_wp2_with fail;go_roundw
    case rel=>exact ⟨j+1,by omega,by go_num,fun q hq=>by
     by_cases e:q=j
     ·rw [e];exact uh Hk
     ·exact uh Hno q (by omega),by first | rfl | trivial⟩
    case measure=>exact ms
  ·obtain rfl:j=zs.length:=by omega
   have hZn:Z= -1:=by rw [<-uh HZ];exact MR (SK zs 0 (uh Hno))
   have HZn:=Z9 hZn;clear hZn;go_wp2_with fail;go_ret;exact ⟨by rw [uh HZn];rfl,rfl⟩
theorem RE (l:Txt) (w:World) (hl:l.length<=1048576) :
  cB 9 #[.string (bs l)] w (P4 (Yj l)):=by
 obtain ⟨Q,hQ⟩:=ZE (Yj l);rw [hQ];have HQ:=Z9 hQ
 obtain ⟨w0,r,hsp⟩:∃ w0 r,ZM 32 l=w0::r:=by
  cases h:ZM 32 l with
  | nil=>exact absurd h (TW _ _)
  | cons a b=>exact ⟨a,b,rfl⟩
 have Hsz:Hid (∀ p ∈ w0::r,p.length<=1048576):=Z9 (fun p hp=>by rw [<-hsp] at hp;have:=XF 32 l [] p hp;simp only [Y2,Nat.zero_add] at this;omega);have hpl:=(YE 32 l []).2;have hrl:r.length<=1048576:=by have:(ZM 32 l).length<=l.length+1:=hpl;rw [hsp] at this;simp at this;omega
 have hQ2:Q=(Ze w0 Zt 0).bind (fun k=>ZK r (Y0.getD k []) ((k:Int)+1,0,0,0)):=by rw [<-hQ];unfold Yj;rw [hsp];rfl
 have HQ2:=Z9 hQ2;have Hsplit:=Z9 (fun w=>Vu (bs l) 32 w (by rw [WI];exact hl));rw [Y3,hsp] at Hsplit;clear hQ hpl hsp hQ2 HQ;have W1:Hid (Below w.heap.size w (w.alloc (.cells #[.int .i64 0,.int .i64 0,.int .i64 0,.int .i64 0] 25))):=Z9 ((ba _ _));have k1:Hid (Blk (w.alloc (.cells #[.int .i64 0,.int .i64 0,.int .i64 0,.int .i64 0] 25)) w.heap.size 25 #[.int .i64 0,.int .i64 0,.int .i64 0,.int .i64 0]):=Z9 (Blk.new w _ _);go_enter func9,ntmps9;go_wp2_with fail;generalize w.alloc (.cells #[.int .i64 0,.int .i64 0,.int .i64 0,.int .i64 0] 25)=W at *;refine (uh Hsplit W).mono ?_;rintro e w1 ⟨v,rfl,hst,hb⟩;obtain ⟨va,vcap,rfl,hc,hcm,hrow⟩:=hst.view
 rcases hrow with h0 | ⟨g,rfl,hg0,hg,hcl⟩
 ·cases h0
 replace k1:=bl k1 hb;replace W1:=Z9 ((uh W1).trans (hb.mono (uh W1).size));have Hcl:=Z9 hcl;simp only [Zn] at hc;clear hb hst hg0 Hsplit;have hw0:=hcl 0 (by simp);have hwl:w.heap.size<w1.heap.size:=(uh k1).lt;simp only [List.getD_cons_zero] at hw0;clear hcl;obtain ⟨A,hA⟩:=ZE (atI Zt w0)
 have hA1 : -1<=A/\A<=13:=by
  rw [<-hA];unfold atI;cases h:Ze w0 Zt 0 with
  | none=>simp
  | some k=>
   have:=(VE _ _ _ h).2.1;rw [show Zt.length=14 from rfl] at this;simp only;omega
 have hwr:IntKind.i64.wrap (A+1)=A+1:=by rw [IntKind.wrap_i64];omega
 have HA:=Z9 hA;clear hA;go_upto_region 2 with fail
 go_cut [5] (fun s wc=> ∃ ab:Nat,s= .pointer (some ⟨ab,0,none⟩)/\w1.heap.size<=ab/\Hid (Blk wc ab 25 #[.int .i64 (A+1),.int .i64 0,.int .i64 0,.int .i64 0])/\Hid (Below w1.heap.size w1 wc))
 case first=>
  have hls:(0:Int)<(r.length:Int)+1:=by omega
  refine ZN (S:=fun w'=>w'.cell? ⟨g,0,none⟩=some (.string (bs w0))) (by kernel_rfl) (WV _ _) (by kernel_rfl) hw0 (fun hHeld=> ?_);simp only [WW,WX,Zn,Y2,Nat.zero_add,Nat.reduceAdd];have hbd:Below w1.heap.size w1 w1.drew:=(Z2 _ _).drew;have hg1:=(hbd.cell (p:=⟨g,0,none⟩) hg).trans hw0;have BB:=Z9 hbd;clear hbd hw0;generalize w1.drew=W4 at *;refine tp 1 ?_;refine tp 2 ?_;refine tp 3 ?_;refine wpAnyH_ready (rs:=[0,7]) (by kernel_rfl) (by simp) ?_;refine AllReadyH.cons rfl (fun K hK=> ?_) (AllReadyH.cons rfl (fun K hK=> ?_) AllReadyH.nil)
  ·go_simp
   refine (UN W4).mono ?_;rintro e9 w3 ⟨v3,rfl,hst3,hb3⟩;obtain ⟨a3,c3,rfl,_,_,_⟩:=hst3.view;replace hg1:=(hb3.cell (p:=⟨g,0,none⟩) (World.block_lt_of_cell? _ _ hg1)).trans hg1;replace BB:=Z9 ((uh BB).trans (hb3.mono (uh BB).size));refine hK.out _ _ hg1 (fun hHeld=> ?_);clear hK K hb3
   (try simp only [Act.put,sA,sZ,sS])
   refine wpAnyH_ready (rs:=[4,7]) (by kernel_rfl) (by simp) ?_;refine AllReadyH.cons rfl (fun K hK=> ?_) (AllReadyH.cons rfl (fun K hK=> ?_) AllReadyH.nil)
   ·go_simp
    refine (Qu hst3 w0 (by decide)).mono ?_;rw [uh HA];rintro e9 w9 ⟨rfl,h9⟩;subst w9;refine hK.out _ _ hg1 (fun hHeld=> ?_);clear hK K
    (try simp only [Act.put,sA,sZ,sS])
    refine tp 5 ?_;refine tp 6 ?_;refine rd 7 rfl (fun K hK=> ?_);go_simp;obtain ⟨W5,hW5,hba,kx⟩:=YW w3 25 #[.int .i64 0,.int .i64 0,.int .i64 0,.int .i64 0];have hab:w1.heap.size<=w3.heap.size:=(uh BB).size;replace hg1:=(hba.cell (p:=⟨g,0,none⟩) (World.block_lt_of_cell? _ _ hg1)).trans hg1;replace BB:=bt BB hba
    (try have hst4:=hst3.later hba)
    rw [hW5];refine hK.out _ _ hg1 (fun hHeld=> ?_);clear hK K hba
    (try clear hst3)
    (try have hst3:=hst4)
    (try clear hst4)
    clear hW5;generalize w3.heap.size=ab at *
    (try simp only [Act.put,sA,sZ,sS])
    refine wpAnyH_done (by kernel_rfl) ?_ _;refine ZH rfl rfl ?_;have q0:=(uh kx).cell (i:=0) (v:= .int .i64 0) rfl;have q1:=(uh kx).cell (i:=1) (v:= .int .i64 0) rfl;have q2:=(uh kx).cell (i:=2) (v:= .int .i64 0) rfl;have q3:=(uh kx).cell (i:=3) (v:= .int .i64 0) rfl;obtain ⟨p0,p1,p2,p3⟩:=(uh kx).f4;have hk4:Blk ((((W5.setCell ⟨ab,0,none⟩ (.int .i64 (A+1))).setCell ⟨ab,1,none⟩ (.int .i64 0)).setCell ⟨ab,2,none⟩ (.int .i64 0)).setCell ⟨ab,3,none⟩ (.int .i64 0)) ab 25 #[.int .i64 (A+1),.int .i64 0,.int .i64 0,.int .i64 0]:=((((uh kx).set 0 (.int .i64 (A+1))).set 1 (.int .i64 0)).set 2 (.int .i64 0)).set 3 (.int .i64 0)
    have hwb:Below w1.heap.size w1 ((((W5.setCell ⟨ab,0,none⟩ (.int .i64 (A+1))).setCell ⟨ab,1,none⟩ (.int .i64 0)).setCell ⟨ab,2,none⟩ (.int .i64 0)).setCell ⟨ab,3,none⟩ (.int .i64 0)):=by
     iterate 4 (refine YU ?_ (by show _<=ab;omega) _)
     exact uh BB
    have HK4:=Z9 hk4;have HWb:=Z9 hwb;clear hk4 hwb kx BB hHeld;go_simp;go_wp2_with fail;go_meet;exact ⟨ab,rfl,hab,HK4,HWb⟩
   ·go_simp
    obtain ⟨W5,hW5,hba,kx⟩:=YW w3 25 #[.int .i64 0,.int .i64 0,.int .i64 0,.int .i64 0];have hab:w1.heap.size<=w3.heap.size:=(uh BB).size;replace hg1:=(hba.cell (p:=⟨g,0,none⟩) (World.block_lt_of_cell? _ _ hg1)).trans hg1;replace BB:=bt BB hba
    (try have hst4:=hst3.later hba)
    rw [hW5];refine hK.out _ _ hg1 (fun hHeld=> ?_);clear hK K hba
    (try clear hst3)
    (try have hst3:=hst4)
    (try clear hst4)
    clear hW5;generalize w3.heap.size=ab at *
    (try simp only [Act.put,sA,sZ,sS])
    refine rd 4 rfl (fun K hK=> ?_);go_simp;refine (Qu hst3 w0 (by decide)).mono ?_;rw [uh HA];rintro e9 w9 ⟨rfl,h9⟩;subst w9;refine hK.out _ _ hg1 (fun hHeld=> ?_);clear hK K
    (try simp only [Act.put,sA,sZ,sS])
    refine tp 5 ?_;refine tp 6 ?_;refine wpAnyH_done (by kernel_rfl) ?_ _;refine ZH rfl rfl ?_;have q0:=(uh kx).cell (i:=0) (v:= .int .i64 0) rfl;have q1:=(uh kx).cell (i:=1) (v:= .int .i64 0) rfl;have q2:=(uh kx).cell (i:=2) (v:= .int .i64 0) rfl;have q3:=(uh kx).cell (i:=3) (v:= .int .i64 0) rfl;obtain ⟨p0,p1,p2,p3⟩:=(uh kx).f4;have hk4:Blk ((((W5.setCell ⟨ab,0,none⟩ (.int .i64 (A+1))).setCell ⟨ab,1,none⟩ (.int .i64 0)).setCell ⟨ab,2,none⟩ (.int .i64 0)).setCell ⟨ab,3,none⟩ (.int .i64 0)) ab 25 #[.int .i64 (A+1),.int .i64 0,.int .i64 0,.int .i64 0]:=((((uh kx).set 0 (.int .i64 (A+1))).set 1 (.int .i64 0)).set 2 (.int .i64 0)).set 3 (.int .i64 0)
    have hwb:Below w1.heap.size w1 ((((W5.setCell ⟨ab,0,none⟩ (.int .i64 (A+1))).setCell ⟨ab,1,none⟩ (.int .i64 0)).setCell ⟨ab,2,none⟩ (.int .i64 0)).setCell ⟨ab,3,none⟩ (.int .i64 0)):=by
     iterate 4 (refine YU ?_ (by show _<=ab;omega) _)
     exact uh BB
    have HK4:=Z9 hk4;have HWb:=Z9 hwb;clear hk4 hwb kx BB hHeld;go_simp;go_wp2_with fail;go_meet;exact ⟨ab,rfl,hab,HK4,HWb⟩
  ·go_simp
   obtain ⟨W5,hW5,hba,kx⟩:=YW W4 25 #[.int .i64 0,.int .i64 0,.int .i64 0,.int .i64 0];have hab:w1.heap.size<=W4.heap.size:=(uh BB).size;replace hg1:=(hba.cell (p:=⟨g,0,none⟩) (World.block_lt_of_cell? _ _ hg1)).trans hg1;replace BB:=bt BB hba
   (try have hst4:=hst3.later hba)
   rw [hW5];refine hK.out _ _ hg1 (fun hHeld=> ?_);clear hK K hba
   (try clear hst3)
   (try have hst3:=hst4)
   (try clear hst4)
   clear hW5;generalize W4.heap.size=ab at *
   (try simp only [Act.put,sA,sZ,sS])
   refine rd 0 rfl (fun K hK=> ?_);go_simp;refine (UN W5).mono ?_;rintro e9 w3 ⟨v3,rfl,hst3,hb3⟩;obtain ⟨a3,c3,rfl,_,_,_⟩:=hst3.view;replace hg1:=(hb3.cell (p:=⟨g,0,none⟩) (World.block_lt_of_cell? _ _ hg1)).trans hg1;replace BB:=Z9 ((uh BB).trans (hb3.mono (uh BB).size));replace kx:=bl kx hb3;refine hK.out _ _ hg1 (fun hHeld=> ?_);clear hK K hb3
   (try simp only [Act.put,sA,sZ,sS])
   refine rd 4 rfl (fun K hK=> ?_);go_simp;refine (Qu hst3 w0 (by decide)).mono ?_;rw [uh HA];rintro e9 w9 ⟨rfl,h9⟩;subst w9;refine hK.out _ _ hg1 (fun hHeld=> ?_);clear hK K
   (try simp only [Act.put,sA,sZ,sS])
   refine tp 5 ?_;refine tp 6 ?_;refine wpAnyH_done (by kernel_rfl) ?_ _;refine ZH rfl rfl ?_;have q0:=(uh kx).cell (i:=0) (v:= .int .i64 0) rfl;have q1:=(uh kx).cell (i:=1) (v:= .int .i64 0) rfl;have q2:=(uh kx).cell (i:=2) (v:= .int .i64 0) rfl;have q3:=(uh kx).cell (i:=3) (v:= .int .i64 0) rfl;obtain ⟨p0,p1,p2,p3⟩:=(uh kx).f4;have hk4:Blk ((((w3.setCell ⟨ab,0,none⟩ (.int .i64 (A+1))).setCell ⟨ab,1,none⟩ (.int .i64 0)).setCell ⟨ab,2,none⟩ (.int .i64 0)).setCell ⟨ab,3,none⟩ (.int .i64 0)) ab 25 #[.int .i64 (A+1),.int .i64 0,.int .i64 0,.int .i64 0]:=((((uh kx).set 0 (.int .i64 (A+1))).set 1 (.int .i64 0)).set 2 (.int .i64 0)).set 3 (.int .i64 0)
   have hwb:Below w1.heap.size w1 ((((w3.setCell ⟨ab,0,none⟩ (.int .i64 (A+1))).setCell ⟨ab,1,none⟩ (.int .i64 0)).setCell ⟨ab,2,none⟩ (.int .i64 0)).setCell ⟨ab,3,none⟩ (.int .i64 0)):=by
    iterate 4 (refine YU ?_ (by show _<=ab;omega) _)
    exact uh BB
   have HK4:=Z9 hk4;have HWb:=Z9 hwb;clear hk4 hwb kx BB hHeld;go_simp;go_wp2_with fail;go_meet;exact ⟨ab,rfl,hab,HK4,HWb⟩
 case rest=>
  obtain ⟨ab,rfl,hab,k3,HB⟩:=hcut;replace k1:=bl k1 (uh HB);replace W1:=Z9 ((uh W1).trans ((uh HB).mono (uh W1).size));have hwab:w.heap.size<ab:=by have h1:=(uh k1).lt;have h2:w.heap.size<w1.heap.size:=hwl;omega
  have Hng:Hid (g ≠ ab):=Z9 (by omega);have habc:ab<wc.heap.size:=(uh k3).lt;have HclC:Hid (∀ j,j<(w0::r).length->wc.cell? ⟨g,j,none⟩=some (.string (bs ((w0::r).getD j [])))):=Z9 (fun j hj=>((uh HB).cell (p:=⟨g,j,none⟩) hg).trans (uh Hcl j hj));have hgc:g<wc.heap.size:=YH hg (uh HB).size;clear HB Hcl hg hwl hab hwr;cases hwf:Ze w0 Zt 0 with
  | none=>
   have hA0:A= -1:=by rw [<-uh HA];exact MR hwf
   have hQn:Q=none:=by rw [uh HQ2,hwf];rfl
   have HQn:=Z9 hQn;subst hA0;have k4:Hid (Blk wc ab 25 #[.int .i64 0,.int .i64 0,.int .i64 0,.int .i64 0]):=k3;clear hwf hQn HQ2 HA k3;have c0:=(uh k4).cell (i:=0) (v:= .int .i64 0) rfl;have z0:=(uh k1).cell (i:=0) (v:= .int .i64 0) rfl;have z1:=(uh k1).cell (i:=1) (v:= .int .i64 0) rfl;have z2:=(uh k1).cell (i:=2) (v:= .int .i64 0) rfl;have z3:=(uh k1).cell (i:=3) (v:= .int .i64 0) rfl;obtain ⟨f0,f1,f2,f3⟩:=(uh k1).f4;go_wp2_with fail;refine Zz (v:= .tuple #[.agg #[.int .i64 0,.int .i64 0,.int .i64 0,.int .i64 0],.bool false]) (by simp [results,results9,go_sem, *]) rfl ⟨by rw [uh HQn];rfl,?_⟩
   iterate 4 (refine YU ?_ (by show _<=w.heap.size;omega) _)
   exact uh W1
  | some k=>
   have hA0:A=(k:Int):=by rw [<-uh HA];exact MS hwf
   have hk14:k<14:=by have:=(VE _ _ _ hwf).2.1;rw [show Zt.length=14 from rfl] at this;omega
   have hQs:Q=ZK r (Y0.getD k []) ((k:Int)+1,0,0,0):=by rw [uh HQ2,hwf];rfl
   have HQs:=Z9 hQs;have HT:=Z9 (Vg k hk14).1;have HTl:=Z9 (Vf k hk14);have HTells:=Z9 (fun w=>S8 k hk14 w);subst hA0;generalize Y0.getD k []=t at *;clear hwf hQs HQ2 HA;have c0:=(uh k3).cell (i:=0) (v:= .int .i64 ((k:Int)+1)) rfl;have n1:((k:Int)+1 ==0)=false:=by rw [beq_eq_false_iff_ne];omega
   have n2:decide ((k:Int)+1=0)=false:=Ya (by omega);go_wp2_with fail;refine (uh HTells wc).mono ?_;rintro e w2 ⟨tv,rfl,hpt,hown,hb⟩;obtain ⟨ta,tcap,rfl,hp⟩:=hpt;have Hne:Hid (∀ q,ta=some ⟨q,0,none⟩->q ≠ ab):=Z9 (fun q e=>by have:=hown q (by rw [e];rfl);omega);clear hown habc;have Hp:=Z9 hp;replace k1:=bl k1 hb;replace k3:=bl k3 hb;replace W1:=Z9 ((uh W1).trans (hb.mono (uh W1).size));have HclD:Hid (∀ j,j<(w0::r).length->w2.cell? ⟨g,j,none⟩=some (.string (bs ((w0::r).getD j [])))):=Z9 (fun j hj=>(hb.cell (p:=⟨g,j,none⟩) hgc).trans (uh HclC j hj));have hgd:g<w2.heap.size:=YH hgc hb.size;clear hb hp c0 n1 n2 HclC hgc HTells;by_cases hl:r.length=t.length;rotate_left
   ·have hQn:Q=none:=by rw [uh HQs];exact R6 hl
    have HQn:=Z9 hQn;have n1:((r.length:Int)+1 !=(t.length:Int)+1)=true:=by rw [bne_iff_ne];omega
    have n2:decide ((r.length:Int)+1=(t.length:Int)+1)=false:=Ya (by omega);have n3:((r.length:Int) !=(t.length:Int))=true:=by rw [bne_iff_ne];omega
    have n4:decide ((r.length:Int)=(t.length:Int))=false:=Ya (by omega);have htl:=uh HTl;clear hQn hl;have z0:=(uh k1).cell (i:=0) (v:= .int .i64 0) rfl;have z1:=(uh k1).cell (i:=1) (v:= .int .i64 0) rfl;have z2:=(uh k1).cell (i:=2) (v:= .int .i64 0) rfl;have z3:=(uh k1).cell (i:=3) (v:= .int .i64 0) rfl;obtain ⟨f0,f1,f2,f3⟩:=(uh k1).f4;go_wp2_with fail;refine Zz (v:= .tuple #[.agg #[.int .i64 0,.int .i64 0,.int .i64 0,.int .i64 0],.bool false]) (by simp [results,results9,go_sem, *]) rfl ⟨by rw [uh HQn];rfl,?_⟩
    iterate 4 (refine YU ?_ (by show _<=w.heap.size;omega) _)
    exact uh W1
   have n1:((r.length:Int)+1 !=(t.length:Int)+1)=false:=by simp [hl]
   have n3:((r.length:Int) !=(t.length:Int))=false:=by simp [hl]
   have htl:=uh HTl;have Hl:=Z9 hl;clear hl;go_wp2_with fail;clear n1 n3
   go_loopw [7] (fun i wr=> ∃ (j:Nat) (a:Yp),j<=t.length/\i= .int .i64 j/\ZK (r.drop j) (t.drop j) a=Q/\Hid (Blk wr ab 25 #[.int .i64 a.1,.int .i64 a.2.1,.int .i64 a.2.2.1,.int .i64 a.2.2.2])/\Hid (Blk wr w.heap.size 25 #[.int .i64 0,.int .i64 0,.int .i64 0,.int .i64 0])/\Hid (Below w.heap.size w wr)/\Hid (But ab w2 wr)) (fun i _=>t.length-(intOf i).toNat)
   case atStart=>exact ⟨0,((k:Int)+1,0,0,0),Zi _,rfl,(uh HQs).symm,k3,k1,W1,Z9 (But.refl _ _)⟩
   case round=>
    obtain ⟨j,a,hj,rfl,hr,k3,k1,W1,HBt⟩:=hrel;have HR:=Z9 hr;clear hr HQs;by_cases hlt:j<t.length
    ·have hltr:j<r.length:=by rw [uh Hl];exact hlt
     have hlt1:(j:Int)<(t.length:Int):=by omega
     have hlt2:(j:Int)+1<(r.length:Int)+1:=by omega
     obtain ⟨gp,hgt,hgp,hc⟩:=uh Hp j hlt;have hgn:=uh Hne gp hgt;subst hgt;have y1:=((uh HBt).cell (p:=⟨gp,j,none⟩) hgp hgn).trans hc;have y2:=((uh HBt).cell (p:=⟨g,j+1,none⟩) hgd (uh Hng)).trans (uh HclD (j+1) (by simp;omega));simp only [List.getD_cons_succ] at y2;have hti:=uh HT _ (show t.getD j 0 ∈ t by simp [List.getD,hlt]);have hsl:=uh Hsz (r.getD j []) (by simp [List.getD,hltr]);have hstep:=Pq (a:=a) hltr hlt;rw [uh HR] at hstep;have HN:=Z9 hstep;have hj3:j<3:=by omega
     clear hc hstep HR;generalize t.getD j 0=ti at *;generalize r.getD j []=lj at *;have hcall:=UO (bs lj) wr (by rw [WI];omega);rw [Y3] at hcall;cases hx:Zv lj with
     | none=>
      rw [Zh hx] at hcall;have hQn:Q=none:=by rw [uh HN,hx];rfl
      have HQn:=Z9 hQn;have HC:=Z9 hcall;clear hcall hQn hx;go_wp2_with fail;refine ck (uh HC) fun w3 h9=> ?_;subst w3;clear y1 y2 HC;have z0:=(uh k1).cell (i:=0) (v:= .int .i64 0) rfl;have z1:=(uh k1).cell (i:=1) (v:= .int .i64 0) rfl;have z2:=(uh k1).cell (i:=2) (v:= .int .i64 0) rfl;have z3:=(uh k1).cell (i:=3) (v:= .int .i64 0) rfl;obtain ⟨f0,f1,f2,f3⟩:=(uh k1).f4;go_wp2_with fail;refine Zz (v:= .tuple #[.agg #[.int .i64 0,.int .i64 0,.int .i64 0,.int .i64 0],.bool false]) (by simp [results,results9,go_sem, *]) rfl ⟨by rw [uh HQn];rfl,?_⟩
      iterate 4 (refine YU ?_ (by show _<=w.heap.size;omega) _)
      exact uh W1
     | some n=>
      rw [Wy hx] at hcall;have hQs:ZK (r.drop (j+1)) (t.drop (j+1)) (VG a ti n)=Q:=by rw [uh HN,hx];rfl
      have HC:=Z9 hcall;clear hcall hx HN;obtain ⟨a0,a1,a2,a3⟩:=a
      rcases (show ti=0\/ti=1\/ti=2 by omega) with rfl | rfl | rfl
      ·have HQt:Hid (ZK (r.drop (j+1)) (t.drop (j+1)) (a0,n,a2,a3)=Q):=Z9 hQs
       clear hQs;go_wp2_with fail;refine ck (uh HC) fun w3 h9=> ?_;subst w3;have z0:=(uh k3).cell (i:=1) (v:= .int .i64 a1) rfl;have f0:=(uh k3).free 1;have HK4:Hid (Blk (wr.setCell ⟨ab,1,none⟩ (.int .i64 n)) ab 25 #[.int .i64 a0,.int .i64 n,.int .i64 a2,.int .i64 a3]):=Z9 ((uh k3).set 1 (.int .i64 n));have HK2:=Z9 ((uh k1).other (a:=⟨ab,1,none⟩) (show w.heap.size ≠ ab by omega) (.int .i64 n));have HWb:=Z9 ((uh W1).setCell (p:=⟨ab,1,none⟩) (show w.heap.size<=ab by omega) (.int .i64 n));have HBu:=Z9 ((uh HBt).setCell 1 (.int .i64 n));clear HC k1 k3 W1 HBt;go_wp2_with fail;go_roundw
       case rel=>exact ⟨j+1,(a0,n,a2,a3),by omega,by go_num,uh HQt,HK4,HK2,HWb,HBu⟩
       case measure=>exact ms
      ·have HQt:Hid (ZK (r.drop (j+1)) (t.drop (j+1)) (a0,a1,n,a3)=Q):=Z9 hQs
       clear hQs;go_wp2_with fail;refine ck (uh HC) fun w3 h9=> ?_;subst w3;have z0:=(uh k3).cell (i:=2) (v:= .int .i64 a2) rfl;have f0:=(uh k3).free 2;have HK4:Hid (Blk (wr.setCell ⟨ab,2,none⟩ (.int .i64 n)) ab 25 #[.int .i64 a0,.int .i64 a1,.int .i64 n,.int .i64 a3]):=Z9 ((uh k3).set 2 (.int .i64 n));have HK2:=Z9 ((uh k1).other (a:=⟨ab,2,none⟩) (show w.heap.size ≠ ab by omega) (.int .i64 n));have HWb:=Z9 ((uh W1).setCell (p:=⟨ab,2,none⟩) (show w.heap.size<=ab by omega) (.int .i64 n));have HBu:=Z9 ((uh HBt).setCell 2 (.int .i64 n));clear HC k1 k3 W1 HBt;go_wp2_with fail;go_roundw
       case rel=>exact ⟨j+1,(a0,a1,n,a3),by omega,by go_num,uh HQt,HK4,HK2,HWb,HBu⟩
       case measure=>exact ms
      ·have HQt:Hid (ZK (r.drop (j+1)) (t.drop (j+1)) (a0,a1,a2,n)=Q):=Z9 hQs
       clear hQs;go_wp2_with fail;refine ck (uh HC) fun w3 h9=> ?_;subst w3;have z0:=(uh k3).cell (i:=3) (v:= .int .i64 a3) rfl;have f0:=(uh k3).free 3;have HK4:Hid (Blk (wr.setCell ⟨ab,3,none⟩ (.int .i64 n)) ab 25 #[.int .i64 a0,.int .i64 a1,.int .i64 a2,.int .i64 n]):=Z9 ((uh k3).set 3 (.int .i64 n));have HK2:=Z9 ((uh k1).other (a:=⟨ab,3,none⟩) (show w.heap.size ≠ ab by omega) (.int .i64 n));have HWb:=Z9 ((uh W1).setCell (p:=⟨ab,3,none⟩) (show w.heap.size<=ab by omega) (.int .i64 n));have HBu:=Z9 ((uh HBt).setCell 3 (.int .i64 n));clear HC k1 k3 W1 HBt;go_wp2_with fail;go_roundw
       case rel=>exact ⟨j+1,(a0,a1,a2,n),by omega,by go_num,uh HQt,HK4,HK2,HWb,HBu⟩
       case measure=>exact ms
    ·obtain rfl:j=t.length:=by omega
     have hQs:Q=some a:=by
      rw [<-uh HR,List.drop_length,<-uh Hl,List.drop_length];rfl
     have HQs:=Z9 hQs;clear hQs HR;obtain ⟨a0,a1,a2,a3⟩:=a;have z0:=(uh k3).cell (i:=0) (v:= .int .i64 a0) rfl;have z1:=(uh k3).cell (i:=1) (v:= .int .i64 a1) rfl;have z2:=(uh k3).cell (i:=2) (v:= .int .i64 a2) rfl;have z3:=(uh k3).cell (i:=3) (v:= .int .i64 a3) rfl;have y0:=(uh k1).cell (i:=0) (v:= .int .i64 0) rfl;have y1:=(uh k1).cell (i:=1) (v:= .int .i64 0) rfl;have y2:=(uh k1).cell (i:=2) (v:= .int .i64 0) rfl;have y3:=(uh k1).cell (i:=3) (v:= .int .i64 0) rfl;obtain ⟨f0,f1,f2,f3⟩:=(uh k1).f4;go_wp2_with fail;refine Zz (v:= .tuple #[.agg #[.int .i64 a0,.int .i64 a1,.int .i64 a2,.int .i64 a3],.bool true]) (by simp [results,results9,go_sem, *]) rfl ⟨by rw [uh HQs];rfl,?_⟩
     iterate 4 (refine YU ?_ (by show _<=w.heap.size;omega) _)
     exact uh W1
end Go.Proofs.YtmdgokjeobnnaaaGreatDoor
