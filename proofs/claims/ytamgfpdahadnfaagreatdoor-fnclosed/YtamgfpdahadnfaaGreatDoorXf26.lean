/- Part 26 of what the proof rests on. No condition but those that a theorem names. -/
import Derived.Test.YtamgfpdahadnfaaGreatDoorXf22
import Derived.Test.YtamgfpdahadnfaaGreatDoorXf23
import Derived.Test.YtamgfpdahadnfaaGreatDoorXf24
import Derived.Test.YtamgfpdahadnfaaGreatDoorXf25
set_option maxHeartbeats 8000000
set_option maxRecDepth 100000
namespace Go.Proofs.YtamgfpdahadnfaaGreatDoor
open Go.ChangeShapes Go.WideShapes Go.ChangeAt Go.RowKit Go.Sort
set_option linter.unusedVariables false
variable {w w' w0 w1 w2 w3 w₀ wr W W' X A B C : World} {v v0 v1 v2 v3 v4 u u0 u1 u2 u3 u4 : Value} {m : Z6}
theorem Za {X:Z6 × Int} {M:Z6} {c nw:Int} {v0 v1 v2 v3 v4 u0 u1 u2 u3 u4 u5:Value} {oq:List (ZZ × Value)} (hX:X=(M,c)) (hn:M.now=nw) (hF:FullSmy (w.heap.size+2) W v0 v1 v2 v3 v4 M oq) (hB:Below w.heap.size w W):Ty w.heap.size X.1 X.2 (.returned (.tuple #[.agg #[v0,v1,v2,v3,v4,.int .i64 nw],.int .i64 c])) ((((((W.setCell ⟨w.heap.size+1,0,none⟩ u0).setCell ⟨w.heap.size+1,1,none⟩ u1).setCell ⟨w.heap.size+1,2,none⟩ u2).setCell ⟨w.heap.size+1,3,none⟩ u3).setCell ⟨w.heap.size+1,4,none⟩ u4).setCell ⟨w.heap.size+1,5,none⟩ u5)/\Below w.heap.size w ((((((W.setCell ⟨w.heap.size+1,0,none⟩ u0).setCell ⟨w.heap.size+1,1,none⟩ u1).setCell ⟨w.heap.size+1,2,none⟩ u2).setCell ⟨w.heap.size+1,3,none⟩ u3).setCell ⟨w.heap.size+1,4,none⟩ u4).setCell ⟨w.heap.size+1,5,none⟩ u5):=by
 constructor
 ·rw [hX];refine ⟨_,_,_,_,_,oq,by rw [hn],?_⟩
  refine FullSmy.mono (n₀:=w.heap.size+2) ?_ (by omega)
  iterate 6 (refine FullSmy.set_off ?_ (fun k e=>by have:=(hF.own e).1;omega) _ _)
  exact hF
 ·iterate 6 (refine YF ?_ (by show _<=w.heap.size+1;omega) _)
  exact hB
theorem UR {ob:Nat}  {oq:List (ZZ × Value)} (ko:Blk W ob 32 #[v0,v1,v2,v3,v4,.int .i64 m.now]) (hF:FullSmy (w.heap.size+2) W v0 v1 v2 v3 v4 m oq) (lo:∀ k,We v0 v1 v2 v3 v4 oq k->k ≠ ob) (kr:Blk W (w.heap.size+1) 32 E6) (BB:Below w.heap.size w W) (hl:m.sm.length<=800) (hd:m.dk.length<=1000):Calls Tryz.prog 51 #[.pointer (some ⟨ob,0,none⟩)] W fun e w'=>e= .returned (.tuple #[.agg #[v0,v1,v2,v3,v4,.int .i64 m.now],.int .i64 0])/\Hid (FullSmy (w.heap.size+2) w' v0 v1 v2 v3 v4 (ZP m) oq)/\Hid (Blk w' (w.heap.size+1) 32 E6)/\Hid (Below w.heap.size w w'):=by
 refine (Rx ko hF (fun e=>lo _ (.inr (.inr (.inr (.inl e)))) rfl) (fun e=>lo _ (.inr (.inr (.inr (.inr (.inl e))))) rfl) hl hd).mono ?_;rintro e w' ⟨rfl,h1,h2⟩;have g2:∀ k,v2.ownBlock=some k->w.heap.size+2<=k:=fun k e=>(hF.own (.inr (.inr (.inr (.inl e))))).1;have g3:∀ k,v3.ownBlock=some k->w.heap.size+2<=k:=fun k e=>(hF.own (.inr (.inr (.inr (.inr (.inl e)))))).1;exact ⟨rfl,Z9 h1,Z9 (kr.two h2 (fun e=>by have:=g2 _ e;omega) (fun e=>by have:=g3 _ e;omega)),Z9 (BB.trans (h2.below BB.size (fun k e=>by have:=g2 k e;omega) (fun k e=>by have:=g3 k e;omega)))⟩
theorem T0 {a0 a1 a2 a3 a4:Option Addr} {p0 p1 p2 p3 p4:Nat} (h:Smy W (.slice a0 m.rm.length p0) (.slice a1 m.gd.length p1) (.slice a2 m.sm.length p2) (.slice a3 m.dk.length p3) (.slice a4 m.pc.length p4) m) (hf:Few m) (kb:Blk W w.heap.size 32 (S6 a0 p0 a1 p1 a2 p2 a3 p3 a4 p4 m)) (kr:Blk W (w.heap.size+1) 32 E6) (BB:Below w.heap.size w W):Calls Tryz.prog 47 #[.agg (S6 a0 p0 a1 p1 a2 p2 a3 p3 a4 p4 m)] W fun e w'=> ∃ b0 q0 b1 q1 b2 q2 b3 q3 b4 q4 oq,e= .returned (.agg (S6 b0 q0 b1 q1 b2 q2 b3 q3 b4 q4 m))/\ ∃ W2 ob,w'.alloc (.cells (S6 b0 q0 b1 q1 b2 q2 b3 q3 b4 q4 m) 32)=W2/\w'.heap.size=ob/\Hid (Blk W2 w.heap.size 32 (S6 a0 p0 a1 p1 a2 p2 a3 p3 a4 p4 m))/\Hid (Blk W2 (w.heap.size+1) 32 E6)/\Hid (Smy W2 (.slice a0 m.rm.length p0) (.slice a1 m.gd.length p1) (.slice a2 m.sm.length p2) (.slice a3 m.dk.length p3) (.slice a4 m.pc.length p4) m)/\Hid (FullSmy (w.heap.size+2) W2 (.slice b0 m.rm.length q0) (.slice b1 m.gd.length q1) (.slice b2 m.sm.length q2) (.slice b3 m.dk.length q3) (.slice b4 m.pc.length q4) m oq)/\Hid (Blk W2 ob 32 (S6 b0 q0 b1 q1 b2 q2 b3 q3 b4 q4 m))/\Hid (∀ k,We (.slice b0 m.rm.length q0) (.slice b1 m.gd.length q1) (.slice b2 m.sm.length q2) (.slice b3 m.dk.length q3) (.slice b4 m.pc.length q4) oq k->w.heap.size+2<=k/\k<ob)/\w.heap.size+2<=ob/\Hid (Below w.heap.size w W2):=by
 have hs:w.heap.size+2<=W.heap.size:=by have:=kr.lt;omega
 refine (XL h hf).mono ?_;rintro e w2 ⟨y0,y1,y2,y3,y4,oq,rfl,ho,hb⟩;obtain ⟨b0,q0,b1,q1,b2,q2,b3,q3,b4,q4,rfl,rfl,rfl,rfl,rfl,_⟩:=ho.smy.five;have hba:Below w2.heap.size w2 (w2.alloc (.cells (S6 b0 q0 b1 q1 b2 q2 b3 q3 b4 q4 m) 32)):=ba _ _;have h2:Below W.heap.size W (w2.alloc (.cells (S6 b0 q0 b1 q1 b2 q2 b3 q3 b4 q4 m) 32)):=hb.trans (hba.mono hb.size);have hO:=ho.mono hs;exact ⟨b0,q0,b1,q1,b2,q2,b3,q3,b4,q4,oq,rfl,_,_,rfl,rfl,Z9 (kb.below h2 kb.lt),Z9 (kr.below h2 kr.lt),Z9 (h.below h2),Z9 (hO.below hba),Z9 (Blk.new _ _ _),Z9 (fun k e=>hO.own e),XA hs hb.size,Z9 (BB.trans (h2.mono BB.size))⟩
set_option linter.unusedSimpArgs false
def Ub (m:Z6) (room pace:Int):Z6 × Int:=
 if ZF m then (if Nr m room then (if inB pace 0 (((ZN m.rm room.toNat).2.length:Int)-1) then (ZP (TH m room.toNat pace),0) else (m,3)) else (m,1)) else (Yc,3)
theorem Ga (h:ZF m=true) (room pace:Int):ZF (Ub m room pace).1=true:=by
 unfold Ub;rw [h];simp only [if_true]
 split
 ·rename_i hw
  obtain ⟨k,rfl,hk⟩:=DD hw;rw [show ((k:Int)).toNat=k by simp]
  split
  ·rename_i hp
   have:=ZJ hp;exact YE (J2 (ZM h) hk (by omega) (by omega))
  ·exact h
 ·exact h
theorem VY (h:Loose m):m.pc.length=m.rm.length:=by
 have hd:=h.head;unfold YG at hd;simp only [ZL,YZ] at hd;exact hd.2.2.2.2.1
theorem NP  (room:Int) (pace:Int) (h:Smy w v0 v1 v2 v3 v4 m) :
  Calls Tryz.prog 255 #[.agg #[v0,v1,v2,v3,v4,.int .i64 m.now],.int .i64 room,.int .i64 pace] w fun e w'=>Ty w.heap.size (Ub m room pace).1 (Ub m room pace).2 e w'/\Below w.heap.size w w':=by
 obtain ⟨X,hX⟩:∃ x,Ub m room pace=x:=⟨_,rfl⟩
 rw [hX];have HX:=Z9 hX;clear hX;have Hv0:=Z9 h;obtain ⟨a0,p0,a1,p1,a2,p2,a3,p3,a4,p4,rfl,rfl,rfl,rfl,rfl,_,_,_,_,_,_,_,_,_,_⟩:=h.five;clear h;obtain ⟨ok,hok⟩:∃ q,ZF m=q:=⟨_,rfl⟩
 have Hok:=Z9 hok;clear hok;go_enter Tryz.func255,Tryz.ntmps255;go_wp2_with fail;obtain ⟨W,hW,kb,kr,BB⟩:=YB w 32 (S6 a0 p0 a1 p1 a2 p2 a3 p3 a4 p4 m) 32 E6;have Hv:=Z9 ((uh Hv0).below (uh BB));clear Hv0;rw [hW];clear hW;refine ck (Xx (uh Hok) (uh Hv)) fun w1 hb=> ?_;replace kb:=bl kb hb;replace kr:=bl kr hb;replace Hv:=Z9 ((uh Hv).below hb);replace BB:=bt BB hb;clear hb;cases ok
 ·
  obtain ⟨c0,c1,c2,c3,c4,c5⟩:=(uh kb).c6;go_wp2_with fail;clear c0 c1 c2 c3 c4 c5;refine ck (XT (uh Hv)) fun w2 hb=> ?_;replace kb:=bl kb hb;replace kr:=bl kr hb;replace Hv:=Z9 ((uh Hv).below hb);replace BB:=bt BB hb;clear hb;obtain ⟨o0,o1,o2,o3,o4,o5⟩:=(uh kr).c6;obtain ⟨f0,f1,f2,f3,f4,f5⟩:=(uh kr).f6;go_wp2_with fail;have hX0:X=(Yc,3):=by rw [<-uh HX];unfold Ub;rw [uh Hok];rfl
  exact ZQ (v:= .tuple #[.agg E6,.int .i64 3]) (by simp [results,Tryz.results255,go_sem, *]) rfl (Za hX0 rfl (Yq _ _) (uh BB))
 have hlo:=ZM (uh Hok);have HLo:=Z9 hlo;have HFew:=Z9 (WJ hlo);clear hlo;obtain ⟨c0,c1,c2,c3,c4,c5⟩:=(uh kb).c6;go_wp2_with fail;clear c0 c1 c2 c3 c4 c5;refine (T0 (uh Hv) (uh HFew) (uh kb) (uh kr) (uh BB)).mono ?_;clear kb kr Hv BB;rintro e w2 ⟨b0,q0,b1,q1,b2,q2,b3,q3,b4,q4,oq,rfl,W2,ob,hW2,hob2,kb,kr,Hv,HO,ko,LO,hob,BB⟩;go_upto_region 4 with fail
 (try rw [hW2])
 (try rw [hob2])
 clear hW2 hob2;obtain ⟨qw,hqw⟩:∃ q,Nr m room=q:=⟨_,rfl⟩
 have Hqw:=Z9 hqw;clear hqw;obtain ⟨c0,c1,c2,c3,c4,c5⟩:=(uh kb).c6;go_wp2_with fail;clear c0 c1 c2 c3 c4 c5;refine ck (B8 (uh Hqw) (uh Hv)) fun w3 hb=> ?_;replace kb:=bl kb hb;replace kr:=bl kr hb;replace Hv:=Z9 ((uh Hv).below hb);replace HO:=Z9 ((uh HO).below hb);replace ko:=bl ko hb;replace BB:=bt BB hb;clear hb;cases qw
 ·
  obtain ⟨x0,x1,x2,x3,x4,x5⟩:=(uh ko).c6;obtain ⟨o0,o1,o2,o3,o4,o5⟩:=(uh kr).c6;obtain ⟨f0,f1,f2,f3,f4,f5⟩:=(uh kr).f6;go_wp2_with fail;have hX0:X=(m,1):=by rw [<-uh HX];unfold Ub;rw [uh Hok,uh Hqw];rfl
  exact ZQ (v:= .tuple #[.agg (S6 b0 q0 b1 q1 b2 q2 b3 q3 b4 q4 m),.int .i64 1]) (by simp [results,Tryz.results255,go_sem, *]) rfl (Za hX0 rfl (uh HO) (uh BB))
 obtain ⟨k,rfl,hk⟩:=DD (uh Hqw);have hk1:(k:Int)<(m.rm.length:Int):=by omega
 have hkp:k<m.pc.length:=by rw [VY (uh HLo)];exact hk
 have hkp1:(k:Int)<(m.pc.length:Int):=by omega
 obtain ⟨_,_,hre,_,_,r0⟩:=(uh Hv).rm;cases hre
 rcases r0 with e0 | ⟨rb,off,rfl,hbw,hcl⟩
 ·rw [e0] at hk;simp at hk
 obtain ⟨_,pv,d1,pa,pc,rfl,hpc,hpm,_⟩:=hcl k hk;clear hcl;obtain ⟨op,hop⟩:∃ q,inB pace 0 (((ZN m.rm k).2.length:Int)-1)=q:=⟨_,rfl⟩
 have Hop:=Z9 hop;have hpl:(ZN m.rm k).2.length<=9223372036854775807:=by omega
 have c0:=(uh kb).cell (i:=0) (v:= .slice (some ⟨rb,off,none⟩) m.rm.length p0) rfl;obtain ⟨nl,hnl⟩:∃ q,(ZN m.rm k).2.length=q:=⟨_,rfl⟩
 rw [hnl] at hop d1 hpl;have Hop2:=Z9 hop;clear hop hnl hpc;go_wp2_with fail;refine (ZU _ _ _ _).mono ?_;rw [uh Hop2];rintro e w9 ⟨rfl,hw9⟩;subst w9;cases op
 ·
  obtain ⟨x0,x1,x2,x3,x4,x5⟩:=(uh ko).c6;obtain ⟨o0,o1,o2,o3,o4,o5⟩:=(uh kr).c6;obtain ⟨f0,f1,f2,f3,f4,f5⟩:=(uh kr).f6;go_wp2_with fail;have hX0:X=(m,3):=by rw [<-uh HX];unfold Ub;rw [uh Hok,uh Hqw];simp only [if_true,Zy];rw [uh Hop];rfl
  exact ZQ (v:= .tuple #[.agg (S6 b0 q0 b1 q1 b2 q2 b3 q3 b4 q4 m),.int .i64 3]) (by simp [results,Tryz.results255,go_sem, *]) rfl (Za hX0 rfl (uh HO) (uh BB))
 obtain ⟨g4,hga,_,_,hc4,hz4⟩:=RecAt.view YC (by omega) (uh HO).pc rfl (by omega);cases hga;have s0:=hc4 k hkp 0 _ rfl;have f0:=hz4 k;have x4:=(uh ko).cell (i:=4) (v:= .slice (some ⟨g4,0,none⟩) m.pc.length q4) rfl;have hput:=(uh HO).putP rfl (j:=k) hkp pace;simp only [Nat.add_zero,Nat.mul_one] at s0;have hg4o:=(uh LO g4 (.inr (.inr (.inr (.inr (.inr rfl))))))
 clear hc4 hz4;go_upto_region 9 with fail;clear s0 f0 x4 c0 d1;have HP:=Z9 hput;clear hput HO;replace ko:Hid (Blk (w3.setCell ⟨g4,k,none⟩ (.int .i64 pace)) ob 32 (S6 b0 q0 b1 q1 b2 q2 b3 q3 (some ⟨g4,0,none⟩) q4 m)):=Z9 ((uh ko).other (a:=⟨g4,k,none⟩) (by show ob ≠ g4;omega) _);replace kr:Hid (Blk (w3.setCell ⟨g4,k,none⟩ (.int .i64 pace)) (w.heap.size+1) 32 E6):=Z9 ((uh kr).other (a:=⟨g4,k,none⟩) (by show w.heap.size+1 ≠ g4;omega) _);replace BB:Hid (Below w.heap.size w (w3.setCell ⟨g4,k,none⟩ (.int .i64 pace))):=Z9 ((uh BB).setCell (p:=⟨g4,k,none⟩) (by show w.heap.size<=g4;omega) _);clear kb Hv;generalize w3.setCell ⟨g4,k,none⟩ (.int .i64 pace)=W3 at *;have hfw:=uh HFew;go_wp2_with fail;refine (UR (m:=TH m k pace) (uh ko) (uh HP) (fun k e=>by have:=(uh LO k e).2;omega) (uh kr) (uh BB) (by show m.sm.length<=800;have:=hfw.sm;omega) hfw.dk).mono ?_;clear kr BB;rintro e w4 ⟨rfl,HF9,kr,BB⟩;obtain ⟨o0,o1,o2,o3,o4,o5⟩:=(uh kr).c6;obtain ⟨f0,f1,f2,f3,f4,f5⟩:=(uh kr).f6;go_wp2_with fail;have hX0:X=(ZP (TH m k pace),0):=by rw [<-uh HX];unfold Ub;rw [uh Hok,uh Hqw];simp only [if_true,Zy];rw [uh Hop];rfl
 have hnow:(ZP (TH m k pace)).now=m.now:=(ZG _ _).2.2.2.1;exact ZQ (v:= .tuple #[.agg (S6 b0 q0 b1 q1 b2 q2 b3 q3 (some ⟨g4,0,none⟩) q4 m),.int .i64 0]) (by simp [results,Tryz.results255,go_sem,setS,TH,Zk,pushS, *]) rfl (Za hX0 hnow (uh HF9) (uh BB))
theorem Tl (h:Loose m):m.pc.length<=1000:=by
 rw [VY h];have hd:=h.head;unfold YG at hd;simp only [ZL,YZ] at hd;have:=(Zq hd.1).2.1;omega
theorem P5 (h:Loose m) {k:Nat} (hk:k<m.sm.length) (hs:(Z8 m.sm k).1 ≠ 0):QG m k/\ ∃ bn:Nat,(Z8 m.sm k).2.1=(bn:Int)/\bn<m.dk.length:=by
 obtain ⟨p,_,hb⟩:=h.limits hk hs;obtain ⟨⟨st,be,rk,my,gu,lo,hi,hd,ca,ut,wk⟩,hrk⟩:∃ d,Z8 m.sm k=d:=⟨_,rfl⟩
 rw [hrk] at p hb;obtain ⟨_,x1,_,x3,_⟩:=Zj p;simp only at hb;refine ⟨⟨hk,hs,?_,?_⟩,be.toNat,?_,by omega⟩
 ·rw [hrk];show (0:Int)<=my;omega
 ·rw [hrk];show my<=255;omega
 ·rw [hrk];show be=_;omega
theorem JC  (who:Int) (h:Smy w v0 v1 v2 v3 v4 m) :
  Calls Tryz.prog 18 #[.agg #[v0,v1,v2,v3,v4,.int .i64 m.now],.int .i64 who] w fun e w'=>Ty w.heap.size (Tv m who).1 (Tv m who).2 e w'/\Below w.heap.size w w':=by
 obtain ⟨X,hX⟩:∃ x,Tv m who=x:=⟨_,rfl⟩
 rw [hX];have HX:=Z9 hX;clear hX;have Hv0:=Z9 h;obtain ⟨a0,p0,a1,p1,a2,p2,a3,p3,a4,p4,rfl,rfl,rfl,rfl,rfl,_,_,_,_,_,_,_,_,_,_⟩:=h.five;clear h;obtain ⟨ok,hok⟩:∃ q,ZF m=q:=⟨_,rfl⟩
 have Hok:=Z9 hok;clear hok;go_enter Tryz.func18,Tryz.ntmps18;go_wp2_with fail;obtain ⟨W,hW,kb,kr,BB⟩:=YB w 32 (S6 a0 p0 a1 p1 a2 p2 a3 p3 a4 p4 m) 32 E6;have Hv:=Z9 ((uh Hv0).below (uh BB));clear Hv0;rw [hW];clear hW;refine ck (Xx (uh Hok) (uh Hv)) fun w1 hb=> ?_;replace kb:=bl kb hb;replace kr:=bl kr hb;replace Hv:=Z9 ((uh Hv).below hb);replace BB:=bt BB hb;clear hb;cases ok
 ·
  obtain ⟨c0,c1,c2,c3,c4,c5⟩:=(uh kb).c6;go_wp2_with fail;clear c0 c1 c2 c3 c4 c5;refine ck (XT (uh Hv)) fun w2 hb=> ?_;replace kb:=bl kb hb;replace kr:=bl kr hb;replace Hv:=Z9 ((uh Hv).below hb);replace BB:=bt BB hb;clear hb;obtain ⟨o0,o1,o2,o3,o4,o5⟩:=(uh kr).c6;obtain ⟨f0,f1,f2,f3,f4,f5⟩:=(uh kr).f6;go_wp2_with fail;have hX0:X=(Yc,3):=by rw [<-uh HX];unfold Tv;rw [uh Hok];rfl
  exact ZQ (v:= .tuple #[.agg E6,.int .i64 3]) (by simp [results,Tryz.results18,go_sem, *]) rfl (Za hX0 rfl (Yq _ _) (uh BB))
 have hlo:=ZM (uh Hok);have HLo:=Z9 hlo;have HFew:=Z9 (WJ hlo);clear hlo;obtain ⟨c0,c1,c2,c3,c4,c5⟩:=(uh kb).c6;go_wp2_with fail;clear c0 c1 c2 c3 c4 c5;refine (T0 (uh Hv) (uh HFew) (uh kb) (uh kr) (uh BB)).mono ?_;clear kb kr Hv BB;rintro e w2 ⟨b0,q0,b1,q1,b2,q2,b3,q3,b4,q4,oq,rfl,W2,ob,hW2,hob2,kb,kr,Hv,HO,ko,LO,hob,BB⟩;go_upto_region 4 with fail
 (try rw [hW2])
 (try rw [hob2])
 clear hW2 hob2;obtain ⟨qw,hqw⟩:∃ q,TJ m who=q:=⟨_,rfl⟩
 have Hqw:=Z9 hqw;clear hqw;obtain ⟨c0,c1,c2,c3,c4,c5⟩:=(uh kb).c6;go_wp2_with fail;clear c0 c1 c2 c3 c4 c5;refine ck (Ue (uh Hqw) (uh Hv)) fun w3 hb=> ?_;replace kb:=bl kb hb;replace kr:=bl kr hb;replace Hv:=Z9 ((uh Hv).below hb);replace HO:=Z9 ((uh HO).below hb);replace ko:=bl ko hb;replace BB:=bt BB hb;clear hb;cases qw
 ·
  obtain ⟨x0,x1,x2,x3,x4,x5⟩:=(uh ko).c6;obtain ⟨o0,o1,o2,o3,o4,o5⟩:=(uh kr).c6;obtain ⟨f0,f1,f2,f3,f4,f5⟩:=(uh kr).f6;go_wp2_with fail;have hX0:X=(m,1):=by rw [<-uh HX];unfold Tv;rw [uh Hok,uh Hqw];rfl
  exact ZQ (v:= .tuple #[.agg (S6 b0 q0 b1 q1 b2 q2 b3 q3 b4 q4 m),.int .i64 1]) (by simp [results,Tryz.results18,go_sem, *]) rfl (Za hX0 rfl (uh HO) (uh BB))
 obtain ⟨k,rfl,hk,hs0⟩:=Wr (uh Hqw);have hk1:(k:Int)<(m.sm.length:Int):=by omega
 obtain ⟨hA,bn,hbn,hbnl⟩:=P5 (uh HLo) hk hs0;have HA:=Z9 hA;clear hA;obtain ⟨_,_,hse,_,_,r2⟩:=(uh Hv).sm;cases hse
 rcases r2 with e0 | ⟨sb,off,rfl,hbw,hcl⟩
 ·rw [e0] at hk;simp at hk
 obtain ⟨d0,d1,d2,d3,d4,d5,d6,d7,d8,d9,d10⟩:=Zx hcl hk;clear hcl;obtain ⟨⟨st,be,rk,my,gu,lo,hi,hd,ca,ut,wk⟩,hrk⟩:∃ d,Z8 m.sm k=d:=⟨_,rfl⟩
 rw [hrk] at d0 d1 d2 d3 d4 d5 d6 d7 d8 d9 d10 hbn hs0;simp only at d0 d1 d2 d3 d4 d5 d6 d7 d8 d9 d10 hbn hs0;subst hbn;have Hrk:=Z9 hrk;clear hrk;have c2:=(uh kb).cell (i:=2) (v:= .slice (some ⟨sb,off,none⟩) m.sm.length p2) rfl;go_upto_region 7 with fail;clear d0 d1 d2 d3 d4 d5 d6 d7 d8 d9 d10 c2;obtain ⟨W3,hW3,hba,ks⟩:=Yz w3 40 (I11 st (bn:Int) rk my gu lo hi hd ca ut wk);replace kb:=bl kb hba;replace kr:=bl kr hba;replace Hv:=Z9 ((uh Hv).below hba);replace HO:=Z9 ((uh HO).below hba);replace ko:=bl ko hba;replace BB:=bt BB hba;clear hba;rw [hW3];clear hW3;generalize w3.heap.size=sv at *;by_cases hst:st=1;rotate_left
 ·
  have e0:=(uh ks).cell (i:=0) (v:= .int .i64 st) rfl;have hst1:(st ==1)=false:=by simp [hst]
  have hst2:decide (st=1)=false:=by simp [hst]
  obtain ⟨x0,x1,x2,x3,x4,x5⟩:=(uh ko).c6;obtain ⟨o0,o1,o2,o3,o4,o5⟩:=(uh kr).c6;obtain ⟨f0,f1,f2,f3,f4,f5⟩:=(uh kr).f6;go_wp2_with fail;have hX0:X=(m,2):=by rw [<-uh HX];unfold Tv;rw [uh Hok,uh Hqw];simp only [if_true,Zy];rw [if_neg (show ¬ (Z8 m.sm k).1=1 by rw [uh Hrk];exact hst)]
  exact ZQ (v:= .tuple #[.agg (S6 b0 q0 b1 q1 b2 q2 b3 q3 b4 q4 m),.int .i64 2]) (by simp [results,Tryz.results18,go_sem, *]) rfl (Za hX0 rfl (uh HO) (uh BB))
 subst hst;have Hst:Hid ((Z8 m.sm k).1=1):=Z9 (by rw [uh Hrk]);have e0:=(uh ks).cell (i:=0) (v:= .int .i64 1) rfl;obtain ⟨b,hb⟩:∃ q,Y1 m (k:Int)=q:=⟨_,rfl⟩
 have Hb:=Z9 hb;clear hb;obtain ⟨c0,c1,c2,c3,c4,c5⟩:=(uh kb).c6;go_wp2_with fail;clear c0 c1 c2 c3 c4 c5;clear e0;refine (V8 (who:=k) (uh Hv) (uh HLo).sane (Tl (uh HLo)) (uh HA)).mono ?_;rw [uh Hb];rintro e w4 ⟨rfl,hb⟩;replace kb:=bl kb hb;replace kr:=bl kr hb;replace Hv:=Z9 ((uh Hv).below hb);replace HO:=Z9 ((uh HO).below hb);replace ko:=bl ko hb;replace ks:=bl ks hb;replace BB:=bt BB hb;clear hb;by_cases hbn:b<0
 ·
  obtain ⟨x0,x1,x2,x3,x4,x5⟩:=(uh ko).c6;obtain ⟨o0,o1,o2,o3,o4,o5⟩:=(uh kr).c6;obtain ⟨f0,f1,f2,f3,f4,f5⟩:=(uh kr).f6;go_wp2_with fail;have hX0:X=(m,2):=by rw [<-uh HX];unfold Tv;rw [uh Hok,uh Hqw];simp only [if_true,Zy];rw [if_pos (uh Hst),uh Hb,if_pos hbn]
  exact ZQ (v:= .tuple #[.agg (S6 b0 q0 b1 q1 b2 q2 b3 q3 b4 q4 m),.int .i64 2]) (by simp [results,Tryz.results18,go_sem, *]) rfl (Za hX0 rfl (uh HO) (uh BB))
 obtain ⟨bb,hbb,rfl⟩:∃ bb:Nat,bb<m.dk.length/\b=(bb:Int):=by
  rcases VR m (k:Int) with ⟨e,_⟩ | ⟨bb,hbl,e,_⟩
  ·rw [uh Hb] at e;omega
  ·exact ⟨bb,hbl,(uh Hb).symm.trans e⟩
 obtain ⟨c0,c1,c2,c3,c4,c5⟩:=(uh kb).c6;go_wp2_with fail;clear c0 c1 c2 c3 c4 c5;have hobw:=(uh ko).lt;refine (XL (uh Hv) (uh HFew)).mono ?_;rintro e w5 ⟨y0,y1,y2,y3,y4,xq,rfl,ho,hb⟩;have k9:=ho.smy;obtain ⟨xa0,xp0,xa1,xp1,xa2,xp2,xa3,xp3,xa4,xp4,rfl,rfl,rfl,rfl,rfl,_,_,_,_,_,_,_,_,_,_⟩:=k9.five;clear k9;replace kb:=bl kb hb;replace kr:=bl kr hb;replace Hv:=Z9 ((uh Hv).below hb);replace HO:=Z9 ((uh HO).below hb);replace ko:=bl ko hb;replace ks:=bl ks hb;replace BB:=bt BB hb;have hszx:=hb.size;have HY:=Z9 (ho.mono (n₁:=w.heap.size+2) (by omega));have LX:Hid (∀ k,We (.slice xa0 m.rm.length xp0) (.slice xa1 m.gd.length xp1) (.slice xa2 m.sm.length xp2) (.slice xa3 m.dk.length xp3) (.slice xa4 m.pc.length xp4) xq k->ob+1<=k/\k<w5.heap.size):=Z9 (fun k e=>by have:=ho.own e;omega);have hxb:ob+1<=w5.heap.size:=by omega
 clear ho hb hobw hszx;go_upto_region 13 with fail;obtain ⟨W4,hW4,hba,kx⟩:=Yz w5 32 (S6 xa0 xp0 xa1 xp1 xa2 xp2 xa3 xp3 xa4 xp4 m);replace kb:=bl kb hba;replace kr:=bl kr hba;replace Hv:=Z9 ((uh Hv).below hba);replace HO:=Z9 ((uh HO).below hba);replace ko:=bl ko hba;replace ks:=bl ks hba;replace HY:=Z9 ((uh HY).below hba);replace BB:=bt BB hba;clear hba;rw [hW4];clear hW4;generalize w5.heap.size=xb at *;obtain ⟨_,_,hde,_,_,r3⟩:=(uh Hv).dk;cases hde
 rcases r3 with e0 | ⟨db,doff,rfl,hdw,hcl⟩
 ·rw [e0] at hbb;simp at hbb
 obtain ⟨_,_,m1⟩:=Y2 hcl hbnl;obtain ⟨_,_,m2⟩:=Y2 hcl hbb;clear hcl;obtain ⟨mk1,hmk1⟩:∃ q,(Z8 m.dk bn).2.2=q:=⟨_,rfl⟩
 obtain ⟨mk2,hmk2⟩:∃ q,(Z8 m.dk bb).2.2=q:=⟨_,rfl⟩
 rw [hmk1] at m1;rw [hmk2] at m2
 have hwk:RT m k (bb:Int)=setS m k (2,(bb:Int),rk,my,gu,lo,hi,(YH (Zr hd mk1 mk2) mk2),ca,ut,wk):=by
  unfold RT DL QE YJ Yn;rw [uh Hrk];simp only [Zy];rw [hmk1,hmk2]
 have Hwk:=Z9 hwk;clear hmk1 hmk2 hwk;have c3:=(uh kb).cell (i:=3) (v:= .slice (some ⟨db,doff,none⟩) m.dk.length p3) rfl;have e1:=(uh ks).cell (i:=1) (v:= .int .i64 (bn:Int)) rfl;have e7:=(uh ks).cell (i:=7) (v:= .int .i64 hd) rfl;obtain ⟨g2,hga,_,_,hc2,hz2⟩:=RecAt.view ZT (by omega) (uh HY).sm rfl (by omega);cases hga;have hg2o:=(uh LX g2 (.inr (.inr (.inr (.inl rfl)))))
 have x2:=(uh kx).cell (i:=2) (v:= .slice (some ⟨g2,0,none⟩) m.sm.length xp2) rfl;have s7:=hc2 k hk 7 _ rfl;have f7:=hz2 (k*11+7);have hput:=(uh HY).putS rfl (j:=k) (i:=7) hk (by omega) (.int .i64 (YH (Zr hd mk1 mk2) mk2)) (1,(bn:Int),rk,my,gu,lo,hi,(YH (Zr hd mk1 mk2) mk2),ca,ut,wk) (by rw [uh Hrk];rfl);have HP:=Z9 hput;clear hput hc2 hz2;have hbn2:(bn:Int)<(m.dk.length:Int):=by omega
 have hbb2:(bb:Int)<(m.dk.length:Int):=by omega
 go_wp2_with fail;refine ZS (S:=fun w'=>w'.cell? ⟨xb,2,none⟩=some (.slice (some ⟨g2,0,none⟩) m.sm.length xp2)/\w'.cell? ⟨sv,7,none⟩=some (.int .i64 hd)/\w'.cell? ⟨w.heap.size,3,none⟩=some (.slice (some ⟨db,doff,none⟩) m.dk.length p3)/\w'.cell? ⟨sv,1,none⟩=some (.int .i64 (bn:Int))/\w'.cell? ⟨db,doff+bn*3+2,none⟩=some (.int .i64 mk1)/\w'.cell? ⟨db,doff+bb*3+2,none⟩=some (.int .i64 mk2)) (by kernel_rfl) (XM _ _) (by kernel_rfl) ⟨x2,e7,c3,e1,m1,m2⟩ (fun hHeld=> ?_);simp only [XN,XO,Y4,YQ,Nat.zero_add,Nat.reduceAdd]
 iterate 18 refine tz ?_
 refine tp 19 ?_;refine tp 20 ?_;refine tp 21 ?_;refine tp 22 ?_;refine tp 23 ?_;refine tp 24 ?_;refine rd 18 rfl (fun K hK=> ?_);go_simp;refine ck (Qy hd mk1 mk2 _) fun w9 hw9=> ?_;subst w9;refine hK.out _ _ hHeld (fun hHeld=> ?_);clear hK K
 (try simp only [Act.put,sA,sZ,sS])
 refine rd 25 rfl (fun K hK=> ?_);go_simp;refine ck (M5 (Zr hd mk1 mk2) mk2 _) fun w9 hw9=> ?_;subst w9;refine hK.out _ _ hHeld (fun hHeld=> ?_);clear hK K
 (try simp only [Act.put,sA,sZ,sS])
 refine tp 26 ?_;refine tp 27 ?_;refine wpAnyH_done (by kernel_rfl) ?_ _;refine ZK rfl rfl ?_;go_simp;clear hHeld x2 e7 c3 e1 m1 m2 s7 f7;go_wp2_with fail;replace kx:Hid (Blk ((W4.setCell ⟨g2,k*11+7,none⟩ (.int .i64 (YH (Zr hd mk1 mk2) mk2))).drew) xb 32 (S6 xa0 xp0 xa1 xp1 (some ⟨g2,0,none⟩) xp2 xa3 xp3 xa4 xp4 m)):=Z9 ((((uh kx).other (a:=⟨g2,k*11+7,none⟩) (by show xb ≠ g2;omega) (.int .i64 (YH (Zr hd mk1 mk2) mk2)))).below (Z1 _ _).drew ((uh kx).other (a:=⟨g2,k*11+7,none⟩) (by show xb ≠ g2;omega) (.int .i64 (YH (Zr hd mk1 mk2) mk2))).lt);replace ko:Hid (Blk ((W4.setCell ⟨g2,k*11+7,none⟩ (.int .i64 (YH (Zr hd mk1 mk2) mk2))).drew) ob 32 (S6 b0 q0 b1 q1 b2 q2 b3 q3 b4 q4 m)):=Z9 ((((uh ko).other (a:=⟨g2,k*11+7,none⟩) (by show ob ≠ g2;omega) (.int .i64 (YH (Zr hd mk1 mk2) mk2)))).below (Z1 _ _).drew ((uh ko).other (a:=⟨g2,k*11+7,none⟩) (by show ob ≠ g2;omega) (.int .i64 (YH (Zr hd mk1 mk2) mk2))).lt);replace kr:Hid (Blk ((W4.setCell ⟨g2,k*11+7,none⟩ (.int .i64 (YH (Zr hd mk1 mk2) mk2))).drew) (w.heap.size+1) 32 E6):=Z9 ((((uh kr).other (a:=⟨g2,k*11+7,none⟩) (by show (w.heap.size+1) ≠ g2;omega) (.int .i64 (YH (Zr hd mk1 mk2) mk2)))).below (Z1 _ _).drew ((uh kr).other (a:=⟨g2,k*11+7,none⟩) (by show (w.heap.size+1) ≠ g2;omega) (.int .i64 (YH (Zr hd mk1 mk2) mk2))).lt);replace HO:Hid (FullSmy (w.heap.size+2) ((W4.setCell ⟨g2,k*11+7,none⟩ (.int .i64 (YH (Zr hd mk1 mk2) mk2))).drew) (.slice b0 m.rm.length q0) (.slice b1 m.gd.length q1) (.slice b2 m.sm.length q2) (.slice b3 m.dk.length q3) (.slice b4 m.pc.length q4) m oq):=Z9 (((uh HO).set_off (fun k e=>by have:=(uh LO k e).2;omega) _ _).below (Z1 _ _).drew);replace HP:=Z9 ((uh HP).below (Z1 _ _).drew);replace BB:Hid (Below w.heap.size w ((W4.setCell ⟨g2,k*11+7,none⟩ (.int .i64 (YH (Zr hd mk1 mk2) mk2))).drew)):=Z9 ((uh BB).setCell (p:=⟨g2,k*11+7,none⟩) (by show w.heap.size<=g2;omega) (.int .i64 (YH (Zr hd mk1 mk2) mk2))).drew;clear kb Hv ks HY;generalize (W4.setCell ⟨g2,k*11+7,none⟩ (.int .i64 (YH (Zr hd mk1 mk2) mk2))).drew=W5 at *;have hofX:∀ k,We (.slice xa0 m.rm.length xp0) (.slice xa1 m.gd.length xp1) (.slice (some ⟨g2,0,none⟩) m.sm.length xp2) (.slice xa3 m.dk.length xp3) (.slice xa4 m.pc.length xp4) xq k->k ≠ xb:=fun k e=>by have:=(uh LX k e).2;omega
 refine (Mq (m:=setS m k (1,(bn:Int),rk,my,gu,lo,hi,(YH (Zr hd mk1 mk2) mk2),ca,ut,wk)) (k:=k) (uh kx) (uh HP) (fun e=>hofX _ (.inr (.inr (.inr (.inl e)))) rfl) (fun e=>hofX _ (.inr (.inr (.inr (.inr (.inl e))))) rfl) (by show k<(m.sm.set k _).length;simp;omega) (bb:Int)).mono ?_;rintro e w7 ⟨rfl,hf7,ht7⟩
 have hW:setS (setS m k (1,(bn:Int),rk,my,gu,lo,hi,(YH (Zr hd mk1 mk2) mk2),ca,ut,wk)) k (2,(bb:Int),(Z8 (setS m k (1,(bn:Int),rk,my,gu,lo,hi,(YH (Zr hd mk1 mk2) mk2),ca,ut,wk)).sm k).2.2)=RT m k (bb:Int):=by
  rw [Kp,uh Hwk];show setS m k (2,(bb:Int),(Z8 (m.sm.set k _) k).2.2)=_;rw [ZI hk,if_pos rfl]
 rw [hW] at hf7;replace kx:=Z9 ((uh kx).two ht7 (fun e=>hofX _ (.inr (.inr (.inr (.inl e)))) rfl) (fun e=>hofX _ (.inr (.inr (.inr (.inr (.inl e))))) rfl));replace ko:=Z9 ((uh ko).two ht7 (fun e=>by have:=(uh LX _ (.inr (.inr (.inr (.inl e))))).1;omega) (fun e=>by have:=(uh LX _ (.inr (.inr (.inr (.inr (.inl e)))))).1;omega));replace kr:=Z9 ((uh kr).two ht7 (fun e=>by have:=(uh LX _ (.inr (.inr (.inr (.inl e))))).1;omega) (fun e=>by have:=(uh LX _ (.inr (.inr (.inr (.inr (.inl e)))))).1;omega));replace HO:=Z9 ((uh HO).keep (fun k e0=>ht7.block k ((uh HO).own e0).2 (fun e=>by have:=(uh LX _ (.inr (.inr (.inr (.inl e))))).1;have:=(uh LO k e0).2;omega) (fun e=>by have:=(uh LX _ (.inr (.inr (.inr (.inr (.inl e)))))).1;have:=(uh LO k e0).2;omega)));replace BB:=Z9 ((uh BB).trans (ht7.below (uh BB).size (fun k e=>by have:=(uh LX k (.inr (.inr (.inr (.inl e))))).1;omega) (fun k e=>by have:=(uh LX k (.inr (.inr (.inr (.inr (.inl e)))))).1;omega)));replace HP:=Z9 hf7;clear hf7 ht7 hW hofX;obtain ⟨lb,hlb⟩:∃ q,Yy (RT m k (bb:Int))=q:=⟨_,rfl⟩
 have Hlb:=Z9 hlb;clear hlb;obtain ⟨z0,z1,z2,z3,z4,z5⟩:=(uh kx).c6;go_wp2_with fail;clear z0 z1 z2 z3 z4 z5;refine (Sr (m:=RT m k (bb:Int)) (uh HP).smy).mono ?_;rw [uh Hlb];rintro e w8 ⟨rfl,hb⟩;replace kx:=bl kx hb;replace ko:=bl ko hb;replace kr:=bl kr hb;replace HO:=Z9 ((uh HO).below hb);replace HP:=Z9 ((uh HP).below hb);replace BB:=bt BB hb;clear hb;cases lb
 ·
  obtain ⟨x0,x1,x2,x3,x4,x5⟩:=(uh ko).c6;obtain ⟨o0,o1,o2,o3,o4,o5⟩:=(uh kr).c6;obtain ⟨f0,f1,f2,f3,f4,f5⟩:=(uh kr).f6;go_wp2_with fail;have hX0:X=(m,4):=by rw [<-uh HX];unfold Tv;rw [uh Hok,uh Hqw];simp only [if_true,Zy];rw [if_pos (uh Hst),uh Hb,if_neg (by omega),uh Hlb];rfl
  exact ZQ (v:= .tuple #[.agg (S6 b0 q0 b1 q1 b2 q2 b3 q3 b4 q4 m),.int .i64 4]) (by simp [results,Tryz.results18,go_sem, *]) rfl (Za hX0 rfl (uh HO) (uh BB))
 have hfw:=uh HFew;go_wp2_with fail;refine (UR (m:=RT m k (bb:Int)) (uh kx) (uh HP) (fun k e=>by have:=(uh LX k e).2;omega) (uh kr) (uh BB) (by show (m.sm.set k _).length<=800;have:=hfw.sm;simp;omega) hfw.dk).mono ?_;clear kr BB;rintro e w9 ⟨rfl,HF9,kr,BB⟩;obtain ⟨o0,o1,o2,o3,o4,o5⟩:=(uh kr).c6;obtain ⟨f0,f1,f2,f3,f4,f5⟩:=(uh kr).f6;go_wp2_with fail;have hX0:X=(ZP (RT m k (bb:Int)),0):=by rw [<-uh HX];unfold Tv;rw [uh Hok,uh Hqw];simp only [if_true,Zy];rw [if_pos (uh Hst),uh Hb,if_neg (by omega),uh Hlb];rfl
 have hnow:(ZP (RT m k (bb:Int))).now=m.now:=(ZG _ _).2.2.2.1;exact ZQ (v:= .tuple #[.agg (S6 xa0 xp0 xa1 xp1 (some ⟨g2,0,none⟩) xp2 xa3 xp3 xa4 xp4 m),.int .i64 0]) (by simp [results,Tryz.results18,go_sem,setS,TH,Zk,pushS,RT, *]) rfl (Za hX0 hnow (uh HF9) (uh BB))
theorem Sane.setS (h:Sane m) {k:Nat} (hk:k<m.sm.length) (s:Z3) (h0:s.1 ≠ 0-> -1<=s.2.2.2.2.1/\s.2.2.2.2.1<m.gd.length):Sane (setS m k s):=by
 have hset:∀ i,Z8 (Proofs.YtamgfpdahadnfaaGreatDoor.setS m k s).sm i=if i=k then s else Z8 m.sm i:=fun i=>ZI hk i
 refine ⟨h.hall,h.dk,⟨h.guilded.gd,fun i hi hne=> ?_,fun i hi hne=> ?_⟩,by show (m.sm.set k s).length<=12;simpa using h.few⟩
 ·have hi':i<m.sm.length:=by simpa [Proofs.YtamgfpdahadnfaaGreatDoor.setS] using hi
  rw [hset] at hne ⊢;by_cases e:i=k
  ·rw [if_pos e] at hne ⊢;exact (h0 hne).1
  ·rw [if_neg e] at hne ⊢;exact h.guilded.lo i hi' hne
 ·have hi':i<m.sm.length:=by simpa [Proofs.YtamgfpdahadnfaaGreatDoor.setS] using hi
  rw [hset] at hne ⊢;by_cases e:i=k
  ·rw [if_pos e] at hne ⊢;exact (h0 hne).2
  ·rw [if_neg e] at hne ⊢;exact h.guilded.hi i hi' hne
theorem NN  (who:Int) (may:Int) (h:Smy w v0 v1 v2 v3 v4 m) :
  Calls Tryz.prog 27 #[.agg #[v0,v1,v2,v3,v4,.int .i64 m.now],.int .i64 who,.int .i64 may] w fun e w'=>Ty w.heap.size (Vz m who may).1 (Vz m who may).2 e w'/\Below w.heap.size w w':=by
 obtain ⟨X,hX⟩:∃ x,Vz m who may=x:=⟨_,rfl⟩
 rw [hX];have HX:=Z9 hX;clear hX;have Hv0:=Z9 h;obtain ⟨a0,p0,a1,p1,a2,p2,a3,p3,a4,p4,rfl,rfl,rfl,rfl,rfl,_,_,_,_,_,_,_,_,_,_⟩:=h.five;clear h;obtain ⟨ok,hok⟩:∃ q,ZF m=q:=⟨_,rfl⟩
 have Hok:=Z9 hok;clear hok;go_enter Tryz.func27,Tryz.ntmps27;go_wp2_with fail;obtain ⟨W,hW,kb,kr,BB⟩:=YB w 32 (S6 a0 p0 a1 p1 a2 p2 a3 p3 a4 p4 m) 32 E6;have Hv:=Z9 ((uh Hv0).below (uh BB));clear Hv0;rw [hW];clear hW;refine ck (Xx (uh Hok) (uh Hv)) fun w1 hb=> ?_;replace kb:=bl kb hb;replace kr:=bl kr hb;replace Hv:=Z9 ((uh Hv).below hb);replace BB:=bt BB hb;clear hb;cases ok
 ·
  obtain ⟨c0,c1,c2,c3,c4,c5⟩:=(uh kb).c6;go_wp2_with fail;clear c0 c1 c2 c3 c4 c5;refine ck (XT (uh Hv)) fun w2 hb=> ?_;replace kb:=bl kb hb;replace kr:=bl kr hb;replace Hv:=Z9 ((uh Hv).below hb);replace BB:=bt BB hb;clear hb;obtain ⟨o0,o1,o2,o3,o4,o5⟩:=(uh kr).c6;obtain ⟨f0,f1,f2,f3,f4,f5⟩:=(uh kr).f6;go_wp2_with fail;have hX0:X=(Yc,3):=by rw [<-uh HX];unfold Vz;rw [uh Hok];rfl
  exact ZQ (v:= .tuple #[.agg E6,.int .i64 3]) (by simp [results,Tryz.results27,go_sem, *]) rfl (Za hX0 rfl (Yq _ _) (uh BB))
 have hlo:=ZM (uh Hok);have HLo:=Z9 hlo;have HFew:=Z9 (WJ hlo);clear hlo;obtain ⟨c0,c1,c2,c3,c4,c5⟩:=(uh kb).c6;go_wp2_with fail;clear c0 c1 c2 c3 c4 c5;refine (T0 (uh Hv) (uh HFew) (uh kb) (uh kr) (uh BB)).mono ?_;clear kb kr Hv BB;rintro e w2 ⟨b0,q0,b1,q1,b2,q2,b3,q3,b4,q4,oq,rfl,W2,ob,hW2,hob2,kb,kr,Hv,HO,ko,LO,hob,BB⟩;go_upto_region 4 with fail
 (try rw [hW2])
 (try rw [hob2])
 clear hW2 hob2;obtain ⟨qw,hqw⟩:∃ q,TJ m who=q:=⟨_,rfl⟩
 have Hqw:=Z9 hqw;clear hqw;obtain ⟨c0,c1,c2,c3,c4,c5⟩:=(uh kb).c6;go_wp2_with fail;clear c0 c1 c2 c3 c4 c5;refine ck (Ue (uh Hqw) (uh Hv)) fun w3 hb=> ?_;replace kb:=bl kb hb;replace kr:=bl kr hb;replace Hv:=Z9 ((uh Hv).below hb);replace HO:=Z9 ((uh HO).below hb);replace ko:=bl ko hb;replace BB:=bt BB hb;clear hb;cases qw
 ·
  obtain ⟨x0,x1,x2,x3,x4,x5⟩:=(uh ko).c6;obtain ⟨o0,o1,o2,o3,o4,o5⟩:=(uh kr).c6;obtain ⟨f0,f1,f2,f3,f4,f5⟩:=(uh kr).f6;go_wp2_with fail;have hX0:X=(m,1):=by rw [<-uh HX];unfold Vz;rw [uh Hok,uh Hqw];rfl
  exact ZQ (v:= .tuple #[.agg (S6 b0 q0 b1 q1 b2 q2 b3 q3 b4 q4 m),.int .i64 1]) (by simp [results,Tryz.results27,go_sem, *]) rfl (Za hX0 rfl (uh HO) (uh BB))
 obtain ⟨k,rfl,hk,hs0⟩:=Wr (uh Hqw);have hk1:(k:Int)<(m.sm.length:Int):=by omega
 obtain ⟨pb,hpb⟩:∃ q,inB may 1 255=q:=⟨_,rfl⟩
 have Hpb:=Z9 hpb;clear hpb;go_wp2_with fail;refine (ZU _ _ _ _).mono ?_;rw [uh Hpb];rintro e w9 ⟨rfl,hw9⟩;subst w9;cases pb
 ·
  obtain ⟨x0,x1,x2,x3,x4,x5⟩:=(uh ko).c6;obtain ⟨o0,o1,o2,o3,o4,o5⟩:=(uh kr).c6;obtain ⟨f0,f1,f2,f3,f4,f5⟩:=(uh kr).f6;go_wp2_with fail;have hX0:X=(m,3):=by rw [<-uh HX];unfold Vz;rw [uh Hok,uh Hqw];simp only [if_true];rw [uh Hpb];rfl
  exact ZQ (v:= .tuple #[.agg (S6 b0 q0 b1 q1 b2 q2 b3 q3 b4 q4 m),.int .i64 3]) (by simp [results,Tryz.results27,go_sem, *]) rfl (Za hX0 rfl (uh HO) (uh BB))
 obtain ⟨c0,c1,c2,c3,c4,c5⟩:=(uh kb).c6;go_wp2_with fail;clear c0 c1 c2 c3 c4 c5;have hobw:=(uh ko).lt;refine (XL (uh Hv) (uh HFew)).mono ?_;rintro e w4 ⟨y0,y1,y2,y3,y4,xq,rfl,ho,hb⟩;have k9:=ho.smy;obtain ⟨xa0,xp0,xa1,xp1,xa2,xp2,xa3,xp3,xa4,xp4,rfl,rfl,rfl,rfl,rfl,_,_,_,_,_,_,_,_,_,_⟩:=k9.five;clear k9;replace kb:=bl kb hb;replace kr:=bl kr hb;replace Hv:=Z9 ((uh Hv).below hb);replace HO:=Z9 ((uh HO).below hb);replace ko:=bl ko hb;replace BB:=bt BB hb;have hszx:=hb.size;have HY:=Z9 (ho.mono (n₁:=w.heap.size+2) (by omega));have LX:Hid (∀ k,We (.slice xa0 m.rm.length xp0) (.slice xa1 m.gd.length xp1) (.slice xa2 m.sm.length xp2) (.slice xa3 m.dk.length xp3) (.slice xa4 m.pc.length xp4) xq k->ob+1<=k/\k<w4.heap.size):=Z9 (fun k e=>by have:=ho.own e;omega);have hxb:ob+1<=w4.heap.size:=by omega
 clear ho hb hobw hszx;go_upto_region 9 with fail;obtain ⟨W3,hW3,hba,kx⟩:=Yz w4 32 (S6 xa0 xp0 xa1 xp1 xa2 xp2 xa3 xp3 xa4 xp4 m);replace kb:=bl kb hba;replace kr:=bl kr hba;replace Hv:=Z9 ((uh Hv).below hba);replace HO:=Z9 ((uh HO).below hba);replace ko:=bl ko hba;replace HY:=Z9 ((uh HY).below hba);replace BB:=bt BB hba;clear hba;rw [hW3];clear hW3;generalize w4.heap.size=xb at *;obtain ⟨hA,bn,hbn,hbnl⟩:=P5 (uh HLo) hk hs0;obtain ⟨_,hgu,_⟩:=(uh HLo).limits hk hs0;have hgl:=(uh HLo).sane.guilded.lo k hk hs0;obtain ⟨hm0,hm1⟩:=ZJ (uh Hpb);have heig:=(uh HLo).sane.eight;have hbn7:(bn:Int)<=7:=by omega
 clear hA heig;obtain ⟨⟨st,be,rk,my,gu,lo,hi,hd,ca,ut,wk⟩,hrk⟩:∃ d,Z8 m.sm k=d:=⟨_,rfl⟩
 rw [hrk] at hbn hs0 hgu hgl;simp only at hbn hs0 hgu hgl;subst hbn;have hmx:XU m k may=setS m k (st,(bn:Int),rk,may,gu,lo,hi,hd,ca,ut,wk):=by unfold XU U7;rw [hrk]
 have HSx:Hid (Sane (XU m k may)):=Z9 (by rw [hmx];exact (uh HLo).sane.setS hk _ (fun _=>⟨hgl,hgu⟩));have hr1:Z8 (m.sm.set k (st,(bn:Int),rk,may,gu,lo,hi,hd,ca,ut,wk)) k=(st,(bn:Int),rk,may,gu,lo,hi,hd,ca,ut,wk):=by rw [ZI hk,if_pos rfl]
 have HAx:Hid (QG (XU m k may) k):=Z9 (by
  rw [hmx];refine ⟨by show k<(m.sm.set k _).length;simp;omega,?_,?_,?_⟩
  ·show (Z8 (m.sm.set k _) k).1 ≠ 0;rw [hr1];exact hs0
  ·show 0<=(Z8 (m.sm.set k _) k).2.2.2.1;rw [hr1];show (0:Int)<=may;omega
  ·show (Z8 (m.sm.set k _) k).2.2.2.1<=255;rw [hr1];exact hm1)
 have HLp:=Z9 (Tl (uh HLo));have Hrk:=Z9 hrk;have Hmx:=Z9 hmx;clear hrk hmx hgu hgl;obtain ⟨g2,hga,_,_,hc2,hz2⟩:=RecAt.view ZT (by omega) (uh HY).sm rfl (by omega);cases hga;have hg2o:=(uh LX g2 (.inr (.inr (.inr (.inl rfl)))))
 have x2:=(uh kx).cell (i:=2) (v:= .slice (some ⟨g2,0,none⟩) m.sm.length xp2) rfl;have s3:=hc2 k hk 3 _ rfl;have f3:=hz2 (k*11+3);have hput:=(uh HY).putS rfl (j:=k) (i:=3) hk (by omega) (.int .i64 may) (st,(bn:Int),rk,may,gu,lo,hi,hd,ca,ut,wk) (by rw [uh Hrk];rfl);have HP:=Z9 hput;clear hput hc2 hz2;go_upto_region 10 with fail;clear x2 s3 f3;replace kx:Hid (Blk (W3.setCell ⟨g2,k*11+3,none⟩ (.int .i64 may)) xb 32 (S6 xa0 xp0 xa1 xp1 (some ⟨g2,0,none⟩) xp2 xa3 xp3 xa4 xp4 m)):=Z9 ((uh kx).other (a:=⟨g2,k*11+3,none⟩) (by show xb ≠ g2;omega) (.int .i64 may));replace ko:Hid (Blk (W3.setCell ⟨g2,k*11+3,none⟩ (.int .i64 may)) ob 32 (S6 b0 q0 b1 q1 b2 q2 b3 q3 b4 q4 m)):=Z9 ((uh ko).other (a:=⟨g2,k*11+3,none⟩) (by show ob ≠ g2;omega) (.int .i64 may));replace kr:Hid (Blk (W3.setCell ⟨g2,k*11+3,none⟩ (.int .i64 may)) (w.heap.size+1) 32 E6):=Z9 ((uh kr).other (a:=⟨g2,k*11+3,none⟩) (by show (w.heap.size+1) ≠ g2;omega) (.int .i64 may));replace HO:Hid (FullSmy (w.heap.size+2) (W3.setCell ⟨g2,k*11+3,none⟩ (.int .i64 may)) (.slice b0 m.rm.length q0) (.slice b1 m.gd.length q1) (.slice b2 m.sm.length q2) (.slice b3 m.dk.length q3) (.slice b4 m.pc.length q4) m oq):=Z9 ((uh HO).set_off (fun k e=>by have:=(uh LO k e).2;omega) _ _);replace BB:Hid (Below w.heap.size w (W3.setCell ⟨g2,k*11+3,none⟩ (.int .i64 may))):=Z9 ((uh BB).setCell (p:=⟨g2,k*11+3,none⟩) (by show w.heap.size<=g2;omega) (.int .i64 may));clear kb Hv HY;generalize W3.setCell ⟨g2,k*11+3,none⟩ (.int .i64 may)=W4 at *;have hl1:(m.sm.set k (st,(bn:Int),rk,may,gu,lo,hi,hd,ca,ut,wk)).length=m.sm.length:=by simp
 obtain ⟨_,hga,_,_,hc4,_⟩:=RecAt.view ZT (by omega) (uh HP).sm hl1.symm (by show 0<(m.sm.set k _).length;omega);cases hga;have x2:=(uh kx).cell (i:=2) (v:= .slice (some ⟨g2,0,none⟩) m.sm.length xp2) rfl;have s0:=hc4 k (by show k<(m.sm.set k _).length;omega) 0 (.int .i64 st) (by show (ZV (Z8 (m.sm.set k (st,(bn:Int),rk,may,gu,lo,hi,hd,ca,ut,wk)) k))[0]?=_;rw [hr1];rfl);have s1:=hc4 k (by show k<(m.sm.set k _).length;omega) 1 (.int .i64 (bn:Int)) (by show (ZV (Z8 (m.sm.set k (st,(bn:Int),rk,may,gu,lo,hi,hd,ca,ut,wk)) k))[1]?=_;rw [hr1];rfl);have s2:=hc4 k (by show k<(m.sm.set k _).length;omega) 2 (.int .i64 rk) (by show (ZV (Z8 (m.sm.set k (st,(bn:Int),rk,may,gu,lo,hi,hd,ca,ut,wk)) k))[2]?=_;rw [hr1];rfl);have s3:=hc4 k (by show k<(m.sm.set k _).length;omega) 3 (.int .i64 may) (by show (ZV (Z8 (m.sm.set k (st,(bn:Int),rk,may,gu,lo,hi,hd,ca,ut,wk)) k))[3]?=_;rw [hr1];rfl);have s4:=hc4 k (by show k<(m.sm.set k _).length;omega) 4 (.int .i64 gu) (by show (ZV (Z8 (m.sm.set k (st,(bn:Int),rk,may,gu,lo,hi,hd,ca,ut,wk)) k))[4]?=_;rw [hr1];rfl);have s5:=hc4 k (by show k<(m.sm.set k _).length;omega) 5 (.int .i64 lo) (by show (ZV (Z8 (m.sm.set k (st,(bn:Int),rk,may,gu,lo,hi,hd,ca,ut,wk)) k))[5]?=_;rw [hr1];rfl);have s6:=hc4 k (by show k<(m.sm.set k _).length;omega) 6 (.int .i64 hi) (by show (ZV (Z8 (m.sm.set k (st,(bn:Int),rk,may,gu,lo,hi,hd,ca,ut,wk)) k))[6]?=_;rw [hr1];rfl);have s7:=hc4 k (by show k<(m.sm.set k _).length;omega) 7 (.int .i64 hd) (by show (ZV (Z8 (m.sm.set k (st,(bn:Int),rk,may,gu,lo,hi,hd,ca,ut,wk)) k))[7]?=_;rw [hr1];rfl);have s8:=hc4 k (by show k<(m.sm.set k _).length;omega) 8 (.int .i64 ca) (by show (ZV (Z8 (m.sm.set k (st,(bn:Int),rk,may,gu,lo,hi,hd,ca,ut,wk)) k))[8]?=_;rw [hr1];rfl);have s9:=hc4 k (by show k<(m.sm.set k _).length;omega) 9 (.int .i64 ut) (by show (ZV (Z8 (m.sm.set k (st,(bn:Int),rk,may,gu,lo,hi,hd,ca,ut,wk)) k))[9]?=_;rw [hr1];rfl);have s10:=hc4 k (by show k<(m.sm.set k _).length;omega) 10 (.int .i64 wk) (by show (ZV (Z8 (m.sm.set k (st,(bn:Int),rk,may,gu,lo,hi,hd,ca,ut,wk)) k))[10]?=_;rw [hr1];rfl);simp only [Nat.add_zero] at s0;clear hc4 hl1;go_upto_region 11 with fail;clear x2 s0 s1 s2 s3 s4 s5 s6 s7 s8 s9 s10;obtain ⟨W5,hW5,hba,ks⟩:=Yz W4 40 (I11 st (bn:Int) rk may gu lo hi hd ca ut wk);replace HP:Hid (FullSmy (w.heap.size+2) W4 (.slice xa0 m.rm.length xp0) (.slice xa1 m.gd.length xp1) (.slice (some ⟨g2,0,none⟩) m.sm.length xp2) (.slice xa3 m.dk.length xp3) (.slice xa4 m.pc.length xp4) (XU m k may) xq):=Z9 (by rw [uh Hmx];exact uh HP);replace kx:=bl kx hba;replace ko:=bl ko hba;replace kr:=bl kr hba;replace HO:=Z9 ((uh HO).below hba);replace HP:=Z9 ((uh HP).below hba);replace BB:=bt BB hba;clear hba;rw [hW5];clear hW5;generalize W4.heap.size=sv at *;obtain ⟨ps,hps⟩:∃ q,ZR (st,(bn:Int),rk,may,gu,lo,hi,hd,ca,ut,wk)=q:=⟨_,rfl⟩
 have Hpt:=Z9 hps;have Hp0:Hid (ZR (Z8 m.sm k)=ps):=Z9 (by rw [uh Hrk];exact hps);clear hps;obtain ⟨e0,e1,e2,e3,e4,e5,e6,e7,e8,e9,e10⟩:=(uh ks).c11;go_wp2_with fail;clear e0 e1 e2 e3 e4 e5 e6 e7 e8 e9 e10;refine ck (Yt (uh Hpt) _) fun w5 hb=> ?_;replace kx:=bl kx hb;replace ko:=bl ko hb;replace kr:=bl kr hb;replace HO:=Z9 ((uh HO).below hb);replace HP:=Z9 ((uh HP).below hb);replace ks:=bl ks hb;replace BB:=bt BB hb;clear hb;have hfw:=uh HFew;cases ps
 ·
  go_wp2_with fail;refine (UR (m:=XU m k may) (uh kx) (uh HP) (fun k e=>by have:=(uh LX k e).2;omega) (uh kr) (uh BB) (by show (m.sm.set k _).length<=800;have:=hfw.sm;simp;omega) hfw.dk).mono ?_;clear kr BB;rintro e w6 ⟨rfl,HF9,kr,BB⟩;obtain ⟨o0,o1,o2,o3,o4,o5⟩:=(uh kr).c6;obtain ⟨f0,f1,f2,f3,f4,f5⟩:=(uh kr).f6;go_wp2_with fail;have hX0:X=(ZP (XU m k may),0):=by rw [<-uh HX];unfold Vz;rw [uh Hok,uh Hqw];simp only [if_true,Zy];rw [uh Hpb];simp only [if_true];rw [uh Hp0];rfl
  have hnow:(ZP (XU m k may)).now=m.now:=(ZG _ _).2.2.2.1;exact ZQ (v:= .tuple #[.agg (S6 xa0 xp0 xa1 xp1 (some ⟨g2,0,none⟩) xp2 xa3 xp3 xa4 xp4 m),.int .i64 0]) (by simp [results,Tryz.results27,go_sem,setS,TH,Zk,pushS,XU, *]) rfl (Za hX0 hnow (uh HF9) (uh BB))
 obtain ⟨q2,hq2⟩:∃ q,V0 may (bn:Int)=q:=⟨_,rfl⟩
 have Hq2:=Z9 hq2;have Hq0:Hid (V0 may (Z8 m.sm k).2.1=q2):=Z9 (by rw [uh Hrk];exact hq2);clear hq2;have e1:=(uh ks).cell (i:=1) (v:= .int .i64 (bn:Int)) rfl;go_wp2_with fail;clear e1;refine ck (Pv (uh Hq2) (by omega) hm1 (by omega) hbn7 _) fun w6 hb=> ?_;replace kx:=bl kx hb;replace ko:=bl ko hb;replace kr:=bl kr hb;replace HO:=Z9 ((uh HO).below hb);replace HP:=Z9 ((uh HP).below hb);replace ks:=bl ks hb;replace BB:=bt BB hb;clear hb;cases q2;rotate_left
 ·
  go_wp2_with fail;refine (UR (m:=XU m k may) (uh kx) (uh HP) (fun k e=>by have:=(uh LX k e).2;omega) (uh kr) (uh BB) (by show (m.sm.set k _).length<=800;have:=hfw.sm;simp;omega) hfw.dk).mono ?_;clear kr BB;rintro e w7 ⟨rfl,HF9,kr,BB⟩;obtain ⟨o0,o1,o2,o3,o4,o5⟩:=(uh kr).c6;obtain ⟨f0,f1,f2,f3,f4,f5⟩:=(uh kr).f6;go_wp2_with fail;have hX0:X=(ZP (XU m k may),0):=by rw [<-uh HX];unfold Vz;rw [uh Hok,uh Hqw];simp only [if_true,Zy];rw [uh Hpb];simp only [if_true];rw [uh Hp0,uh Hq0];rfl
  have hnow:(ZP (XU m k may)).now=m.now:=(ZG _ _).2.2.2.1;exact ZQ (v:= .tuple #[.agg (S6 xa0 xp0 xa1 xp1 (some ⟨g2,0,none⟩) xp2 xa3 xp3 xa4 xp4 m),.int .i64 0]) (by simp [results,Tryz.results27,go_sem,setS,TH,Zk,pushS,XU, *]) rfl (Za hX0 hnow (uh HF9) (uh BB))
 obtain ⟨b,hb⟩:∃ q,Y1 (XU m k may) (k:Int)=q:=⟨_,rfl⟩
 have Hb:=Z9 hb;clear hb;obtain ⟨z0,z1,z2,z3,z4,z5⟩:=(uh kx).c6;go_wp2_with fail;clear z0 z1 z2 z3 z4 z5;refine (V8 (m:=XU m k may) (who:=k) (uh HP).smy (uh HSx) (uh HLp) (uh HAx)).mono ?_;rw [uh Hb];rintro e w7 ⟨rfl,hb⟩;replace kx:=bl kx hb;replace ko:=bl ko hb;replace kr:=bl kr hb;replace HO:=Z9 ((uh HO).below hb);replace HP:=Z9 ((uh HP).below hb);replace ks:=bl ks hb;replace BB:=bt BB hb;clear hb;by_cases hbn:b<0
 ·
  obtain ⟨x0,x1,x2,x3,x4,x5⟩:=(uh ko).c6;obtain ⟨o0,o1,o2,o3,o4,o5⟩:=(uh kr).c6;obtain ⟨f0,f1,f2,f3,f4,f5⟩:=(uh kr).f6;go_wp2_with fail;have hX0:X=(m,2):=by rw [<-uh HX];unfold Vz;rw [uh Hok,uh Hqw];simp only [if_true,Zy];rw [uh Hpb];simp only [if_true];rw [uh Hp0,uh Hq0];simp only [Bool.not_false,Bool.and_self,if_true];rw [uh Hb,if_pos hbn]
  exact ZQ (v:= .tuple #[.agg (S6 b0 q0 b1 q1 b2 q2 b3 q3 b4 q4 m),.int .i64 2]) (by simp [results,Tryz.results27,go_sem, *]) rfl (Za hX0 rfl (uh HO) (uh BB))
 obtain ⟨bb,hbb,rfl⟩:∃ bb:Nat,bb<m.dk.length/\b=(bb:Int):=by
  rcases VR (XU m k may) (k:Int) with ⟨e,_⟩ | ⟨bb,hbl,e,_⟩
  ·rw [uh Hb] at e;omega
  ·exact ⟨bb,hbl,(uh Hb).symm.trans e⟩
 have hat:Z8 (XU m k may).sm k=U7 (Z8 m.sm k) may:=by
  show Z8 (m.sm.set k _) k=_;rw [ZI hk,if_pos rfl]
 go_wp2_with fail;have hofX:∀ k,We (.slice xa0 m.rm.length xp0) (.slice xa1 m.gd.length xp1) (.slice (some ⟨g2,0,none⟩) m.sm.length xp2) (.slice xa3 m.dk.length xp3) (.slice xa4 m.pc.length xp4) xq k->k ≠ xb:=fun k e=>by have:=(uh LX k e).2;omega
 refine (Uf (m:=XU m k may) (k:=k) (bn:=bn) (b:=bb) (uh kx) (uh HP) (fun e=>hofX _ (.inr (.inr (.inr (.inl e)))) rfl) (fun e=>hofX _ (.inr (.inr (.inr (.inr (.inl e))))) rfl) (by show k<(m.sm.set k _).length;simp;omega) (by rw [hat,uh Hrk];rfl) hbnl hbb).mono ?_;rintro e w7 ⟨rfl,hf7,ht7⟩;rw [hat] at hf7;replace kx:=Z9 ((uh kx).two ht7 (fun e=>hofX _ (.inr (.inr (.inr (.inl e)))) rfl) (fun e=>hofX _ (.inr (.inr (.inr (.inr (.inl e))))) rfl));replace kr:=Z9 ((uh kr).two ht7 (fun e=>by have:=(uh LX _ (.inr (.inr (.inr (.inl e))))).1;omega) (fun e=>by have:=(uh LX _ (.inr (.inr (.inr (.inr (.inl e)))))).1;omega));replace BB:=Z9 ((uh BB).trans (ht7.below (uh BB).size (fun k e=>by have:=(uh LX k (.inr (.inr (.inr (.inl e))))).1;omega) (fun k e=>by have:=(uh LX k (.inr (.inr (.inr (.inr (.inl e)))))).1;omega)));replace HP:=Z9 hf7;clear hf7 ht7 hat hofX HO ko ks;go_wp2_with fail;refine (UR (m:=setS (XU m k may) k (putS (XU m k may) (U7 (Z8 m.sm k) may) (bb:Int))) (uh kx) (uh HP) (fun k e=>by have:=(uh LX k e).2;omega) (uh kr) (uh BB) (by show ((m.sm.set k _).set k _).length<=800;have:=hfw.sm;simp;omega) hfw.dk).mono ?_;clear kr BB;rintro e w9 ⟨rfl,HF9,kr,BB⟩;obtain ⟨o0,o1,o2,o3,o4,o5⟩:=(uh kr).c6;obtain ⟨f0,f1,f2,f3,f4,f5⟩:=(uh kr).f6;go_wp2_with fail;have hX0:X=(ZP (setS (XU m k may) k (putS (XU m k may) (U7 (Z8 m.sm k) may) (bb:Int))),0):=by rw [<-uh HX];unfold Vz;rw [uh Hok,uh Hqw];simp only [if_true,Zy];rw [uh Hpb];simp only [if_true];rw [uh Hp0,uh Hq0];simp only [Bool.not_false,Bool.and_self,if_true];rw [uh Hb,if_neg (by omega)]
 have hnow:(ZP (setS (XU m k may) k (putS (XU m k may) (U7 (Z8 m.sm k) may) (bb:Int)))).now=m.now:=(ZG _ _).2.2.2.1;exact ZQ (v:= .tuple #[.agg (S6 xa0 xp0 xa1 xp1 (some ⟨g2,0,none⟩) xp2 xa3 xp3 xa4 xp4 m),.int .i64 0]) (by simp [results,Tryz.results27,go_sem,setS,TH,Zk,pushS,XU, *]) rfl (Za hX0 hnow (uh HF9) (uh BB))
end Go.Proofs.YtamgfpdahadnfaaGreatDoor
