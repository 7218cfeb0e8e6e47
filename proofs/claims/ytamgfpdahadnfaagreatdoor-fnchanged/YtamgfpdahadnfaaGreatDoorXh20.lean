/- Part 20 of what the proof rests on. No condition but those that a theorem names. -/
import Derived.Test.YtamgfpdahadnfaaGreatDoorXh21
import Derived.Test.YtamgfpdahadnfaaGreatDoorXh19
import Derived.LaidMore
import Derived.Stop.Joined
import Derived.Stop.LaidErr
import Derived.Stop.LaidTwo
import Derived.LaidSub
import Derived.LaidHandle
set_option maxHeartbeats 8000000
set_option maxRecDepth 100000
namespace Go.Proofs.YtamgfpdahadnfaaGreatDoor
open Go.ChangeShapes Go.WideShapes Go.ChangeAt Go.RowKit Go.Sort
open Draw (St Off Row Cur)
set_option linter.unusedVariables false
set_option linter.unusedSimpArgs false
set_option maxRecDepth 100000
theorem Uk (a:Option Addr) (len cap bc:Nat) (a0 a1 a2 a3 a4:Option Addr) (n0 n1 n2 n3 n4 p0 p1 p2 p3 p4:Nat) (now:Int) (hn:n2<=1000000) (w:World) (hs:St a len cap bc w) :
  Calls Tryz.prog 61 #[.pointer (some ⟨bc,0,none⟩),.agg #[.slice a0 n0 p0,.slice a1 n1 p1,.slice a2 n2 p2,.slice a3 n3 p3,.slice a4 n4 p4,.int .i64 now]] w fun e w'=> ∃ x:Int,e= .returned (.int .i64 x)/\St a len cap bc w'/\Off bc w w':=by
 have Hs:=Z9 hs;have hbc:=WS hs;clear hs;go_enter Tryz.func61,Tryz.ntmps61;go_upto_region 1 with fail;have kb:Hid (Blk (w.alloc (.cells #[.slice a0 n0 p0,.slice a1 n1 p1,.slice a2 n2 p2,.slice a3 n3 p3,.slice a4 n4 p4,.int .i64 now] 32)) w.heap.size 32 #[.slice a0 n0 p0,.slice a1 n1 p1,.slice a2 n2 p2,.slice a3 n3 p3,.slice a4 n4 p4,.int .i64 now]):=Z9 (Blk.new _ _ _);have HO:Hid (Off bc w (w.alloc (.cells #[.slice a0 n0 p0,.slice a1 n1 p1,.slice a2 n2 p2,.slice a3 n3 p3,.slice a4 n4 p4,.int .i64 now] 32))):=Z9 ((Off.refl _ _).alloc _);replace Hs:Hid (St a len cap bc (w.alloc (.cells #[.slice a0 n0 p0,.slice a1 n1 p1,.slice a2 n2 p2,.slice a3 n3 p3,.slice a4 n4 p4,.int .i64 now] 32))):=Z9 ((uh Hs).alloc _);generalize w.alloc (.cells #[.slice a0 n0 p0,.slice a1 n1 p1,.slice a2 n2 p2,.slice a3 n3 p3,.slice a4 n4 p4,.int .i64 now] 32)=W at *;go_wp2_with fail;refine (Draw.once_any a len cap bc 10 (by omega) (by omega) _ (uh Hs)).mono ?_;rintro e w1 ⟨bq,rfl,s9,p9⟩;replace kb:=Z9 ((uh kb).away p9 (by omega));replace HO:=Z9 ((uh HO).trans p9);replace Hs:=Z9 s9;clear s9 p9;have x:=(uh kb).cell (i:=2) (v:= .slice a2 n2 p2) rfl;cases bq
 ·
  go_wp2_with fail;refine ck (Th 1 (n2:Int) _) fun wz hwz=> ?_;subst wz;obtain ⟨mx,hmx⟩:∃ q,q=max 1 (n2:Int):=⟨_,rfl⟩
  rw [<-hmx];have hm0:0<mx:=by omega
  have hm1:mx<=1000001:=by omega
  clear hmx x;go_wp2_with fail;refine (Draw.below_any a len cap bc mx hm0 (by omega) _ (uh Hs)).mono ?_;rintro e w2 ⟨v,rfl,v0,v1,s9,p9⟩;have HO2:=Z9 ((uh HO).trans p9);have Hs2:=Z9 s9;clear s9 p9;go_wp2_with fail;go_ret;exact ⟨_,rfl,uh Hs2,uh HO2⟩
 go_wp2_with fail;refine ZP (S:=fun w'=>w'.cell? ⟨w.heap.size,2,none⟩=some (.slice a2 n2 p2)) (by kernel_rfl) (Xs _ _) (by kernel_rfl) x (fun hHeld=> ?_);simp only [Xt,Xu,YT,YM,Nat.zero_add,Nat.reduceAdd]
 iterate 2 refine tz ?_
 refine tp 4 ?_;replace kb:=Z9 ((uh kb).below (Z1 _ _).drew (uh kb).lt);replace HO:=Z9 ((uh HO).trans (VQ (Z1 _ _).drew));replace Hs:=Z9 (Q8 (uh Hs));clear x;generalize w1.drew=X0 at *;refine wpAnyH_ready (rs:=[2,5]) (by kernel_rfl) (by simp) ?_;refine AllReadyH.cons rfl (fun K hK=> ?_) (AllReadyH.cons rfl (fun K hK=> ?_) AllReadyH.nil)
 ·
  go_simp;refine hK.out _ _ ((uh kb).cell (i:=2) rfl) (fun hHeld=> ?_);clear hK K
  (try simp only [Act.put,sA,sZ,sS])
  refine wpAnyH_ready (rs:=[3,5]) (by kernel_rfl) (by simp) ?_;refine AllReadyH.cons rfl (fun K hK=> ?_) (AllReadyH.cons rfl (fun K hK=> ?_) AllReadyH.nil)
  ·
   go_simp;have hlb:X0.heap.size ≠ bc:=by have:=(uh HO).size;omega
   obtain ⟨Wp,hWp,hba,KL⟩:=YF X0 2 #[.int .i64 (-1),.int .i64 (n2:Int)];replace kb:=bl kb hba;replace HO:=Z9 ((uh HO).trans (VQ hba));replace Hs:=Z9 ((uh Hs).alloc (.cells #[.int .i64 (-1),.int .i64 (n2:Int)] 2));rw [hWp];refine hK.out _ _ ((uh kb).cell (i:=2) rfl) (fun hHeld=> ?_);clear hK K
   (try simp only [Act.put,sA,sZ,sS])
   clear hba
   (try rw [hWp] at Hs);clear hWp
   generalize X0.heap.size=lb at *;refine rd 5 rfl (fun K hK=> ?_);go_simp;refine (Draw.below_any a len cap bc 2 (by omega) (by omega) _ (uh Hs)).mono ?_;rintro e9 w5 ⟨v5,rfl,v50,v51,s9,p9⟩;replace KL:=Z9 ((uh KL).away p9 hlb);replace kb:=Z9 ((uh kb).away p9 (by omega));replace HO:=Z9 ((uh HO).trans p9);replace Hs:=Z9 s9;clear s9 p9;refine hK.out _ _ ((uh kb).cell (i:=2) rfl) (fun hHeld=> ?_);clear hK K
   (try simp only [Act.put,sA,sZ,sS])
   have l0:=(uh KL).cell (i:=0) (v:= .int .i64 (-1)) rfl;have l1:=(uh KL).cell (i:=1) (v:= .int .i64 (n2:Int)) rfl
   rcases (show v5=0\/v5=1 by omega) with rfl | rfl
   ·
    refine tp 6 ?_;refine rd 7 rfl (fun K hK=> ?_);go_simp;refine hK.out _ _ ((uh kb).cell (i:=2) rfl) (fun hHeld=> ?_);clear hK K
    (try simp only [Act.put,sA,sZ,sS])
    refine wpAnyH_done (by kernel_rfl) ?_ _;refine ZF rfl rfl ?_;go_simp;clear hHeld;go_wp2_with fail;go_ret;exact ⟨_,rfl,uh Hs,uh HO⟩
   ·
    refine tp 6 ?_;refine rd 7 rfl (fun K hK=> ?_);go_simp;refine hK.out _ _ ((uh kb).cell (i:=2) rfl) (fun hHeld=> ?_);clear hK K
    (try simp only [Act.put,sA,sZ,sS])
    refine wpAnyH_done (by kernel_rfl) ?_ _;refine ZF rfl rfl ?_;go_simp;clear hHeld;go_wp2_with fail;go_ret;exact ⟨_,rfl,uh Hs,uh HO⟩
  ·
   go_simp;refine (Draw.below_any a len cap bc 2 (by omega) (by omega) _ (uh Hs)).mono ?_;rintro e9 w5 ⟨v5,rfl,v50,v51,s9,p9⟩;replace kb:=Z9 ((uh kb).away p9 (by omega));replace HO:=Z9 ((uh HO).trans p9);replace Hs:=Z9 s9;clear s9 p9;refine hK.out _ _ ((uh kb).cell (i:=2) rfl) (fun hHeld=> ?_);clear hK K
   (try simp only [Act.put,sA,sZ,sS])
   refine rd 3 rfl (fun K hK=> ?_);go_simp;have hlb:w5.heap.size ≠ bc:=by have:=(uh HO).size;omega
   obtain ⟨Wp,hWp,hba,KL⟩:=YF w5 2 #[.int .i64 (-1),.int .i64 (n2:Int)];replace kb:=bl kb hba;replace HO:=Z9 ((uh HO).trans (VQ hba));replace Hs:=Z9 ((uh Hs).alloc (.cells #[.int .i64 (-1),.int .i64 (n2:Int)] 2));rw [hWp];refine hK.out _ _ ((uh kb).cell (i:=2) rfl) (fun hHeld=> ?_);clear hK K
   (try simp only [Act.put,sA,sZ,sS])
   clear hba
   (try rw [hWp] at Hs);clear hWp
   generalize w5.heap.size=lb at *;have l0:=(uh KL).cell (i:=0) (v:= .int .i64 (-1)) rfl;have l1:=(uh KL).cell (i:=1) (v:= .int .i64 (n2:Int)) rfl
   rcases (show v5=0\/v5=1 by omega) with rfl | rfl
   ·
    refine tp 6 ?_;refine rd 7 rfl (fun K hK=> ?_);go_simp;refine hK.out _ _ ((uh kb).cell (i:=2) rfl) (fun hHeld=> ?_);clear hK K
    (try simp only [Act.put,sA,sZ,sS])
    refine wpAnyH_done (by kernel_rfl) ?_ _;refine ZF rfl rfl ?_;go_simp;clear hHeld;go_wp2_with fail;go_ret;exact ⟨_,rfl,uh Hs,uh HO⟩
   ·
    refine tp 6 ?_;refine rd 7 rfl (fun K hK=> ?_);go_simp;refine hK.out _ _ ((uh kb).cell (i:=2) rfl) (fun hHeld=> ?_);clear hK K
    (try simp only [Act.put,sA,sZ,sS])
    refine wpAnyH_done (by kernel_rfl) ?_ _;refine ZF rfl rfl ?_;go_simp;clear hHeld;go_wp2_with fail;go_ret;exact ⟨_,rfl,uh Hs,uh HO⟩
 ·
  go_simp;refine (Draw.below_any a len cap bc 2 (by omega) (by omega) _ (uh Hs)).mono ?_;rintro e9 w5 ⟨v5,rfl,v50,v51,s9,p9⟩;replace kb:=Z9 ((uh kb).away p9 (by omega));replace HO:=Z9 ((uh HO).trans p9);replace Hs:=Z9 s9;clear s9 p9;refine hK.out _ _ ((uh kb).cell (i:=2) rfl) (fun hHeld=> ?_);clear hK K
  (try simp only [Act.put,sA,sZ,sS])
  refine rd 2 rfl (fun K hK=> ?_);go_simp;refine hK.out _ _ ((uh kb).cell (i:=2) rfl) (fun hHeld=> ?_);clear hK K
  (try simp only [Act.put,sA,sZ,sS])
  refine rd 3 rfl (fun K hK=> ?_);go_simp;have hlb:w5.heap.size ≠ bc:=by have:=(uh HO).size;omega
  obtain ⟨Wp,hWp,hba,KL⟩:=YF w5 2 #[.int .i64 (-1),.int .i64 (n2:Int)];replace kb:=bl kb hba;replace HO:=Z9 ((uh HO).trans (VQ hba));replace Hs:=Z9 ((uh Hs).alloc (.cells #[.int .i64 (-1),.int .i64 (n2:Int)] 2));rw [hWp];refine hK.out _ _ ((uh kb).cell (i:=2) rfl) (fun hHeld=> ?_);clear hK K
  (try simp only [Act.put,sA,sZ,sS])
  clear hba
  (try rw [hWp] at Hs);clear hWp
  generalize w5.heap.size=lb at *;have l0:=(uh KL).cell (i:=0) (v:= .int .i64 (-1)) rfl;have l1:=(uh KL).cell (i:=1) (v:= .int .i64 (n2:Int)) rfl
  rcases (show v5=0\/v5=1 by omega) with rfl | rfl
  ·
   refine tp 6 ?_;refine rd 7 rfl (fun K hK=> ?_);go_simp;refine hK.out _ _ ((uh kb).cell (i:=2) rfl) (fun hHeld=> ?_);clear hK K
   (try simp only [Act.put,sA,sZ,sS])
   refine wpAnyH_done (by kernel_rfl) ?_ _;refine ZF rfl rfl ?_;go_simp;clear hHeld;go_wp2_with fail;go_ret;exact ⟨_,rfl,uh Hs,uh HO⟩
  ·
   refine tp 6 ?_;refine rd 7 rfl (fun K hK=> ?_);go_simp;refine hK.out _ _ ((uh kb).cell (i:=2) rfl) (fun hHeld=> ?_);clear hK K
   (try simp only [Act.put,sA,sZ,sS])
   refine wpAnyH_done (by kernel_rfl) ?_ _;refine ZF rfl rfl ?_;go_simp;clear hHeld;go_wp2_with fail;go_ret;exact ⟨_,rfl,uh Hs,uh HO⟩
set_option maxRecDepth 100000
structure Wbox (a:Option Addr) (len cap cb rb mb:Nat) (w W:World) (M:Z6) (u0 u1 u2 u3 u4:Value) (rq:List (ZZ × Value)):Prop where
 st:St a len cap cb W
 kr:Blk W rb 32 E6
 km:Blk W mb 32 #[u0,u1,u2,u3,u4,.int .i64 M.now]
 full:FullSmy (cb+1) W u0 u1 u2 u3 u4 M rq
 bb:Below w.heap.size w W
 lr:rb<cb
 lm:cb<mb
 rw:w.heap.size<=rb
section
variable {a : Option Addr} {len cap cb rb mb : Nat} {w W X : World} {M : Z6} {u0 u1 u2 u3 u4 : Value} {rq : List (ZZ × Value)}
theorem Wbox.step (h:Wbox a len cap cb rb mb w W M u0 u1 u2 u3 u4 rq) (s:St a len cap cb X) (p:Off cb W X):Wbox a len cap cb rb mb w X M u0 u1 u2 u3 u4 rq:=
 ⟨s,h.kr.away p (by have:=h.lr;omega),h.km.away p (by have:=h.lm;omega),h.full.away p (Nat.lt_succ_self _),h.bb.trans (p.below (by have:=h.lr;have:=h.rw;omega) h.bb.size),h.lr,h.lm,h.rw⟩
theorem Wbox.below (h:Wbox a len cap cb rb mb w W M u0 u1 u2 u3 u4 rq) (hb:Below W.heap.size W X):Wbox a len cap cb rb mb w X M u0 u1 u2 u3 u4 rq:=
 ⟨XA h.st (hb.mono (WS h.st)),h.kr.below hb h.kr.lt,h.km.below hb h.km.lt,h.full.below hb,h.bb.trans (hb.mono h.bb.size),h.lr,h.lm,h.rw⟩
theorem Wbox.drew (h:Wbox a len cap cb rb mb w W M u0 u1 u2 u3 u4 rq):Wbox a len cap cb rb mb w W.drew M u0 u1 u2 u3 u4 rq:=h.below (Z1 _ _).drew
theorem Wbox.end (h:Wbox a len cap cb rb mb w W M u0 u1 u2 u3 u4 rq) (x0 x1 x2 x3 x4 x5:Value):FullSmy (w.heap.size+1) ((((((W.setCell ⟨rb,0,none⟩ x0).setCell ⟨rb,1,none⟩ x1).setCell ⟨rb,2,none⟩ x2).setCell ⟨rb,3,none⟩ x3).setCell ⟨rb,4,none⟩ x4).setCell ⟨rb,5,none⟩ x5) u0 u1 u2 u3 u4 M rq/\Below w.heap.size w ((((((W.setCell ⟨rb,0,none⟩ x0).setCell ⟨rb,1,none⟩ x1).setCell ⟨rb,2,none⟩ x2).setCell ⟨rb,3,none⟩ x3).setCell ⟨rb,4,none⟩ x4).setCell ⟨rb,5,none⟩ x5)/\Blk ((((((W.setCell ⟨rb,0,none⟩ x0).setCell ⟨rb,1,none⟩ x1).setCell ⟨rb,2,none⟩ x2).setCell ⟨rb,3,none⟩ x3).setCell ⟨rb,4,none⟩ x4).setCell ⟨rb,5,none⟩ x5) mb 32 #[u0,u1,u2,u3,u4,.int .i64 M.now]:=by
 have h1:=h.lr;have h2:=h.lm;have h3:=h.rw;refine ⟨?_,?_,?_⟩
 ·refine FullSmy.mono (n₀:=cb+1) ?_ (by omega)
  iterate 6 (refine FullSmy.set_off ?_ (fun k e=>by have:=(h.full.own e).1;omega) _ _)
  exact h.full
 ·iterate 6 (refine YS ?_ h3 _)
  exact h.bb
 ·iterate 6 (refine Blk.other ?_ (by show mb ≠ rb;omega) _)
  exact h.km
end
end Go.Proofs.YtamgfpdahadnfaaGreatDoor
namespace Go.Proofs.YtamgfpdahadnfaaGreatDoor
open Go.ChangeShapes Go.WideShapes Go.ChangeAt Go.RowKit Go.Sort
open Draw (St Off Row Cur)
set_option linter.unusedVariables false
set_option linter.unusedSimpArgs false
set_option maxRecDepth 100000
theorem Lz (a:Option Addr) (len cap:Nat) (w:World) (hr:Row w.heap.size w a len) :
  Calls Tryz.prog 20 #[.slice a len cap] w fun e w'=> ∃ M u0 u1 u2 u3 u4 x y rq,e= .returned (.tuple #[.agg #[u0,u1,u2,u3,u4,.int .i64 M.now],.int .i64 x,.int .i64 y])/\FullSmy (w.heap.size+1) w' u0 u1 u2 u3 u4 M rq/\Below w.heap.size w w':=by
 have Hr:=Z9 (Draw.row_later hr ((Z1 _ _).alloc (Z2 _) (.cells E6 32)));clear hr;go_enter Tryz.func20,Tryz.ntmps20;go_wp2_with fail;have kr:Hid (Blk (w.alloc (.cells E6 32)) w.heap.size 32 E6):=Z9 (Blk.new _ _ _);have BB:Hid (Below w.heap.size w (w.alloc (.cells E6 32))):=Z9 ((ba _ _));have hzW:w.heap.size<(w.alloc (.cells E6 32)).heap.size:=by simp
 generalize w.alloc (.cells E6 32)=W at *;refine (Draw.new_any a len cap _ (uh Hr)).mono ?_;rintro e w1 ⟨rfl,s1,o1⟩;have Hs:=Z9 s1;replace kr:=Z9 ((uh kr).away o1 (by omega));replace BB:=Z9 ((uh BB).trans (o1.below (by omega) (uh BB).size));clear s1 o1 Hr;generalize W.heap.size=cb at *;go_wp2_with fail;refine (Uj a len cap cb _ (uh Hs)).mono ?_;rintro e w2 ⟨M,u0,u1,u2,u3,u4,rq,rfl,hm2,hm3,hf,s2,o2⟩;have hc1:=WS (uh Hs);have k6:=hf.smy;obtain ⟨b0,q0,b1,q1,b2,q2,b3,q3,b4,q4,rfl,rfl,rfl,rfl,rfl,_,_,_,_,_,_,_,_,_,_⟩:=k6.five;have hb:Below w2.heap.size w2 (w2.alloc (.cells (S6 b0 q0 b1 q1 b2 q2 b3 q3 b4 q4 M) 32)):=ba _ _;have HW:Hid (Wbox a len cap cb w.heap.size w2.heap.size w (w2.alloc (.cells (S6 b0 q0 b1 q1 b2 q2 b3 q3 b4 q4 M) 32)) M (.slice b0 M.rm.length q0) (.slice b1 M.gd.length q1) (.slice b2 M.sm.length q2) (.slice b3 M.dk.length q3) (.slice b4 M.pc.length q4) rq):=Z9 ⟨s2.alloc _,((uh kr).away o2 (by omega)).alloc _,Blk.new _ _ _,(hf.mono (n₁:=cb+1) (by omega)).below hb,((uh BB).trans (o2.below (by omega) (uh BB).size)).trans (hb.mono (by have:=(uh BB).size;have:=o2.size;omega)),by omega,WS s2,Z2 _⟩;have Hm2:=Z9 hm2;clear hm2 hm3 hf s2 o2 k6 hb kr BB Hs hc1 hzW;go_upto_region 3 with fail;generalize w2.alloc (.cells (S6 b0 q0 b1 q1 b2 q2 b3 q3 b4 q4 M) 32)=W2 at *;generalize w2.heap.size=mb at *;have hkl:M.sm.length<=1000000:=by have:=(uh Hm2).1;omega
 obtain ⟨x0,x1,x2,x3,x4,x5⟩:=(uh HW).km.c6;go_wp2_with fail;refine (Uk a len cap cb _ _ _ _ _ _ _ _ _ _ _ _ _ _ _ _ hkl _ (uh HW).st).mono ?_;rintro e w3 ⟨x,rfl,s9,p9⟩;replace HW:=Z9 ((uh HW).step s9 p9);clear s9 p9 x0 x1 x2 x3 x4 x5;obtain ⟨x0,x1,x2,x3,x4,x5⟩:=(uh HW).km.c6;go_wp2_with fail
 go_region_with (go_at_call 39;go_must (refine (Draw.from_any a len cap cb (-6) 6 ?_ ?_ ?_ _ ?_).mono ?_);go_must (omega);go_must (omega);go_must (omega);go_must (exact (uh HW).drew.st);go_must (rintro e w8 ⟨z,rfl,_,_,s9,p9⟩;have HW8:=Z9 ((uh HW).drew.step s9 p9);clear s9 p9;obtain ⟨y0,y1,y2,y3,y4,y5⟩:=(uh HW8).km.c6;have o0:=(uh HW8).kr.cell (i:=0) (v:= .slice none 0 0) rfl;have f0:=(uh HW8).kr.free 0;have o1:=(uh HW8).kr.cell (i:=1) (v:= .slice none 0 0) rfl;have f1:=(uh HW8).kr.free 1;have o2:=(uh HW8).kr.cell (i:=2) (v:= .slice none 0 0) rfl;have f2:=(uh HW8).kr.free 2;have o3:=(uh HW8).kr.cell (i:=3) (v:= .slice none 0 0) rfl;have f3:=(uh HW8).kr.free 3;have o4:=(uh HW8).kr.cell (i:=4) (v:= .slice none 0 0) rfl;have f4:=(uh HW8).kr.free 4;have o5:=(uh HW8).kr.cell (i:=5) (v:= .int .i64 0) rfl;have f5:=(uh HW8).kr.free 5;obtain ⟨F9,B9,_⟩:=(uh HW8).end (.slice b0 M.rm.length q0) (.slice b1 M.gd.length q1) (.slice b2 M.sm.length q2) (.slice b3 M.dk.length q3) (.slice b4 M.pc.length q4) (.int .i64 M.now);have HF9:=Z9 F9;have HB9:=Z9 B9;clear F9 B9))
 all_goals
  go_wp2_with fail;exact ZS (v:= .tuple #[.agg (S6 b0 q0 b1 q1 b2 q2 b3 q3 b4 q4 M),.int .i64 x,.int .i64 z]) (by simp [results,Tryz.results20,go_sem, *]) rfl ⟨M,_,_,_,_,_,x,z,rq,rfl,uh HF9,uh HB9⟩
set_option maxRecDepth 100000
theorem yp {d:Nat} (h1:1<=d) (h8:d<=8):2<=(2:Int) ^ d/\(2:Int) ^ d<=256:=by
 rcases (show d=1\/d=2\/d=3\/d=4\/d=5\/d=6\/d=7\/d=8 by omega) with rfl | rfl | rfl | rfl | rfl | rfl | rfl | rfl<;>decide
theorem Nk (a:Option Addr) (len cap:Nat) (w:World) (hr:Row w.heap.size w a len) :
  Calls Tryz.prog 22 #[.slice a len cap] w fun e w'=> ∃ M u0 u1 u2 u3 u4 x y rq,e= .returned (.tuple #[.agg #[u0,u1,u2,u3,u4,.int .i64 M.now],.int .i64 x,.int .i64 y])/\FullSmy (w.heap.size+1) w' u0 u1 u2 u3 u4 M rq/\Below w.heap.size w w':=by
 have Hr:=Z9 (Draw.row_later hr ((Z1 _ _).alloc (Z2 _) (.cells E6 32)));clear hr;go_enter Tryz.func22,Tryz.ntmps22;go_wp2_with fail;have kr:Hid (Blk (w.alloc (.cells E6 32)) w.heap.size 32 E6):=Z9 (Blk.new _ _ _);have BB:Hid (Below w.heap.size w (w.alloc (.cells E6 32))):=Z9 ((ba _ _));have hzW:w.heap.size<(w.alloc (.cells E6 32)).heap.size:=by simp
 generalize w.alloc (.cells E6 32)=W at *;refine (Draw.new_any a len cap _ (uh Hr)).mono ?_;rintro e w1 ⟨rfl,s1,o1⟩;have Hs:=Z9 s1;replace kr:=Z9 ((uh kr).away o1 (by omega));replace BB:=Z9 ((uh BB).trans (o1.below (by omega) (uh BB).size));clear s1 o1 Hr;generalize W.heap.size=cb at *;go_wp2_with fail;refine (Uj a len cap cb _ (uh Hs)).mono ?_;rintro e w2 ⟨M,u0,u1,u2,u3,u4,rq,rfl,hm2,hm3,hf,s2,o2⟩;have hc1:=WS (uh Hs);have k6:=hf.smy;obtain ⟨b0,q0,b1,q1,b2,q2,b3,q3,b4,q4,rfl,rfl,rfl,rfl,rfl,_,_,_,_,_,_,_,_,_,_⟩:=k6.five;have hb:Below w2.heap.size w2 (w2.alloc (.cells (S6 b0 q0 b1 q1 b2 q2 b3 q3 b4 q4 M) 32)):=ba _ _;have HW:Hid (Wbox a len cap cb w.heap.size w2.heap.size w (w2.alloc (.cells (S6 b0 q0 b1 q1 b2 q2 b3 q3 b4 q4 M) 32)) M (.slice b0 M.rm.length q0) (.slice b1 M.gd.length q1) (.slice b2 M.sm.length q2) (.slice b3 M.dk.length q3) (.slice b4 M.pc.length q4) rq):=Z9 ⟨s2.alloc _,((uh kr).away o2 (by omega)).alloc _,Blk.new _ _ _,(hf.mono (n₁:=cb+1) (by omega)).below hb,((uh BB).trans (o2.below (by omega) (uh BB).size)).trans (hb.mono (by have:=(uh BB).size;have:=o2.size;omega)),by omega,WS s2,Z2 _⟩;have Hm2:=Z9 hm2;have Hm3:=Z9 hm3;clear hm2 hm3 hf s2 o2 k6 hb kr BB Hs hc1 hzW;go_upto_region 3 with fail;generalize w2.alloc (.cells (S6 b0 q0 b1 q1 b2 q2 b3 q3 b4 q4 M) 32)=W2 at *;generalize w2.heap.size=mb at *;have hkl:M.sm.length<=1000000:=by have:=(uh Hm2).1;omega
 obtain ⟨x0,x1,x2,x3,x4,x5⟩:=(uh HW).km.c6;go_wp2_with fail;refine (Uk a len cap cb _ _ _ _ _ _ _ _ _ _ _ _ _ _ _ _ hkl _ (uh HW).st).mono ?_;rintro e w3 ⟨x,rfl,s9,p9⟩;replace HW:=Z9 ((uh HW).step s9 p9);clear s9 p9 x0 x1 x2 x3 x4 x5 hkl;have hd8:=(uh Hm3).2;obtain ⟨pw,hpw⟩:∃ q,(2:Int) ^ ((M.dk.length:Int)).toNat=q:=⟨_,rfl⟩
 have hpb:2<=pw/\pw<=256:=by rw [<-hpw,Zz];exact yp hd8.1 hd8.2.1
 have Hpw:=Z9 hpw;obtain ⟨_,_,_,x3,_,_⟩:=(uh HW).km.c6;have hdl:(M.dk.length:Int)<=12:=by omega
 clear hpw hd8;go_wp2_with fail;refine (TP (M.dk.length:Int) (by omega) hdl _).mono ?_;rw [uh Hpw];rintro e w4 ⟨rfl,h9⟩;subst w4;obtain ⟨hp0,hp1⟩:=hpb;go_wp2_with fail;refine (Draw.below_any a len cap cb (pw-1) (by omega) (by omega) _ (uh HW).st).mono ?_;rintro e w4 ⟨y,rfl,yl,yh,s9,p9⟩;replace HW:=Z9 ((uh HW).step s9 p9);clear s9 p9 x3 hdl Hpw;go_wp2_with fail;refine (Draw.once_any a len cap cb 10 (by omega) (by omega) _ (uh HW).st).mono ?_;rintro e w5 ⟨bq,rfl,s9,p9⟩;replace HW:=Z9 ((uh HW).step s9 p9);clear s9 p9
 go_upto_if 25 with fail
 go_cut [8] (fun s wc=> ∃ x:Int,s= .int .i64 x/\Wbox a len cap cb w.heap.size mb w wc M (.slice b0 M.rm.length q0) (.slice b1 M.gd.length q1) (.slice b2 M.sm.length q2) (.slice b3 M.dk.length q3) (.slice b4 M.pc.length q4) rq)
 case first=>
  cases bq
  ·go_wp2_with fail
   go_meet;exact ⟨_,rfl,uh HW⟩
  ·have HW0:=HW
   obtain ⟨X1,hX1,hbz,KL⟩:=YF w5 2 #[.int .i64 0,.int .i64 128,.int .i64 255,.int .i64 256];replace HW:=Z9 ((uh HW).below hbz);have hlb:w5.heap.size ≠ cb:=by have:=WS (uh HW0).st;omega
   clear hbz;go_wp2_with fail;(try rw [hX1]);clear hX1;generalize w5.heap.size=lb at *;refine (Draw.below_any a len cap cb 4 (by omega) (by omega) _ (uh HW).st).mono ?_;rintro e w9 ⟨v,rfl,v0,v1,s9,p9⟩;replace KL:=Z9 ((uh KL).away p9 hlb);replace HW:=Z9 ((uh HW).step s9 p9);clear s9 p9
   rcases (show v=0\/v=1\/v=2\/v=3 by omega) with rfl | rfl | rfl | rfl
   ·have l0:=(uh KL).cell (i:=0) (v:= .int .i64 0) rfl
    go_wp2_with fail;go_meet;exact ⟨_,rfl,uh HW⟩
   ·have l1:=(uh KL).cell (i:=1) (v:= .int .i64 128) rfl
    go_wp2_with fail;go_meet;exact ⟨_,rfl,uh HW⟩
   ·have l2:=(uh KL).cell (i:=2) (v:= .int .i64 255) rfl
    go_wp2_with fail;go_meet;exact ⟨_,rfl,uh HW⟩
   ·have l3:=(uh KL).cell (i:=3) (v:= .int .i64 256) rfl
    go_wp2_with fail;go_meet;exact ⟨_,rfl,uh HW⟩
 case rest=>
  obtain ⟨x9,rfl,hw⟩:=hcut;replace HW:=Z9 hw;clear hw;obtain ⟨y0,y1,y2,y3,y4,y5⟩:=(uh HW).km.c6;have o0:=(uh HW).kr.cell (i:=0) (v:= .slice none 0 0) rfl;have f0:=(uh HW).kr.free 0;have o1:=(uh HW).kr.cell (i:=1) (v:= .slice none 0 0) rfl;have f1:=(uh HW).kr.free 1;have o2:=(uh HW).kr.cell (i:=2) (v:= .slice none 0 0) rfl;have f2:=(uh HW).kr.free 2;have o3:=(uh HW).kr.cell (i:=3) (v:= .slice none 0 0) rfl;have f3:=(uh HW).kr.free 3;have o4:=(uh HW).kr.cell (i:=4) (v:= .slice none 0 0) rfl;have f4:=(uh HW).kr.free 4;have o5:=(uh HW).kr.cell (i:=5) (v:= .int .i64 0) rfl;have f5:=(uh HW).kr.free 5;obtain ⟨F9,B9,_⟩:=(uh HW).end (.slice b0 M.rm.length q0) (.slice b1 M.gd.length q1) (.slice b2 M.sm.length q2) (.slice b3 M.dk.length q3) (.slice b4 M.pc.length q4) (.int .i64 M.now);have HF9:=Z9 F9;have HB9:=Z9 B9;clear F9 B9;go_wp2_with fail;exact ZS (v:= .tuple #[.agg (S6 b0 q0 b1 q1 b2 q2 b3 q3 b4 q4 M),.int .i64 x,.int .i64 x9]) (by simp [results,Tryz.results22,go_sem, *]) rfl ⟨M,_,_,_,_,_,x,x9,rq,rfl,uh HF9,uh HB9⟩
theorem Nl (a:Option Addr) (len cap:Nat) (w:World) (hr:Row w.heap.size w a len) :
  Calls Tryz.prog 24 #[.slice a len cap] w fun e w'=> ∃ M u0 u1 u2 u3 u4 x y z rq,e= .returned (.tuple #[.agg #[u0,u1,u2,u3,u4,.int .i64 M.now],.int .i64 x,.int .i64 y,.int .i64 z])/\FullSmy (w.heap.size+1) w' u0 u1 u2 u3 u4 M rq/\Below w.heap.size w w':=by
 have Hr:=Z9 (Draw.row_later hr ((Z1 _ _).alloc (Z2 _) (.cells E6 32)));clear hr;go_enter Tryz.func24,Tryz.ntmps24;go_wp2_with fail;have kr:Hid (Blk (w.alloc (.cells E6 32)) w.heap.size 32 E6):=Z9 (Blk.new _ _ _);have BB:Hid (Below w.heap.size w (w.alloc (.cells E6 32))):=Z9 ((ba _ _));have hzW:w.heap.size<(w.alloc (.cells E6 32)).heap.size:=by simp
 generalize w.alloc (.cells E6 32)=W at *;refine (Draw.new_any a len cap _ (uh Hr)).mono ?_;rintro e w1 ⟨rfl,s1,o1⟩;have Hs:=Z9 s1;replace kr:=Z9 ((uh kr).away o1 (by omega));replace BB:=Z9 ((uh BB).trans (o1.below (by omega) (uh BB).size));clear s1 o1 Hr;generalize W.heap.size=cb at *;go_wp2_with fail;refine (Uj a len cap cb _ (uh Hs)).mono ?_;rintro e w2 ⟨M,u0,u1,u2,u3,u4,rq,rfl,hm2,hm3,hf,s2,o2⟩;have hc1:=WS (uh Hs);have k6:=hf.smy;obtain ⟨b0,q0,b1,q1,b2,q2,b3,q3,b4,q4,rfl,rfl,rfl,rfl,rfl,_,_,_,_,_,_,_,_,_,_⟩:=k6.five;have hb:Below w2.heap.size w2 (w2.alloc (.cells (S6 b0 q0 b1 q1 b2 q2 b3 q3 b4 q4 M) 32)):=ba _ _;have HW:Hid (Wbox a len cap cb w.heap.size w2.heap.size w (w2.alloc (.cells (S6 b0 q0 b1 q1 b2 q2 b3 q3 b4 q4 M) 32)) M (.slice b0 M.rm.length q0) (.slice b1 M.gd.length q1) (.slice b2 M.sm.length q2) (.slice b3 M.dk.length q3) (.slice b4 M.pc.length q4) rq):=Z9 ⟨s2.alloc _,((uh kr).away o2 (by omega)).alloc _,Blk.new _ _ _,(hf.mono (n₁:=cb+1) (by omega)).below hb,((uh BB).trans (o2.below (by omega) (uh BB).size)).trans (hb.mono (by have:=(uh BB).size;have:=o2.size;omega)),by omega,WS s2,Z2 _⟩;have Hm2:=Z9 hm2;clear hm2 hm3 hf s2 o2 k6 hb kr BB Hs hc1 hzW;go_upto_region 3 with fail;generalize w2.alloc (.cells (S6 b0 q0 b1 q1 b2 q2 b3 q3 b4 q4 M) 32)=W2 at *;generalize w2.heap.size=mb at *;have hkl:M.sm.length<=1000000:=by have:=(uh Hm2).1;omega
 obtain ⟨x0,x1,x2,x3,x4,x5⟩:=(uh HW).km.c6;go_wp2_with fail;refine (Uk a len cap cb _ _ _ _ _ _ _ _ _ _ _ _ _ _ _ _ hkl _ (uh HW).st).mono ?_;rintro e w3 ⟨x,rfl,s9,p9⟩;replace HW:=Z9 ((uh HW).step s9 p9);clear s9 p9 x0 x1 x2 x3 x4 x5 hkl;go_wp2_with fail;refine (Draw.drawForce_any a len cap cb _ (uh HW).st).mono ?_;rintro e w4 ⟨fa,rfl,s9,p9⟩;replace HW:=Z9 ((uh HW).step s9 p9);clear s9 p9;go_wp2_with fail;refine (Draw.drawForce_any a len cap cb _ (uh HW).st).mono ?_;rintro e w5 ⟨fb,rfl,s9,p9⟩;replace HW:=Z9 ((uh HW).step s9 p9);clear s9 p9;go_upto_region 6 with fail
 go_cut [29] (fun s wc=> ∃ q:Bool,s= .bool q/\Wbox a len cap cb w.heap.size mb w wc M (.slice b0 M.rm.length q0) (.slice b1 M.gd.length q1) (.slice b2 M.sm.length q2) (.slice b3 M.dk.length q3) (.slice b4 M.pc.length q4) rq)
 case first=>
  by_cases hab:fb<fa
  ·go_wp2_with fail
   refine (Draw.once_any a len cap cb 6 (by omega) (by omega) _ (uh HW).st).mono ?_;rintro e w6 ⟨bq,rfl,s9,p9⟩;replace HW:=Z9 ((uh HW).step s9 p9);clear s9 p9;go_wp2_with fail;go_meet;exact ⟨_,rfl,uh HW⟩
  ·go_wp2_with fail
   go_meet;exact ⟨_,rfl,uh HW⟩
 case rest=>
  obtain ⟨q9,rfl,hw⟩:=hcut;replace HW:=Z9 hw;clear hw;cases q9
  ·obtain ⟨y0,y1,y2,y3,y4,y5⟩:=(uh HW).km.c6
   have o0:=(uh HW).kr.cell (i:=0) (v:= .slice none 0 0) rfl;have f0:=(uh HW).kr.free 0;have o1:=(uh HW).kr.cell (i:=1) (v:= .slice none 0 0) rfl;have f1:=(uh HW).kr.free 1;have o2:=(uh HW).kr.cell (i:=2) (v:= .slice none 0 0) rfl;have f2:=(uh HW).kr.free 2;have o3:=(uh HW).kr.cell (i:=3) (v:= .slice none 0 0) rfl;have f3:=(uh HW).kr.free 3;have o4:=(uh HW).kr.cell (i:=4) (v:= .slice none 0 0) rfl;have f4:=(uh HW).kr.free 4;have o5:=(uh HW).kr.cell (i:=5) (v:= .int .i64 0) rfl;have f5:=(uh HW).kr.free 5;obtain ⟨F9,B9,_⟩:=(uh HW).end (.slice b0 M.rm.length q0) (.slice b1 M.gd.length q1) (.slice b2 M.sm.length q2) (.slice b3 M.dk.length q3) (.slice b4 M.pc.length q4) (.int .i64 M.now);have HF9:=Z9 F9;have HB9:=Z9 B9;clear F9 B9;go_wp2_with fail;exact ZS (v:= .tuple #[.agg (S6 b0 q0 b1 q1 b2 q2 b3 q3 b4 q4 M),.int .i64 x,.int .i64 fa,.int .i64 fb]) (by simp [results,Tryz.results24,go_sem, *]) rfl ⟨M,_,_,_,_,_,x,fa,fb,rq,rfl,uh HF9,uh HB9⟩
  ·obtain ⟨y0,y1,y2,y3,y4,y5⟩:=(uh HW).km.c6
   have o0:=(uh HW).kr.cell (i:=0) (v:= .slice none 0 0) rfl;have f0:=(uh HW).kr.free 0;have o1:=(uh HW).kr.cell (i:=1) (v:= .slice none 0 0) rfl;have f1:=(uh HW).kr.free 1;have o2:=(uh HW).kr.cell (i:=2) (v:= .slice none 0 0) rfl;have f2:=(uh HW).kr.free 2;have o3:=(uh HW).kr.cell (i:=3) (v:= .slice none 0 0) rfl;have f3:=(uh HW).kr.free 3;have o4:=(uh HW).kr.cell (i:=4) (v:= .slice none 0 0) rfl;have f4:=(uh HW).kr.free 4;have o5:=(uh HW).kr.cell (i:=5) (v:= .int .i64 0) rfl;have f5:=(uh HW).kr.free 5;obtain ⟨F9,B9,_⟩:=(uh HW).end (.slice b0 M.rm.length q0) (.slice b1 M.gd.length q1) (.slice b2 M.sm.length q2) (.slice b3 M.dk.length q3) (.slice b4 M.pc.length q4) (.int .i64 M.now);have HF9:=Z9 F9;have HB9:=Z9 B9;clear F9 B9;go_wp2_with fail;exact ZS (v:= .tuple #[.agg (S6 b0 q0 b1 q1 b2 q2 b3 q3 b4 q4 M),.int .i64 x,.int .i64 fb,.int .i64 fa]) (by simp [results,Tryz.results24,go_sem, *]) rfl ⟨M,_,_,_,_,_,x,fb,fa,rq,rfl,uh HF9,uh HB9⟩
open Go.ChangeShapes Go.WideShapes Go.ChangeAt Go.RowKit
theorem Ji {w:World} {v u:Value} {rs:List ZZ} (hv:IsRooms w v rs) (hu:IsRooms w u rs) :
  Calls Tryz.prog 52 #[.agg #[v],.agg #[u]] w fun e w'=>e= .returned (.bool true)/\Below w.heap.size w w':=by
 have Hv:=Z9 hv;have Hu:=Z9 hu;obtain ⟨a,cap,rfl,hc,hm,hr⟩:=hv;obtain ⟨a',cap',rfl,hc',hm',hr'⟩:=hu;clear hr hr';go_enter Tryz.func52,Tryz.ntmps52;go_wp2_with fail;have B0:Hid (Below w.heap.size w ((w.alloc (.cells #[.slice a rs.length cap] 26)).alloc (.cells #[.slice a' rs.length cap'] 26))):=Z9 (((ba _ _)).alloc (by simp) _)
 go_loopw [5] (fun i wr=> ∃ k:Nat,k<=rs.length/\i= .int .i64 k/\Below (w.heap.size+2) ((w.alloc (.cells #[.slice a rs.length cap] 26)).alloc (.cells #[.slice a' rs.length cap'] 26)) wr) (fun i _=>rs.length-(intOf i).toNat)
 case atStart=>exact ⟨0,ZA _,rfl,Z1 _ _⟩
 case round=>
  obtain ⟨k,hk,rfl,hb⟩:=hrel;have Hb:=Z9 hb;have hzr:w.heap.size+2<=wr.heap.size:=by have:=hb.size;simpa using this
  have c0:wr.cell? ⟨w.heap.size,0,none⟩=some (.slice a rs.length cap):=(hb.cell (p:=⟨w.heap.size,0,none⟩) (by show w.heap.size<w.heap.size+2;omega)).trans (by simp);have c1:wr.cell? ⟨w.heap.size+1,0,none⟩=some (.slice a' rs.length cap'):=(hb.cell (p:=⟨w.heap.size+1,0,none⟩) (by show w.heap.size+1<w.heap.size+2;omega)).trans (by simp);have BW:Hid (Below w.heap.size w wr):=Z9 ((uh B0).trans (hb.mono (by omega)));clear hb;by_cases hlt:k<rs.length
  ·obtain ⟨_,_,e1,_,_,hr⟩:=uh Hv
   obtain ⟨_,_,e2,_,_,hr'⟩:=uh Hu;cases e1;cases e2
   rcases hr with h0 | ⟨b,off,rfl,hbw,hcl⟩
   ·rw [h0] at hlt;simp at hlt
   rcases hr' with h0 | ⟨b',off',rfl,hbw',hcl'⟩
   ·rw [h0] at hlt;simp at hlt
   obtain ⟨d0,pv,d1,hip⟩:=hcl k hlt;obtain ⟨d2,pu,d3,hiu⟩:=hcl' k hlt;rw [<-(uh BW).cell (p:=⟨b,off+k*2,none⟩) hbw] at d0;rw [<-(uh BW).cell (p:=⟨b,off+k*2+1,none⟩) hbw] at d1;rw [<-(uh BW).cell (p:=⟨b',off'+k*2,none⟩) hbw'] at d2;rw [<-(uh BW).cell (p:=⟨b',off'+k*2+1,none⟩) hbw'] at d3;have Hip:=Z9 (hip.below (uh BW));have Hiu:=Z9 (hiu.below (uh BW));obtain ⟨pa,pcap,rfl,hpc,hpm,_⟩:=hip;obtain ⟨pa',pcap',rfl,hpc',hpm',_⟩:=hiu;generalize (ZR rs k).1=f at *;generalize (ZR rs k).2=ps at *;clear hcl hcl';have k0:=ZW c0;have k1:=ZW c1;have k2:=ZW d0;have k3:=ZW d1;have k4:=ZW d2;have k5:=ZW d3;go_wp2_with fail;refine wq ?_
   repeat (go_big_quiet_step (fail))
   refine wpQuiet_nil ?_;intro _ hw';obtain ⟨⟨dq,osq⟩,hw''⟩:=hw';subst hw'';have Hbq:=Z9 (Z0 wr dq osq);have e0:=k0 dq osq;have e1:=k1 dq osq;have e2:=k2 dq osq;have e3:=k3 dq osq;have e4:=k4 dq osq;have e5:=k5 dq osq;clear k0 k1 k2 k3 k4 k5 c0 c1 d0 d1 d2 d3;obtain ⟨w1,hw1⟩:∃ w1,w1=Go.Sort.grow (Go.redrawn wr dq) osq:=⟨_,rfl⟩
   rw [<-hw1] at Hbq e0 e1 e2 e3 e4 e5 ⊢;clear hw1;have HB1:=Z9 ((uh BW).trans ((uh Hbq).mono (uh BW).size));go_wp2_with fail;obtain ⟨wo,hwo⟩:∃ wo,wo=wr:=⟨wr,rfl⟩
   rw [<-hwo] at *;clear hwo
   go_loopw [6] (fun i wr=> ∃ j:Nat,j<=ps.length/\i= .int .i64 j/\Below w1.heap.size w1 wr) (fun i _=>ps.length-(intOf i).toNat)
   case atStart=>exact ⟨0,ZA _,rfl,Z1 _ _⟩
   case round=>
    obtain ⟨j,hj,rfl,hbr⟩:=hrel;have Hbr:=Z9 hbr;have HBr:=Z9 ((uh HB1).trans (hbr.mono (uh HB1).size));have hz1:=(uh Hbq).size;have f0:=(hbr.cell (World.block_lt_of_cell? _ _ e0)).trans e0;have f1:=(hbr.cell (World.block_lt_of_cell? _ _ e1)).trans e1;have f3:=(hbr.cell (World.block_lt_of_cell? _ _ e3)).trans e3;have f5:=(hbr.cell (World.block_lt_of_cell? _ _ e5)).trans e5;clear hbr;by_cases hjl:j<ps.length
    ·obtain ⟨_,_,g1,_,_,hr⟩:=(uh Hip).below ((uh Hbq).trans ((uh Hbr).mono hz1))
     obtain ⟨_,_,g2,_,_,hr'⟩:=(uh Hiu).below ((uh Hbq).trans ((uh Hbr).mono hz1));cases g1;cases g2
     rcases hr with h0 | ⟨pb,poff,rfl,hpbw,hpl⟩
     ·rw [h0] at hjl;simp at hjl
     rcases hr' with h0 | ⟨pb',poff',rfl,hpbw',hpl'⟩
     ·rw [h0] at hjl;simp at hjl
     obtain ⟨c0,c1⟩:=hpl j hjl;obtain ⟨d0,d1⟩:=hpl' j hjl;generalize (Z7 ps j).1=x at *;generalize (Z7 ps j).2=y at *;have k0:=ZW f0;have k1:=ZW f1;have k3:=ZW f3;have k5:=ZW f5;have k6:=ZW c0;have k7:=ZW c1;have k8:=ZW d0;have k9:=ZW d1;clear hpl hpl' e0 e1 e2 e3 e4 e5;go_wp2_with fail;refine wq ?_
     repeat (go_big_quiet_step (fail))
     refine wpQuiet_nil ?_;intro _ hw';obtain ⟨⟨dr,osr⟩,hw''⟩:=hw';subst hw'';go_wp2_with fail;go_roundw
     case rel=>exact ⟨j+1,by omega,by go_num,(uh Hbr).trans ((Z0 _ _ _).mono (uh Hbr).size)⟩
     case measure=>exact ms
    ·go_wp2_with fail
     go_roundw
     case rel=>exact ⟨k+1,by omega,by go_num,(uh Hb).trans (((uh Hbq).trans ((uh Hbr).mono hz1)).mono hzr)⟩
     case measure=>exact ms
  ·go_wp2_with fail
   go_ret;exact ⟨rfl,uh BW⟩
set_option maxRecDepth 100000
theorem F8 (a b c:Int) (w:World):(Op.equalIn 10000 75 (.agg #[.int .i64 a,.int .i64 b,.int .i64 c]) (.agg #[.int .i64 a,.int .i64 b,.int .i64 c])).run Tryz.prog w= .ok true w:=by
 have u:=Tryz.underlying2;have g:=Tryz.isAgg2;have z:=Tryz.sizeOf2;have hS:Tryz.prog.underlying 75=some (.struct (Tryz.prog.fieldsOf 75)):=by kernel_rfl
 have hp:Tryz.prog.stoodInHeld 75=false:=by kernel_rfl
 rw [show (10000:Nat)=9999+1 from rfl,run_equalIn_agg w 9999 75 _ _ hS hp];simp only [Program.fieldsOf,Tryz.underlying75];go_simp
theorem BO (a b c:Int) (w:World):(binOp .neq 75 (.agg #[.int .i64 a,.int .i64 b,.int .i64 c]) (.agg #[.int .i64 a,.int .i64 b,.int .i64 c])).run Tryz.prog w= .ok (.bool false) w:=by
 rw [run_neq_struct,F8];rfl
theorem D4 (o:Bool) (b c:Int) (w:World):(Op.equalIn 10000 43 (.agg #[.bool o,.int .i64 b,.int .i64 c]) (.agg #[.bool o,.int .i64 b,.int .i64 c])).run Tryz.prog w= .ok true w:=by
 have u:=Tryz.underlying2;have g:=Tryz.isAgg2;have z:=Tryz.sizeOf2;have u2:=Tryz.underlying4;have g2:=Tryz.isAgg4;have z2:=Tryz.sizeOf4;have hS:Tryz.prog.underlying 43=some (.struct (Tryz.prog.fieldsOf 43)):=by kernel_rfl
 have hp:Tryz.prog.stoodInHeld 43=false:=by kernel_rfl
 rw [show (10000:Nat)=9999+1 from rfl,run_equalIn_agg w 9999 43 _ _ hS hp];simp only [Program.fieldsOf,Tryz.underlying43];go_simp
theorem zT (o:Bool) (b c:Int) (w:World):(binOp .neq 43 (.agg #[.bool o,.int .i64 b,.int .i64 c]) (.agg #[.bool o,.int .i64 b,.int .i64 c])).run Tryz.prog w= .ok (.bool false) w:=by
 rw [run_neq_struct,D4];rfl
theorem ME (st be rk my gu lo hi hd ca ut wk:Int) (w:World):(binOp .neq 40 (.agg (I11 st be rk my gu lo hi hd ca ut wk)) (.agg (I11 st be rk my gu lo hi hd ca ut wk))).run Tryz.prog w= .ok (.bool false) w:=by
 rw [O2,MA];rfl
theorem Jj {w:World} {v u:Value} {zs:List Int} (hv:Oo w v zs) (hu:Oo w u zs) :
  Calls Tryz.prog 53 #[v,u] w fun e w'=>e= .returned (.bool true)/\Below w.heap.size w w':=by
 obtain ⟨a,cap,rfl,hc,hm,hr⟩:=hv;obtain ⟨a',cap',rfl,hc',hm',hr'⟩:=hu;have Hr:=Z9 hr;have Hr':=Z9 hr';clear hr hr';go_enter Tryz.func53,Tryz.ntmps53;go_wp2_with fail
 go_loopw [5] (fun i wr=> ∃ k:Nat,k<=zs.length/\i= .int .i64 k/\Below w.heap.size w wr) (fun i _=>zs.length-(intOf i).toNat)
 case atStart=>exact ⟨0,ZA _,rfl,Z1 _ _⟩
 case round=>
  obtain ⟨k,hk,rfl,hb⟩:=hrel;have Hb:=Z9 hb;by_cases hlt:k<zs.length
  ·rcases uh Hr with h0 | ⟨b,off,rfl,hbw,hcl⟩
   ·rw [h0] at hlt;simp at hlt
   rcases uh Hr' with h0 | ⟨b',off',rfl,hbw',hcl'⟩
   ·rw [h0] at hlt;simp at hlt
   have c0:=Mi hcl hlt;have d0:=Mi hcl' hlt;rw [<-hb.cell (p:=⟨b,off+k,none⟩) hbw] at c0;rw [<-hb.cell (p:=⟨b',off'+k,none⟩) hbw'] at d0;generalize Z8 zs k=z at *;clear hcl hcl' hb;go_wp2_with fail;go_quiet (fail);go_wp2_with fail;go_roundw
   case rel=>exact ⟨k+1,by omega,by go_num,⟨(uh Hb).os,(uh Hb).tape,(uh Hb).output,(uh Hb).size,(uh Hb).block⟩⟩
   case measure=>exact ms
  ·go_wp2_with fail
   go_ret;exact ⟨rfl,hb⟩
attribute [local go_sem ↓] BO zT ME
theorem Xl {w:World} {v0 v1 v2 v3 v4 u0 u1 u2 u3 u4:Value} {m:Z6} (h:Smy w v0 v1 v2 v3 v4 m) (g:Smy w u0 u1 u2 u3 u4 m) :
  Calls Tryz.prog 11 #[.agg #[v0,v1,v2,v3,v4,.int .i64 m.now],.agg #[u0,u1,u2,u3,u4,.int .i64 m.now]] w fun e w'=>e= .returned (.bool true)/\Below w.heap.size w w':=by
 have Hv:=Z9 h;have Hu:=Z9 g;obtain ⟨a0,p0,rfl,_,_⟩:=IsRooms.shape h.rm;obtain ⟨b0,q0,rfl,_,_⟩:=IsRooms.shape g.rm;obtain ⟨a1,p1,rfl,_,_⟩:=IsRec.shape h.gd;obtain ⟨b1,q1,rfl,_,_⟩:=IsRec.shape g.gd;obtain ⟨a2,p2,rfl,_,_⟩:=IsRec.shape h.sm;obtain ⟨b2,q2,rfl,_,_⟩:=IsRec.shape g.sm;obtain ⟨a3,p3,rfl,_,_⟩:=IsRec.shape h.dk;obtain ⟨b3,q3,rfl,_,_⟩:=IsRec.shape g.dk;obtain ⟨a4,p4,rfl,_,_⟩:=IsRec.shape h.pc;obtain ⟨b4,q4,rfl,_,_⟩:=IsRec.shape g.pc;clear h g;have ka:Hid (Blk ((w.alloc (.cells (S6 a0 p0 a1 p1 a2 p2 a3 p3 a4 p4 m) 32)).alloc (.cells (S6 b0 q0 b1 q1 b2 q2 b3 q3 b4 q4 m) 32)) w.heap.size 32 (S6 a0 p0 a1 p1 a2 p2 a3 p3 a4 p4 m)):=Z9 ((Blk.new w _ _).alloc _)
 have kb:Hid (Blk ((w.alloc (.cells (S6 a0 p0 a1 p1 a2 p2 a3 p3 a4 p4 m) 32)).alloc (.cells (S6 b0 q0 b1 q1 b2 q2 b3 q3 b4 q4 m) 32)) (w.heap.size+1) 32 (S6 b0 q0 b1 q1 b2 q2 b3 q3 b4 q4 m)):=Z9 (by
  have k:=Blk.new (w.alloc (.cells (S6 a0 p0 a1 p1 a2 p2 a3 p3 a4 p4 m) 32)) 32 (S6 b0 q0 b1 q1 b2 q2 b3 q3 b4 q4 m);rw [ZB] at k
  exact k)
 have BB:Hid (Below w.heap.size w ((w.alloc (.cells (S6 a0 p0 a1 p1 a2 p2 a3 p3 a4 p4 m) 32)).alloc (.cells (S6 b0 q0 b1 q1 b2 q2 b3 q3 b4 q4 m) 32))):=Z9 (((ba _ _)).alloc (by simp) _);go_enter Tryz.func11,Tryz.ntmps11;go_wp2_with fail;generalize ((w.alloc (.cells (S6 a0 p0 a1 p1 a2 p2 a3 p3 a4 p4 m) 32)).alloc (.cells (S6 b0 q0 b1 q1 b2 q2 b3 q3 b4 q4 m) 32))=W at *;refine ck (Ji ((uh Hv).below (uh BB)).rm ((uh Hu).below (uh BB)).rm) fun w1 hb=> ?_;replace ka:=bl ka hb;replace kb:=bl kb hb;replace BB:=bt BB hb;clear hb;obtain ⟨c0,c1,c2,c3,c4,c5⟩:=(uh ka).c6;obtain ⟨d0,d1,d2,d3,d4,d5⟩:=(uh kb).c6;go_wp2_with fail;refine ck (Jj ((uh Hv).below (uh BB)).pc ((uh Hu).below (uh BB)).pc) fun w2 hb=> ?_;replace ka:=bl ka hb;replace kb:=bl kb hb;replace BB:=bt BB hb;clear hb c0 c1 c2 c3 c4 c5 d0 d1 d2 d3 d4 d5;obtain ⟨c0,c1,c2,c3,c4,c5⟩:=(uh ka).c6;obtain ⟨d0,d1,d2,d3,d4,d5⟩:=(uh kb).c6;go_wp2_with fail;clear c0 c1 c2 c3 c4 c5 d0 d1 d2 d3 d4 d5
 go_loopw [5] (fun i wr=> ∃ k:Nat,k<=m.gd.length/\i= .int .i64 k/\Blk wr w.heap.size 32 (S6 a0 p0 a1 p1 a2 p2 a3 p3 a4 p4 m)/\Blk wr (w.heap.size+1) 32 (S6 b0 q0 b1 q1 b2 q2 b3 q3 b4 q4 m)/\Below w.heap.size w wr) (fun i _=>m.gd.length-(intOf i).toNat)
 case atStart=>exact ⟨0,ZA _,rfl,uh ka,uh kb,uh BB⟩
 case round=>
  obtain ⟨k,hk,rfl,hka,hkb,hb⟩:=hrel;have c1:=hka.cell (i:=1) rfl;have d1:=hkb.cell (i:=1) rfl;by_cases hlt:k<m.gd.length
  ·have hlt1:(k:Int)<(m.gd.length:Int):=by omega
   obtain ⟨_,_,he,_,hmx,r1⟩:=(uh Hv).gd;cases he;obtain ⟨_,_,he,_,hmy,r2⟩:=(uh Hu).gd;cases he
   rcases r1 with e0 | ⟨b,off,rfl,hbw,hcl⟩
   ·rw [e0] at hlt;simp at hlt
   rcases r2 with e0 | ⟨b',off',rfl,hbw',hcl'⟩
   ·rw [e0] at hlt;simp at hlt
   obtain ⟨x0,x1,x2⟩:=VT hcl hlt;obtain ⟨y0,y1,y2⟩:=VT hcl' hlt;rw [<-hb.cell (p:=⟨b,off+k*3,none⟩) hbw] at x0;rw [<-hb.cell (p:=⟨b',off'+k*3,none⟩) hbw'] at y0;rw [<-hb.cell (p:=⟨b,off+k*3+1,none⟩) hbw] at x1;rw [<-hb.cell (p:=⟨b',off'+k*3+1,none⟩) hbw'] at y1;rw [<-hb.cell (p:=⟨b,off+k*3+2,none⟩) hbw] at x2;rw [<-hb.cell (p:=⟨b',off'+k*3+2,none⟩) hbw'] at y2;generalize Z8 m.gd k=rr at *;obtain ⟨ga,gb,gc⟩:=rr;simp only at x0 x1 x2 y0 y1 y2;have Ka:=Z9 hka;have Kb:=Z9 hkb;have Hb:=Z9 hb;clear hcl hcl' hka hkb hb;go_wp2_with fail;go_quiet (fail);go_wp2_with fail;go_roundw
   case rel=>exact ⟨k+1,by omega,by go_num,(uh Ka).same rfl,(uh Kb).same rfl,⟨(uh Hb).os,(uh Hb).tape,(uh Hb).output,(uh Hb).size,(uh Hb).block⟩⟩
   case measure=>exact ms
  ·obtain rfl:k=m.gd.length:=by omega
   replace ka:=Z9 hka;replace kb:=Z9 hkb;replace BB:=Z9 hb;clear hka hkb hb;go_wp2_with fail
   go_loopw [6] (fun i wr=> ∃ k:Nat,k<=m.sm.length/\i= .int .i64 k/\Blk wr w.heap.size 32 (S6 a0 p0 a1 p1 a2 p2 a3 p3 a4 p4 m)/\Blk wr (w.heap.size+1) 32 (S6 b0 q0 b1 q1 b2 q2 b3 q3 b4 q4 m)/\Below w.heap.size w wr) (fun i _=>m.sm.length-(intOf i).toNat)
   case atStart=>exact ⟨0,ZA _,rfl,uh ka,uh kb,uh BB⟩
   case round=>
    obtain ⟨k,hk,rfl,hka,hkb,hb⟩:=hrel;have c2:=hka.cell (i:=2) rfl;have d2:=hkb.cell (i:=2) rfl;by_cases hlt:k<m.sm.length
    ·have hlt1:(k:Int)<(m.sm.length:Int):=by omega
     obtain ⟨_,_,he,_,hmx,r1⟩:=(uh Hv).sm;cases he;obtain ⟨_,_,he,_,hmy,r2⟩:=(uh Hu).sm;cases he
     rcases r1 with e0 | ⟨b,off,rfl,hbw,hcl⟩
     ·rw [e0] at hlt;simp at hlt
     rcases r2 with e0 | ⟨b',off',rfl,hbw',hcl'⟩
     ·rw [e0] at hlt;simp at hlt
     obtain ⟨x0,x1,x2,x3,x4,x5,x6,x7,x8,x9,x10⟩:=Zw hcl hlt;obtain ⟨y0,y1,y2,y3,y4,y5,y6,y7,y8,y9,y10⟩:=Zw hcl' hlt;rw [<-hb.cell (p:=⟨b,off+k*11,none⟩) hbw] at x0;rw [<-hb.cell (p:=⟨b',off'+k*11,none⟩) hbw'] at y0;rw [<-hb.cell (p:=⟨b,off+k*11+1,none⟩) hbw] at x1;rw [<-hb.cell (p:=⟨b',off'+k*11+1,none⟩) hbw'] at y1;rw [<-hb.cell (p:=⟨b,off+k*11+2,none⟩) hbw] at x2;rw [<-hb.cell (p:=⟨b',off'+k*11+2,none⟩) hbw'] at y2;rw [<-hb.cell (p:=⟨b,off+k*11+3,none⟩) hbw] at x3;rw [<-hb.cell (p:=⟨b',off'+k*11+3,none⟩) hbw'] at y3;rw [<-hb.cell (p:=⟨b,off+k*11+4,none⟩) hbw] at x4;rw [<-hb.cell (p:=⟨b',off'+k*11+4,none⟩) hbw'] at y4;rw [<-hb.cell (p:=⟨b,off+k*11+5,none⟩) hbw] at x5;rw [<-hb.cell (p:=⟨b',off'+k*11+5,none⟩) hbw'] at y5;rw [<-hb.cell (p:=⟨b,off+k*11+6,none⟩) hbw] at x6;rw [<-hb.cell (p:=⟨b',off'+k*11+6,none⟩) hbw'] at y6;rw [<-hb.cell (p:=⟨b,off+k*11+7,none⟩) hbw] at x7;rw [<-hb.cell (p:=⟨b',off'+k*11+7,none⟩) hbw'] at y7;rw [<-hb.cell (p:=⟨b,off+k*11+8,none⟩) hbw] at x8;rw [<-hb.cell (p:=⟨b',off'+k*11+8,none⟩) hbw'] at y8;rw [<-hb.cell (p:=⟨b,off+k*11+9,none⟩) hbw] at x9;rw [<-hb.cell (p:=⟨b',off'+k*11+9,none⟩) hbw'] at y9;rw [<-hb.cell (p:=⟨b,off+k*11+10,none⟩) hbw] at x10;rw [<-hb.cell (p:=⟨b',off'+k*11+10,none⟩) hbw'] at y10;generalize Z8 m.sm k=rr at *;obtain ⟨st,be,rk,my,gu,lo,hi,hd,ca,ut,wk⟩:=rr;simp only at x0 x1 x2 x3 x4 x5 x6 x7 x8 x9 x10 y0 y1 y2 y3 y4 y5 y6 y7 y8 y9 y10;have Ka:=Z9 hka;have Kb:=Z9 hkb;have Hb:=Z9 hb;clear hcl hcl' hka hkb hb;go_wp2_with fail;go_quiet (fail);go_wp2_with fail;go_roundw
     case rel=>exact ⟨k+1,by omega,by go_num,(uh Ka).same rfl,(uh Kb).same rfl,⟨(uh Hb).os,(uh Hb).tape,(uh Hb).output,(uh Hb).size,(uh Hb).block⟩⟩
     case measure=>exact ms
    ·obtain rfl:k=m.sm.length:=by omega
     replace ka:=Z9 hka;replace kb:=Z9 hkb;replace BB:=Z9 hb;clear hka hkb hb;go_wp2_with fail
     go_loopw [7] (fun i wr=> ∃ k:Nat,k<=m.dk.length/\i= .int .i64 k/\Blk wr w.heap.size 32 (S6 a0 p0 a1 p1 a2 p2 a3 p3 a4 p4 m)/\Blk wr (w.heap.size+1) 32 (S6 b0 q0 b1 q1 b2 q2 b3 q3 b4 q4 m)/\Below w.heap.size w wr) (fun i _=>m.dk.length-(intOf i).toNat)
     case atStart=>exact ⟨0,ZA _,rfl,uh ka,uh kb,uh BB⟩
     case round=>
      obtain ⟨k,hk,rfl,hka,hkb,hb⟩:=hrel;have c3:=hka.cell (i:=3) rfl;have d3:=hkb.cell (i:=3) rfl;by_cases hlt:k<m.dk.length
      ·have hlt1:(k:Int)<(m.dk.length:Int):=by omega
       obtain ⟨_,_,he,_,hmx,r1⟩:=(uh Hv).dk;cases he;obtain ⟨_,_,he,_,hmy,r2⟩:=(uh Hu).dk;cases he
       rcases r1 with e0 | ⟨b,off,rfl,hbw,hcl⟩
       ·rw [e0] at hlt;simp at hlt
       rcases r2 with e0 | ⟨b',off',rfl,hbw',hcl'⟩
       ·rw [e0] at hlt;simp at hlt
       obtain ⟨x0,x1,x2⟩:=Y4 hcl hlt;obtain ⟨y0,y1,y2⟩:=Y4 hcl' hlt;rw [<-hb.cell (p:=⟨b,off+k*3,none⟩) hbw] at x0;rw [<-hb.cell (p:=⟨b',off'+k*3,none⟩) hbw'] at y0;rw [<-hb.cell (p:=⟨b,off+k*3+1,none⟩) hbw] at x1;rw [<-hb.cell (p:=⟨b',off'+k*3+1,none⟩) hbw'] at y1;rw [<-hb.cell (p:=⟨b,off+k*3+2,none⟩) hbw] at x2;rw [<-hb.cell (p:=⟨b',off'+k*3+2,none⟩) hbw'] at y2;generalize Z8 m.dk k=rr at *;obtain ⟨op,who,mk⟩:=rr;simp only at x0 x1 x2 y0 y1 y2;have Ka:=Z9 hka;have Kb:=Z9 hkb;have Hb:=Z9 hb;clear hcl hcl' hka hkb hb;go_wp2_with fail;go_quiet (fail);go_wp2_with fail;go_roundw
       case rel=>exact ⟨k+1,by omega,by go_num,(uh Ka).same rfl,(uh Kb).same rfl,⟨(uh Hb).os,(uh Hb).tape,(uh Hb).output,(uh Hb).size,(uh Hb).block⟩⟩
       case measure=>exact ms
      ·obtain rfl:k=m.dk.length:=by omega
       replace ka:=Z9 hka;replace kb:=Z9 hkb;replace BB:=Z9 hb;clear hka hkb hb;go_wp2_with fail;go_ret;exact ⟨rfl,uh BB⟩
end Go.Proofs.YtamgfpdahadnfaaGreatDoor
namespace Go.Proofs.YtamgfpdahadnfaaGreatDoor
open Go.ChangeShapes Go.WideShapes Go.ChangeAt Go.RowKit Go.Sort Go.Shelf
open Draw (Row IsRow AS row_later CW zM)
set_option linter.unusedVariables false
set_option linter.unusedSimpArgs false
set_option maxRecDepth 100000
theorem Le (a0:Option Addr) (len0 cap0:Nat) (z0:List Int) (w:World) (w0:IsRow .u8 w a0 len0 cap0 z0) (her:∃ q,Errs w q) :
  Calls Tryz.prog 5 #[.slice a0 len0 cap0] w fun e w'=>e= .returned (.bool true)/\Below w.heap.size w w':=by
 obtain ⟨qe,her⟩:=her;have HEr:=Z9 her;clear her;by_cases hbig:4096<len0
 ·go_enter Tryz.func5,Tryz.ntmps5
  go_wp2_with fail;refine (CW _ _ _ _ hbig).mono ?_;rintro e w' ⟨rfl,rfl⟩;go_wp2_with fail;go_ret;exact ⟨rfl,Z1 _ _⟩
 have Hr:=Z9 (AS w0 (by omega));clear w0;go_enter Tryz.func5,Tryz.ntmps5;go_wp2_with fail;refine (zM _ _ _ _ (by omega)).mono ?_;rintro e w' ⟨rfl,hw'⟩;subst w';go_wp2_with fail;refine (Lz _ _ _ _ (uh Hr)).mono ?_;rintro e v1 ⟨M1,u0,u1,u2,u3,u4,who1,rk1,rq1,rfl,hf,hb⟩;obtain ⟨a1_0,p1_0,a1_1,p1_1,a1_2,p1_2,a1_3,p1_3,a1_4,p1_4,rfl,rfl,rfl,rfl,rfl,K1⟩:=Bx.put hf.smy (hb);replace Hr:=Z9 (row_later (uh Hr) hb);clear hb hf;go_upto_region 4 with fail;have hb:Below v1.heap.size v1 (v1.alloc (.cells (S6 a1_0 p1_0 a1_1 p1_1 a1_2 p1_2 a1_3 p1_3 a1_4 p1_4 M1) 32)):=ba _ _;replace Hr:=Z9 (row_later (uh Hr) hb);clear hb;generalize v1.alloc (.cells (S6 a1_0 p1_0 a1_1 p1_1 a1_2 p1_2 a1_3 p1_3 a1_4 p1_4 M1) 32)=W1a at *;generalize v1.heap.size=m1 at *;obtain ⟨⟨X1,cd1⟩,hV⟩:∃ v,XE M1 who1 rk1=v:=⟨_,rfl⟩
 have hI:=LW who1 rk1 ((uh HEr).below K1.bb) K1.smy;rw [hV] at hI;have HI:=Z9 hI;have HV1:=Z9 hV;clear hV hI;obtain ⟨c0,c1,c2,c3,c4,c5⟩:=K1.cells;go_wp2_with fail;clear c0 c1 c2 c3 c4 c5;refine (uh HI).mono ?_;rintro e v2 ⟨⟨y0,y1,y2,y3,y4,rs1,rfl,ho⟩,hb⟩;obtain ⟨d1_0,q1_0,d1_1,q1_1,d1_2,q1_2,d1_3,q1_3,d1_4,q1_4,rfl,rfl,rfl,rfl,rfl,KX1⟩:=Bx.put ho.smy (K1.bb.trans (hb.mono K1.bb.size));replace K1:=K1.next hb;replace Hr:=Z9 (row_later (uh Hr) hb);clear ho hb HI;go_upto_region 5 with fail;have hb:Below v2.heap.size v2 (v2.alloc (.cells (S6 d1_0 q1_0 d1_1 q1_1 d1_2 q1_2 d1_3 q1_3 d1_4 q1_4 X1) 32)):=ba _ _;replace K1:=K1.next hb;replace Hr:=Z9 (row_later (uh Hr) hb);clear hb;generalize v2.alloc (.cells (S6 d1_0 q1_0 d1_1 q1_1 d1_2 q1_2 d1_3 q1_3 d1_4 q1_4 X1) 32)=W1b at *;generalize v2.heap.size=x1_ at *;go_wp2_with fail;refine (Nk _ _ _ _ (uh Hr)).mono ?_;rintro e v1 ⟨M2,u0,u1,u2,u3,u4,who2,my2,rq2,rfl,hf,hb⟩;obtain ⟨a2_0,p2_0,a2_1,p2_1,a2_2,p2_2,a2_3,p2_3,a2_4,p2_4,rfl,rfl,rfl,rfl,rfl,K2⟩:=Bx.put hf.smy (K1.bb.trans (hb.mono K1.bb.size));replace K1:=K1.next hb;replace KX1:=KX1.next hb;replace Hr:=Z9 (row_later (uh Hr) hb);clear hb hf;go_upto_region 6 with fail;have hb:Below v1.heap.size v1 (v1.alloc (.cells (S6 a2_0 p2_0 a2_1 p2_1 a2_2 p2_2 a2_3 p2_3 a2_4 p2_4 M2) 32)):=ba _ _;replace K1:=K1.next hb;replace KX1:=KX1.next hb;replace Hr:=Z9 (row_later (uh Hr) hb);clear hb;generalize v1.alloc (.cells (S6 a2_0 p2_0 a2_1 p2_1 a2_2 p2_2 a2_3 p2_3 a2_4 p2_4 M2) 32)=W2a at *;generalize v1.heap.size=m2 at *;obtain ⟨⟨X2,cd2⟩,hV⟩:∃ v,XW M2 who2 my2=v:=⟨_,rfl⟩
 have hI:=Nm who2 my2 ((uh HEr).below K2.bb) K2.smy;rw [hV] at hI;have HI:=Z9 hI;have HV2:=Z9 hV;clear hV hI;obtain ⟨c0,c1,c2,c3,c4,c5⟩:=K2.cells;go_wp2_with fail;clear c0 c1 c2 c3 c4 c5;refine (uh HI).mono ?_;rintro e v2 ⟨⟨y0,y1,y2,y3,y4,rs2,rfl,ho⟩,hb⟩;obtain ⟨d2_0,q2_0,d2_1,q2_1,d2_2,q2_2,d2_3,q2_3,d2_4,q2_4,rfl,rfl,rfl,rfl,rfl,KX2⟩:=Bx.put ho.smy (K2.bb.trans (hb.mono K2.bb.size));replace K1:=K1.next hb;replace KX1:=KX1.next hb;replace K2:=K2.next hb;replace Hr:=Z9 (row_later (uh Hr) hb);clear ho hb HI;go_upto_region 7 with fail;have hb:Below v2.heap.size v2 (v2.alloc (.cells (S6 d2_0 q2_0 d2_1 q2_1 d2_2 q2_2 d2_3 q2_3 d2_4 q2_4 X2) 32)):=ba _ _;replace K1:=K1.next hb;replace KX1:=KX1.next hb;replace K2:=K2.next hb;replace Hr:=Z9 (row_later (uh Hr) hb);clear hb;generalize v2.alloc (.cells (S6 d2_0 q2_0 d2_1 q2_1 d2_2 q2_2 d2_3 q2_3 d2_4 q2_4 X2) 32)=W2b at *;generalize v2.heap.size=x2_ at *;go_wp2_with fail;refine (Nl _ _ _ _ (uh Hr)).mono ?_;rintro e v1 ⟨M3,u0,u1,u2,u3,u4,who3,lo3,hi3,rq3,rfl,hf,hb⟩;obtain ⟨a3_0,p3_0,a3_1,p3_1,a3_2,p3_2,a3_3,p3_3,a3_4,p3_4,rfl,rfl,rfl,rfl,rfl,K3⟩:=Bx.put hf.smy (K1.bb.trans (hb.mono K1.bb.size));replace K1:=K1.next hb;replace KX1:=KX1.next hb;replace K2:=K2.next hb;replace KX2:=KX2.next hb;replace Hr:=Z9 (row_later (uh Hr) hb);clear hb hf;go_upto_region 8 with fail;have hb:Below v1.heap.size v1 (v1.alloc (.cells (S6 a3_0 p3_0 a3_1 p3_1 a3_2 p3_2 a3_3 p3_3 a3_4 p3_4 M3) 32)):=ba _ _;replace K1:=K1.next hb;replace KX1:=KX1.next hb;replace K2:=K2.next hb;replace KX2:=KX2.next hb;replace Hr:=Z9 (row_later (uh Hr) hb);clear hb;generalize v1.alloc (.cells (S6 a3_0 p3_0 a3_1 p3_1 a3_2 p3_2 a3_3 p3_3 a3_4 p3_4 M3) 32)=W3a at *;generalize v1.heap.size=m3 at *;obtain ⟨⟨X3,cd3⟩,hV⟩:∃ v,XD M3 who3 lo3 hi3=v:=⟨_,rfl⟩
 have hI:=Ns who3 lo3 hi3 ((uh HEr).below K3.bb) K3.smy;rw [hV] at hI;have HI:=Z9 hI;have HV3:=Z9 hV;clear hV hI;obtain ⟨c0,c1,c2,c3,c4,c5⟩:=K3.cells;go_wp2_with fail;clear c0 c1 c2 c3 c4 c5;refine (uh HI).mono ?_;rintro e v2 ⟨⟨y0,y1,y2,y3,y4,rs3,rfl,ho⟩,hb⟩;obtain ⟨d3_0,q3_0,d3_1,q3_1,d3_2,q3_2,d3_3,q3_3,d3_4,q3_4,rfl,rfl,rfl,rfl,rfl,KX3⟩:=Bx.put ho.smy (K3.bb.trans (hb.mono K3.bb.size));replace K1:=K1.next hb;replace KX1:=KX1.next hb;replace K2:=K2.next hb;replace KX2:=KX2.next hb;replace K3:=K3.next hb;clear ho hb HI Hr;go_upto_region 9 with fail;have hb:Below v2.heap.size v2 (v2.alloc (.cells (S6 d3_0 q3_0 d3_1 q3_1 d3_2 q3_2 d3_3 q3_3 d3_4 q3_4 X3) 32)):=ba _ _;replace K1:=K1.next hb;replace KX1:=KX1.next hb;replace K2:=K2.next hb;replace KX2:=KX2.next hb;replace K3:=K3.next hb;clear hb;generalize v2.alloc (.cells (S6 d3_0 q3_0 d3_1 q3_1 d3_2 q3_2 d3_3 q3_3 d3_4 q3_4 X3) 32)=W3b at *;generalize v2.heap.size=x3_ at *;have hS:=RQ who1 rk1 K1.smy;rw [uh HV1] at hS;have HS:=Z9 hS;clear hS;obtain ⟨c0,c1,c2,c3,c4,c5⟩:=K1.cells;go_wp2_with fail;clear c0 c1 c2 c3 c4 c5;refine (uh HS).mono ?_;rintro e v3 ⟨⟨y0,y1,y2,y3,y4,rt1,rfl,ho⟩,hb⟩;obtain ⟨g1_0,j1_0,g1_1,j1_1,g1_2,j1_2,g1_3,j1_3,g1_4,j1_4,rfl,rfl,rfl,rfl,rfl,KY⟩:=Bx.put ho.smy (K1.bb.trans (hb.mono K1.bb.size));replace K1:=K1.next hb;replace KX1:=KX1.next hb;replace K2:=K2.next hb;replace KX2:=KX2.next hb;replace K3:=K3.next hb;replace KX3:=KX3.next hb;clear ho hb HS;go_upto_region 10 with fail;have hb:Below v3.heap.size v3 (v3.alloc (.cells (S6 g1_0 j1_0 g1_1 j1_1 g1_2 j1_2 g1_3 j1_3 g1_4 j1_4 X1) 32)):=ba _ _;replace K1:=K1.next hb;replace KX1:=KX1.next hb;replace K2:=K2.next hb;replace KX2:=KX2.next hb;replace K3:=K3.next hb;replace KX3:=KX3.next hb;clear hb;generalize v3.alloc (.cells (S6 g1_0 j1_0 g1_1 j1_1 g1_2 j1_2 g1_3 j1_3 g1_4 j1_4 X1) 32)=W1c at *;generalize v3.heap.size=y1_ at *;obtain ⟨x0,x1,x2,x3,x4,x5⟩:=KX1.cells;obtain ⟨yy0,yy1,yy2,yy3,yy4,yy5⟩:=KY.cells;go_wp2_with fail;clear x0 x1 x2 x3 x4 x5 yy0 yy1 yy2 yy3 yy4 yy5;refine ck (Xl KX1.smy KY.smy) fun v4 hb=> ?_;replace K1:=K1.next hb;replace KX1:=KX1.next hb;replace K2:=K2.next hb;replace KX2:=KX2.next hb;replace K3:=K3.next hb;replace KX3:=KX3.next hb;clear hb KY;have hS:=Sb who2 my2 K2.smy;rw [uh HV2] at hS;have HS:=Z9 hS;clear hS;obtain ⟨c0,c1,c2,c3,c4,c5⟩:=K2.cells;go_wp2_with fail;clear c0 c1 c2 c3 c4 c5;refine (uh HS).mono ?_;rintro e v3 ⟨⟨y0,y1,y2,y3,y4,rt2,rfl,ho⟩,hb⟩;obtain ⟨g2_0,j2_0,g2_1,j2_1,g2_2,j2_2,g2_3,j2_3,g2_4,j2_4,rfl,rfl,rfl,rfl,rfl,KY⟩:=Bx.put ho.smy (K2.bb.trans (hb.mono K2.bb.size));replace K1:=K1.next hb;replace KX1:=KX1.next hb;replace K2:=K2.next hb;replace KX2:=KX2.next hb;replace K3:=K3.next hb;replace KX3:=KX3.next hb;clear ho hb HS;go_upto_region 13 with fail;have hb:Below v3.heap.size v3 (v3.alloc (.cells (S6 g2_0 j2_0 g2_1 j2_1 g2_2 j2_2 g2_3 j2_3 g2_4 j2_4 X2) 32)):=ba _ _;replace K1:=K1.next hb;replace KX1:=KX1.next hb;replace K2:=K2.next hb;replace KX2:=KX2.next hb;replace K3:=K3.next hb;replace KX3:=KX3.next hb
 clear hb;generalize v3.alloc (.cells (S6 g2_0 j2_0 g2_1 j2_1 g2_2 j2_2 g2_3 j2_3 g2_4 j2_4 X2) 32)=W2c at *;generalize v3.heap.size=y2_ at *;obtain ⟨x0,x1,x2,x3,x4,x5⟩:=KX2.cells;obtain ⟨yy0,yy1,yy2,yy3,yy4,yy5⟩:=KY.cells;go_wp2_with fail;clear x0 x1 x2 x3 x4 x5 yy0 yy1 yy2 yy3 yy4 yy5;refine ck (Xl KX2.smy KY.smy) fun v4 hb=> ?_;replace K1:=K1.next hb;replace KX1:=KX1.next hb;replace K2:=K2.next hb;replace KX2:=KX2.next hb;replace K3:=K3.next hb;replace KX3:=KX3.next hb;clear hb KY;have hS:=Sd who3 lo3 hi3 K3.smy;rw [uh HV3] at hS;have HS:=Z9 hS;clear hS;obtain ⟨c0,c1,c2,c3,c4,c5⟩:=K3.cells;go_wp2_with fail;clear c0 c1 c2 c3 c4 c5;refine (uh HS).mono ?_;rintro e v3 ⟨⟨y0,y1,y2,y3,y4,rt3,rfl,ho⟩,hb⟩;obtain ⟨g3_0,j3_0,g3_1,j3_1,g3_2,j3_2,g3_3,j3_3,g3_4,j3_4,rfl,rfl,rfl,rfl,rfl,KY⟩:=Bx.put ho.smy (K3.bb.trans (hb.mono K3.bb.size));replace K1:=K1.next hb;replace KX1:=KX1.next hb;replace K2:=K2.next hb;replace KX2:=KX2.next hb;replace K3:=K3.next hb;replace KX3:=KX3.next hb;clear ho hb HS;go_upto_region 16 with fail;have hb:Below v3.heap.size v3 (v3.alloc (.cells (S6 g3_0 j3_0 g3_1 j3_1 g3_2 j3_2 g3_3 j3_3 g3_4 j3_4 X3) 32)):=ba _ _;replace K1:=K1.next hb;replace KX1:=KX1.next hb;replace K2:=K2.next hb;replace KX2:=KX2.next hb;replace K3:=K3.next hb;replace KX3:=KX3.next hb;clear hb;generalize v3.alloc (.cells (S6 g3_0 j3_0 g3_1 j3_1 g3_2 j3_2 g3_3 j3_3 g3_4 j3_4 X3) 32)=W3c at *;generalize v3.heap.size=y3_ at *;obtain ⟨x0,x1,x2,x3,x4,x5⟩:=KX3.cells;obtain ⟨yy0,yy1,yy2,yy3,yy4,yy5⟩:=KY.cells;go_wp2_with fail;clear x0 x1 x2 x3 x4 x5 yy0 yy1 yy2 yy3 yy4 yy5;refine ck (Xl KX3.smy KY.smy) fun v4 hb=> ?_;replace K1:=K1.next hb;replace KX1:=KX1.next hb;replace K2:=K2.next hb;replace KX2:=KX2.next hb;replace K3:=K3.next hb;replace KX3:=KX3.next hb;clear hb KY;go_upto_region 18 with fail;have HK2:=Z9 K2;have HKX2:=Z9 KX2;have HK3:=Z9 K3;have HKX3:=Z9 KX3
 go_cut [147] (fun s wc=>s= .bool false/\Below v4.heap.size v4 wc)
 case first=>
  clear HK2 HKX2 HK3 HKX3 K2 KX2 K3 KX3 HV2 HV3
  rcases EO M1 who1 rk1 with ⟨hk0,hv⟩ | ⟨hk0,c',hc,hv⟩ | ⟨hk0,X',hv,hr,k,hwk,hk,hfact⟩
  ·
   obtain ⟨hX,hcc⟩:=Prod.mk.inj ((uh HV1).symm.trans hv);subst hX hcc;have Hok:=Z9 hk0;clear HV1 hv hk0;obtain ⟨c0,c1,c2,c3,c4,c5⟩:=K1.cells;go_wp2_with fail;clear c0 c1 c2 c3 c4 c5;refine ck (XN (uh Hok) K1.smy) fun v5 hb=> ?_;have HB:=Z9 hb;clear hb;go_wp2_with fail;go_meet;exact ⟨rfl,uh HB⟩
  ·
   obtain ⟨hX,hcc⟩:=Prod.mk.inj ((uh HV1).symm.trans hv);subst hX hcc;have Hok:=Z9 hk0;clear HV1 hv hk0;have hcd:decide (cd1=0)=false:=Xr hc;have hcb:(cd1 ==0)=false:=beq_eq_false_iff_ne.mpr hc;obtain ⟨c0,c1,c2,c3,c4,c5⟩:=K1.cells;go_wp2_with fail;clear c0 c1 c2 c3 c4 c5;refine ck (XN (uh Hok) K1.smy) fun v5 hb=> ?_;replace K1:=K1.next hb;replace KX1:=KX1.next hb;have HB:=Z9 hb;clear hb;obtain ⟨c0,c1,c2,c3,c4,c5⟩:=K1.cells;obtain ⟨x0,x1,x2,x3,x4,x5⟩:=KX1.cells;go_wp2_with fail;clear c0 c1 c2 c3 c4 c5 x0 x1 x2 x3 x4 x5;refine ck (Xl KX1.smy K1.smy) fun v6 hb=> ?_;replace HB:=Z9 ((uh HB).trans (hb.mono (uh HB).size));clear hb;go_wp2_with fail;go_meet;exact ⟨rfl,uh HB⟩
  ·
   obtain ⟨hX,hcc⟩:=Prod.mk.inj ((uh HV1).symm.trans hv);subst hX hcc hwk;have Hok:=Z9 hr;clear HV1 hv hk0 hr;have hk1:(k:Int)<(X1.sm.length:Int):=by omega
   obtain ⟨x0,x1,x2,x3,x4,x5⟩:=KX1.cells;go_wp2_with fail;clear x0 x1 x2 x3 x4 x5;refine ck (VI _ _ _ _ _ _ _ _ (uh Hok) KX1.smy) fun v5 hb=> ?_;replace KX1:=KX1.next hb;have HB:=Z9 hb;clear hb;obtain ⟨_,_,hse,_,_,r2⟩:=KX1.smy.sm;cases hse
   rcases r2 with e0 | ⟨sb,of,rfl,hbw,hcl⟩
   ·rw [e0] at hk;simp at hk
   have s2:=hcl k hk 2 (.int .i64 rk1) (by rw [<-hfact];rfl);clear hcl;obtain ⟨_,_,x2,_,_,_⟩:=KX1.cells;go_wp2_with fail;go_meet;exact ⟨rfl,uh HB⟩
 case rest=>
  obtain ⟨rfl,hb⟩:=hcut;clear K1 KX1 K2 KX2 K3 KX3 HV1;have K2:=(uh HK2).next hb;have KX2:=(uh HKX2).next hb;have K3:=(uh HK3).next hb;have KX3:=(uh HKX3).next hb;clear hb HK2 HKX2 HK3 HKX3;obtain ⟨vc1,hvc⟩:∃ x,x=wc:=⟨_,rfl⟩
  subst hvc;go_upto_region 20 with fail;have HK3:=Z9 K3;have HKX3:=Z9 KX3
  go_cut [178] (fun s wc=>s= .bool false/\Below vc1.heap.size vc1 wc)
  case first=>
   clear HK3 HKX3 K3 KX3 HV3
   rcases Fy M2 who2 my2 with ⟨hk0,hv⟩ | ⟨hk0,c',hc,hv⟩ | ⟨hk0,X',hv,hr,k,hwk,hk,hfact⟩
   ·
    obtain ⟨hX,hcc⟩:=Prod.mk.inj ((uh HV2).symm.trans hv);subst hX hcc;have Hok:=Z9 hk0;clear HV2 hv hk0;obtain ⟨c0,c1,c2,c3,c4,c5⟩:=K2.cells;go_wp2_with fail;clear c0 c1 c2 c3 c4 c5;refine ck (XN (uh Hok) K2.smy) fun v5 hb=> ?_;have HB:=Z9 hb;clear hb;go_wp2_with fail;go_meet;exact ⟨rfl,uh HB⟩
   ·
    obtain ⟨hX,hcc⟩:=Prod.mk.inj ((uh HV2).symm.trans hv);subst hX hcc;have Hok:=Z9 hk0;clear HV2 hv hk0;have hcd:decide (cd2=0)=false:=Xr hc;have hcb:(cd2 ==0)=false:=beq_eq_false_iff_ne.mpr hc;obtain ⟨c0,c1,c2,c3,c4,c5⟩:=K2.cells;go_wp2_with fail;clear c0 c1 c2 c3 c4 c5;refine ck (XN (uh Hok) K2.smy) fun v5 hb=> ?_;replace K2:=K2.next hb;replace KX2:=KX2.next hb;have HB:=Z9 hb;clear hb;obtain ⟨c0,c1,c2,c3,c4,c5⟩:=K2.cells;obtain ⟨x0,x1,x2,x3,x4,x5⟩:=KX2.cells;go_wp2_with fail;clear c0 c1 c2 c3 c4 c5 x0 x1 x2 x3 x4 x5;refine ck (Xl KX2.smy K2.smy) fun v6 hb=> ?_;replace HB:=Z9 ((uh HB).trans (hb.mono (uh HB).size));clear hb;go_wp2_with fail;go_meet;exact ⟨rfl,uh HB⟩
   ·
    obtain ⟨hX,hcc⟩:=Prod.mk.inj ((uh HV2).symm.trans hv);subst hX hcc hwk;have Hok:=Z9 hr;clear HV2 hv hk0 hr;have hk1:(k:Int)<(X2.sm.length:Int):=by omega
    obtain ⟨x0,x1,x2,x3,x4,x5⟩:=KX2.cells;go_wp2_with fail;clear x0 x1 x2 x3 x4 x5;refine ck (VI _ _ _ _ _ _ _ _ (uh Hok) KX2.smy) fun v5 hb=> ?_;replace KX2:=KX2.next hb;have HB:=Z9 hb;clear hb;obtain ⟨_,_,hse,_,_,r2⟩:=KX2.smy.sm;cases hse
    rcases r2 with e0 | ⟨sb,of,rfl,hbw,hcl⟩
    ·rw [e0] at hk;simp at hk
    have s3:=hcl k hk 3 (.int .i64 my2) (by rw [<-hfact];rfl);clear hcl;obtain ⟨_,_,x2,_,_,_⟩:=KX2.cells;go_wp2_with fail;go_meet;exact ⟨rfl,uh HB⟩
  case rest=>
   obtain ⟨rfl,hb⟩:=hcut;clear K2 KX2 K3 KX3 HV2;have K3:=(uh HK3).next hb;have KX3:=(uh HKX3).next hb;clear hb HK3 HKX3;obtain ⟨vc2,hvc⟩:∃ x,x=wc:=⟨_,rfl⟩
   subst hvc;have HB3:=Z9 K3.bb
   rcases GC M3 who3 lo3 hi3 with ⟨hk0,hv⟩ | ⟨hk0,c',hc,hv⟩ | ⟨hk0,X',hv,hr,k,hwk,hk,hfl,hfh⟩
   ·
    obtain ⟨hX,hcc⟩:=Prod.mk.inj ((uh HV3).symm.trans hv);subst hX hcc;have Hok:=Z9 hk0;clear HV3 hv hk0;obtain ⟨c0,c1,c2,c3,c4,c5⟩:=K3.cells;go_wp2_with fail;clear c0 c1 c2 c3 c4 c5;refine ck (XN (uh Hok) K3.smy) fun v5 hb=> ?_;have HB:=Z9 hb;clear hb;go_wp2_with fail;go_ret;exact ⟨rfl,(uh HB3).trans ((uh HB).mono (uh HB3).size)⟩
   ·
    obtain ⟨hX,hcc⟩:=Prod.mk.inj ((uh HV3).symm.trans hv);subst hX hcc;have Hok:=Z9 hk0;clear HV3 hv hk0;have hcd:decide (cd3=0)=false:=Xr hc;have hcb:(cd3 ==0)=false:=beq_eq_false_iff_ne.mpr hc;obtain ⟨c0,c1,c2,c3,c4,c5⟩:=K3.cells;go_wp2_with fail;clear c0 c1 c2 c3 c4 c5;refine ck (XN (uh Hok) K3.smy) fun v5 hb=> ?_;replace K3:=K3.next hb;replace KX3:=KX3.next hb;have HB:=Z9 hb;clear hb;obtain ⟨c0,c1,c2,c3,c4,c5⟩:=K3.cells;obtain ⟨x0,x1,x2,x3,x4,x5⟩:=KX3.cells;go_wp2_with fail;clear c0 c1 c2 c3 c4 c5 x0 x1 x2 x3 x4 x5;refine ck (Xl KX3.smy K3.smy) fun v6 hb=> ?_;replace HB:=Z9 ((uh HB).trans (hb.mono (uh HB).size));clear hb;go_wp2_with fail;go_ret;exact ⟨rfl,(uh HB3).trans ((uh HB).mono (uh HB3).size)⟩
   ·
    obtain ⟨hX,hcc⟩:=Prod.mk.inj ((uh HV3).symm.trans hv);subst hX hcc hwk;have Hok:=Z9 hr;clear HV3 hv hk0 hr;have hk1:(k:Int)<(X3.sm.length:Int):=by omega
    obtain ⟨x0,x1,x2,x3,x4,x5⟩:=KX3.cells;go_wp2_with fail;clear x0 x1 x2 x3 x4 x5;refine ck (VI _ _ _ _ _ _ _ _ (uh Hok) KX3.smy) fun v5 hb=> ?_;replace KX3:=KX3.next hb;have HB:=Z9 hb;clear hb;obtain ⟨_,_,hse,_,_,r2⟩:=KX3.smy.sm;cases hse
    rcases r2 with e0 | ⟨sb,of,rfl,hbw,hcl⟩
    ·rw [e0] at hk;simp at hk
    have s5:=hcl k hk 5 (.int .i64 lo3) (by rw [<-hfl];rfl);have s6:=hcl k hk 6 (.int .i64 hi3) (by rw [<-hfh];rfl);clear hcl;obtain ⟨_,_,x2,_,_,_⟩:=KX3.cells;go_wp2_with fail;go_ret;exact ⟨rfl,(uh HB3).trans ((uh HB).mono (uh HB3).size)⟩
open Go.ChangeShapes Go.WideShapes Go.ChangeAt Go.RowKit
set_option maxRecDepth 100000
theorem xI : "*" ++ "errors.errorString" = "*errors.errorString" := by decide
theorem AR (u : TypeId) (h : Tryz.prog.typeName? 3 u = some "*errors.errorString") : u = 288 :=
 typeName_ptr_named (nm := "errors.errorString") (by rw [xI]; kernel_rfl) (by kernel_rfl) (by decide) u (by rw [xI]; exact h)
theorem xz : (Tryz.prog.cutTypes.find? (·.1 == "internal/reflectlite.rtype")).map (·.2) = some 193 := by kernel_rfl
theorem yt:((List.range Tryz.prog.types.size).filter fun t=>Tryz.prog.rowNamed t [101,114,114,111,114])=[62]:=by kernel_rfl
theorem xF : Tryz.prog.globalNamed "errors.errorType" = some 5 := by kernel_rfl
theorem Ie {a b:Addr} {x:Option (Array Value)} (h:x=some #[YJ a]) (k:x=some #[YJ b]):a=b:=by
 rw [h] at k;simpa using k
theorem RH {n : String} {g : Nat} {text : List UInt8} {r : List (String × DataW Unit)} {W : World} (h : laidMet Tryz.prog ((n, .iface "*errors.errorString" (.ptr (.agg [.lit (.string text)]))) :: r) W)
  (hg:Tryz.prog.globalNamed n=some g) (ht:(Tryz.prog.globals[g]?).map (·.type)=some 62):∃ a,W.var? Tryz.prog n=some #[YJ a]/\W.cell? ⟨g,0,none⟩=some (YJ a):=by
 obtain ⟨a,s,hv,_⟩:=laid_sentinel h hg ht Tryz.underlying62 AR Tryz.underlying288 Tryz.underlying315 rfl rfl Tryz.underlying9 (by kernel_rfl) (by kernel_rfl);exact ⟨a,hv,by rw [World.var?_cell hg hv 0];rfl⟩
theorem We {n0 n1 : String} {g0 g1 : Nat} {text0 text1 : List UInt8} {r : List (String × DataW Unit)} {W : World} {a0 a1 : Addr} (h : laidMet Tryz.prog ((n0, .iface "*errors.errorString" (.ptr (.agg [.lit (.string text0)]))) :: (n1, .iface "*errors.errorString" (.ptr (.agg [.lit (.string text1)]))) :: r) W)
  (hg0:Tryz.prog.globalNamed n0=some g0) (ht0:(Tryz.prog.globals[g0]?).map (·.type)=some 62) (hg1:Tryz.prog.globalNamed n1=some g1) (ht1:(Tryz.prog.globals[g1]?).map (·.type)=some 62)
  (v0:W.var? Tryz.prog n0=some #[YJ a0]) (v1:W.var? Tryz.prog n1=some #[YJ a1]):a0 ≠ a1/\(∃ c t,W.heap[a0.block]?=some (.cells c t (0,0)))/\(∃ c t,W.heap[a1.block]?=some (.cells c t (0,0))):=by
 obtain ⟨b0,b1,s0,s1,c0,c1,t0,t1,hv0,hv1,_,_,_,_,_,_,hne,hb0,hb1⟩:=laid_sentinels2 h hg0 ht0 hg1 ht1 Tryz.underlying62 AR Tryz.underlying288 Tryz.underlying315 rfl rfl Tryz.underlying9 (by kernel_rfl) (by kernel_rfl);obtain rfl:=Ie hv0 v0;obtain rfl:=Ie hv1 v1;exact ⟨hne,⟨c0,t0,hb0⟩,⟨c1,t1,hb1⟩⟩
theorem Td : Tryz.prog.globalNamed "loop.example/g00553/impl.errNone" = some 3 := by kernel_rfl
theorem Tv:(Tryz.prog.globals[3]?).map (·.type)=some 62:=by kernel_rfl
theorem Uc : Tryz.prog.globalNamed "loop.example/g00553/impl.errState" = some 2 := by kernel_rfl
theorem Uz:(Tryz.prog.globals[2]?).map (·.type)=some 62:=by kernel_rfl
theorem Ub : Tryz.prog.globalNamed "loop.example/g00553/impl.errRange" = some 0 := by kernel_rfl
theorem Uy:(Tryz.prog.globals[0]?).map (·.type)=some 62:=by kernel_rfl
theorem Tb : Tryz.prog.globalNamed "loop.example/g00553/impl.errFull" = some 1 := by kernel_rfl
theorem Tt:(Tryz.prog.globals[1]?).map (·.type)=some 62:=by kernel_rfl
theorem Tc : Tryz.prog.globalNamed "loop.example/g00553/impl.errLast" = some 4 := by kernel_rfl
theorem Tu:(Tryz.prog.globals[4]?).map (·.type)=some 62:=by kernel_rfl
theorem ym {W : World} (h : laidMetH Tryz.prog (("errors.errorType", Rows.laid_errors_errorType) :: [("loop.example/g00553/impl.errNone", Rows.laid_loop_example_g00553_impl_errNone), ("loop.example/g00553/impl.errState", Rows.laid_loop_example_g00553_impl_errState), ("loop.example/g00553/impl.errRange", Rows.laid_loop_example_g00553_impl_errRange), ("loop.example/g00553/impl.errFull", Rows.laid_loop_example_g00553_impl_errFull), ("loop.example/g00553/impl.errLast", Rows.laid_loop_example_g00553_impl_errLast)]) W) : ∃ q, Errs W q := by
 have h' : laidMet Tryz.prog [("loop.example/g00553/impl.errNone", Rows.laid_loop_example_g00553_impl_errNone), ("loop.example/g00553/impl.errState", Rows.laid_loop_example_g00553_impl_errState), ("loop.example/g00553/impl.errRange", Rows.laid_loop_example_g00553_impl_errRange), ("loop.example/g00553/impl.errFull", Rows.laid_loop_example_g00553_impl_errFull), ("loop.example/g00553/impl.errLast", Rows.laid_loop_example_g00553_impl_errLast)] W ∧ handlesMet Tryz.prog [("errors.errorType", Rows.laid_errors_errorType)] W := h;obtain ⟨h0,hh⟩:=h'
 have ct:W.cell? ⟨5,0,none⟩=some (rty 62):=by
  obtain ⟨name,u,ty,e1,e2,e3,e4,e5⟩:=hh _ (List.mem_singleton.2 rfl);have en:name=[101,114,114,111,114]:=(Option.some.inj e1).symm;subst en;obtain rfl:=Option.some.inj (xz.symm.trans e2);have hm:ty ∈ (List.range Tryz.prog.types.size).filter fun t=>Tryz.prog.rowNamed t [101,114,114,111,114]:=List.mem_filter.2 ⟨List.mem_range.2 e3,e4⟩;rw [yt] at hm;obtain rfl:=List.mem_singleton.1 hm;have h9:typeHandle Tryz.prog 62= .pointer (some ⟨6,62,none⟩):=by kernel_rfl
  rw [h9] at e5;rw [World.var?_cell xF e5 0];rfl
 have h13 : laidMet Tryz.prog [("loop.example/g00553/impl.errNone", Rows.laid_loop_example_g00553_impl_errNone), ("loop.example/g00553/impl.errRange", Rows.laid_loop_example_g00553_impl_errRange)] W := by
  have k := h0.filter (fun x => x.1 != "loop.example/g00553/impl.errState" && x.1 != "loop.example/g00553/impl.errFull" && x.1 != "loop.example/g00553/impl.errLast")
  rwa [show List.filter (fun x => x.1 != "loop.example/g00553/impl.errState" && x.1 != "loop.example/g00553/impl.errFull" && x.1 != "loop.example/g00553/impl.errLast") [("loop.example/g00553/impl.errNone", Rows.laid_loop_example_g00553_impl_errNone), ("loop.example/g00553/impl.errState", Rows.laid_loop_example_g00553_impl_errState), ("loop.example/g00553/impl.errRange", Rows.laid_loop_example_g00553_impl_errRange), ("loop.example/g00553/impl.errFull", Rows.laid_loop_example_g00553_impl_errFull), ("loop.example/g00553/impl.errLast", Rows.laid_loop_example_g00553_impl_errLast)] = [("loop.example/g00553/impl.errNone", Rows.laid_loop_example_g00553_impl_errNone), ("loop.example/g00553/impl.errRange", Rows.laid_loop_example_g00553_impl_errRange)] from by kernel_rfl] at k
 have h14 : laidMet Tryz.prog [("loop.example/g00553/impl.errNone", Rows.laid_loop_example_g00553_impl_errNone), ("loop.example/g00553/impl.errFull", Rows.laid_loop_example_g00553_impl_errFull)] W := by
  have k := h0.filter (fun x => x.1 != "loop.example/g00553/impl.errState" && x.1 != "loop.example/g00553/impl.errRange" && x.1 != "loop.example/g00553/impl.errLast")
  rwa [show List.filter (fun x => x.1 != "loop.example/g00553/impl.errState" && x.1 != "loop.example/g00553/impl.errRange" && x.1 != "loop.example/g00553/impl.errLast") [("loop.example/g00553/impl.errNone", Rows.laid_loop_example_g00553_impl_errNone), ("loop.example/g00553/impl.errState", Rows.laid_loop_example_g00553_impl_errState), ("loop.example/g00553/impl.errRange", Rows.laid_loop_example_g00553_impl_errRange), ("loop.example/g00553/impl.errFull", Rows.laid_loop_example_g00553_impl_errFull), ("loop.example/g00553/impl.errLast", Rows.laid_loop_example_g00553_impl_errLast)] = [("loop.example/g00553/impl.errNone", Rows.laid_loop_example_g00553_impl_errNone), ("loop.example/g00553/impl.errFull", Rows.laid_loop_example_g00553_impl_errFull)] from by kernel_rfl] at k
 have h15 : laidMet Tryz.prog [("loop.example/g00553/impl.errNone", Rows.laid_loop_example_g00553_impl_errNone), ("loop.example/g00553/impl.errLast", Rows.laid_loop_example_g00553_impl_errLast)] W := by
  have k := h0.filter (fun x => x.1 != "loop.example/g00553/impl.errState" && x.1 != "loop.example/g00553/impl.errRange" && x.1 != "loop.example/g00553/impl.errFull")
  rwa [show List.filter (fun x => x.1 != "loop.example/g00553/impl.errState" && x.1 != "loop.example/g00553/impl.errRange" && x.1 != "loop.example/g00553/impl.errFull") [("loop.example/g00553/impl.errNone", Rows.laid_loop_example_g00553_impl_errNone), ("loop.example/g00553/impl.errState", Rows.laid_loop_example_g00553_impl_errState), ("loop.example/g00553/impl.errRange", Rows.laid_loop_example_g00553_impl_errRange), ("loop.example/g00553/impl.errFull", Rows.laid_loop_example_g00553_impl_errFull), ("loop.example/g00553/impl.errLast", Rows.laid_loop_example_g00553_impl_errLast)] = [("loop.example/g00553/impl.errNone", Rows.laid_loop_example_g00553_impl_errNone), ("loop.example/g00553/impl.errLast", Rows.laid_loop_example_g00553_impl_errLast)] from by kernel_rfl] at k
 have h24 : laidMet Tryz.prog [("loop.example/g00553/impl.errState", Rows.laid_loop_example_g00553_impl_errState), ("loop.example/g00553/impl.errFull", Rows.laid_loop_example_g00553_impl_errFull)] W := by
  have k := h0.filter (fun x => x.1 != "loop.example/g00553/impl.errNone" && x.1 != "loop.example/g00553/impl.errRange" && x.1 != "loop.example/g00553/impl.errLast")
  rwa [show List.filter (fun x => x.1 != "loop.example/g00553/impl.errNone" && x.1 != "loop.example/g00553/impl.errRange" && x.1 != "loop.example/g00553/impl.errLast") [("loop.example/g00553/impl.errNone", Rows.laid_loop_example_g00553_impl_errNone), ("loop.example/g00553/impl.errState", Rows.laid_loop_example_g00553_impl_errState), ("loop.example/g00553/impl.errRange", Rows.laid_loop_example_g00553_impl_errRange), ("loop.example/g00553/impl.errFull", Rows.laid_loop_example_g00553_impl_errFull), ("loop.example/g00553/impl.errLast", Rows.laid_loop_example_g00553_impl_errLast)] = [("loop.example/g00553/impl.errState", Rows.laid_loop_example_g00553_impl_errState), ("loop.example/g00553/impl.errFull", Rows.laid_loop_example_g00553_impl_errFull)] from by kernel_rfl] at k
 have h25 : laidMet Tryz.prog [("loop.example/g00553/impl.errState", Rows.laid_loop_example_g00553_impl_errState), ("loop.example/g00553/impl.errLast", Rows.laid_loop_example_g00553_impl_errLast)] W := by
  have k := h0.filter (fun x => x.1 != "loop.example/g00553/impl.errNone" && x.1 != "loop.example/g00553/impl.errRange" && x.1 != "loop.example/g00553/impl.errFull")
  rwa [show List.filter (fun x => x.1 != "loop.example/g00553/impl.errNone" && x.1 != "loop.example/g00553/impl.errRange" && x.1 != "loop.example/g00553/impl.errFull") [("loop.example/g00553/impl.errNone", Rows.laid_loop_example_g00553_impl_errNone), ("loop.example/g00553/impl.errState", Rows.laid_loop_example_g00553_impl_errState), ("loop.example/g00553/impl.errRange", Rows.laid_loop_example_g00553_impl_errRange), ("loop.example/g00553/impl.errFull", Rows.laid_loop_example_g00553_impl_errFull), ("loop.example/g00553/impl.errLast", Rows.laid_loop_example_g00553_impl_errLast)] = [("loop.example/g00553/impl.errState", Rows.laid_loop_example_g00553_impl_errState), ("loop.example/g00553/impl.errLast", Rows.laid_loop_example_g00553_impl_errLast)] from by kernel_rfl] at k
 have h35 : laidMet Tryz.prog [("loop.example/g00553/impl.errRange", Rows.laid_loop_example_g00553_impl_errRange), ("loop.example/g00553/impl.errLast", Rows.laid_loop_example_g00553_impl_errLast)] W := by
  have k := h0.filter (fun x => x.1 != "loop.example/g00553/impl.errNone" && x.1 != "loop.example/g00553/impl.errState" && x.1 != "loop.example/g00553/impl.errFull")
  rwa [show List.filter (fun x => x.1 != "loop.example/g00553/impl.errNone" && x.1 != "loop.example/g00553/impl.errState" && x.1 != "loop.example/g00553/impl.errFull") [("loop.example/g00553/impl.errNone", Rows.laid_loop_example_g00553_impl_errNone), ("loop.example/g00553/impl.errState", Rows.laid_loop_example_g00553_impl_errState), ("loop.example/g00553/impl.errRange", Rows.laid_loop_example_g00553_impl_errRange), ("loop.example/g00553/impl.errFull", Rows.laid_loop_example_g00553_impl_errFull), ("loop.example/g00553/impl.errLast", Rows.laid_loop_example_g00553_impl_errLast)] = [("loop.example/g00553/impl.errRange", Rows.laid_loop_example_g00553_impl_errRange), ("loop.example/g00553/impl.errLast", Rows.laid_loop_example_g00553_impl_errLast)] from by kernel_rfl] at k
 obtain ⟨a1,v1,c1⟩:=RH h0 Td Tv;obtain ⟨a2,v2,c2⟩:=RH h0.tail Uc Uz;obtain ⟨a3,v3,c3⟩:=RH h0.tail.tail Ub Uy;obtain ⟨a4,v4,c4⟩:=RH h0.tail.tail.tail Tb Tt;obtain ⟨a5,v5,c5⟩:=RH h0.tail.tail.tail.tail Tc Tu;obtain ⟨n12,b12a,b12b⟩:=We h0 Td Tv Uc Uz v1 v2;obtain ⟨n13,b13a,b13b⟩:=We h13 Td Tv Ub Uy v1 v3;obtain ⟨n14,b14a,b14b⟩:=We h14 Td Tv Tb Tt v1 v4;obtain ⟨n15,b15a,b15b⟩:=We h15 Td Tv Tc Tu v1 v5;obtain ⟨n23,b23a,b23b⟩:=We h0.tail Uc Uz Ub Uy v2 v3;obtain ⟨n24,b24a,b24b⟩:=We h24 Uc Uz Tb Tt v2 v4;obtain ⟨n25,b25a,b25b⟩:=We h25 Uc Uz Tc Tu v2 v5;obtain ⟨n34,b34a,b34b⟩:=We h0.tail.tail Ub Uy Tb Tt v3 v4;obtain ⟨n35,b35a,b35b⟩:=We h35 Ub Uy Tc Tu v3 v5;obtain ⟨n45,b45a,b45b⟩:=We h0.tail.tail.tail Tb Tt Tc Tu v4 v5;exact ⟨fun i=>if i=1 then a1 else if i=2 then a2 else if i=3 then a3 else if i=4 then a4 else a5,c1,c2,c3,c4,c5,ct,b12a,b12b,b23b,b34b,b45b,n12,n13,n14,n15,n23,n24,n25,n34,n35,n45⟩
end Go.Proofs.YtamgfpdahadnfaaGreatDoor
