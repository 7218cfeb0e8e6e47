/- Part 40 of what the proof rests on. No condition but those that a theorem names. -/
import Derived.Test.YtamgfpdahadnfaaGreatDoorXf42
import Derived.Test.YtamgfpdahadnfaaGreatDoorXf36
set_option maxHeartbeats 8000000
set_option maxRecDepth 100000
namespace Go.Proofs.YtamgfpdahadnfaaGreatDoor
open Go.ChangeShapes Go.WideShapes Go.ChangeAt Go.RowKit Go.Sort
open Draw (St Off Row Cur)
set_option linter.unusedVariables false
set_option linter.unusedSimpArgs false
set_option maxRecDepth 100000
structure Wbox (a:Option Addr) (len cap cb rb mb:Nat) (w W:World) (M:Z6) (u0 u1 u2 u3 u4:Value) (rq:List (ZZ × Value)):Prop where
 st:St a len cap cb W
 kr:Blk W rb 32 E6
 km:Blk W mb 32 #[u0,u1,u2,u3,u4,.int .i64 M.now]
 full:FullSmy (cb+1) W u0 u1 u2 u3 u4 M rq
 bb:Below w.heap.size w W
 lr:rb<cb
 lm:cb<mb
 rw:w.heap.size<=rb
section
variable {a : Option Addr} {len cap cb rb mb : Nat} {w W X : World} {M : Z6} {u0 u1 u2 u3 u4 : Value} {rq : List (ZZ × Value)}
theorem Wbox.step (h:Wbox a len cap cb rb mb w W M u0 u1 u2 u3 u4 rq) (s:St a len cap cb X) (p:Off cb W X):Wbox a len cap cb rb mb w X M u0 u1 u2 u3 u4 rq:=
 ⟨s,h.kr.away p (by have:=h.lr;omega),h.km.away p (by have:=h.lm;omega),h.full.away p (Nat.lt_succ_self _),h.bb.trans (p.below (by have:=h.lr;have:=h.rw;omega) h.bb.size),h.lr,h.lm,h.rw⟩
theorem Wbox.end (h:Wbox a len cap cb rb mb w W M u0 u1 u2 u3 u4 rq) (x0 x1 x2 x3 x4 x5:Value):FullSmy (w.heap.size+1) ((((((W.setCell ⟨rb,0,none⟩ x0).setCell ⟨rb,1,none⟩ x1).setCell ⟨rb,2,none⟩ x2).setCell ⟨rb,3,none⟩ x3).setCell ⟨rb,4,none⟩ x4).setCell ⟨rb,5,none⟩ x5) u0 u1 u2 u3 u4 M rq/\Below w.heap.size w ((((((W.setCell ⟨rb,0,none⟩ x0).setCell ⟨rb,1,none⟩ x1).setCell ⟨rb,2,none⟩ x2).setCell ⟨rb,3,none⟩ x3).setCell ⟨rb,4,none⟩ x4).setCell ⟨rb,5,none⟩ x5)/\Blk ((((((W.setCell ⟨rb,0,none⟩ x0).setCell ⟨rb,1,none⟩ x1).setCell ⟨rb,2,none⟩ x2).setCell ⟨rb,3,none⟩ x3).setCell ⟨rb,4,none⟩ x4).setCell ⟨rb,5,none⟩ x5) mb 32 #[u0,u1,u2,u3,u4,.int .i64 M.now]:=by
 have h1:=h.lr;have h2:=h.lm;have h3:=h.rw;refine ⟨?_,?_,?_⟩
 ·refine FullSmy.mono (n₀:=cb+1) ?_ (by omega)
  iterate 6 (refine FullSmy.set_off ?_ (fun k e=>by have:=(h.full.own e).1;omega) _ _)
  exact h.full
 ·iterate 6 (refine YF ?_ h3 _)
  exact h.bb
 ·iterate 6 (refine Blk.other ?_ (by show mb ≠ rb;omega) _)
  exact h.km
end
end Go.Proofs.YtamgfpdahadnfaaGreatDoor
namespace Go.Proofs.YtamgfpdahadnfaaGreatDoor
open Go.ChangeShapes Go.WideShapes Go.ChangeAt Go.RowKit Go.Sort
open Draw (St Off Row Cur)
set_option linter.unusedVariables false
set_option linter.unusedSimpArgs false
set_option maxRecDepth 100000
theorem LU (a:Option Addr) (len cap:Nat) (w:World) (hr:Row w.heap.size w a len) :
  Calls Tryz.prog 31 #[.slice a len cap] w fun e w'=> ∃ M u0 u1 u2 u3 u4 x rq,e= .returned (.tuple #[.agg #[u0,u1,u2,u3,u4,.int .i64 M.now],.int .i64 x])/\FullSmy (w.heap.size+1) w' u0 u1 u2 u3 u4 M rq/\Below w.heap.size w w':=by
 have Hr:=Z9 (Draw.row_later hr ((Z1 _ _).alloc (Z2 _) (.cells E6 32)));clear hr;go_enter Tryz.func31,Tryz.ntmps31;go_wp2_with fail;have kr:Hid (Blk (w.alloc (.cells E6 32)) w.heap.size 32 E6):=Z9 (Blk.new _ _ _);have BB:Hid (Below w.heap.size w (w.alloc (.cells E6 32))):=Z9 ((ba _ _));have hzW:w.heap.size<(w.alloc (.cells E6 32)).heap.size:=by simp
 generalize w.alloc (.cells E6 32)=W at *;refine (Draw.new_any a len cap _ (uh Hr)).mono ?_;rintro e w1 ⟨rfl,s1,o1⟩;have Hs:=Z9 s1;replace kr:=Z9 ((uh kr).away o1 (by omega));replace BB:=Z9 ((uh BB).trans (o1.below (by omega) (uh BB).size));clear s1 o1 Hr;generalize W.heap.size=cb at *;go_wp2_with fail;refine (Rr a len cap cb _ (uh Hs)).mono ?_;rintro e w2 ⟨M,u0,u1,u2,u3,u4,rq,rfl,hm2,hm3,hf,s2,o2⟩;have hc1:=Wa (uh Hs);have k6:=hf.smy;obtain ⟨b0,q0,b1,q1,b2,q2,b3,q3,b4,q4,rfl,rfl,rfl,rfl,rfl,_,_,_,_,_,_,_,_,_,_⟩:=k6.five;have hb:Below w2.heap.size w2 (w2.alloc (.cells (S6 b0 q0 b1 q1 b2 q2 b3 q3 b4 q4 M) 32)):=ba _ _;have HW:Hid (Wbox a len cap cb w.heap.size w2.heap.size w (w2.alloc (.cells (S6 b0 q0 b1 q1 b2 q2 b3 q3 b4 q4 M) 32)) M (.slice b0 M.rm.length q0) (.slice b1 M.gd.length q1) (.slice b2 M.sm.length q2) (.slice b3 M.dk.length q3) (.slice b4 M.pc.length q4) rq):=Z9 ⟨s2.alloc _,((uh kr).away o2 (by omega)).alloc _,Blk.new _ _ _,(hf.mono (n₁:=cb+1) (by omega)).below hb,((uh BB).trans (o2.below (by omega) (uh BB).size)).trans (hb.mono (by have:=(uh BB).size;have:=o2.size;omega)),by omega,Wa s2,Z2 _⟩;have Hm2:=Z9 hm2;have Hm3:=Z9 hm3;clear hm2 hm3 hf s2 o2 k6 hb kr BB Hs hc1 hzW;go_upto_region 3 with fail;generalize w2.alloc (.cells (S6 b0 q0 b1 q1 b2 q2 b3 q3 b4 q4 M) 32)=W2 at *;generalize w2.heap.size=mb at *;have hkl:M.dk.length<=1000000:=by have:=(uh Hm3);omega
 obtain ⟨x0,x1,x2,x3,x4,x5⟩:=(uh HW).km.c6;go_wp2_with fail;refine (Td a len cap cb _ _ _ _ _ _ _ _ _ _ _ _ _ _ _ _ hkl _ (uh HW).st).mono ?_;rintro e w3 ⟨x,rfl,s9,p9⟩;replace HW:=Z9 ((uh HW).step s9 p9);clear s9 p9 x0 x1 x2 x3 x4 x5;go_wp2_with fail
 go_loopw [6,7] (fun s i wr=> ∃ (x:Int) (k:Nat),s= .int .i64 x/\k<=M.dk.length/\i= .int .i64 k/\Wbox a len cap cb w.heap.size mb w wr M (.slice b0 M.rm.length q0) (.slice b1 M.gd.length q1) (.slice b2 M.sm.length q2) (.slice b3 M.dk.length q3) (.slice b4 M.pc.length q4) rq) (fun _ i _=>M.dk.length-(intOf i).toNat)
 case atStart=>exact ⟨x,0,rfl,Zz _,rfl,uh HW⟩
 case round=>
  obtain ⟨x,k,rfl,hk,rfl,hw⟩:=hrel;replace HW:=Z9 hw;clear hw;have x3:=(uh HW).km.cell (i:=3) (v:= .slice b3 M.dk.length q3) rfl;by_cases hlt:k<M.dk.length
  ·
   have hlt1:(k:Int)<(M.dk.length:Int):=by omega
   obtain ⟨g3,hga,_,hg3w,hc3,_⟩:=RecAt.view ZH (by omega) (uh HW).full.dk rfl (by omega);cases hga;have s0:=hc3 k hlt 0 _ rfl;simp only [Nat.add_zero] at s0;clear hc3;obtain ⟨op,hop⟩:∃ q,(Z8 M.dk k).1=q:=⟨_,rfl⟩
   rw [hop] at s0;clear hop;cases op
   ·go_wp2_with fail
    refine (Draw.once_any a len cap cb 3 (by omega) (by omega) _ (uh HW).st).mono ?_;rintro e w4 ⟨bq,rfl,s9,p9⟩;replace HW:=Z9 ((uh HW).step s9 p9);clear s9 p9 x3 s0;cases bq
    all_goals
     go_wp2_with fail;go_roundw
     case rel=>exact ⟨_,k+1,rfl,by omega,by go_num,uh HW⟩
     case measure=>exact ms
   ·go_wp2_with fail
    go_roundw
    case rel=>exact ⟨_,k+1,rfl,by omega,by go_num,uh HW⟩
    case measure=>exact ms
  ·
   obtain rfl:k=M.dk.length:=by omega
   clear x3;obtain ⟨y0,y1,y2,y3,y4,y5⟩:=(uh HW).km.c6;have o0:=(uh HW).kr.cell (i:=0) (v:= .slice none 0 0) rfl;have f0:=(uh HW).kr.free 0;have o1:=(uh HW).kr.cell (i:=1) (v:= .slice none 0 0) rfl;have f1:=(uh HW).kr.free 1;have o2:=(uh HW).kr.cell (i:=2) (v:= .slice none 0 0) rfl;have f2:=(uh HW).kr.free 2;have o3:=(uh HW).kr.cell (i:=3) (v:= .slice none 0 0) rfl;have f3:=(uh HW).kr.free 3;have o4:=(uh HW).kr.cell (i:=4) (v:= .slice none 0 0) rfl;have f4:=(uh HW).kr.free 4;have o5:=(uh HW).kr.cell (i:=5) (v:= .int .i64 0) rfl;have f5:=(uh HW).kr.free 5;obtain ⟨F9,B9,_⟩:=(uh HW).end (.slice b0 M.rm.length q0) (.slice b1 M.gd.length q1) (.slice b2 M.sm.length q2) (.slice b3 M.dk.length q3) (.slice b4 M.pc.length q4) (.int .i64 M.now);have HF9:=Z9 F9;have HB9:=Z9 B9;clear F9 B9;go_wp2_with fail;exact ZQ (v:= .tuple #[.agg (S6 b0 q0 b1 q1 b2 q2 b3 q3 b4 q4 M),.int .i64 x]) (by simp [results,Tryz.results31,go_sem, *]) rfl ⟨M,_,_,_,_,_,x,rq,rfl,uh HF9,uh HB9⟩
theorem LS (a:Option Addr) (len cap:Nat) (w:World) (hr:Row w.heap.size w a len) :
  Calls Tryz.prog 29 #[.slice a len cap] w fun e w'=> ∃ M u0 u1 u2 u3 u4 x rq,e= .returned (.tuple #[.agg #[u0,u1,u2,u3,u4,.int .i64 M.now],.int .i64 x])/\FullSmy (w.heap.size+1) w' u0 u1 u2 u3 u4 M rq/\Below w.heap.size w w':=by
 have Hr:=Z9 (Draw.row_later hr ((Z1 _ _).alloc (Z2 _) (.cells E6 32)));clear hr;go_enter Tryz.func29,Tryz.ntmps29;go_wp2_with fail;have kr:Hid (Blk (w.alloc (.cells E6 32)) w.heap.size 32 E6):=Z9 (Blk.new _ _ _);have BB:Hid (Below w.heap.size w (w.alloc (.cells E6 32))):=Z9 ((ba _ _));have hzW:w.heap.size<(w.alloc (.cells E6 32)).heap.size:=by simp
 generalize w.alloc (.cells E6 32)=W at *;refine (D7 a len cap _ (uh Hr)).mono ?_;rintro e w2 ⟨M,u0,u1,u2,u3,u4,x,rq,rfl,hm,hb⟩;have HF:=Z9 hm;have k6:=hm.smy;obtain ⟨b0,q0,b1,q1,b2,q2,b3,q3,b4,q4,rfl,rfl,rfl,rfl,rfl,_,_,_,_,_,_,_,_,_,_⟩:=k6.five;replace kr:=Z9 ((uh kr).below hb hzW);replace BB:=bt BB hb;clear hm hb Hr k6;generalize W.heap.size=cb at *;obtain ⟨o0,o1,o2,o3,o4,o5⟩:=(uh kr).c6;obtain ⟨f0,f1,f2,f3,f4,f5⟩:=(uh kr).f6;go_wp2_with fail;refine ZQ (v:= .tuple #[.agg (S6 b0 q0 b1 q1 b2 q2 b3 q3 b4 q4 M),.int .i64 x]) (by simp [results,Tryz.results29,go_sem, *]) rfl ⟨M,_,_,_,_,_,x,rq,rfl,?_,?_⟩
 ·refine FullSmy.mono (n₀:=cb+1) ?_ (by omega)
  iterate 6 (refine FullSmy.set ?_ _ _ _ (by omega))
  exact uh HF
 ·iterate 6 (refine YF ?_ (by show w.heap.size<=w.heap.size;omega) _)
  exact uh BB
end Go.Proofs.YtamgfpdahadnfaaGreatDoor
