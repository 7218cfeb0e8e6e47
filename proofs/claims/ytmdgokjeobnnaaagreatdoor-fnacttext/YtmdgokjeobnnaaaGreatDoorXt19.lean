/- Part 19 of what the proof rests on. No condition but those that a theorem names. -/
import Derived.Test.YtmdgokjeobnnaaaGreatDoorXt13
import Derived.Deep.OwnRows
namespace Go.Proofs.YtmdgokjeobnnaaaGreatDoor
open Go.ChangeShapes Go.WideShapes Go.ChangeAt Go.RowKit Go.Sort Go.Proofs.Tryz
set_option linter.unusedVariables false
set_option linter.unusedSimpArgs false
set_option maxRecDepth 100000
structure Nw (w X:World) (a:Option Addr) (rs:List Z5) (cap:Nat) (c1:Option (Option Addr × Nat × List (Z5 × Value))) (c5 c7:Option Nat):Prop where
 sz:w.heap.size+2<=X.heap.size
 v:IsRooms X (.slice a rs.length cap) rs
 kb:Blk X w.heap.size 34 #[.slice a rs.length cap]
 kr:Blk X (w.heap.size+1) 40 E6
 bb:Below w.heap.size w X
 h1:∀ ua uc qs,c1=some (ua,uc,qs)->OwnHall (w.heap.size+2) X (.slice ua rs.length uc) qs/\qs.map (·.1)=rs
 h5:∀ g,c5=some g->w.heap.size+2<=g/\g<X.heap.size/\NumsAt (w.heap.size+2) X (.slice (some ⟨g,0,none⟩) rs.length rs.length) (List.replicate rs.length 0)
 h7:∀ R,c7=some R->w.heap.size+2<=R/\Blk X R 40 E6
 d15:∀ ua uc qs g,c1=some (ua,uc,qs)->c5=some g-> ∀ k,((Value.slice ua rs.length uc).ownBlock=some k\/ ∃ q ∈ qs,q.2.ownBlock=some k)->k ≠ g
 d17:∀ ua uc qs R,c1=some (ua,uc,qs)->c7=some R-> ∀ k,((Value.slice ua rs.length uc).ownBlock=some k\/ ∃ q ∈ qs,q.2.ownBlock=some k)->k ≠ R
 d57:∀ g R,c5=some g->c7=some R->R ≠ g
section
variable {w X X' : World} {a : Option Addr} {rs : List Z5} {cap : Nat} {c1 : Option (Option Addr × Nat × List (Z5 × Value))} {c5 c7 : Option Nat}
theorem Nw.next (h:Nw w X a rs cap c1 c5 c7) (hb:Below X.heap.size X X'):Nw w X' a rs cap c1 c5 c7:=
 ⟨XA h.sz hb.size,h.v.below hb,h.kb.below hb h.kb.lt,h.kr.below hb h.kr.lt,h.bb.trans (hb.mono h.bb.size),fun ua uc qs e=>⟨(h.h1 ua uc qs e).1.later hb,(h.h1 ua uc qs e).2⟩,fun g e=>⟨(h.h5 g e).1,YH (h.h5 g e).2.1 hb.size,RecAt.later (h.h5 g e).2.2 hb⟩,fun R e=>⟨(h.h7 R e).1,(h.h7 R e).2.below hb (h.h7 R e).2.lt⟩,h.d15,h.d17,h.d57⟩
theorem Nw.make (h:Nw w X a rs cap c1 none c7) (hn:rs.length<=1000):Nw w (X.alloc (.cells (madeCells #[.int .i64 0] rs.length) 2)) a rs cap c1 (some X.heap.size) c7:=by
 have k:=h.next ((Z2 _ _).alloc (Z3 _) (.cells (madeCells #[.int .i64 0] rs.length) 2));have hs:=h.sz;refine ⟨k.sz,k.v,k.kb,k.kr,k.bb,k.h1,fun g e=> ?_,k.h7,fun ua uc qs g e1 e k' ho=> ?_,k.d17,fun g R e e7=> ?_⟩
 ·cases e;exact ⟨hs,by simp,JZ hs hn⟩
 ·cases e;have:=((h.h1 ua uc qs e1).1.lt ho).2;omega
 ·cases e;have:=(h.h7 R e7).2.lt;omega
theorem Nw.box (h:Nw w X a rs cap c1 c5 none):Nw w (X.alloc (.cells E6 40)) a rs cap c1 c5 (some X.heap.size):=by
 have k:=h.next ((Z2 _ _).alloc (Z3 _) (.cells E6 40));have hs:=h.sz;refine ⟨k.sz,k.v,k.kb,k.kr,k.bb,k.h1,k.h5,fun R e=> ?_,k.d15,fun ua uc qs R e1 e k' ho=> ?_,fun g R e5 e=> ?_⟩
 ·cases e;exact ⟨hs,Blk.new _ _ _⟩
 ·cases e;have:=((h.h1 ua uc qs e1).1.lt ho).2;omega
 ·cases e;have:=(h.h5 g e5).2.1;omega
end
theorem Nw.copy {w X:World} {a:Option Addr} {rs:List Z5} {cap:Nat} {c5 c7:Option Nat} (h:Nw w X a rs cap none c5 c7) (hn:rs.length<=1000) (hp:∀ r ∈ rs,r.2.length<=1000):Calls prog 75 #[.agg #[.slice a rs.length cap]] X fun e X'=> ∃ ua uc qs,e= .returned (.agg #[.slice ua rs.length uc])/\Hid (Nw w X' a rs cap (some (ua,uc,qs)) c5 c7):=by
 refine (Qv h.v hn hp).mono ?_;rintro e X1 ⟨v4,qs,rfl,hq4,ho4,hb4⟩;obtain ⟨ua,uc,e9⟩:=ho4.shape;have hql:qs.length=rs.length:=by have:=congrArg List.length hq4;simpa using this
 rw [hql] at e9;subst e9;have k:=h.next hb4;have hs:=h.sz;refine ⟨ua,uc,qs,rfl,Z9 ⟨k.sz,k.v,k.kb,k.kr,k.bb,fun _ _ _ e=> ?_,k.h5,k.h7,fun _ _ _ g e e5 k' ho=> ?_,fun _ _ _ R e e7 k' ho=> ?_,k.d57⟩⟩
 ·cases e;exact ⟨ho4.mono hs,hq4⟩
 ·cases e;have:=(ho4.lt ho).1;have:=(h.h5 g e5).2.1;omega
 ·cases e;have:=(ho4.lt ho).1;have:=(h.h7 R e7).2.lt;omega
theorem Sq {w X:World} {a:Option Addr} {rs:List Z5} {cap R g uc:Nat} {ua:Option Addr} {qs:List (Z5 × Value)} (h:Nw w X a rs cap (some (ua,uc,qs)) (some g) (some R)):∃ R' hv pv qs',Value.pointer (some ⟨R,0,none⟩)= .pointer (some ⟨R',0,none⟩)/\NewCut w.heap.size w a rs cap ((((((X.setCell ⟨R,0,none⟩ (.slice ua rs.length uc)).setCell ⟨R,1,none⟩ (.slice none 0 0)).setCell ⟨R,2,none⟩ (.slice none 0 0)).setCell ⟨R,3,none⟩ (.slice none 0 0)).setCell ⟨R,4,none⟩ (.slice (some ⟨g,0,none⟩) rs.length rs.length)).setCell ⟨R,5,none⟩ (.int .i64 0)) R' hv pv qs':=G5 (h.h7 _ rfl).1 h.bb h.kb h.kr (h.h1 _ _ _ rfl).1 (h.h5 _ rfl).2.2 (h.h7 _ rfl).2 (h.h5 _ rfl).1 (h.d15 _ _ _ _ rfl rfl) (h.d17 _ _ _ _ rfl rfl) (h.d57 _ _ rfl rfl) (h.h1 _ _ _ rfl).2
set_option maxHeartbeats 16000000 in
theorem Tk {w:World} {v:Value} {rs:List Z5} (h:IsRooms w v rs) :
  Calls prog 54 #[.agg #[v]] w fun e w'=>Gb w.heap.size (J7 rs) (YB rs) e w'/\Below w.heap.size w w':=by
 have Hv0:=Z9 h;obtain ⟨a,cap,rfl,hc,hm,hr⟩:=h;clear hr;obtain ⟨ok,hok⟩:=ZE (YB rs);have Hok:=Z9 hok;obtain ⟨M,hM⟩:=ZE (J7 rs);rw [hok,hM];have HM:=Z9 hM;clear hok hM;have kb:Hid (Blk ((w.alloc (.cells #[.slice a rs.length cap] 34)).alloc (.cells E6 40)) w.heap.size 34 #[.slice a rs.length cap]):=Z9 ((Blk.new w _ _).alloc _)
 have kr:Hid (Blk ((w.alloc (.cells #[.slice a rs.length cap] 34)).alloc (.cells E6 40)) (w.heap.size+1) 40 E6):=Z9 (by
  have k:=Blk.new (w.alloc (.cells #[.slice a rs.length cap] 34)) 40 E6;rw [XX] at k
  exact k)
 have BB:Hid (Below w.heap.size w ((w.alloc (.cells #[.slice a rs.length cap] 34)).alloc (.cells E6 40))):=Z9 (((ba _ _)).alloc (by simp) _);have Hv:=Z9 ((uh Hv0).below (uh BB));go_enter func54,ntmps54;go_wp2_with fail;generalize (w.alloc (.cells #[.slice a rs.length cap] 34)).alloc (.cells E6 40)=W at *;refine (V0 (uh Hv)).mono ?_;rw [uh Hok];rintro e w1 ⟨rfl,hb⟩;replace Hv:=Z9 ((uh Hv).below hb);replace kb:=bl kb hb;replace kr:=bl kr hb;replace BB:=bt BB hb;clear hb;cases ok
 ·obtain rfl:M=XG:=by rw [<-uh HM];unfold J7;rw [uh Hok];rfl
  obtain ⟨o0,o1,o2,o3,o4,o5⟩:=(uh kr).c6;obtain ⟨f0,f1,f2,f3,f4,f5⟩:=(uh kr).f6;go_wp2_with fail;refine Zz (v:= .tuple #[.agg E6,.bool false]) (by simp [results,results54,go_sem, *]) rfl ⟨⟨_,_,_,_,_,[],rfl,TN _ _⟩,?_⟩
  iterate 6 (refine YU ?_ (by show _<=w.heap.size+1;omega) _)
  exact uh BB
 obtain rfl:M=VF rs:=by rw [<-uh HM];unfold J7;rw [uh Hok];rfl
 obtain ⟨r1,r2,r3,r4⟩:=Zo (uh Hok)
 have HP:Hid (∀ r ∈ rs,r.2.length<=1000):=Z9 (fun r hr=>by
  have hrb:=List.all_eq_true.1 r3 r hr;unfold Zc at hrb;simp only [ZR] at hrb;have:=ZS hrb.2.1
  omega)
 have hmk:∀ X:World,(Instr.makeSlice 38 (.int .i64 (rs.length:Int)) (.int .i64 (rs.length:Int))).run prog X= .ok (.slice (some ⟨X.heap.size,0,none⟩) rs.length rs.length) (X.alloc (.cells (madeCells #[.int .i64 0] rs.length) 2)):=fun X=>run_make_row' 38 2 (.int .i64 0) 8 underlying38 (by kernel_rfl) rfl .i64 .i64 rs.length (by omega) (by omega) X;have Hb12:Hid (1<=ZV rs/\ZV rs<=8):=Z9 ⟨Sf (uh Hok),r4⟩;clear r3 r4;have c0:=(uh kb).cell (i:=0) (v:= .slice a rs.length cap) rfl;go_wp2_with fail
 go_cut [4] (fun s wc=> ∃ R hv pv qs,s= .pointer (some ⟨R,0,none⟩)/\NewCut w.heap.size w a rs cap wc R hv pv qs)
 case first=>
  have H:Hid (Nw w w1.drew a rs cap none none none):=Z9 ⟨by have:=(uh kr).lt;show _<=w1.heap.size;omega,(uh Hv).below (Z2 _ _).drew,(uh kb).below (Z2 _ _).drew (uh kb).lt,(uh kr).below (Z2 _ _).drew (uh kr).lt,(uh BB).drew,fun _ _ _ e=>(by cases e),fun _ e=>(by cases e),fun _ e=>(by cases e),fun _ _ _ _ e=>(by cases e),fun _ _ _ _ e=>(by cases e),fun _ _ e=>(by cases e)⟩;refine ZN (S:=(fun w'=>w'.cell? ⟨w.heap.size,0,none⟩=some (.slice a rs.length cap))) (by kernel_rfl) (WV _ _) (by kernel_rfl) c0 (fun hHeld=> ?_);simp only [WW,WX,Zn,Y2,Nat.zero_add,Nat.reduceAdd];clear c0 kb kr Hv BB;generalize w1.drew=X0 at *;refine tp 0 ?_;refine tp 2 ?_;refine tp 3 ?_;refine tp 4 ?_;refine wpAnyH_ready (rs:=[1,5,7]) (by kernel_rfl) (by simp) ?_;refine AllReadyH.cons rfl (fun K hK=> ?_) (AllReadyH.cons rfl (fun K hK=> ?_) (AllReadyH.cons rfl (fun K hK=> ?_) (AllReadyH.nil)))
  ·go_simp
   refine ((uh H).copy (by omega) (uh HP)).mono ?_;rintro e9 X1 ⟨ua,uc,qs,rfl,H⟩;refine hK.out _ _ ((uh H).kb.cell (i:=0) rfl) (fun hHeld=> ?_);clear hK K
   (try simp only [Act.put,sA,sZ,sS])
   refine wpAnyH_ready (rs:=[5,7]) (by kernel_rfl) (by simp) ?_;refine AllReadyH.cons rfl (fun K hK=> ?_) (AllReadyH.cons rfl (fun K hK=> ?_) (AllReadyH.nil))
   ·go_simp
    replace H:=Z9 ((uh H).make (by omega));refine hK.out _ _ ((uh H).kb.cell (i:=0) rfl) (fun hHeld=> ?_);clear hK K;generalize X1.alloc (.cells (madeCells #[.int .i64 0] rs.length) 2)=X2 at *;generalize X1.heap.size=g5 at *
    (try simp only [Act.put,sA,sZ,sS])
    refine tp 6 ?_;refine wpAnyH_ready (rs:=[7]) (by kernel_rfl) (by simp) ?_;refine AllReadyH.cons rfl (fun K hK=> ?_) (AllReadyH.nil)
    ·go_simp
     replace H:=Z9 ((uh H).box);refine hK.out _ _ ((uh H).kb.cell (i:=0) rfl) (fun hHeld=> ?_);clear hK K;generalize X2.alloc (.cells E6 40)=X3 at *;generalize X2.heap.size=g7 at *
     (try simp only [Act.put,sA,sZ,sS])
     refine wpAnyH_done (by kernel_rfl) ?_ _;refine ZH rfl rfl ?_;go_simp;have m0:=((uh H).h7 _ rfl).2.cell (i:=0) (v:= .slice none 0 0) rfl;have n0:=((uh H).h7 _ rfl).2.free 0;have m1:=((uh H).h7 _ rfl).2.cell (i:=1) (v:= .slice none 0 0) rfl;have n1:=((uh H).h7 _ rfl).2.free 1;have m2:=((uh H).h7 _ rfl).2.cell (i:=2) (v:= .slice none 0 0) rfl;have n2:=((uh H).h7 _ rfl).2.free 2;have m3:=((uh H).h7 _ rfl).2.cell (i:=3) (v:= .slice none 0 0) rfl;have n3:=((uh H).h7 _ rfl).2.free 3;have m4:=((uh H).h7 _ rfl).2.cell (i:=4) (v:= .slice none 0 0) rfl;have n4:=((uh H).h7 _ rfl).2.free 4;have m5:=((uh H).h7 _ rfl).2.cell (i:=5) (v:= .int .i64 0) rfl;have n5:=((uh H).h7 _ rfl).2.free 5;go_wp2_with fail
     all_goals
      go_meet;exact Sq (uh H)
   ·go_simp
    replace H:=Z9 ((uh H).box);refine hK.out _ _ ((uh H).kb.cell (i:=0) rfl) (fun hHeld=> ?_);clear hK K;generalize X1.alloc (.cells E6 40)=X2 at *;generalize X1.heap.size=g7 at *
    (try simp only [Act.put,sA,sZ,sS])
    refine wpAnyH_ready (rs:=[5]) (by kernel_rfl) (by simp) ?_;refine AllReadyH.cons rfl (fun K hK=> ?_) (AllReadyH.nil)
    ·go_simp
     replace H:=Z9 ((uh H).make (by omega));refine hK.out _ _ ((uh H).kb.cell (i:=0) rfl) (fun hHeld=> ?_);clear hK K;generalize X2.alloc (.cells (madeCells #[.int .i64 0] rs.length) 2)=X3 at *;generalize X2.heap.size=g5 at *
     (try simp only [Act.put,sA,sZ,sS])
     refine tp 6 ?_;refine wpAnyH_done (by kernel_rfl) ?_ _;refine ZH rfl rfl ?_;go_simp;have m0:=((uh H).h7 _ rfl).2.cell (i:=0) (v:= .slice none 0 0) rfl;have n0:=((uh H).h7 _ rfl).2.free 0;have m1:=((uh H).h7 _ rfl).2.cell (i:=1) (v:= .slice none 0 0) rfl;have n1:=((uh H).h7 _ rfl).2.free 1;have m2:=((uh H).h7 _ rfl).2.cell (i:=2) (v:= .slice none 0 0) rfl;have n2:=((uh H).h7 _ rfl).2.free 2;have m3:=((uh H).h7 _ rfl).2.cell (i:=3) (v:= .slice none 0 0) rfl;have n3:=((uh H).h7 _ rfl).2.free 3;have m4:=((uh H).h7 _ rfl).2.cell (i:=4) (v:= .slice none 0 0) rfl;have n4:=((uh H).h7 _ rfl).2.free 4;have m5:=((uh H).h7 _ rfl).2.cell (i:=5) (v:= .int .i64 0) rfl;have n5:=((uh H).h7 _ rfl).2.free 5;go_wp2_with fail
     all_goals
      go_meet;exact Sq (uh H)
  ·go_simp
   replace H:=Z9 ((uh H).make (by omega));refine hK.out _ _ ((uh H).kb.cell (i:=0) rfl) (fun hHeld=> ?_);clear hK K;generalize X0.alloc (.cells (madeCells #[.int .i64 0] rs.length) 2)=X1 at *;generalize X0.heap.size=g5 at *
   (try simp only [Act.put,sA,sZ,sS])
   refine wpAnyH_ready (rs:=[1,7]) (by kernel_rfl) (by simp) ?_;refine AllReadyH.cons rfl (fun K hK=> ?_) (AllReadyH.cons rfl (fun K hK=> ?_) (AllReadyH.nil))
   ·go_simp
    refine ((uh H).copy (by omega) (uh HP)).mono ?_;rintro e9 X2 ⟨ua,uc,qs,rfl,H⟩;refine hK.out _ _ ((uh H).kb.cell (i:=0) rfl) (fun hHeld=> ?_);clear hK K
    (try simp only [Act.put,sA,sZ,sS])
    refine tp 6 ?_;refine wpAnyH_ready (rs:=[7]) (by kernel_rfl) (by simp) ?_;refine AllReadyH.cons rfl (fun K hK=> ?_) (AllReadyH.nil)
    ·go_simp
     replace H:=Z9 ((uh H).box);refine hK.out _ _ ((uh H).kb.cell (i:=0) rfl) (fun hHeld=> ?_);clear hK K;generalize X2.alloc (.cells E6 40)=X3 at *;generalize X2.heap.size=g7 at *
     (try simp only [Act.put,sA,sZ,sS])
     refine wpAnyH_done (by kernel_rfl) ?_ _;refine ZH rfl rfl ?_;go_simp;have m0:=((uh H).h7 _ rfl).2.cell (i:=0) (v:= .slice none 0 0) rfl;have n0:=((uh H).h7 _ rfl).2.free 0;have m1:=((uh H).h7 _ rfl).2.cell (i:=1) (v:= .slice none 0 0) rfl;have n1:=((uh H).h7 _ rfl).2.free 1;have m2:=((uh H).h7 _ rfl).2.cell (i:=2) (v:= .slice none 0 0) rfl;have n2:=((uh H).h7 _ rfl).2.free 2;have m3:=((uh H).h7 _ rfl).2.cell (i:=3) (v:= .slice none 0 0) rfl;have n3:=((uh H).h7 _ rfl).2.free 3;have m4:=((uh H).h7 _ rfl).2.cell (i:=4) (v:= .slice none 0 0) rfl;have n4:=((uh H).h7 _ rfl).2.free 4;have m5:=((uh H).h7 _ rfl).2.cell (i:=5) (v:= .int .i64 0) rfl;have n5:=((uh H).h7 _ rfl).2.free 5;go_wp2_with fail
     all_goals
      go_meet;exact Sq (uh H)
   ·go_simp
    replace H:=Z9 ((uh H).box);refine hK.out _ _ ((uh H).kb.cell (i:=0) rfl) (fun hHeld=> ?_);clear hK K;generalize X1.alloc (.cells E6 40)=X2 at *;generalize X1.heap.size=g7 at *
    (try simp only [Act.put,sA,sZ,sS])
    refine wpAnyH_ready (rs:=[1]) (by kernel_rfl) (by simp) ?_;refine AllReadyH.cons rfl (fun K hK=> ?_) (AllReadyH.nil)
    ·go_simp
     refine ((uh H).copy (by omega) (uh HP)).mono ?_;rintro e9 X3 ⟨ua,uc,qs,rfl,H⟩;refine hK.out _ _ ((uh H).kb.cell (i:=0) rfl) (fun hHeld=> ?_);clear hK K
     (try simp only [Act.put,sA,sZ,sS])
     refine tp 6 ?_;refine wpAnyH_done (by kernel_rfl) ?_ _;refine ZH rfl rfl ?_;go_simp;have m0:=((uh H).h7 _ rfl).2.cell (i:=0) (v:= .slice none 0 0) rfl;have n0:=((uh H).h7 _ rfl).2.free 0;have m1:=((uh H).h7 _ rfl).2.cell (i:=1) (v:= .slice none 0 0) rfl;have n1:=((uh H).h7 _ rfl).2.free 1;have m2:=((uh H).h7 _ rfl).2.cell (i:=2) (v:= .slice none 0 0) rfl;have n2:=((uh H).h7 _ rfl).2.free 2;have m3:=((uh H).h7 _ rfl).2.cell (i:=3) (v:= .slice none 0 0) rfl;have n3:=((uh H).h7 _ rfl).2.free 3;have m4:=((uh H).h7 _ rfl).2.cell (i:=4) (v:= .slice none 0 0) rfl;have n4:=((uh H).h7 _ rfl).2.free 4;have m5:=((uh H).h7 _ rfl).2.cell (i:=5) (v:= .int .i64 0) rfl;have n5:=((uh H).h7 _ rfl).2.free 5;go_wp2_with fail
     all_goals
      go_meet;exact Sq (uh H)
  ·go_simp
   replace H:=Z9 ((uh H).box);refine hK.out _ _ ((uh H).kb.cell (i:=0) rfl) (fun hHeld=> ?_);clear hK K;generalize X0.alloc (.cells E6 40)=X1 at *;generalize X0.heap.size=g7 at *
   (try simp only [Act.put,sA,sZ,sS])
   refine wpAnyH_ready (rs:=[1,5]) (by kernel_rfl) (by simp) ?_;refine AllReadyH.cons rfl (fun K hK=> ?_) (AllReadyH.cons rfl (fun K hK=> ?_) (AllReadyH.nil))
   ·go_simp
    refine ((uh H).copy (by omega) (uh HP)).mono ?_;rintro e9 X2 ⟨ua,uc,qs,rfl,H⟩;refine hK.out _ _ ((uh H).kb.cell (i:=0) rfl) (fun hHeld=> ?_);clear hK K
    (try simp only [Act.put,sA,sZ,sS])
    refine wpAnyH_ready (rs:=[5]) (by kernel_rfl) (by simp) ?_;refine AllReadyH.cons rfl (fun K hK=> ?_) (AllReadyH.nil)
    ·go_simp
     replace H:=Z9 ((uh H).make (by omega));refine hK.out _ _ ((uh H).kb.cell (i:=0) rfl) (fun hHeld=> ?_);clear hK K;generalize X2.alloc (.cells (madeCells #[.int .i64 0] rs.length) 2)=X3 at *;generalize X2.heap.size=g5 at *
     (try simp only [Act.put,sA,sZ,sS])
     refine tp 6 ?_;refine wpAnyH_done (by kernel_rfl) ?_ _;refine ZH rfl rfl ?_;go_simp;have m0:=((uh H).h7 _ rfl).2.cell (i:=0) (v:= .slice none 0 0) rfl;have n0:=((uh H).h7 _ rfl).2.free 0;have m1:=((uh H).h7 _ rfl).2.cell (i:=1) (v:= .slice none 0 0) rfl;have n1:=((uh H).h7 _ rfl).2.free 1;have m2:=((uh H).h7 _ rfl).2.cell (i:=2) (v:= .slice none 0 0) rfl;have n2:=((uh H).h7 _ rfl).2.free 2;have m3:=((uh H).h7 _ rfl).2.cell (i:=3) (v:= .slice none 0 0) rfl;have n3:=((uh H).h7 _ rfl).2.free 3;have m4:=((uh H).h7 _ rfl).2.cell (i:=4) (v:= .slice none 0 0) rfl;have n4:=((uh H).h7 _ rfl).2.free 4;have m5:=((uh H).h7 _ rfl).2.cell (i:=5) (v:= .int .i64 0) rfl;have n5:=((uh H).h7 _ rfl).2.free 5;go_wp2_with fail
     all_goals
      go_meet;exact Sq (uh H)
   ·go_simp
    replace H:=Z9 ((uh H).make (by omega));refine hK.out _ _ ((uh H).kb.cell (i:=0) rfl) (fun hHeld=> ?_);clear hK K;generalize X1.alloc (.cells (madeCells #[.int .i64 0] rs.length) 2)=X2 at *;generalize X1.heap.size=g5 at *
    (try simp only [Act.put,sA,sZ,sS])
    refine wpAnyH_ready (rs:=[1]) (by kernel_rfl) (by simp) ?_;refine AllReadyH.cons rfl (fun K hK=> ?_) (AllReadyH.nil)
    ·go_simp
     refine ((uh H).copy (by omega) (uh HP)).mono ?_;rintro e9 X3 ⟨ua,uc,qs,rfl,H⟩;refine hK.out _ _ ((uh H).kb.cell (i:=0) rfl) (fun hHeld=> ?_);clear hK K
     (try simp only [Act.put,sA,sZ,sS])
     refine tp 6 ?_;refine wpAnyH_done (by kernel_rfl) ?_ _;refine ZH rfl rfl ?_;go_simp;have m0:=((uh H).h7 _ rfl).2.cell (i:=0) (v:= .slice none 0 0) rfl;have n0:=((uh H).h7 _ rfl).2.free 0;have m1:=((uh H).h7 _ rfl).2.cell (i:=1) (v:= .slice none 0 0) rfl;have n1:=((uh H).h7 _ rfl).2.free 1;have m2:=((uh H).h7 _ rfl).2.cell (i:=2) (v:= .slice none 0 0) rfl;have n2:=((uh H).h7 _ rfl).2.free 2;have m3:=((uh H).h7 _ rfl).2.cell (i:=3) (v:= .slice none 0 0) rfl;have n3:=((uh H).h7 _ rfl).2.free 3;have m4:=((uh H).h7 _ rfl).2.cell (i:=4) (v:= .slice none 0 0) rfl;have n4:=((uh H).h7 _ rfl).2.free 4;have m5:=((uh H).h7 _ rfl).2.cell (i:=5) (v:= .int .i64 0) rfl;have n5:=((uh H).h7 _ rfl).2.free 5;go_wp2_with fail
     all_goals
      go_meet;exact Sq (uh H)
 case rest=>
  obtain ⟨R,hv,pv,qs,rfl,hcut⟩:=hcut;obtain ⟨w2,rfl⟩:∃ x,x=wc:=⟨wc,rfl⟩
  obtain ⟨ua,uc,rfl⟩:=hcut.hshape;obtain ⟨pa,pc,rfl⟩:=hcut.pshape;have HC:=Z9 hcut;clear hcut c0 kb kr BB Hv;have Hv:=Z9 ((uh Hv0).below (uh HC).bel);have c0:=(uh HC).kb.cell (i:=0) (v:= .slice a rs.length cap) rfl;go_wp2_with fail;refine ck (Ug (uh Hv) (O7 (uh Hok))) fun w3 hb=> ?_;replace HC:=Z9 ((uh HC).below hb);clear hb c0;obtain ⟨n,hn⟩:∃ n:Nat,ZV rs=(n:Int):=⟨(ZV rs).toNat,by have:=(uh Hb12).1;omega⟩
  have hn8:n<=8:=by have:=(uh Hb12).2;omega
  have HnM:Hid (VF rs=⟨rs,[],[],List.replicate n (true,-1,0),List.replicate rs.length 0,0⟩):=Z9 (by unfold VF;rw [hn];rfl);rw [hn];clear hn;go_wp2_with fail
  go_loopw [5] (fun i wr=> ∃ (k:Nat) (u:Value),k<=n/\i= .int .i64 ((n:Int)-(k:Int))/\Blk wr R 40 #[.slice ua rs.length uc,.slice none 0 0,.slice none 0 0,u,.slice pa rs.length pc,.int .i64 0]/\DesksAt (w.heap.size+2) wr u (List.replicate k (true,-1,0))/\NewOff w.heap.size rs wr R (.slice ua rs.length uc) (.slice pa rs.length pc) u qs/\Blk wr (w.heap.size+1) 40 E6/\Below w.heap.size w wr) (fun i _=>(intOf i).toNat)
  case atStart=>exact ⟨0,.slice none 0 0,Zi _,by simp,(uh HC).km,I7 _ _,(uh HC).off,(uh HC).kr,(uh HC).bel⟩
  case round=>
   obtain ⟨k,u,hk,rfl,km,hd,hoff,hkr,hbb⟩:=hrel;obtain ⟨da,dc,rfl⟩:=RecAt.shape hd;rw [List.length_replicate] at km hd hoff;have KM:=Z9 km;have HD:=Z9 hd;have HF:=Z9 hoff;have kr:=Z9 hkr;have BB:=Z9 hbb;clear km hd hoff hkr hbb HC;have m3:=(uh KM).cell (i:=3) (v:= .slice da k dc) rfl;have n3:=(uh KM).free 3;have hRlt:=(uh KM).lt;have hRo:=(uh HF).rlo;by_cases hlt:k<n
   ·have hsx:=(uh BB).size
    have hkn:((k:Int)<(n:Int)):=by omega
    have hpos:(0:Int)<(n:Int)-(k:Int):=by omega
    have hbase:w.heap.size+2<=wr.heap.size:=by omega
    obtain ⟨u9,w9,hrun9,hown9,hg9,hat9⟩:=Xn tyD (w:=wr.alloc (.cells #[.bool true,.int .i64 (-1),.int .i64 0] 82)) (t:=37) (ty:=37) (base:=w.heap.size+2) underlying37 (RecAt.later (uh HD) ((ba _ _))) (Uo (w:=wr) (g:=wr.heap.size) (c:=1) ((true,-1,0):WC) rfl (Z3 _) (by omega)) (by simp;omega) (by simp;omega);obtain ⟨da9,dc9,rfl⟩:=RecAt.shape hown9;have hlen9:(List.replicate k ((true,-1,0):WC)++[(true,-1,0)]).length=k+1:=by simp
    rw [hlen9] at hrun9 hown9 hat9;have hrep:List.replicate k ((true,-1,0):WC)++[(true,-1,0)]=List.replicate (k+1) (true,-1,0):=by rw [List.replicate_succ']
    rw [hrep] at hown9;have HR9:=Z9 hrun9;have HO9:=Z9 hown9;have hRd:(Value.slice da k dc).ownBlock ≠ some R:=(uh HF).rd;have hgo:∀ i,(Value.slice da k dc).ownBlock=some i->w.heap.size+2<=i:=fun i e=>(RecAt.lt (uh HD) e).1;have hb9:Below (w.heap.size+2) wr w9:=((Z2 _ _).alloc hbase _).trans ((Z2 _ _).grown hg9 (by simp;omega) hgo);have KM9:=(((uh KM).alloc (.cells #[.bool true,.int .i64 (-1),.int .i64 0] 82)).same (hg9.block R (by simp;omega) (fun e=>hRd e.symm)))
    have t3:=KM9.cell (i:=3) (v:= .slice da k dc) rfl;have s3:=KM9.free 3;have HF9:=Z9 ((uh HF).grow hg9 hat9);have HKM9:=Z9 (KM9.set 3 (.slice da9 (k+1) dc9));have Hb9:=Z9 hb9;clear hrun9 hown9 hg9 hat9 KM9 hrep hlen9 hgo;go_wp2_with (at_builtin;refine Tp rfl (.tmp 24) (.tmp 26) 37 rfl rfl rfl (uh HR9) ?_)
    go_wp2_with fail;go_roundw
    case rel=>
     refine ⟨k+1,.slice da9 (k+1) dc9,by omega,by go_num,uh HKM9,?_,(uh HF9).set_R _ _,?_,?_⟩
     ·exact RecAt.same (uh HO9) fun i hi=>heap_setCell_other _ _ _ _ (fun e=>by have:=(uh HF9).rd;rw [hi] at this;exact this (by rw [e]))
     ·exact ((uh kr).below (uh Hb9) (by omega)).other (by show w.heap.size+1 ≠ R;omega) _
     ·exact ((uh BB).trans ((uh Hb9).mono (by omega))).setCell (by show _<=R;omega) _
    case measure=>exact ms
   ·obtain rfl:k=n:=by omega
    have hpos:¬ ((0:Int)<(k:Int)-(k:Int)):=by omega
    have m0:=(uh KM).cell (i:=0) (v:= .slice ua rs.length uc) rfl;have m1:=(uh KM).cell (i:=1) (v:= .slice none 0 0) rfl;have m2:=(uh KM).cell (i:=2) (v:= .slice none 0 0) rfl;have m4:=(uh KM).cell (i:=4) (v:= .slice pa rs.length pc) rfl;have m5:=(uh KM).cell (i:=5) (v:= .int .i64 0) rfl;obtain ⟨o0,o1,o2,o3,o4,o5⟩:=(uh kr).c6;obtain ⟨f0,f1,f2,f3,f4,f5⟩:=(uh kr).f6;go_wp2_with fail;refine Zz (v:= .tuple #[.agg #[.slice ua rs.length uc,.slice none 0 0,.slice none 0 0,.slice da k dc,.slice pa rs.length pc,.int .i64 0],.bool true]) (by simp [results,results54,go_sem, *]) rfl ⟨?_,?_⟩
    ·rw [uh HnM]
     refine ⟨_,_,_,_,_,qs,rfl,?_⟩
     iterate 6 (refine FullSmy.set_off ?_ (fun i e=>by have:=((uh HF).full (uh HD)).own e;omega) _ _)
     exact ((uh HF).full (uh HD)).mono (by omega)
    ·iterate 6 (refine YU ?_ (by show _<=w.heap.size+1;omega) _)
     exact uh BB
end Go.Proofs.YtmdgokjeobnnaaaGreatDoor
