/- Part 19 of what the proof rests on. No condition but those that a theorem names. -/
import Derived.Test.YtamgfpdahadnfaaGreatDoorXh21
import Derived.Test.YtamgfpdahadnfaaGreatDoorXh18
import Derived.Deep.OwnRows
set_option maxHeartbeats 8000000
set_option maxRecDepth 100000
namespace Go.Proofs.YtamgfpdahadnfaaGreatDoor
open Go.ChangeShapes Go.WideShapes Go.ChangeAt Go.RowKit Go.Sort
set_option linter.unusedVariables false
set_option linter.unusedSimpArgs false
set_option maxRecDepth 100000
structure Nw (w X:World) (a:Option Addr) (rs:List ZZ) (cap:Nat) (c1:Option (Option Addr × Nat × List (ZZ × Value))) (c5 c7:Option Nat):Prop where
 sz:w.heap.size+2<=X.heap.size
 v:IsRooms X (.slice a rs.length cap) rs
 kb:Blk X w.heap.size 26 #[.slice a rs.length cap]
 kr:Blk X (w.heap.size+1) 32 E6
 bb:Below w.heap.size w X
 h1:∀ ua uc qs,c1=some (ua,uc,qs)->OwnHall (w.heap.size+2) X (.slice ua rs.length uc) qs/\qs.map (·.1)=rs
 h5:∀ g,c5=some g->w.heap.size+2<=g/\g<X.heap.size/\NumsAt (w.heap.size+2) X (.slice (some ⟨g,0,none⟩) rs.length rs.length) (List.replicate rs.length 0)
 h7:∀ R,c7=some R->w.heap.size+2<=R/\Blk X R 32 E6
 d15:∀ ua uc qs g,c1=some (ua,uc,qs)->c5=some g-> ∀ k,((Value.slice ua rs.length uc).ownBlock=some k\/ ∃ q ∈ qs,q.2.ownBlock=some k)->k ≠ g
 d17:∀ ua uc qs R,c1=some (ua,uc,qs)->c7=some R-> ∀ k,((Value.slice ua rs.length uc).ownBlock=some k\/ ∃ q ∈ qs,q.2.ownBlock=some k)->k ≠ R
 d57:∀ g R,c5=some g->c7=some R->R ≠ g
section
variable {w X X' : World} {a : Option Addr} {rs : List ZZ} {cap : Nat} {c1 : Option (Option Addr × Nat × List (ZZ × Value))} {c5 c7 : Option Nat}
theorem Nw.next (h:Nw w X a rs cap c1 c5 c7) (hb:Below X.heap.size X X'):Nw w X' a rs cap c1 c5 c7:=
 ⟨XH h.sz hb.size,h.v.below hb,h.kb.below hb h.kb.lt,h.kr.below hb h.kr.lt,h.bb.trans (hb.mono h.bb.size),fun ua uc qs e=>⟨(h.h1 ua uc qs e).1.later hb,(h.h1 ua uc qs e).2⟩,fun g e=>⟨(h.h5 g e).1,Zf (h.h5 g e).2.1 hb.size,RecAt.later (h.h5 g e).2.2 hb⟩,fun R e=>⟨(h.h7 R e).1,(h.h7 R e).2.below hb (h.h7 R e).2.lt⟩,h.d15,h.d17,h.d57⟩
theorem Nw.make (h:Nw w X a rs cap c1 none c7) (hn:rs.length<=1000):Nw w (X.alloc (.cells (madeCells #[.int .i64 0] rs.length) 2)) a rs cap c1 (some X.heap.size) c7:=by
 have k:=h.next ((Z1 _ _).alloc (Z2 _) (.cells (madeCells #[.int .i64 0] rs.length) 2));have hs:=h.sz;refine ⟨k.sz,k.v,k.kb,k.kr,k.bb,k.h1,fun g e=> ?_,k.h7,fun ua uc qs g e1 e k' ho=> ?_,k.d17,fun g R e e7=> ?_⟩
 ·cases e;exact ⟨hs,by simp,B7 hs hn⟩
 ·cases e;have:=((h.h1 ua uc qs e1).1.lt ho).2;omega
 ·cases e;have:=(h.h7 R e7).2.lt;omega
theorem Nw.box (h:Nw w X a rs cap c1 c5 none):Nw w (X.alloc (.cells E6 32)) a rs cap c1 c5 (some X.heap.size):=by
 have k:=h.next ((Z1 _ _).alloc (Z2 _) (.cells E6 32));have hs:=h.sz;refine ⟨k.sz,k.v,k.kb,k.kr,k.bb,k.h1,k.h5,fun R e=> ?_,k.d15,fun ua uc qs R e1 e k' ho=> ?_,fun g R e5 e=> ?_⟩
 ·cases e;exact ⟨hs,Blk.new _ _ _⟩
 ·cases e;have:=((h.h1 ua uc qs e1).1.lt ho).2;omega
 ·cases e;have:=(h.h5 g e5).2.1;omega
end
theorem Nw.copy {w X:World} {a:Option Addr} {rs:List ZZ} {cap:Nat} {c5 c7:Option Nat} (h:Nw w X a rs cap none c5 c7) (hn:rs.length<=1000) (hp:∀ r ∈ rs,r.2.length<=1000):Calls Tryz.prog 100 #[.agg #[.slice a rs.length cap]] X fun e X'=> ∃ ua uc qs,e= .returned (.agg #[.slice ua rs.length uc])/\Hid (Nw w X' a rs cap (some (ua,uc,qs)) c5 c7):=by
 refine (Mc h.v hn hp).mono ?_;rintro e X1 ⟨v4,qs,rfl,hq4,ho4,hb4⟩;obtain ⟨ua,uc,e9⟩:=ho4.shape;have hql:qs.length=rs.length:=by have:=congrArg List.length hq4;simpa using this
 rw [hql] at e9;subst e9;have k:=h.next hb4;have hs:=h.sz;refine ⟨ua,uc,qs,rfl,Z9 ⟨k.sz,k.v,k.kb,k.kr,k.bb,fun _ _ _ e=> ?_,k.h5,k.h7,fun _ _ _ g e e5 k' ho=> ?_,fun _ _ _ R e e7 k' ho=> ?_,k.d57⟩⟩
 ·cases e;exact ⟨ho4.mono hs,hq4⟩
 ·cases e;have:=(ho4.lt ho).1;have:=(h.h5 g e5).2.1;omega
 ·cases e;have:=(ho4.lt ho).1;have:=(h.h7 R e7).2.lt;omega
theorem OO {w X:World} {a:Option Addr} {rs:List ZZ} {cap R g uc:Nat} {ua:Option Addr} {qs:List (ZZ × Value)} (h:Nw w X a rs cap (some (ua,uc,qs)) (some g) (some R)):∃ R' hv pv qs',Value.pointer (some ⟨R,0,none⟩)= .pointer (some ⟨R',0,none⟩)/\NewCut w.heap.size w a rs cap ((((((X.setCell ⟨R,0,none⟩ (.slice ua rs.length uc)).setCell ⟨R,1,none⟩ (.slice none 0 0)).setCell ⟨R,2,none⟩ (.slice none 0 0)).setCell ⟨R,3,none⟩ (.slice none 0 0)).setCell ⟨R,4,none⟩ (.slice (some ⟨g,0,none⟩) rs.length rs.length)).setCell ⟨R,5,none⟩ (.int .i64 0)) R' hv pv qs':=zj (h.h7 _ rfl).1 h.bb h.kb h.kr (h.h1 _ _ _ rfl).1 (h.h5 _ rfl).2.2 (h.h7 _ rfl).2 (h.h5 _ rfl).1 (h.d15 _ _ _ _ rfl rfl) (h.d17 _ _ _ _ rfl rfl) (h.d57 _ _ rfl rfl) (h.h1 _ _ _ rfl).2
theorem PR {w:World} {v:Value} {rs:List ZZ} (h:IsRooms w v rs) :
  Calls Tryz.prog 147 #[.agg #[v]] w fun e w'=>xv w.heap.size (Cf rs) (Y2 rs) e w'/\Below w.heap.size w w':=by
 have Hv0:=Z9 h;obtain ⟨a,cap,rfl,hc,hm,hr⟩:=h;clear hr;obtain ⟨ok,hok⟩:∃ q,Y2 rs=q:=⟨_,rfl⟩
 have Hok:=Z9 hok;obtain ⟨M,hM⟩:∃ M,Cf rs=M:=⟨_,rfl⟩
 rw [hok,hM];have HM:=Z9 hM;clear hok hM;have kb:Hid (Blk ((w.alloc (.cells #[.slice a rs.length cap] 26)).alloc (.cells E6 32)) w.heap.size 26 #[.slice a rs.length cap]):=Z9 ((Blk.new w _ _).alloc _)
 have kr:Hid (Blk ((w.alloc (.cells #[.slice a rs.length cap] 26)).alloc (.cells E6 32)) (w.heap.size+1) 32 E6):=Z9 (by
  have k:=Blk.new (w.alloc (.cells #[.slice a rs.length cap] 26)) 32 E6;rw [ZB] at k
  exact k)
 have BB:Hid (Below w.heap.size w ((w.alloc (.cells #[.slice a rs.length cap] 26)).alloc (.cells E6 32))):=Z9 (((ba _ _)).alloc (by simp) _);have Hv:=Z9 ((uh Hv0).below (uh BB));go_enter Tryz.func147,Tryz.ntmps147;go_wp2_with fail;generalize (w.alloc (.cells #[.slice a rs.length cap] 26)).alloc (.cells E6 32)=W at *;refine (Uw (uh Hv)).mono ?_;rw [uh Hok];rintro e w1 ⟨rfl,hb⟩;replace Hv:=Z9 ((uh Hv).below hb);replace kb:=bl kb hb;replace kr:=bl kr hb;replace BB:=bt BB hb;clear hb;cases ok
 ·obtain rfl:M=Yj:=by rw [<-uh HM];unfold Cf;rw [uh Hok];rfl
  obtain ⟨o0,o1,o2,o3,o4,o5⟩:=(uh kr).c6;obtain ⟨f0,f1,f2,f3,f4,f5⟩:=(uh kr).f6;go_wp2_with fail;refine ZS (v:= .tuple #[.agg E6,.bool false]) (by simp [results,Tryz.results147,go_sem, *]) rfl ⟨⟨_,_,_,_,_,[],rfl,Yr _ _⟩,?_⟩
  iterate 6 (refine YS ?_ (by show _<=w.heap.size+1;omega) _)
  exact uh BB
 obtain rfl:M=TY rs:=by rw [<-uh HM];unfold Cf;rw [uh Hok];rfl
 obtain ⟨r1,r2,r3,r4⟩:=Zo (uh Hok)
 have HP:Hid (∀ r ∈ rs,r.2.length<=1000):=Z9 (fun r hr=>by
  have hrb:=List.all_eq_true.1 r3 r hr;unfold Ze at hrb;simp only [ZM] at hrb;have:=ZO hrb.2.1
  omega)
 have hmk:∀ X:World,(Instr.makeSlice 30 (.int .i64 (rs.length:Int)) (.int .i64 (rs.length:Int))).run Tryz.prog X= .ok (.slice (some ⟨X.heap.size,0,none⟩) rs.length rs.length) (X.alloc (.cells (madeCells #[.int .i64 0] rs.length) 2)):=fun X=>run_make_row' 30 2 (.int .i64 0) 8 Tryz.underlying30 (by kernel_rfl) rfl .i64 .i64 rs.length (by omega) (by omega) X;have Hb12:Hid (1<=ZV rs/\ZV rs<=8):=Z9 ⟨Ow (uh Hok),r4⟩;clear r3 r4;have c0:=(uh kb).cell (i:=0) (v:= .slice a rs.length cap) rfl;go_wp2_with fail
 go_cut [4] (fun s wc=> ∃ R hv pv qs,s= .pointer (some ⟨R,0,none⟩)/\NewCut w.heap.size w a rs cap wc R hv pv qs)
 case first=>
  have H:Hid (Nw w w1.drew a rs cap none none none):=Z9 ⟨by have:=(uh kr).lt;show _<=w1.heap.size;omega,(uh Hv).below (Z1 _ _).drew,(uh kb).below (Z1 _ _).drew (uh kb).lt,(uh kr).below (Z1 _ _).drew (uh kr).lt,(uh BB).drew,fun _ _ _ e=>(by cases e),fun _ e=>(by cases e),fun _ e=>(by cases e),fun _ _ _ _ e=>(by cases e),fun _ _ _ _ e=>(by cases e),fun _ _ e=>(by cases e)⟩;refine ZP (S:=(fun w'=>w'.cell? ⟨w.heap.size,0,none⟩=some (.slice a rs.length cap))) (by kernel_rfl) (Xs _ _) (by kernel_rfl) c0 (fun hHeld=> ?_);simp only [Xt,Xu,YT,YM,Nat.zero_add,Nat.reduceAdd];clear c0 kb kr Hv BB;generalize w1.drew=X0 at *;refine tp 0 ?_;refine tp 2 ?_;refine tp 3 ?_;refine tp 4 ?_;refine wpAnyH_ready (rs:=[1,5,7]) (by kernel_rfl) (by simp) ?_;refine AllReadyH.cons rfl (fun K hK=> ?_) (AllReadyH.cons rfl (fun K hK=> ?_) (AllReadyH.cons rfl (fun K hK=> ?_) (AllReadyH.nil)))
  ·go_simp
   refine ((uh H).copy (by omega) (uh HP)).mono ?_;rintro e9 X1 ⟨ua,uc,qs,rfl,H⟩;refine hK.out _ _ ((uh H).kb.cell (i:=0) rfl) (fun hHeld=> ?_);clear hK K
   (try simp only [Act.put,sA,sZ,sS])
   refine wpAnyH_ready (rs:=[5,7]) (by kernel_rfl) (by simp) ?_;refine AllReadyH.cons rfl (fun K hK=> ?_) (AllReadyH.cons rfl (fun K hK=> ?_) (AllReadyH.nil))
   ·go_simp
    replace H:=Z9 ((uh H).make (by omega));refine hK.out _ _ ((uh H).kb.cell (i:=0) rfl) (fun hHeld=> ?_);clear hK K;generalize X1.alloc (.cells (madeCells #[.int .i64 0] rs.length) 2)=X2 at *;generalize X1.heap.size=g5 at *
    (try simp only [Act.put,sA,sZ,sS])
    refine tp 6 ?_;refine wpAnyH_ready (rs:=[7]) (by kernel_rfl) (by simp) ?_;refine AllReadyH.cons rfl (fun K hK=> ?_) (AllReadyH.nil)
    ·go_simp
     replace H:=Z9 ((uh H).box);refine hK.out _ _ ((uh H).kb.cell (i:=0) rfl) (fun hHeld=> ?_);clear hK K;generalize X2.alloc (.cells E6 32)=X3 at *;generalize X2.heap.size=g7 at *
     (try simp only [Act.put,sA,sZ,sS])
     refine wpAnyH_done (by kernel_rfl) ?_ _;refine ZF rfl rfl ?_;go_simp;have m0:=((uh H).h7 _ rfl).2.cell (i:=0) (v:= .slice none 0 0) rfl;have n0:=((uh H).h7 _ rfl).2.free 0;have m1:=((uh H).h7 _ rfl).2.cell (i:=1) (v:= .slice none 0 0) rfl;have n1:=((uh H).h7 _ rfl).2.free 1;have m2:=((uh H).h7 _ rfl).2.cell (i:=2) (v:= .slice none 0 0) rfl;have n2:=((uh H).h7 _ rfl).2.free 2;have m3:=((uh H).h7 _ rfl).2.cell (i:=3) (v:= .slice none 0 0) rfl;have n3:=((uh H).h7 _ rfl).2.free 3;have m4:=((uh H).h7 _ rfl).2.cell (i:=4) (v:= .slice none 0 0) rfl;have n4:=((uh H).h7 _ rfl).2.free 4;have m5:=((uh H).h7 _ rfl).2.cell (i:=5) (v:= .int .i64 0) rfl;have n5:=((uh H).h7 _ rfl).2.free 5;go_wp2_with fail
     all_goals
      go_meet;exact OO (uh H)
   ·go_simp
    replace H:=Z9 ((uh H).box);refine hK.out _ _ ((uh H).kb.cell (i:=0) rfl) (fun hHeld=> ?_);clear hK K;generalize X1.alloc (.cells E6 32)=X2 at *;generalize X1.heap.size=g7 at *
    (try simp only [Act.put,sA,sZ,sS])
    refine wpAnyH_ready (rs:=[5]) (by kernel_rfl) (by simp) ?_;refine AllReadyH.cons rfl (fun K hK=> ?_) (AllReadyH.nil)
    ·go_simp
     replace H:=Z9 ((uh H).make (by omega));refine hK.out _ _ ((uh H).kb.cell (i:=0) rfl) (fun hHeld=> ?_);clear hK K;generalize X2.alloc (.cells (madeCells #[.int .i64 0] rs.length) 2)=X3 at *;generalize X2.heap.size=g5 at *
     (try simp only [Act.put,sA,sZ,sS])
     refine tp 6 ?_;refine wpAnyH_done (by kernel_rfl) ?_ _;refine ZF rfl rfl ?_;go_simp;have m0:=((uh H).h7 _ rfl).2.cell (i:=0) (v:= .slice none 0 0) rfl;have n0:=((uh H).h7 _ rfl).2.free 0;have m1:=((uh H).h7 _ rfl).2.cell (i:=1) (v:= .slice none 0 0) rfl;have n1:=((uh H).h7 _ rfl).2.free 1;have m2:=((uh H).h7 _ rfl).2.cell (i:=2) (v:= .slice none 0 0) rfl;have n2:=((uh H).h7 _ rfl).2.free 2;have m3:=((uh H).h7 _ rfl).2.cell (i:=3) (v:= .slice none 0 0) rfl;have n3:=((uh H).h7 _ rfl).2.free 3;have m4:=((uh H).h7 _ rfl).2.cell (i:=4) (v:= .slice none 0 0) rfl;have n4:=((uh H).h7 _ rfl).2.free 4;have m5:=((uh H).h7 _ rfl).2.cell (i:=5) (v:= .int .i64 0) rfl;have n5:=((uh H).h7 _ rfl).2.free 5;go_wp2_with fail
     all_goals
      go_meet;exact OO (uh H)
  ·go_simp
   replace H:=Z9 ((uh H).make (by omega));refine hK.out _ _ ((uh H).kb.cell (i:=0) rfl) (fun hHeld=> ?_);clear hK K;generalize X0.alloc (.cells (madeCells #[.int .i64 0] rs.length) 2)=X1 at *;generalize X0.heap.size=g5 at *
   (try simp only [Act.put,sA,sZ,sS])
   refine wpAnyH_ready (rs:=[1,7]) (by kernel_rfl) (by simp) ?_;refine AllReadyH.cons rfl (fun K hK=> ?_) (AllReadyH.cons rfl (fun K hK=> ?_) (AllReadyH.nil))
   ·go_simp
    refine ((uh H).copy (by omega) (uh HP)).mono ?_;rintro e9 X2 ⟨ua,uc,qs,rfl,H⟩;refine hK.out _ _ ((uh H).kb.cell (i:=0) rfl) (fun hHeld=> ?_);clear hK K
    (try simp only [Act.put,sA,sZ,sS])
    refine tp 6 ?_;refine wpAnyH_ready (rs:=[7]) (by kernel_rfl) (by simp) ?_;refine AllReadyH.cons rfl (fun K hK=> ?_) (AllReadyH.nil)
    ·go_simp
     replace H:=Z9 ((uh H).box);refine hK.out _ _ ((uh H).kb.cell (i:=0) rfl) (fun hHeld=> ?_);clear hK K;generalize X2.alloc (.cells E6 32)=X3 at *;generalize X2.heap.size=g7 at *
     (try simp only [Act.put,sA,sZ,sS])
     refine wpAnyH_done (by kernel_rfl) ?_ _;refine ZF rfl rfl ?_;go_simp;have m0:=((uh H).h7 _ rfl).2.cell (i:=0) (v:= .slice none 0 0) rfl;have n0:=((uh H).h7 _ rfl).2.free 0;have m1:=((uh H).h7 _ rfl).2.cell (i:=1) (v:= .slice none 0 0) rfl;have n1:=((uh H).h7 _ rfl).2.free 1;have m2:=((uh H).h7 _ rfl).2.cell (i:=2) (v:= .slice none 0 0) rfl;have n2:=((uh H).h7 _ rfl).2.free 2;have m3:=((uh H).h7 _ rfl).2.cell (i:=3) (v:= .slice none 0 0) rfl;have n3:=((uh H).h7 _ rfl).2.free 3;have m4:=((uh H).h7 _ rfl).2.cell (i:=4) (v:= .slice none 0 0) rfl;have n4:=((uh H).h7 _ rfl).2.free 4;have m5:=((uh H).h7 _ rfl).2.cell (i:=5) (v:= .int .i64 0) rfl;have n5:=((uh H).h7 _ rfl).2.free 5;go_wp2_with fail
     all_goals
      go_meet;exact OO (uh H)
   ·go_simp
    replace H:=Z9 ((uh H).box);refine hK.out _ _ ((uh H).kb.cell (i:=0) rfl) (fun hHeld=> ?_);clear hK K;generalize X1.alloc (.cells E6 32)=X2 at *;generalize X1.heap.size=g7 at *
    (try simp only [Act.put,sA,sZ,sS])
    refine wpAnyH_ready (rs:=[1]) (by kernel_rfl) (by simp) ?_;refine AllReadyH.cons rfl (fun K hK=> ?_) (AllReadyH.nil)
    ·go_simp
     refine ((uh H).copy (by omega) (uh HP)).mono ?_;rintro e9 X3 ⟨ua,uc,qs,rfl,H⟩;refine hK.out _ _ ((uh H).kb.cell (i:=0) rfl) (fun hHeld=> ?_);clear hK K
     (try simp only [Act.put,sA,sZ,sS])
     refine tp 6 ?_;refine wpAnyH_done (by kernel_rfl) ?_ _;refine ZF rfl rfl ?_;go_simp;have m0:=((uh H).h7 _ rfl).2.cell (i:=0) (v:= .slice none 0 0) rfl;have n0:=((uh H).h7 _ rfl).2.free 0;have m1:=((uh H).h7 _ rfl).2.cell (i:=1) (v:= .slice none 0 0) rfl;have n1:=((uh H).h7 _ rfl).2.free 1;have m2:=((uh H).h7 _ rfl).2.cell (i:=2) (v:= .slice none 0 0) rfl;have n2:=((uh H).h7 _ rfl).2.free 2;have m3:=((uh H).h7 _ rfl).2.cell (i:=3) (v:= .slice none 0 0) rfl;have n3:=((uh H).h7 _ rfl).2.free 3;have m4:=((uh H).h7 _ rfl).2.cell (i:=4) (v:= .slice none 0 0) rfl;have n4:=((uh H).h7 _ rfl).2.free 4;have m5:=((uh H).h7 _ rfl).2.cell (i:=5) (v:= .int .i64 0) rfl;have n5:=((uh H).h7 _ rfl).2.free 5;go_wp2_with fail
     all_goals
      go_meet;exact OO (uh H)
  ·go_simp
   replace H:=Z9 ((uh H).box);refine hK.out _ _ ((uh H).kb.cell (i:=0) rfl) (fun hHeld=> ?_);clear hK K;generalize X0.alloc (.cells E6 32)=X1 at *;generalize X0.heap.size=g7 at *
   (try simp only [Act.put,sA,sZ,sS])
   refine wpAnyH_ready (rs:=[1,5]) (by kernel_rfl) (by simp) ?_;refine AllReadyH.cons rfl (fun K hK=> ?_) (AllReadyH.cons rfl (fun K hK=> ?_) (AllReadyH.nil))
   ·go_simp
    refine ((uh H).copy (by omega) (uh HP)).mono ?_;rintro e9 X2 ⟨ua,uc,qs,rfl,H⟩;refine hK.out _ _ ((uh H).kb.cell (i:=0) rfl) (fun hHeld=> ?_);clear hK K
    (try simp only [Act.put,sA,sZ,sS])
    refine wpAnyH_ready (rs:=[5]) (by kernel_rfl) (by simp) ?_;refine AllReadyH.cons rfl (fun K hK=> ?_) (AllReadyH.nil)
    ·go_simp
     replace H:=Z9 ((uh H).make (by omega));refine hK.out _ _ ((uh H).kb.cell (i:=0) rfl) (fun hHeld=> ?_);clear hK K;generalize X2.alloc (.cells (madeCells #[.int .i64 0] rs.length) 2)=X3 at *;generalize X2.heap.size=g5 at *
     (try simp only [Act.put,sA,sZ,sS])
     refine tp 6 ?_;refine wpAnyH_done (by kernel_rfl) ?_ _;refine ZF rfl rfl ?_;go_simp;have m0:=((uh H).h7 _ rfl).2.cell (i:=0) (v:= .slice none 0 0) rfl;have n0:=((uh H).h7 _ rfl).2.free 0;have m1:=((uh H).h7 _ rfl).2.cell (i:=1) (v:= .slice none 0 0) rfl;have n1:=((uh H).h7 _ rfl).2.free 1;have m2:=((uh H).h7 _ rfl).2.cell (i:=2) (v:= .slice none 0 0) rfl;have n2:=((uh H).h7 _ rfl).2.free 2;have m3:=((uh H).h7 _ rfl).2.cell (i:=3) (v:= .slice none 0 0) rfl;have n3:=((uh H).h7 _ rfl).2.free 3;have m4:=((uh H).h7 _ rfl).2.cell (i:=4) (v:= .slice none 0 0) rfl;have n4:=((uh H).h7 _ rfl).2.free 4;have m5:=((uh H).h7 _ rfl).2.cell (i:=5) (v:= .int .i64 0) rfl;have n5:=((uh H).h7 _ rfl).2.free 5;go_wp2_with fail
     all_goals
      go_meet;exact OO (uh H)
   ·go_simp
    replace H:=Z9 ((uh H).make (by omega));refine hK.out _ _ ((uh H).kb.cell (i:=0) rfl) (fun hHeld=> ?_);clear hK K;generalize X1.alloc (.cells (madeCells #[.int .i64 0] rs.length) 2)=X2 at *;generalize X1.heap.size=g5 at *
    (try simp only [Act.put,sA,sZ,sS])
    refine wpAnyH_ready (rs:=[1]) (by kernel_rfl) (by simp) ?_;refine AllReadyH.cons rfl (fun K hK=> ?_) (AllReadyH.nil)
    ·go_simp
     refine ((uh H).copy (by omega) (uh HP)).mono ?_;rintro e9 X3 ⟨ua,uc,qs,rfl,H⟩;refine hK.out _ _ ((uh H).kb.cell (i:=0) rfl) (fun hHeld=> ?_);clear hK K
     (try simp only [Act.put,sA,sZ,sS])
     refine tp 6 ?_;refine wpAnyH_done (by kernel_rfl) ?_ _;refine ZF rfl rfl ?_;go_simp;have m0:=((uh H).h7 _ rfl).2.cell (i:=0) (v:= .slice none 0 0) rfl;have n0:=((uh H).h7 _ rfl).2.free 0;have m1:=((uh H).h7 _ rfl).2.cell (i:=1) (v:= .slice none 0 0) rfl;have n1:=((uh H).h7 _ rfl).2.free 1;have m2:=((uh H).h7 _ rfl).2.cell (i:=2) (v:= .slice none 0 0) rfl;have n2:=((uh H).h7 _ rfl).2.free 2;have m3:=((uh H).h7 _ rfl).2.cell (i:=3) (v:= .slice none 0 0) rfl;have n3:=((uh H).h7 _ rfl).2.free 3;have m4:=((uh H).h7 _ rfl).2.cell (i:=4) (v:= .slice none 0 0) rfl;have n4:=((uh H).h7 _ rfl).2.free 4;have m5:=((uh H).h7 _ rfl).2.cell (i:=5) (v:= .int .i64 0) rfl;have n5:=((uh H).h7 _ rfl).2.free 5;go_wp2_with fail
     all_goals
      go_meet;exact OO (uh H)
 case rest=>
  obtain ⟨R,hv,pv,qs,rfl,hcut⟩:=hcut;obtain ⟨w2,rfl⟩:∃ x,x=wc:=⟨wc,rfl⟩
  obtain ⟨ua,uc,rfl⟩:=hcut.hshape;obtain ⟨pa,pc,rfl⟩:=hcut.pshape;have HC:=Z9 hcut;clear hcut c0 kb kr BB Hv;have Hv:=Z9 ((uh Hv0).below (uh HC).bel);have c0:=(uh HC).kb.cell (i:=0) (v:= .slice a rs.length cap) rfl;go_wp2_with fail;refine ck (RA (uh Hv) (SZ (uh Hok))) fun w3 hb=> ?_;replace HC:=Z9 ((uh HC).below hb);clear hb c0;obtain ⟨n,hn⟩:∃ n:Nat,ZV rs=(n:Int):=⟨(ZV rs).toNat,by have:=(uh Hb12).1;omega⟩
  have hn8:n<=8:=by have:=(uh Hb12).2;omega
  have HnM:Hid (TY rs=⟨rs,[],[],List.replicate n (true,-1,0),List.replicate rs.length 0,0⟩):=Z9 (by unfold TY;rw [hn];rfl);rw [hn];clear hn;go_wp2_with fail
  go_loopw [5] (fun i wr=> ∃ (k:Nat) (u:Value),k<=n/\i= .int .i64 ((n:Int)-(k:Int))/\Blk wr R 32 #[.slice ua rs.length uc,.slice none 0 0,.slice none 0 0,u,.slice pa rs.length pc,.int .i64 0]/\DesksAt (w.heap.size+2) wr u (List.replicate k (true,-1,0))/\NewOff w.heap.size rs wr R (.slice ua rs.length uc) (.slice pa rs.length pc) u qs/\Blk wr (w.heap.size+1) 32 E6/\Below w.heap.size w wr) (fun i _=>(intOf i).toNat)
  case atStart=>exact ⟨0,.slice none 0 0,ZA _,by simp,(uh HC).km,AO _ _,(uh HC).off,(uh HC).kr,(uh HC).bel⟩
  case round=>
   obtain ⟨k,u,hk,rfl,km,hd,hoff,hkr,hbb⟩:=hrel;obtain ⟨da,dc,rfl⟩:=RecAt.shape hd;rw [List.length_replicate] at km hd hoff;have KM:=Z9 km;have HD:=Z9 hd;have HF:=Z9 hoff;have kr:=Z9 hkr;have BB:=Z9 hbb;clear km hd hoff hkr hbb HC;have m3:=(uh KM).cell (i:=3) (v:= .slice da k dc) rfl;have n3:=(uh KM).free 3;have hRlt:=(uh KM).lt;have hRo:=(uh HF).rlo;by_cases hlt:k<n
   ·have hsx:=(uh BB).size
    have hkn:((k:Int)<(n:Int)):=by omega
    have hpos:(0:Int)<(n:Int)-(k:Int):=by omega
    have hbase:w.heap.size+2<=wr.heap.size:=by omega
    obtain ⟨u9,w9,hrun9,hown9,hg9,hat9⟩:=V5 tyD (w:=wr.alloc (.cells #[.bool true,.int .i64 (-1),.int .i64 0] 43)) (t:=29) (ty:=29) (base:=w.heap.size+2) Tryz.underlying29 (RecAt.later (uh HD) ((ba _ _))) (Wy (w:=wr) (g:=wr.heap.size) (c:=1) ((true,-1,0):XQ) rfl (Z2 _) (by omega)) (by simp;omega) (by simp;omega);obtain ⟨da9,dc9,rfl⟩:=RecAt.shape hown9;have hlen9:(List.replicate k ((true,-1,0):XQ)++[(true,-1,0)]).length=k+1:=by simp
    rw [hlen9] at hrun9 hown9 hat9;have hrep:List.replicate k ((true,-1,0):XQ)++[(true,-1,0)]=List.replicate (k+1) (true,-1,0):=by rw [List.replicate_succ']
    rw [hrep] at hown9;have HR9:=Z9 hrun9;have HO9:=Z9 hown9;have hRd:(Value.slice da k dc).ownBlock ≠ some R:=(uh HF).rd;have hgo:∀ i,(Value.slice da k dc).ownBlock=some i->w.heap.size+2<=i:=fun i e=>(RecAt.lt (uh HD) e).1;have hb9:Below (w.heap.size+2) wr w9:=((Z1 _ _).alloc hbase _).trans ((Z1 _ _).grown hg9 (by simp;omega) hgo);have KM9:=(((uh KM).alloc (.cells #[.bool true,.int .i64 (-1),.int .i64 0] 43)).same (hg9.block R (by simp;omega) (fun e=>hRd e.symm)))
    have t3:=KM9.cell (i:=3) (v:= .slice da k dc) rfl;have s3:=KM9.free 3;have HF9:=Z9 ((uh HF).grow hg9 hat9);have HKM9:=Z9 (KM9.set 3 (.slice da9 (k+1) dc9));have Hb9:=Z9 hb9;clear hrun9 hown9 hg9 hat9 KM9 hrep hlen9 hgo;go_wp2_with (at_builtin;refine P0 rfl (.tmp 24) (.tmp 26) 29 rfl rfl rfl (uh HR9) ?_)
    go_wp2_with fail;go_roundw
    case rel=>
     refine ⟨k+1,.slice da9 (k+1) dc9,by omega,by go_num,uh HKM9,?_,(uh HF9).set_R _ _,?_,?_⟩
     ·exact RecAt.same (uh HO9) fun i hi=>heap_setCell_other _ _ _ _ (fun e=>by have:=(uh HF9).rd;rw [hi] at this;exact this (by rw [e]))
     ·exact ((uh kr).below (uh Hb9) (by omega)).other (by show w.heap.size+1 ≠ R;omega) _
     ·exact ((uh BB).trans ((uh Hb9).mono (by omega))).setCell (by show _<=R;omega) _
    case measure=>exact ms
   ·obtain rfl:k=n:=by omega
    have hpos:¬ ((0:Int)<(k:Int)-(k:Int)):=by omega
    have m0:=(uh KM).cell (i:=0) (v:= .slice ua rs.length uc) rfl;have m1:=(uh KM).cell (i:=1) (v:= .slice none 0 0) rfl;have m2:=(uh KM).cell (i:=2) (v:= .slice none 0 0) rfl;have m4:=(uh KM).cell (i:=4) (v:= .slice pa rs.length pc) rfl;have m5:=(uh KM).cell (i:=5) (v:= .int .i64 0) rfl;obtain ⟨o0,o1,o2,o3,o4,o5⟩:=(uh kr).c6;obtain ⟨f0,f1,f2,f3,f4,f5⟩:=(uh kr).f6;go_wp2_with fail;refine ZS (v:= .tuple #[.agg #[.slice ua rs.length uc,.slice none 0 0,.slice none 0 0,.slice da k dc,.slice pa rs.length pc,.int .i64 0],.bool true]) (by simp [results,Tryz.results147,go_sem, *]) rfl ⟨?_,?_⟩
    ·rw [uh HnM]
     refine ⟨_,_,_,_,_,qs,rfl,?_⟩
     iterate 6 (refine FullSmy.set_off ?_ (fun i e=>by have:=((uh HF).full (uh HD)).own e;omega) _ _)
     exact ((uh HF).full (uh HD)).mono (by omega)
    ·iterate 6 (refine YS ?_ (by show _<=w.heap.size+1;omega) _)
     exact uh BB
end Go.Proofs.YtamgfpdahadnfaaGreatDoor
namespace Go.Proofs.YtamgfpdahadnfaaGreatDoor
open Go.ChangeShapes Go.WideShapes Go.ChangeAt Go.RowKit Go.Sort
set_option linter.unusedVariables false
theorem J9 {α:Type} [Inhabited α] {n j:Nat} (x:α) (h:j<n):Z8 (List.replicate n x) j=x:=by
 unfold Z8;simp [List.getD,h]
theorem Cg {rs:List ZZ} (h:Y2 rs=true):((TY rs).dk.length:Int)=ZV rs:=by
 have:=Ow h;show (((List.replicate (ZV rs).toNat ((true,-1,0):XQ)).length:Nat):Int)=_;rw [List.length_replicate];omega
theorem GL {rs:List ZZ} (gs:List Zt) (h:Y2 rs=true) (hg:Zk gs=true):ZI { TY rs with gd:=gs }=true:=by
 have hb:=Ow h;have hd:=Cg h;obtain ⟨r1,r2,r3,r4⟩:=Zo h
 have hdk:∀ j,j<(TY rs).dk.length->Z8 (TY rs).dk j=(true,-1,0):=fun j hj=>J9 _ (by
  have:(TY rs).dk.length=(ZV rs).toNat:=by show (List.replicate _ _).length=_;rw [List.length_replicate]
  omega)
 have hlo:Loose { TY rs with gd:=gs }:=by
  refine ⟨?_,?_,?_,fun i hi=>absurd hi (Nat.not_lt_zero _),fun i hi=>absurd hi (Nat.not_lt_zero _),0,?_,?_⟩
  ·unfold YD
   simp only [ZM,YW];exact ⟨h,hg,ZA _,hd,by show (List.replicate _ _).length=_;rw [List.length_replicate];rfl,rfl⟩
  ·intro j hj
   show Vy (Z8 (TY rs).dk j)=true;rw [hdk j hj];rfl
  ·intro j hj
   have hj':j<rs.length:=by
    have:(List.replicate rs.length (0:Int)).length=rs.length:=List.length_replicate ..;have hj2:j<(List.replicate rs.length (0:Int)).length:=hj;omega
   show inB (Z8 (List.replicate rs.length (0:Int)) j) 0 (((ZR rs j).2.length:Int)-1)=true;rw [J9 _ hj'];have hmem:ZR rs j ∈ rs:=by unfold ZR;simp [List.getD,hj']
   have hrb:=List.all_eq_true.1 r3 _ hmem;unfold Ze at hrb;simp only [ZM] at hrb;have:=ZO hrb.2.1;exact Zn (by omega) (by omega)
  ·show 0<(TY rs).dk.length
   omega
  ·show (Z8 (TY rs).dk 0).1=true
   rw [hdk 0 (by omega)]
 unfold ZI;rw [hlo.mk',Bool.true_and];refine List.all_eq_true.2 fun b hb2=> ?_;have hb3:b<(TY rs).dk.length:=List.mem_range.1 hb2;unfold Ya;show (match Xz [] (b:Int) 0 with | none=>false | some (wk,wt)=>(Z8 (TY rs).dk b).2.1 ==wk && !(wt && decide (wk<0)))=true;rw [hdk b hb3];rfl
open Draw (St Off Row Cur)
set_option linter.unusedSimpArgs false
set_option maxRecDepth 100000
theorem FullSmy.newG {n₀ bc B:Nat} {w w':World} {v0 v1 v2 v3 v4 g:Value} {m:Z6} {qs:List (ZZ × Value)} {gs:List Zt} (h:FullSmy n₀ w v0 v1 v2 v3 v4 m qs) (ho:Off bc w w') (hb:bc<n₀) (hg:GuildsAt B w' g gs) (hB:w.heap.size<=B) (hn:n₀<=B):FullSmy n₀ w' v0 g v2 v3 v4 { m with gd:=gs } qs:=by
 have h':=h.away ho hb;have hgb:∀ b,g.ownBlock=some b->w.heap.size<=b:=fun b e=>XH hB (RecAt.lt hg e).1;have hol:∀ b,Wg v0 v1 v2 v3 v4 qs b->b<w.heap.size:=fun b e=>(h.own e).2;refine ⟨h'.hall,h'.rm,RecAt.mono hg hn,h'.sm,h'.dk,h'.pc,⟨fun b e e'=> ?_,fun q hq b e e'=> ?_⟩,h'.h2,h'.h3,h'.h4,fun b e e'=> ?_,fun b e e'=> ?_,fun b e e'=> ?_,h'.a23,h'.a24,h'.a34⟩
 ·have:=hgb b e;have:=hol b (.inl e');omega
 ·have:=hgb b e;have:=hol b (.inr (.inl ⟨q,hq,e'⟩));omega
 ·have:=hgb b e;have:=hol b (.inr (.inr (.inr (.inl e'))));omega
 ·have:=hgb b e;have:=hol b (.inr (.inr (.inr (.inr (.inl e')))));omega
 ·have:=hgb b e;have:=hol b (.inr (.inr (.inr (.inr (.inr e')))));omega
theorem Gt (a:Option Addr) (len cap bc:Nat) (w:World) (hs:St a len cap bc w) :
  Calls Tryz.prog 88 #[.pointer (some ⟨bc,0,none⟩)] w fun e w'=> ∃ M u0 u1 u2 u3 u4 rq,e= .returned (.agg #[u0,u1,u2,u3,u4,.int .i64 M.now])/\ZI M=true/\FullSmy (w.heap.size+1) w' u0 u1 u2 u3 u4 M rq/\St a len cap bc w'/\Off bc w w':=by
 have Hs:=Z9 hs;have hbc:=WS hs;clear hs;go_enter Tryz.func88,Tryz.ntmps88;go_wp2_with fail;have kr:Hid (Blk (w.alloc (.cells E6 32)) w.heap.size 32 E6):=Z9 (Blk.new _ _ _);have HO:Hid (Off bc w (w.alloc (.cells E6 32))):=Z9 ((Off.refl _ _).alloc _);replace Hs:Hid (St a len cap bc (w.alloc (.cells E6 32))):=Z9 ((uh Hs).alloc _);have hzW:w.heap.size+1<=(w.alloc (.cells E6 32)).heap.size:=by simp
 generalize w.alloc (.cells E6 32)=W at *;refine (Ep a len cap bc _ (uh Hs)).mono ?_;rintro e w1 ⟨v,qs,rfl,hh,hown,s9,p9⟩;have HI:=Z9 hown.rm;have Hh:=Z9 hh;replace kr:=Z9 ((uh kr).away p9 (by omega));replace HO:=Z9 ((uh HO).trans p9);replace Hs:=Z9 s9;have hz1:w.heap.size+1<=w1.heap.size:=XH hzW p9.size;obtain ⟨ha,hc,rfl⟩:=hown.shape;clear hh hown s9 p9 hzW;obtain ⟨rs,hrs⟩:∃ q,qs.map (·.1)=q:=⟨_,rfl⟩
 have hrl:qs.length=rs.length:=by rw [<-hrs];simp
 rw [hrs] at HI Hh;rw [hrl] at HI ⊢;clear hrs hrl;go_wp2_with fail;refine (PR (uh HI)).mono ?_;rw [show Cf rs=TY rs by unfold Cf;rw [uh Hh];rfl];rintro e w2 ⟨⟨z0,z1,z2,z3,z4,zq,rfl,ho⟩,hb⟩;have k6:=ho.smy;obtain ⟨d0,r0,d1,r1,d2,r2,d3,r3,d4,r4,rfl,rfl,rfl,rfl,rfl,_,_,_,_,_,_,_,_,_,_⟩:=k6.five;have HN:=Z9 (ho.mono hz1);have LN:Hid (∀ k,Wg (.slice d0 (TY rs).rm.length r0) (.slice d1 (TY rs).gd.length r1) (.slice d2 (TY rs).sm.length r2) (.slice d3 (TY rs).dk.length r3) (.slice d4 (TY rs).pc.length r4) zq k->k<w2.heap.size):=Z9 (fun k e=>(ho.own e).2);have Hr:=Z9 (fun gs hg=>GL (rs:=rs) gs (uh Hh) hg);replace kr:=bl kr hb;replace HO:=Z9 ((uh HO).trans (VQ hb));replace Hs:=Z9 (XA (uh Hs) (hb.mono (WS (uh Hs))));have hz2:w.heap.size+1<=w2.heap.size:=XH hz1 hb.size;clear ho hb k6 HI Hh;generalize TY rs=N at *;go_upto_region 2 with fail;obtain ⟨W2,hW2,hb,km⟩:=YF w2 32 (S6 d0 r0 d1 r1 d2 r2 d3 r3 d4 r4 N);replace kr:=bl kr hb;replace HO:=Z9 ((uh HO).trans (VQ hb));replace Hs:=Z9 (XA (uh Hs) (hb.mono (WS (uh Hs))));replace HN:=Z9 ((uh HN).below hb);clear hb;rw [hW2];clear hW2;generalize w2.heap.size=mb at *;go_wp2_with fail;refine (Jh a len cap bc _ (uh Hs)).mono ?_;rintro e w3 ⟨gv,gs,rfl,hgs,hG⟩;have hmw:=(uh km).lt;have HG:=Z9 ((uh HN).newG hG.off (by omega) hG.row (Z2 _) (by omega));have LG:Hid (∀ k,gv.ownBlock=some k->mb<k):=Z9 (fun k e=>by have:=(RecAt.lt hG.row e).1;omega);replace kr:=Z9 ((uh kr).away hG.off (by omega));replace km:=Z9 ((uh km).away hG.off (by omega));replace HO:=Z9 ((uh HO).trans hG.off);replace Hs:=Z9 hG.st;obtain ⟨ga,gc,rfl⟩:=RecAt.shape hG.row;have hok:=uh Hr gs hgs;have Hok:=Z9 hok;clear hG hgs hmw HN Hr hok;have x1:=(uh km).cell (i:=1) (v:= .slice d1 N.gd.length r1) rfl;have f1:=(uh km).free 1;go_upto_region 3 with fail;clear x1 f1
 have hofm:∀ k,Wg (.slice d0 N.rm.length r0) (.slice ga gs.length gc) (.slice d2 N.sm.length r2) (.slice d3 N.dk.length r3) (.slice d4 N.pc.length r4) zq k->k ≠ mb:=fun k e=>by
  rcases e with e | e | e | e | e | e
  ·have:=uh LN k (.inl e);omega
  ·have:=uh LN k (.inr (.inl e));omega
  ·have:=uh LG k e;omega
  ·have:=uh LN k (.inr (.inr (.inr (.inl e))));omega
  ·have:=uh LN k (.inr (.inr (.inr (.inr (.inl e)))));omega
  ·have:=uh LN k (.inr (.inr (.inr (.inr (.inr e)))));omega
 replace HG:Hid (FullSmy (w.heap.size+1) (w3.setCell ⟨mb,1,none⟩ (.slice ga gs.length gc)) (.slice d0 N.rm.length r0) (.slice ga gs.length gc) (.slice d2 N.sm.length r2) (.slice d3 N.dk.length r3) (.slice d4 N.pc.length r4) { N with gd:=gs } zq):=Z9 ((uh HG).set_off hofm _ _);replace km:Hid (Blk (w3.setCell ⟨mb,1,none⟩ (.slice ga gs.length gc)) mb 32 #[.slice d0 N.rm.length r0,.slice ga gs.length gc,.slice d2 N.sm.length r2,.slice d3 N.dk.length r3,.slice d4 N.pc.length r4,.int .i64 N.now]):=Z9 ((uh km).set 1 _);replace kr:Hid (Blk (w3.setCell ⟨mb,1,none⟩ (.slice ga gs.length gc)) w.heap.size 32 E6):=Z9 ((uh kr).other (a:=⟨mb,1,none⟩) (by show w.heap.size ≠ mb;omega) _);replace HO:Hid (Off bc w (w3.setCell ⟨mb,1,none⟩ (.slice ga gs.length gc))):=Z9 (Off.newer (uh HO) (by omega) _ _);replace Hs:Hid (St a len cap bc (w3.setCell ⟨mb,1,none⟩ (.slice ga gs.length gc))):=Z9 (St.newer (uh Hs) (by omega) _ _);clear LN LG hofm;generalize w3.setCell ⟨mb,1,none⟩ (.slice ga gs.length gc)=W3 at *;obtain ⟨x0,x1,x2,x3,x4,x5⟩:=(uh km).c6;have hz3:w.heap.size+1<=W3.heap.size:=by have:=(uh kr).lt;omega
 go_wp2_with fail;clear x0 x1 x2 x3 x4 x5;refine (BF a len cap bc (m:={ N with gd:=gs }) (uh Hs) (uh HG) (by omega) hz3 (uh Hok) 40 (by omega) (by omega)).mono ?_;rintro e w4 ⟨M,u0,u1,u2,u3,u4,rq,rfl,ok4,hf4,s9,p9⟩;have k6:=hf4.smy;obtain ⟨b0,q0,b1,q1,b2,q2,b3,q3,b4,q4,rfl,rfl,rfl,rfl,rfl,_,_,_,_,_,_,_,_,_,_⟩:=k6.five;have HF:=Z9 hf4;have Hok4:=Z9 ok4;replace kr:=Z9 ((uh kr).away p9 (by omega));replace HO:=Z9 ((uh HO).trans p9);replace Hs:=Z9 s9;clear hf4 ok4 s9 p9 k6 HG km Hok;obtain ⟨o0,o1,o2,o3,o4,o5⟩:=(uh kr).c6;obtain ⟨f0,f1,f2,f3,f4,f5⟩:=(uh kr).f6;go_wp2_with fail;refine ZS (v:= .agg (S6 b0 q0 b1 q1 b2 q2 b3 q3 b4 q4 M)) (by simp [results,Tryz.results88,go_sem, *]) rfl ⟨M,_,_,_,_,_,rq,rfl,uh Hok4,?_,?_,?_⟩
 ·iterate 6 (refine FullSmy.set_off ?_ (fun k e=>by have:=((uh HF).own e).1;omega) _ _)
  exact uh HF
 ·iterate 6 (refine St.newer ?_ (by omega) _ _)
  exact uh Hs
 ·iterate 6 (refine Off.newer ?_ (by omega) _ _)
  exact uh HO
structure Sbox (a:Option Addr) (len cap bc:Nat) (w0:World) (R S:Nat) (cs:Array Value) (w:World):Prop where
 st:St a len cap bc w
 off:Off bc w0 w
 gt:bc<w0.heap.size
 hR:w0.heap.size<=R
 hS:w0.heap.size<=S
 ne:R ≠ S
 ko:Blk w R 40 E11
 kb:Blk w S 40 cs
section
variable {a : Option Addr} {len cap bc : Nat} {w0 w w' : World} {R S : Nat} {cs : Array Value}
theorem Sbox.step (h:Sbox a len cap bc w0 R S cs w) (hs:St a len cap bc w') (ho:Off bc w w'):Sbox a len cap bc w0 R S cs w':=by
 have h1:=h.gt;have h2:=h.hR;have h3:=h.hS;exact ⟨hs,h.off.trans ho,h.gt,h.hR,h.hS,h.ne,h.ko.same (ho.block R h.ko.lt (by omega)),h.kb.same (ho.block S h.kb.lt (by omega))⟩
theorem Sbox.alloc (h:Sbox a len cap bc w0 R S cs w) (o:Obj):Sbox a len cap bc w0 R S cs (w.alloc o):=h.step (h.st.alloc _) ((Off.refl _ _).alloc _)
theorem Sbox.fin (h:Sbox a len cap bc w0 R S cs w) (hb:Below w0.heap.size w w'):St a len cap bc w'/\Off bc w0 w':=by
 have h1:=h.gt;exact ⟨XA h.st (hb.mono (by omega)),Tk h.off hb⟩
theorem Sbox.put (h:Sbox a len cap bc w0 R S cs w) (i:Nat) (v:Value):Sbox a len cap bc w0 R S (cs.setIfInBounds i v) (w.setCell ⟨S,i,none⟩ v):=by
 have hb:Below w0.heap.size w (w.setCell ⟨S,i,none⟩ v):=(Z1 _ _).setCell (p:=⟨S,i,none⟩) h.hS v;obtain ⟨h1,h2⟩:=h.fin hb;exact ⟨h1,h2,h.gt,h.hR,h.hS,h.ne,h.ko.other (a:=⟨S,i,none⟩) h.ne v,h.kb.set i v⟩
theorem xV (hs:St a len cap bc w) (ho:Off bc w0 w) (hbc:bc<w0.heap.size) (hb:Below w0.heap.size w w'):St a len cap bc w'/\Off bc w0 w':=⟨XA hs (hb.mono (by omega)),Tk ho hb⟩
end
theorem Eu (a:Option Addr) (len cap bc:Nat) (w:World) (hs:St a len cap bc w) :
  Calls Tryz.prog 151 #[.pointer (some ⟨bc,0,none⟩)] w fun e w'=> ∃ x:Z3,e= .returned (.agg (ZU x).toArray)/\St a len cap bc w'/\Off bc w w':=by
 have Hs:=Z9 hs;have hbc:=WS hs;clear hs;go_enter Tryz.func151,Tryz.ntmps151;go_wp2_with fail;refine (Draw.from_any a len cap bc 0 3 (by omega) (by omega) (by omega) _ ((uh Hs).alloc _)).mono ?_;rintro e w1 ⟨st,rfl,t0,t1,s1,p1⟩;have ko1:Blk w1 w.heap.size 40 E11:=(Blk.new w 40 E11).same (p1.block w.heap.size (by simp) (by omega));have hz1:w.heap.size<w1.heap.size:=ko1.lt;have H1:Hid (Sbox a len cap bc w w.heap.size w1.heap.size (I11 st 0 0 0 0 0 0 0 0 0 0) (w1.alloc (.cells (I11 st 0 0 0 0 0 0 0 0 0 0) 40))):=Z9 ⟨s1.alloc _,(((Off.refl _ _).alloc _).trans p1).alloc _,hbc,Z2 _,by omega,by omega,ko1.alloc _,Blk.new _ _ _⟩;have Hw1:=Z9 (And.intro s1 (((Off.refl bc w).alloc (.cells E11 40)).trans p1));clear s1 p1 Hs;by_cases hst:st=0
 ·subst hst
  have o0:=ko1.cell (i:=0) (v:= .int .i64 0) rfl;have of0:=ko1.free 0;have o1:=ko1.cell (i:=1) (v:= .int .i64 0) rfl;have of1:=ko1.free 1;have o2:=ko1.cell (i:=2) (v:= .int .i64 0) rfl;have of2:=ko1.free 2;have o3:=ko1.cell (i:=3) (v:= .int .i64 0) rfl;have of3:=ko1.free 3;have o4:=ko1.cell (i:=4) (v:= .int .i64 0) rfl;have of4:=ko1.free 4;have o5:=ko1.cell (i:=5) (v:= .int .i64 0) rfl;have of5:=ko1.free 5;have o6:=ko1.cell (i:=6) (v:= .int .i64 0) rfl;have of6:=ko1.free 6;have o7:=ko1.cell (i:=7) (v:= .int .i64 0) rfl;have of7:=ko1.free 7;have o8:=ko1.cell (i:=8) (v:= .int .i64 0) rfl;have of8:=ko1.free 8;have o9:=ko1.cell (i:=9) (v:= .int .i64 0) rfl;have of9:=ko1.free 9;have o10:=ko1.cell (i:=10) (v:= .int .i64 0) rfl;have of10:=ko1.free 10;clear ko1;go_wp2_with fail;refine ZS (v:= .agg E11) (by simp [results,Tryz.results151,go_sem,o0,o1,o2,o3,o4,o5,o6,o7,o8,o9,o10,hz1]) rfl ⟨(0,0,0,0,0,0,0,0,0,0,0),rfl,?_⟩;obtain ⟨s1,p1⟩:=uh Hw1;refine xV s1 p1 hbc ?_;refine Below.alloc ?_ (by simp;omega) _
  iterate 11 (refine YS ?_ (by simp) _)
  exact Z1 _ _
 ·have hst2:(st ==0)=false:=by simpa using hst
  clear Hw1 ko1;go_wp2_with fail;generalize w1.alloc (.cells (I11 st 0 0 0 0 0 0 0 0 0 0) 40)=W at *;generalize w1.heap.size=S at *;have H:=H1;clear H1;refine (Draw.below_any a len cap bc 4 (by omega) (by omega) _ (uh H).st).mono ?_;rintro e w2 ⟨be,rfl,be0,be1,s9,p9⟩;have X:=(uh H).step s9 p9;have H2:=Z9 X;have c1:=X.kb.cell (i:=1) (v:= .int .i64 0) rfl;have f1:=X.kb.free 1;clear s9 p9 X H;go_wp2_with fail;have H3:Hid (Sbox a len cap bc w w.heap.size S (I11 st be 0 0 0 0 0 0 0 0 0) (w2.setCell ⟨S,1,none⟩ (.int .i64 be))):=Z9 ((uh H2).put 1 (.int .i64 be));clear H2 c1 f1;generalize (w2.setCell ⟨S,1,none⟩ (.int .i64 be))=W9 at *;obtain ⟨W,rfl⟩:∃ W,W=W9:=⟨W9,rfl⟩
  have H:=H3;clear H3;refine (Draw.from_any a len cap bc (-5) 5 (by omega) (by omega) (by omega) _ (uh H).st).mono ?_;rintro e w2 ⟨rk,rfl,rk0,rk1,s9,p9⟩;have X:=(uh H).step s9 p9;have H2:=Z9 X;have c2:=X.kb.cell (i:=2) (v:= .int .i64 0) rfl;have f2:=X.kb.free 2;clear s9 p9 X H;go_wp2_with fail;have H3:Hid (Sbox a len cap bc w w.heap.size S (I11 st be rk 0 0 0 0 0 0 0 0) (w2.setCell ⟨S,2,none⟩ (.int .i64 rk))):=Z9 ((uh H2).put 2 (.int .i64 rk));clear H2 c2 f2;generalize (w2.setCell ⟨S,2,none⟩ (.int .i64 rk))=W9 at *;obtain ⟨W,rfl⟩:∃ W,W=W9:=⟨W9,rfl⟩
  have H:=H3;clear H3;refine (Draw.below_any a len cap bc 255 (by omega) (by omega) _ (uh H).st).mono ?_;rintro e w2 ⟨my,rfl,my0,my1,s9,p9⟩;have X:=(uh H).step s9 p9;have H2:=Z9 X;have c3:=X.kb.cell (i:=3) (v:= .int .i64 0) rfl;have f3:=X.kb.free 3;clear s9 p9 X H;go_wp2_with fail;have H3:Hid (Sbox a len cap bc w w.heap.size S (I11 st be rk (1+my) 0 0 0 0 0 0 0) (w2.setCell ⟨S,3,none⟩ (.int .i64 (1+my)))):=Z9 ((uh H2).put 3 (.int .i64 (1+my)));clear H2 c3 f3;generalize (w2.setCell ⟨S,3,none⟩ (.int .i64 (1+my)))=W9 at *;obtain ⟨W,rfl⟩:∃ W,W=W9:=⟨W9,rfl⟩
  have H:=H3;clear H3;refine (Draw.from_any a len cap bc (-1) 1 (by omega) (by omega) (by omega) _ (uh H).st).mono ?_;rintro e w2 ⟨gu,rfl,gu0,gu1,s9,p9⟩;have X:=(uh H).step s9 p9;have H2:=Z9 X;have c4:=X.kb.cell (i:=4) (v:= .int .i64 0) rfl;have f4:=X.kb.free 4;have c6:=X.kb.cell (i:=6) (v:= .int .i64 0) rfl;have f6:=X.kb.free 6;clear s9 p9 X H;go_wp2_with fail;have H3:Hid (Sbox a len cap bc w w.heap.size S (I11 st be rk (1+my) gu 0 1024 0 0 0 0) ((w2.setCell ⟨S,4,none⟩ (.int .i64 gu)).setCell ⟨S,6,none⟩ (.int .i64 1024))):=Z9 (((uh H2).put 4 (.int .i64 gu)).put 6 (.int .i64 1024));clear H2 c4 f4 c6 f6;generalize ((w2.setCell ⟨S,4,none⟩ (.int .i64 gu)).setCell ⟨S,6,none⟩ (.int .i64 1024))=W9 at *;obtain ⟨W,rfl⟩:∃ W,W=W9:=⟨W9,rfl⟩
  have H:=H3;clear H3;refine (Draw.once_any a len cap bc 3 (by omega) (by omega) _ (uh H).st).mono ?_;rintro e w6 ⟨b,rfl,s9,p9⟩;have H6:=Z9 ((uh H).step s9 p9);clear s9 p9 H;have hr:inB rk (-5) 5=true:=Zn rk0 rk1;have x0:=WB hr;have x1:=(Vw rk).2;obtain ⟨x,hx⟩:∃ x,Zl rk=x:=⟨_,rfl⟩
  rw [hx] at x0 x1;have Hx:=Z9 hx;clear hx hr;have H:=H6;clear H6
  go_upto_if 26 with fail
  go_cut [] (fun wc=> ∃ lo:Int,Sbox a len cap bc w w.heap.size S (I11 st be rk (1+my) gu lo 1024 0 0 0 0) wc)
  case first=>
   cases b
   ·go_wp2_with fail
    go_meet;exact ⟨0,uh H⟩
   ·go_wp2_with fail
    refine (Draw.below_any a len cap bc 500 (by omega) (by omega) _ (uh H).st).mono ?_;rintro e w2 ⟨lo,rfl,lo0,lo1,s9,p9⟩;have X:=(uh H).step s9 p9;have H2:=Z9 X;have c5:=X.kb.cell (i:=5) (v:= .int .i64 0) rfl;have f5:=X.kb.free 5;clear s9 p9 X H;go_wp2_with fail;go_meet;exact ⟨lo,(uh H2).put 5 (.int .i64 lo)⟩
  case rest=>
  obtain ⟨lo,hX⟩:=hcut;replace H:=Z9 hX;clear hX;go_wp2_with fail;refine (Draw.below_any a len cap bc 100000 (by omega) (by omega) _ (uh H).st).mono ?_;rintro e w2 ⟨hd,rfl,hd0,hd1,s9,p9⟩;have X:=(uh H).step s9 p9;have H2:=Z9 X;have c7:=X.kb.cell (i:=7) (v:= .int .i64 0) rfl;have f7:=X.kb.free 7;have c2:=X.kb.cell (i:=2) (v:= .int .i64 rk) rfl;clear s9 p9 X H;go_wp2_with fail;have H3:Hid (Sbox a len cap bc w w.heap.size S (I11 st be rk (1+my) gu lo 1024 (hd-20000) 0 0 0) (w2.setCell ⟨S,7,none⟩ (.int .i64 (hd-20000)))):=Z9 ((uh H2).put 7 (.int .i64 (hd-20000)));clear H2 c7 f7 c2;generalize (w2.setCell ⟨S,7,none⟩ (.int .i64 (hd-20000)))=W9 at *;obtain ⟨W,rfl⟩:∃ W,W=W9:=⟨W9,rfl⟩
  have H:=H3;clear H3;refine ck (YB (uh Hx) _) fun w9 h9=> ?_;subst w9;go_wp2_with fail;refine (Draw.below_any a len cap bc x (by omega) (by omega) _ (uh H).st).mono ?_;rintro e w2 ⟨ca,rfl,ca0,ca1,s9,p9⟩;have X:=(uh H).step s9 p9;have H2:=Z9 X;have c8:=X.kb.cell (i:=8) (v:= .int .i64 0) rfl;have f8:=X.kb.free 8;clear s9 p9 X H;go_wp2_with fail;have H3:Hid (Sbox a len cap bc w w.heap.size S (I11 st be rk (1+my) gu lo 1024 (hd-20000) ca 0 0) (w2.setCell ⟨S,8,none⟩ (.int .i64 ca))):=Z9 ((uh H2).put 8 (.int .i64 ca));clear H2 c8 f8;generalize (w2.setCell ⟨S,8,none⟩ (.int .i64 ca))=W9 at *;obtain ⟨W,rfl⟩:∃ W,W=W9:=⟨W9,rfl⟩
  have H:=H3;clear H3;refine (Draw.below_any a len cap bc 1025 (by omega) (by omega) _ (uh H).st).mono ?_;rintro e w2 ⟨ut,rfl,ut0,ut1,s9,p9⟩;have X:=(uh H).step s9 p9;have H2:=Z9 X;have c9:=X.kb.cell (i:=9) (v:= .int .i64 0) rfl;have f9:=X.kb.free 9;clear s9 p9 X H;go_wp2_with fail;have H3:Hid (Sbox a len cap bc w w.heap.size S (I11 st be rk (1+my) gu lo 1024 (hd-20000) ca ut 0) (w2.setCell ⟨S,9,none⟩ (.int .i64 ut))):=Z9 ((uh H2).put 9 (.int .i64 ut));clear H2 c9 f9;generalize (w2.setCell ⟨S,9,none⟩ (.int .i64 ut))=W9 at *;obtain ⟨W,rfl⟩:∃ W,W=W9:=⟨W9,rfl⟩
  have H:=H3;clear H3;refine (Draw.below_any a len cap bc 1000000 (by omega) (by omega) _ (uh H).st).mono ?_;rintro e w8 ⟨wk,rfl,wk0,wk1,s9,p9⟩;have X:=(uh H).step s9 p9;have H2:=Z9 X;obtain ⟨c0,c1,c2,c3,c4,c5,c6,c7,c8,c9,c10⟩:=X.kb.c11;have f10:=X.kb.free 10;have o0:=X.ko.cell (i:=0) (v:= .int .i64 0) rfl;have of0:=X.ko.free 0;have o1:=X.ko.cell (i:=1) (v:= .int .i64 0) rfl;have of1:=X.ko.free 1;have o2:=X.ko.cell (i:=2) (v:= .int .i64 0) rfl;have of2:=X.ko.free 2;have o3:=X.ko.cell (i:=3) (v:= .int .i64 0) rfl;have of3:=X.ko.free 3;have o4:=X.ko.cell (i:=4) (v:= .int .i64 0) rfl;have of4:=X.ko.free 4;have o5:=X.ko.cell (i:=5) (v:= .int .i64 0) rfl;have of5:=X.ko.free 5;have o6:=X.ko.cell (i:=6) (v:= .int .i64 0) rfl;have of6:=X.ko.free 6;have o7:=X.ko.cell (i:=7) (v:= .int .i64 0) rfl;have of7:=X.ko.free 7;have o8:=X.ko.cell (i:=8) (v:= .int .i64 0) rfl;have of8:=X.ko.free 8;have o9:=X.ko.cell (i:=9) (v:= .int .i64 0) rfl;have of9:=X.ko.free 9;have o10:=X.ko.cell (i:=10) (v:= .int .i64 0) rfl;have of10:=X.ko.free 10;have hne:¬ w.heap.size=S:=X.ne;have hne2:¬ S=w.heap.size:=fun h=>X.ne h.symm;have hS9:=X.hS;clear s9 p9 X H;go_wp2_with fail;refine ZS (v:= .agg (I11 st be rk (1+my) gu lo 1024 (hd-20000) ca ut wk)) (by simp [results,Tryz.results151,go_sem,o0,o1,o2,o3,o4,o5,o6,o7,o8,o9,o10]) rfl ⟨(st,be,rk,(1+my),gu,lo,1024,(hd-20000),ca,ut,wk),rfl,?_⟩;refine (uh H2).fin ?_
  iterate 12 (refine YS ?_ (by first | (simp;done) | (simp;omega)) _)
  exact Z1 _ _
end Go.Proofs.YtamgfpdahadnfaaGreatDoor
namespace Go.Proofs.YtamgfpdahadnfaaGreatDoor
open Go.ChangeShapes Go.WideShapes Go.ChangeAt Go.RowKit Go.Sort
open Draw (St Off Row Cur)
set_option linter.unusedVariables false
theorem za (x:Z3) (i:Nat) (v:Int):∃ y:Z3,(ZU x).toArray.setIfInBounds i (.int .i64 v)=(ZU y).toArray:=by
 obtain ⟨x0,x1,x2,x3,x4,x5,x6,x7,x8,x9,x10⟩:=x
 match i with
 | 0=>exact ⟨(v,x1,x2,x3,x4,x5,x6,x7,x8,x9,x10),rfl⟩
 | 1=>exact ⟨(x0,v,x2,x3,x4,x5,x6,x7,x8,x9,x10),rfl⟩
 | 2=>exact ⟨(x0,x1,v,x3,x4,x5,x6,x7,x8,x9,x10),rfl⟩
 | 3=>exact ⟨(x0,x1,x2,v,x4,x5,x6,x7,x8,x9,x10),rfl⟩
 | 4=>exact ⟨(x0,x1,x2,x3,v,x5,x6,x7,x8,x9,x10),rfl⟩
 | 5=>exact ⟨(x0,x1,x2,x3,x4,v,x6,x7,x8,x9,x10),rfl⟩
 | 6=>exact ⟨(x0,x1,x2,x3,x4,x5,v,x7,x8,x9,x10),rfl⟩
 | 7=>exact ⟨(x0,x1,x2,x3,x4,x5,x6,v,x8,x9,x10),rfl⟩
 | 8=>exact ⟨(x0,x1,x2,x3,x4,x5,x6,x7,v,x9,x10),rfl⟩
 | 9=>exact ⟨(x0,x1,x2,x3,x4,x5,x6,x7,x8,v,x10),rfl⟩
 | 10=>exact ⟨(x0,x1,x2,x3,x4,x5,x6,x7,x8,x9,v),rfl⟩
 | n+11=>exact ⟨(x0,x1,x2,x3,x4,x5,x6,x7,x8,x9,x10),by rw [Array.setIfInBounds,dif_neg (by simp [ZU])]⟩
theorem Sbox.any {a:Option Addr} {len cap bc:Nat} {w0 w:World} {R S:Nat} {x:Z3} (h:Sbox a len cap bc w0 R S (ZU x).toArray w) (i:Nat) (v:Int):∃ y,Sbox a len cap bc w0 R S (ZU y).toArray (w.setCell ⟨S,i,none⟩ (.int .i64 v)):=by
 obtain ⟨y,hy⟩:=za x i v;exact ⟨y,hy ▸ h.put i _⟩
theorem KO (a:Option Addr) (len cap bc:Nat) (w:World) (hs:St a len cap bc w) :
  Calls Tryz.prog 89 #[.pointer (some ⟨bc,0,none⟩)] w fun e w'=> ∃ x:Z3,e= .returned (.agg (ZU x).toArray)/\St a len cap bc w'/\Off bc w w':=by
 have Hs:=Z9 hs;have hbc:=WS hs;clear hs;go_enter Tryz.func89,Tryz.ntmps89;go_wp2_with fail;refine (Eu a len cap bc _ ((uh Hs).alloc _)).mono ?_;rintro e w1 ⟨⟨x0,x1,x2,x3,x4,x5,x6,x7,x8,x9,x10⟩,rfl,s1,p1⟩;have ko1:=(Blk.new w 40 E11).same (p1.block w.heap.size (by simp) (by omega));have hz1:=ko1.lt;have H1:Hid (Sbox a len cap bc w w.heap.size w1.heap.size (I11 x0 x1 x2 x3 x4 x5 x6 x7 x8 x9 x10) (w1.alloc (.cells (I11 x0 x1 x2 x3 x4 x5 x6 x7 x8 x9 x10) 40))):=Z9 ⟨s1.alloc _,(((Off.refl _ _).alloc _).trans p1).alloc _,hbc,Z2 _,by omega,by omega,ko1.alloc _,Blk.new _ _ _⟩;clear s1 p1 Hs ko1;simp only [ZU];go_wp2_with fail;generalize w1.alloc (.cells (I11 x0 x1 x2 x3 x4 x5 x6 x7 x8 x9 x10) 40)=W at *;generalize w1.heap.size=S at *;refine (Draw.once_any a len cap bc 6 (by omega) (by omega) _ (uh H1).st).mono ?_;rintro e w2 ⟨b,rfl,s9,p9⟩;have H:Hid (∃ x,Sbox a len cap bc w w.heap.size S (ZU x).toArray w2):=Z9 ⟨(x0,x1,x2,x3,x4,x5,x6,x7,x8,x9,x10),(uh H1).step s9 p9⟩;clear s9 p9 H1
 go_upto_if 7 with fail
 go_cut [] (fun wc=> ∃ x,Sbox a len cap bc w w.heap.size S (ZU x).toArray wc)
 case first=>
  cases b
  ·go_wp2_with fail
   go_meet;exact uh H
  obtain ⟨x,hX⟩:=uh H;replace H:=Z9 hX;clear hX;go_wp2_with fail;refine (Draw.below_any a len cap bc 8 (by omega) (by omega) _ (uh H).st).mono ?_;rintro e w3 ⟨y,rfl,y0,y1,s9,p9⟩;replace H:=Z9 ((uh H).step s9 p9);clear s9 p9
  rcases (show y=0\/y=1\/y=2\/y=3\/y=4\/y=5\/y=6\/y=7 by omega) with rfl | rfl | rfl | rfl | rfl | rfl | rfl | rfl
  all_goals
   clear y0 y1;go_wp2_with fail
   first
   | (refine Calls.mono (Draw.from_any a len cap bc _ _ (by omega) (by omega) (by omega) _ (uh H).st) ?_;rintro e w4 ⟨v,rfl,v0,v1,s9,p9⟩;replace H:=Z9 ((uh H).step s9 p9))
   | (refine Calls.mono (Draw.drawForce_any a len cap bc _ (uh H).st) ?_;rintro e w4 ⟨v,rfl,s9,p9⟩;replace H:=Z9 ((uh H).step s9 p9))
   | (refine Calls.mono (Draw.below_any a len cap bc _ (by omega) (by omega) _ ((uh H).alloc _).st) ?_;rintro e w4 ⟨j,rfl,j0,j1,s9,p9⟩;obtain ⟨v,hcell⟩:=J8 p9 (WS (uh H).st) j0 j1 rfl;replace H:=Z9 (((uh H).alloc _).step s9 p9))
   clear s9 p9;obtain ⟨x0,x1,x2,x3,x4,x5,x6,x7,x8,x9,x10⟩:=x;have X:=uh H;have c0:=X.kb.cell (i:=0) (v:= .int .i64 x0) rfl;have f0:=X.kb.free 0;have c1:=X.kb.cell (i:=1) (v:= .int .i64 x1) rfl;have f1:=X.kb.free 1;have c2:=X.kb.cell (i:=2) (v:= .int .i64 x2) rfl;have f2:=X.kb.free 2;have c3:=X.kb.cell (i:=3) (v:= .int .i64 x3) rfl;have f3:=X.kb.free 3;have c4:=X.kb.cell (i:=4) (v:= .int .i64 x4) rfl;have f4:=X.kb.free 4;have c5:=X.kb.cell (i:=5) (v:= .int .i64 x5) rfl;have f5:=X.kb.free 5;have c6:=X.kb.cell (i:=6) (v:= .int .i64 x6) rfl;have f6:=X.kb.free 6;have c7:=X.kb.cell (i:=7) (v:= .int .i64 x7) rfl;have f7:=X.kb.free 7;have c8:=X.kb.cell (i:=8) (v:= .int .i64 x8) rfl;have f8:=X.kb.free 8;have c9:=X.kb.cell (i:=9) (v:= .int .i64 x9) rfl;have f9:=X.kb.free 9;have c10:=X.kb.cell (i:=10) (v:= .int .i64 x10) rfl;have f10:=X.kb.free 10;clear X;go_wp2_with fail;go_meet;exact (uh H).any _ _
 case rest=>
 obtain ⟨⟨x0,x1,x2,x3,x4,x5,x6,x7,x8,x9,x10⟩,X⟩:=hcut;have H2:=Z9 X;have c0:=X.kb.cell (i:=0) (v:= .int .i64 x0) rfl;have o0:=X.ko.cell (i:=0) (v:= .int .i64 0) rfl;have of0:=X.ko.free 0;have c1:=X.kb.cell (i:=1) (v:= .int .i64 x1) rfl;have o1:=X.ko.cell (i:=1) (v:= .int .i64 0) rfl;have of1:=X.ko.free 1;have c2:=X.kb.cell (i:=2) (v:= .int .i64 x2) rfl;have o2:=X.ko.cell (i:=2) (v:= .int .i64 0) rfl;have of2:=X.ko.free 2;have c3:=X.kb.cell (i:=3) (v:= .int .i64 x3) rfl;have o3:=X.ko.cell (i:=3) (v:= .int .i64 0) rfl;have of3:=X.ko.free 3;have c4:=X.kb.cell (i:=4) (v:= .int .i64 x4) rfl;have o4:=X.ko.cell (i:=4) (v:= .int .i64 0) rfl;have of4:=X.ko.free 4;have c5:=X.kb.cell (i:=5) (v:= .int .i64 x5) rfl;have o5:=X.ko.cell (i:=5) (v:= .int .i64 0) rfl;have of5:=X.ko.free 5;have c6:=X.kb.cell (i:=6) (v:= .int .i64 x6) rfl;have o6:=X.ko.cell (i:=6) (v:= .int .i64 0) rfl;have of6:=X.ko.free 6;have c7:=X.kb.cell (i:=7) (v:= .int .i64 x7) rfl;have o7:=X.ko.cell (i:=7) (v:= .int .i64 0) rfl;have of7:=X.ko.free 7;have c8:=X.kb.cell (i:=8) (v:= .int .i64 x8) rfl;have o8:=X.ko.cell (i:=8) (v:= .int .i64 0) rfl;have of8:=X.ko.free 8;have c9:=X.kb.cell (i:=9) (v:= .int .i64 x9) rfl;have o9:=X.ko.cell (i:=9) (v:= .int .i64 0) rfl;have of9:=X.ko.free 9;have c10:=X.kb.cell (i:=10) (v:= .int .i64 x10) rfl;have o10:=X.ko.cell (i:=10) (v:= .int .i64 0) rfl;have of10:=X.ko.free 10;have hne:¬ w.heap.size=S:=X.ne;have hne2:¬ S=w.heap.size:=fun h=>X.ne h.symm;have hS9:=X.hS;clear X H;go_wp2_with fail;refine ZS (v:= .agg (I11 x0 x1 x2 x3 x4 x5 x6 x7 x8 x9 x10)) (by simp [results,Tryz.results89,go_sem,o0,o1,o2,o3,o4,o5,o6,o7,o8,o9,o10]) rfl ⟨(x0,x1,x2,x3,x4,x5,x6,x7,x8,x9,x10),rfl,?_⟩;refine (uh H2).fin ?_
 iterate 11 (refine YS ?_ (by first | (simp;done) | (simp;omega)) _)
 exact Z1 _ _
theorem Gbox.put {a:Option Addr} {len cap bc:Nat} {w0 w:World} {g n rcap:Nat} {ps:List Zt} (h:Gbox a len cap bc w0 w (.slice (some ⟨g,0,none⟩) n rcap) ps) (hn:n=ps.length) {j i:Nat} (hj:j<ps.length) (hi:i<3) (y:Int) :
  ∃ qs:List Zt,qs.length=ps.length/\Gbox a len cap bc w0 (w.setCell ⟨g,j*3+i,none⟩ (.int .i64 y)) (.slice (some ⟨g,0,none⟩) n rcap) qs:=by
 have key:∃ x:Zt,Wr x=(Wr (Z8 ps j)).set i (.int .i64 y):=by
  generalize Z8 ps j=p;obtain ⟨p0,p1,p2⟩:=p
  rcases (show i=0\/i=1\/i=2 by omega) with rfl | rfl | rfl
  ·exact ⟨(y,p1,p2),rfl⟩
  ·exact ⟨(p0,y,p2),rfl⟩
  ·exact ⟨(p0,p1,y),rfl⟩
 obtain ⟨x,hx⟩:=key;obtain ⟨h1,h2⟩:=RecAt.put1 Xx (by omega) h.row hn hj hi (.int .i64 y) x hx;exact ⟨ps.set j x,by simp,h.grown h2 h1⟩
theorem KK (a:Option Addr) (len cap bc:Nat) (w:World) (hs:St a len cap bc w) :
  Calls Tryz.prog 90 #[.pointer (some ⟨bc,0,none⟩)] w fun e w'=> ∃ v ps,e= .returned v/\ps.length<=4/\Gbox a len cap bc w w' v ps:=by
 have Hs:=Z9 hs;clear hs;go_enter Tryz.func90,Tryz.ntmps90;go_wp2_with fail;refine (Et a len cap bc _ (uh Hs)).mono ?_;rintro e w1 ⟨v,ps,rfl,hl,hG⟩;obtain ⟨ra,rcap,rfl⟩:=RecAt.shape hG.row;have HG:=Z9 hG;clear hG Hs;by_cases hz:0<ps.length
 ·go_wp2_with fail
  refine (Draw.once_any a len cap bc 6 (by omega) (by omega) _ (uh HG).st).mono ?_;rintro e w2 ⟨b,rfl,s2,o2⟩;have HG2:=Z9 ((uh HG).step s2 o2);clear s2 o2 HG;cases b
  ·go_wp2_with fail
   go_ret;exact ⟨_,ps,rfl,hl,uh HG2⟩
  ·go_wp2_with fail
   refine (Draw.below_any a len cap bc _ (by omega) (by omega) _ (uh HG2).st).mono ?_;rintro e w3 ⟨x,rfl,x0,x1,s3,o3⟩;have HG3:=Z9 ((uh HG2).step s3 o3);clear s3 o3 HG2;obtain ⟨j,rfl⟩:∃ j:Nat,x=j:=⟨x.toNat,by omega⟩
   have hj:j<ps.length:=by omega
   obtain ⟨g,rfl,_⟩:=RecAt.view Xx (by omega) (uh HG3).row rfl hz;go_wp2_with fail;refine (Draw.below_any a len cap bc 3 (by omega) (by omega) _ (uh HG3).st).mono ?_;rintro e w4 ⟨y,rfl,y0,y1,s4,o4⟩;have HG4:=Z9 ((uh HG3).step s4 o4);clear s4 o4 HG3
   rcases (show y=0\/y=1\/y=2 by omega) with rfl | rfl | rfl
   ·go_wp2_with fail
    refine (Draw.from_any a len cap bc (-2) ps.length (by omega) (by omega) (by omega) _ (uh HG4).st).mono ?_;rintro e w5 ⟨z,rfl,z0,z1,s5,o5⟩;have HG5:=Z9 ((uh HG4).step s5 o5);clear s5 o5 HG4;obtain ⟨g',hg',_,_,hcells,hfz⟩:=RecAt.view Xx (by omega) (uh HG5).row rfl hz;cases hg';have c0:=hcells j hj 0 _ rfl;have f0:=hfz (j*3);simp only [Nat.add_zero] at c0;obtain ⟨qs,hq,hG6⟩:=(uh HG5).put rfl hj (i:=0) (by omega) z;have HG6:=Z9 hG6;clear hcells hfz hG6;go_wp2_with fail;go_ret;exact ⟨_,qs,rfl,by omega,uh HG6⟩
   ·go_wp2_with fail
    refine (Draw.drawForce_any a len cap bc _ (uh HG4).st).mono ?_;rintro e w5 ⟨z,rfl,s5,o5⟩;have HG5:=Z9 ((uh HG4).step s5 o5);clear s5 o5 HG4;obtain ⟨g',hg',_,_,hcells,hfz⟩:=RecAt.view Xx (by omega) (uh HG5).row rfl hz;cases hg';have c0:=hcells j hj 1 _ rfl;have f0:=hfz (j*3+1);obtain ⟨qs,hq,hG6⟩:=(uh HG5).put rfl hj (i:=1) (by omega) z;have HG6:=Z9 hG6;clear hcells hfz hG6;go_wp2_with fail;go_ret;exact ⟨_,qs,rfl,by omega,uh HG6⟩
   ·go_wp2_with fail
    refine (Draw.drawForce_any a len cap bc _ (uh HG4).st).mono ?_;rintro e w5 ⟨z,rfl,s5,o5⟩;have HG5:=Z9 ((uh HG4).step s5 o5);clear s5 o5 HG4;obtain ⟨g',hg',_,_,hcells,hfz⟩:=RecAt.view Xx (by omega) (uh HG5).row rfl hz;cases hg';have c0:=hcells j hj 2 _ rfl;have f0:=hfz (j*3+2);obtain ⟨qs,hq,hG6⟩:=(uh HG5).put rfl hj (i:=2) (by omega) z;have HG6:=Z9 hG6;clear hcells hfz hG6;go_wp2_with fail;go_ret;exact ⟨_,qs,rfl,by omega,uh HG6⟩
 ·obtain rfl:ps=[]:=List.eq_nil_of_length_eq_zero (by omega)
  go_wp2_with fail;go_ret;exact ⟨_,[],rfl,by simp,uh HG⟩
set_option linter.unusedSimpArgs false
set_option maxRecDepth 100000
theorem Mo {w:World} {lb:Nat} {t:TypeId} {cs:Array Value} {j:Int} (h:Blk w lb t cs) (h0:0<=j) (h1:j<(cs.size:Int)) (hz:cs.toList.all Draw.isI64=true):∃ v,w.cell? ⟨lb,j.toNat,none⟩=some (.int .i64 v):=by
 obtain ⟨v,hv⟩:=Draw.pick_any cs j.toNat (by omega) hz;exact ⟨v,h.cell hv⟩
structure Ebox (a:Option Addr) (len cap bc:Nat) (w0 w:World) (mb:Nat) (M:Z6) (u0 u1 u2 u3 u4:Value) (rq:List (ZZ × Value)):Prop where
 st:St a len cap bc w
 off:Off bc w0 w
 full:FullSmy (w0.heap.size+1) w u0 u1 u2 u3 u4 M rq
 kb:Blk w mb 32 #[u0,u1,u2,u3,u4,.int .i64 M.now]
 kr:Blk w w0.heap.size 32 E6
 own:∀ k,Wg u0 u1 u2 u3 u4 rq k->k ≠ mb
 mlo:w0.heap.size+1<=mb
 bl:bc<w0.heap.size
section
variable {a : Option Addr} {len cap bc : Nat} {w0 w w1 w' : World} {mb : Nat} {M : Z6} {u0 u1 u2 u3 u4 : Value} {rq : List (ZZ × Value)}
theorem Ebox.step (h:Ebox a len cap bc w0 w mb M u0 u1 u2 u3 u4 rq) (hs:St a len cap bc w') (ho:Off bc w w'):Ebox a len cap bc w0 w' mb M u0 u1 u2 u3 u4 rq:=
 have hb:=h.bl;have hm:=h.mlo
 ⟨hs,h.off.trans ho,h.full.away ho (by omega),h.kb.away ho (by omega),h.kr.away ho (by omega),h.own,h.mlo,h.bl⟩
theorem Ebox.below (h:Ebox a len cap bc w0 w mb M u0 u1 u2 u3 u4 rq) (hb:Below w.heap.size w w'):Ebox a len cap bc w0 w' mb M u0 u1 u2 u3 u4 rq:=
 h.step (XA h.st (hb.mono (WS h.st))) (VQ hb)
theorem Ebox.drew (h:Ebox a len cap bc w0 w mb M u0 u1 u2 u3 u4 rq):Ebox a len cap bc w0 w.drew mb M u0 u1 u2 u3 u4 rq:=h.below (Z1 _ _).drew
theorem Ebox.putD {g n c:Nat} (h:Ebox a len cap bc w0 w mb M u0 u1 u2 (.slice (some ⟨g,0,none⟩) n c) u4 rq) (hn:n=M.dk.length) {j i:Nat} (hj:j<M.dk.length) (hi:i<3) (u:Value) (x:XQ) (hx:WG x=(WG (Z8 M.dk j)).set i u):Ebox a len cap bc w0 (w.setCell ⟨g,j*3+i,none⟩ u) mb { M with dk:=M.dk.set j x } u0 u1 u2 (.slice (some ⟨g,0,none⟩) n c) u4 rq:=by
 have hb:=h.bl;have hg:=(h.full.own (k:=g) (.inr (.inr (.inr (.inr (.inl rfl)))))).1;have hgm:=h.own g (.inr (.inr (.inr (.inr (.inl rfl)))));exact ⟨St.newer h.st (by omega) _ _,Off.newer h.off (by omega) _ _,h.full.putD hn hj hi u x hx,h.kb.other (by show mb ≠ g;omega) _,h.kr.other (by show w0.heap.size ≠ g;omega) _,h.own,h.mlo,h.bl⟩
theorem Ebox.putP {g n c:Nat} (h:Ebox a len cap bc w0 w mb M u0 u1 u2 u3 (.slice (some ⟨g,0,none⟩) n c) rq) (hn:n=M.pc.length) {j:Nat} (hj:j<M.pc.length) (x:Int):Ebox a len cap bc w0 (w.setCell ⟨g,j,none⟩ (.int .i64 x)) mb { M with pc:=M.pc.set j x } u0 u1 u2 u3 (.slice (some ⟨g,0,none⟩) n c) rq:=by
 have hb:=h.bl;have hg:=(h.full.own (k:=g) (.inr (.inr (.inr (.inr (.inr rfl)))))).1;have hgm:=h.own g (.inr (.inr (.inr (.inr (.inr rfl)))));exact ⟨St.newer h.st (by omega) _ _,Off.newer h.off (by omega) _ _,h.full.putP hn hj x,h.kb.other (by show mb ≠ g;omega) _,h.kr.other (by show w0.heap.size ≠ g;omega) _,h.own,h.mlo,h.bl⟩
theorem Ebox.now (h:Ebox a len cap bc w0 w mb M u0 u1 u2 u3 u4 rq) (t:Int):Ebox a len cap bc w0 (w.setCell ⟨mb,5,none⟩ (.int .i64 t)) mb { M with now:=t } u0 u1 u2 u3 u4 rq:=by
 have hb:=h.bl;have hm:=h.mlo;have f:=h.full.set_off h.own 5 (.int .i64 t);exact ⟨St.newer h.st (by omega) _ _,Off.newer h.off (by omega) _ _,⟨f.hall,f.rm,f.gd,f.sm,f.dk,f.pc,f.h1,f.h2,f.h3,f.h4,f.a12,f.a13,f.a14,f.a23,f.a24,f.a34⟩,h.kb.set 5 _,h.kr.other (by show w0.heap.size ≠ mb;omega) _,h.own,h.mlo,h.bl⟩
theorem Ebox.gd (h:Ebox a len cap bc w0 w mb M u0 u1 u2 u3 u4 rq) {g:Value} {gs:List Zt} (hs:St a len cap bc w') (ho:Off bc w w') (hg:GuildsAt w.heap.size w' g gs):Ebox a len cap bc w0 (w'.setCell ⟨mb,1,none⟩ g) mb { M with gd:=gs } u0 g u2 u3 u4 rq:=by
 have hb:=h.bl;have hm:=h.mlo;have hml:=h.kb.lt;have hz:=h.off.size;have hE:=h.step hs ho;have f:=h.full.newG ho (by omega) hg (Z2 _) (by omega)
 have hown:∀ k,Wg u0 g u2 u3 u4 rq k->k ≠ mb:=fun k e=>by
  rcases e with e | e | e | e | e | e
  ·exact h.own k (.inl e)
  ·exact h.own k (.inr (.inl e))
  ·have:=(RecAt.lt hg e).1;omega
  ·exact h.own k (.inr (.inr (.inr (.inl e))))
  ·exact h.own k (.inr (.inr (.inr (.inr (.inl e)))))
  ·exact h.own k (.inr (.inr (.inr (.inr (.inr e)))))
 exact ⟨St.newer hs (by omega) _ _,Off.newer hE.off (by omega) _ _,f.set_off hown 1 g,hE.kb.set 1 _,hE.kr.other (by show w0.heap.size ≠ mb;omega) _,hown,h.mlo,h.bl⟩
theorem Ebox.push (h:Ebox a len cap bc w0 w mb M u0 u1 u2 u3 u4 rq) {u:Value} {x:Z3} (hb1:Below w.heap.size w w1) (hg:w1.grownBy w' u2.ownBlock) (hat:u.ownBlock=u2.ownBlock\/u.ownBlock=some w1.heap.size) (hr:SmithsAt (w0.heap.size+1) w' u (M.sm++[x])) :
  Blk w' mb 32 #[u0,u1,u2,u3,u4,.int .i64 M.now]/\Ebox a len cap bc w0 (w'.setCell ⟨mb,2,none⟩ u) mb (pushS M x) u0 u1 u u3 u4 rq:=by
 have hb:=h.bl;have hm:=h.mlo;have hz:=h.off.size;have hz1:=hb1.size;have hml:=h.kb.lt;have h2:∀ k,u2.ownBlock=some k->w0.heap.size+1<=k/\k<w.heap.size/\k ≠ mb:=fun k e=>⟨(h.full.own (.inr (.inr (.inr (.inl e))))).1,(h.full.own (.inr (.inr (.inr (.inl e))))).2,h.own k (.inr (.inr (.inr (.inl e))))⟩
 have hB:Below (w0.heap.size+1) w w':=(hb1.mono (by omega)).trans ((Z1 _ _).grown hg (by omega) (fun k e=>(h2 k e).1));have f:=h.full.pushS hb1 hg hat hr;have kb1:Blk w' mb 32 #[u0,u1,u2,u3,u4,.int .i64 M.now]:=(h.kb.below hb1 hml).same (hg.block mb (by omega) (fun e=>(h2 mb e.symm).2.2 rfl))
 have hown:∀ k,Wg u0 u1 u u3 u4 rq k->k ≠ mb:=fun k e=>by
  rcases e with e | e | e | e | e | e
  ·exact h.own k (.inl e)
  ·exact h.own k (.inr (.inl e))
  ·exact h.own k (.inr (.inr (.inl e)))
  ·rcases hat with e' | e'
   ·exact (h2 k (e'.symm.trans e)).2.2
   ·have:=Option.some.inj (e'.symm.trans e);omega
  ·exact h.own k (.inr (.inr (.inr (.inr (.inl e)))))
  ·exact h.own k (.inr (.inr (.inr (.inr (.inr e)))))
 have ho:Off bc w0 w':=⟨hB.os.trans h.off.os,hB.tape.trans h.off.tape,hB.output.trans h.off.output,XH hz hB.size,fun k hk hn=>(hB.block k (by omega)).trans (h.off.block k hk hn)⟩
 exact ⟨kb1,St.newer (XA h.st (hB.mono (by omega))) (by omega) _ _,Off.newer ho (by omega) _ _,f.set_off hown 2 u,kb1.set 2 _,(h.kr.below hB (by omega)).other (by show w0.heap.size ≠ mb;omega) _,hown,h.mlo,h.bl⟩
end
theorem Uj (a:Option Addr) (len cap bc:Nat) (w:World) (hs:St a len cap bc w) :
  Calls Tryz.prog 38 #[.pointer (some ⟨bc,0,none⟩)] w fun e w'=> ∃ M u0 u1 u2 u3 u4 rq,e= .returned (.agg #[u0,u1,u2,u3,u4,.int .i64 M.now])/\(M.sm.length<=1000/\M.rm.length<=1000)/\(M.dk.length<=1000/\1<=M.dk.length/\M.dk.length<=8/\1<=M.rm.length)/\FullSmy (w.heap.size+1) w' u0 u1 u2 u3 u4 M rq/\St a len cap bc w'/\Off bc w w':=by
 have Hs:=Z9 hs;have hbc:=WS hs;clear hs;go_enter Tryz.func38,Tryz.ntmps38;go_wp2_with fail;have kr:Hid (Blk (w.alloc (.cells E6 32)) w.heap.size 32 E6):=Z9 (Blk.new _ _ _);have HO:Hid (Off bc w (w.alloc (.cells E6 32))):=Z9 ((Off.refl _ _).alloc _);replace Hs:Hid (St a len cap bc (w.alloc (.cells E6 32))):=Z9 ((uh Hs).alloc _);have hzW:w.heap.size+1<=(w.alloc (.cells E6 32)).heap.size:=by simp
 generalize w.alloc (.cells E6 32)=W at *;refine (Gt a len cap bc _ (uh Hs)).mono ?_;rintro e w1 ⟨M,u0,u1,u2,u3,u4,rq,rfl,ok1,hf,s9,p9⟩;have k6:=hf.smy;obtain ⟨b0,q0,b1,q1,b2,q2,b3,q3,b4,q4,rfl,rfl,rfl,rfl,rfl,_,_,_,_,_,_,_,_,_,_⟩:=k6.five;have HE:Hid (Ebox a len cap bc w (w1.alloc (.cells (S6 b0 q0 b1 q1 b2 q2 b3 q3 b4 q4 M) 32)) w1.heap.size M (.slice b0 M.rm.length q0) (.slice b1 M.gd.length q1) (.slice b2 M.sm.length q2) (.slice b3 M.dk.length q3) (.slice b4 M.pc.length q4) rq):=Z9 ⟨s9.alloc _,((uh HO).trans p9).alloc _,(hf.mono (by omega)).below ((ba _ _)),Blk.new _ _ _,((uh kr).away p9 (by omega)).alloc _,fun k e=>by have:=(hf.own e).2;omega,by have:=p9.size;omega,hbc⟩;have Hok:=Z9 ok1;clear k6 hf s9 p9 HO kr Hs ok1 hzW;go_upto_region 2 with fail;generalize w1.alloc (.cells (S6 b0 q0 b1 q1 b2 q2 b3 q3 b4 q4 M) 32)=W1 at *;generalize w1.heap.size=mb at *;go_wp2_with fail;refine (Draw.once_any a len cap bc 8 (by omega) (by omega) _ (uh HE).st).mono ?_;rintro e w2 ⟨bq,rfl,s9,p9⟩;replace HE:=Z9 ((uh HE).step s9 p9);clear s9 p9
 go_upto_if 8 with fail
 go_cut [] (fun wc=> ∃ M u0 u1 u2 u3 u4 rq,((M.sm.length<=1000/\M.rm.length<=1000)/\(M.dk.length<=1000/\1<=M.dk.length/\M.dk.length<=8/\1<=M.rm.length))/\Ebox a len cap bc w wc mb M u0 u1 u2 u3 u4 rq)
 case first=>
  have hlo:=ZK (uh Hok);have g3p:1<=M.dk.length:=by obtain ⟨j,hj,_⟩:=hlo.openD;omega
  have g3q:=VR hlo;have g4p:1<=M.pc.length:=OQ hlo;have g4q:=Tn hlo;have g2q:=Yz hlo;have g0q:M.rm.length<=3:=(Zo hlo.sane.hall).2.1;have g0p:1<=M.rm.length:=(Zo hlo.sane.hall).1;clear hlo;cases bq
  ·go_wp2_with fail
   go_meet;exact ⟨_,_,_,_,_,_,_,⟨by omega,by omega⟩,uh HE⟩
  go_wp2_with fail;refine (Draw.below_any a len cap bc 7 (by omega) (by omega) _ (uh HE).st).mono ?_;rintro e w3 ⟨y,rfl,y0,y1,s9,p9⟩;replace HE:=Z9 ((uh HE).step s9 p9);clear s9 p9
  rcases (show y=0\/y=1\/y=2\/y=3\/y=4\/y=5\/y=6 by omega) with rfl | rfl | rfl | rfl | rfl | rfl | rfl
  ·
   clear y0 y1;have x2:=(uh HE).kb.cell (i:=2) (v:= .slice b2 M.sm.length q2) rfl;go_wp2_with fail;refine ZP (S:=fun w'=>w'.cell? ⟨mb,2,none⟩=some (.slice b2 M.sm.length q2)) (by kernel_rfl) (Xs _ _) (by kernel_rfl) x2 (fun hHeld=> ?_);simp only [Xt,Xu,YT,YM,Nat.zero_add,Nat.reduceAdd]
   iterate 3 refine tz ?_
   refine rd 3 rfl (fun K hK=> ?_);go_simp;refine (KO a len cap bc _ (Q8 (uh HE).st)).mono ?_;rintro e9 w5 ⟨⟨t0,t1,t2,t3,t4,t5,t6,t7,t8,t9,t10⟩,rfl,s9,p9⟩;replace HE:=Z9 ((uh HE).step s9 (RG p9));clear s9 p9 x2;simp only [ZU];refine hK.out _ _ ((uh HE).kb.cell (i:=2) rfl) (fun hHeld=> ?_);clear hK K
   (try simp only [Act.put,sA,sZ,sS])
   refine rd 4 rfl (fun K hK=> ?_);go_simp;have hba:Below w5.heap.size w5 (w5.alloc (.cells (I11 t0 t1 t2 t3 t4 t5 t6 t7 t8 t9 t10) 40)):=ba _ _;refine hK.out _ _ (((uh HE).below hba).kb.cell (i:=2) rfl) (fun hHeld=> ?_);clear hK K
   (try simp only [Act.put,sA,sZ,sS])
   obtain ⟨u9,w9,hrun,hown9,hg9,hat9⟩:=V5 tyS (w:=w5.alloc (.cells (I11 t0 t1 t2 t3 t4 t5 t6 t7 t8 t9 t10) 40)) (t:=28) (ty:=28) Tryz.underlying28 (RecAt.later (uh HE).full.sm hba) (Wy (t0,t1,t2,t3,t4,t5,t6,t7,t8,t9,t10) (g:=w5.heap.size) (c:=1) rfl (Z2 _) (by omega)) (by simp;omega) (by have:=(uh HE).off.size;have:=(uh HE).kr.lt;simp;omega);obtain ⟨kb9,E9⟩:=(uh HE).push hba hg9 hat9 hown9;have R9:=Z9 hrun;have HP:=Z9 E9;have K9:=Z9 kb9;obtain ⟨ua,uc,hu9⟩:=RecAt.shape hown9;obtain ⟨n9,hn9⟩:∃ q,q=(M.sm++[(t0,t1,t2,t3,t4,t5,t6,t7,t8,t9,t10)]).length:=⟨_,rfl⟩
   rw [<-hn9] at hu9;subst hu9;clear hrun E9 kb9 hown9 hg9 hat9 hn9;refine rd 5 rfl (fun K hK=> ?_);refine V6 rfl (.tmp 14) (.tmp 17) 28 rfl rfl rfl (uh R9) ?_;refine hK.out _ _ ((uh K9).cell (i:=2) rfl) (fun hHeld=> ?_);clear hK K
   (try simp only [Act.put,sA,sZ,sS])
   refine tp 6 ?_;have x2:=(uh K9).cell (i:=2) (v:= .slice b2 M.sm.length q2) rfl;have f2:=(uh K9).free 2;clear hba;refine wpAnyH_done (by kernel_rfl) ?_ _;refine ZF rfl rfl ?_;go_simp;clear hHeld;go_wp2_with fail;go_meet;refine ⟨_,_,_,_,_,_,_,?_,by first | exact uh HP | exact (uh HP).drew⟩;constructor<;>(first | omega | (simp only [pushS,V7,List.length_append,YT,YM];omega))
  ·
   clear y0 y1;obtain ⟨g3,hga,_,_,_,_⟩:=RecAt.view Zu (by omega) (uh HE).full.dk rfl (by omega);cases hga;have x3:=(uh HE).kb.cell (i:=3) (v:= .slice (some ⟨g3,0,none⟩) M.dk.length q3) rfl;go_wp2_with fail;clear x3;refine (Draw.below_any a len cap bc (M.dk.length:Int) (by omega) (by omega) _ (uh HE).st).mono ?_;rintro e w4 ⟨kk,rfl,k0,k1,s9,p9⟩;replace HE:=Z9 ((uh HE).step s9 p9);clear s9 p9;obtain ⟨kn,rfl⟩:∃ kn:Nat,kk=(kn:Int):=⟨kk.toNat,by omega⟩
   have x3:=(uh HE).kb.cell (i:=3) (v:= .slice (some ⟨g3,0,none⟩) M.dk.length q3) rfl;go_wp2_with fail;refine ZP (S:=fun w'=>w'.cell? ⟨mb,3,none⟩=some (.slice (some ⟨g3,0,none⟩) M.dk.length q3)) (by kernel_rfl) (Xs _ _) (by kernel_rfl) x3 (fun hHeld=> ?_);simp only [Xt,Xu,YT,YM,Nat.zero_add,Nat.reduceAdd]
   iterate 4 refine tz ?_
   refine rd 4 rfl (fun K hK=> ?_);go_simp;refine (Draw.from_any a len cap bc (-2) 4 (by omega) (by omega) (by omega) _ (Q8 (uh HE).st)).mono ?_;rintro e9 w5 ⟨v1,rfl,v10,v11,s9,p9⟩;replace HE:=Z9 ((uh HE).step s9 (RG p9));clear s9 p9 x3;refine hK.out _ _ ((uh HE).kb.cell (i:=3) rfl) (fun hHeld=> ?_);clear hK K
   (try simp only [Act.put,sA,sZ,sS])
   refine tp 5 ?_;refine tp 6 ?_;obtain ⟨_,hga,_,_,hc3,hz3⟩:=RecAt.view Zu (by omega) (uh HE).full.dk rfl (by omega);cases hga;have dd:=hc3 kn (by omega) 1 _ rfl;have df:=hz3 (kn*3+1);clear hc3 hz3;refine wpAnyH_done (by kernel_rfl) ?_ _;refine ZF rfl rfl ?_;go_simp;clear hHeld;go_wp2_with fail;go_meet;refine ⟨_,_,_,_,_,_,_,?_,by first | exact (uh HE).putD rfl (j:=kn) (i:=1) (by omega) (by omega) (.int .i64 v1) ((Z8 M.dk kn).1,v1,(Z8 M.dk kn).2.2) rfl | exact ((uh HE).putD rfl (j:=kn) (i:=1) (by omega) (by omega) (.int .i64 v1) ((Z8 M.dk kn).1,v1,(Z8 M.dk kn).2.2) rfl).drew⟩;constructor<;>(first | omega | (simp only [pushS,V7,List.length_append,YT,YM];omega))
  ·
   clear y0 y1;obtain ⟨g3,hga,_,_,_,_⟩:=RecAt.view Zu (by omega) (uh HE).full.dk rfl (by omega);cases hga;have x3:=(uh HE).kb.cell (i:=3) (v:= .slice (some ⟨g3,0,none⟩) M.dk.length q3) rfl;go_wp2_with fail;refine ZP (S:=fun w'=>w'.cell? ⟨mb,3,none⟩=some (.slice (some ⟨g3,0,none⟩) M.dk.length q3)) (by kernel_rfl) (Xs _ _) (by kernel_rfl) x3 (fun hHeld=> ?_);simp only [Xt,Xu,YT,YM,Nat.zero_add,Nat.reduceAdd]
   iterate 5 refine tz ?_
   refine rd 5 rfl (fun K hK=> ?_);go_simp;refine hK.out _ _ hHeld (fun hHeld=> ?_);clear hK K
   (try simp only [Act.put,sA,sZ,sS])
   refine rd 6 rfl (fun K hK=> ?_);go_simp;refine (Draw.below_any a len cap bc (M.dk.length:Int) (by omega) (by omega) _ (Q8 (uh HE).st)).mono ?_;rintro e9 w5 ⟨kk,rfl,k0,k1,s9,p9⟩;replace HE:=Z9 ((uh HE).step s9 (RG p9));clear s9 p9 x3;obtain ⟨kn,rfl⟩:∃ kn:Nat,kk=(kn:Int):=⟨kk.toNat,by omega⟩
   refine hK.out _ _ ((uh HE).kb.cell (i:=3) rfl) (fun hHeld=> ?_);clear hK K
   (try simp only [Act.put,sA,sZ,sS])
   refine tp 7 ?_;refine tp 8 ?_;obtain ⟨_,hga,_,_,hc3,hz3⟩:=RecAt.view Zu (by omega) (uh HE).full.dk rfl (by omega);cases hga;have dd:=hc3 kn (by omega) 0 _ rfl;have df:=hz3 (kn*3+0);simp only [Nat.add_zero] at dd df;clear hc3 hz3;refine wpAnyH_done (by kernel_rfl) ?_ _;refine ZF rfl rfl ?_;go_simp;clear hHeld;go_wp2_with fail;go_meet;refine ⟨_,_,_,_,_,_,_,?_,by first | exact (uh HE).putD rfl (j:=kn) (i:=0) (by omega) (by omega) (.bool false) (false,(Z8 M.dk kn).2) rfl | exact ((uh HE).putD rfl (j:=kn) (i:=0) (by omega) (by omega) (.bool false) (false,(Z8 M.dk kn).2) rfl).drew⟩;constructor<;>(first | omega | (simp only [pushS,V7,List.length_append,YT,YM];omega))
  ·
   clear y0 y1;obtain ⟨g4,hga,_,_,_,_⟩:=RecAt.view YH (by omega) (uh HE).full.pc rfl (by omega);cases hga;have x4:=(uh HE).kb.cell (i:=4) (v:= .slice (some ⟨g4,0,none⟩) M.pc.length q4) rfl;have hp0:0<M.pc.length:=by omega
   go_wp2_with fail;refine ZP (S:=fun w'=>w'.cell? ⟨mb,4,none⟩=some (.slice (some ⟨g4,0,none⟩) M.pc.length q4)) (by kernel_rfl) (Xs _ _) (by kernel_rfl) x4 (fun hHeld=> ?_);simp only [Xt,Xu,YT,YM,Nat.zero_add,Nat.reduceAdd]
   iterate 3 refine tz ?_
   refine rd 3 rfl (fun K hK=> ?_);go_simp;refine (Draw.from_any a len cap bc (-1) 4 (by omega) (by omega) (by omega) _ (Q8 (uh HE).st)).mono ?_;rintro e9 w5 ⟨v1,rfl,v10,v11,s9,p9⟩;replace HE:=Z9 ((uh HE).step s9 (RG p9));clear s9 p9 x4;refine hK.out _ _ ((uh HE).kb.cell (i:=4) rfl) (fun hHeld=> ?_);clear hK K
   (try simp only [Act.put,sA,sZ,sS])
   refine tp 4 ?_;obtain ⟨_,hga,_,_,hc4,hz4⟩:=RecAt.view YH (by omega) (uh HE).full.pc rfl (by omega);cases hga;have dd:=hc4 0 (by omega) 0 _ rfl;have df:=hz4 0;simp only [Nat.zero_mul,Nat.add_zero] at dd;clear hc4 hz4;refine wpAnyH_done (by kernel_rfl) ?_ _;refine ZF rfl rfl ?_;go_simp;clear hHeld;go_wp2_with fail;go_meet;refine ⟨_,_,_,_,_,_,_,?_,by first | exact (uh HE).putP rfl (j:=0) (by omega) v1 | exact ((uh HE).putP rfl (j:=0) (by omega) v1).drew⟩;constructor<;>(first | omega | (simp only [pushS,V7,List.length_append,YT,YM];omega))
  ·
   clear y0 y1;go_wp2_with fail;have hlb:w3.heap.size ≠ bc:=by have:=(uh HE).off.size;omega
   replace HE:=Z9 ((uh HE).below ((Z1 _ _).alloc (Z2 _) (.cells #[.int .i64 (-1),.int .i64 1000000,.int .i64 1000001] 2)));have KL:Hid (Blk (w3.alloc (.cells #[.int .i64 (-1),.int .i64 1000000,.int .i64 1000001] 2)) w3.heap.size 2 #[.int .i64 (-1),.int .i64 1000000,.int .i64 1000001]):=Z9 (Blk.new _ _ _);generalize w3.alloc (.cells #[.int .i64 (-1),.int .i64 1000000,.int .i64 1000001] 2)=Wp at *;generalize w3.heap.size=lb at *;refine (Draw.below_any a len cap bc 3 (by omega) (by omega) _ (uh HE).st).mono ?_;rintro e w4 ⟨v5,rfl,v50,v51,s9,p9⟩;replace KL:=Z9 ((uh KL).away p9 hlb);replace HE:=Z9 ((uh HE).step s9 p9);clear s9 p9;have x5:=(uh HE).kb.cell (i:=5) (v:= .int .i64 M.now) rfl;have f5:=(uh HE).kb.free 5;obtain ⟨vv,hcell⟩:=Mo (uh KL) v50 (by first | exact v51 | (simp;omega)) rfl;go_wp2_with fail;go_meet;refine ⟨_,_,_,_,_,_,_,?_,by first | exact (uh HE).now vv | exact ((uh HE).now vv).drew⟩;constructor<;>(first | omega | (simp only [pushS,V7,List.length_append,YT,YM];omega))
  ·
   clear y0 y1;go_wp2_with fail;refine (KK a len cap bc _ (uh HE).st).mono ?_;rintro e w4 ⟨gv,gs,rfl,_,hG⟩;have E4:=Z9 ((uh HE).step hG.st hG.off);have HP:=Z9 ((uh HE).gd hG.st hG.off hG.row);obtain ⟨ga,gc,rfl⟩:=RecAt.shape hG.row;have x1:=(uh E4).kb.cell (i:=1) (v:= .slice b1 M.gd.length q1) rfl;have f1:=(uh E4).kb.free 1;clear hG;go_wp2_with fail;go_meet;refine ⟨_,_,_,_,_,_,_,?_,by first | exact uh HP | exact (uh HP).drew⟩;constructor<;>(first | omega | (simp only [pushS,V7,List.length_append,YT,YM];omega))
  ·
   clear y0 y1;obtain ⟨g3,hga,_,_,_,_⟩:=RecAt.view Zu (by omega) (uh HE).full.dk rfl (by omega);cases hga;have hp0:0<M.dk.length:=by omega
   have x3:=(uh HE).kb.cell (i:=3) (v:= .slice (some ⟨g3,0,none⟩) M.dk.length q3) rfl;go_wp2_with fail;refine ZP (S:=fun w'=>w'.cell? ⟨mb,3,none⟩=some (.slice (some ⟨g3,0,none⟩) M.dk.length q3)) (by kernel_rfl) (Xs _ _) (by kernel_rfl) x3 (fun hHeld=> ?_);simp only [Xt,Xu,YT,YM,Nat.zero_add,Nat.reduceAdd]
   iterate 2 refine tz ?_
   refine tp 3 ?_;replace HE:=Z9 (uh HE).drew;generalize w3.drew=X0 at *;clear x3;refine wpAnyH_ready (rs:=[2,4]) (by kernel_rfl) (by simp) ?_;refine AllReadyH.cons rfl (fun K hK=> ?_) (AllReadyH.cons rfl (fun K hK=> ?_) AllReadyH.nil)
   ·
    go_simp;have hlb:X0.heap.size ≠ bc:=by have:=(uh HE).off.size;omega
    obtain ⟨Wp,hWp,hba,KL⟩:=YF X0 2 #[.int .i64 0,.int .i64 500000,.int .i64 1000000000001];replace HE:=Z9 ((uh HE).below hba);rw [hWp];refine hK.out _ _ ((uh HE).kb.cell (i:=3) rfl) (fun hHeld=> ?_);clear hK K
    (try simp only [Act.put,sA,sZ,sS])
    clear hba;clear hWp;generalize X0.heap.size=lb at *;refine rd 4 rfl (fun K hK=> ?_);go_simp;refine (Draw.below_any a len cap bc 3 (by omega) (by omega) _ (uh HE).st).mono ?_;rintro e9 w5 ⟨v5,rfl,v50,v51,s9,p9⟩;replace KL:=Z9 ((uh KL).away p9 hlb);replace HE:=Z9 ((uh HE).step s9 p9);clear s9 p9;refine hK.out _ _ ((uh HE).kb.cell (i:=3) rfl) (fun hHeld=> ?_);clear hK K
    (try simp only [Act.put,sA,sZ,sS])
    obtain ⟨_,hga,_,_,hc3,hz3⟩:=RecAt.view Zu (by omega) (uh HE).full.dk rfl (by omega);cases hga;have dd:=hc3 0 (by omega) 2 _ rfl;have df:=hz3 (0*3+2);clear hc3 hz3;simp only [Nat.zero_mul,Nat.zero_add] at dd df;obtain ⟨vv,hcell⟩:=Mo (uh KL) v50 (by first | exact v51 | (simp;omega)) rfl;refine tp 5 ?_;refine rd 6 rfl (fun K hK=> ?_);go_simp;refine hK.out _ _ ((uh HE).kb.cell (i:=3) rfl) (fun hHeld=> ?_);clear hK K
    (try simp only [Act.put,sA,sZ,sS])
    refine tp 7 ?_;refine tp 8 ?_;refine wpAnyH_done (by kernel_rfl) ?_ _;refine ZF rfl rfl ?_;go_simp;clear hHeld;have hq:=(uh HE).putD rfl (j:=0) (i:=2) (by omega) (by omega) (.int .i64 vv) ((Z8 M.dk 0).1,(Z8 M.dk 0).2.1,vv) rfl;simp only [Nat.zero_mul,Nat.zero_add] at hq;go_wp2_with fail;go_meet;refine ⟨_,_,_,_,_,_,_,?_,by first | exact hq | exact (hq).drew⟩;constructor<;>(first | omega | (simp only [pushS,V7,List.length_append,YT,YM];omega))
   ·
    go_simp;refine (Draw.below_any a len cap bc 3 (by omega) (by omega) _ (uh HE).st).mono ?_;rintro e9 w5 ⟨v5,rfl,v50,v51,s9,p9⟩;replace HE:=Z9 ((uh HE).step s9 p9);clear s9 p9;refine hK.out _ _ ((uh HE).kb.cell (i:=3) rfl) (fun hHeld=> ?_);clear hK K
    (try simp only [Act.put,sA,sZ,sS])
    refine rd 2 rfl (fun K hK=> ?_);go_simp;have hlb:w5.heap.size ≠ bc:=by have:=(uh HE).off.size;omega
    obtain ⟨Wp,hWp,hba,KL⟩:=YF w5 2 #[.int .i64 0,.int .i64 500000,.int .i64 1000000000001];replace HE:=Z9 ((uh HE).below hba);rw [hWp];refine hK.out _ _ ((uh HE).kb.cell (i:=3) rfl) (fun hHeld=> ?_);clear hK K
    (try simp only [Act.put,sA,sZ,sS])
    clear hba;clear hWp;generalize w5.heap.size=lb at *;obtain ⟨_,hga,_,_,hc3,hz3⟩:=RecAt.view Zu (by omega) (uh HE).full.dk rfl (by omega);cases hga;have dd:=hc3 0 (by omega) 2 _ rfl;have df:=hz3 (0*3+2);clear hc3 hz3;simp only [Nat.zero_mul,Nat.zero_add] at dd df;obtain ⟨vv,hcell⟩:=Mo (uh KL) v50 (by first | exact v51 | (simp;omega)) rfl;refine tp 5 ?_;refine rd 6 rfl (fun K hK=> ?_);go_simp;refine hK.out _ _ ((uh HE).kb.cell (i:=3) rfl) (fun hHeld=> ?_);clear hK K
    (try simp only [Act.put,sA,sZ,sS])
    refine tp 7 ?_;refine tp 8 ?_;refine wpAnyH_done (by kernel_rfl) ?_ _;refine ZF rfl rfl ?_;go_simp;clear hHeld;have hq:=(uh HE).putD rfl (j:=0) (i:=2) (by omega) (by omega) (.int .i64 vv) ((Z8 M.dk 0).1,(Z8 M.dk 0).2.1,vv) rfl;simp only [Nat.zero_mul,Nat.zero_add] at hq;go_wp2_with fail;go_meet;refine ⟨_,_,_,_,_,_,_,?_,by first | exact hq | exact (hq).drew⟩;constructor<;>(first | omega | (simp only [pushS,V7,List.length_append,YT,YM];omega))
 case rest=>
 obtain ⟨M9,u0,u1,u2,u3,u4,rq9,⟨hm1,hm2⟩,hE9⟩:=hcut;have Hm1:=Z9 hm1;have Hm2:=Z9 hm2;clear hm1 hm2;have k6:=hE9.full.smy;obtain ⟨c0,r0,c1,r1,c2,r2,c3,r3,c4,r4,rfl,rfl,rfl,rfl,rfl,_,_,_,_,_,_,_,_,_,_⟩:=k6.five;have H9:=Z9 hE9;clear hE9 k6 HE Hok;have x0:=(uh H9).kb.cell (i:=0) (v:= .slice c0 M9.rm.length r0) rfl;have o0:=(uh H9).kr.cell (i:=0) (v:= .slice none 0 0) rfl;have f0:=(uh H9).kr.free 0;have x1:=(uh H9).kb.cell (i:=1) (v:= .slice c1 M9.gd.length r1) rfl;have o1:=(uh H9).kr.cell (i:=1) (v:= .slice none 0 0) rfl;have f1:=(uh H9).kr.free 1;have x2:=(uh H9).kb.cell (i:=2) (v:= .slice c2 M9.sm.length r2) rfl;have o2:=(uh H9).kr.cell (i:=2) (v:= .slice none 0 0) rfl;have f2:=(uh H9).kr.free 2;have x3:=(uh H9).kb.cell (i:=3) (v:= .slice c3 M9.dk.length r3) rfl;have o3:=(uh H9).kr.cell (i:=3) (v:= .slice none 0 0) rfl;have f3:=(uh H9).kr.free 3;have x4:=(uh H9).kb.cell (i:=4) (v:= .slice c4 M9.pc.length r4) rfl;have o4:=(uh H9).kr.cell (i:=4) (v:= .slice none 0 0) rfl;have f4:=(uh H9).kr.free 4;have x5:=(uh H9).kb.cell (i:=5) (v:= .int .i64 M9.now) rfl;have o5:=(uh H9).kr.cell (i:=5) (v:= .int .i64 0) rfl;have f5:=(uh H9).kr.free 5;have hml:=(uh H9).mlo;go_wp2_with fail;refine ZS (v:= .agg (S6 c0 r0 c1 r1 c2 r2 c3 r3 c4 r4 M9)) (by simp [results,Tryz.results38,go_sem, *]) rfl ⟨M9,_,_,_,_,_,rq9,rfl,uh Hm1,uh Hm2,?_,?_,?_⟩
 ·iterate 6 (refine FullSmy.set_off ?_ (fun k e=>by have:=((uh H9).full.own e).1;omega) _ _)
  exact (uh H9).full
 ·iterate 6 (refine St.newer ?_ (by omega) _ _)
  exact (uh H9).st
 ·iterate 6 (refine Off.newer ?_ (by omega) _ _)
  exact (uh H9).off
end Go.Proofs.YtamgfpdahadnfaaGreatDoor
