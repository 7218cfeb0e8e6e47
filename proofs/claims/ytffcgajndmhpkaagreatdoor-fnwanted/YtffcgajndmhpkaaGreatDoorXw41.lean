/- Part 41 of what the proof rests on. No condition but those that a theorem names. -/
import Derived.Test.YtffcgajndmhpkaaGreatDoorXw40
import Derived.Deep.OwnRows
set_option maxHeartbeats 8000000
set_option maxRecDepth 100000
namespace Go.Proofs.YtffcgajndmhpkaaGreatDoor
open Go.ChangeShapes Go.WideShapes Go.ChangeAt Go.RowKit Go.Sort
set_option linter.unusedVariables false
set_option linter.unusedSimpArgs false
set_option maxRecDepth 100000
structure Nw (w X:World) (a:Option Addr) (rs:List Z2) (cap:Nat) (c1:Option (Option Addr × Nat × List (Z2 × Value))) (c5 c7:Option Nat):Prop where
 sz:w.heap.size+2<=X.heap.size
 v:IsRooms X (.slice a rs.length cap) rs
 kb:Blk X w.heap.size 26 #[.slice a rs.length cap]
 kr:Blk X (w.heap.size+1) 32 E6
 bb:Below w.heap.size w X
 h1:∀ ua uc qs,c1=some (ua,uc,qs)->OwnHall (w.heap.size+2) X (.slice ua rs.length uc) qs/\qs.map (·.1)=rs
 h5:∀ g,c5=some g->w.heap.size+2<=g/\g<X.heap.size/\NumsAt (w.heap.size+2) X (.slice (some ⟨g,0,none⟩) rs.length rs.length) (List.replicate rs.length 0)
 h7:∀ R,c7=some R->w.heap.size+2<=R/\Blk X R 32 E6
 d15:∀ ua uc qs g,c1=some (ua,uc,qs)->c5=some g-> ∀ k,((Value.slice ua rs.length uc).ownBlock=some k\/ ∃ q ∈ qs,q.2.ownBlock=some k)->k ≠ g
 d17:∀ ua uc qs R,c1=some (ua,uc,qs)->c7=some R-> ∀ k,((Value.slice ua rs.length uc).ownBlock=some k\/ ∃ q ∈ qs,q.2.ownBlock=some k)->k ≠ R
 d57:∀ g R,c5=some g->c7=some R->R ≠ g
section
variable {w X X' : World} {a : Option Addr} {rs : List Z2} {cap : Nat} {c1 : Option (Option Addr × Nat × List (Z2 × Value))} {c5 c7 : Option Nat}
theorem Nw.next (h:Nw w X a rs cap c1 c5 c7) (hb:Below X.heap.size X X'):Nw w X' a rs cap c1 c5 c7:=
 ⟨Nat.le_trans h.sz hb.size,h.v.below hb,h.kb.below hb h.kb.lt,h.kr.below hb h.kr.lt,h.bb.trans (hb.mono h.bb.size),fun ua uc qs e=>⟨(h.h1 ua uc qs e).1.later hb,(h.h1 ua uc qs e).2⟩,fun g e=>⟨(h.h5 g e).1,Nat.lt_of_lt_of_le (h.h5 g e).2.1 hb.size,RecAt.later (h.h5 g e).2.2 hb⟩,fun R e=>⟨(h.h7 R e).1,(h.h7 R e).2.below hb (h.h7 R e).2.lt⟩,h.d15,h.d17,h.d57⟩
theorem Nw.make (h:Nw w X a rs cap c1 none c7) (hn:rs.length<=1000):Nw w (X.alloc (.cells (madeCells #[.int .i64 0] rs.length) 2)) a rs cap c1 (some X.heap.size) c7:=by
 have k:=h.next ((Below.refl _ _).alloc (Nat.le_refl _) (.cells (madeCells #[.int .i64 0] rs.length) 2))
 have hs:=h.sz
 refine ⟨k.sz,k.v,k.kb,k.kr,k.bb,k.h1,fun g e=> ?_,k.h7,fun ua uc qs g e1 e k' ho=> ?_,k.d17,fun g R e e7=> ?_⟩
 ·cases e;exact ⟨hs,by simp,EO hs hn⟩
 ·cases e;have:=((h.h1 ua uc qs e1).1.lt ho).2;omega
 ·cases e;have:=(h.h7 R e7).2.lt;omega
theorem Nw.box (h:Nw w X a rs cap c1 c5 none):Nw w (X.alloc (.cells E6 32)) a rs cap c1 c5 (some X.heap.size):=by
 have k:=h.next ((Below.refl _ _).alloc (Nat.le_refl _) (.cells E6 32))
 have hs:=h.sz
 refine ⟨k.sz,k.v,k.kb,k.kr,k.bb,k.h1,k.h5,fun R e=> ?_,k.d15,fun ua uc qs R e1 e k' ho=> ?_,fun g R e5 e=> ?_⟩
 ·cases e;exact ⟨hs,Blk.new _ _ _⟩
 ·cases e;have:=((h.h1 ua uc qs e1).1.lt ho).2;omega
 ·cases e;have:=(h.h5 g e5).2.1;omega
end
theorem Nw.copy {w X:World} {a:Option Addr} {rs:List Z2} {cap:Nat} {c5 c7:Option Nat} (h:Nw w X a rs cap none c5 c7) (hn:rs.length<=1000) (hp:∀ r ∈ rs,r.2.length<=1000):Calls Tryz.prog 98 #[.agg #[.slice a rs.length cap]] X fun e X'=> ∃ ua uc qs,e= .returned (.agg #[.slice ua rs.length uc])/\Hid (Nw w X' a rs cap (some (ua,uc,qs)) c5 c7):=by
 refine (Om h.v hn hp).mono ?_
 rintro e X1 ⟨v4,qs,rfl,hq4,ho4,hb4⟩
 obtain ⟨ua,uc,e9⟩:=ho4.shape
 have hql:qs.length=rs.length:=by have:=congrArg List.length hq4;simpa using this
 rw [hql] at e9
 subst e9
 have k:=h.next hb4
 have hs:=h.sz
 refine ⟨ua,uc,qs,rfl,Z9 ⟨k.sz,k.v,k.kb,k.kr,k.bb,fun _ _ _ e=> ?_,k.h5,k.h7,fun _ _ _ g e e5 k' ho=> ?_,fun _ _ _ R e e7 k' ho=> ?_,k.d57⟩⟩
 ·cases e;exact ⟨ho4.mono hs,hq4⟩
 ·cases e;have:=(ho4.lt ho).1;have:=(h.h5 g e5).2.1;omega
 ·cases e;have:=(ho4.lt ho).1;have:=(h.h7 R e7).2.lt;omega
theorem QC {w X:World} {a:Option Addr} {rs:List Z2} {cap R g uc:Nat} {ua:Option Addr} {qs:List (Z2 × Value)} (h:Nw w X a rs cap (some (ua,uc,qs)) (some g) (some R)):∃ R' hv pv qs',Value.pointer (some ⟨R,0,none⟩)= .pointer (some ⟨R',0,none⟩)/\NewCut w.heap.size w a rs cap ((((((X.setCell ⟨R,0,none⟩ (.slice ua rs.length uc)).setCell ⟨R,1,none⟩ (.slice none 0 0)).setCell ⟨R,2,none⟩ (.slice none 0 0)).setCell ⟨R,3,none⟩ (.slice none 0 0)).setCell ⟨R,4,none⟩ (.slice (some ⟨g,0,none⟩) rs.length rs.length)).setCell ⟨R,5,none⟩ (.int .i64 0)) R' hv pv qs':=Cx (h.h7 _ rfl).1 h.bb h.kb h.kr (h.h1 _ _ _ rfl).1 (h.h5 _ rfl).2.2 (h.h7 _ rfl).2 (h.h5 _ rfl).1 (h.d15 _ _ _ _ rfl rfl) (h.d17 _ _ _ _ rfl rfl) (h.d57 _ _ rfl rfl) (h.h1 _ _ _ rfl).2
theorem RA {w:World} {v:Value} {rs:List Z2} (h:IsRooms w v rs) :
  Calls Tryz.prog 136 #[.agg #[v]] w fun e w'=>A9 w.heap.size (EW rs) (Zh rs) e w'/\Below w.heap.size w w':=by
 have Hv0:=Z9 h
 obtain ⟨a,cap,rfl,hc,hm,hr⟩:=h
 clear hr
 obtain ⟨ok,hok⟩:∃ q,Zh rs=q:=⟨_,rfl⟩
 have Hok:=Z9 hok
 obtain ⟨M,hM⟩:∃ M,EW rs=M:=⟨_,rfl⟩
 rw [hok,hM]
 have HM:=Z9 hM
 clear hok hM
 have kb:Hid (Blk ((w.alloc (.cells #[.slice a rs.length cap] 26)).alloc (.cells E6 32)) w.heap.size 26 #[.slice a rs.length cap]):=Z9 ((Blk.new w _ _).alloc _)
 have kr:Hid (Blk ((w.alloc (.cells #[.slice a rs.length cap] 26)).alloc (.cells E6 32)) (w.heap.size+1) 32 E6):=Z9 (by
  have k:=Blk.new (w.alloc (.cells #[.slice a rs.length cap] 26)) 32 E6
  rw [World.size_alloc] at k
  exact k)
 have BB:Hid (Below w.heap.size w ((w.alloc (.cells #[.slice a rs.length cap] 26)).alloc (.cells E6 32))):=Z9 (((ba _ _)).alloc (by simp) _)
 have Hv:=Z9 ((uh Hv0).below (uh BB))
 go_enter Tryz.func136,Tryz.ntmps136
 go_wp2_with fail
 generalize (w.alloc (.cells #[.slice a rs.length cap] 26)).alloc (.cells E6 32)=W at *
 refine (Xr (uh Hv)).mono ?_
 rw [uh Hok]
 rintro e w1 ⟨rfl,hb⟩
 replace Hv:=Z9 ((uh Hv).below hb)
 replace kb:=bl kb hb
 replace kr:=bl kr hb
 replace BB:=bt BB hb
 clear hb
 cases ok
 ·obtain rfl:M=YJ:=by rw [<-uh HM];unfold EW;rw [uh Hok];rfl
  obtain ⟨o0,o1,o2,o3,o4,o5⟩:=(uh kr).c6
  obtain ⟨f0,f1,f2,f3,f4,f5⟩:=(uh kr).f6
  go_wp2_with fail
  refine bodyPost_ret (v:= .tuple #[.agg E6,.bool false]) (by simp [results,Tryz.results136,go_sem, *]) rfl ⟨⟨_,_,_,_,_,[],rfl,Y1 _ _⟩,?_⟩
  iterate 6 (refine Below.setCell ?_ (by show _<=w.heap.size+1;omega) _)
  exact uh BB
 obtain rfl:M=U0 rs:=by rw [<-uh HM];unfold EW;rw [uh Hok];rfl
 obtain ⟨r1,r2,r3,r4⟩:=Zy (uh Hok)
 have HP:Hid (∀ r ∈ rs,r.2.length<=1000):=Z9 (fun r hr=>by
  have hrb:=List.all_eq_true.1 r3 r hr
  unfold Zt at hrb
  simp only [Bool.and_eq_true] at hrb
  have:=ZU hrb.2.1
  omega)
 have hmk:∀ X:World,(Instr.makeSlice 30 (.int .i64 (rs.length:Int)) (.int .i64 (rs.length:Int))).run Tryz.prog X= .ok (.slice (some ⟨X.heap.size,0,none⟩) rs.length rs.length) (X.alloc (.cells (madeCells #[.int .i64 0] rs.length) 2)):=fun X=>run_make_row' 30 2 (.int .i64 0) 8 Tryz.underlying30 (by kernel_rfl) rfl .i64 .i64 rs.length (by omega) (by omega) X
 have Hb12:Hid (1<=Z1 rs/\Z1 rs<=8):=Z9 ⟨Qk (uh Hok),r4⟩
 clear r3 r4
 have c0:=(uh kb).cell (i:=0) (v:= .slice a rs.length cap) rfl
 go_wp2_with fail
 go_cut [4] (fun s wc=> ∃ R hv pv qs,s= .pointer (some ⟨R,0,none⟩)/\NewCut w.heap.size w a rs cap wc R hv pv qs)
 case first=>
  have H:Hid (Nw w w1.drew a rs cap none none none):=Z9 ⟨by have:=(uh kr).lt;show _<=w1.heap.size;omega,(uh Hv).below (Below.refl _ _).drew,(uh kb).below (Below.refl _ _).drew (uh kb).lt,(uh kr).below (Below.refl _ _).drew (uh kr).lt,(uh BB).drew,fun _ _ _ e=>(by cases e),fun _ e=>(by cases e),fun _ e=>(by cases e),fun _ _ _ _ e=>(by cases e),fun _ _ _ _ e=>(by cases e),fun _ _ e=>(by cases e)⟩
  refine ZS (S:=(fun w'=>w'.cell? ⟨w.heap.size,0,none⟩=some (.slice a rs.length cap))) (by kernel_rfl) (List.cons_ne_nil _ _) (by kernel_rfl) c0 (fun hHeld=> ?_)
  simp only [List.dropLast_cons_cons,List.dropLast_singleton,List.length_cons,List.length_nil,Nat.zero_add,Nat.reduceAdd]
  clear c0 kb kr Hv BB
  generalize w1.drew=X0 at *
  (refine tq 0 ?_;(try simp only [Act.put,sA,sZ,sS]))
  (refine tq 2 ?_;(try simp only [Act.put,sA,sZ,sS]))
  (refine tq 3 ?_;(try simp only [Act.put,sA,sZ,sS]))
  (refine tq 4 ?_;(try simp only [Act.put,sA,sZ,sS]))
  refine wpAnyH_ready (rs:=[1,5,7]) (by kernel_rfl) (by simp) ?_
  refine AllReadyH.cons rfl (fun K hK=> ?_) (AllReadyH.cons rfl (fun K hK=> ?_) (AllReadyH.cons rfl (fun K hK=> ?_) (AllReadyH.nil)))
  ·go_simp
   refine ((uh H).copy (by omega) (uh HP)).mono ?_
   rintro e9 X1 ⟨ua,uc,qs,rfl,H⟩
   refine hK.out _ _ ((uh H).kb.cell (i:=0) rfl) (fun hHeld=> ?_)
   clear hK K
   (try simp only [Act.put,sA,sZ,sS])
   refine wpAnyH_ready (rs:=[5,7]) (by kernel_rfl) (by simp) ?_
   refine AllReadyH.cons rfl (fun K hK=> ?_) (AllReadyH.cons rfl (fun K hK=> ?_) (AllReadyH.nil))
   ·go_simp
    replace H:=Z9 ((uh H).make (by omega))
    refine hK.out _ _ ((uh H).kb.cell (i:=0) rfl) (fun hHeld=> ?_)
    clear hK K
    generalize X1.alloc (.cells (madeCells #[.int .i64 0] rs.length) 2)=X2 at *
    generalize X1.heap.size=g5 at *
    (try simp only [Act.put,sA,sZ,sS])
    (refine tq 6 ?_;(try simp only [Act.put,sA,sZ,sS]))
    refine wpAnyH_ready (rs:=[7]) (by kernel_rfl) (by simp) ?_
    refine AllReadyH.cons rfl (fun K hK=> ?_) (AllReadyH.nil)
    ·go_simp
     replace H:=Z9 ((uh H).box)
     refine hK.out _ _ ((uh H).kb.cell (i:=0) rfl) (fun hHeld=> ?_)
     clear hK K
     generalize X2.alloc (.cells E6 32)=X3 at *
     generalize X2.heap.size=g7 at *
     (try simp only [Act.put,sA,sZ,sS])
     refine wpAnyH_done (by kernel_rfl) ?_ _
     refine ZH rfl rfl ?_
     go_simp
     have m0:=((uh H).h7 _ rfl).2.cell (i:=0) (v:= .slice none 0 0) rfl
     have n0:=((uh H).h7 _ rfl).2.free 0
     have m1:=((uh H).h7 _ rfl).2.cell (i:=1) (v:= .slice none 0 0) rfl
     have n1:=((uh H).h7 _ rfl).2.free 1
     have m2:=((uh H).h7 _ rfl).2.cell (i:=2) (v:= .slice none 0 0) rfl
     have n2:=((uh H).h7 _ rfl).2.free 2
     have m3:=((uh H).h7 _ rfl).2.cell (i:=3) (v:= .slice none 0 0) rfl
     have n3:=((uh H).h7 _ rfl).2.free 3
     have m4:=((uh H).h7 _ rfl).2.cell (i:=4) (v:= .slice none 0 0) rfl
     have n4:=((uh H).h7 _ rfl).2.free 4
     have m5:=((uh H).h7 _ rfl).2.cell (i:=5) (v:= .int .i64 0) rfl
     have n5:=((uh H).h7 _ rfl).2.free 5
     go_wp2_with fail
     all_goals
      go_meet
      exact QC (uh H)
   ·go_simp
    replace H:=Z9 ((uh H).box)
    refine hK.out _ _ ((uh H).kb.cell (i:=0) rfl) (fun hHeld=> ?_)
    clear hK K
    generalize X1.alloc (.cells E6 32)=X2 at *
    generalize X1.heap.size=g7 at *
    (try simp only [Act.put,sA,sZ,sS])
    refine wpAnyH_ready (rs:=[5]) (by kernel_rfl) (by simp) ?_
    refine AllReadyH.cons rfl (fun K hK=> ?_) (AllReadyH.nil)
    ·go_simp
     replace H:=Z9 ((uh H).make (by omega))
     refine hK.out _ _ ((uh H).kb.cell (i:=0) rfl) (fun hHeld=> ?_)
     clear hK K
     generalize X2.alloc (.cells (madeCells #[.int .i64 0] rs.length) 2)=X3 at *
     generalize X2.heap.size=g5 at *
     (try simp only [Act.put,sA,sZ,sS])
     (refine tq 6 ?_;(try simp only [Act.put,sA,sZ,sS]))
     refine wpAnyH_done (by kernel_rfl) ?_ _
     refine ZH rfl rfl ?_
     go_simp
     have m0:=((uh H).h7 _ rfl).2.cell (i:=0) (v:= .slice none 0 0) rfl
     have n0:=((uh H).h7 _ rfl).2.free 0
     have m1:=((uh H).h7 _ rfl).2.cell (i:=1) (v:= .slice none 0 0) rfl
     have n1:=((uh H).h7 _ rfl).2.free 1
     have m2:=((uh H).h7 _ rfl).2.cell (i:=2) (v:= .slice none 0 0) rfl
     have n2:=((uh H).h7 _ rfl).2.free 2
     have m3:=((uh H).h7 _ rfl).2.cell (i:=3) (v:= .slice none 0 0) rfl
     have n3:=((uh H).h7 _ rfl).2.free 3
     have m4:=((uh H).h7 _ rfl).2.cell (i:=4) (v:= .slice none 0 0) rfl
     have n4:=((uh H).h7 _ rfl).2.free 4
     have m5:=((uh H).h7 _ rfl).2.cell (i:=5) (v:= .int .i64 0) rfl
     have n5:=((uh H).h7 _ rfl).2.free 5
     go_wp2_with fail
     all_goals
      go_meet
      exact QC (uh H)
  ·go_simp
   replace H:=Z9 ((uh H).make (by omega))
   refine hK.out _ _ ((uh H).kb.cell (i:=0) rfl) (fun hHeld=> ?_)
   clear hK K
   generalize X0.alloc (.cells (madeCells #[.int .i64 0] rs.length) 2)=X1 at *
   generalize X0.heap.size=g5 at *
   (try simp only [Act.put,sA,sZ,sS])
   refine wpAnyH_ready (rs:=[1,7]) (by kernel_rfl) (by simp) ?_
   refine AllReadyH.cons rfl (fun K hK=> ?_) (AllReadyH.cons rfl (fun K hK=> ?_) (AllReadyH.nil))
   ·go_simp
    refine ((uh H).copy (by omega) (uh HP)).mono ?_
    rintro e9 X2 ⟨ua,uc,qs,rfl,H⟩
    refine hK.out _ _ ((uh H).kb.cell (i:=0) rfl) (fun hHeld=> ?_)
    clear hK K
    (try simp only [Act.put,sA,sZ,sS])
    (refine tq 6 ?_;(try simp only [Act.put,sA,sZ,sS]))
    refine wpAnyH_ready (rs:=[7]) (by kernel_rfl) (by simp) ?_
    refine AllReadyH.cons rfl (fun K hK=> ?_) (AllReadyH.nil)
    ·go_simp
     replace H:=Z9 ((uh H).box)
     refine hK.out _ _ ((uh H).kb.cell (i:=0) rfl) (fun hHeld=> ?_)
     clear hK K
     generalize X2.alloc (.cells E6 32)=X3 at *
     generalize X2.heap.size=g7 at *
     (try simp only [Act.put,sA,sZ,sS])
     refine wpAnyH_done (by kernel_rfl) ?_ _
     refine ZH rfl rfl ?_
     go_simp
     have m0:=((uh H).h7 _ rfl).2.cell (i:=0) (v:= .slice none 0 0) rfl
     have n0:=((uh H).h7 _ rfl).2.free 0
     have m1:=((uh H).h7 _ rfl).2.cell (i:=1) (v:= .slice none 0 0) rfl
     have n1:=((uh H).h7 _ rfl).2.free 1
     have m2:=((uh H).h7 _ rfl).2.cell (i:=2) (v:= .slice none 0 0) rfl
     have n2:=((uh H).h7 _ rfl).2.free 2
     have m3:=((uh H).h7 _ rfl).2.cell (i:=3) (v:= .slice none 0 0) rfl
     have n3:=((uh H).h7 _ rfl).2.free 3
     have m4:=((uh H).h7 _ rfl).2.cell (i:=4) (v:= .slice none 0 0) rfl
     have n4:=((uh H).h7 _ rfl).2.free 4
     have m5:=((uh H).h7 _ rfl).2.cell (i:=5) (v:= .int .i64 0) rfl
     have n5:=((uh H).h7 _ rfl).2.free 5
     go_wp2_with fail
     all_goals
      go_meet
      exact QC (uh H)
   ·go_simp
    replace H:=Z9 ((uh H).box)
    refine hK.out _ _ ((uh H).kb.cell (i:=0) rfl) (fun hHeld=> ?_)
    clear hK K
    generalize X1.alloc (.cells E6 32)=X2 at *
    generalize X1.heap.size=g7 at *
    (try simp only [Act.put,sA,sZ,sS])
    refine wpAnyH_ready (rs:=[1]) (by kernel_rfl) (by simp) ?_
    refine AllReadyH.cons rfl (fun K hK=> ?_) (AllReadyH.nil)
    ·go_simp
     refine ((uh H).copy (by omega) (uh HP)).mono ?_
     rintro e9 X3 ⟨ua,uc,qs,rfl,H⟩
     refine hK.out _ _ ((uh H).kb.cell (i:=0) rfl) (fun hHeld=> ?_)
     clear hK K
     (try simp only [Act.put,sA,sZ,sS])
     (refine tq 6 ?_;(try simp only [Act.put,sA,sZ,sS]))
     refine wpAnyH_done (by kernel_rfl) ?_ _
     refine ZH rfl rfl ?_
     go_simp
     have m0:=((uh H).h7 _ rfl).2.cell (i:=0) (v:= .slice none 0 0) rfl
     have n0:=((uh H).h7 _ rfl).2.free 0
     have m1:=((uh H).h7 _ rfl).2.cell (i:=1) (v:= .slice none 0 0) rfl
     have n1:=((uh H).h7 _ rfl).2.free 1
     have m2:=((uh H).h7 _ rfl).2.cell (i:=2) (v:= .slice none 0 0) rfl
     have n2:=((uh H).h7 _ rfl).2.free 2
     have m3:=((uh H).h7 _ rfl).2.cell (i:=3) (v:= .slice none 0 0) rfl
     have n3:=((uh H).h7 _ rfl).2.free 3
     have m4:=((uh H).h7 _ rfl).2.cell (i:=4) (v:= .slice none 0 0) rfl
     have n4:=((uh H).h7 _ rfl).2.free 4
     have m5:=((uh H).h7 _ rfl).2.cell (i:=5) (v:= .int .i64 0) rfl
     have n5:=((uh H).h7 _ rfl).2.free 5
     go_wp2_with fail
     all_goals
      go_meet
      exact QC (uh H)
  ·go_simp
   replace H:=Z9 ((uh H).box)
   refine hK.out _ _ ((uh H).kb.cell (i:=0) rfl) (fun hHeld=> ?_)
   clear hK K
   generalize X0.alloc (.cells E6 32)=X1 at *
   generalize X0.heap.size=g7 at *
   (try simp only [Act.put,sA,sZ,sS])
   refine wpAnyH_ready (rs:=[1,5]) (by kernel_rfl) (by simp) ?_
   refine AllReadyH.cons rfl (fun K hK=> ?_) (AllReadyH.cons rfl (fun K hK=> ?_) (AllReadyH.nil))
   ·go_simp
    refine ((uh H).copy (by omega) (uh HP)).mono ?_
    rintro e9 X2 ⟨ua,uc,qs,rfl,H⟩
    refine hK.out _ _ ((uh H).kb.cell (i:=0) rfl) (fun hHeld=> ?_)
    clear hK K
    (try simp only [Act.put,sA,sZ,sS])
    refine wpAnyH_ready (rs:=[5]) (by kernel_rfl) (by simp) ?_
    refine AllReadyH.cons rfl (fun K hK=> ?_) (AllReadyH.nil)
    ·go_simp
     replace H:=Z9 ((uh H).make (by omega))
     refine hK.out _ _ ((uh H).kb.cell (i:=0) rfl) (fun hHeld=> ?_)
     clear hK K
     generalize X2.alloc (.cells (madeCells #[.int .i64 0] rs.length) 2)=X3 at *
     generalize X2.heap.size=g5 at *
     (try simp only [Act.put,sA,sZ,sS])
     (refine tq 6 ?_;(try simp only [Act.put,sA,sZ,sS]))
     refine wpAnyH_done (by kernel_rfl) ?_ _
     refine ZH rfl rfl ?_
     go_simp
     have m0:=((uh H).h7 _ rfl).2.cell (i:=0) (v:= .slice none 0 0) rfl
     have n0:=((uh H).h7 _ rfl).2.free 0
     have m1:=((uh H).h7 _ rfl).2.cell (i:=1) (v:= .slice none 0 0) rfl
     have n1:=((uh H).h7 _ rfl).2.free 1
     have m2:=((uh H).h7 _ rfl).2.cell (i:=2) (v:= .slice none 0 0) rfl
     have n2:=((uh H).h7 _ rfl).2.free 2
     have m3:=((uh H).h7 _ rfl).2.cell (i:=3) (v:= .slice none 0 0) rfl
     have n3:=((uh H).h7 _ rfl).2.free 3
     have m4:=((uh H).h7 _ rfl).2.cell (i:=4) (v:= .slice none 0 0) rfl
     have n4:=((uh H).h7 _ rfl).2.free 4
     have m5:=((uh H).h7 _ rfl).2.cell (i:=5) (v:= .int .i64 0) rfl
     have n5:=((uh H).h7 _ rfl).2.free 5
     go_wp2_with fail
     all_goals
      go_meet
      exact QC (uh H)
   ·go_simp
    replace H:=Z9 ((uh H).make (by omega))
    refine hK.out _ _ ((uh H).kb.cell (i:=0) rfl) (fun hHeld=> ?_)
    clear hK K
    generalize X1.alloc (.cells (madeCells #[.int .i64 0] rs.length) 2)=X2 at *
    generalize X1.heap.size=g5 at *
    (try simp only [Act.put,sA,sZ,sS])
    refine wpAnyH_ready (rs:=[1]) (by kernel_rfl) (by simp) ?_
    refine AllReadyH.cons rfl (fun K hK=> ?_) (AllReadyH.nil)
    ·go_simp
     refine ((uh H).copy (by omega) (uh HP)).mono ?_
     rintro e9 X3 ⟨ua,uc,qs,rfl,H⟩
     refine hK.out _ _ ((uh H).kb.cell (i:=0) rfl) (fun hHeld=> ?_)
     clear hK K
     (try simp only [Act.put,sA,sZ,sS])
     (refine tq 6 ?_;(try simp only [Act.put,sA,sZ,sS]))
     refine wpAnyH_done (by kernel_rfl) ?_ _
     refine ZH rfl rfl ?_
     go_simp
     have m0:=((uh H).h7 _ rfl).2.cell (i:=0) (v:= .slice none 0 0) rfl
     have n0:=((uh H).h7 _ rfl).2.free 0
     have m1:=((uh H).h7 _ rfl).2.cell (i:=1) (v:= .slice none 0 0) rfl
     have n1:=((uh H).h7 _ rfl).2.free 1
     have m2:=((uh H).h7 _ rfl).2.cell (i:=2) (v:= .slice none 0 0) rfl
     have n2:=((uh H).h7 _ rfl).2.free 2
     have m3:=((uh H).h7 _ rfl).2.cell (i:=3) (v:= .slice none 0 0) rfl
     have n3:=((uh H).h7 _ rfl).2.free 3
     have m4:=((uh H).h7 _ rfl).2.cell (i:=4) (v:= .slice none 0 0) rfl
     have n4:=((uh H).h7 _ rfl).2.free 4
     have m5:=((uh H).h7 _ rfl).2.cell (i:=5) (v:= .int .i64 0) rfl
     have n5:=((uh H).h7 _ rfl).2.free 5
     go_wp2_with fail
     all_goals
      go_meet
      exact QC (uh H)
 case rest=>
  obtain ⟨R,hv,pv,qs,rfl,hcut⟩:=hcut
  obtain ⟨w2,rfl⟩:∃ x,x=wc:=⟨wc,rfl⟩
  obtain ⟨ua,uc,rfl⟩:=hcut.hshape
  obtain ⟨pa,pc,rfl⟩:=hcut.pshape
  have HC:=Z9 hcut
  clear hcut c0 kb kr BB Hv
  have Hv:=Z9 ((uh Hv0).below (uh HC).bel)
  have c0:=(uh HC).kb.cell (i:=0) (v:= .slice a rs.length cap) rfl
  go_wp2_with fail
  refine ck (UT (uh Hv) (Ud (uh Hok))) fun w3 hb=> ?_
  replace HC:=Z9 ((uh HC).below hb)
  clear hb c0
  obtain ⟨n,hn⟩:∃ n:Nat,Z1 rs=(n:Int):=⟨(Z1 rs).toNat,by have:=(uh Hb12).1;omega⟩
  have hn8:n<=8:=by have:=(uh Hb12).2;omega
  have HnM:Hid (U0 rs=⟨rs,[],[],List.replicate n (true,-1,0),List.replicate rs.length 0,0⟩):=Z9 (by unfold U0;rw [hn];rfl)
  rw [hn]
  clear hn
  go_wp2_with fail
  go_loopw [5] (fun i wr=> ∃ (k:Nat) (u:Value),k<=n/\i= .int .i64 ((n:Int)-(k:Int))/\Blk wr R 32 #[.slice ua rs.length uc,.slice none 0 0,.slice none 0 0,u,.slice pa rs.length pc,.int .i64 0]/\DesksAt (w.heap.size+2) wr u (List.replicate k (true,-1,0))/\NewOff w.heap.size rs wr R (.slice ua rs.length uc) (.slice pa rs.length pc) u qs/\Blk wr (w.heap.size+1) 32 E6/\Below w.heap.size w wr) (fun i _=>(intOf i).toNat)
  case atStart=>exact ⟨0,.slice none 0 0,Nat.zero_le _,by simp,(uh HC).km,DN _ _,(uh HC).off,(uh HC).kr,(uh HC).bel⟩
  case round=>
   obtain ⟨k,u,hk,rfl,km,hd,hoff,hkr,hbb⟩:=hrel
   obtain ⟨da,dc,rfl⟩:=RecAt.shape hd
   rw [List.length_replicate] at km hd hoff
   have KM:=Z9 km
   have HD:=Z9 hd
   have HF:=Z9 hoff
   have kr:=Z9 hkr
   have BB:=Z9 hbb
   clear km hd hoff hkr hbb HC
   have m3:=(uh KM).cell (i:=3) (v:= .slice da k dc) rfl
   have n3:=(uh KM).free 3
   have hRlt:=(uh KM).lt
   have hRo:=(uh HF).rlo
   by_cases hlt:k<n
   ·have hsx:=(uh BB).size
    have hkn:((k:Int)<(n:Int)):=by omega
    have hpos:(0:Int)<(n:Int)-(k:Int):=by omega
    have hbase:w.heap.size+2<=wr.heap.size:=by omega
    obtain ⟨u9,w9,hrun9,hown9,hg9,hat9⟩:=WT tyD (w:=wr.alloc (.cells #[.bool true,.int .i64 (-1),.int .i64 0] 53)) (t:=29) (ty:=29) (base:=w.heap.size+2) Tryz.underlying29 (RecAt.later (uh HD) ((ba _ _))) (V6 (w:=wr) (g:=wr.heap.size) (c:=1) ((true,-1,0):Yq) rfl (Nat.le_refl _) (by omega)) (by simp;omega) (by simp;omega)
    obtain ⟨da9,dc9,rfl⟩:=RecAt.shape hown9
    have hlen9:(List.replicate k ((true,-1,0):Yq)++[(true,-1,0)]).length=k+1:=by simp
    rw [hlen9] at hrun9 hown9 hat9
    have hrep:List.replicate k ((true,-1,0):Yq)++[(true,-1,0)]=List.replicate (k+1) (true,-1,0):=by rw [List.replicate_succ']
    rw [hrep] at hown9
    have HR9:=Z9 hrun9
    have HO9:=Z9 hown9
    have hRd:(Value.slice da k dc).ownBlock ≠ some R:=(uh HF).rd
    have hgo:∀ i,(Value.slice da k dc).ownBlock=some i->w.heap.size+2<=i:=fun i e=>(RecAt.lt (uh HD) e).1
    have hb9:Below (w.heap.size+2) wr w9:=((Below.refl _ _).alloc hbase _).trans ((Below.refl _ _).grown hg9 (by simp;omega) hgo)
    have KM9:=(((uh KM).alloc (.cells #[.bool true,.int .i64 (-1),.int .i64 0] 53)).same (hg9.block R (by simp;omega) (fun e=>hRd e.symm)))
    have t3:=KM9.cell (i:=3) (v:= .slice da k dc) rfl
    have s3:=KM9.free 3
    have HF9:=Z9 ((uh HF).grow hg9 hat9)
    have HKM9:=Z9 (KM9.set 3 (.slice da9 (k+1) dc9))
    have Hb9:=Z9 hb9
    clear hrun9 hown9 hg9 hat9 KM9 hrep hlen9 hgo
    go_wp2_with (at_builtin;refine RJ rfl (.tmp 24) (.tmp 26) 29 rfl rfl rfl (uh HR9) ?_)
    go_wp2_with fail
    go_roundw
    case rel=>
     refine ⟨k+1,.slice da9 (k+1) dc9,by omega,by go_num,uh HKM9,?_,(uh HF9).set_R _ _,?_,?_⟩
     ·exact RecAt.same (uh HO9) fun i hi=>heap_setCell_other _ _ _ _ (fun e=>by have:=(uh HF9).rd;rw [hi] at this;exact this (by rw [e]))
     ·exact ((uh kr).below (uh Hb9) (by omega)).other (by show w.heap.size+1 ≠ R;omega) _
     ·exact ((uh BB).trans ((uh Hb9).mono (by omega))).setCell (by show _<=R;omega) _
    case measure=>exact ms
   ·obtain rfl:k=n:=by omega
    have hpos:¬ ((0:Int)<(k:Int)-(k:Int)):=by omega
    have m0:=(uh KM).cell (i:=0) (v:= .slice ua rs.length uc) rfl
    have m1:=(uh KM).cell (i:=1) (v:= .slice none 0 0) rfl
    have m2:=(uh KM).cell (i:=2) (v:= .slice none 0 0) rfl
    have m4:=(uh KM).cell (i:=4) (v:= .slice pa rs.length pc) rfl
    have m5:=(uh KM).cell (i:=5) (v:= .int .i64 0) rfl
    obtain ⟨o0,o1,o2,o3,o4,o5⟩:=(uh kr).c6
    obtain ⟨f0,f1,f2,f3,f4,f5⟩:=(uh kr).f6
    go_wp2_with fail
    refine bodyPost_ret (v:= .tuple #[.agg #[.slice ua rs.length uc,.slice none 0 0,.slice none 0 0,.slice da k dc,.slice pa rs.length pc,.int .i64 0],.bool true]) (by simp [results,Tryz.results136,go_sem, *]) rfl ⟨?_,?_⟩
    ·rw [uh HnM]
     refine ⟨_,_,_,_,_,qs,rfl,?_⟩
     iterate 6 (refine FullSmy.set_off ?_ (fun i e=>by have:=((uh HF).full (uh HD)).own e;omega) _ _)
     exact ((uh HF).full (uh HD)).mono (by omega)
    ·iterate 6 (refine Below.setCell ?_ (by show _<=w.heap.size+1;omega) _)
     exact uh BB
end Go.Proofs.YtffcgajndmhpkaaGreatDoor
namespace Go.Proofs.YtffcgajndmhpkaaGreatDoor
open Go.ChangeShapes Go.WideShapes Go.ChangeAt Go.RowKit Go.Sort
set_option linter.unusedVariables false
theorem MC {α:Type} [Inhabited α] {n j:Nat} (x:α) (h:j<n):Z8 (List.replicate n x) j=x:=by
 unfold Z8
 simp [List.getD,h]
theorem EX {rs:List Z2} (h:Zh rs=true):((U0 rs).desks.length:Int)=Z1 rs:=by
 have:=Qk h
 show (((List.replicate (Z1 rs).toNat ((true,-1,0):Yq)).length:Nat):Int)=_
 rw [List.length_replicate]
 omega
theorem J1 {rs:List Z2} (gs:List ZF) (h:Zh rs=true) (hg:Zw gs=true):ZP { U0 rs with guilds:=gs }=true:=by
 have hb:=Qk h
 have hd:=EX h
 obtain ⟨r1,r2,r3,r4⟩:=Zy h
 have hdk:∀ j,j<(U0 rs).desks.length->Z8 (U0 rs).desks j=(true,-1,0):=fun j hj=>MC _ (by
  have:(U0 rs).desks.length=(Z1 rs).toNat:=by show (List.replicate _ _).length=_;rw [List.length_replicate]
  omega)
 have hlo:Loose { U0 rs with guilds:=gs }:=by
  refine ⟨?_,?_,?_,fun i hi=>absurd hi (Nat.not_lt_zero _),fun i hi=>absurd hi (Nat.not_lt_zero _),0,?_,?_⟩
  ·unfold Y2
   simp only [Bool.and_eq_true,decide_eq_true_eq]
   exact ⟨h,hg,Nat.zero_le _,hd,by show (List.replicate _ _).length=_;rw [List.length_replicate];rfl,rfl⟩
  ·intro j hj
   show Ws (Z8 (U0 rs).desks j)=true
   rw [hdk j hj]
   rfl
  ·intro j hj
   have hj':j<rs.length:=by
    have:(List.replicate rs.length (0:Int)).length=rs.length:=List.length_replicate ..
    have hj2:j<(List.replicate rs.length (0:Int)).length:=hj
    omega
   show inB (Z8 (List.replicate rs.length (0:Int)) j) 0 (((Z0 rs j).2.length:Int)-1)=true
   rw [MC _ hj']
   have hmem:Z0 rs j ∈ rs:=by unfold Z0;simp [List.getD,hj']
   have hrb:=List.all_eq_true.1 r3 _ hmem
   unfold Zt at hrb
   simp only [Bool.and_eq_true] at hrb
   have:=ZU hrb.2.1
   exact Zv (by omega) (by omega)
  ·show 0<(U0 rs).desks.length
   omega
  ·show (Z8 (U0 rs).desks 0).1=true
   rw [hdk 0 (by omega)]
 unfold ZP
 rw [hlo.mk',Bool.true_and]
 refine List.all_eq_true.2 fun b hb2=> ?_
 have hb3:b<(U0 rs).desks.length:=List.mem_range.1 hb2
 unfold YC
 show (match Yc [] (b:Int) 0 with | none=>false | some (wk,wt)=>(Z8 (U0 rs).desks b).2.1 ==wk && !(wt && decide (wk<0)))=true
 rw [hdk b hb3]
 rfl
open Draw (St Off Row Cur)
set_option linter.unusedSimpArgs false
set_option maxRecDepth 100000
theorem FullSmy.newG {n₀ bc B:Nat} {w w':World} {v0 v1 v2 v3 v4 g:Value} {m:Z4} {qs:List (Z2 × Value)} {gs:List ZF} (h:FullSmy n₀ w v0 v1 v2 v3 v4 m qs) (ho:Off bc w w') (hb:bc<n₀) (hg:GuildsAt B w' g gs) (hB:w.heap.size<=B) (hn:n₀<=B):FullSmy n₀ w' v0 g v2 v3 v4 { m with guilds:=gs } qs:=by
 have h':=h.away ho hb
 have hgb:∀ b,g.ownBlock=some b->w.heap.size<=b:=fun b e=>Nat.le_trans hB (RecAt.lt hg e).1
 have hol:∀ b,WW v0 v1 v2 v3 v4 qs b->b<w.heap.size:=fun b e=>(h.own e).2
 refine ⟨h'.hall,h'.rooms,RecAt.mono hg hn,h'.smiths,h'.desks,h'.paces,⟨fun b e e'=> ?_,fun q hq b e e'=> ?_⟩,h'.h2,h'.h3,h'.h4,fun b e e'=> ?_,fun b e e'=> ?_,fun b e e'=> ?_,h'.a23,h'.a24,h'.a34⟩
 ·have:=hgb b e;have:=hol b (.inl e');omega
 ·have:=hgb b e;have:=hol b (.inr (.inl ⟨q,hq,e'⟩));omega
 ·have:=hgb b e;have:=hol b (.inr (.inr (.inr (.inl e'))));omega
 ·have:=hgb b e;have:=hol b (.inr (.inr (.inr (.inr (.inl e')))));omega
 ·have:=hgb b e;have:=hol b (.inr (.inr (.inr (.inr (.inr e')))));omega
theorem JK (a:Option Addr) (len cap bc:Nat) (w:World) (hs:St a len cap bc w) :
  Calls Tryz.prog 89 #[.pointer (some ⟨bc,0,none⟩)] w fun e w'=> ∃ M u0 u1 u2 u3 u4 rq,e= .returned (.agg #[u0,u1,u2,u3,u4,.int .i64 M.now])/\ZP M=true/\FullSmy (w.heap.size+1) w' u0 u1 u2 u3 u4 M rq/\St a len cap bc w'/\Off bc w w':=by
 have Hs:=Z9 hs
 have hbc:=Xc hs
 clear hs
 go_enter Tryz.func89,Tryz.ntmps89
 go_wp2_with fail
 have kr:Hid (Blk (w.alloc (.cells E6 32)) w.heap.size 32 E6):=Z9 (Blk.new _ _ _)
 have HO:Hid (Off bc w (w.alloc (.cells E6 32))):=Z9 ((Off.refl _ _).alloc _)
 replace Hs:Hid (St a len cap bc (w.alloc (.cells E6 32))):=Z9 ((uh Hs).alloc _)
 have hzW:w.heap.size+1<=(w.alloc (.cells E6 32)).heap.size:=by simp
 generalize w.alloc (.cells E6 32)=W at *
 refine (GY a len cap bc _ (uh Hs)).mono ?_
 rintro e w1 ⟨v,qs,rfl,hh,hown,s9,p9⟩
 have HI:=Z9 hown.rooms
 have Hh:=Z9 hh
 replace kr:=Z9 ((uh kr).away p9 (by omega))
 replace HO:=Z9 ((uh HO).trans p9)
 replace Hs:=Z9 s9
 have hz1:w.heap.size+1<=w1.heap.size:=Nat.le_trans hzW p9.size
 obtain ⟨ha,hc,rfl⟩:=hown.shape
 clear hh hown s9 p9 hzW
 obtain ⟨rs,hrs⟩:∃ q,qs.map (·.1)=q:=⟨_,rfl⟩
 have hrl:qs.length=rs.length:=by rw [<-hrs];simp
 rw [hrs] at HI Hh
 rw [hrl] at HI ⊢
 clear hrs hrl
 go_wp2_with fail
 refine (RA (uh HI)).mono ?_
 rw [show EW rs=U0 rs by unfold EW;rw [uh Hh];rfl]
 rintro e w2 ⟨⟨z0,z1,z2,z3,z4,zq,rfl,ho⟩,hb⟩
 have k6:=ho.smy
 obtain ⟨d0,r0,d1,r1,d2,r2,d3,r3,d4,r4,rfl,rfl,rfl,rfl,rfl,_,_,_,_,_,_,_,_,_,_⟩:=k6.five
 have HN:=Z9 (ho.mono hz1)
 have LN:Hid (∀ k,WW (.slice d0 (U0 rs).rooms.length r0) (.slice d1 (U0 rs).guilds.length r1) (.slice d2 (U0 rs).smiths.length r2) (.slice d3 (U0 rs).desks.length r3) (.slice d4 (U0 rs).paces.length r4) zq k->k<w2.heap.size):=Z9 (fun k e=>(ho.own e).2)
 have Hr:=Z9 (fun gs hg=>J1 (rs:=rs) gs (uh Hh) hg)
 replace kr:=bl kr hb
 replace HO:=Z9 ((uh HO).trans (Sl hb))
 replace Hs:=Z9 (Yd (uh Hs) (hb.mono (Xc (uh Hs))))
 have hz2:w.heap.size+1<=w2.heap.size:=Nat.le_trans hz1 hb.size
 clear ho hb k6 HI Hh
 generalize U0 rs=N at *
 go_upto_region 2 with fail
 obtain ⟨W2,hW2,hb,km⟩:=YO w2 32 (S6 d0 r0 d1 r1 d2 r2 d3 r3 d4 r4 N)
 replace kr:=bl kr hb
 replace HO:=Z9 ((uh HO).trans (Sl hb))
 replace Hs:=Z9 (Yd (uh Hs) (hb.mono (Xc (uh Hs))))
 replace HN:=Z9 ((uh HN).below hb)
 clear hb
 rw [hW2]
 clear hW2
 generalize w2.heap.size=mb at *
 go_wp2_with fail
 refine (LI a len cap bc _ (uh Hs)).mono ?_
 rintro e w3 ⟨gv,gs,rfl,hgs,hG⟩
 have hmw:=(uh km).lt
 have HG:=Z9 ((uh HN).newG hG.off (by omega) hG.row (Nat.le_refl _) (by omega))
 have LG:Hid (∀ k,gv.ownBlock=some k->mb<k):=Z9 (fun k e=>by have:=(RecAt.lt hG.row e).1;omega)
 replace kr:=Z9 ((uh kr).away hG.off (by omega))
 replace km:=Z9 ((uh km).away hG.off (by omega))
 replace HO:=Z9 ((uh HO).trans hG.off)
 replace Hs:=Z9 hG.st
 obtain ⟨ga,gc,rfl⟩:=RecAt.shape hG.row
 have hok:=uh Hr gs hgs
 have Hok:=Z9 hok
 clear hG hgs hmw HN Hr hok
 have x1:=(uh km).cell (i:=1) (v:= .slice d1 N.guilds.length r1) rfl
 have f1:=(uh km).free 1
 go_upto_region 3 with fail
 clear x1 f1
 have hofm:∀ k,WW (.slice d0 N.rooms.length r0) (.slice ga gs.length gc) (.slice d2 N.smiths.length r2) (.slice d3 N.desks.length r3) (.slice d4 N.paces.length r4) zq k->k ≠ mb:=fun k e=>by
  rcases e with e | e | e | e | e | e
  ·have:=uh LN k (.inl e);omega
  ·have:=uh LN k (.inr (.inl e));omega
  ·have:=uh LG k e;omega
  ·have:=uh LN k (.inr (.inr (.inr (.inl e))));omega
  ·have:=uh LN k (.inr (.inr (.inr (.inr (.inl e)))));omega
  ·have:=uh LN k (.inr (.inr (.inr (.inr (.inr e)))));omega
 replace HG:Hid (FullSmy (w.heap.size+1) (w3.setCell ⟨mb,1,none⟩ (.slice ga gs.length gc)) (.slice d0 N.rooms.length r0) (.slice ga gs.length gc) (.slice d2 N.smiths.length r2) (.slice d3 N.desks.length r3) (.slice d4 N.paces.length r4) { N with guilds:=gs } zq):=Z9 ((uh HG).set_off hofm _ _)
 replace km:Hid (Blk (w3.setCell ⟨mb,1,none⟩ (.slice ga gs.length gc)) mb 32 #[.slice d0 N.rooms.length r0,.slice ga gs.length gc,.slice d2 N.smiths.length r2,.slice d3 N.desks.length r3,.slice d4 N.paces.length r4,.int .i64 N.now]):=Z9 ((uh km).set 1 _)
 replace kr:Hid (Blk (w3.setCell ⟨mb,1,none⟩ (.slice ga gs.length gc)) w.heap.size 32 E6):=Z9 ((uh kr).other (a:=⟨mb,1,none⟩) (by show w.heap.size ≠ mb;omega) _)
 replace HO:Hid (Off bc w (w3.setCell ⟨mb,1,none⟩ (.slice ga gs.length gc))):=Z9 (Off.newer (uh HO) (by omega) _ _)
 replace Hs:Hid (St a len cap bc (w3.setCell ⟨mb,1,none⟩ (.slice ga gs.length gc))):=Z9 (St.newer (uh Hs) (by omega) _ _)
 clear LN LG hofm
 generalize w3.setCell ⟨mb,1,none⟩ (.slice ga gs.length gc)=W3 at *
 obtain ⟨x0,x1,x2,x3,x4,x5⟩:=(uh km).c6
 have hz3:w.heap.size+1<=W3.heap.size:=by have:=(uh kr).lt;omega
 go_wp2_with fail
 clear x0 x1 x2 x3 x4 x5
 refine (Eu a len cap bc (m:={ N with guilds:=gs }) (uh Hs) (uh HG) (by omega) hz3 (uh Hok) 40 (by omega) (by omega)).mono ?_
 rintro e w4 ⟨M,u0,u1,u2,u3,u4,rq,rfl,ok4,hf4,s9,p9⟩
 have k6:=hf4.smy
 obtain ⟨b0,q0,b1,q1,b2,q2,b3,q3,b4,q4,rfl,rfl,rfl,rfl,rfl,_,_,_,_,_,_,_,_,_,_⟩:=k6.five
 have HF:=Z9 hf4
 have Hok4:=Z9 ok4
 replace kr:=Z9 ((uh kr).away p9 (by omega))
 replace HO:=Z9 ((uh HO).trans p9)
 replace Hs:=Z9 s9
 clear hf4 ok4 s9 p9 k6 HG km Hok
 obtain ⟨o0,o1,o2,o3,o4,o5⟩:=(uh kr).c6
 obtain ⟨f0,f1,f2,f3,f4,f5⟩:=(uh kr).f6
 go_wp2_with fail
 refine bodyPost_ret (v:= .agg (S6 b0 q0 b1 q1 b2 q2 b3 q3 b4 q4 M)) (by simp [results,Tryz.results89,go_sem, *]) rfl ⟨M,_,_,_,_,_,rq,rfl,uh Hok4,?_,?_,?_⟩
 ·iterate 6 (refine FullSmy.set_off ?_ (fun k e=>by have:=((uh HF).own e).1;omega) _ _)
  exact uh HF
 ·iterate 6 (refine St.newer ?_ (by omega) _ _)
  exact uh Hs
 ·iterate 6 (refine Off.newer ?_ (by omega) _ _)
  exact uh HO
end Go.Proofs.YtffcgajndmhpkaaGreatDoor
