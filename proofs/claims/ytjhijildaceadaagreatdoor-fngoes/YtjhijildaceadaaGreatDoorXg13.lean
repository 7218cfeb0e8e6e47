/- Part 13 of what the proof rests on. No condition but those that a theorem names. -/
import Derived.Test.YtjhijildaceadaaGreatDoorXg12
import Derived.RangeFuncNested
import Derived.RangeFuncBound
import Derived.RangeFuncCalls
import Derived.RangeFuncLeaves
import Derived.RangeFuncBox
import Derived.Shelf.Abstract
import Derived.OwnWalkIn
import Derived.TacticsInMore
import Derived.LoopNIn
import Derived.LoopIn
import Derived.ChangeKeysEq
set_option maxHeartbeats 8000000
set_option maxRecDepth 100000
namespace Go.Proofs.YtjhijildaceadaaGreatDoor
open Go.ChangeShapes Go.WideShapes Go.ChangeAt Go.RowKit Go.Shelf
set_option linter.unusedVariables false
attribute [local go_sem] Oper.semAt_some
def KeepsBox (Bn:Nat) (t:TypeId) (W W':World):Prop:= ∀ v,Boxed W Bn t v->Boxed W' Bn t v
theorem KeepsBox.trans {Bn:Nat} {t:TypeId} {A B C:World} (h:KeepsBox Bn t A B) (k:KeepsBox Bn t B C):KeepsBox Bn t A C:=fun v hv=>k v (h v hv)
theorem KeepsBox.putObj {Bn:Nat} {t:TypeId} {n:Nat} (h:Bn<n) (W:World) (l:Nat) (o o':Obj) (hl:n<=l) (_:W.heap[l]?=some o) (_:o.isCells=false) (_:o.isWalk=false):KeepsBox Bn t W (W.putObj l o'):=
 fun v hv=>hv.kept (grownBy_putObj' W l o') (fun e=>by cases e;omega)
theorem KU (n:Nat) (hn:1<=n) (l Bn:Nat) (s:Int) (J Jx:List Int->World->Prop)
  (hY:∀ pre x W,J pre W->pre.length<8->YieldAt Fence.wide (n-1) Tryz.prog l #[.int .i64 x] W fun e W'=>
   (e= .returned (.bool true)/\J (pre++[x]) W'/\KeepsBox Bn 2 W W')\/(e= .returned (.bool false)/\Jx (pre++[x]) W'))
  (W:World) (hBn:Boxed W Bn 2 (.int .i64 s)) (h0:J [] W) :
  CallsIn Fence.wide n Tryz.prog 323 #[.func (.yield l) #[] #[],.pointer (some ⟨Bn,0,none⟩)] W fun e W'=>(∃ v,e= .returned v)/\
   ((∃ ys,ys=KV s/\J ys W')\/(∃ pre,pre <+: KV s/\Jx pre W')):=by
 refine callsIn_of_wp Tryz.func323 rfl trivial ?_ rfl
 simp only [Tryz.ntmps323,List.size_toArray,List.length_cons,List.length_nil,Nat.reduceAdd,Nat.reduceSub,Array.replicate_succ,Array.replicate_zero,List.push_toArray,List.append_toArray,List.nil_append,List.cons_append]
 gi_wp2
 gi_loopw [4] (fun i wr=> ∃ k:Nat,k<=8/\i= .int .i64 k/\Boxed wr Bn 2 (.int .i64 s)/\J (UT s k) wr)
  (fun i wr=>8-(intOf i).toNat)
 case atStart=>exact ⟨0,by omega,rfl,hBn,h0⟩
 case round=>
  obtain ⟨k,hk,rfl,hbx,hJ⟩:=hrel
  have hul:=LQ s k
  have hc:=hbx.cell
  have Hb:=Z9 hbx
  clear hbx
  by_cases hlt:(k:Int)<8
  ·cases hm:Sv s k
   ·gi_wp2_with (refine ⟨trivial,?_⟩;gi_at_call 147;refine (callsIn_wide.2 (U0 _ _ _)).mono ?_;rintro e w' ⟨rfl,rfl⟩)
    refine ⟨fun _ h=>(by cases h),?_⟩
    gi_wp2
    go_roundw
    case rel=>exact ⟨k+1,by omega,by go_num,uh Hb,by rw [Tc hm];exact hJ⟩
    case measure=>simp [intOf];omega
   ·obtain ⟨fn,tmps,assign,body,hy,hR⟩:=hY (UT s k) k wr hJ (by omega)
    gi_wp2_with (refine ⟨trivial,?_⟩;gi_at_call 147;refine (callsIn_wide.2 (U0 _ _ _)).mono ?_;rintro e w' ⟨rfl,rfl⟩)
    refine hR.mono ?_
    rintro e W3 (⟨rfl,hJ3,hk3⟩ | ⟨rfl,hJx3⟩)
    ·gi_wp2
     go_roundw
     case rel=>exact ⟨k+1,by omega,by go_num,hk3 _ (uh Hb),by rw [Sh hm];exact hJ3⟩
     case measure=>simp [intOf];omega
    ·gi_wp2
     refine bodyPost_ret (results_none rfl _ _ _) rfl ?_
     exact ⟨⟨_,rfl⟩,.inr ⟨UT s k++[(k:Int)],by rw [<-Sh hm];exact Fo s (k+1) (by omega),hJx3⟩⟩
  ·obtain rfl:k=8:=by omega
   gi_wp2
   go_end0
   exact ⟨⟨_,rfl⟩,.inl hJ⟩
theorem MG (n:Nat) (s:Int) (w:World) :
  CallsIn Fence.wide n Tryz.prog 274 #[.int .i64 s] w fun e w'=>e= .returned (.func (.func 323) #[] #[.pointer (some ⟨w.heap.size,0,none⟩)])/\w'=w.alloc (.cells #[.int .i64 s] 2):=by
 refine callsIn_of_wp Tryz.func274 rfl trivial ?_ rfl
 simp only [Tryz.ntmps274,List.size_toArray,List.length_cons,List.length_nil,Nat.reduceAdd,Nat.reduceSub,Array.replicate_succ,Array.replicate_zero,List.push_toArray,List.append_toArray,List.nil_append,List.cons_append]
 gi_wp2
 go_ret
 exact ⟨rfl,rfl⟩
theorem NX (n:Nat) (hn:1<=n) (Bn:Nat) (s:Int) (w:World) (hBn:Boxed w Bn 2 (.int .i64 s)) :
  SeqStopsK Fence.wide n Tryz.prog 323 #[.pointer (some ⟨Bn,0,none⟩)] (fun x:Int=>#[Value.int .i64 x]) (KeepsBox Bn 2) (fun ys=>ys=KV s) (fun pre=>pre <+: KV s) 8 w:=fun l J Jx W hW _ _ hY h0=>
 KU n hn l Bn s J Jx hY W ((hW.block Bn hBn.lt).trans hBn) h0
theorem OO (n:Nat) (hn:3<=n) (s:Int) (w:World) :
  CallsIn Fence.wide n Tryz.prog 213 #[.int .i64 s] w fun e w'=>e= .returned (.int .i64 (WE s))/\Below w.heap.size w w':=by
 have h1:1<=n:=by omega
 refine callsIn_of_wp_marks Tryz.func213 rfl trivial ?_ rfl
 simp only [Tryz.ntmps213,List.size_toArray,List.length_cons,List.length_nil,Nat.reduceAdd,Nat.reduceSub,Array.replicate_succ,Array.replicate_zero,List.push_toArray,List.append_toArray,List.nil_append,List.cons_append]
 gi_wp2_with (refine ⟨trivial,?_⟩;gi_at_call 274;refine (MG (n-1) _ _).mono ?_;rintro e w' ⟨rfl,rfl⟩)
 have bR:=Boxed.new w 2 (.int .i64 0)
 have bN:=Boxed.new (w.alloc (.cells #[.int .i64 0] 2)) 2 (.int .i64 s)
 simp only [World.size_alloc] at bN
 have hB0:Below w.heap.size w ((w.alloc (.cells #[.int .i64 0] 2)).alloc (.cells #[.int .i64 s] 2)):=((Below.refl _ w).alloc (Nat.le_refl _) _).alloc (by simp) _
 refine wpIn_rangeFunc_ownG rfl h1 (gf:=323) (lb:=#[.pointer (some ⟨w.heap.size+1,0,none⟩)]) rfl trivial (enters_of Tryz.func323 (by kernel_rfl) rfl)
  (NX (n-1) (by omega) (w.heap.size+1) s _ bN) (fun h k=>h.trans k) (KeepsBox.putObj (by simp)) (Below.refl _ _) (fun _=>rfl)
  (fun pre W=>(pre=[]/\Boxed W w.heap.size 2 (.int .i64 0))/\Below w.heap.size w W)
  (fun c pre W=>(c= .ret/\ ∃ x,pre=[x]/\Boxed W w.heap.size 2 (.int .i64 x))/\Below w.heap.size w W)
  (OwnFrom.and (Own.from (fun s A B row hs hg hr=>⟨hs.1,hs.2.kept hg (fun e=>by obtain ⟨o,ho,hc⟩:=hr _ e.symm;rw [show A.heap[w.heap.size]?=_ from hs.2] at ho;cases ho;cases hc)⟩) _) (ownFrom_below (Nat.le_refl _) (by simp;omega)))
  (fun c=>OwnFrom.and (Own.from (fun s A B row hs hg hr=>by obtain ⟨e1,x,e2,hb⟩:=hs;exact ⟨e1,x,e2,hb.kept hg (fun e=>by obtain ⟨o,ho,hc⟩:=hr _ e.symm;rw [show A.heap[w.heap.size]?=_ from hb] at ho;cases ho;cases hc)⟩) _) (ownFrom_below (Nat.le_refl _) (by simp;omega)))
  ⟨⟨rfl,bR.alloc _⟩,hB0⟩
  (fun x=>{ tmps:=#[.int .i64 s,undef,.pointer (some ⟨w.heap.size,0,none⟩),.int .i64 x,.int .i64 s,.func (.func 323) #[] #[.pointer (some ⟨w.heap.size+1,0,none⟩)],.int .i64 x,undef],defers:=[] }) ?assign ?body ?done ?stop
 case assign=>
  intro l x W K hK
  gi_wp2
  exact hK
 case body=>
  rintro l pre x W ⟨⟨rfl,hb⟩,hB⟩ _
  have hc:=hb.cell
  have hf:=hb.frozen
  gi_wp2
  exact ⟨(KeepsOthers.setCell _ _ _).from _,⟨rfl,x,rfl,hb.set _⟩,hB.setCell (p:=⟨w.heap.size,0,none⟩) (Nat.le_refl _) _⟩
 case done=>
  rintro D ys W hD hys ⟨⟨hp,hb⟩,hB⟩ hK
  have hc:=hb.cell
  have hf:=hb.frozen
  gi_wp2
  have hK':=(KeepsOthers.setCell W ⟨w.heap.size,0,none⟩ (.int .i64 (-1))).same D _ hK rfl
  refine ⟨by simp,.inl ⟨_,_,rfl,run_takeDeferred hK',?_⟩⟩
  have hc5:=cell_kept (hb.set (.int .i64 (-1))).cell (grownBy_putObj' _ D (.deferred none)) (fun r e=>by cases e;exact ⟨_,hK',rfl⟩)
  have hm:KV s=[]:=hys.symm.trans hp
  refine ⟨.int .i64 (-1),?_,Zy (by unfold WE;rw [hm];rfl),(hB.setCell (p:=⟨w.heap.size,0,none⟩) (Nat.le_refl _) _).trans (belowK_b (w:=w) (Nat.le_refl _) _ D _ _ (by simp at hD;omega) hK' rfl rfl)⟩
  simp [results,Tryz.f213,go_sem,hc5]
 case stop=>
  rintro D c pre W hD hpre ⟨⟨rfl,x,rfl,hb⟩,hB⟩ hK
  gi_wp2
  refine ⟨by simp,.inl ⟨_,_,rfl,run_takeDeferred hK,?_⟩⟩
  have hc5:=cell_kept hb.cell (grownBy_putObj' _ D (.deferred none)) (fun r e=>by cases e;exact ⟨_,hK,rfl⟩)
  have hx:WE s=x:=by obtain ⟨r,hr⟩:=hpre;unfold WE;rw [<-hr];rfl
  refine ⟨.int .i64 x,?_,Zy hx.symm,hB.trans (belowK_b (w:=w) (Nat.le_refl _) W D _ _ (by simp at hD;omega) hK rfl rfl)⟩
  simp [results,Tryz.f213,go_sem,hc5]
theorem P4 (s:Int) (w:World):Calls Tryz.prog 213 #[.int .i64 s] w fun e w'=>e= .returned (.int .i64 (WE s))/\Below w.heap.size w w':=
 callsIn_wide.1 (OO 3 (Nat.le_refl _) s w)
end Go.Proofs.YtjhijildaceadaaGreatDoor
namespace Go.Proofs.YtjhijildaceadaaGreatDoor
open Go.ChangeShapes Go.WideShapes Go.ChangeAt Go.RowKit Go.Sort
set_option linter.unusedVariables false
theorem FE:∀ k:Fin 256,(WE (k.val:Int) != -1)=inB (k.val:Int) 1 255:=by decide +kernel
theorem FF (s:Int):(WE s != -1)=inB s 1 255:=by
 cases h:inB s 0 255
 ·have hf:WE s= -1:=by unfold WE KV;rw [NL h];rfl
  have h2:s<0\/255<s:=by
   rcases Int.lt_or_le s 0 with h1 | h1
   ·exact .inl h1
   ·rcases Int.lt_or_le 255 s with h2 | h2
    ·exact .inr h2
    ·rw [Zm h1 h2] at h;cases h
  rw [hf,U8 (by omega)];rfl
 ·obtain ⟨h0,h1⟩:=ZR h
  obtain ⟨n,rfl⟩:=Int.eq_ofNat_of_zero_le h0
  exact FE ⟨n,by omega⟩
theorem NR {s f:Int} (h:WE s=f) (w:World):Calls Tryz.prog 213 #[.int .i64 s] w fun e w'=>e= .returned (.int .i64 f)/\Below w.heap.size w w':=by
 have:=P4 s w;rw [h] at this;exact this
theorem FQ (s:Int) (w:World):Calls Tryz.prog 145 #[.int .i64 s] w fun e w'=>e= .returned (.bool (inB s 1 255))/\Below w.heap.size w w':=by
 have hf:=FF s
 obtain ⟨f,hv⟩:∃ f,WE s=f:=⟨_,rfl⟩
 have Hv:=Z9 hv
 rw [hv] at hf
 have Hf:=Z9 hf
 clear hf hv
 go_enter Tryz.func145,Tryz.ntmps145
 go_wp2_with fail
 refine (NR (uh Hv) _).mono ?_
 rintro e w1 ⟨rfl,hb⟩
 go_wp2_with fail
 go_ret
 exact ⟨Z5 (uh Hf),hb⟩
theorem KD (c r:Int) (w:World):Calls Tryz.prog 341 #[.int .i64 c,.int .i64 r] w fun e w'=>e= .returned (.bool (inB c 0 (Zx r-1)))/\w'=w:=by
 obtain ⟨x,hv⟩:∃ x,Zx r=x:=⟨_,rfl⟩
 have Hv:=Z9 hv
 rw [hv]
 clear hv
 by_cases h0:0<=c
 ·by_cases h1:c<x
  ·rw [Zm (x:=c) (lo:=0) (hi:=x-1) h0 (by omega)]
   go_enter Tryz.func341,Tryz.ntmps341
   go_wp2_with (go_at_call 210;refine (Tq (uh Hv) _).mono ?_;rintro e w' ⟨rfl,rfl⟩)
   go_ret
   exact ⟨rfl,rfl⟩
  ·rw [U8 (x:=c) (lo:=0) (hi:=x-1) (by omega)]
   go_enter Tryz.func341,Tryz.ntmps341
   go_wp2_with (go_at_call 210;refine (Tq (uh Hv) _).mono ?_;rintro e w' ⟨rfl,rfl⟩)
   go_ret
   exact ⟨Z5 (b:=false) (by rw [decide_eq_false_iff_not];omega),rfl⟩
 ·rw [U8 (x:=c) (lo:=0) (hi:=x-1) (by omega)]
  go_enter Tryz.func341,Tryz.ntmps341
  go_wp2_with fail
  go_ret
  exact ⟨rfl,rfl⟩
theorem Sa (n:Int) (w:World):Calls Tryz.prog 340 #[.int .i64 n] w fun e w'=>e= .returned (.bool (inB n (-1000000000000) 1000000000000))/\w'=w:=by
 go_enter Tryz.func340,Tryz.ntmps340
 go_wp2_with (go_at_call 234;refine (ZD _ _ _ _).mono ?_;rintro e w' ⟨rfl,rfl⟩)
 go_ret
 exact ⟨rfl,rfl⟩
theorem Nc {c r:Int} {q:Bool} (h:inB c 0 (Zx r-1)=q) (w:World):Calls Tryz.prog 341 #[.int .i64 c,.int .i64 r] w fun e w'=>e= .returned (.bool q)/\w'=w:=by
 have:=KD c r w;rw [h] at this;exact this
theorem El (x:Int):inB x 0 (0-1)=false:=by
 refine U8 ?_
 rcases Int.lt_or_le x 0 with h | h
 ·exact .inl h
 ·exact .inr (by omega)
theorem EI (st be rk my gu lo hi hd ca ut wk:Int):Zj (st,be,rk,my,gu,lo,hi,hd,ca,ut,wk)=(inB st 1 3 && (inB be 0 7 && (inB my 1 255 && (inB gu (-1) 5 && (Yq lo hi && (inB hd (-1000000000000) 1000000000000 && (inB ca 0 (Zx rk-1) && (inB ut 0 1024 && (inB wk 0 100000000000))))))))):=by
 unfold Zj
 simp only
 cases hr:inB rk (-5) 5
 ·rw [WR hr,show inB ca 0 (0-1)=false from El ca]
  simp
 ·simp only [Bool.true_and]
theorem SH (st be rk my gu lo hi hd ca ut wk:Int) (w:World):Calls Tryz.prog 309 #[.agg (I11 st be rk my gu lo hi hd ca ut wk)] w fun e w'=>e= .returned (.bool (Zj (st,be,rk,my,gu,lo,hi,hd,ca,ut,wk)))/\Below w.heap.size w w':=by
 rw [EI]
 obtain ⟨qc,hqc⟩:∃ q,inB ca 0 (Zx rk-1)=q:=⟨_,rfl⟩
 have Hc:=Z9 hqc
 rw [hqc]
 clear hqc
 cases h_st:inB st 1 3
 rotate_left
 cases h_be:inB be 0 7
 rotate_left
 cases h_my:inB my 1 255
 rotate_left
 cases h_gu:inB gu (-1) 5
 rotate_left
 cases h_pr:Yq lo hi
 rotate_left
 cases h_hd:inB hd (-1000000000000) 1000000000000
 rotate_left
 cases qc
 rotate_left
 cases h_ut:inB ut 0 1024
 rotate_left
 cases h_wk:inB wk 0 100000000000
 all_goals
  go_enter Tryz.func309,Tryz.ntmps309
  go_wp2_with (first | (go_at_call 234;refine (ZD _ _ _ _).mono ?_;rintro e w' ⟨rfl,rfl⟩) | (go_at_call 215;refine (V9 _ _).mono ?_;rintro e w' ⟨rfl,rfl⟩) | (go_at_call 150;refine (UY _ _ _).mono ?_;rintro e w' ⟨rfl,rfl⟩) | (go_at_call 340;refine (Sa _ _).mono ?_;rintro e w' ⟨rfl,rfl⟩) | (go_at_call 341;refine (Nc (uh Hc) _).mono ?_;rintro e w' ⟨rfl,rfl⟩) | (go_at_call 342;refine (OU _ _).mono ?_;rintro e w' ⟨rfl,rfl⟩))
  try
   refine (FQ _ _).mono ?_
   rintro e w1 ⟨rfl,hb⟩
   have c2:w1.cell? ⟨w.heap.size,2,none⟩=some (.int .i64 rk):=(hb.cell (p:=⟨w.heap.size,2,none⟩) (by simp)).trans (Zw _ rfl)
   have c4:w1.cell? ⟨w.heap.size,4,none⟩=some (.int .i64 gu):=(hb.cell (p:=⟨w.heap.size,4,none⟩) (by simp)).trans (Zw _ rfl)
   have c5:w1.cell? ⟨w.heap.size,5,none⟩=some (.int .i64 lo):=(hb.cell (p:=⟨w.heap.size,5,none⟩) (by simp)).trans (Zw _ rfl)
   have c6:w1.cell? ⟨w.heap.size,6,none⟩=some (.int .i64 hi):=(hb.cell (p:=⟨w.heap.size,6,none⟩) (by simp)).trans (Zw _ rfl)
   have c7:w1.cell? ⟨w.heap.size,7,none⟩=some (.int .i64 hd):=(hb.cell (p:=⟨w.heap.size,7,none⟩) (by simp)).trans (Zw _ rfl)
   have c8:w1.cell? ⟨w.heap.size,8,none⟩=some (.int .i64 ca):=(hb.cell (p:=⟨w.heap.size,8,none⟩) (by simp)).trans (Zw _ rfl)
   have c9:w1.cell? ⟨w.heap.size,9,none⟩=some (.int .i64 ut):=(hb.cell (p:=⟨w.heap.size,9,none⟩) (by simp)).trans (Zw _ rfl)
   have c10:w1.cell? ⟨w.heap.size,10,none⟩=some (.int .i64 wk):=(hb.cell (p:=⟨w.heap.size,10,none⟩) (by simp)).trans (Zw _ rfl)
   have Hb:=Z9 (((Below.refl w.heap.size w).alloc (Nat.le_refl _) _).trans (hb.mono (by simp)))
   clear hb
   go_wp2_with (first | (go_at_call 234;refine (ZD _ _ _ _).mono ?_;rintro e w' ⟨rfl,rfl⟩) | (go_at_call 215;refine (V9 _ _).mono ?_;rintro e w' ⟨rfl,rfl⟩) | (go_at_call 150;refine (UY _ _ _).mono ?_;rintro e w' ⟨rfl,rfl⟩) | (go_at_call 340;refine (Sa _ _).mono ?_;rintro e w' ⟨rfl,rfl⟩) | (go_at_call 341;refine (Nc (uh Hc) _).mono ?_;rintro e w' ⟨rfl,rfl⟩) | (go_at_call 342;refine (OU _ _).mono ?_;rintro e w' ⟨rfl,rfl⟩))
  go_ret
  first | exact ⟨rfl,uh Hb⟩ | exact ⟨rfl,(Below.refl _ _).alloc (Nat.le_refl _) _⟩
attribute [local go_sem ↓] Rn Tb
theorem MM (w:World):Calls Tryz.prog 255 #[.agg E11] w fun e w'=>e= .returned (.iface 246 (.agg #[]))/\Below w.heap.size w w':=by
 have hz:VB (0,0,0,0,0,0,0,0,0,0,0) (0,0,0,0,0,0,0,0,0,0,0)=true:=rfl
 go_enter Tryz.func255,Tryz.ntmps255
 go_wp2_with fail
 go_ret
 exact ⟨rfl,(Below.refl _ _).alloc (Nat.le_refl _) _⟩
theorem MN {st be rk my gu lo hi hd ca ut wk:Int} (hg:V5 (st,be,rk,my,gu,lo,hi,hd,ca,ut,wk)=false) (hp:Zj (st,be,rk,my,gu,lo,hi,hd,ca,ut,wk)=true) (w:World):Calls Tryz.prog 255 #[.agg (I11 st be rk my gu lo hi hd ca ut wk)] w fun e w'=>e= .returned (.iface 244 (.agg (I11 st be rk my gu lo hi hd ca ut wk)))/\Below w.heap.size w w':=by
 have hz:VB (st,be,rk,my,gu,lo,hi,hd,ca,ut,wk) (0,0,0,0,0,0,0,0,0,0,0)=false:=hg
 have Hp:=Z9 hp
 clear hg hp
 go_enter Tryz.func255,Tryz.ntmps255
 go_wp2_with fail
 refine (SH st be rk my gu lo hi hd ca ut wk _).mono ?_
 rw [uh Hp]
 rintro e w1 ⟨rfl,hb⟩
 have c0:w1.cell? ⟨w.heap.size,0,none⟩=some (.int .i64 st):=(hb.cell (p:=⟨w.heap.size,0,none⟩) (by simp)).trans (Zw _ rfl)
 have c1:w1.cell? ⟨w.heap.size,1,none⟩=some (.int .i64 be):=(hb.cell (p:=⟨w.heap.size,1,none⟩) (by simp)).trans (Zw _ rfl)
 have c2:w1.cell? ⟨w.heap.size,2,none⟩=some (.int .i64 rk):=(hb.cell (p:=⟨w.heap.size,2,none⟩) (by simp)).trans (Zw _ rfl)
 have c3:w1.cell? ⟨w.heap.size,3,none⟩=some (.int .i64 my):=(hb.cell (p:=⟨w.heap.size,3,none⟩) (by simp)).trans (Zw _ rfl)
 have c4:w1.cell? ⟨w.heap.size,4,none⟩=some (.int .i64 gu):=(hb.cell (p:=⟨w.heap.size,4,none⟩) (by simp)).trans (Zw _ rfl)
 have c5:w1.cell? ⟨w.heap.size,5,none⟩=some (.int .i64 lo):=(hb.cell (p:=⟨w.heap.size,5,none⟩) (by simp)).trans (Zw _ rfl)
 have c6:w1.cell? ⟨w.heap.size,6,none⟩=some (.int .i64 hi):=(hb.cell (p:=⟨w.heap.size,6,none⟩) (by simp)).trans (Zw _ rfl)
 have c7:w1.cell? ⟨w.heap.size,7,none⟩=some (.int .i64 hd):=(hb.cell (p:=⟨w.heap.size,7,none⟩) (by simp)).trans (Zw _ rfl)
 have c8:w1.cell? ⟨w.heap.size,8,none⟩=some (.int .i64 ca):=(hb.cell (p:=⟨w.heap.size,8,none⟩) (by simp)).trans (Zw _ rfl)
 have c9:w1.cell? ⟨w.heap.size,9,none⟩=some (.int .i64 ut):=(hb.cell (p:=⟨w.heap.size,9,none⟩) (by simp)).trans (Zw _ rfl)
 have c10:w1.cell? ⟨w.heap.size,10,none⟩=some (.int .i64 wk):=(hb.cell (p:=⟨w.heap.size,10,none⟩) (by simp)).trans (Zw _ rfl)
 have Hb:=Z9 (((Below.refl w.heap.size w).alloc (Nat.le_refl _) _).trans (hb.mono (by simp)))
 clear hb
 go_wp2_with fail
 go_ret
 exact ⟨rfl,uh Hb⟩
theorem Oc {st be rk my gu lo hi hd ca ut wk:Int} (hg:V5 (st,be,rk,my,gu,lo,hi,hd,ca,ut,wk)=false) (hp:Zj (st,be,rk,my,gu,lo,hi,hd,ca,ut,wk)=false) (w:World):Calls Tryz.prog 255 #[.agg (I11 st be rk my gu lo hi hd ca ut wk)] w fun e w'=>e= .returned (.iface 285 (.agg #[]))/\Below w.heap.size w w':=by
 have hz:VB (st,be,rk,my,gu,lo,hi,hd,ca,ut,wk) (0,0,0,0,0,0,0,0,0,0,0)=false:=hg
 have Hp:=Z9 hp
 clear hg hp
 go_enter Tryz.func255,Tryz.ntmps255
 go_wp2_with fail
 refine (SH st be rk my gu lo hi hd ca ut wk _).mono ?_
 rw [uh Hp]
 rintro e w1 ⟨rfl,hb⟩
 have Hb:=Z9 (((Below.refl w.heap.size w).alloc (Nat.le_refl _) _).trans (hb.mono (by simp)))
 clear hb
 go_wp2_with fail
 go_ret
 exact ⟨rfl,uh Hb⟩
theorem CO (w : World) : (method 484 246 (.agg #[]) "loop.example/g00553/impl.isSmith").run Tryz.prog w = .ok (412, .agg #[]) w := by kernel_rfl
theorem DA (w : World) : (method 484 285 (.agg #[]) "loop.example/g00553/impl.isSmith").run Tryz.prog w = .ok (431, .agg #[]) w := by kernel_rfl
theorem CP (st be rk my gu lo hi hd ca ut wk : Int) (w : World) : (method 484 244 (.agg (I11 st be rk my gu lo hi hd ca ut wk)) "loop.example/g00553/impl.isSmith").run Tryz.prog w = .ok (411, .agg (I11 st be rk my gu lo hi hd ca ut wk)) w := by kernel_rfl
theorem IC (w:World):Calls Tryz.prog 412 #[.agg #[]] w fun e w'=>e= .returned (.bool true)/\Below w.heap.size w w':=by
 go_enter Tryz.func412,Tryz.ntmps412
 go_wp2_with fail
 go_ret
 exact ⟨rfl,(Below.refl _ _).alloc (Nat.le_refl _) _⟩
theorem L6 (w:World):Calls Tryz.prog 431 #[.agg #[]] w fun e w'=>e= .returned (.bool false)/\Below w.heap.size w w':=by
 go_enter Tryz.func431,Tryz.ntmps431
 go_wp2_with fail
 go_ret
 exact ⟨rfl,(Below.refl _ _).alloc (Nat.le_refl _) _⟩
theorem Jb (st be rk my gu lo hi hd ca ut wk:Int) (w:World):Calls Tryz.prog 411 #[.agg (I11 st be rk my gu lo hi hd ca ut wk)] w fun e w'=>e= .returned (.bool true)/\Below w.heap.size w w':=by
 go_enter Tryz.func411,Tryz.ntmps411
 go_wp2_with fail
 go_ret
 exact ⟨rfl,(Below.refl _ _).alloc (Nat.le_refl _) _⟩
attribute [local go_sem] CO DA CP
theorem P5 (st be rk my gu lo hi hd ca ut wk:Int) (w:World):Calls Tryz.prog 185 #[.agg (I11 st be rk my gu lo hi hd ca ut wk)] w fun e w'=>e= .returned (.bool (ZG (st,be,rk,my,gu,lo,hi,hd,ca,ut,wk)))/\Below w.heap.size w w':=by
 unfold ZG
 cases hg:V5 (st,be,rk,my,gu,lo,hi,hd,ca,ut,wk)
 ·cases hp:Zj (st,be,rk,my,gu,lo,hi,hd,ca,ut,wk)
  ·rw [show (false || false)=false from rfl]
   have Hg:=Z9 hg
   have Hp:=Z9 hp
   clear hg hp
   go_enter Tryz.func185,Tryz.ntmps185
   go_wp2_with fail
   refine (Oc (uh Hg) (uh Hp) _).mono ?_
   rintro e w1 ⟨rfl,hb⟩
   have B1:=Z9 (((Below.refl w.heap.size w).alloc (Nat.le_refl _) _).trans (hb.mono (by simp)))
   clear hb
   go_wp2_with fail
   refine (L6 _).mono ?_
   rintro e w2 ⟨rfl,hb⟩
   have B2:=Z9 ((uh B1).trans (hb.mono (uh B1).size))
   clear hb
   go_wp2_with fail
   go_ret
   exact ⟨rfl,uh B2⟩
  ·rw [show (false || true)=true from rfl]
   have Hg:=Z9 hg
   have Hp:=Z9 hp
   clear hg hp
   go_enter Tryz.func185,Tryz.ntmps185
   go_wp2_with fail
   refine (MN (uh Hg) (uh Hp) _).mono ?_
   rintro e w1 ⟨rfl,hb⟩
   have B1:=Z9 (((Below.refl w.heap.size w).alloc (Nat.le_refl _) _).trans (hb.mono (by simp)))
   clear hb
   go_wp2_with fail
   refine (Jb _ _ _ _ _ _ _ _ _ _ _ _).mono ?_
   rintro e w2 ⟨rfl,hb⟩
   have B2:=Z9 ((uh B1).trans (hb.mono (uh B1).size))
   clear hb
   go_wp2_with fail
   go_ret
   exact ⟨rfl,uh B2⟩
 ·rw [Bool.true_or]
  cases V6 hg
  clear hg
  go_enter Tryz.func185,Tryz.ntmps185
  go_wp2_with fail
  refine (MM _).mono ?_
  rintro e w1 ⟨rfl,hb⟩
  have B1:=Z9 (((Below.refl w.heap.size w).alloc (Nat.le_refl _) _).trans (hb.mono (by simp)))
  clear hb
  go_wp2_with fail
  refine (IC _).mono ?_
  rintro e w2 ⟨rfl,hb⟩
  have B2:=Z9 ((uh B1).trans (hb.mono (uh B1).size))
  clear hb
  go_wp2_with fail
  go_ret
  exact ⟨rfl,uh B2⟩
end Go.Proofs.YtjhijildaceadaaGreatDoor
namespace Go.Proofs.YtjhijildaceadaaGreatDoor
open Go.ChangeShapes Go.WideShapes Go.ChangeAt Go.RowKit Go.Sort
set_option linter.unusedVariables false
set_option maxRecDepth 100000
theorem Iq (a b c d:Int) (w:World):(Op.equalIn 10000 225 (.agg #[.int .i64 a,.int .i64 b]) (.agg #[.int .i64 c,.int .i64 d])).run Tryz.prog w= .ok (a ==c && b ==d) w:=by
 have u:=Tryz.underlying2
 have ag:=Tryz.isAgg2
 have z:=Tryz.sizeOf2
 have hc:Tryz.prog.cellsOf 2=1:=by kernel_rfl
 obtain ⟨i,hi⟩:=Option.isSome_iff_exists.1 (show (Tryz.prog.info? 2).isSome=true by kernel_rfl)
 rw [show (10000:Nat)=9999+1 from rfl,run_equalIn_array w 9999 _ _ Tryz.underlying225 hi,hc]
 simp only [show List.range 2=[0,1] from rfl,Op.eqItems]
 go_simp
 by_cases h:a=c
 ·subst h
  by_cases h2:b=d
  ·subst h2;simp
  ·simp [h2]
 ·simp [h]
theorem DX (a b c d:Int) (w:World):(binOp .eql 225 (.agg #[.int .i64 a,.int .i64 b]) (.agg #[.int .i64 c,.int .i64 d])).run Tryz.prog w= .ok (.bool (a ==c && b ==d)) w:=by
 rw [run_eql_struct,Iq];rfl
theorem RD (lo hi n:Int) (w:World):Calls Tryz.prog 311 #[.agg #[.int .i64 lo,.int .i64 hi],.int .i64 n] w fun e w'=>e= .returned (.agg #[.int .i64 (min lo n),.int .i64 (max hi n)])/\Below w.heap.size w w':=by
 by_cases h1:lo<=n
 all_goals
  by_cases h2:hi<n
  all_goals
   go_enter Tryz.func311,Tryz.ntmps311
   go_wp2_with fail
   exact bodyPost_ret (v:= .agg #[.int .i64 (min lo n),.int .i64 (max hi n)]) (by simp [results,Tryz.results311,go_sem];omega) rfl ⟨rfl,((Below.refl _ _).alloc (Nat.le_refl _) _).alloc (by simp) _⟩
theorem Ip (m:Int) (w:World) (m0 : -1000000000000<=m) (m1:m<=1000000000000):Calls Tryz.prog 260 #[.int .i64 m] w fun e w'=>e= .returned (.agg #[.int .i64 (m-20000),.int .i64 (m+63000)])/\Below w.heap.size w w':=by
 go_enter Tryz.func260,Tryz.ntmps260
 go_wp2_with fail
 exact bodyPost_ret (v:= .agg #[.int .i64 (m-20000),.int .i64 (m+63000)]) (by simp [results,Tryz.results260,go_sem]) rfl ⟨rfl,(Below.refl _ _).alloc (Nat.le_refl _) _⟩
def loL (lo:Int) (zs:List Int):Int:=zs.foldl min lo
def hiL (hi:Int) (zs:List Int):Int:=zs.foldl max hi
theorem CK (zs:List Int):∀ lo,loL lo zs<=lo:=by
 induction zs with
 | nil=>intro lo;exact Int.le_refl _
 | cons z zs ih=>intro lo;exact Int.le_trans (ih (min lo z)) (Int.min_le_left _ _)
theorem CG (zs:List Int):∀ hi,hi<=hiL hi zs:=by
 induction zs with
 | nil=>intro hi;exact Int.le_refl _
 | cons z zs ih=>intro hi;exact Int.le_trans (Int.le_max_left _ _) (ih (max hi z))
theorem MS (zs:List Int):∀ lo hi,(loL lo zs ==lo && hiL hi zs ==hi)=zs.all fun z=>inB z lo hi:=by
 induction zs with
 | nil=>intro lo hi;simp [loL,hiL]
 | cons z zs ih=>
  intro lo hi
  show (loL (min lo z) zs ==lo && hiL (max hi z) zs ==hi)=(inB z lo hi && zs.all fun z=>inB z lo hi)
  cases hz:inB z lo hi
  ·have hn:¬ (lo<=z/\z<=hi):=of_decide_eq_false hz
   have h1:=CK zs (min lo z)
   have h2:=CG zs (max hi z)
   simp only [Bool.false_and,Bool.and_eq_false_iff,beq_eq_false_iff_ne]
   omega
  ·obtain ⟨h1,h2⟩:=ZR hz
   rw [show min lo z=lo by omega,show max hi z=hi by omega,ih];rfl
theorem Ev {lo:Int} {zs:List Int} {k:Nat} (hk:k<zs.length):loL lo (zs.take (k+1))=min (loL lo (zs.take k)) (zs.getD k 0):=by
 unfold loL;rw [List.take_succ_eq_append_getElem hk,List.foldl_append];simp [List.getD,List.getElem?_eq_getElem hk]
theorem Ej {hi:Int} {zs:List Int} {k:Nat} (hk:k<zs.length):hiL hi (zs.take (k+1))=max (hiL hi (zs.take k)) (zs.getD k 0):=by
 unfold hiL;rw [List.take_succ_eq_append_getElem hk,List.foldl_append];simp [List.getD,List.getElem?_eq_getElem hk]
attribute [local go_sem ↓] DX
theorem SE (lo hi:Int) (b cap:Nat) (zs:List Int) (w:World) (hl:zs.length<=1000) (hb:b<w.heap.size) (hc:∀ k,k<zs.length->w.cell? ⟨b,k,none⟩=some (.int .i64 (zs.getD k 0))) :
  Calls Tryz.prog 262 #[.agg #[.int .i64 lo,.int .i64 hi],.slice (some ⟨b,0,none⟩) zs.length cap] w fun e w'=>e= .returned (.bool (zs.all fun z=>inB z lo hi))/\Below w.heap.size w w':=by
 have Hc:=Z9 hc
 clear hc
 go_enter Tryz.func262,Tryz.ntmps262
 go_wp2_with fail
 go_loopw [11] (fun i wr=> ∃ k:Nat,k<=zs.length/\i= .int .i64 k/\Blk wr (w.heap.size+1) 225 #[.int .i64 (loL lo (zs.take k)),.int .i64 (hiL hi (zs.take k))]/\Blk wr w.heap.size 225 #[.int .i64 lo,.int .i64 hi]/\Below w.heap.size w wr) (fun i _=>zs.length-(intOf i).toNat)
 case atStart=>
  refine ⟨0,Nat.zero_le _,rfl,?_,(Blk.new w _ _).alloc _,((Below.refl _ _).alloc (Nat.le_refl _) _).alloc (by simp) _⟩
  have:=Blk.new (w.alloc (.cells #[.int .i64 lo,.int .i64 hi] 225)) 225 #[.int .i64 lo,.int .i64 hi]
  simpa [loL,hiL] using this
 case round=>
  obtain ⟨k,hk,rfl,hs,ho,hbl⟩:=hrel
  have Hs:=Z9 hs
  have Ho:=Z9 ho
  have Hb:=Z9 hbl
  by_cases hlt:k<zs.length
  ·have c0:=uh Hc k hlt
   rw [<-hbl.cell (p:=⟨b,k,none⟩) hb] at c0
   have e1:=Ev (lo:=lo) hlt
   have e2:=Ej (hi:=hi) hlt
   have s0:=hs.cell (i:=0) rfl
   have s1:=hs.cell (i:=1) rfl
   have g0:=hs.free 0
   have g1:=hs.free 1
   generalize zs.getD k 0=z at *
   generalize loL lo (zs.take k)=x at *
   generalize hiL hi (zs.take k)=y at *
   have E1:=Z9 e1
   have E2:=Z9 e2
   clear e1 e2 hs ho hbl
   go_wp2_with fail
   refine (RD x y z _).mono ?_
   rintro e w1 ⟨rfl,hb1⟩
   have hs1:=(uh Hs).below hb1 (uh Hs).lt
   have Hs1:=Z9 hs1
   have Ho1:Hid (Blk w1 w.heap.size 225 #[.int .i64 lo,.int .i64 hi]):=Z9 ((uh Ho).below hb1 (uh Ho).lt)
   have B1:Hid (Below w.heap.size w w1):=Z9 ((uh Hb).trans (hb1.mono (uh Hb).size))
   have s0:=hs1.cell (i:=0) rfl
   have s1:=hs1.cell (i:=1) rfl
   have g0:=hs1.free 0
   have g1:=hs1.free 1
   clear hs1 hb1
   go_wp2_with fail
   go_roundw
   case rel=>
    refine ⟨k+1,by omega,by go_num,?_,?_,?_⟩
    ·rw [uh E1,uh E2]
     simpa using ((uh Hs1).set 0 (.int .i64 (min x z))).set 1 (.int .i64 (max y z))
    ·exact ((uh Ho1).other (by simp) _).other (by simp) _
    ·exact ((uh B1).setCell (by simp) _).setCell (by simp) _
   case measure=>simp [intOf];omega
  ·obtain rfl:k=zs.length:=by omega
   rw [List.take_length] at hs
   have e3:=MS zs lo hi
   have s0:=hs.cell (i:=0) rfl
   have s1:=hs.cell (i:=1) rfl
   have o0:=ho.cell (i:=0) rfl
   have o1:=ho.cell (i:=1) rfl
   generalize loL lo zs=x at *
   generalize hiL hi zs=y at *
   have E3:=Z9 e3
   clear e3 hs ho hbl Hs
   go_wp2_with fail
   go_ret
   exact ⟨Z5 (uh E3),uh Hb⟩
theorem U7 (b cap:Nat) (zs:List Int) (w:World) (hl:zs.length<=1000) (hb:b<w.heap.size) (hc:∀ k,k<zs.length->w.cell? ⟨b,k,none⟩=some (.int .i64 (zs.getD k 0))) :
  Calls Tryz.prog 259 #[.slice (some ⟨b,0,none⟩) zs.length cap] w fun e w'=>e= .returned (.bool (zs.all fun z=>inB z (-1000000000000) 1000000000000))/\Below w.heap.size w w':=by
 have Hc:=Z9 hc
 clear hc
 go_enter Tryz.func259,Tryz.ntmps259
 go_wp2_with fail
 refine (SE _ _ b cap zs _ hl hb (uh Hc)).mono ?_
 rintro e w1 ⟨rfl,hb1⟩
 have B1:=Z9 hb1
 clear hb1
 go_wp2_with fail
 go_ret
 exact ⟨rfl,uh B1⟩
theorem OP (h m:Int) (w:World):Calls Tryz.prog 193 #[.int .i64 h,.int .i64 m] w fun e w'=>e= .returned (.bool (Wi h m))/\Below w.heap.size w w':=by
 cases hh:V8 h && V8 m
 ·have hs:Wi h m=false:=by unfold Wi;rw [hh];rfl
  have Hs:=Z9 hs
  clear hs
  go_enter Tryz.func193,Tryz.ntmps193
  go_wp2_with fail
  refine (U7 _ _ [h,m] _ (by simp) (by simp) ?_).mono ?_
  ·intro k hk
   simp at hk
   match k,hk with
   | 0,_=>simp
   | 1,_=>simp
  rintro e w1 ⟨rfl,hb⟩
  rw [GR,hh]
  have B1:Hid (Below w.heap.size w w1):=Z9 (((Below.refl _ _).alloc (Nat.le_refl _) _).trans (hb.mono (by simp)))
  clear hb
  go_wp2_with fail
  go_ret
  exact ⟨Z5 (uh Hs).symm,uh B1⟩
 ·have hs:Wi h m=inB (h-m) (-20000) 63000:=by unfold Wi;rw [hh];rfl
  have Hs:=Z9 hs
  have h':=hh
  simp only [Bool.and_eq_true] at h'
  obtain ⟨m0,m1⟩:=OL h'.2
  clear hs h'
  go_enter Tryz.func193,Tryz.ntmps193
  go_wp2_with fail
  refine (U7 _ _ [h,m] _ (by simp) (by simp) ?_).mono ?_
  ·intro k hk
   simp at hk
   match k,hk with
   | 0,_=>simp
   | 1,_=>simp
  rintro e w1 ⟨rfl,hb⟩
  rw [GR,hh]
  have B1:Hid (Below w.heap.size w w1):=Z9 (((Below.refl _ _).alloc (Nat.le_refl _) _).trans (hb.mono (by simp)))
  clear hb
  go_wp2_with fail
  refine (Ip m _ m0 m1).mono ?_
  rintro e w2 ⟨rfl,hb⟩
  have B2:Hid (Below w.heap.size w w2):=Z9 ((uh B1).trans (hb.mono (uh B1).size))
  clear hb B1
  go_wp2_with fail
  refine (SE _ _ _ _ [h] _ (by simp) (by simp) ?_).mono ?_
  ·intro k hk
   simp at hk
   subst hk
   simp
  rintro e w3 ⟨rfl,hb⟩
  rw [Dr]
  have B3:Hid (Below w.heap.size w w3):=Z9 (((uh B2).alloc (uh B2).size _).trans (hb.mono (by have:=(uh B2).size;simp;omega)))
  clear hb B2
  go_wp2_with fail
  go_ret
  exact ⟨Z5 (uh Hs).symm,uh B3⟩
theorem OQ (m f:Int) (w:World):Calls Tryz.prog 307 #[.int .i64 m,.int .i64 f] w fun e w'=>e= .returned (.int .i64 (ZI m f))/\Below w.heap.size w w':=by
 cases hh:V8 m && V8 f
 ·have hs:ZI m f=m:=by unfold ZI;rw [hh];rfl
  have Hs:=Z9 hs
  clear hs
  go_enter Tryz.func307,Tryz.ntmps307
  go_wp2_with fail
  refine (U7 _ _ [m,f] _ (by simp) (by simp) ?_).mono ?_
  ·intro k hk
   simp at hk
   match k,hk with
   | 0,_=>simp
   | 1,_=>simp
  rintro e w1 ⟨rfl,hb⟩
  rw [GR,hh]
  have B1:Hid (Below w.heap.size w w1):=Z9 (((Below.refl _ _).alloc (Nat.le_refl _) _).trans (hb.mono (by simp)))
  clear hb
  go_wp2_with fail
  go_ret
  exact ⟨Zy (uh Hs).symm,uh B1⟩
 ·have hs:ZI m f=min (max m f) 900000000000:=by unfold ZI;rw [hh];rfl
  have Hs:=Z9 hs
  clear hs
  go_enter Tryz.func307,Tryz.ntmps307
  go_wp2_with fail
  refine (U7 _ _ [m,f] _ (by simp) (by simp) ?_).mono ?_
  ·intro k hk
   simp at hk
   match k,hk with
   | 0,_=>simp
   | 1,_=>simp
  rintro e w1 ⟨rfl,hb⟩
  rw [GR,hh]
  have B1:Hid (Below w.heap.size w w1):=Z9 (((Below.refl _ _).alloc (Nat.le_refl _) _).trans (hb.mono (by simp)))
  clear hb
  go_wp2_with fail
  refine (P1 m f 900000000000 _).mono ?_
  rintro e w2 ⟨rfl,hw2⟩
  subst w2
  go_wp2_with fail
  go_ret
  exact ⟨Zy (uh Hs).symm,uh B1⟩
theorem JS (x:Int) (w:World):Calls Tryz.prog 189 #[.int .i64 x] w fun e w'=>e= .returned (.bool (V8 x))/\w'=w:=by
 go_enter Tryz.func189,Tryz.ntmps189
 go_wp2_with (go_at_call 76;refine (Z1 _ _ _ _).mono ?_;rintro e w' ⟨rfl,rfl⟩)
 go_ret
 exact ⟨rfl,rfl⟩
theorem YT {x:Int} {r:Bool} (h:V8 x=r) (w:World):Calls Tryz.prog 189 #[.int .i64 x] w fun e w'=>e= .returned (.bool r)/\w'=w:=by
 rw [<-h];exact JS x w
theorem PD (h m:Int) (w:World):Calls Tryz.prog 103 #[.int .i64 h,.int .i64 m] w fun e w'=>e= .returned (.int .i64 (Y8 h m))/\w'=w:=by
 cases h2:V8 m
 ·have hs:Y8 h m=h:=by unfold Y8;rw [h2];rfl
  have Hs:=Z9 hs
  have H2:=Z9 h2
  clear hs h2
  go_enter Tryz.func103,Tryz.ntmps103
  go_wp2_with (go_at_call 189;refine (YT (uh H2) _).mono ?_;rintro e w' ⟨rfl,rfl⟩)
  go_ret
  exact ⟨Zy (uh Hs).symm,rfl⟩
 have hs:Y8 h m=max h (m-20000):=by unfold Y8;rw [h2];rfl
 obtain ⟨b0,b1⟩:=OL h2
 have Hs:=Z9 hs
 have H2:=Z9 h2
 clear hs h2
 go_enter Tryz.func103,Tryz.ntmps103
 go_wp2_with (first | (go_at_call 138;refine (UF _ _ _).mono ?_;rintro e w' ⟨rfl,rfl⟩) | (go_at_call 189;refine (YT (uh H2) _).mono ?_;rintro e w' ⟨rfl,rfl⟩))
 go_ret
 exact ⟨Zy (uh Hs).symm,rfl⟩
theorem SN (h f t:Int) (w:World):Calls Tryz.prog 104 #[.int .i64 h,.int .i64 f,.int .i64 t] w fun e w'=>e= .returned (.int .i64 (Zv h f t))/\w'=w:=by
 cases h1:V8 h
 ·have hs:Zv h f t=h:=by unfold Zv;rw [h1];rfl
  have Hs:=Z9 hs
  have H1:=Z9 h1
  clear hs h1
  go_enter Tryz.func104,Tryz.ntmps104
  go_wp2_with (go_at_call 189;refine (YT (uh H1) _).mono ?_;rintro e w' ⟨rfl,rfl⟩)
  go_ret
  exact ⟨Zy (uh Hs).symm,rfl⟩
 cases h2:V8 f
 ·have hs:Zv h f t=h:=by unfold Zv;rw [h1,h2];rfl
  have Hs:=Z9 hs
  have H1:=Z9 h1
  have H2:=Z9 h2
  clear hs h1 h2
  go_enter Tryz.func104,Tryz.ntmps104
  go_wp2_with (go_at_call 189;first | (refine (YT (uh H1) _).mono ?_;rintro e w' ⟨rfl,rfl⟩) | (refine (YT (uh H2) _).mono ?_;rintro e w' ⟨rfl,rfl⟩))
  go_ret
  exact ⟨Zy (uh Hs).symm,rfl⟩
 cases h3:V8 t
 ·have hs:Zv h f t=h:=by unfold Zv;rw [h1,h2,h3];rfl
  have Hs:=Z9 hs
  have H1:=Z9 h1
  have H2:=Z9 h2
  have H3:=Z9 h3
  clear hs h1 h2 h3
  go_enter Tryz.func104,Tryz.ntmps104
  go_wp2_with (go_at_call 189;first | (refine (YT (uh H1) _).mono ?_;rintro e w' ⟨rfl,rfl⟩) | (refine (YT (uh H2) _).mono ?_;rintro e w' ⟨rfl,rfl⟩) | (refine (YT (uh H3) _).mono ?_;rintro e w' ⟨rfl,rfl⟩))
  go_ret
  exact ⟨Zy (uh Hs).symm,rfl⟩
 have hs:Zv h f t=h-f+t:=by unfold Zv;rw [h1,h2,h3];rfl
 obtain ⟨a0,a1⟩:=OL h1
 obtain ⟨b0,b1⟩:=OL h2
 obtain ⟨c0,c1⟩:=OL h3
 have Hs:=Z9 hs
 have H1:=Z9 h1
 have H2:=Z9 h2
 have H3:=Z9 h3
 clear hs h1 h2 h3
 go_enter Tryz.func104,Tryz.ntmps104
 go_wp2_with (go_at_call 189;first | (refine (YT (uh H1) _).mono ?_;rintro e w' ⟨rfl,rfl⟩) | (refine (YT (uh H2) _).mono ?_;rintro e w' ⟨rfl,rfl⟩) | (refine (YT (uh H3) _).mono ?_;rintro e w' ⟨rfl,rfl⟩))
 go_ret
 exact ⟨Zy (uh Hs).symm,rfl⟩
theorem Pz (m f:Int) (w:World):Calls Tryz.prog 221 #[.int .i64 m,.int .i64 f] w fun e w'=>e= .returned (.int .i64 (ZI m f))/\w'=w:=by
 cases h1:V8 m
 ·have hs:ZI m f=m:=by unfold ZI;rw [h1];rfl
  have Hs:=Z9 hs
  have H1:=Z9 h1
  clear hs h1
  go_enter Tryz.func221,Tryz.ntmps221
  go_wp2_with (go_at_call 189;refine (YT (uh H1) _).mono ?_;rintro e w' ⟨rfl,rfl⟩)
  go_ret
  exact ⟨Zy (uh Hs).symm,rfl⟩
 cases h2:V8 f
 ·have hs:ZI m f=m:=by unfold ZI;rw [h1,h2];rfl
  have Hs:=Z9 hs
  have H1:=Z9 h1
  have H2:=Z9 h2
  clear hs h1 h2
  go_enter Tryz.func221,Tryz.ntmps221
  go_wp2_with (go_at_call 189;first | (refine (YT (uh H1) _).mono ?_;rintro e w' ⟨rfl,rfl⟩) | (refine (YT (uh H2) _).mono ?_;rintro e w' ⟨rfl,rfl⟩))
  go_ret
  exact ⟨Zy (uh Hs).symm,rfl⟩
 have hs:ZI m f=min (max m f) 900000000000:=by unfold ZI;rw [h1,h2];rfl
 have Hs:=Z9 hs
 have H1:=Z9 h1
 have H2:=Z9 h2
 clear hs h1 h2
 go_enter Tryz.func221,Tryz.ntmps221
 go_wp2_with (first | (go_at_call 138;refine (UF _ _ _).mono ?_;rintro e w' ⟨rfl,rfl⟩) | (go_at_call 279;refine (Ni _ _ _).mono ?_;rintro e w' ⟨rfl,rfl⟩) | (go_at_call 189;first | (refine (YT (uh H1) _).mono ?_;rintro e w' ⟨rfl,rfl⟩) | (refine (YT (uh H2) _).mono ?_;rintro e w' ⟨rfl,rfl⟩)))
 go_ret
 exact ⟨Zy (uh Hs).symm,rfl⟩
end Go.Proofs.YtjhijildaceadaaGreatDoor
