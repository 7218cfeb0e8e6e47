/- Part 6 of what the proof rests on. No condition but those that a theorem names. -/
import Derived.Test.YthbbahagpmdooaaGreatXq05
import Derived.RangeFuncNested
import Derived.RangeFuncBound
import Derived.RangeFuncCalls
import Derived.RangeFuncLeaves
import Derived.RangeFuncBox
import Derived.Shelf.Abstract
import Derived.Shelf.RegionOpen
import Derived.OwnWalkIn
import Derived.TacticsInMore
import Derived.LoopNIn
import Derived.LoopIn
set_option maxHeartbeats 8000000
set_option maxRecDepth 100000
namespace Go.Proofs.YthbbahagpmdooaaGreat
open Go.ChangeShapes Go.WideShapes Go.ChangeAt Go.RowKit Go.Shelf
set_option linter.unusedVariables false
attribute [local go_sem] Oper.semAt_some
def KeepsBox (Bn:Nat) (t:TypeId) (W W':World):Prop:= ∀ v,Boxed W Bn t v->Boxed W' Bn t v
theorem KeepsBox.trans {Bn:Nat} {t:TypeId} {A B C:World} (h:KeepsBox Bn t A B) (k:KeepsBox Bn t B C):KeepsBox Bn t A C:=fun v hv=>k v (h v hv)
theorem KeepsBox.putObj {Bn:Nat} {t:TypeId} {n:Nat} (h:Bn<n) (W:World) (l:Nat) (o o':Obj) (hl:n<=l) (_:W.heap[l]?=some o) (_:o.isCells=false) (_:o.isWalk=false):KeepsBox Bn t W (W.putObj l o'):=
 fun v hv=>hv.kept (grownBy_putObj' W l o') (fun e=>by cases e;omega)
theorem L7 (n:Nat) (hn:1<=n) (l Bn:Nat) (s:Int) (J Jx:List Int->World->Prop)
  (hY:∀ pre x W,J pre W->pre.length<8->YieldAt Fence.wide (n-1) Tryz.prog l #[.int .i64 x] W fun e W'=>
   (e= .returned (.bool true)/\J (pre++[x]) W'/\KeepsBox Bn 2 W W')\/(e= .returned (.bool false)/\Jx (pre++[x]) W'))
  (W:World) (hBn:Boxed W Bn 2 (.int .i64 s)) (h0:J [] W) :
  CallsIn Fence.wide n Tryz.prog 250 #[.func (.yield l) #[] #[],.pointer (some ⟨Bn,0,none⟩)] W fun e W'=>(∃ v,e= .returned v)/\
   ((∃ ys,ys=L8 s/\J ys W')\/(∃ pre,pre <+: L8 s/\Jx pre W')):=by
 refine callsIn_of_wp Tryz.func250 rfl trivial ?_ rfl
 simp only [Tryz.ntmps250,List.size_toArray,List.length_cons,List.length_nil,Nat.reduceAdd,Nat.reduceSub,Array.replicate_succ,Array.replicate_zero,List.push_toArray,List.append_toArray,List.nil_append,List.cons_append]
 gi_wp2
 gi_loopw [4] (fun i wr=> ∃ k:Nat,k<=8/\i= .int .i64 k/\Boxed wr Bn 2 (.int .i64 s)/\J (UW s k) wr)
  (fun i wr=>8-(intOf i).toNat)
 case atStart=>exact ⟨0,by omega,rfl,hBn,h0⟩
 case round=>
  obtain ⟨k,hk,rfl,hbx,hJ⟩:=hrel
  have hul:=MP s k
  have hc:=hbx.cell
  have Hb:=Z9 hbx
  clear hbx
  by_cases hlt:(k:Int)<8
  ·cases hm:SI s k
   ·gi_wp2_with (refine ⟨trivial,?_⟩;gi_at_call 133;refine (callsIn_wide.2 (U1 _ _ _)).mono ?_;rintro e w' ⟨rfl,rfl⟩)
    refine ⟨fun _ h=>(by cases h),?_⟩
    gi_wp2
    go_roundw
    case rel=>exact ⟨k+1,by omega,by go_num,uh Hb,by rw [Th hm];exact hJ⟩
    case measure=>simp [intOf];omega
   ·obtain ⟨fn,tmps,assign,body,hy,hR⟩:=hY (UW s k) k wr hJ (by omega)
    gi_wp2_with (refine ⟨trivial,?_⟩;gi_at_call 133;refine (callsIn_wide.2 (U1 _ _ _)).mono ?_;rintro e w' ⟨rfl,rfl⟩)
    refine hR.mono ?_
    rintro e W3 (⟨rfl,hJ3,hk3⟩ | ⟨rfl,hJx3⟩)
    ·gi_wp2
     go_roundw
     case rel=>exact ⟨k+1,by omega,by go_num,hk3 _ (uh Hb),by rw [Su hm];exact hJ3⟩
     case measure=>simp [intOf];omega
    ·gi_wp2
     refine bodyPost_ret (results_none rfl _ _ _) rfl ?_
     exact ⟨⟨_,rfl⟩,.inr ⟨UW s k++[(k:Int)],by rw [<-Su hm];exact Gv s (k+1) (by omega),hJx3⟩⟩
  ·obtain rfl:k=8:=by omega
   gi_wp2
   go_end0
   exact ⟨⟨_,rfl⟩,.inl hJ⟩
theorem Nx (n:Nat) (s:Int) (w:World) :
  CallsIn Fence.wide n Tryz.prog 246 #[.int .i64 s] w fun e w'=>e= .returned (.func (.func 250) #[] #[.pointer (some ⟨w.heap.size,0,none⟩)])/\w'=w.alloc (.cells #[.int .i64 s] 2):=by
 refine callsIn_of_wp Tryz.func246 rfl trivial ?_ rfl
 simp only [Tryz.ntmps246,List.size_toArray,List.length_cons,List.length_nil,Nat.reduceAdd,Nat.reduceSub,Array.replicate_succ,Array.replicate_zero,List.push_toArray,List.append_toArray,List.nil_append,List.cons_append]
 gi_wp2
 go_ret
 exact ⟨rfl,rfl⟩
theorem OJ (n:Nat) (hn:1<=n) (Bn:Nat) (s:Int) (w:World) (hBn:Boxed w Bn 2 (.int .i64 s)) :
  SeqStopsK Fence.wide n Tryz.prog 250 #[.pointer (some ⟨Bn,0,none⟩)] (fun x:Int=>#[Value.int .i64 x]) (KeepsBox Bn 2) (fun ys=>ys=L8 s) (fun pre=>pre <+: L8 s) 8 w:=fun l J Jx W hW _ _ hY h0=>
 L7 n hn l Bn s J Jx hY W ((hW.block Bn hBn.lt).trans hBn) h0
theorem Po (n:Nat) (hn:3<=n) (s:Int) (w:World) :
  CallsIn Fence.wide n Tryz.prog 243 #[.int .i64 s] w fun e w'=>e= .returned (.int .i64 (WA s))/\Below w.heap.size w w':=by
 have h1:1<=n:=by omega
 refine callsIn_of_wp_marks Tryz.func243 rfl trivial ?_ rfl
 simp only [Tryz.ntmps243,List.size_toArray,List.length_cons,List.length_nil,Nat.reduceAdd,Nat.reduceSub,Array.replicate_succ,Array.replicate_zero,List.push_toArray,List.append_toArray,List.nil_append,List.cons_append]
 gi_wp2_with (refine ⟨trivial,?_⟩;gi_at_call 246;refine (Nx (n-1) _ _).mono ?_;rintro e w' ⟨rfl,rfl⟩)
 have bR:=Boxed.new w 2 (.int .i64 0)
 have bN:=Boxed.new (w.alloc (.cells #[.int .i64 0] 2)) 2 (.int .i64 s)
 simp only [World.size_alloc] at bN
 have hB0:Below w.heap.size w ((w.alloc (.cells #[.int .i64 0] 2)).alloc (.cells #[.int .i64 s] 2)):=((Below.refl _ w).alloc (Nat.le_refl _) _).alloc (by simp) _
 refine wpIn_rangeFunc_ownG rfl h1 (gf:=250) (lb:=#[.pointer (some ⟨w.heap.size+1,0,none⟩)]) rfl trivial (enters_of Tryz.func250 (by kernel_rfl) rfl)
  (OJ (n-1) (by omega) (w.heap.size+1) s _ bN) (fun h k=>h.trans k) (KeepsBox.putObj (by simp)) (Below.refl _ _) (fun _=>rfl)
  (fun pre W=>(pre=[]/\Boxed W w.heap.size 2 (.int .i64 0))/\Below w.heap.size w W)
  (fun c pre W=>(c= .ret/\ ∃ x,pre=[x]/\Boxed W w.heap.size 2 (.int .i64 x))/\Below w.heap.size w W)
  (OwnFrom.and (Own.from (fun s A B row hs hg hr=>⟨hs.1,hs.2.kept hg (fun e=>by obtain ⟨o,ho,hc⟩:=hr _ e.symm;rw [show A.heap[w.heap.size]?=_ from hs.2] at ho;cases ho;cases hc)⟩) _) (ownFrom_below (Nat.le_refl _) (by simp;omega)))
  (fun c=>OwnFrom.and (Own.from (fun s A B row hs hg hr=>by obtain ⟨e1,x,e2,hb⟩:=hs;exact ⟨e1,x,e2,hb.kept hg (fun e=>by obtain ⟨o,ho,hc⟩:=hr _ e.symm;rw [show A.heap[w.heap.size]?=_ from hb] at ho;cases ho;cases hc)⟩) _) (ownFrom_below (Nat.le_refl _) (by simp;omega)))
  ⟨⟨rfl,bR.alloc _⟩,hB0⟩
  (fun x=>{ tmps:=#[.int .i64 s,undef,.pointer (some ⟨w.heap.size,0,none⟩),.int .i64 x,.int .i64 s,.func (.func 250) #[] #[.pointer (some ⟨w.heap.size+1,0,none⟩)],.int .i64 x,undef],defers:=[] }) ?assign ?body ?done ?stop
 case assign=>
  intro l x W K hK
  gi_wp2
  exact hK
 case body=>
  rintro l pre x W ⟨⟨rfl,hb⟩,hB⟩ _
  have hc:=hb.cell
  have hf:=hb.frozen
  gi_wp2
  exact ⟨(KeepsOthers.setCell _ _ _).from _,⟨rfl,x,rfl,hb.set _⟩,hB.setCell (p:=⟨w.heap.size,0,none⟩) (Nat.le_refl _) _⟩
 case done=>
  rintro D ys W hD hys ⟨⟨hp,hb⟩,hB⟩ hK
  have hc:=hb.cell
  have hf:=hb.frozen
  gi_wp2
  have hK':=(KeepsOthers.setCell W ⟨w.heap.size,0,none⟩ (.int .i64 (-1))).same D _ hK rfl
  refine ⟨by simp,.inl ⟨_,_,rfl,run_takeDeferred hK',?_⟩⟩
  have hc5:=cell_kept (hb.set (.int .i64 (-1))).cell (grownBy_putObj' _ D (.deferred none)) (fun r e=>by cases e;exact ⟨_,hK',rfl⟩)
  have hm:L8 s=[]:=hys.symm.trans hp
  refine ⟨.int .i64 (-1),?_,Zx (by unfold WA;rw [hm];rfl),(hB.setCell (p:=⟨w.heap.size,0,none⟩) (Nat.le_refl _) _).trans (belowK_b (w:=w) (Nat.le_refl _) _ D _ _ (by simp at hD;omega) hK' rfl rfl)⟩
  simp [results,Tryz.f243,go_sem,hc5]
 case stop=>
  rintro D c pre W hD hpre ⟨⟨rfl,x,rfl,hb⟩,hB⟩ hK
  gi_wp2
  refine ⟨by simp,.inl ⟨_,_,rfl,run_takeDeferred hK,?_⟩⟩
  have hc5:=cell_kept hb.cell (grownBy_putObj' _ D (.deferred none)) (fun r e=>by cases e;exact ⟨_,hK,rfl⟩)
  have hx:WA s=x:=by obtain ⟨r,hr⟩:=hpre;unfold WA;rw [<-hr];rfl
  refine ⟨.int .i64 x,?_,Zx hx.symm,hB.trans (belowK_b (w:=w) (Nat.le_refl _) W D _ _ (by simp at hD;omega) hK rfl rfl)⟩
  simp [results,Tryz.f243,go_sem,hc5]
theorem Qu (s:Int) (w:World):Calls Tryz.prog 243 #[.int .i64 s] w fun e w'=>e= .returned (.int .i64 (WA s))/\Below w.heap.size w w':=
 callsIn_wide.1 (Po 3 (Nat.le_refl _) s w)
end Go.Proofs.YthbbahagpmdooaaGreat
namespace Go.Proofs.YthbbahagpmdooaaGreat
open Go.ChangeShapes Go.WideShapes Go.ChangeAt Go.RowKit Go.Sort
set_option linter.unusedVariables false
theorem GH:∀ k:Fin 256,(WA (k.val:Int) != -1)=inB (k.val:Int) 1 255:=by decide +kernel
theorem GI (s:Int):(WA s != -1)=inB s 1 255:=by
 cases h:inB s 0 255
 ·have hf:WA s= -1:=by unfold WA L8;rw [Ox h];rfl
  have h2:s<0\/255<s:=by
   rcases Int.lt_or_le s 0 with h1 | h1
   ·exact .inl h1
   ·rcases Int.lt_or_le 255 s with h2 | h2
    ·exact .inr h2
    ·rw [Zs h1 h2] at h;cases h
  rw [hf,VS (by omega)];rfl
 ·obtain ⟨h0,h1⟩:=ZU h
  obtain ⟨n,rfl⟩:=Int.eq_ofNat_of_zero_le h0
  exact GH ⟨n,by omega⟩
theorem OD {s f:Int} (h:WA s=f) (w:World):Calls Tryz.prog 243 #[.int .i64 s] w fun e w'=>e= .returned (.int .i64 f)/\Below w.heap.size w w':=by
 have:=Qu s w;rw [h] at this;exact this
theorem WV (s:Int) (w:World):Calls Tryz.prog 236 #[.int .i64 s] w fun e w'=>e= .returned (.bool (inB s 1 255))/\Below w.heap.size w w':=by
 have hf:=GI s
 obtain ⟨f,hv⟩:∃ f,WA s=f:=⟨_,rfl⟩
 have Hv:=Z9 hv
 rw [hv] at hf
 have Hf:=Z9 hf
 clear hf hv
 go_enter Tryz.func236,Tryz.ntmps236
 go_wp2_with fail
 refine (OD (uh Hv) _).mono ?_
 rintro e w1 ⟨rfl,hb⟩
 go_wp2_with fail
 go_ret
 exact ⟨Z6 (uh Hf),hb⟩
theorem LP (c r:Int) (w:World):Calls Tryz.prog 237 #[.int .i64 c,.int .i64 r] w fun e w'=>e= .returned (.bool (inB c 0 (Zt r-1)))/\w'=w:=by
 obtain ⟨x,hv⟩:∃ x,Zt r=x:=⟨_,rfl⟩
 have Hv:=Z9 hv
 rw [hv]
 clear hv
 by_cases h0:0<=c
 ·by_cases h1:c<x
  ·rw [Zs (x:=c) (lo:=0) (hi:=x-1) h0 (by omega)]
   go_enter Tryz.func237,Tryz.ntmps237
   go_wp2_with (go_at_call 244;refine (Ty (uh Hv) _).mono ?_;rintro e w' ⟨rfl,rfl⟩)
   go_ret
   exact ⟨rfl,rfl⟩
  ·rw [VS (x:=c) (lo:=0) (hi:=x-1) (by omega)]
   go_enter Tryz.func237,Tryz.ntmps237
   go_wp2_with (go_at_call 244;refine (Ty (uh Hv) _).mono ?_;rintro e w' ⟨rfl,rfl⟩)
   go_ret
   exact ⟨Z6 (b:=false) (by rw [decide_eq_false_iff_not];omega),rfl⟩
 ·rw [VS (x:=c) (lo:=0) (hi:=x-1) (by omega)]
  go_enter Tryz.func237,Tryz.ntmps237
  go_wp2_with fail
  go_ret
  exact ⟨rfl,rfl⟩
theorem ZE (n:Int) (w:World):Calls Tryz.prog 194 #[.int .i64 n] w fun e w'=>e= .returned (.bool (inB n (-1000000000000) 1000000000000))/\w'=w:=by
 go_enter Tryz.func194,Tryz.ntmps194
 go_wp2_with (go_at_call 130;refine (ZY _ _ _ _).mono ?_;rintro e w' ⟨rfl,rfl⟩)
 go_ret
 exact ⟨rfl,rfl⟩
theorem Za {c r:Int} {q:Bool} (h:inB c 0 (Zt r-1)=q) (w:World):Calls Tryz.prog 237 #[.int .i64 c,.int .i64 r] w fun e w'=>e= .returned (.bool q)/\w'=w:=by
 have:=LP c r w;rw [h] at this;exact this
theorem FB (x:Int):inB x 0 (0-1)=false:=by
 refine VS ?_
 rcases Int.lt_or_le x 0 with h | h
 ·exact .inl h
 ·exact .inr (by omega)
theorem FX (st be rk my gu lo hi hd ca ut wk:Int):Zh (st,be,rk,my,gu,lo,hi,hd,ca,ut,wk)=(inB st 1 3 && (inB be 0 7 && (inB my 1 255 && (inB gu (-1) 5 && (YJ lo hi && (inB hd (-1000000000000) 1000000000000 && (inB ca 0 (Zt rk-1) && (inB ut 0 1024 && (inB wk 0 100000000000))))))))):=by
 unfold Zh
 simp only
 cases hr:inB rk (-5) 5
 ·rw [WR hr,show inB ca 0 (0-1)=false from FB ca]
  simp
 ·simp only [Bool.true_and]
theorem SR (st be rk my gu lo hi hd ca ut wk:Int) (w:World):Calls Tryz.prog 221 #[.agg #[.int .i64 st,.int .i64 be,.int .i64 rk,.int .i64 my,.int .i64 gu,.int .i64 lo,.int .i64 hi,.int .i64 hd,.int .i64 ca,.int .i64 ut,.int .i64 wk]] w fun e w'=>e= .returned (.bool (Zh (st,be,rk,my,gu,lo,hi,hd,ca,ut,wk)))/\Below w.heap.size w w':=by
 rw [FX]
 obtain ⟨qc,hqc⟩:∃ q,inB ca 0 (Zt rk-1)=q:=⟨_,rfl⟩
 have Hc:=Z9 hqc
 rw [hqc]
 clear hqc
 cases h_st:inB st 1 3
 ·go_enter Tryz.func221,Tryz.ntmps221
  go_wp2_with (first | (go_at_call 130;refine (ZY _ _ _ _).mono ?_;rintro e w' ⟨rfl,rfl⟩) | (go_at_call 165;refine (ZG _ _).mono ?_;rintro e w' ⟨rfl,rfl⟩) | (go_at_call 153;refine (ZJ _ _ _).mono ?_;rintro e w' ⟨rfl,rfl⟩) | (go_at_call 194;refine (ZE _ _).mono ?_;rintro e w' ⟨rfl,rfl⟩) | (go_at_call 237;refine (Za (uh Hc) _).mono ?_;rintro e w' ⟨rfl,rfl⟩) | (go_at_call 238;refine (Zl _ _).mono ?_;rintro e w' ⟨rfl,rfl⟩))
  go_ret
  exact ⟨rfl,(Below.refl _ _).alloc (Nat.le_refl _) _⟩
 cases h_be:inB be 0 7
 ·go_enter Tryz.func221,Tryz.ntmps221
  go_wp2_with (first | (go_at_call 130;refine (ZY _ _ _ _).mono ?_;rintro e w' ⟨rfl,rfl⟩) | (go_at_call 165;refine (ZG _ _).mono ?_;rintro e w' ⟨rfl,rfl⟩) | (go_at_call 153;refine (ZJ _ _ _).mono ?_;rintro e w' ⟨rfl,rfl⟩) | (go_at_call 194;refine (ZE _ _).mono ?_;rintro e w' ⟨rfl,rfl⟩) | (go_at_call 237;refine (Za (uh Hc) _).mono ?_;rintro e w' ⟨rfl,rfl⟩) | (go_at_call 238;refine (Zl _ _).mono ?_;rintro e w' ⟨rfl,rfl⟩))
  go_ret
  exact ⟨rfl,(Below.refl _ _).alloc (Nat.le_refl _) _⟩
 cases h_my:inB my 1 255
 ·go_enter Tryz.func221,Tryz.ntmps221
  go_wp2_with (first | (go_at_call 130;refine (ZY _ _ _ _).mono ?_;rintro e w' ⟨rfl,rfl⟩) | (go_at_call 165;refine (ZG _ _).mono ?_;rintro e w' ⟨rfl,rfl⟩) | (go_at_call 153;refine (ZJ _ _ _).mono ?_;rintro e w' ⟨rfl,rfl⟩) | (go_at_call 194;refine (ZE _ _).mono ?_;rintro e w' ⟨rfl,rfl⟩) | (go_at_call 237;refine (Za (uh Hc) _).mono ?_;rintro e w' ⟨rfl,rfl⟩) | (go_at_call 238;refine (Zl _ _).mono ?_;rintro e w' ⟨rfl,rfl⟩))
  refine (WV _ _).mono ?_
  rintro e w1 ⟨rfl,hb⟩
  have c2:w1.cell? ⟨w.heap.size,2,none⟩=some (.int .i64 rk):=(hb.cell (p:=⟨w.heap.size,2,none⟩) (by simp)).trans (Z2 _ rfl)
  have c4:w1.cell? ⟨w.heap.size,4,none⟩=some (.int .i64 gu):=(hb.cell (p:=⟨w.heap.size,4,none⟩) (by simp)).trans (Z2 _ rfl)
  have c5:w1.cell? ⟨w.heap.size,5,none⟩=some (.int .i64 lo):=(hb.cell (p:=⟨w.heap.size,5,none⟩) (by simp)).trans (Z2 _ rfl)
  have c6:w1.cell? ⟨w.heap.size,6,none⟩=some (.int .i64 hi):=(hb.cell (p:=⟨w.heap.size,6,none⟩) (by simp)).trans (Z2 _ rfl)
  have c7:w1.cell? ⟨w.heap.size,7,none⟩=some (.int .i64 hd):=(hb.cell (p:=⟨w.heap.size,7,none⟩) (by simp)).trans (Z2 _ rfl)
  have c8:w1.cell? ⟨w.heap.size,8,none⟩=some (.int .i64 ca):=(hb.cell (p:=⟨w.heap.size,8,none⟩) (by simp)).trans (Z2 _ rfl)
  have c9:w1.cell? ⟨w.heap.size,9,none⟩=some (.int .i64 ut):=(hb.cell (p:=⟨w.heap.size,9,none⟩) (by simp)).trans (Z2 _ rfl)
  have c10:w1.cell? ⟨w.heap.size,10,none⟩=some (.int .i64 wk):=(hb.cell (p:=⟨w.heap.size,10,none⟩) (by simp)).trans (Z2 _ rfl)
  have Hb:=Z9 (((Below.refl w.heap.size w).alloc (Nat.le_refl _) _).trans (hb.mono (by simp)))
  clear hb
  go_wp2_with (first | (go_at_call 130;refine (ZY _ _ _ _).mono ?_;rintro e w' ⟨rfl,rfl⟩) | (go_at_call 165;refine (ZG _ _).mono ?_;rintro e w' ⟨rfl,rfl⟩) | (go_at_call 153;refine (ZJ _ _ _).mono ?_;rintro e w' ⟨rfl,rfl⟩) | (go_at_call 194;refine (ZE _ _).mono ?_;rintro e w' ⟨rfl,rfl⟩) | (go_at_call 237;refine (Za (uh Hc) _).mono ?_;rintro e w' ⟨rfl,rfl⟩) | (go_at_call 238;refine (Zl _ _).mono ?_;rintro e w' ⟨rfl,rfl⟩))
  go_ret
  exact ⟨rfl,uh Hb⟩
 cases h_gu:inB gu (-1) 5
 ·go_enter Tryz.func221,Tryz.ntmps221
  go_wp2_with (first | (go_at_call 130;refine (ZY _ _ _ _).mono ?_;rintro e w' ⟨rfl,rfl⟩) | (go_at_call 165;refine (ZG _ _).mono ?_;rintro e w' ⟨rfl,rfl⟩) | (go_at_call 153;refine (ZJ _ _ _).mono ?_;rintro e w' ⟨rfl,rfl⟩) | (go_at_call 194;refine (ZE _ _).mono ?_;rintro e w' ⟨rfl,rfl⟩) | (go_at_call 237;refine (Za (uh Hc) _).mono ?_;rintro e w' ⟨rfl,rfl⟩) | (go_at_call 238;refine (Zl _ _).mono ?_;rintro e w' ⟨rfl,rfl⟩))
  refine (WV _ _).mono ?_
  rintro e w1 ⟨rfl,hb⟩
  have c2:w1.cell? ⟨w.heap.size,2,none⟩=some (.int .i64 rk):=(hb.cell (p:=⟨w.heap.size,2,none⟩) (by simp)).trans (Z2 _ rfl)
  have c4:w1.cell? ⟨w.heap.size,4,none⟩=some (.int .i64 gu):=(hb.cell (p:=⟨w.heap.size,4,none⟩) (by simp)).trans (Z2 _ rfl)
  have c5:w1.cell? ⟨w.heap.size,5,none⟩=some (.int .i64 lo):=(hb.cell (p:=⟨w.heap.size,5,none⟩) (by simp)).trans (Z2 _ rfl)
  have c6:w1.cell? ⟨w.heap.size,6,none⟩=some (.int .i64 hi):=(hb.cell (p:=⟨w.heap.size,6,none⟩) (by simp)).trans (Z2 _ rfl)
  have c7:w1.cell? ⟨w.heap.size,7,none⟩=some (.int .i64 hd):=(hb.cell (p:=⟨w.heap.size,7,none⟩) (by simp)).trans (Z2 _ rfl)
  have c8:w1.cell? ⟨w.heap.size,8,none⟩=some (.int .i64 ca):=(hb.cell (p:=⟨w.heap.size,8,none⟩) (by simp)).trans (Z2 _ rfl)
  have c9:w1.cell? ⟨w.heap.size,9,none⟩=some (.int .i64 ut):=(hb.cell (p:=⟨w.heap.size,9,none⟩) (by simp)).trans (Z2 _ rfl)
  have c10:w1.cell? ⟨w.heap.size,10,none⟩=some (.int .i64 wk):=(hb.cell (p:=⟨w.heap.size,10,none⟩) (by simp)).trans (Z2 _ rfl)
  have Hb:=Z9 (((Below.refl w.heap.size w).alloc (Nat.le_refl _) _).trans (hb.mono (by simp)))
  clear hb
  go_wp2_with (first | (go_at_call 130;refine (ZY _ _ _ _).mono ?_;rintro e w' ⟨rfl,rfl⟩) | (go_at_call 165;refine (ZG _ _).mono ?_;rintro e w' ⟨rfl,rfl⟩) | (go_at_call 153;refine (ZJ _ _ _).mono ?_;rintro e w' ⟨rfl,rfl⟩) | (go_at_call 194;refine (ZE _ _).mono ?_;rintro e w' ⟨rfl,rfl⟩) | (go_at_call 237;refine (Za (uh Hc) _).mono ?_;rintro e w' ⟨rfl,rfl⟩) | (go_at_call 238;refine (Zl _ _).mono ?_;rintro e w' ⟨rfl,rfl⟩))
  go_ret
  exact ⟨rfl,uh Hb⟩
 cases h_pr:YJ lo hi
 ·go_enter Tryz.func221,Tryz.ntmps221
  go_wp2_with (first | (go_at_call 130;refine (ZY _ _ _ _).mono ?_;rintro e w' ⟨rfl,rfl⟩) | (go_at_call 165;refine (ZG _ _).mono ?_;rintro e w' ⟨rfl,rfl⟩) | (go_at_call 153;refine (ZJ _ _ _).mono ?_;rintro e w' ⟨rfl,rfl⟩) | (go_at_call 194;refine (ZE _ _).mono ?_;rintro e w' ⟨rfl,rfl⟩) | (go_at_call 237;refine (Za (uh Hc) _).mono ?_;rintro e w' ⟨rfl,rfl⟩) | (go_at_call 238;refine (Zl _ _).mono ?_;rintro e w' ⟨rfl,rfl⟩))
  refine (WV _ _).mono ?_
  rintro e w1 ⟨rfl,hb⟩
  have c2:w1.cell? ⟨w.heap.size,2,none⟩=some (.int .i64 rk):=(hb.cell (p:=⟨w.heap.size,2,none⟩) (by simp)).trans (Z2 _ rfl)
  have c4:w1.cell? ⟨w.heap.size,4,none⟩=some (.int .i64 gu):=(hb.cell (p:=⟨w.heap.size,4,none⟩) (by simp)).trans (Z2 _ rfl)
  have c5:w1.cell? ⟨w.heap.size,5,none⟩=some (.int .i64 lo):=(hb.cell (p:=⟨w.heap.size,5,none⟩) (by simp)).trans (Z2 _ rfl)
  have c6:w1.cell? ⟨w.heap.size,6,none⟩=some (.int .i64 hi):=(hb.cell (p:=⟨w.heap.size,6,none⟩) (by simp)).trans (Z2 _ rfl)
  have c7:w1.cell? ⟨w.heap.size,7,none⟩=some (.int .i64 hd):=(hb.cell (p:=⟨w.heap.size,7,none⟩) (by simp)).trans (Z2 _ rfl)
  have c8:w1.cell? ⟨w.heap.size,8,none⟩=some (.int .i64 ca):=(hb.cell (p:=⟨w.heap.size,8,none⟩) (by simp)).trans (Z2 _ rfl)
  have c9:w1.cell? ⟨w.heap.size,9,none⟩=some (.int .i64 ut):=(hb.cell (p:=⟨w.heap.size,9,none⟩) (by simp)).trans (Z2 _ rfl)
  have c10:w1.cell? ⟨w.heap.size,10,none⟩=some (.int .i64 wk):=(hb.cell (p:=⟨w.heap.size,10,none⟩) (by simp)).trans (Z2 _ rfl)
  have Hb:=Z9 (((Below.refl w.heap.size w).alloc (Nat.le_refl _) _).trans (hb.mono (by simp)))
  clear hb
  go_wp2_with (first | (go_at_call 130;refine (ZY _ _ _ _).mono ?_;rintro e w' ⟨rfl,rfl⟩) | (go_at_call 165;refine (ZG _ _).mono ?_;rintro e w' ⟨rfl,rfl⟩) | (go_at_call 153;refine (ZJ _ _ _).mono ?_;rintro e w' ⟨rfl,rfl⟩) | (go_at_call 194;refine (ZE _ _).mono ?_;rintro e w' ⟨rfl,rfl⟩) | (go_at_call 237;refine (Za (uh Hc) _).mono ?_;rintro e w' ⟨rfl,rfl⟩) | (go_at_call 238;refine (Zl _ _).mono ?_;rintro e w' ⟨rfl,rfl⟩))
  go_ret
  exact ⟨rfl,uh Hb⟩
 cases h_hd:inB hd (-1000000000000) 1000000000000
 ·go_enter Tryz.func221,Tryz.ntmps221
  go_wp2_with (first | (go_at_call 130;refine (ZY _ _ _ _).mono ?_;rintro e w' ⟨rfl,rfl⟩) | (go_at_call 165;refine (ZG _ _).mono ?_;rintro e w' ⟨rfl,rfl⟩) | (go_at_call 153;refine (ZJ _ _ _).mono ?_;rintro e w' ⟨rfl,rfl⟩) | (go_at_call 194;refine (ZE _ _).mono ?_;rintro e w' ⟨rfl,rfl⟩) | (go_at_call 237;refine (Za (uh Hc) _).mono ?_;rintro e w' ⟨rfl,rfl⟩) | (go_at_call 238;refine (Zl _ _).mono ?_;rintro e w' ⟨rfl,rfl⟩))
  refine (WV _ _).mono ?_
  rintro e w1 ⟨rfl,hb⟩
  have c2:w1.cell? ⟨w.heap.size,2,none⟩=some (.int .i64 rk):=(hb.cell (p:=⟨w.heap.size,2,none⟩) (by simp)).trans (Z2 _ rfl)
  have c4:w1.cell? ⟨w.heap.size,4,none⟩=some (.int .i64 gu):=(hb.cell (p:=⟨w.heap.size,4,none⟩) (by simp)).trans (Z2 _ rfl)
  have c5:w1.cell? ⟨w.heap.size,5,none⟩=some (.int .i64 lo):=(hb.cell (p:=⟨w.heap.size,5,none⟩) (by simp)).trans (Z2 _ rfl)
  have c6:w1.cell? ⟨w.heap.size,6,none⟩=some (.int .i64 hi):=(hb.cell (p:=⟨w.heap.size,6,none⟩) (by simp)).trans (Z2 _ rfl)
  have c7:w1.cell? ⟨w.heap.size,7,none⟩=some (.int .i64 hd):=(hb.cell (p:=⟨w.heap.size,7,none⟩) (by simp)).trans (Z2 _ rfl)
  have c8:w1.cell? ⟨w.heap.size,8,none⟩=some (.int .i64 ca):=(hb.cell (p:=⟨w.heap.size,8,none⟩) (by simp)).trans (Z2 _ rfl)
  have c9:w1.cell? ⟨w.heap.size,9,none⟩=some (.int .i64 ut):=(hb.cell (p:=⟨w.heap.size,9,none⟩) (by simp)).trans (Z2 _ rfl)
  have c10:w1.cell? ⟨w.heap.size,10,none⟩=some (.int .i64 wk):=(hb.cell (p:=⟨w.heap.size,10,none⟩) (by simp)).trans (Z2 _ rfl)
  have Hb:=Z9 (((Below.refl w.heap.size w).alloc (Nat.le_refl _) _).trans (hb.mono (by simp)))
  clear hb
  go_wp2_with (first | (go_at_call 130;refine (ZY _ _ _ _).mono ?_;rintro e w' ⟨rfl,rfl⟩) | (go_at_call 165;refine (ZG _ _).mono ?_;rintro e w' ⟨rfl,rfl⟩) | (go_at_call 153;refine (ZJ _ _ _).mono ?_;rintro e w' ⟨rfl,rfl⟩) | (go_at_call 194;refine (ZE _ _).mono ?_;rintro e w' ⟨rfl,rfl⟩) | (go_at_call 237;refine (Za (uh Hc) _).mono ?_;rintro e w' ⟨rfl,rfl⟩) | (go_at_call 238;refine (Zl _ _).mono ?_;rintro e w' ⟨rfl,rfl⟩))
  go_ret
  exact ⟨rfl,uh Hb⟩
 cases qc
 ·go_enter Tryz.func221,Tryz.ntmps221
  go_wp2_with (first | (go_at_call 130;refine (ZY _ _ _ _).mono ?_;rintro e w' ⟨rfl,rfl⟩) | (go_at_call 165;refine (ZG _ _).mono ?_;rintro e w' ⟨rfl,rfl⟩) | (go_at_call 153;refine (ZJ _ _ _).mono ?_;rintro e w' ⟨rfl,rfl⟩) | (go_at_call 194;refine (ZE _ _).mono ?_;rintro e w' ⟨rfl,rfl⟩) | (go_at_call 237;refine (Za (uh Hc) _).mono ?_;rintro e w' ⟨rfl,rfl⟩) | (go_at_call 238;refine (Zl _ _).mono ?_;rintro e w' ⟨rfl,rfl⟩))
  refine (WV _ _).mono ?_
  rintro e w1 ⟨rfl,hb⟩
  have c2:w1.cell? ⟨w.heap.size,2,none⟩=some (.int .i64 rk):=(hb.cell (p:=⟨w.heap.size,2,none⟩) (by simp)).trans (Z2 _ rfl)
  have c4:w1.cell? ⟨w.heap.size,4,none⟩=some (.int .i64 gu):=(hb.cell (p:=⟨w.heap.size,4,none⟩) (by simp)).trans (Z2 _ rfl)
  have c5:w1.cell? ⟨w.heap.size,5,none⟩=some (.int .i64 lo):=(hb.cell (p:=⟨w.heap.size,5,none⟩) (by simp)).trans (Z2 _ rfl)
  have c6:w1.cell? ⟨w.heap.size,6,none⟩=some (.int .i64 hi):=(hb.cell (p:=⟨w.heap.size,6,none⟩) (by simp)).trans (Z2 _ rfl)
  have c7:w1.cell? ⟨w.heap.size,7,none⟩=some (.int .i64 hd):=(hb.cell (p:=⟨w.heap.size,7,none⟩) (by simp)).trans (Z2 _ rfl)
  have c8:w1.cell? ⟨w.heap.size,8,none⟩=some (.int .i64 ca):=(hb.cell (p:=⟨w.heap.size,8,none⟩) (by simp)).trans (Z2 _ rfl)
  have c9:w1.cell? ⟨w.heap.size,9,none⟩=some (.int .i64 ut):=(hb.cell (p:=⟨w.heap.size,9,none⟩) (by simp)).trans (Z2 _ rfl)
  have c10:w1.cell? ⟨w.heap.size,10,none⟩=some (.int .i64 wk):=(hb.cell (p:=⟨w.heap.size,10,none⟩) (by simp)).trans (Z2 _ rfl)
  have Hb:=Z9 (((Below.refl w.heap.size w).alloc (Nat.le_refl _) _).trans (hb.mono (by simp)))
  clear hb
  go_wp2_with (first | (go_at_call 130;refine (ZY _ _ _ _).mono ?_;rintro e w' ⟨rfl,rfl⟩) | (go_at_call 165;refine (ZG _ _).mono ?_;rintro e w' ⟨rfl,rfl⟩) | (go_at_call 153;refine (ZJ _ _ _).mono ?_;rintro e w' ⟨rfl,rfl⟩) | (go_at_call 194;refine (ZE _ _).mono ?_;rintro e w' ⟨rfl,rfl⟩) | (go_at_call 237;refine (Za (uh Hc) _).mono ?_;rintro e w' ⟨rfl,rfl⟩) | (go_at_call 238;refine (Zl _ _).mono ?_;rintro e w' ⟨rfl,rfl⟩))
  go_ret
  exact ⟨rfl,uh Hb⟩
 cases h_ut:inB ut 0 1024
 ·go_enter Tryz.func221,Tryz.ntmps221
  go_wp2_with (first | (go_at_call 130;refine (ZY _ _ _ _).mono ?_;rintro e w' ⟨rfl,rfl⟩) | (go_at_call 165;refine (ZG _ _).mono ?_;rintro e w' ⟨rfl,rfl⟩) | (go_at_call 153;refine (ZJ _ _ _).mono ?_;rintro e w' ⟨rfl,rfl⟩) | (go_at_call 194;refine (ZE _ _).mono ?_;rintro e w' ⟨rfl,rfl⟩) | (go_at_call 237;refine (Za (uh Hc) _).mono ?_;rintro e w' ⟨rfl,rfl⟩) | (go_at_call 238;refine (Zl _ _).mono ?_;rintro e w' ⟨rfl,rfl⟩))
  refine (WV _ _).mono ?_
  rintro e w1 ⟨rfl,hb⟩
  have c2:w1.cell? ⟨w.heap.size,2,none⟩=some (.int .i64 rk):=(hb.cell (p:=⟨w.heap.size,2,none⟩) (by simp)).trans (Z2 _ rfl)
  have c4:w1.cell? ⟨w.heap.size,4,none⟩=some (.int .i64 gu):=(hb.cell (p:=⟨w.heap.size,4,none⟩) (by simp)).trans (Z2 _ rfl)
  have c5:w1.cell? ⟨w.heap.size,5,none⟩=some (.int .i64 lo):=(hb.cell (p:=⟨w.heap.size,5,none⟩) (by simp)).trans (Z2 _ rfl)
  have c6:w1.cell? ⟨w.heap.size,6,none⟩=some (.int .i64 hi):=(hb.cell (p:=⟨w.heap.size,6,none⟩) (by simp)).trans (Z2 _ rfl)
  have c7:w1.cell? ⟨w.heap.size,7,none⟩=some (.int .i64 hd):=(hb.cell (p:=⟨w.heap.size,7,none⟩) (by simp)).trans (Z2 _ rfl)
  have c8:w1.cell? ⟨w.heap.size,8,none⟩=some (.int .i64 ca):=(hb.cell (p:=⟨w.heap.size,8,none⟩) (by simp)).trans (Z2 _ rfl)
  have c9:w1.cell? ⟨w.heap.size,9,none⟩=some (.int .i64 ut):=(hb.cell (p:=⟨w.heap.size,9,none⟩) (by simp)).trans (Z2 _ rfl)
  have c10:w1.cell? ⟨w.heap.size,10,none⟩=some (.int .i64 wk):=(hb.cell (p:=⟨w.heap.size,10,none⟩) (by simp)).trans (Z2 _ rfl)
  have Hb:=Z9 (((Below.refl w.heap.size w).alloc (Nat.le_refl _) _).trans (hb.mono (by simp)))
  clear hb
  go_wp2_with (first | (go_at_call 130;refine (ZY _ _ _ _).mono ?_;rintro e w' ⟨rfl,rfl⟩) | (go_at_call 165;refine (ZG _ _).mono ?_;rintro e w' ⟨rfl,rfl⟩) | (go_at_call 153;refine (ZJ _ _ _).mono ?_;rintro e w' ⟨rfl,rfl⟩) | (go_at_call 194;refine (ZE _ _).mono ?_;rintro e w' ⟨rfl,rfl⟩) | (go_at_call 237;refine (Za (uh Hc) _).mono ?_;rintro e w' ⟨rfl,rfl⟩) | (go_at_call 238;refine (Zl _ _).mono ?_;rintro e w' ⟨rfl,rfl⟩))
  go_ret
  exact ⟨rfl,uh Hb⟩
 cases h_wk:inB wk 0 100000000000
 ·go_enter Tryz.func221,Tryz.ntmps221
  go_wp2_with (first | (go_at_call 130;refine (ZY _ _ _ _).mono ?_;rintro e w' ⟨rfl,rfl⟩) | (go_at_call 165;refine (ZG _ _).mono ?_;rintro e w' ⟨rfl,rfl⟩) | (go_at_call 153;refine (ZJ _ _ _).mono ?_;rintro e w' ⟨rfl,rfl⟩) | (go_at_call 194;refine (ZE _ _).mono ?_;rintro e w' ⟨rfl,rfl⟩) | (go_at_call 237;refine (Za (uh Hc) _).mono ?_;rintro e w' ⟨rfl,rfl⟩) | (go_at_call 238;refine (Zl _ _).mono ?_;rintro e w' ⟨rfl,rfl⟩))
  refine (WV _ _).mono ?_
  rintro e w1 ⟨rfl,hb⟩
  have c2:w1.cell? ⟨w.heap.size,2,none⟩=some (.int .i64 rk):=(hb.cell (p:=⟨w.heap.size,2,none⟩) (by simp)).trans (Z2 _ rfl)
  have c4:w1.cell? ⟨w.heap.size,4,none⟩=some (.int .i64 gu):=(hb.cell (p:=⟨w.heap.size,4,none⟩) (by simp)).trans (Z2 _ rfl)
  have c5:w1.cell? ⟨w.heap.size,5,none⟩=some (.int .i64 lo):=(hb.cell (p:=⟨w.heap.size,5,none⟩) (by simp)).trans (Z2 _ rfl)
  have c6:w1.cell? ⟨w.heap.size,6,none⟩=some (.int .i64 hi):=(hb.cell (p:=⟨w.heap.size,6,none⟩) (by simp)).trans (Z2 _ rfl)
  have c7:w1.cell? ⟨w.heap.size,7,none⟩=some (.int .i64 hd):=(hb.cell (p:=⟨w.heap.size,7,none⟩) (by simp)).trans (Z2 _ rfl)
  have c8:w1.cell? ⟨w.heap.size,8,none⟩=some (.int .i64 ca):=(hb.cell (p:=⟨w.heap.size,8,none⟩) (by simp)).trans (Z2 _ rfl)
  have c9:w1.cell? ⟨w.heap.size,9,none⟩=some (.int .i64 ut):=(hb.cell (p:=⟨w.heap.size,9,none⟩) (by simp)).trans (Z2 _ rfl)
  have c10:w1.cell? ⟨w.heap.size,10,none⟩=some (.int .i64 wk):=(hb.cell (p:=⟨w.heap.size,10,none⟩) (by simp)).trans (Z2 _ rfl)
  have Hb:=Z9 (((Below.refl w.heap.size w).alloc (Nat.le_refl _) _).trans (hb.mono (by simp)))
  clear hb
  go_wp2_with (first | (go_at_call 130;refine (ZY _ _ _ _).mono ?_;rintro e w' ⟨rfl,rfl⟩) | (go_at_call 165;refine (ZG _ _).mono ?_;rintro e w' ⟨rfl,rfl⟩) | (go_at_call 153;refine (ZJ _ _ _).mono ?_;rintro e w' ⟨rfl,rfl⟩) | (go_at_call 194;refine (ZE _ _).mono ?_;rintro e w' ⟨rfl,rfl⟩) | (go_at_call 237;refine (Za (uh Hc) _).mono ?_;rintro e w' ⟨rfl,rfl⟩) | (go_at_call 238;refine (Zl _ _).mono ?_;rintro e w' ⟨rfl,rfl⟩))
  go_ret
  exact ⟨rfl,uh Hb⟩
 go_enter Tryz.func221,Tryz.ntmps221
 go_wp2_with (first | (go_at_call 130;refine (ZY _ _ _ _).mono ?_;rintro e w' ⟨rfl,rfl⟩) | (go_at_call 165;refine (ZG _ _).mono ?_;rintro e w' ⟨rfl,rfl⟩) | (go_at_call 153;refine (ZJ _ _ _).mono ?_;rintro e w' ⟨rfl,rfl⟩) | (go_at_call 194;refine (ZE _ _).mono ?_;rintro e w' ⟨rfl,rfl⟩) | (go_at_call 237;refine (Za (uh Hc) _).mono ?_;rintro e w' ⟨rfl,rfl⟩) | (go_at_call 238;refine (Zl _ _).mono ?_;rintro e w' ⟨rfl,rfl⟩))
 refine (WV _ _).mono ?_
 rintro e w1 ⟨rfl,hb⟩
 have c2:w1.cell? ⟨w.heap.size,2,none⟩=some (.int .i64 rk):=(hb.cell (p:=⟨w.heap.size,2,none⟩) (by simp)).trans (Z2 _ rfl)
 have c4:w1.cell? ⟨w.heap.size,4,none⟩=some (.int .i64 gu):=(hb.cell (p:=⟨w.heap.size,4,none⟩) (by simp)).trans (Z2 _ rfl)
 have c5:w1.cell? ⟨w.heap.size,5,none⟩=some (.int .i64 lo):=(hb.cell (p:=⟨w.heap.size,5,none⟩) (by simp)).trans (Z2 _ rfl)
 have c6:w1.cell? ⟨w.heap.size,6,none⟩=some (.int .i64 hi):=(hb.cell (p:=⟨w.heap.size,6,none⟩) (by simp)).trans (Z2 _ rfl)
 have c7:w1.cell? ⟨w.heap.size,7,none⟩=some (.int .i64 hd):=(hb.cell (p:=⟨w.heap.size,7,none⟩) (by simp)).trans (Z2 _ rfl)
 have c8:w1.cell? ⟨w.heap.size,8,none⟩=some (.int .i64 ca):=(hb.cell (p:=⟨w.heap.size,8,none⟩) (by simp)).trans (Z2 _ rfl)
 have c9:w1.cell? ⟨w.heap.size,9,none⟩=some (.int .i64 ut):=(hb.cell (p:=⟨w.heap.size,9,none⟩) (by simp)).trans (Z2 _ rfl)
 have c10:w1.cell? ⟨w.heap.size,10,none⟩=some (.int .i64 wk):=(hb.cell (p:=⟨w.heap.size,10,none⟩) (by simp)).trans (Z2 _ rfl)
 have Hb:=Z9 (((Below.refl w.heap.size w).alloc (Nat.le_refl _) _).trans (hb.mono (by simp)))
 clear hb
 go_wp2_with (first | (go_at_call 130;refine (ZY _ _ _ _).mono ?_;rintro e w' ⟨rfl,rfl⟩) | (go_at_call 165;refine (ZG _ _).mono ?_;rintro e w' ⟨rfl,rfl⟩) | (go_at_call 153;refine (ZJ _ _ _).mono ?_;rintro e w' ⟨rfl,rfl⟩) | (go_at_call 194;refine (ZE _ _).mono ?_;rintro e w' ⟨rfl,rfl⟩) | (go_at_call 237;refine (Za (uh Hc) _).mono ?_;rintro e w' ⟨rfl,rfl⟩) | (go_at_call 238;refine (Zl _ _).mono ?_;rintro e w' ⟨rfl,rfl⟩))
 go_ret
 exact ⟨rfl,uh Hb⟩
attribute [local go_sem ↓] On Oo
theorem NG (w:World):Calls Tryz.prog 199 #[.agg #[.int .i64 0,.int .i64 0,.int .i64 0,.int .i64 0,.int .i64 0,.int .i64 0,.int .i64 0,.int .i64 0,.int .i64 0,.int .i64 0,.int .i64 0]] w fun e w'=>e= .returned (.iface 230 (.agg #[]))/\Below w.heap.size w w':=by
 have hz:US (0,0,0,0,0,0,0,0,0,0,0) (0,0,0,0,0,0,0,0,0,0,0)=true:=rfl
 go_enter Tryz.func199,Tryz.ntmps199
 go_wp2_with fail
 go_ret
 exact ⟨rfl,(Below.refl _ _).alloc (Nat.le_refl _) _⟩
theorem NH {st be rk my gu lo hi hd ca ut wk:Int} (hg:V5 (st,be,rk,my,gu,lo,hi,hd,ca,ut,wk)=false) (hp:Zh (st,be,rk,my,gu,lo,hi,hd,ca,ut,wk)=true) (w:World):Calls Tryz.prog 199 #[.agg #[.int .i64 st,.int .i64 be,.int .i64 rk,.int .i64 my,.int .i64 gu,.int .i64 lo,.int .i64 hi,.int .i64 hd,.int .i64 ca,.int .i64 ut,.int .i64 wk]] w fun e w'=>e= .returned (.iface 232 (.agg #[.int .i64 st,.int .i64 be,.int .i64 rk,.int .i64 my,.int .i64 gu,.int .i64 lo,.int .i64 hi,.int .i64 hd,.int .i64 ca,.int .i64 ut,.int .i64 wk]))/\Below w.heap.size w w':=by
 have hz:US (st,be,rk,my,gu,lo,hi,hd,ca,ut,wk) (0,0,0,0,0,0,0,0,0,0,0)=false:=hg
 have Hp:=Z9 hp
 clear hg hp
 go_enter Tryz.func199,Tryz.ntmps199
 go_wp2_with fail
 refine (SR st be rk my gu lo hi hd ca ut wk _).mono ?_
 rw [uh Hp]
 rintro e w1 ⟨rfl,hb⟩
 have c0:w1.cell? ⟨w.heap.size,0,none⟩=some (.int .i64 st):=(hb.cell (p:=⟨w.heap.size,0,none⟩) (by simp)).trans (Z2 _ rfl)
 have c1:w1.cell? ⟨w.heap.size,1,none⟩=some (.int .i64 be):=(hb.cell (p:=⟨w.heap.size,1,none⟩) (by simp)).trans (Z2 _ rfl)
 have c2:w1.cell? ⟨w.heap.size,2,none⟩=some (.int .i64 rk):=(hb.cell (p:=⟨w.heap.size,2,none⟩) (by simp)).trans (Z2 _ rfl)
 have c3:w1.cell? ⟨w.heap.size,3,none⟩=some (.int .i64 my):=(hb.cell (p:=⟨w.heap.size,3,none⟩) (by simp)).trans (Z2 _ rfl)
 have c4:w1.cell? ⟨w.heap.size,4,none⟩=some (.int .i64 gu):=(hb.cell (p:=⟨w.heap.size,4,none⟩) (by simp)).trans (Z2 _ rfl)
 have c5:w1.cell? ⟨w.heap.size,5,none⟩=some (.int .i64 lo):=(hb.cell (p:=⟨w.heap.size,5,none⟩) (by simp)).trans (Z2 _ rfl)
 have c6:w1.cell? ⟨w.heap.size,6,none⟩=some (.int .i64 hi):=(hb.cell (p:=⟨w.heap.size,6,none⟩) (by simp)).trans (Z2 _ rfl)
 have c7:w1.cell? ⟨w.heap.size,7,none⟩=some (.int .i64 hd):=(hb.cell (p:=⟨w.heap.size,7,none⟩) (by simp)).trans (Z2 _ rfl)
 have c8:w1.cell? ⟨w.heap.size,8,none⟩=some (.int .i64 ca):=(hb.cell (p:=⟨w.heap.size,8,none⟩) (by simp)).trans (Z2 _ rfl)
 have c9:w1.cell? ⟨w.heap.size,9,none⟩=some (.int .i64 ut):=(hb.cell (p:=⟨w.heap.size,9,none⟩) (by simp)).trans (Z2 _ rfl)
 have c10:w1.cell? ⟨w.heap.size,10,none⟩=some (.int .i64 wk):=(hb.cell (p:=⟨w.heap.size,10,none⟩) (by simp)).trans (Z2 _ rfl)
 have Hb:=Z9 (((Below.refl w.heap.size w).alloc (Nat.le_refl _) _).trans (hb.mono (by simp)))
 clear hb
 go_wp2_with fail
 go_ret
 exact ⟨rfl,uh Hb⟩
theorem OS {st be rk my gu lo hi hd ca ut wk:Int} (hg:V5 (st,be,rk,my,gu,lo,hi,hd,ca,ut,wk)=false) (hp:Zh (st,be,rk,my,gu,lo,hi,hd,ca,ut,wk)=false) (w:World):Calls Tryz.prog 199 #[.agg #[.int .i64 st,.int .i64 be,.int .i64 rk,.int .i64 my,.int .i64 gu,.int .i64 lo,.int .i64 hi,.int .i64 hd,.int .i64 ca,.int .i64 ut,.int .i64 wk]] w fun e w'=>e= .returned (.iface 233 (.agg #[]))/\Below w.heap.size w w':=by
 have hz:US (st,be,rk,my,gu,lo,hi,hd,ca,ut,wk) (0,0,0,0,0,0,0,0,0,0,0)=false:=hg
 have Hp:=Z9 hp
 clear hg hp
 go_enter Tryz.func199,Tryz.ntmps199
 go_wp2_with fail
 refine (SR st be rk my gu lo hi hd ca ut wk _).mono ?_
 rw [uh Hp]
 rintro e w1 ⟨rfl,hb⟩
 have Hb:=Z9 (((Below.refl w.heap.size w).alloc (Nat.le_refl _) _).trans (hb.mono (by simp)))
 clear hb
 go_wp2_with fail
 go_ret
 exact ⟨rfl,uh Hb⟩
theorem Es (w : World) : (method 370 230 (.agg #[]) "loop.example/g00553/impl.isSmith").run Tryz.prog w = .ok (282, .agg #[]) w := by kernel_rfl
theorem EW (w : World) : (method 370 233 (.agg #[]) "loop.example/g00553/impl.isSmith").run Tryz.prog w = .ok (284, .agg #[]) w := by kernel_rfl
theorem Et (st be rk my gu lo hi hd ca ut wk : Int) (w : World) : (method 370 232 (.agg #[.int .i64 st, .int .i64 be, .int .i64 rk, .int .i64 my, .int .i64 gu, .int .i64 lo, .int .i64 hi, .int .i64 hd, .int .i64 ca, .int .i64 ut, .int .i64 wk]) "loop.example/g00553/impl.isSmith").run Tryz.prog w = .ok (283, .agg #[.int .i64 st, .int .i64 be, .int .i64 rk, .int .i64 my, .int .i64 gu, .int .i64 lo, .int .i64 hi, .int .i64 hd, .int .i64 ca, .int .i64 ut, .int .i64 wk]) w := by kernel_rfl
theorem JE (w:World):Calls Tryz.prog 282 #[.agg #[]] w fun e w'=>e= .returned (.bool true)/\Below w.heap.size w w':=by
 go_enter Tryz.func282,Tryz.ntmps282
 go_wp2_with fail
 go_ret
 exact ⟨rfl,(Below.refl _ _).alloc (Nat.le_refl _) _⟩
theorem MY (w:World):Calls Tryz.prog 284 #[.agg #[]] w fun e w'=>e= .returned (.bool false)/\Below w.heap.size w w':=by
 go_enter Tryz.func284,Tryz.ntmps284
 go_wp2_with fail
 go_ret
 exact ⟨rfl,(Below.refl _ _).alloc (Nat.le_refl _) _⟩
theorem Ki (st be rk my gu lo hi hd ca ut wk:Int) (w:World):Calls Tryz.prog 283 #[.agg #[.int .i64 st,.int .i64 be,.int .i64 rk,.int .i64 my,.int .i64 gu,.int .i64 lo,.int .i64 hi,.int .i64 hd,.int .i64 ca,.int .i64 ut,.int .i64 wk]] w fun e w'=>e= .returned (.bool true)/\Below w.heap.size w w':=by
 go_enter Tryz.func283,Tryz.ntmps283
 go_wp2_with fail
 go_ret
 exact ⟨rfl,(Below.refl _ _).alloc (Nat.le_refl _) _⟩
attribute [local go_sem] Es EW Et
theorem Qv (st be rk my gu lo hi hd ca ut wk:Int) (w:World):Calls Tryz.prog 157 #[.agg #[.int .i64 st,.int .i64 be,.int .i64 rk,.int .i64 my,.int .i64 gu,.int .i64 lo,.int .i64 hi,.int .i64 hd,.int .i64 ca,.int .i64 ut,.int .i64 wk]] w fun e w'=>e= .returned (.bool (ZH (st,be,rk,my,gu,lo,hi,hd,ca,ut,wk)))/\Below w.heap.size w w':=by
 unfold ZH
 cases hg:V5 (st,be,rk,my,gu,lo,hi,hd,ca,ut,wk)
 ·cases hp:Zh (st,be,rk,my,gu,lo,hi,hd,ca,ut,wk)
  ·rw [show (false || false)=false from rfl]
   have Hg:=Z9 hg
   have Hp:=Z9 hp
   clear hg hp
   go_enter Tryz.func157,Tryz.ntmps157
   go_wp2_with fail
   refine (OS (uh Hg) (uh Hp) _).mono ?_
   rintro e w1 ⟨rfl,hb⟩
   have B1:=Z9 (((Below.refl w.heap.size w).alloc (Nat.le_refl _) _).trans (hb.mono (by simp)))
   clear hb
   go_wp2_with fail
   refine (MY _).mono ?_
   rintro e w2 ⟨rfl,hb⟩
   have B2:=Z9 ((uh B1).trans (hb.mono (uh B1).size))
   clear hb
   go_wp2_with fail
   go_ret
   exact ⟨rfl,uh B2⟩
  ·rw [show (false || true)=true from rfl]
   have Hg:=Z9 hg
   have Hp:=Z9 hp
   clear hg hp
   go_enter Tryz.func157,Tryz.ntmps157
   go_wp2_with fail
   refine (NH (uh Hg) (uh Hp) _).mono ?_
   rintro e w1 ⟨rfl,hb⟩
   have B1:=Z9 (((Below.refl w.heap.size w).alloc (Nat.le_refl _) _).trans (hb.mono (by simp)))
   clear hb
   go_wp2_with fail
   refine (Ki _ _ _ _ _ _ _ _ _ _ _ _).mono ?_
   rintro e w2 ⟨rfl,hb⟩
   have B2:=Z9 ((uh B1).trans (hb.mono (uh B1).size))
   clear hb
   go_wp2_with fail
   go_ret
   exact ⟨rfl,uh B2⟩
 ·rw [Bool.true_or]
  cases V6 hg
  clear hg
  go_enter Tryz.func157,Tryz.ntmps157
  go_wp2_with fail
  refine (NG _).mono ?_
  rintro e w1 ⟨rfl,hb⟩
  have B1:=Z9 (((Below.refl w.heap.size w).alloc (Nat.le_refl _) _).trans (hb.mono (by simp)))
  clear hb
  go_wp2_with fail
  refine (JE _).mono ?_
  rintro e w2 ⟨rfl,hb⟩
  have B2:=Z9 ((uh B1).trans (hb.mono (uh B1).size))
  clear hb
  go_wp2_with fail
  go_ret
  exact ⟨rfl,uh B2⟩
end Go.Proofs.YthbbahagpmdooaaGreat
