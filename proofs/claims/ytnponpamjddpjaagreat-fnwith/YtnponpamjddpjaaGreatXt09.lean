/- Part 9 of what the proof rests on. No condition but those that a theorem names. -/
import Derived.Test.YtnponpamjddpjaaGreatXt08
import Derived.RangeFuncNested
import Derived.RangeFuncBound
import Derived.RangeFuncCalls
import Derived.RangeFuncLeaves
import Derived.RangeFuncBox
import Derived.Shelf.Abstract
import Derived.Shelf.RegionOpen
import Derived.OwnWalkIn
import Derived.TacticsInMore
import Derived.LoopNIn
import Derived.LoopIn
set_option maxHeartbeats 8000000
set_option maxRecDepth 100000
namespace Go.Proofs.YtnponpamjddpjaaGreat
open Go.ChangeShapes Go.WideShapes Go.ChangeAt Go.RowKit Go.Shelf
set_option linter.unusedVariables false
attribute [local go_sem] Oper.semAt_some
def KeepsBox (Bn:Nat) (t:TypeId) (W W':World):Prop:= ∀ v,Boxed W Bn t v->Boxed W' Bn t v
theorem KeepsBox.trans {Bn:Nat} {t:TypeId} {A B C:World} (h:KeepsBox Bn t A B) (k:KeepsBox Bn t B C):KeepsBox Bn t A C:=fun v hv=>k v (h v hv)
theorem KeepsBox.putObj {Bn:Nat} {t:TypeId} {n:Nat} (h:Bn<n) (W:World) (l:Nat) (o o':Obj) (hl:n<=l) (_:W.heap[l]?=some o) (_:o.isCells=false) (_:o.isWalk=false):KeepsBox Bn t W (W.putObj l o'):=
 fun v hv=>hv.kept (grownBy_putObj' W l o') (fun e=>by cases e;omega)
theorem LZ (n:Nat) (hn:1<=n) (l Bn:Nat) (s:Int) (J Jx:List Int->World->Prop)
  (hY:∀ pre x W,J pre W->pre.length<8->YieldAt Fence.wide (n-1) Tryz.prog l #[.int .i64 x] W fun e W'=>
   (e= .returned (.bool true)/\J (pre++[x]) W'/\KeepsBox Bn 2 W W')\/(e= .returned (.bool false)/\Jx (pre++[x]) W'))
  (W:World) (hBn:Boxed W Bn 2 (.int .i64 s)) (h0:J [] W) :
  CallsIn Fence.wide n Tryz.prog 212 #[.func (.yield l) #[] #[],.pointer (some ⟨Bn,0,none⟩)] W fun e W'=>(∃ v,e= .returned v)/\
   ((∃ ys,ys=L5 s/\J ys W')\/(∃ pre,pre <+: L5 s/\Jx pre W')):=by
 refine callsIn_of_wp Tryz.func212 rfl trivial ?_ rfl
 simp only [Tryz.ntmps212,List.size_toArray,List.length_cons,List.length_nil,Nat.reduceAdd,Nat.reduceSub,Array.replicate_succ,Array.replicate_zero,List.push_toArray,List.append_toArray,List.nil_append,List.cons_append]
 gi_wp2
 gi_loopw [4] (fun i wr=> ∃ k:Nat,k<=8/\i= .int .i64 k/\Boxed wr Bn 2 (.int .i64 s)/\J (UW s k) wr)
  (fun i wr=>8-(intOf i).toNat)
 case atStart=>exact ⟨0,by omega,rfl,hBn,h0⟩
 case round=>
  obtain ⟨k,hk,rfl,hbx,hJ⟩:=hrel
  have hul:=ML s k
  have hc:=hbx.cell
  have Hb:=Z9 hbx
  clear hbx
  by_cases hlt:(k:Int)<8
  ·cases hm:SQ s k
   ·gi_wp2_with (refine ⟨trivial,?_⟩;gi_at_call 203;refine (callsIn_wide.2 (U0 _ _ _)).mono ?_;rintro e w' ⟨rfl,rfl⟩)
    refine ⟨fun _ h=>(by cases h),?_⟩
    gi_wp2
    go_roundw
    case rel=>exact ⟨k+1,by omega,by go_num,uh Hb,by rw [Tu hm];exact hJ⟩
    case measure=>simp [intOf];omega
   ·obtain ⟨fn,tmps,assign,body,hy,hR⟩:=hY (UW s k) k wr hJ (by omega)
    gi_wp2_with (refine ⟨trivial,?_⟩;gi_at_call 203;refine (callsIn_wide.2 (U0 _ _ _)).mono ?_;rintro e w' ⟨rfl,rfl⟩)
    refine hR.mono ?_
    rintro e W3 (⟨rfl,hJ3,hk3⟩ | ⟨rfl,hJx3⟩)
    ·gi_wp2
     go_roundw
     case rel=>exact ⟨k+1,by omega,by go_num,hk3 _ (uh Hb),by rw [SD hm];exact hJ3⟩
     case measure=>simp [intOf];omega
    ·gi_wp2
     refine bodyPost_ret (results_none rfl _ _ _) rfl ?_
     exact ⟨⟨_,rfl⟩,.inr ⟨UW s k++[(k:Int)],by rw [<-SD hm];exact GL s (k+1) (by omega),hJx3⟩⟩
  ·obtain rfl:k=8:=by omega
   gi_wp2
   go_end0
   exact ⟨⟨_,rfl⟩,.inl hJ⟩
theorem Nu (n:Nat) (s:Int) (w:World) :
  CallsIn Fence.wide n Tryz.prog 164 #[.int .i64 s] w fun e w'=>e= .returned (.func (.func 212) #[] #[.pointer (some ⟨w.heap.size,0,none⟩)])/\w'=w.alloc (.cells #[.int .i64 s] 2):=by
 refine callsIn_of_wp Tryz.func164 rfl trivial ?_ rfl
 simp only [Tryz.ntmps164,List.size_toArray,List.length_cons,List.length_nil,Nat.reduceAdd,Nat.reduceSub,Array.replicate_succ,Array.replicate_zero,List.push_toArray,List.append_toArray,List.nil_append,List.cons_append]
 gi_wp2
 go_ret
 exact ⟨rfl,rfl⟩
theorem OI (n:Nat) (hn:1<=n) (Bn:Nat) (s:Int) (w:World) (hBn:Boxed w Bn 2 (.int .i64 s)) :
  SeqStopsK Fence.wide n Tryz.prog 212 #[.pointer (some ⟨Bn,0,none⟩)] (fun x:Int=>#[Value.int .i64 x]) (KeepsBox Bn 2) (fun ys=>ys=L5 s) (fun pre=>pre <+: L5 s) 8 w:=fun l J Jx W hW _ _ hY h0=>
 LZ n hn l Bn s J Jx hY W ((hW.block Bn hBn.lt).trans hBn) h0
theorem Ps (n:Nat) (hn:3<=n) (s:Int) (w:World) :
  CallsIn Fence.wide n Tryz.prog 309 #[.int .i64 s] w fun e w'=>e= .returned (.int .i64 (WM s))/\Below w.heap.size w w':=by
 have h1:1<=n:=by omega
 refine callsIn_of_wp_marks Tryz.func309 rfl trivial ?_ rfl
 simp only [Tryz.ntmps309,List.size_toArray,List.length_cons,List.length_nil,Nat.reduceAdd,Nat.reduceSub,Array.replicate_succ,Array.replicate_zero,List.push_toArray,List.append_toArray,List.nil_append,List.cons_append]
 gi_wp2_with (refine ⟨trivial,?_⟩;gi_at_call 164;refine (Nu (n-1) _ _).mono ?_;rintro e w' ⟨rfl,rfl⟩)
 have bR:=Boxed.new w 2 (.int .i64 0)
 have bN:=Boxed.new (w.alloc (.cells #[.int .i64 0] 2)) 2 (.int .i64 s)
 simp only [World.size_alloc] at bN
 have hB0:Below w.heap.size w ((w.alloc (.cells #[.int .i64 0] 2)).alloc (.cells #[.int .i64 s] 2)):=((Below.refl _ w).alloc (Nat.le_refl _) _).alloc (by simp) _
 refine wpIn_rangeFunc_ownG rfl h1 (gf:=212) (lb:=#[.pointer (some ⟨w.heap.size+1,0,none⟩)]) rfl trivial (enters_of Tryz.func212 (by kernel_rfl) rfl)
  (OI (n-1) (by omega) (w.heap.size+1) s _ bN) (fun h k=>h.trans k) (KeepsBox.putObj (by simp)) (Below.refl _ _) (fun _=>rfl)
  (fun pre W=>(pre=[]/\Boxed W w.heap.size 2 (.int .i64 0))/\Below w.heap.size w W)
  (fun c pre W=>(c= .ret/\ ∃ x,pre=[x]/\Boxed W w.heap.size 2 (.int .i64 x))/\Below w.heap.size w W)
  (OwnFrom.and (Own.from (fun s A B row hs hg hr=>⟨hs.1,hs.2.kept hg (fun e=>by obtain ⟨o,ho,hc⟩:=hr _ e.symm;rw [show A.heap[w.heap.size]?=_ from hs.2] at ho;cases ho;cases hc)⟩) _) (ownFrom_below (Nat.le_refl _) (by simp;omega)))
  (fun c=>OwnFrom.and (Own.from (fun s A B row hs hg hr=>by obtain ⟨e1,x,e2,hb⟩:=hs;exact ⟨e1,x,e2,hb.kept hg (fun e=>by obtain ⟨o,ho,hc⟩:=hr _ e.symm;rw [show A.heap[w.heap.size]?=_ from hb] at ho;cases ho;cases hc)⟩) _) (ownFrom_below (Nat.le_refl _) (by simp;omega)))
  ⟨⟨rfl,bR.alloc _⟩,hB0⟩
  (fun x=>{ tmps:=#[.int .i64 s,undef,.pointer (some ⟨w.heap.size,0,none⟩),.int .i64 x,.int .i64 s,.func (.func 212) #[] #[.pointer (some ⟨w.heap.size+1,0,none⟩)],.int .i64 x,undef],defers:=[] }) ?assign ?body ?done ?stop
 case assign=>
  intro l x W K hK
  gi_wp2
  exact hK
 case body=>
  rintro l pre x W ⟨⟨rfl,hb⟩,hB⟩ _
  have hc:=hb.cell
  have hf:=hb.frozen
  gi_wp2
  exact ⟨(KeepsOthers.setCell _ _ _).from _,⟨rfl,x,rfl,hb.set _⟩,hB.setCell (p:=⟨w.heap.size,0,none⟩) (Nat.le_refl _) _⟩
 case done=>
  rintro D ys W hD hys ⟨⟨hp,hb⟩,hB⟩ hK
  have hc:=hb.cell
  have hf:=hb.frozen
  gi_wp2
  have hK':=(KeepsOthers.setCell W ⟨w.heap.size,0,none⟩ (.int .i64 (-1))).same D _ hK rfl
  refine ⟨by simp,.inl ⟨_,_,rfl,run_takeDeferred hK',?_⟩⟩
  have hc5:=cell_kept (hb.set (.int .i64 (-1))).cell (grownBy_putObj' _ D (.deferred none)) (fun r e=>by cases e;exact ⟨_,hK',rfl⟩)
  have hm:L5 s=[]:=hys.symm.trans hp
  refine ⟨.int .i64 (-1),?_,Zv (by unfold WM;rw [hm];rfl),(hB.setCell (p:=⟨w.heap.size,0,none⟩) (Nat.le_refl _) _).trans (belowK_b (w:=w) (Nat.le_refl _) _ D _ _ (by simp at hD;omega) hK' rfl rfl)⟩
  simp [results,Tryz.f309,go_sem,hc5]
 case stop=>
  rintro D c pre W hD hpre ⟨⟨rfl,x,rfl,hb⟩,hB⟩ hK
  gi_wp2
  refine ⟨by simp,.inl ⟨_,_,rfl,run_takeDeferred hK,?_⟩⟩
  have hc5:=cell_kept hb.cell (grownBy_putObj' _ D (.deferred none)) (fun r e=>by cases e;exact ⟨_,hK,rfl⟩)
  have hx:WM s=x:=by obtain ⟨r,hr⟩:=hpre;unfold WM;rw [<-hr];rfl
  refine ⟨.int .i64 x,?_,Zv hx.symm,hB.trans (belowK_b (w:=w) (Nat.le_refl _) W D _ _ (by simp at hD;omega) hK rfl rfl)⟩
  simp [results,Tryz.f309,go_sem,hc5]
theorem Qz (s:Int) (w:World):Calls Tryz.prog 309 #[.int .i64 s] w fun e w'=>e= .returned (.int .i64 (WM s))/\Below w.heap.size w w':=
 callsIn_wide.1 (Ps 3 (Nat.le_refl _) s w)
end Go.Proofs.YtnponpamjddpjaaGreat
namespace Go.Proofs.YtnponpamjddpjaaGreat
open Go.ChangeShapes Go.WideShapes Go.ChangeAt Go.RowKit Go.Sort
set_option linter.unusedVariables false
theorem GV:∀ k:Fin 256,(WM (k.val:Int) != -1)=inB (k.val:Int) 1 255:=by decide +kernel
theorem GW (s:Int):(WM s != -1)=inB s 1 255:=by
 cases h:inB s 0 255
 ·have hf:WM s= -1:=by unfold WM L5;rw [Oy h];rfl
  have h2:s<0\/255<s:=by
   rcases Int.lt_or_le s 0 with h1 | h1
   ·exact .inl h1
   ·rcases Int.lt_or_le 255 s with h2 | h2
    ·exact .inr h2
    ·rw [Zj h1 h2] at h;cases h
  rw [hf,Vd (by omega)];rfl
 ·obtain ⟨h0,h1⟩:=ZS h
  obtain ⟨n,rfl⟩:=Int.eq_ofNat_of_zero_le h0
  exact GV ⟨n,by omega⟩
theorem OD {s f:Int} (h:WM s=f) (w:World):Calls Tryz.prog 309 #[.int .i64 s] w fun e w'=>e= .returned (.int .i64 f)/\Below w.heap.size w w':=by
 have:=Qz s w;rw [h] at this;exact this
theorem W7 (s:Int) (w:World):Calls Tryz.prog 305 #[.int .i64 s] w fun e w'=>e= .returned (.bool (inB s 1 255))/\Below w.heap.size w w':=by
 have hf:=GW s
 obtain ⟨f,hv⟩:∃ f,WM s=f:=⟨_,rfl⟩
 have Hv:=Z9 hv
 rw [hv] at hf
 have Hf:=Z9 hf
 clear hf hv
 go_enter Tryz.func305,Tryz.ntmps305
 go_wp2_with fail
 refine (OD (uh Hv) _).mono ?_
 rintro e w1 ⟨rfl,hb⟩
 go_wp2_with fail
 go_ret
 exact ⟨Z5 (uh Hf),hb⟩
theorem LJ (c r:Int) (w:World):Calls Tryz.prog 306 #[.int .i64 c,.int .i64 r] w fun e w'=>e= .returned (.bool (inB c 0 (Zu r-1)))/\w'=w:=by
 obtain ⟨x,hv⟩:∃ x,Zu r=x:=⟨_,rfl⟩
 have Hv:=Z9 hv
 rw [hv]
 clear hv
 by_cases h0:0<=c
 ·by_cases h1:c<x
  ·rw [Zj (x:=c) (lo:=0) (hi:=x-1) h0 (by omega)]
   go_enter Tryz.func306,Tryz.ntmps306
   go_wp2_with (go_at_call 310;refine (TH (uh Hv) _).mono ?_;rintro e w' ⟨rfl,rfl⟩)
   go_ret
   exact ⟨rfl,rfl⟩
  ·rw [Vd (x:=c) (lo:=0) (hi:=x-1) (by omega)]
   go_enter Tryz.func306,Tryz.ntmps306
   go_wp2_with (go_at_call 310;refine (TH (uh Hv) _).mono ?_;rintro e w' ⟨rfl,rfl⟩)
   go_ret
   exact ⟨Z5 (b:=false) (by rw [decide_eq_false_iff_not];omega),rfl⟩
 ·rw [Vd (x:=c) (lo:=0) (hi:=x-1) (by omega)]
  go_enter Tryz.func306,Tryz.ntmps306
  go_wp2_with fail
  go_ret
  exact ⟨rfl,rfl⟩
theorem Zz (n:Int) (w:World):Calls Tryz.prog 269 #[.int .i64 n] w fun e w'=>e= .returned (.bool (inB n (-1000000000000) 1000000000000))/\w'=w:=by
 go_enter Tryz.func269,Tryz.ntmps269
 go_wp2_with (go_at_call 201;refine (ZX _ _ _ _).mono ?_;rintro e w' ⟨rfl,rfl⟩)
 go_ret
 exact ⟨rfl,rfl⟩
theorem Y3 {c r:Int} {q:Bool} (h:inB c 0 (Zu r-1)=q) (w:World):Calls Tryz.prog 306 #[.int .i64 c,.int .i64 r] w fun e w'=>e= .returned (.bool q)/\w'=w:=by
 have:=LJ c r w;rw [h] at this;exact this
theorem FT (x:Int):inB x 0 (0-1)=false:=by
 refine Vd ?_
 rcases Int.lt_or_le x 0 with h | h
 ·exact .inl h
 ·exact .inr (by omega)
theorem Gg (st be rk my gu lo hi hd ca ut wk:Int):Zf (st,be,rk,my,gu,lo,hi,hd,ca,ut,wk)=(inB st 1 3 && (inB be 0 7 && (inB my 1 255 && (inB gu (-1) 5 && (Yl lo hi && (inB hd (-1000000000000) 1000000000000 && (inB ca 0 (Zu rk-1) && (inB ut 0 1024 && (inB wk 0 100000000000))))))))):=by
 unfold Zf
 simp only
 cases hr:inB rk (-5) 5
 ·rw [WX hr,show inB ca 0 (0-1)=false from FT ca]
  simp
 ·simp only [Bool.true_and]
theorem SZ (st be rk my gu lo hi hd ca ut wk:Int) (w:World):Calls Tryz.prog 295 #[.agg #[.int .i64 st,.int .i64 be,.int .i64 rk,.int .i64 my,.int .i64 gu,.int .i64 lo,.int .i64 hi,.int .i64 hd,.int .i64 ca,.int .i64 ut,.int .i64 wk]] w fun e w'=>e= .returned (.bool (Zf (st,be,rk,my,gu,lo,hi,hd,ca,ut,wk)))/\Below w.heap.size w w':=by
 rw [Gg]
 obtain ⟨qc,hqc⟩:∃ q,inB ca 0 (Zu rk-1)=q:=⟨_,rfl⟩
 have Hc:=Z9 hqc
 rw [hqc]
 clear hqc
 cases h_st:inB st 1 3
 ·go_enter Tryz.func295,Tryz.ntmps295
  go_wp2_with (first | (go_at_call 201;refine (ZX _ _ _ _).mono ?_;rintro e w' ⟨rfl,rfl⟩) | (go_at_call 239;refine (ZB _ _).mono ?_;rintro e w' ⟨rfl,rfl⟩) | (go_at_call 228;refine (ZG _ _ _).mono ?_;rintro e w' ⟨rfl,rfl⟩) | (go_at_call 269;refine (Zz _ _).mono ?_;rintro e w' ⟨rfl,rfl⟩) | (go_at_call 306;refine (Y3 (uh Hc) _).mono ?_;rintro e w' ⟨rfl,rfl⟩) | (go_at_call 307;refine (Zl _ _).mono ?_;rintro e w' ⟨rfl,rfl⟩))
  go_ret
  exact ⟨rfl,(Below.refl _ _).alloc (Nat.le_refl _) _⟩
 cases h_be:inB be 0 7
 ·go_enter Tryz.func295,Tryz.ntmps295
  go_wp2_with (first | (go_at_call 201;refine (ZX _ _ _ _).mono ?_;rintro e w' ⟨rfl,rfl⟩) | (go_at_call 239;refine (ZB _ _).mono ?_;rintro e w' ⟨rfl,rfl⟩) | (go_at_call 228;refine (ZG _ _ _).mono ?_;rintro e w' ⟨rfl,rfl⟩) | (go_at_call 269;refine (Zz _ _).mono ?_;rintro e w' ⟨rfl,rfl⟩) | (go_at_call 306;refine (Y3 (uh Hc) _).mono ?_;rintro e w' ⟨rfl,rfl⟩) | (go_at_call 307;refine (Zl _ _).mono ?_;rintro e w' ⟨rfl,rfl⟩))
  go_ret
  exact ⟨rfl,(Below.refl _ _).alloc (Nat.le_refl _) _⟩
 cases h_my:inB my 1 255
 ·go_enter Tryz.func295,Tryz.ntmps295
  go_wp2_with (first | (go_at_call 201;refine (ZX _ _ _ _).mono ?_;rintro e w' ⟨rfl,rfl⟩) | (go_at_call 239;refine (ZB _ _).mono ?_;rintro e w' ⟨rfl,rfl⟩) | (go_at_call 228;refine (ZG _ _ _).mono ?_;rintro e w' ⟨rfl,rfl⟩) | (go_at_call 269;refine (Zz _ _).mono ?_;rintro e w' ⟨rfl,rfl⟩) | (go_at_call 306;refine (Y3 (uh Hc) _).mono ?_;rintro e w' ⟨rfl,rfl⟩) | (go_at_call 307;refine (Zl _ _).mono ?_;rintro e w' ⟨rfl,rfl⟩))
  refine (W7 _ _).mono ?_
  rintro e w1 ⟨rfl,hb⟩
  have c2:w1.cell? ⟨w.heap.size,2,none⟩=some (.int .i64 rk):=(hb.cell (p:=⟨w.heap.size,2,none⟩) (by simp)).trans (Z2 _ rfl)
  have c4:w1.cell? ⟨w.heap.size,4,none⟩=some (.int .i64 gu):=(hb.cell (p:=⟨w.heap.size,4,none⟩) (by simp)).trans (Z2 _ rfl)
  have c5:w1.cell? ⟨w.heap.size,5,none⟩=some (.int .i64 lo):=(hb.cell (p:=⟨w.heap.size,5,none⟩) (by simp)).trans (Z2 _ rfl)
  have c6:w1.cell? ⟨w.heap.size,6,none⟩=some (.int .i64 hi):=(hb.cell (p:=⟨w.heap.size,6,none⟩) (by simp)).trans (Z2 _ rfl)
  have c7:w1.cell? ⟨w.heap.size,7,none⟩=some (.int .i64 hd):=(hb.cell (p:=⟨w.heap.size,7,none⟩) (by simp)).trans (Z2 _ rfl)
  have c8:w1.cell? ⟨w.heap.size,8,none⟩=some (.int .i64 ca):=(hb.cell (p:=⟨w.heap.size,8,none⟩) (by simp)).trans (Z2 _ rfl)
  have c9:w1.cell? ⟨w.heap.size,9,none⟩=some (.int .i64 ut):=(hb.cell (p:=⟨w.heap.size,9,none⟩) (by simp)).trans (Z2 _ rfl)
  have c10:w1.cell? ⟨w.heap.size,10,none⟩=some (.int .i64 wk):=(hb.cell (p:=⟨w.heap.size,10,none⟩) (by simp)).trans (Z2 _ rfl)
  have Hb:=Z9 (((Below.refl w.heap.size w).alloc (Nat.le_refl _) _).trans (hb.mono (by simp)))
  clear hb
  go_wp2_with (first | (go_at_call 201;refine (ZX _ _ _ _).mono ?_;rintro e w' ⟨rfl,rfl⟩) | (go_at_call 239;refine (ZB _ _).mono ?_;rintro e w' ⟨rfl,rfl⟩) | (go_at_call 228;refine (ZG _ _ _).mono ?_;rintro e w' ⟨rfl,rfl⟩) | (go_at_call 269;refine (Zz _ _).mono ?_;rintro e w' ⟨rfl,rfl⟩) | (go_at_call 306;refine (Y3 (uh Hc) _).mono ?_;rintro e w' ⟨rfl,rfl⟩) | (go_at_call 307;refine (Zl _ _).mono ?_;rintro e w' ⟨rfl,rfl⟩))
  go_ret
  exact ⟨rfl,uh Hb⟩
 cases h_gu:inB gu (-1) 5
 ·go_enter Tryz.func295,Tryz.ntmps295
  go_wp2_with (first | (go_at_call 201;refine (ZX _ _ _ _).mono ?_;rintro e w' ⟨rfl,rfl⟩) | (go_at_call 239;refine (ZB _ _).mono ?_;rintro e w' ⟨rfl,rfl⟩) | (go_at_call 228;refine (ZG _ _ _).mono ?_;rintro e w' ⟨rfl,rfl⟩) | (go_at_call 269;refine (Zz _ _).mono ?_;rintro e w' ⟨rfl,rfl⟩) | (go_at_call 306;refine (Y3 (uh Hc) _).mono ?_;rintro e w' ⟨rfl,rfl⟩) | (go_at_call 307;refine (Zl _ _).mono ?_;rintro e w' ⟨rfl,rfl⟩))
  refine (W7 _ _).mono ?_
  rintro e w1 ⟨rfl,hb⟩
  have c2:w1.cell? ⟨w.heap.size,2,none⟩=some (.int .i64 rk):=(hb.cell (p:=⟨w.heap.size,2,none⟩) (by simp)).trans (Z2 _ rfl)
  have c4:w1.cell? ⟨w.heap.size,4,none⟩=some (.int .i64 gu):=(hb.cell (p:=⟨w.heap.size,4,none⟩) (by simp)).trans (Z2 _ rfl)
  have c5:w1.cell? ⟨w.heap.size,5,none⟩=some (.int .i64 lo):=(hb.cell (p:=⟨w.heap.size,5,none⟩) (by simp)).trans (Z2 _ rfl)
  have c6:w1.cell? ⟨w.heap.size,6,none⟩=some (.int .i64 hi):=(hb.cell (p:=⟨w.heap.size,6,none⟩) (by simp)).trans (Z2 _ rfl)
  have c7:w1.cell? ⟨w.heap.size,7,none⟩=some (.int .i64 hd):=(hb.cell (p:=⟨w.heap.size,7,none⟩) (by simp)).trans (Z2 _ rfl)
  have c8:w1.cell? ⟨w.heap.size,8,none⟩=some (.int .i64 ca):=(hb.cell (p:=⟨w.heap.size,8,none⟩) (by simp)).trans (Z2 _ rfl)
  have c9:w1.cell? ⟨w.heap.size,9,none⟩=some (.int .i64 ut):=(hb.cell (p:=⟨w.heap.size,9,none⟩) (by simp)).trans (Z2 _ rfl)
  have c10:w1.cell? ⟨w.heap.size,10,none⟩=some (.int .i64 wk):=(hb.cell (p:=⟨w.heap.size,10,none⟩) (by simp)).trans (Z2 _ rfl)
  have Hb:=Z9 (((Below.refl w.heap.size w).alloc (Nat.le_refl _) _).trans (hb.mono (by simp)))
  clear hb
  go_wp2_with (first | (go_at_call 201;refine (ZX _ _ _ _).mono ?_;rintro e w' ⟨rfl,rfl⟩) | (go_at_call 239;refine (ZB _ _).mono ?_;rintro e w' ⟨rfl,rfl⟩) | (go_at_call 228;refine (ZG _ _ _).mono ?_;rintro e w' ⟨rfl,rfl⟩) | (go_at_call 269;refine (Zz _ _).mono ?_;rintro e w' ⟨rfl,rfl⟩) | (go_at_call 306;refine (Y3 (uh Hc) _).mono ?_;rintro e w' ⟨rfl,rfl⟩) | (go_at_call 307;refine (Zl _ _).mono ?_;rintro e w' ⟨rfl,rfl⟩))
  go_ret
  exact ⟨rfl,uh Hb⟩
 cases h_pr:Yl lo hi
 ·go_enter Tryz.func295,Tryz.ntmps295
  go_wp2_with (first | (go_at_call 201;refine (ZX _ _ _ _).mono ?_;rintro e w' ⟨rfl,rfl⟩) | (go_at_call 239;refine (ZB _ _).mono ?_;rintro e w' ⟨rfl,rfl⟩) | (go_at_call 228;refine (ZG _ _ _).mono ?_;rintro e w' ⟨rfl,rfl⟩) | (go_at_call 269;refine (Zz _ _).mono ?_;rintro e w' ⟨rfl,rfl⟩) | (go_at_call 306;refine (Y3 (uh Hc) _).mono ?_;rintro e w' ⟨rfl,rfl⟩) | (go_at_call 307;refine (Zl _ _).mono ?_;rintro e w' ⟨rfl,rfl⟩))
  refine (W7 _ _).mono ?_
  rintro e w1 ⟨rfl,hb⟩
  have c2:w1.cell? ⟨w.heap.size,2,none⟩=some (.int .i64 rk):=(hb.cell (p:=⟨w.heap.size,2,none⟩) (by simp)).trans (Z2 _ rfl)
  have c4:w1.cell? ⟨w.heap.size,4,none⟩=some (.int .i64 gu):=(hb.cell (p:=⟨w.heap.size,4,none⟩) (by simp)).trans (Z2 _ rfl)
  have c5:w1.cell? ⟨w.heap.size,5,none⟩=some (.int .i64 lo):=(hb.cell (p:=⟨w.heap.size,5,none⟩) (by simp)).trans (Z2 _ rfl)
  have c6:w1.cell? ⟨w.heap.size,6,none⟩=some (.int .i64 hi):=(hb.cell (p:=⟨w.heap.size,6,none⟩) (by simp)).trans (Z2 _ rfl)
  have c7:w1.cell? ⟨w.heap.size,7,none⟩=some (.int .i64 hd):=(hb.cell (p:=⟨w.heap.size,7,none⟩) (by simp)).trans (Z2 _ rfl)
  have c8:w1.cell? ⟨w.heap.size,8,none⟩=some (.int .i64 ca):=(hb.cell (p:=⟨w.heap.size,8,none⟩) (by simp)).trans (Z2 _ rfl)
  have c9:w1.cell? ⟨w.heap.size,9,none⟩=some (.int .i64 ut):=(hb.cell (p:=⟨w.heap.size,9,none⟩) (by simp)).trans (Z2 _ rfl)
  have c10:w1.cell? ⟨w.heap.size,10,none⟩=some (.int .i64 wk):=(hb.cell (p:=⟨w.heap.size,10,none⟩) (by simp)).trans (Z2 _ rfl)
  have Hb:=Z9 (((Below.refl w.heap.size w).alloc (Nat.le_refl _) _).trans (hb.mono (by simp)))
  clear hb
  go_wp2_with (first | (go_at_call 201;refine (ZX _ _ _ _).mono ?_;rintro e w' ⟨rfl,rfl⟩) | (go_at_call 239;refine (ZB _ _).mono ?_;rintro e w' ⟨rfl,rfl⟩) | (go_at_call 228;refine (ZG _ _ _).mono ?_;rintro e w' ⟨rfl,rfl⟩) | (go_at_call 269;refine (Zz _ _).mono ?_;rintro e w' ⟨rfl,rfl⟩) | (go_at_call 306;refine (Y3 (uh Hc) _).mono ?_;rintro e w' ⟨rfl,rfl⟩) | (go_at_call 307;refine (Zl _ _).mono ?_;rintro e w' ⟨rfl,rfl⟩))
  go_ret
  exact ⟨rfl,uh Hb⟩
 cases h_hd:inB hd (-1000000000000) 1000000000000
 ·go_enter Tryz.func295,Tryz.ntmps295
  go_wp2_with (first | (go_at_call 201;refine (ZX _ _ _ _).mono ?_;rintro e w' ⟨rfl,rfl⟩) | (go_at_call 239;refine (ZB _ _).mono ?_;rintro e w' ⟨rfl,rfl⟩) | (go_at_call 228;refine (ZG _ _ _).mono ?_;rintro e w' ⟨rfl,rfl⟩) | (go_at_call 269;refine (Zz _ _).mono ?_;rintro e w' ⟨rfl,rfl⟩) | (go_at_call 306;refine (Y3 (uh Hc) _).mono ?_;rintro e w' ⟨rfl,rfl⟩) | (go_at_call 307;refine (Zl _ _).mono ?_;rintro e w' ⟨rfl,rfl⟩))
  refine (W7 _ _).mono ?_
  rintro e w1 ⟨rfl,hb⟩
  have c2:w1.cell? ⟨w.heap.size,2,none⟩=some (.int .i64 rk):=(hb.cell (p:=⟨w.heap.size,2,none⟩) (by simp)).trans (Z2 _ rfl)
  have c4:w1.cell? ⟨w.heap.size,4,none⟩=some (.int .i64 gu):=(hb.cell (p:=⟨w.heap.size,4,none⟩) (by simp)).trans (Z2 _ rfl)
  have c5:w1.cell? ⟨w.heap.size,5,none⟩=some (.int .i64 lo):=(hb.cell (p:=⟨w.heap.size,5,none⟩) (by simp)).trans (Z2 _ rfl)
  have c6:w1.cell? ⟨w.heap.size,6,none⟩=some (.int .i64 hi):=(hb.cell (p:=⟨w.heap.size,6,none⟩) (by simp)).trans (Z2 _ rfl)
  have c7:w1.cell? ⟨w.heap.size,7,none⟩=some (.int .i64 hd):=(hb.cell (p:=⟨w.heap.size,7,none⟩) (by simp)).trans (Z2 _ rfl)
  have c8:w1.cell? ⟨w.heap.size,8,none⟩=some (.int .i64 ca):=(hb.cell (p:=⟨w.heap.size,8,none⟩) (by simp)).trans (Z2 _ rfl)
  have c9:w1.cell? ⟨w.heap.size,9,none⟩=some (.int .i64 ut):=(hb.cell (p:=⟨w.heap.size,9,none⟩) (by simp)).trans (Z2 _ rfl)
  have c10:w1.cell? ⟨w.heap.size,10,none⟩=some (.int .i64 wk):=(hb.cell (p:=⟨w.heap.size,10,none⟩) (by simp)).trans (Z2 _ rfl)
  have Hb:=Z9 (((Below.refl w.heap.size w).alloc (Nat.le_refl _) _).trans (hb.mono (by simp)))
  clear hb
  go_wp2_with (first | (go_at_call 201;refine (ZX _ _ _ _).mono ?_;rintro e w' ⟨rfl,rfl⟩) | (go_at_call 239;refine (ZB _ _).mono ?_;rintro e w' ⟨rfl,rfl⟩) | (go_at_call 228;refine (ZG _ _ _).mono ?_;rintro e w' ⟨rfl,rfl⟩) | (go_at_call 269;refine (Zz _ _).mono ?_;rintro e w' ⟨rfl,rfl⟩) | (go_at_call 306;refine (Y3 (uh Hc) _).mono ?_;rintro e w' ⟨rfl,rfl⟩) | (go_at_call 307;refine (Zl _ _).mono ?_;rintro e w' ⟨rfl,rfl⟩))
  go_ret
  exact ⟨rfl,uh Hb⟩
 cases qc
 ·go_enter Tryz.func295,Tryz.ntmps295
  go_wp2_with (first | (go_at_call 201;refine (ZX _ _ _ _).mono ?_;rintro e w' ⟨rfl,rfl⟩) | (go_at_call 239;refine (ZB _ _).mono ?_;rintro e w' ⟨rfl,rfl⟩) | (go_at_call 228;refine (ZG _ _ _).mono ?_;rintro e w' ⟨rfl,rfl⟩) | (go_at_call 269;refine (Zz _ _).mono ?_;rintro e w' ⟨rfl,rfl⟩) | (go_at_call 306;refine (Y3 (uh Hc) _).mono ?_;rintro e w' ⟨rfl,rfl⟩) | (go_at_call 307;refine (Zl _ _).mono ?_;rintro e w' ⟨rfl,rfl⟩))
  refine (W7 _ _).mono ?_
  rintro e w1 ⟨rfl,hb⟩
  have c2:w1.cell? ⟨w.heap.size,2,none⟩=some (.int .i64 rk):=(hb.cell (p:=⟨w.heap.size,2,none⟩) (by simp)).trans (Z2 _ rfl)
  have c4:w1.cell? ⟨w.heap.size,4,none⟩=some (.int .i64 gu):=(hb.cell (p:=⟨w.heap.size,4,none⟩) (by simp)).trans (Z2 _ rfl)
  have c5:w1.cell? ⟨w.heap.size,5,none⟩=some (.int .i64 lo):=(hb.cell (p:=⟨w.heap.size,5,none⟩) (by simp)).trans (Z2 _ rfl)
  have c6:w1.cell? ⟨w.heap.size,6,none⟩=some (.int .i64 hi):=(hb.cell (p:=⟨w.heap.size,6,none⟩) (by simp)).trans (Z2 _ rfl)
  have c7:w1.cell? ⟨w.heap.size,7,none⟩=some (.int .i64 hd):=(hb.cell (p:=⟨w.heap.size,7,none⟩) (by simp)).trans (Z2 _ rfl)
  have c8:w1.cell? ⟨w.heap.size,8,none⟩=some (.int .i64 ca):=(hb.cell (p:=⟨w.heap.size,8,none⟩) (by simp)).trans (Z2 _ rfl)
  have c9:w1.cell? ⟨w.heap.size,9,none⟩=some (.int .i64 ut):=(hb.cell (p:=⟨w.heap.size,9,none⟩) (by simp)).trans (Z2 _ rfl)
  have c10:w1.cell? ⟨w.heap.size,10,none⟩=some (.int .i64 wk):=(hb.cell (p:=⟨w.heap.size,10,none⟩) (by simp)).trans (Z2 _ rfl)
  have Hb:=Z9 (((Below.refl w.heap.size w).alloc (Nat.le_refl _) _).trans (hb.mono (by simp)))
  clear hb
  go_wp2_with (first | (go_at_call 201;refine (ZX _ _ _ _).mono ?_;rintro e w' ⟨rfl,rfl⟩) | (go_at_call 239;refine (ZB _ _).mono ?_;rintro e w' ⟨rfl,rfl⟩) | (go_at_call 228;refine (ZG _ _ _).mono ?_;rintro e w' ⟨rfl,rfl⟩) | (go_at_call 269;refine (Zz _ _).mono ?_;rintro e w' ⟨rfl,rfl⟩) | (go_at_call 306;refine (Y3 (uh Hc) _).mono ?_;rintro e w' ⟨rfl,rfl⟩) | (go_at_call 307;refine (Zl _ _).mono ?_;rintro e w' ⟨rfl,rfl⟩))
  go_ret
  exact ⟨rfl,uh Hb⟩
 cases h_ut:inB ut 0 1024
 ·go_enter Tryz.func295,Tryz.ntmps295
  go_wp2_with (first | (go_at_call 201;refine (ZX _ _ _ _).mono ?_;rintro e w' ⟨rfl,rfl⟩) | (go_at_call 239;refine (ZB _ _).mono ?_;rintro e w' ⟨rfl,rfl⟩) | (go_at_call 228;refine (ZG _ _ _).mono ?_;rintro e w' ⟨rfl,rfl⟩) | (go_at_call 269;refine (Zz _ _).mono ?_;rintro e w' ⟨rfl,rfl⟩) | (go_at_call 306;refine (Y3 (uh Hc) _).mono ?_;rintro e w' ⟨rfl,rfl⟩) | (go_at_call 307;refine (Zl _ _).mono ?_;rintro e w' ⟨rfl,rfl⟩))
  refine (W7 _ _).mono ?_
  rintro e w1 ⟨rfl,hb⟩
  have c2:w1.cell? ⟨w.heap.size,2,none⟩=some (.int .i64 rk):=(hb.cell (p:=⟨w.heap.size,2,none⟩) (by simp)).trans (Z2 _ rfl)
  have c4:w1.cell? ⟨w.heap.size,4,none⟩=some (.int .i64 gu):=(hb.cell (p:=⟨w.heap.size,4,none⟩) (by simp)).trans (Z2 _ rfl)
  have c5:w1.cell? ⟨w.heap.size,5,none⟩=some (.int .i64 lo):=(hb.cell (p:=⟨w.heap.size,5,none⟩) (by simp)).trans (Z2 _ rfl)
  have c6:w1.cell? ⟨w.heap.size,6,none⟩=some (.int .i64 hi):=(hb.cell (p:=⟨w.heap.size,6,none⟩) (by simp)).trans (Z2 _ rfl)
  have c7:w1.cell? ⟨w.heap.size,7,none⟩=some (.int .i64 hd):=(hb.cell (p:=⟨w.heap.size,7,none⟩) (by simp)).trans (Z2 _ rfl)
  have c8:w1.cell? ⟨w.heap.size,8,none⟩=some (.int .i64 ca):=(hb.cell (p:=⟨w.heap.size,8,none⟩) (by simp)).trans (Z2 _ rfl)
  have c9:w1.cell? ⟨w.heap.size,9,none⟩=some (.int .i64 ut):=(hb.cell (p:=⟨w.heap.size,9,none⟩) (by simp)).trans (Z2 _ rfl)
  have c10:w1.cell? ⟨w.heap.size,10,none⟩=some (.int .i64 wk):=(hb.cell (p:=⟨w.heap.size,10,none⟩) (by simp)).trans (Z2 _ rfl)
  have Hb:=Z9 (((Below.refl w.heap.size w).alloc (Nat.le_refl _) _).trans (hb.mono (by simp)))
  clear hb
  go_wp2_with (first | (go_at_call 201;refine (ZX _ _ _ _).mono ?_;rintro e w' ⟨rfl,rfl⟩) | (go_at_call 239;refine (ZB _ _).mono ?_;rintro e w' ⟨rfl,rfl⟩) | (go_at_call 228;refine (ZG _ _ _).mono ?_;rintro e w' ⟨rfl,rfl⟩) | (go_at_call 269;refine (Zz _ _).mono ?_;rintro e w' ⟨rfl,rfl⟩) | (go_at_call 306;refine (Y3 (uh Hc) _).mono ?_;rintro e w' ⟨rfl,rfl⟩) | (go_at_call 307;refine (Zl _ _).mono ?_;rintro e w' ⟨rfl,rfl⟩))
  go_ret
  exact ⟨rfl,uh Hb⟩
 cases h_wk:inB wk 0 100000000000
 ·go_enter Tryz.func295,Tryz.ntmps295
  go_wp2_with (first | (go_at_call 201;refine (ZX _ _ _ _).mono ?_;rintro e w' ⟨rfl,rfl⟩) | (go_at_call 239;refine (ZB _ _).mono ?_;rintro e w' ⟨rfl,rfl⟩) | (go_at_call 228;refine (ZG _ _ _).mono ?_;rintro e w' ⟨rfl,rfl⟩) | (go_at_call 269;refine (Zz _ _).mono ?_;rintro e w' ⟨rfl,rfl⟩) | (go_at_call 306;refine (Y3 (uh Hc) _).mono ?_;rintro e w' ⟨rfl,rfl⟩) | (go_at_call 307;refine (Zl _ _).mono ?_;rintro e w' ⟨rfl,rfl⟩))
  refine (W7 _ _).mono ?_
  rintro e w1 ⟨rfl,hb⟩
  have c2:w1.cell? ⟨w.heap.size,2,none⟩=some (.int .i64 rk):=(hb.cell (p:=⟨w.heap.size,2,none⟩) (by simp)).trans (Z2 _ rfl)
  have c4:w1.cell? ⟨w.heap.size,4,none⟩=some (.int .i64 gu):=(hb.cell (p:=⟨w.heap.size,4,none⟩) (by simp)).trans (Z2 _ rfl)
  have c5:w1.cell? ⟨w.heap.size,5,none⟩=some (.int .i64 lo):=(hb.cell (p:=⟨w.heap.size,5,none⟩) (by simp)).trans (Z2 _ rfl)
  have c6:w1.cell? ⟨w.heap.size,6,none⟩=some (.int .i64 hi):=(hb.cell (p:=⟨w.heap.size,6,none⟩) (by simp)).trans (Z2 _ rfl)
  have c7:w1.cell? ⟨w.heap.size,7,none⟩=some (.int .i64 hd):=(hb.cell (p:=⟨w.heap.size,7,none⟩) (by simp)).trans (Z2 _ rfl)
  have c8:w1.cell? ⟨w.heap.size,8,none⟩=some (.int .i64 ca):=(hb.cell (p:=⟨w.heap.size,8,none⟩) (by simp)).trans (Z2 _ rfl)
  have c9:w1.cell? ⟨w.heap.size,9,none⟩=some (.int .i64 ut):=(hb.cell (p:=⟨w.heap.size,9,none⟩) (by simp)).trans (Z2 _ rfl)
  have c10:w1.cell? ⟨w.heap.size,10,none⟩=some (.int .i64 wk):=(hb.cell (p:=⟨w.heap.size,10,none⟩) (by simp)).trans (Z2 _ rfl)
  have Hb:=Z9 (((Below.refl w.heap.size w).alloc (Nat.le_refl _) _).trans (hb.mono (by simp)))
  clear hb
  go_wp2_with (first | (go_at_call 201;refine (ZX _ _ _ _).mono ?_;rintro e w' ⟨rfl,rfl⟩) | (go_at_call 239;refine (ZB _ _).mono ?_;rintro e w' ⟨rfl,rfl⟩) | (go_at_call 228;refine (ZG _ _ _).mono ?_;rintro e w' ⟨rfl,rfl⟩) | (go_at_call 269;refine (Zz _ _).mono ?_;rintro e w' ⟨rfl,rfl⟩) | (go_at_call 306;refine (Y3 (uh Hc) _).mono ?_;rintro e w' ⟨rfl,rfl⟩) | (go_at_call 307;refine (Zl _ _).mono ?_;rintro e w' ⟨rfl,rfl⟩))
  go_ret
  exact ⟨rfl,uh Hb⟩
 go_enter Tryz.func295,Tryz.ntmps295
 go_wp2_with (first | (go_at_call 201;refine (ZX _ _ _ _).mono ?_;rintro e w' ⟨rfl,rfl⟩) | (go_at_call 239;refine (ZB _ _).mono ?_;rintro e w' ⟨rfl,rfl⟩) | (go_at_call 228;refine (ZG _ _ _).mono ?_;rintro e w' ⟨rfl,rfl⟩) | (go_at_call 269;refine (Zz _ _).mono ?_;rintro e w' ⟨rfl,rfl⟩) | (go_at_call 306;refine (Y3 (uh Hc) _).mono ?_;rintro e w' ⟨rfl,rfl⟩) | (go_at_call 307;refine (Zl _ _).mono ?_;rintro e w' ⟨rfl,rfl⟩))
 refine (W7 _ _).mono ?_
 rintro e w1 ⟨rfl,hb⟩
 have c2:w1.cell? ⟨w.heap.size,2,none⟩=some (.int .i64 rk):=(hb.cell (p:=⟨w.heap.size,2,none⟩) (by simp)).trans (Z2 _ rfl)
 have c4:w1.cell? ⟨w.heap.size,4,none⟩=some (.int .i64 gu):=(hb.cell (p:=⟨w.heap.size,4,none⟩) (by simp)).trans (Z2 _ rfl)
 have c5:w1.cell? ⟨w.heap.size,5,none⟩=some (.int .i64 lo):=(hb.cell (p:=⟨w.heap.size,5,none⟩) (by simp)).trans (Z2 _ rfl)
 have c6:w1.cell? ⟨w.heap.size,6,none⟩=some (.int .i64 hi):=(hb.cell (p:=⟨w.heap.size,6,none⟩) (by simp)).trans (Z2 _ rfl)
 have c7:w1.cell? ⟨w.heap.size,7,none⟩=some (.int .i64 hd):=(hb.cell (p:=⟨w.heap.size,7,none⟩) (by simp)).trans (Z2 _ rfl)
 have c8:w1.cell? ⟨w.heap.size,8,none⟩=some (.int .i64 ca):=(hb.cell (p:=⟨w.heap.size,8,none⟩) (by simp)).trans (Z2 _ rfl)
 have c9:w1.cell? ⟨w.heap.size,9,none⟩=some (.int .i64 ut):=(hb.cell (p:=⟨w.heap.size,9,none⟩) (by simp)).trans (Z2 _ rfl)
 have c10:w1.cell? ⟨w.heap.size,10,none⟩=some (.int .i64 wk):=(hb.cell (p:=⟨w.heap.size,10,none⟩) (by simp)).trans (Z2 _ rfl)
 have Hb:=Z9 (((Below.refl w.heap.size w).alloc (Nat.le_refl _) _).trans (hb.mono (by simp)))
 clear hb
 go_wp2_with (first | (go_at_call 201;refine (ZX _ _ _ _).mono ?_;rintro e w' ⟨rfl,rfl⟩) | (go_at_call 239;refine (ZB _ _).mono ?_;rintro e w' ⟨rfl,rfl⟩) | (go_at_call 228;refine (ZG _ _ _).mono ?_;rintro e w' ⟨rfl,rfl⟩) | (go_at_call 269;refine (Zz _ _).mono ?_;rintro e w' ⟨rfl,rfl⟩) | (go_at_call 306;refine (Y3 (uh Hc) _).mono ?_;rintro e w' ⟨rfl,rfl⟩) | (go_at_call 307;refine (Zl _ _).mono ?_;rintro e w' ⟨rfl,rfl⟩))
 go_ret
 exact ⟨rfl,uh Hb⟩
attribute [local go_sem ↓] RS Ts
theorem NA (w:World):Calls Tryz.prog 273 #[.agg #[.int .i64 0,.int .i64 0,.int .i64 0,.int .i64 0,.int .i64 0,.int .i64 0,.int .i64 0,.int .i64 0,.int .i64 0,.int .i64 0,.int .i64 0]] w fun e w'=>e= .returned (.iface 258 (.agg #[]))/\Below w.heap.size w w':=by
 have hz:UU (0,0,0,0,0,0,0,0,0,0,0) (0,0,0,0,0,0,0,0,0,0,0)=true:=rfl
 go_enter Tryz.func273,Tryz.ntmps273
 go_wp2_with fail
 go_ret
 exact ⟨rfl,(Below.refl _ _).alloc (Nat.le_refl _) _⟩
theorem NB {st be rk my gu lo hi hd ca ut wk:Int} (hg:Wb (st,be,rk,my,gu,lo,hi,hd,ca,ut,wk)=false) (hp:Zf (st,be,rk,my,gu,lo,hi,hd,ca,ut,wk)=true) (w:World):Calls Tryz.prog 273 #[.agg #[.int .i64 st,.int .i64 be,.int .i64 rk,.int .i64 my,.int .i64 gu,.int .i64 lo,.int .i64 hi,.int .i64 hd,.int .i64 ca,.int .i64 ut,.int .i64 wk]] w fun e w'=>e= .returned (.iface 260 (.agg #[.int .i64 st,.int .i64 be,.int .i64 rk,.int .i64 my,.int .i64 gu,.int .i64 lo,.int .i64 hi,.int .i64 hd,.int .i64 ca,.int .i64 ut,.int .i64 wk]))/\Below w.heap.size w w':=by
 have hz:UU (st,be,rk,my,gu,lo,hi,hd,ca,ut,wk) (0,0,0,0,0,0,0,0,0,0,0)=false:=hg
 have Hp:=Z9 hp
 clear hg hp
 go_enter Tryz.func273,Tryz.ntmps273
 go_wp2_with fail
 refine (SZ st be rk my gu lo hi hd ca ut wk _).mono ?_
 rw [uh Hp]
 rintro e w1 ⟨rfl,hb⟩
 have c0:w1.cell? ⟨w.heap.size,0,none⟩=some (.int .i64 st):=(hb.cell (p:=⟨w.heap.size,0,none⟩) (by simp)).trans (Z2 _ rfl)
 have c1:w1.cell? ⟨w.heap.size,1,none⟩=some (.int .i64 be):=(hb.cell (p:=⟨w.heap.size,1,none⟩) (by simp)).trans (Z2 _ rfl)
 have c2:w1.cell? ⟨w.heap.size,2,none⟩=some (.int .i64 rk):=(hb.cell (p:=⟨w.heap.size,2,none⟩) (by simp)).trans (Z2 _ rfl)
 have c3:w1.cell? ⟨w.heap.size,3,none⟩=some (.int .i64 my):=(hb.cell (p:=⟨w.heap.size,3,none⟩) (by simp)).trans (Z2 _ rfl)
 have c4:w1.cell? ⟨w.heap.size,4,none⟩=some (.int .i64 gu):=(hb.cell (p:=⟨w.heap.size,4,none⟩) (by simp)).trans (Z2 _ rfl)
 have c5:w1.cell? ⟨w.heap.size,5,none⟩=some (.int .i64 lo):=(hb.cell (p:=⟨w.heap.size,5,none⟩) (by simp)).trans (Z2 _ rfl)
 have c6:w1.cell? ⟨w.heap.size,6,none⟩=some (.int .i64 hi):=(hb.cell (p:=⟨w.heap.size,6,none⟩) (by simp)).trans (Z2 _ rfl)
 have c7:w1.cell? ⟨w.heap.size,7,none⟩=some (.int .i64 hd):=(hb.cell (p:=⟨w.heap.size,7,none⟩) (by simp)).trans (Z2 _ rfl)
 have c8:w1.cell? ⟨w.heap.size,8,none⟩=some (.int .i64 ca):=(hb.cell (p:=⟨w.heap.size,8,none⟩) (by simp)).trans (Z2 _ rfl)
 have c9:w1.cell? ⟨w.heap.size,9,none⟩=some (.int .i64 ut):=(hb.cell (p:=⟨w.heap.size,9,none⟩) (by simp)).trans (Z2 _ rfl)
 have c10:w1.cell? ⟨w.heap.size,10,none⟩=some (.int .i64 wk):=(hb.cell (p:=⟨w.heap.size,10,none⟩) (by simp)).trans (Z2 _ rfl)
 have Hb:=Z9 (((Below.refl w.heap.size w).alloc (Nat.le_refl _) _).trans (hb.mono (by simp)))
 clear hb
 go_wp2_with fail
 go_ret
 exact ⟨rfl,uh Hb⟩
theorem OR {st be rk my gu lo hi hd ca ut wk:Int} (hg:Wb (st,be,rk,my,gu,lo,hi,hd,ca,ut,wk)=false) (hp:Zf (st,be,rk,my,gu,lo,hi,hd,ca,ut,wk)=false) (w:World):Calls Tryz.prog 273 #[.agg #[.int .i64 st,.int .i64 be,.int .i64 rk,.int .i64 my,.int .i64 gu,.int .i64 lo,.int .i64 hi,.int .i64 hd,.int .i64 ca,.int .i64 ut,.int .i64 wk]] w fun e w'=>e= .returned (.iface 261 (.agg #[]))/\Below w.heap.size w w':=by
 have hz:UU (st,be,rk,my,gu,lo,hi,hd,ca,ut,wk) (0,0,0,0,0,0,0,0,0,0,0)=false:=hg
 have Hp:=Z9 hp
 clear hg hp
 go_enter Tryz.func273,Tryz.ntmps273
 go_wp2_with fail
 refine (SZ st be rk my gu lo hi hd ca ut wk _).mono ?_
 rw [uh Hp]
 rintro e w1 ⟨rfl,hb⟩
 have Hb:=Z9 (((Below.refl w.heap.size w).alloc (Nat.le_refl _) _).trans (hb.mono (by simp)))
 clear hb
 go_wp2_with fail
 go_ret
 exact ⟨rfl,uh Hb⟩
theorem EL (w : World) : (method 393 258 (.agg #[]) "loop.example/g00553/impl.isSmith").run Tryz.prog w = .ok (344, .agg #[]) w := by kernel_rfl
theorem Ff (w : World) : (method 393 261 (.agg #[]) "loop.example/g00553/impl.isSmith").run Tryz.prog w = .ok (346, .agg #[]) w := by kernel_rfl
theorem EM (st be rk my gu lo hi hd ca ut wk : Int) (w : World) : (method 393 260 (.agg #[.int .i64 st, .int .i64 be, .int .i64 rk, .int .i64 my, .int .i64 gu, .int .i64 lo, .int .i64 hi, .int .i64 hd, .int .i64 ca, .int .i64 ut, .int .i64 wk]) "loop.example/g00553/impl.isSmith").run Tryz.prog w = .ok (345, .agg #[.int .i64 st, .int .i64 be, .int .i64 rk, .int .i64 my, .int .i64 gu, .int .i64 lo, .int .i64 hi, .int .i64 hd, .int .i64 ca, .int .i64 ut, .int .i64 wk]) w := by kernel_rfl
theorem JK (w:World):Calls Tryz.prog 344 #[.agg #[]] w fun e w'=>e= .returned (.bool true)/\Below w.heap.size w w':=by
 go_enter Tryz.func344,Tryz.ntmps344
 go_wp2_with fail
 go_ret
 exact ⟨rfl,(Below.refl _ _).alloc (Nat.le_refl _) _⟩
theorem MT (w:World):Calls Tryz.prog 346 #[.agg #[]] w fun e w'=>e= .returned (.bool false)/\Below w.heap.size w w':=by
 go_enter Tryz.func346,Tryz.ntmps346
 go_wp2_with fail
 go_ret
 exact ⟨rfl,(Below.refl _ _).alloc (Nat.le_refl _) _⟩
theorem Km (st be rk my gu lo hi hd ca ut wk:Int) (w:World):Calls Tryz.prog 345 #[.agg #[.int .i64 st,.int .i64 be,.int .i64 rk,.int .i64 my,.int .i64 gu,.int .i64 lo,.int .i64 hi,.int .i64 hd,.int .i64 ca,.int .i64 ut,.int .i64 wk]] w fun e w'=>e= .returned (.bool true)/\Below w.heap.size w w':=by
 go_enter Tryz.func345,Tryz.ntmps345
 go_wp2_with fail
 go_ret
 exact ⟨rfl,(Below.refl _ _).alloc (Nat.le_refl _) _⟩
attribute [local go_sem] EL Ff EM
theorem QB (st be rk my gu lo hi hd ca ut wk:Int) (w:World):Calls Tryz.prog 231 #[.agg #[.int .i64 st,.int .i64 be,.int .i64 rk,.int .i64 my,.int .i64 gu,.int .i64 lo,.int .i64 hi,.int .i64 hd,.int .i64 ca,.int .i64 ut,.int .i64 wk]] w fun e w'=>e= .returned (.bool (ZE (st,be,rk,my,gu,lo,hi,hd,ca,ut,wk)))/\Below w.heap.size w w':=by
 unfold ZE
 cases hg:Wb (st,be,rk,my,gu,lo,hi,hd,ca,ut,wk)
 ·cases hp:Zf (st,be,rk,my,gu,lo,hi,hd,ca,ut,wk)
  ·rw [show (false || false)=false from rfl]
   have Hg:=Z9 hg
   have Hp:=Z9 hp
   clear hg hp
   go_enter Tryz.func231,Tryz.ntmps231
   go_wp2_with fail
   refine (OR (uh Hg) (uh Hp) _).mono ?_
   rintro e w1 ⟨rfl,hb⟩
   have B1:=Z9 (((Below.refl w.heap.size w).alloc (Nat.le_refl _) _).trans (hb.mono (by simp)))
   clear hb
   go_wp2_with fail
   refine (MT _).mono ?_
   rintro e w2 ⟨rfl,hb⟩
   have B2:=Z9 ((uh B1).trans (hb.mono (uh B1).size))
   clear hb
   go_wp2_with fail
   go_ret
   exact ⟨rfl,uh B2⟩
  ·rw [show (false || true)=true from rfl]
   have Hg:=Z9 hg
   have Hp:=Z9 hp
   clear hg hp
   go_enter Tryz.func231,Tryz.ntmps231
   go_wp2_with fail
   refine (NB (uh Hg) (uh Hp) _).mono ?_
   rintro e w1 ⟨rfl,hb⟩
   have B1:=Z9 (((Below.refl w.heap.size w).alloc (Nat.le_refl _) _).trans (hb.mono (by simp)))
   clear hb
   go_wp2_with fail
   refine (Km _ _ _ _ _ _ _ _ _ _ _ _).mono ?_
   rintro e w2 ⟨rfl,hb⟩
   have B2:=Z9 ((uh B1).trans (hb.mono (uh B1).size))
   clear hb
   go_wp2_with fail
   go_ret
   exact ⟨rfl,uh B2⟩
 ·rw [Bool.true_or]
  cases Wc hg
  clear hg
  go_enter Tryz.func231,Tryz.ntmps231
  go_wp2_with fail
  refine (NA _).mono ?_
  rintro e w1 ⟨rfl,hb⟩
  have B1:=Z9 (((Below.refl w.heap.size w).alloc (Nat.le_refl _) _).trans (hb.mono (by simp)))
  clear hb
  go_wp2_with fail
  refine (JK _).mono ?_
  rintro e w2 ⟨rfl,hb⟩
  have B2:=Z9 ((uh B1).trans (hb.mono (uh B1).size))
  clear hb
  go_wp2_with fail
  go_ret
  exact ⟨rfl,uh B2⟩
end Go.Proofs.YtnponpamjddpjaaGreat
