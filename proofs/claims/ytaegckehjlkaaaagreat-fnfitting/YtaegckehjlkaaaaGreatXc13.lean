/- Part 13 of what the proof rests on. No condition but those that a theorem names. -/
import Derived.Test.YtaegckehjlkaaaaGreatXc11
import Derived.RangeFuncNested
import Derived.RangeFuncBound
import Derived.RangeFuncCalls
import Derived.RangeFuncLeaves
import Derived.RangeFuncBox
import Derived.Shelf.Abstract
import Derived.Shelf.RegionOpen
import Derived.OwnWalkIn
import Derived.TacticsInMore
import Derived.LoopNIn
import Derived.LoopIn
set_option maxHeartbeats 8000000
set_option maxRecDepth 100000
namespace Go.Proofs.YtaegckehjlkaaaaGreat
open Go.ChangeShapes Go.WideShapes Go.ChangeAt Go.RowKit Go.Shelf
set_option linter.unusedVariables false
attribute [local go_sem] Oper.semAt_some
def KeepsBox (Bn:Nat) (t:TypeId) (W W':World):Prop:= ∀ v,Boxed W Bn t v->Boxed W' Bn t v
theorem KeepsBox.trans {Bn:Nat} {t:TypeId} {A B C:World} (h:KeepsBox Bn t A B) (k:KeepsBox Bn t B C):KeepsBox Bn t A C:=fun v hv=>k v (h v hv)
theorem KeepsBox.putObj {Bn:Nat} {t:TypeId} {n:Nat} (h:Bn<n) (W:World) (l:Nat) (o o':Obj) (hl:n<=l) (_:W.heap[l]?=some o) (_:o.isCells=false) (_:o.isWalk=false):KeepsBox Bn t W (W.putObj l o'):=
 fun v hv=>hv.kept (grownBy_putObj' W l o') (fun e=>by cases e;omega)
theorem KK (n:Nat) (hn:1<=n) (l Bn:Nat) (s:Int) (J Jx:List Int->World->Prop)
  (hY:∀ pre x W,J pre W->pre.length<8->YieldAt Fence.wide (n-1) Tryz.prog l #[.int .i64 x] W fun e W'=>
   (e= .returned (.bool true)/\J (pre++[x]) W'/\KeepsBox Bn 2 W W')\/(e= .returned (.bool false)/\Jx (pre++[x]) W'))
  (W:World) (hBn:Boxed W Bn 2 (.int .i64 s)) (h0:J [] W) :
  CallsIn Fence.wide n Tryz.prog 295 #[.func (.yield l) #[] #[],.pointer (some ⟨Bn,0,none⟩)] W fun e W'=>(∃ v,e= .returned v)/\
   ((∃ ys,ys=TF s/\J ys W')\/(∃ pre,pre <+: TF s/\Jx pre W')):=by
 refine callsIn_of_wp Tryz.func295 rfl trivial ?_ rfl
 simp only [Tryz.ntmps295,List.size_toArray,List.length_cons,List.length_nil,Nat.reduceAdd,Nat.reduceSub,Array.replicate_succ,Array.replicate_zero,List.push_toArray,List.append_toArray,List.nil_append,List.cons_append]
 gi_wp2
 gi_loopw [4] (fun i wr=> ∃ k:Nat,k<=8/\i= .int .i64 k/\Boxed wr Bn 2 (.int .i64 s)/\J (Vt s k) wr)
  (fun i wr=>8-(intOf i).toNat)
 case atStart=>exact ⟨0,by omega,rfl,hBn,h0⟩
 case round=>
  obtain ⟨k,hk,rfl,hbx,hJ⟩:=hrel
  have hul:=LA s k
  have hc:=hbx.cell
  have Hb:=Z9 hbx
  clear hbx
  by_cases hlt:(k:Int)<8
  ·cases hm:Vm s k
   ·gi_wp2_with (refine ⟨trivial,?_⟩;gi_at_call 141;refine (callsIn_wide.2 (VS _ _ _)).mono ?_;rintro e w' ⟨rfl,rfl⟩)
    refine ⟨fun _ h=>(by cases h),?_⟩
    gi_wp2
    go_roundw
    case rel=>exact ⟨k+1,by omega,by go_num,uh Hb,by rw [Vg hm];exact hJ⟩
    case measure=>simp [intOf];omega
   ·obtain ⟨fn,tmps,assign,body,hy,hR⟩:=hY (Vt s k) k wr hJ (by omega)
    gi_wp2_with (refine ⟨trivial,?_⟩;gi_at_call 141;refine (callsIn_wide.2 (VS _ _ _)).mono ?_;rintro e w' ⟨rfl,rfl⟩)
    refine hR.mono ?_
    rintro e W3 (⟨rfl,hJ3,hk3⟩ | ⟨rfl,hJx3⟩)
    ·gi_wp2
     go_roundw
     case rel=>exact ⟨k+1,by omega,by go_num,hk3 _ (uh Hb),by rw [S8 hm];exact hJ3⟩
     case measure=>simp [intOf];omega
    ·gi_wp2
     refine bodyPost_ret (results_none rfl _ _ _) rfl ?_
     exact ⟨⟨_,rfl⟩,.inr ⟨Vt s k++[(k:Int)],by rw [<-S8 hm];exact EM s (k+1) (by omega),hJx3⟩⟩
  ·obtain rfl:k=8:=by omega
   gi_wp2
   go_end0
   exact ⟨⟨_,rfl⟩,.inl hJ⟩
theorem TE (n:Nat) (s:Int) (w:World) :
  CallsIn Fence.wide n Tryz.prog 272 #[.int .i64 s] w fun e w'=>e= .returned (.func (.func 295) #[] #[.pointer (some ⟨w.heap.size,0,none⟩)])/\w'=w.alloc (.cells #[.int .i64 s] 2):=by
 refine callsIn_of_wp Tryz.func272 rfl trivial ?_ rfl
 simp only [Tryz.ntmps272,List.size_toArray,List.length_cons,List.length_nil,Nat.reduceAdd,Nat.reduceSub,Array.replicate_succ,Array.replicate_zero,List.push_toArray,List.append_toArray,List.nil_append,List.cons_append]
 gi_wp2
 go_ret
 exact ⟨rfl,rfl⟩
theorem Uv (n:Nat) (hn:1<=n) (Bn:Nat) (s:Int) (w:World) (hBn:Boxed w Bn 2 (.int .i64 s)) :
  SeqStopsK Fence.wide n Tryz.prog 295 #[.pointer (some ⟨Bn,0,none⟩)] (fun x:Int=>#[Value.int .i64 x]) (KeepsBox Bn 2) (fun ys=>ys=TF s) (fun pre=>pre <+: TF s) 8 w:=fun l J Jx W hW _ _ hY h0=>
 KK n hn l Bn s J Jx hY W ((hW.block Bn hBn.lt).trans hBn) h0
theorem Ox (n:Nat) (hn:3<=n) (s:Int) (w:World) :
  CallsIn Fence.wide n Tryz.prog 310 #[.int .i64 s] w fun e w'=>e= .returned (.int .i64 (Wb s))/\Below w.heap.size w w':=by
 have h1:1<=n:=by omega
 refine callsIn_of_wp_marks Tryz.func310 rfl trivial ?_ rfl
 simp only [Tryz.ntmps310,List.size_toArray,List.length_cons,List.length_nil,Nat.reduceAdd,Nat.reduceSub,Array.replicate_succ,Array.replicate_zero,List.push_toArray,List.append_toArray,List.nil_append,List.cons_append]
 gi_wp2_with (refine ⟨trivial,?_⟩;gi_at_call 272;refine (TE (n-1) _ _).mono ?_;rintro e w' ⟨rfl,rfl⟩)
 have bR:=Boxed.new w 2 (.int .i64 0)
 have bN:=Boxed.new (w.alloc (.cells #[.int .i64 0] 2)) 2 (.int .i64 s)
 simp only [World.size_alloc] at bN
 have hB0:Below w.heap.size w ((w.alloc (.cells #[.int .i64 0] 2)).alloc (.cells #[.int .i64 s] 2)):=((Below.refl _ w).alloc (Nat.le_refl _) _).alloc (by simp) _
 refine wpIn_rangeFunc_ownG rfl h1 (gf:=295) (lb:=#[.pointer (some ⟨w.heap.size+1,0,none⟩)]) rfl trivial (enters_of Tryz.func295 (by kernel_rfl) rfl)
  (Uv (n-1) (by omega) (w.heap.size+1) s _ bN) (fun h k=>h.trans k) (KeepsBox.putObj (by simp)) (Below.refl _ _) (fun _=>rfl)
  (fun pre W=>(pre=[]/\Boxed W w.heap.size 2 (.int .i64 0))/\Below w.heap.size w W)
  (fun c pre W=>(c= .ret/\ ∃ x,pre=[x]/\Boxed W w.heap.size 2 (.int .i64 x))/\Below w.heap.size w W)
  (OwnFrom.and (Own.from (fun s A B row hs hg hr=>⟨hs.1,hs.2.kept hg (fun e=>by obtain ⟨o,ho,hc⟩:=hr _ e.symm;rw [show A.heap[w.heap.size]?=_ from hs.2] at ho;cases ho;cases hc)⟩) _) (ownFrom_below (Nat.le_refl _) (by simp;omega)))
  (fun c=>OwnFrom.and (Own.from (fun s A B row hs hg hr=>by obtain ⟨e1,x,e2,hb⟩:=hs;exact ⟨e1,x,e2,hb.kept hg (fun e=>by obtain ⟨o,ho,hc⟩:=hr _ e.symm;rw [show A.heap[w.heap.size]?=_ from hb] at ho;cases ho;cases hc)⟩) _) (ownFrom_below (Nat.le_refl _) (by simp;omega)))
  ⟨⟨rfl,bR.alloc _⟩,hB0⟩
  (fun x=>{ tmps:=#[.int .i64 s,undef,.pointer (some ⟨w.heap.size,0,none⟩),.int .i64 x,.int .i64 s,.func (.func 295) #[] #[.pointer (some ⟨w.heap.size+1,0,none⟩)],.int .i64 x,undef],defers:=[] }) ?assign ?body ?done ?stop
 case assign=>
  intro l x W K hK
  gi_wp2
  exact hK
 case body=>
  rintro l pre x W ⟨⟨rfl,hb⟩,hB⟩ _
  have hc:=hb.cell
  have hf:=hb.frozen
  gi_wp2
  exact ⟨(KeepsOthers.setCell _ _ _).from _,⟨rfl,x,rfl,hb.set _⟩,hB.setCell (p:=⟨w.heap.size,0,none⟩) (Nat.le_refl _) _⟩
 case done=>
  rintro D ys W hD hys ⟨⟨hp,hb⟩,hB⟩ hK
  have hc:=hb.cell
  have hf:=hb.frozen
  gi_wp2
  have hK':=(KeepsOthers.setCell W ⟨w.heap.size,0,none⟩ (.int .i64 (-1))).same D _ hK rfl
  refine ⟨by simp,.inl ⟨_,_,rfl,run_takeDeferred hK',?_⟩⟩
  have hc5:=cell_kept (hb.set (.int .i64 (-1))).cell (grownBy_putObj' _ D (.deferred none)) (fun r e=>by cases e;exact ⟨_,hK',rfl⟩)
  have hm:TF s=[]:=hys.symm.trans hp
  refine ⟨.int .i64 (-1),?_,ZJ (by unfold Wb;rw [hm];rfl),(hB.setCell (p:=⟨w.heap.size,0,none⟩) (Nat.le_refl _) _).trans (belowK_b (w:=w) (Nat.le_refl _) _ D _ _ (by simp at hD;omega) hK' rfl rfl)⟩
  simp [results,Tryz.f310,go_sem,hc5]
 case stop=>
  rintro D c pre W hD hpre ⟨⟨rfl,x,rfl,hb⟩,hB⟩ hK
  gi_wp2
  refine ⟨by simp,.inl ⟨_,_,rfl,run_takeDeferred hK,?_⟩⟩
  have hc5:=cell_kept hb.cell (grownBy_putObj' _ D (.deferred none)) (fun r e=>by cases e;exact ⟨_,hK,rfl⟩)
  have hx:Wb s=x:=by obtain ⟨r,hr⟩:=hpre;unfold Wb;rw [<-hr];rfl
  refine ⟨.int .i64 x,?_,ZJ hx.symm,hB.trans (belowK_b (w:=w) (Nat.le_refl _) W D _ _ (by simp at hD;omega) hK rfl rfl)⟩
  simp [results,Tryz.f310,go_sem,hc5]
theorem PF (s:Int) (w:World):Calls Tryz.prog 310 #[.int .i64 s] w fun e w'=>e= .returned (.int .i64 (Wb s))/\Below w.heap.size w w':=
 callsIn_wide.1 (Ox 3 (Nat.le_refl _) s w)
end Go.Proofs.YtaegckehjlkaaaaGreat
namespace Go.Proofs.YtaegckehjlkaaaaGreat
open Go.ChangeShapes Go.WideShapes Go.ChangeAt Go.RowKit Go.Sort
set_option linter.unusedVariables false
theorem Ff:∀ k:Fin 256,(Wb (k.val:Int) != -1)=inB (k.val:Int) 1 255:=by decide +kernel
theorem Fg (s:Int):(Wb s != -1)=inB s 1 255:=by
 cases h:inB s 0 255
 ·have hf:Wb s= -1:=by unfold Wb TF;rw [Nw h];rfl
  have h2:s<0\/255<s:=by
   rcases Int.lt_or_le s 0 with h1 | h1
   ·exact .inl h1
   ·rcases Int.lt_or_le 255 s with h2 | h2
    ·exact .inr h2
    ·rw [Zq h1 h2] at h;cases h
  rw [hf,W7 (by omega)];rfl
 ·obtain ⟨h0,h1⟩:=ZV h
  obtain ⟨n,rfl⟩:=Int.eq_ofNat_of_zero_le h0
  exact Ff ⟨n,by omega⟩
theorem NF {s f:Int} (h:Wb s=f) (w:World):Calls Tryz.prog 310 #[.int .i64 s] w fun e w'=>e= .returned (.int .i64 f)/\Below w.heap.size w w':=by
 have:=PF s w;rw [h] at this;exact this
theorem Wx (s:Int) (w:World):Calls Tryz.prog 302 #[.int .i64 s] w fun e w'=>e= .returned (.bool (inB s 1 255))/\Below w.heap.size w w':=by
 have hf:=Fg s
 obtain ⟨f,hv⟩:∃ f,Wb s=f:=⟨_,rfl⟩
 have Hv:=Z9 hv
 rw [hv] at hf
 have Hf:=Z9 hf
 clear hf hv
 go_enter Tryz.func302,Tryz.ntmps302
 go_wp2_with fail
 refine (NF (uh Hv) _).mono ?_
 rintro e w1 ⟨rfl,hb⟩
 go_wp2_with fail
 go_ret
 exact ⟨Z7 (uh Hf),hb⟩
theorem Ku (c r:Int) (w:World):Calls Tryz.prog 303 #[.int .i64 c,.int .i64 r] w fun e w'=>e= .returned (.bool (inB c 0 (Zl r-1)))/\w'=w:=by
 obtain ⟨x,hv⟩:∃ x,Zl r=x:=⟨_,rfl⟩
 have Hv:=Z9 hv
 rw [hv]
 clear hv
 by_cases h0:0<=c
 ·by_cases h1:c<x
  ·rw [Zq (x:=c) (lo:=0) (hi:=x-1) h0 (by omega)]
   go_enter Tryz.func303,Tryz.ntmps303
   go_wp2_with (go_at_call 311;refine (SM (uh Hv) _).mono ?_;rintro e w' ⟨rfl,rfl⟩)
   go_ret
   exact ⟨rfl,rfl⟩
  ·rw [W7 (x:=c) (lo:=0) (hi:=x-1) (by omega)]
   go_enter Tryz.func303,Tryz.ntmps303
   go_wp2_with (go_at_call 311;refine (SM (uh Hv) _).mono ?_;rintro e w' ⟨rfl,rfl⟩)
   go_ret
   exact ⟨Z7 (b:=false) (by rw [decide_eq_false_iff_not];omega),rfl⟩
 ·rw [W7 (x:=c) (lo:=0) (hi:=x-1) (by omega)]
  go_enter Tryz.func303,Tryz.ntmps303
  go_wp2_with fail
  go_ret
  exact ⟨rfl,rfl⟩
theorem Zz (n:Int) (w:World):Calls Tryz.prog 262 #[.int .i64 n] w fun e w'=>e= .returned (.bool (inB n (-1000000000000) 1000000000000))/\w'=w:=by
 go_enter Tryz.func262,Tryz.ntmps262
 go_wp2_with (go_at_call 184;refine (ZW _ _ _ _).mono ?_;rintro e w' ⟨rfl,rfl⟩)
 go_ret
 exact ⟨rfl,rfl⟩
theorem YT {c r:Int} {q:Bool} (h:inB c 0 (Zl r-1)=q) (w:World):Calls Tryz.prog 303 #[.int .i64 c,.int .i64 r] w fun e w'=>e= .returned (.bool q)/\w'=w:=by
 have:=Ku c r w;rw [h] at this;exact this
theorem DN (x:Int):inB x 0 (0-1)=false:=by
 refine W7 ?_
 rcases Int.lt_or_le x 0 with h | h
 ·exact .inl h
 ·exact .inr (by omega)
theorem Eg (st be rk my gu lo hi hd ca ut wk:Int):YY (st,be,rk,my,gu,lo,hi,hd,ca,ut,wk)=(inB st 1 3 && (inB be 0 7 && (inB my 1 255 && (inB gu (-1) 5 && (Yr lo hi && (inB hd (-1000000000000) 1000000000000 && (inB ca 0 (Zl rk-1) && (inB ut 0 1024 && (inB wk 0 100000000000))))))))):=by
 unfold YY
 simp only
 cases hr:inB rk (-5) 5
 ·rw [Ws hr,show inB ca 0 (0-1)=false from DN ca]
  simp
 ·simp only [Bool.true_and]
theorem Sc (st be rk my gu lo hi hd ca ut wk:Int) (w:World):Calls Tryz.prog 292 #[.agg #[.int .i64 st,.int .i64 be,.int .i64 rk,.int .i64 my,.int .i64 gu,.int .i64 lo,.int .i64 hi,.int .i64 hd,.int .i64 ca,.int .i64 ut,.int .i64 wk]] w fun e w'=>e= .returned (.bool (YY (st,be,rk,my,gu,lo,hi,hd,ca,ut,wk)))/\Below w.heap.size w w':=by
 rw [Eg]
 obtain ⟨qc,hqc⟩:∃ q,inB ca 0 (Zl rk-1)=q:=⟨_,rfl⟩
 have Hc:=Z9 hqc
 rw [hqc]
 clear hqc
 cases h_st:inB st 1 3
 ·go_enter Tryz.func292,Tryz.ntmps292
  go_wp2_with (first | (go_at_call 184;refine (ZW _ _ _ _).mono ?_;rintro e w' ⟨rfl,rfl⟩) | (go_at_call 194;refine (ZB _ _).mono ?_;rintro e w' ⟨rfl,rfl⟩) | (go_at_call 217;refine (ZG _ _ _).mono ?_;rintro e w' ⟨rfl,rfl⟩) | (go_at_call 262;refine (Zz _ _).mono ?_;rintro e w' ⟨rfl,rfl⟩) | (go_at_call 303;refine (YT (uh Hc) _).mono ?_;rintro e w' ⟨rfl,rfl⟩) | (go_at_call 304;refine (Y3 _ _).mono ?_;rintro e w' ⟨rfl,rfl⟩))
  go_ret
  exact ⟨rfl,(Below.refl _ _).alloc (Nat.le_refl _) _⟩
 cases h_be:inB be 0 7
 ·go_enter Tryz.func292,Tryz.ntmps292
  go_wp2_with (first | (go_at_call 184;refine (ZW _ _ _ _).mono ?_;rintro e w' ⟨rfl,rfl⟩) | (go_at_call 194;refine (ZB _ _).mono ?_;rintro e w' ⟨rfl,rfl⟩) | (go_at_call 217;refine (ZG _ _ _).mono ?_;rintro e w' ⟨rfl,rfl⟩) | (go_at_call 262;refine (Zz _ _).mono ?_;rintro e w' ⟨rfl,rfl⟩) | (go_at_call 303;refine (YT (uh Hc) _).mono ?_;rintro e w' ⟨rfl,rfl⟩) | (go_at_call 304;refine (Y3 _ _).mono ?_;rintro e w' ⟨rfl,rfl⟩))
  go_ret
  exact ⟨rfl,(Below.refl _ _).alloc (Nat.le_refl _) _⟩
 cases h_my:inB my 1 255
 ·go_enter Tryz.func292,Tryz.ntmps292
  go_wp2_with (first | (go_at_call 184;refine (ZW _ _ _ _).mono ?_;rintro e w' ⟨rfl,rfl⟩) | (go_at_call 194;refine (ZB _ _).mono ?_;rintro e w' ⟨rfl,rfl⟩) | (go_at_call 217;refine (ZG _ _ _).mono ?_;rintro e w' ⟨rfl,rfl⟩) | (go_at_call 262;refine (Zz _ _).mono ?_;rintro e w' ⟨rfl,rfl⟩) | (go_at_call 303;refine (YT (uh Hc) _).mono ?_;rintro e w' ⟨rfl,rfl⟩) | (go_at_call 304;refine (Y3 _ _).mono ?_;rintro e w' ⟨rfl,rfl⟩))
  refine (Wx _ _).mono ?_
  rintro e w1 ⟨rfl,hb⟩
  have c2:w1.cell? ⟨w.heap.size,2,none⟩=some (.int .i64 rk):=(hb.cell (p:=⟨w.heap.size,2,none⟩) (by simp)).trans (Z2 _ rfl)
  have c4:w1.cell? ⟨w.heap.size,4,none⟩=some (.int .i64 gu):=(hb.cell (p:=⟨w.heap.size,4,none⟩) (by simp)).trans (Z2 _ rfl)
  have c5:w1.cell? ⟨w.heap.size,5,none⟩=some (.int .i64 lo):=(hb.cell (p:=⟨w.heap.size,5,none⟩) (by simp)).trans (Z2 _ rfl)
  have c6:w1.cell? ⟨w.heap.size,6,none⟩=some (.int .i64 hi):=(hb.cell (p:=⟨w.heap.size,6,none⟩) (by simp)).trans (Z2 _ rfl)
  have c7:w1.cell? ⟨w.heap.size,7,none⟩=some (.int .i64 hd):=(hb.cell (p:=⟨w.heap.size,7,none⟩) (by simp)).trans (Z2 _ rfl)
  have c8:w1.cell? ⟨w.heap.size,8,none⟩=some (.int .i64 ca):=(hb.cell (p:=⟨w.heap.size,8,none⟩) (by simp)).trans (Z2 _ rfl)
  have c9:w1.cell? ⟨w.heap.size,9,none⟩=some (.int .i64 ut):=(hb.cell (p:=⟨w.heap.size,9,none⟩) (by simp)).trans (Z2 _ rfl)
  have c10:w1.cell? ⟨w.heap.size,10,none⟩=some (.int .i64 wk):=(hb.cell (p:=⟨w.heap.size,10,none⟩) (by simp)).trans (Z2 _ rfl)
  have Hb:=Z9 (((Below.refl w.heap.size w).alloc (Nat.le_refl _) _).trans (hb.mono (by simp)))
  clear hb
  go_wp2_with (first | (go_at_call 184;refine (ZW _ _ _ _).mono ?_;rintro e w' ⟨rfl,rfl⟩) | (go_at_call 194;refine (ZB _ _).mono ?_;rintro e w' ⟨rfl,rfl⟩) | (go_at_call 217;refine (ZG _ _ _).mono ?_;rintro e w' ⟨rfl,rfl⟩) | (go_at_call 262;refine (Zz _ _).mono ?_;rintro e w' ⟨rfl,rfl⟩) | (go_at_call 303;refine (YT (uh Hc) _).mono ?_;rintro e w' ⟨rfl,rfl⟩) | (go_at_call 304;refine (Y3 _ _).mono ?_;rintro e w' ⟨rfl,rfl⟩))
  go_ret
  exact ⟨rfl,uh Hb⟩
 cases h_gu:inB gu (-1) 5
 ·go_enter Tryz.func292,Tryz.ntmps292
  go_wp2_with (first | (go_at_call 184;refine (ZW _ _ _ _).mono ?_;rintro e w' ⟨rfl,rfl⟩) | (go_at_call 194;refine (ZB _ _).mono ?_;rintro e w' ⟨rfl,rfl⟩) | (go_at_call 217;refine (ZG _ _ _).mono ?_;rintro e w' ⟨rfl,rfl⟩) | (go_at_call 262;refine (Zz _ _).mono ?_;rintro e w' ⟨rfl,rfl⟩) | (go_at_call 303;refine (YT (uh Hc) _).mono ?_;rintro e w' ⟨rfl,rfl⟩) | (go_at_call 304;refine (Y3 _ _).mono ?_;rintro e w' ⟨rfl,rfl⟩))
  refine (Wx _ _).mono ?_
  rintro e w1 ⟨rfl,hb⟩
  have c2:w1.cell? ⟨w.heap.size,2,none⟩=some (.int .i64 rk):=(hb.cell (p:=⟨w.heap.size,2,none⟩) (by simp)).trans (Z2 _ rfl)
  have c4:w1.cell? ⟨w.heap.size,4,none⟩=some (.int .i64 gu):=(hb.cell (p:=⟨w.heap.size,4,none⟩) (by simp)).trans (Z2 _ rfl)
  have c5:w1.cell? ⟨w.heap.size,5,none⟩=some (.int .i64 lo):=(hb.cell (p:=⟨w.heap.size,5,none⟩) (by simp)).trans (Z2 _ rfl)
  have c6:w1.cell? ⟨w.heap.size,6,none⟩=some (.int .i64 hi):=(hb.cell (p:=⟨w.heap.size,6,none⟩) (by simp)).trans (Z2 _ rfl)
  have c7:w1.cell? ⟨w.heap.size,7,none⟩=some (.int .i64 hd):=(hb.cell (p:=⟨w.heap.size,7,none⟩) (by simp)).trans (Z2 _ rfl)
  have c8:w1.cell? ⟨w.heap.size,8,none⟩=some (.int .i64 ca):=(hb.cell (p:=⟨w.heap.size,8,none⟩) (by simp)).trans (Z2 _ rfl)
  have c9:w1.cell? ⟨w.heap.size,9,none⟩=some (.int .i64 ut):=(hb.cell (p:=⟨w.heap.size,9,none⟩) (by simp)).trans (Z2 _ rfl)
  have c10:w1.cell? ⟨w.heap.size,10,none⟩=some (.int .i64 wk):=(hb.cell (p:=⟨w.heap.size,10,none⟩) (by simp)).trans (Z2 _ rfl)
  have Hb:=Z9 (((Below.refl w.heap.size w).alloc (Nat.le_refl _) _).trans (hb.mono (by simp)))
  clear hb
  go_wp2_with (first | (go_at_call 184;refine (ZW _ _ _ _).mono ?_;rintro e w' ⟨rfl,rfl⟩) | (go_at_call 194;refine (ZB _ _).mono ?_;rintro e w' ⟨rfl,rfl⟩) | (go_at_call 217;refine (ZG _ _ _).mono ?_;rintro e w' ⟨rfl,rfl⟩) | (go_at_call 262;refine (Zz _ _).mono ?_;rintro e w' ⟨rfl,rfl⟩) | (go_at_call 303;refine (YT (uh Hc) _).mono ?_;rintro e w' ⟨rfl,rfl⟩) | (go_at_call 304;refine (Y3 _ _).mono ?_;rintro e w' ⟨rfl,rfl⟩))
  go_ret
  exact ⟨rfl,uh Hb⟩
 cases h_pr:Yr lo hi
 ·go_enter Tryz.func292,Tryz.ntmps292
  go_wp2_with (first | (go_at_call 184;refine (ZW _ _ _ _).mono ?_;rintro e w' ⟨rfl,rfl⟩) | (go_at_call 194;refine (ZB _ _).mono ?_;rintro e w' ⟨rfl,rfl⟩) | (go_at_call 217;refine (ZG _ _ _).mono ?_;rintro e w' ⟨rfl,rfl⟩) | (go_at_call 262;refine (Zz _ _).mono ?_;rintro e w' ⟨rfl,rfl⟩) | (go_at_call 303;refine (YT (uh Hc) _).mono ?_;rintro e w' ⟨rfl,rfl⟩) | (go_at_call 304;refine (Y3 _ _).mono ?_;rintro e w' ⟨rfl,rfl⟩))
  refine (Wx _ _).mono ?_
  rintro e w1 ⟨rfl,hb⟩
  have c2:w1.cell? ⟨w.heap.size,2,none⟩=some (.int .i64 rk):=(hb.cell (p:=⟨w.heap.size,2,none⟩) (by simp)).trans (Z2 _ rfl)
  have c4:w1.cell? ⟨w.heap.size,4,none⟩=some (.int .i64 gu):=(hb.cell (p:=⟨w.heap.size,4,none⟩) (by simp)).trans (Z2 _ rfl)
  have c5:w1.cell? ⟨w.heap.size,5,none⟩=some (.int .i64 lo):=(hb.cell (p:=⟨w.heap.size,5,none⟩) (by simp)).trans (Z2 _ rfl)
  have c6:w1.cell? ⟨w.heap.size,6,none⟩=some (.int .i64 hi):=(hb.cell (p:=⟨w.heap.size,6,none⟩) (by simp)).trans (Z2 _ rfl)
  have c7:w1.cell? ⟨w.heap.size,7,none⟩=some (.int .i64 hd):=(hb.cell (p:=⟨w.heap.size,7,none⟩) (by simp)).trans (Z2 _ rfl)
  have c8:w1.cell? ⟨w.heap.size,8,none⟩=some (.int .i64 ca):=(hb.cell (p:=⟨w.heap.size,8,none⟩) (by simp)).trans (Z2 _ rfl)
  have c9:w1.cell? ⟨w.heap.size,9,none⟩=some (.int .i64 ut):=(hb.cell (p:=⟨w.heap.size,9,none⟩) (by simp)).trans (Z2 _ rfl)
  have c10:w1.cell? ⟨w.heap.size,10,none⟩=some (.int .i64 wk):=(hb.cell (p:=⟨w.heap.size,10,none⟩) (by simp)).trans (Z2 _ rfl)
  have Hb:=Z9 (((Below.refl w.heap.size w).alloc (Nat.le_refl _) _).trans (hb.mono (by simp)))
  clear hb
  go_wp2_with (first | (go_at_call 184;refine (ZW _ _ _ _).mono ?_;rintro e w' ⟨rfl,rfl⟩) | (go_at_call 194;refine (ZB _ _).mono ?_;rintro e w' ⟨rfl,rfl⟩) | (go_at_call 217;refine (ZG _ _ _).mono ?_;rintro e w' ⟨rfl,rfl⟩) | (go_at_call 262;refine (Zz _ _).mono ?_;rintro e w' ⟨rfl,rfl⟩) | (go_at_call 303;refine (YT (uh Hc) _).mono ?_;rintro e w' ⟨rfl,rfl⟩) | (go_at_call 304;refine (Y3 _ _).mono ?_;rintro e w' ⟨rfl,rfl⟩))
  go_ret
  exact ⟨rfl,uh Hb⟩
 cases h_hd:inB hd (-1000000000000) 1000000000000
 ·go_enter Tryz.func292,Tryz.ntmps292
  go_wp2_with (first | (go_at_call 184;refine (ZW _ _ _ _).mono ?_;rintro e w' ⟨rfl,rfl⟩) | (go_at_call 194;refine (ZB _ _).mono ?_;rintro e w' ⟨rfl,rfl⟩) | (go_at_call 217;refine (ZG _ _ _).mono ?_;rintro e w' ⟨rfl,rfl⟩) | (go_at_call 262;refine (Zz _ _).mono ?_;rintro e w' ⟨rfl,rfl⟩) | (go_at_call 303;refine (YT (uh Hc) _).mono ?_;rintro e w' ⟨rfl,rfl⟩) | (go_at_call 304;refine (Y3 _ _).mono ?_;rintro e w' ⟨rfl,rfl⟩))
  refine (Wx _ _).mono ?_
  rintro e w1 ⟨rfl,hb⟩
  have c2:w1.cell? ⟨w.heap.size,2,none⟩=some (.int .i64 rk):=(hb.cell (p:=⟨w.heap.size,2,none⟩) (by simp)).trans (Z2 _ rfl)
  have c4:w1.cell? ⟨w.heap.size,4,none⟩=some (.int .i64 gu):=(hb.cell (p:=⟨w.heap.size,4,none⟩) (by simp)).trans (Z2 _ rfl)
  have c5:w1.cell? ⟨w.heap.size,5,none⟩=some (.int .i64 lo):=(hb.cell (p:=⟨w.heap.size,5,none⟩) (by simp)).trans (Z2 _ rfl)
  have c6:w1.cell? ⟨w.heap.size,6,none⟩=some (.int .i64 hi):=(hb.cell (p:=⟨w.heap.size,6,none⟩) (by simp)).trans (Z2 _ rfl)
  have c7:w1.cell? ⟨w.heap.size,7,none⟩=some (.int .i64 hd):=(hb.cell (p:=⟨w.heap.size,7,none⟩) (by simp)).trans (Z2 _ rfl)
  have c8:w1.cell? ⟨w.heap.size,8,none⟩=some (.int .i64 ca):=(hb.cell (p:=⟨w.heap.size,8,none⟩) (by simp)).trans (Z2 _ rfl)
  have c9:w1.cell? ⟨w.heap.size,9,none⟩=some (.int .i64 ut):=(hb.cell (p:=⟨w.heap.size,9,none⟩) (by simp)).trans (Z2 _ rfl)
  have c10:w1.cell? ⟨w.heap.size,10,none⟩=some (.int .i64 wk):=(hb.cell (p:=⟨w.heap.size,10,none⟩) (by simp)).trans (Z2 _ rfl)
  have Hb:=Z9 (((Below.refl w.heap.size w).alloc (Nat.le_refl _) _).trans (hb.mono (by simp)))
  clear hb
  go_wp2_with (first | (go_at_call 184;refine (ZW _ _ _ _).mono ?_;rintro e w' ⟨rfl,rfl⟩) | (go_at_call 194;refine (ZB _ _).mono ?_;rintro e w' ⟨rfl,rfl⟩) | (go_at_call 217;refine (ZG _ _ _).mono ?_;rintro e w' ⟨rfl,rfl⟩) | (go_at_call 262;refine (Zz _ _).mono ?_;rintro e w' ⟨rfl,rfl⟩) | (go_at_call 303;refine (YT (uh Hc) _).mono ?_;rintro e w' ⟨rfl,rfl⟩) | (go_at_call 304;refine (Y3 _ _).mono ?_;rintro e w' ⟨rfl,rfl⟩))
  go_ret
  exact ⟨rfl,uh Hb⟩
 cases qc
 ·go_enter Tryz.func292,Tryz.ntmps292
  go_wp2_with (first | (go_at_call 184;refine (ZW _ _ _ _).mono ?_;rintro e w' ⟨rfl,rfl⟩) | (go_at_call 194;refine (ZB _ _).mono ?_;rintro e w' ⟨rfl,rfl⟩) | (go_at_call 217;refine (ZG _ _ _).mono ?_;rintro e w' ⟨rfl,rfl⟩) | (go_at_call 262;refine (Zz _ _).mono ?_;rintro e w' ⟨rfl,rfl⟩) | (go_at_call 303;refine (YT (uh Hc) _).mono ?_;rintro e w' ⟨rfl,rfl⟩) | (go_at_call 304;refine (Y3 _ _).mono ?_;rintro e w' ⟨rfl,rfl⟩))
  refine (Wx _ _).mono ?_
  rintro e w1 ⟨rfl,hb⟩
  have c2:w1.cell? ⟨w.heap.size,2,none⟩=some (.int .i64 rk):=(hb.cell (p:=⟨w.heap.size,2,none⟩) (by simp)).trans (Z2 _ rfl)
  have c4:w1.cell? ⟨w.heap.size,4,none⟩=some (.int .i64 gu):=(hb.cell (p:=⟨w.heap.size,4,none⟩) (by simp)).trans (Z2 _ rfl)
  have c5:w1.cell? ⟨w.heap.size,5,none⟩=some (.int .i64 lo):=(hb.cell (p:=⟨w.heap.size,5,none⟩) (by simp)).trans (Z2 _ rfl)
  have c6:w1.cell? ⟨w.heap.size,6,none⟩=some (.int .i64 hi):=(hb.cell (p:=⟨w.heap.size,6,none⟩) (by simp)).trans (Z2 _ rfl)
  have c7:w1.cell? ⟨w.heap.size,7,none⟩=some (.int .i64 hd):=(hb.cell (p:=⟨w.heap.size,7,none⟩) (by simp)).trans (Z2 _ rfl)
  have c8:w1.cell? ⟨w.heap.size,8,none⟩=some (.int .i64 ca):=(hb.cell (p:=⟨w.heap.size,8,none⟩) (by simp)).trans (Z2 _ rfl)
  have c9:w1.cell? ⟨w.heap.size,9,none⟩=some (.int .i64 ut):=(hb.cell (p:=⟨w.heap.size,9,none⟩) (by simp)).trans (Z2 _ rfl)
  have c10:w1.cell? ⟨w.heap.size,10,none⟩=some (.int .i64 wk):=(hb.cell (p:=⟨w.heap.size,10,none⟩) (by simp)).trans (Z2 _ rfl)
  have Hb:=Z9 (((Below.refl w.heap.size w).alloc (Nat.le_refl _) _).trans (hb.mono (by simp)))
  clear hb
  go_wp2_with (first | (go_at_call 184;refine (ZW _ _ _ _).mono ?_;rintro e w' ⟨rfl,rfl⟩) | (go_at_call 194;refine (ZB _ _).mono ?_;rintro e w' ⟨rfl,rfl⟩) | (go_at_call 217;refine (ZG _ _ _).mono ?_;rintro e w' ⟨rfl,rfl⟩) | (go_at_call 262;refine (Zz _ _).mono ?_;rintro e w' ⟨rfl,rfl⟩) | (go_at_call 303;refine (YT (uh Hc) _).mono ?_;rintro e w' ⟨rfl,rfl⟩) | (go_at_call 304;refine (Y3 _ _).mono ?_;rintro e w' ⟨rfl,rfl⟩))
  go_ret
  exact ⟨rfl,uh Hb⟩
 cases h_ut:inB ut 0 1024
 ·go_enter Tryz.func292,Tryz.ntmps292
  go_wp2_with (first | (go_at_call 184;refine (ZW _ _ _ _).mono ?_;rintro e w' ⟨rfl,rfl⟩) | (go_at_call 194;refine (ZB _ _).mono ?_;rintro e w' ⟨rfl,rfl⟩) | (go_at_call 217;refine (ZG _ _ _).mono ?_;rintro e w' ⟨rfl,rfl⟩) | (go_at_call 262;refine (Zz _ _).mono ?_;rintro e w' ⟨rfl,rfl⟩) | (go_at_call 303;refine (YT (uh Hc) _).mono ?_;rintro e w' ⟨rfl,rfl⟩) | (go_at_call 304;refine (Y3 _ _).mono ?_;rintro e w' ⟨rfl,rfl⟩))
  refine (Wx _ _).mono ?_
  rintro e w1 ⟨rfl,hb⟩
  have c2:w1.cell? ⟨w.heap.size,2,none⟩=some (.int .i64 rk):=(hb.cell (p:=⟨w.heap.size,2,none⟩) (by simp)).trans (Z2 _ rfl)
  have c4:w1.cell? ⟨w.heap.size,4,none⟩=some (.int .i64 gu):=(hb.cell (p:=⟨w.heap.size,4,none⟩) (by simp)).trans (Z2 _ rfl)
  have c5:w1.cell? ⟨w.heap.size,5,none⟩=some (.int .i64 lo):=(hb.cell (p:=⟨w.heap.size,5,none⟩) (by simp)).trans (Z2 _ rfl)
  have c6:w1.cell? ⟨w.heap.size,6,none⟩=some (.int .i64 hi):=(hb.cell (p:=⟨w.heap.size,6,none⟩) (by simp)).trans (Z2 _ rfl)
  have c7:w1.cell? ⟨w.heap.size,7,none⟩=some (.int .i64 hd):=(hb.cell (p:=⟨w.heap.size,7,none⟩) (by simp)).trans (Z2 _ rfl)
  have c8:w1.cell? ⟨w.heap.size,8,none⟩=some (.int .i64 ca):=(hb.cell (p:=⟨w.heap.size,8,none⟩) (by simp)).trans (Z2 _ rfl)
  have c9:w1.cell? ⟨w.heap.size,9,none⟩=some (.int .i64 ut):=(hb.cell (p:=⟨w.heap.size,9,none⟩) (by simp)).trans (Z2 _ rfl)
  have c10:w1.cell? ⟨w.heap.size,10,none⟩=some (.int .i64 wk):=(hb.cell (p:=⟨w.heap.size,10,none⟩) (by simp)).trans (Z2 _ rfl)
  have Hb:=Z9 (((Below.refl w.heap.size w).alloc (Nat.le_refl _) _).trans (hb.mono (by simp)))
  clear hb
  go_wp2_with (first | (go_at_call 184;refine (ZW _ _ _ _).mono ?_;rintro e w' ⟨rfl,rfl⟩) | (go_at_call 194;refine (ZB _ _).mono ?_;rintro e w' ⟨rfl,rfl⟩) | (go_at_call 217;refine (ZG _ _ _).mono ?_;rintro e w' ⟨rfl,rfl⟩) | (go_at_call 262;refine (Zz _ _).mono ?_;rintro e w' ⟨rfl,rfl⟩) | (go_at_call 303;refine (YT (uh Hc) _).mono ?_;rintro e w' ⟨rfl,rfl⟩) | (go_at_call 304;refine (Y3 _ _).mono ?_;rintro e w' ⟨rfl,rfl⟩))
  go_ret
  exact ⟨rfl,uh Hb⟩
 cases h_wk:inB wk 0 100000000000
 ·go_enter Tryz.func292,Tryz.ntmps292
  go_wp2_with (first | (go_at_call 184;refine (ZW _ _ _ _).mono ?_;rintro e w' ⟨rfl,rfl⟩) | (go_at_call 194;refine (ZB _ _).mono ?_;rintro e w' ⟨rfl,rfl⟩) | (go_at_call 217;refine (ZG _ _ _).mono ?_;rintro e w' ⟨rfl,rfl⟩) | (go_at_call 262;refine (Zz _ _).mono ?_;rintro e w' ⟨rfl,rfl⟩) | (go_at_call 303;refine (YT (uh Hc) _).mono ?_;rintro e w' ⟨rfl,rfl⟩) | (go_at_call 304;refine (Y3 _ _).mono ?_;rintro e w' ⟨rfl,rfl⟩))
  refine (Wx _ _).mono ?_
  rintro e w1 ⟨rfl,hb⟩
  have c2:w1.cell? ⟨w.heap.size,2,none⟩=some (.int .i64 rk):=(hb.cell (p:=⟨w.heap.size,2,none⟩) (by simp)).trans (Z2 _ rfl)
  have c4:w1.cell? ⟨w.heap.size,4,none⟩=some (.int .i64 gu):=(hb.cell (p:=⟨w.heap.size,4,none⟩) (by simp)).trans (Z2 _ rfl)
  have c5:w1.cell? ⟨w.heap.size,5,none⟩=some (.int .i64 lo):=(hb.cell (p:=⟨w.heap.size,5,none⟩) (by simp)).trans (Z2 _ rfl)
  have c6:w1.cell? ⟨w.heap.size,6,none⟩=some (.int .i64 hi):=(hb.cell (p:=⟨w.heap.size,6,none⟩) (by simp)).trans (Z2 _ rfl)
  have c7:w1.cell? ⟨w.heap.size,7,none⟩=some (.int .i64 hd):=(hb.cell (p:=⟨w.heap.size,7,none⟩) (by simp)).trans (Z2 _ rfl)
  have c8:w1.cell? ⟨w.heap.size,8,none⟩=some (.int .i64 ca):=(hb.cell (p:=⟨w.heap.size,8,none⟩) (by simp)).trans (Z2 _ rfl)
  have c9:w1.cell? ⟨w.heap.size,9,none⟩=some (.int .i64 ut):=(hb.cell (p:=⟨w.heap.size,9,none⟩) (by simp)).trans (Z2 _ rfl)
  have c10:w1.cell? ⟨w.heap.size,10,none⟩=some (.int .i64 wk):=(hb.cell (p:=⟨w.heap.size,10,none⟩) (by simp)).trans (Z2 _ rfl)
  have Hb:=Z9 (((Below.refl w.heap.size w).alloc (Nat.le_refl _) _).trans (hb.mono (by simp)))
  clear hb
  go_wp2_with (first | (go_at_call 184;refine (ZW _ _ _ _).mono ?_;rintro e w' ⟨rfl,rfl⟩) | (go_at_call 194;refine (ZB _ _).mono ?_;rintro e w' ⟨rfl,rfl⟩) | (go_at_call 217;refine (ZG _ _ _).mono ?_;rintro e w' ⟨rfl,rfl⟩) | (go_at_call 262;refine (Zz _ _).mono ?_;rintro e w' ⟨rfl,rfl⟩) | (go_at_call 303;refine (YT (uh Hc) _).mono ?_;rintro e w' ⟨rfl,rfl⟩) | (go_at_call 304;refine (Y3 _ _).mono ?_;rintro e w' ⟨rfl,rfl⟩))
  go_ret
  exact ⟨rfl,uh Hb⟩
 go_enter Tryz.func292,Tryz.ntmps292
 go_wp2_with (first | (go_at_call 184;refine (ZW _ _ _ _).mono ?_;rintro e w' ⟨rfl,rfl⟩) | (go_at_call 194;refine (ZB _ _).mono ?_;rintro e w' ⟨rfl,rfl⟩) | (go_at_call 217;refine (ZG _ _ _).mono ?_;rintro e w' ⟨rfl,rfl⟩) | (go_at_call 262;refine (Zz _ _).mono ?_;rintro e w' ⟨rfl,rfl⟩) | (go_at_call 303;refine (YT (uh Hc) _).mono ?_;rintro e w' ⟨rfl,rfl⟩) | (go_at_call 304;refine (Y3 _ _).mono ?_;rintro e w' ⟨rfl,rfl⟩))
 refine (Wx _ _).mono ?_
 rintro e w1 ⟨rfl,hb⟩
 have c2:w1.cell? ⟨w.heap.size,2,none⟩=some (.int .i64 rk):=(hb.cell (p:=⟨w.heap.size,2,none⟩) (by simp)).trans (Z2 _ rfl)
 have c4:w1.cell? ⟨w.heap.size,4,none⟩=some (.int .i64 gu):=(hb.cell (p:=⟨w.heap.size,4,none⟩) (by simp)).trans (Z2 _ rfl)
 have c5:w1.cell? ⟨w.heap.size,5,none⟩=some (.int .i64 lo):=(hb.cell (p:=⟨w.heap.size,5,none⟩) (by simp)).trans (Z2 _ rfl)
 have c6:w1.cell? ⟨w.heap.size,6,none⟩=some (.int .i64 hi):=(hb.cell (p:=⟨w.heap.size,6,none⟩) (by simp)).trans (Z2 _ rfl)
 have c7:w1.cell? ⟨w.heap.size,7,none⟩=some (.int .i64 hd):=(hb.cell (p:=⟨w.heap.size,7,none⟩) (by simp)).trans (Z2 _ rfl)
 have c8:w1.cell? ⟨w.heap.size,8,none⟩=some (.int .i64 ca):=(hb.cell (p:=⟨w.heap.size,8,none⟩) (by simp)).trans (Z2 _ rfl)
 have c9:w1.cell? ⟨w.heap.size,9,none⟩=some (.int .i64 ut):=(hb.cell (p:=⟨w.heap.size,9,none⟩) (by simp)).trans (Z2 _ rfl)
 have c10:w1.cell? ⟨w.heap.size,10,none⟩=some (.int .i64 wk):=(hb.cell (p:=⟨w.heap.size,10,none⟩) (by simp)).trans (Z2 _ rfl)
 have Hb:=Z9 (((Below.refl w.heap.size w).alloc (Nat.le_refl _) _).trans (hb.mono (by simp)))
 clear hb
 go_wp2_with (first | (go_at_call 184;refine (ZW _ _ _ _).mono ?_;rintro e w' ⟨rfl,rfl⟩) | (go_at_call 194;refine (ZB _ _).mono ?_;rintro e w' ⟨rfl,rfl⟩) | (go_at_call 217;refine (ZG _ _ _).mono ?_;rintro e w' ⟨rfl,rfl⟩) | (go_at_call 262;refine (Zz _ _).mono ?_;rintro e w' ⟨rfl,rfl⟩) | (go_at_call 303;refine (YT (uh Hc) _).mono ?_;rintro e w' ⟨rfl,rfl⟩) | (go_at_call 304;refine (Y3 _ _).mono ?_;rintro e w' ⟨rfl,rfl⟩))
 go_ret
 exact ⟨rfl,uh Hb⟩
attribute [local go_sem ↓] Nm Nn
theorem Mu (w:World):Calls Tryz.prog 267 #[.agg #[.int .i64 0,.int .i64 0,.int .i64 0,.int .i64 0,.int .i64 0,.int .i64 0,.int .i64 0,.int .i64 0,.int .i64 0,.int .i64 0,.int .i64 0]] w fun e w'=>e= .returned (.iface 275 (.agg #[]))/\Below w.heap.size w w':=by
 have hz:Uk (0,0,0,0,0,0,0,0,0,0,0) (0,0,0,0,0,0,0,0,0,0,0)=true:=rfl
 go_enter Tryz.func267,Tryz.ntmps267
 go_wp2_with fail
 go_ret
 exact ⟨rfl,(Below.refl _ _).alloc (Nat.le_refl _) _⟩
theorem Mw {st be rk my gu lo hi hd ca ut wk:Int} (hg:VG (st,be,rk,my,gu,lo,hi,hd,ca,ut,wk)=false) (hp:YY (st,be,rk,my,gu,lo,hi,hd,ca,ut,wk)=true) (w:World):Calls Tryz.prog 267 #[.agg #[.int .i64 st,.int .i64 be,.int .i64 rk,.int .i64 my,.int .i64 gu,.int .i64 lo,.int .i64 hi,.int .i64 hd,.int .i64 ca,.int .i64 ut,.int .i64 wk]] w fun e w'=>e= .returned (.iface 277 (.agg #[.int .i64 st,.int .i64 be,.int .i64 rk,.int .i64 my,.int .i64 gu,.int .i64 lo,.int .i64 hi,.int .i64 hd,.int .i64 ca,.int .i64 ut,.int .i64 wk]))/\Below w.heap.size w w':=by
 have hz:Uk (st,be,rk,my,gu,lo,hi,hd,ca,ut,wk) (0,0,0,0,0,0,0,0,0,0,0)=false:=hg
 have Hp:=Z9 hp
 clear hg hp
 go_enter Tryz.func267,Tryz.ntmps267
 go_wp2_with fail
 refine (Sc st be rk my gu lo hi hd ca ut wk _).mono ?_
 rw [uh Hp]
 rintro e w1 ⟨rfl,hb⟩
 have c0:w1.cell? ⟨w.heap.size,0,none⟩=some (.int .i64 st):=(hb.cell (p:=⟨w.heap.size,0,none⟩) (by simp)).trans (Z2 _ rfl)
 have c1:w1.cell? ⟨w.heap.size,1,none⟩=some (.int .i64 be):=(hb.cell (p:=⟨w.heap.size,1,none⟩) (by simp)).trans (Z2 _ rfl)
 have c2:w1.cell? ⟨w.heap.size,2,none⟩=some (.int .i64 rk):=(hb.cell (p:=⟨w.heap.size,2,none⟩) (by simp)).trans (Z2 _ rfl)
 have c3:w1.cell? ⟨w.heap.size,3,none⟩=some (.int .i64 my):=(hb.cell (p:=⟨w.heap.size,3,none⟩) (by simp)).trans (Z2 _ rfl)
 have c4:w1.cell? ⟨w.heap.size,4,none⟩=some (.int .i64 gu):=(hb.cell (p:=⟨w.heap.size,4,none⟩) (by simp)).trans (Z2 _ rfl)
 have c5:w1.cell? ⟨w.heap.size,5,none⟩=some (.int .i64 lo):=(hb.cell (p:=⟨w.heap.size,5,none⟩) (by simp)).trans (Z2 _ rfl)
 have c6:w1.cell? ⟨w.heap.size,6,none⟩=some (.int .i64 hi):=(hb.cell (p:=⟨w.heap.size,6,none⟩) (by simp)).trans (Z2 _ rfl)
 have c7:w1.cell? ⟨w.heap.size,7,none⟩=some (.int .i64 hd):=(hb.cell (p:=⟨w.heap.size,7,none⟩) (by simp)).trans (Z2 _ rfl)
 have c8:w1.cell? ⟨w.heap.size,8,none⟩=some (.int .i64 ca):=(hb.cell (p:=⟨w.heap.size,8,none⟩) (by simp)).trans (Z2 _ rfl)
 have c9:w1.cell? ⟨w.heap.size,9,none⟩=some (.int .i64 ut):=(hb.cell (p:=⟨w.heap.size,9,none⟩) (by simp)).trans (Z2 _ rfl)
 have c10:w1.cell? ⟨w.heap.size,10,none⟩=some (.int .i64 wk):=(hb.cell (p:=⟨w.heap.size,10,none⟩) (by simp)).trans (Z2 _ rfl)
 have Hb:=Z9 (((Below.refl w.heap.size w).alloc (Nat.le_refl _) _).trans (hb.mono (by simp)))
 clear hb
 go_wp2_with fail
 go_ret
 exact ⟨rfl,uh Hb⟩
theorem NT {st be rk my gu lo hi hd ca ut wk:Int} (hg:VG (st,be,rk,my,gu,lo,hi,hd,ca,ut,wk)=false) (hp:YY (st,be,rk,my,gu,lo,hi,hd,ca,ut,wk)=false) (w:World):Calls Tryz.prog 267 #[.agg #[.int .i64 st,.int .i64 be,.int .i64 rk,.int .i64 my,.int .i64 gu,.int .i64 lo,.int .i64 hi,.int .i64 hd,.int .i64 ca,.int .i64 ut,.int .i64 wk]] w fun e w'=>e= .returned (.iface 278 (.agg #[]))/\Below w.heap.size w w':=by
 have hz:Uk (st,be,rk,my,gu,lo,hi,hd,ca,ut,wk) (0,0,0,0,0,0,0,0,0,0,0)=false:=hg
 have Hp:=Z9 hp
 clear hg hp
 go_enter Tryz.func267,Tryz.ntmps267
 go_wp2_with fail
 refine (Sc st be rk my gu lo hi hd ca ut wk _).mono ?_
 rw [uh Hp]
 rintro e w1 ⟨rfl,hb⟩
 have Hb:=Z9 (((Below.refl w.heap.size w).alloc (Nat.le_refl _) _).trans (hb.mono (by simp)))
 clear hb
 go_wp2_with fail
 go_ret
 exact ⟨rfl,uh Hb⟩
theorem CJ (w : World) : (method 412 275 (.agg #[]) "loop.example/g00553/impl.isSmith").run Tryz.prog w = .ok (355, .agg #[]) w := by kernel_rfl
theorem Dg (w : World) : (method 412 278 (.agg #[]) "loop.example/g00553/impl.isSmith").run Tryz.prog w = .ok (357, .agg #[]) w := by kernel_rfl
theorem CK (st be rk my gu lo hi hd ca ut wk : Int) (w : World) : (method 412 277 (.agg #[.int .i64 st, .int .i64 be, .int .i64 rk, .int .i64 my, .int .i64 gu, .int .i64 lo, .int .i64 hi, .int .i64 hd, .int .i64 ca, .int .i64 ut, .int .i64 wk]) "loop.example/g00553/impl.isSmith").run Tryz.prog w = .ok (356, .agg #[.int .i64 st, .int .i64 be, .int .i64 rk, .int .i64 my, .int .i64 gu, .int .i64 lo, .int .i64 hi, .int .i64 hd, .int .i64 ca, .int .i64 ut, .int .i64 wk]) w := by kernel_rfl
theorem Ix (w:World):Calls Tryz.prog 355 #[.agg #[]] w fun e w'=>e= .returned (.bool true)/\Below w.heap.size w w':=by
 go_enter Tryz.func355,Tryz.ntmps355
 go_wp2_with fail
 go_ret
 exact ⟨rfl,(Below.refl _ _).alloc (Nat.le_refl _) _⟩
theorem LK (w:World):Calls Tryz.prog 357 #[.agg #[]] w fun e w'=>e= .returned (.bool false)/\Below w.heap.size w w':=by
 go_enter Tryz.func357,Tryz.ntmps357
 go_wp2_with fail
 go_ret
 exact ⟨rfl,(Below.refl _ _).alloc (Nat.le_refl _) _⟩
theorem I8 (st be rk my gu lo hi hd ca ut wk:Int) (w:World):Calls Tryz.prog 356 #[.agg #[.int .i64 st,.int .i64 be,.int .i64 rk,.int .i64 my,.int .i64 gu,.int .i64 lo,.int .i64 hi,.int .i64 hd,.int .i64 ca,.int .i64 ut,.int .i64 wk]] w fun e w'=>e= .returned (.bool true)/\Below w.heap.size w w':=by
 go_enter Tryz.func356,Tryz.ntmps356
 go_wp2_with fail
 go_ret
 exact ⟨rfl,(Below.refl _ _).alloc (Nat.le_refl _) _⟩
attribute [local go_sem] CJ Dg CK
theorem PJ (st be rk my gu lo hi hd ca ut wk:Int) (w:World):Calls Tryz.prog 221 #[.agg #[.int .i64 st,.int .i64 be,.int .i64 rk,.int .i64 my,.int .i64 gu,.int .i64 lo,.int .i64 hi,.int .i64 hd,.int .i64 ca,.int .i64 ut,.int .i64 wk]] w fun e w'=>e= .returned (.bool (ZD (st,be,rk,my,gu,lo,hi,hd,ca,ut,wk)))/\Below w.heap.size w w':=by
 unfold ZD
 cases hg:VG (st,be,rk,my,gu,lo,hi,hd,ca,ut,wk)
 ·cases hp:YY (st,be,rk,my,gu,lo,hi,hd,ca,ut,wk)
  ·rw [show (false || false)=false from rfl]
   have Hg:=Z9 hg
   have Hp:=Z9 hp
   clear hg hp
   go_enter Tryz.func221,Tryz.ntmps221
   go_wp2_with fail
   refine (NT (uh Hg) (uh Hp) _).mono ?_
   rintro e w1 ⟨rfl,hb⟩
   have B1:=Z9 (((Below.refl w.heap.size w).alloc (Nat.le_refl _) _).trans (hb.mono (by simp)))
   clear hb
   go_wp2_with fail
   refine (LK _).mono ?_
   rintro e w2 ⟨rfl,hb⟩
   have B2:=Z9 ((uh B1).trans (hb.mono (uh B1).size))
   clear hb
   go_wp2_with fail
   go_ret
   exact ⟨rfl,uh B2⟩
  ·rw [show (false || true)=true from rfl]
   have Hg:=Z9 hg
   have Hp:=Z9 hp
   clear hg hp
   go_enter Tryz.func221,Tryz.ntmps221
   go_wp2_with fail
   refine (Mw (uh Hg) (uh Hp) _).mono ?_
   rintro e w1 ⟨rfl,hb⟩
   have B1:=Z9 (((Below.refl w.heap.size w).alloc (Nat.le_refl _) _).trans (hb.mono (by simp)))
   clear hb
   go_wp2_with fail
   refine (I8 _ _ _ _ _ _ _ _ _ _ _ _).mono ?_
   rintro e w2 ⟨rfl,hb⟩
   have B2:=Z9 ((uh B1).trans (hb.mono (uh B1).size))
   clear hb
   go_wp2_with fail
   go_ret
   exact ⟨rfl,uh B2⟩
 ·rw [Bool.true_or]
  cases VH hg
  clear hg
  go_enter Tryz.func221,Tryz.ntmps221
  go_wp2_with fail
  refine (Mu _).mono ?_
  rintro e w1 ⟨rfl,hb⟩
  have B1:=Z9 (((Below.refl w.heap.size w).alloc (Nat.le_refl _) _).trans (hb.mono (by simp)))
  clear hb
  go_wp2_with fail
  refine (Ix _).mono ?_
  rintro e w2 ⟨rfl,hb⟩
  have B2:=Z9 ((uh B1).trans (hb.mono (uh B1).size))
  clear hb
  go_wp2_with fail
  go_ret
  exact ⟨rfl,uh B2⟩
end Go.Proofs.YtaegckehjlkaaaaGreat
