/- Part 5 of what the proof rests on. No condition but those that a theorem names. -/
import Derived.Test.YtgdpaigcmoifbaaGreatXw01
import Derived.Deep.QuietTactic
import Derived.BigQuiet
import Derived.Laws.OwnMore
import Derived.Maps.AppendAt
import Derived.RangeFuncNested
import Derived.RangeFuncBound
import Derived.RangeFuncCalls
import Derived.RangeFuncLeaves
import Derived.RangeFuncBox
import Derived.Shelf.Abstract
import Derived.Shelf.RegionOpen
import Derived.OwnWalkIn
import Derived.TacticsInMore
import Derived.LoopNIn
import Derived.LoopIn
set_option maxHeartbeats 8000000
set_option maxRecDepth 100000
namespace Go.Proofs.YtgdpaigcmoifbaaGreat
open Go.ChangeShapes Go.WideShapes Go.ChangeAt Go.RowKit Go.Proofs.Tryz
set_option linter.unusedVariables false
theorem Tk (s:Int) (w:World):cE 200 #[.int .i64 s] w (.bool (inB s 0 255)):=by
 by_cases h1:0<=s
 ·by_cases h2:s<=255
  all_goals
   go_enter func200,ntmps200
   go_wp2
   go_ret;exact ⟨Z5 (by first | exact (Zn h1 h2).symm | exact (Wk (by omega)).symm),rfl⟩
 ·go_enter func200,ntmps200
  go_wp2
  go_ret;exact ⟨Z5 (Wk (by omega)).symm,rfl⟩
theorem UW (i:Int) (w:World):cE 201 #[.int .i64 i] w (.bool (inB i 0 7)):=by
 by_cases h1:0<=i
 ·by_cases h2:i<8
  all_goals
   go_enter func201,ntmps201
   go_wp2
   go_ret;exact ⟨Z5 (by first | exact (Zn h1 (by omega)).symm | exact (Wk (by omega)).symm),rfl⟩
 ·go_enter func201,ntmps201
  go_wp2
  go_ret;exact ⟨Z5 (Wk (by omega)).symm,rfl⟩
def V6 (s i:Int):Bool:=decide (s / 2 ^ i.toNat%2=1)
def UL (s i:Int):Bool:=inB s 0 255 && inB i 0 7 && V6 s i
theorem Ai (n:Int):bits .and .i64 n 1=n%2:=by
 have h1:(BitVec.ofInt 64 1).toNat=2 ^ 1-1:=by decide
 have key:(BitVec.ofInt 64 n &&& BitVec.ofInt 64 1).toNat=(n%((2 ^ 64:Nat):Int)).toNat%2 ^ 1:=by
  rw [BitVec.toNat_and,BitVec.toNat_ofInt,h1,Nat.and_two_pow_sub_one_eq_mod]
 show IntKind.i64.wrap ((BitVec.ofInt 64 n &&& BitVec.ofInt 64 1).toNat:Nat)=n%2;rw [key,IntKind.wrap_i64];omega
theorem zL (s i:Int):(bits .and .i64 (s / 2 ^ i.toNat) 1 ==1)=V6 s i:=by rw [Ai];unfold V6;rfl
theorem Ez {s i:Int} (h:inB s 0 255=false\/inB i 0 7=false):UL s i=false:=by unfold UL;rcases h with h | h<;>simp [h]
theorem AD {s i:Int} (hs:inB s 0 255=true) (hi:inB i 0 7=true):UL s i=V6 s i:=by unfold UL;simp [hs,hi]
theorem J2 (s i:Int) (w:World) (hs:0<=s) (hs2:s<=255) (hi:0<=i) (hi2:i<=7):cE 135 #[.int .i64 s,.int .i64 i] w (.bool (V6 s i)):=by
 go_enter func135,ntmps135
 go_wp2
 go_ret;exact ⟨Z5 (zL s i),rfl⟩
theorem U9 (s i:Int) (w:World):cE 142 #[.int .i64 s,.int .i64 i] w (.bool (UL s i)):=by
 by_cases hb:inB s 0 255=true
 ·obtain ⟨hs,hs2⟩:=ZN hb
  by_cases hc:inB i 0 7=true
  ·obtain ⟨hi,hi2⟩:=ZN hc
   go_enter func142,ntmps142;go_wp2_with (first | (go_at_call 200;refine (Tk _ _).mono ?_;rintro e w' ⟨rfl,rfl⟩) | (go_at_call 201;refine (UW _ _).mono ?_;rintro e w' ⟨rfl,rfl⟩))
   go_ret;exact ⟨Z5 ((zL s i).trans (AD hb hc).symm),rfl⟩
  ·have hc':inB i 0 7=false:=by simpa using hc
   go_enter func142,ntmps142;go_wp2_with (first | (go_at_call 200;refine (Tk _ _).mono ?_;rintro e w' ⟨rfl,rfl⟩) | (go_at_call 201;refine (UW _ _).mono ?_;rintro e w' ⟨rfl,rfl⟩))
   go_ret;exact ⟨Z5 (Ez (.inr hc')).symm,rfl⟩
 ·have hb':inB s 0 255=false:=by simpa using hb
  go_enter func142,ntmps142;go_wp2_with (first | (go_at_call 200;refine (Tk _ _).mono ?_;rintro e w' ⟨rfl,rfl⟩) | (go_at_call 201;refine (UW _ _).mono ?_;rintro e w' ⟨rfl,rfl⟩))
  go_ret;exact ⟨Z5 (Ez (.inl hb')).symm,rfl⟩
structure Still (w w':World):Prop where
 os:w'.os=w.os
 tape:w'.tape=w.tape
 output:w'.output=w.output
 heap:w'.heap=w.heap
theorem Still.refl (w:World):Still w w:=⟨rfl,rfl,rfl,rfl⟩
theorem Still.drewN {a w:World} (h:Still a w) (n:Nat):Still a (w.drewN n):=⟨h.os,h.tape,h.output,h.heap⟩
theorem Still.below {w w':World} (h:Still w w') (B:Nat):Below B w w':=⟨h.os,h.tape,h.output,by rw [h.heap];exact Z0 _,fun k _=>by rw [h.heap]⟩
theorem Still.cell {w w':World} (h:Still w w') (p:Addr):w'.cell? p=w.cell? p:=World.cell?_of_block (by rw [h.heap])
def IntsAt (n₀:Nat) (w:World) (v:Value) (zs:List Int):Prop:=w.ownsRow n₀ 2 1 v zs.length (zs.map (Value.int .i64))
theorem IntsAt.view {n₀:Nat} {w:World} {v:Value} {zs:List Int} (h:IntsAt n₀ w v zs) :
  ∃ (a:Option Addr) (cap:Nat),v= .slice a zs.length cap/\zs.length<=9223372036854775807/\(zs=[]\/ ∃ g,a=some ⟨g,0,none⟩/\n₀<=g/\g<w.heap.size/\
   (∀ k,k<zs.length->w.cell? ⟨g,k,none⟩=some (.int .i64 (zs.getD k 0)))/\(∀ k,w.frozen? ⟨g,k,none⟩=false)):=by
 have h':=h
 rcases h.2 with ⟨rfl,hz⟩ | ⟨g,cap,cur,rfl,hb,hg,hnc,hcm,r⟩
 ·exact ⟨none,0,by rw [hz],by omega,.inl (List.eq_nil_of_length_eq_zero hz)⟩
 ·refine ⟨_,cap,rfl,by unfold maxLen at hcm;omega,.inr ⟨g,rfl,hb,(Array.getElem?_eq_some_iff.1 hg).1,fun k hk=> ?_,fun k=>World.ownsRow.frozenAt h' k⟩⟩
  rw [World.ownsRow.cellAt h' k (by omega)];simp [List.getElem?_eq_getElem hk]
theorem Dm {n₀:Nat} {w:World} {v:Value} {zs:List Int} (x:Int) (hv:IntsAt n₀ w v zs) :
  cE 29 #[v,.int .i64 x] w (.bool (decide (x ∈ zs))):=by
 obtain ⟨a,cap,rfl,hlen,hca⟩:=hv.view;clear hv;go_enter func29,ntmps29;go_wp2_with fail
 go_loop [5] (fun i=> ∃ k:Nat,k<=zs.length/\i= .int .i64 k/\Hid (x ∉ zs.take k)) (fun i=>zs.length-(intOf i).toNat)
 case atStart=>exact ⟨0,ZA _,rfl,Z9 (by simp)⟩
 case round=>
  obtain ⟨k,hk,rfl,hno⟩:=hrel;by_cases hlt:k<zs.length
  ·rcases hca with rfl | ⟨g,rfl,_,_,hc,_⟩
   ·simp at hlt
   have h1:=hc k hlt;have Hg:Hid (zs.getD k 0=zs[k]):=Z9 (by simp [hlt]);clear hc;generalize hz:zs.getD k 0=z at *;have Hz:=Z9 hz;clear hz;by_cases hx:z=x
   ·subst hx
    go_wp2_with fail;go_ret;exact ⟨Z5 (V0 (by rw [uh Hg];exact List.getElem_mem hlt)).symm,rfl⟩
   ·have hx':(z ==x)=false:=by simpa using hx
    have Hx:=Z9 hx;clear hx;go_wp2_with fail
    go_round
    case rel=>exact ⟨k+1,by omega,by go_num,Z9 (by rw [List.take_succ_eq_append_getElem hlt,<-uh Hg];simp only [List.mem_append,List.mem_singleton,not_or];exact ⟨uh hno,fun e=>uh Hx e.symm⟩)⟩
    case measure=>exact ms
  ·go_wp2_with fail
   go_ret;exact ⟨Z5 (Yb (by have:=uh hno;rwa [List.take_of_length_le (by omega)] at this)).symm,rfl⟩
theorem Cq {n₀:Nat} {w:World} {v:Value} {zs:List Int} (hv:IntsAt n₀ w v zs) (hr:∀ k,k+1<zs.length->zs.getD k 0<zs.getD (k+1) 0) :
  Calls prog 25 #[v] w fun e w'=>e= .returned (.bool true)/\Still w w':=by
 obtain ⟨a,cap,rfl,hlen,hca⟩:=hv.view;have Hr:=Z9 hr;clear hv hr;go_enter func25,ntmps25;go_wp2_with fail
 go_loopw [3] (fun i wr=> ∃ k:Nat,k<=zs.length/\i= .int .i64 (k+1)/\Still w wr) (fun i _=>zs.length+1-(intOf i).toNat)
 case atStart=>exact ⟨0,ZA _,rfl,Still.refl _⟩
 case round=>
  obtain ⟨k,hk,rfl,hst⟩:=hrel;by_cases hlt:(k:Int)+1<(zs.length:Int)
  ·rcases hca with rfl | ⟨g,rfl,_,_,hc,_⟩
   ·simp at hlt;omega
   have h1:=(hst.cell ⟨g,k,none⟩).trans (hc k (by omega));have h2:=(hst.cell ⟨g,k+1,none⟩).trans (hc (k+1) (by omega));have h3:=uh Hr k (by omega);have Hst:=Z9 hst;clear hc hst;generalize zs.getD k 0=z at *;generalize zs.getD (k+1) 0=y at *;go_wp2_with fail;go_quiet (fail)
   all_goals go_wp2_with fail
   all_goals
    go_roundw
    case rel=>exact ⟨k+1,by omega,by go_num,(uh Hst).drewN _⟩
    case measure=>exact ms
  ·go_wp2_with fail
   go_ret;exact ⟨rfl,hst⟩
open Go.ChangeShapes Go.WideShapes Go.ChangeAt Go.RowKit
def UD (s:Int):Nat->List Int
 | 0=>[]
 | k+1=>if UL s k=true then UD s k++[(k:Int)] else UD s k
def Sq (s:Int):List Int:=UD s 8
def Vy (s:Int):Int:=(Sq s).headD (-1)
theorem RJ {s:Int} {k:Nat} (h:UL s k=true):UD s (k+1)=UD s k++[(k:Int)]:=by simp [UD,h]
theorem Ur {s:Int} {k:Nat} (h:UL s k=false):UD s (k+1)=UD s k:=by simp [UD,h]
theorem IA (s:Int):∀ k,(UD s k).length<=k
 | 0=>by simp [UD]
 | k+1=>by
  have:=IA s k;cases h:UL s k
  ·rw [Ur h];omega
  ·rw [RJ h];simp;omega
theorem Ky {s:Int} (h:inB s 0 255=false):∀ k,UD s k=[]
 | 0=>rfl
 | k+1=>by rw [Ur (Ez (.inl h))];exact Ky h k
theorem Bo (s:Int):∀ k,k<=8->UD s k <+: Sq s:=by
 have step:∀ k,UD s k <+: UD s (k+1):=fun k=>by
  cases h:UL s k
  ·rw [Ur h];exact List.prefix_refl _
  ·rw [RJ h];exact List.prefix_append _ _
 have go:∀ d k,UD s k <+: UD s (k+d):=by
  intro d
  induction d with
  | zero=>intro k;exact List.prefix_refl _
  | succ d ih=>intro k;exact (ih k).trans (step (k+d))
 intro k hk;have:=go (8-k) k
 rwa [show k+(8-k)=8 by omega] at this
open Go.ChangeShapes Go.WideShapes Go.ChangeAt Go.RowKit Go.Shelf Go.Proofs.Tryz
attribute [local go_sem] Oper.semAt_some
def KeepsBox (Bn:Nat) (t:TypeId) (W W':World):Prop:= ∀ v,Boxed W Bn t v->Boxed W' Bn t v
theorem KeepsBox.trans {Bn:Nat} {t:TypeId} {A B C:World} (h:KeepsBox Bn t A B) (k:KeepsBox Bn t B C):KeepsBox Bn t A C:=fun v hv=>k v (h v hv)
theorem KeepsBox.putObj {Bn:Nat} {t:TypeId} {n:Nat} (h:Bn<n) (W:World) (l:Nat) (o o':Obj) (hl:n<=l) (_:W.heap[l]?=some o) (_:o.isCells=false) (_:o.isWalk=false):KeepsBox Bn t W (W.putObj l o'):=
 fun v hv=>hv.kept (grownBy_putObj' W l o') (fun e=>by cases e;omega)
theorem GH (n:Nat) (hn:1<=n) (l Bn:Nat) (s:Int) (J Jx:List Int->World->Prop)
  (hY:∀ pre x W,J pre W->pre.length<8->YieldAt Fence.wide (n-1) prog l #[.int .i64 x] W fun e W'=>
   (e= .returned (.bool true)/\J (pre++[x]) W'/\KeepsBox Bn 2 W W')\/(e= .returned (.bool false)/\Jx (pre++[x]) W'))
  (W:World) (hBn:Boxed W Bn 2 (.int .i64 s)) (h0:J [] W) :
  CallsIn Fence.wide n prog 288 #[.func (.yield l) #[] #[],.pointer (some ⟨Bn,0,none⟩)] W fun e W'=>(∃ v,e= .returned v)/\
   ((∃ ys,ys=Sq s/\J ys W')\/(∃ pre,pre <+: Sq s/\Jx pre W')):=by
 refine callsIn_of_wp func288 rfl trivial ?_ rfl;simp only [ntmps288,List.size_toArray,YL,YF,Nat.reduceAdd,Nat.reduceSub,Array.replicate_succ,Array.replicate_zero,List.push_toArray,List.append_toArray,List.nil_append,List.cons_append]
 gi_wp2
 gi_loopw [4] (fun i wr=> ∃ k:Nat,k<=8/\i= .int .i64 k/\Boxed wr Bn 2 (.int .i64 s)/\J (UD s k) wr)
  (fun i wr=>8-(intOf i).toNat)
 case atStart=>exact ⟨0,by omega,rfl,hBn,h0⟩
 case round=>
  obtain ⟨k,hk,rfl,hbx,hJ⟩:=hrel;have hul:=IA s k;have hc:=hbx.cell;have Hb:=Z9 hbx;clear hbx;by_cases hlt:(k:Int)<8
  ·cases hm:UL s k
   ·gi_wp2_with (refine ⟨trivial,?_⟩;gi_at_call 142;refine (callsIn_wide.2 (U9 _ _ _)).mono ?_;rintro e w' ⟨rfl,rfl⟩)
    refine ⟨fun _ h=>(by cases h),?_⟩
    gi_wp2
    go_roundw
    case rel=>exact ⟨k+1,by omega,by go_num,uh Hb,by rw [Ur hm];exact hJ⟩
    case measure=>exact ms
   ·obtain ⟨fn,tmps,assign,body,hy,hR⟩:=hY (UD s k) k wr hJ (by omega)
    gi_wp2_with (refine ⟨trivial,?_⟩;gi_at_call 142;refine (callsIn_wide.2 (U9 _ _ _)).mono ?_;rintro e w' ⟨rfl,rfl⟩)
    refine hR.mono ?_;rintro e W3 (⟨rfl,hJ3,hk3⟩ | ⟨rfl,hJx3⟩)
    ·gi_wp2
     go_roundw
     case rel=>exact ⟨k+1,by omega,by go_num,hk3 _ (uh Hb),by rw [RJ hm];exact hJ3⟩
     case measure=>exact ms
    ·gi_wp2
     refine Zz (results_none rfl _ _ _) rfl ?_;exact ⟨⟨_,rfl⟩,.inr ⟨UD s k++[(k:Int)],by rw [<-RJ hm];exact Bo s (k+1) (by omega),hJx3⟩⟩
  ·obtain rfl:k=8:=by omega
   gi_wp2
   go_end0
   exact ⟨⟨_,rfl⟩,.inl hJ⟩
theorem Sp (n:Nat) (s:Int) (w:World) :
  CallsIn Fence.wide n prog 236 #[.int .i64 s] w fun e w'=>e= .returned (.func (.func 288) #[] #[.pointer (some ⟨w.heap.size,0,none⟩)])/\w'=w.alloc (.cells #[.int .i64 s] 2):=by
 refine callsIn_of_wp func236 rfl trivial ?_ rfl;simp only [ntmps236,List.size_toArray,YL,YF,Nat.reduceAdd,Nat.reduceSub,Array.replicate_succ,Array.replicate_zero,List.push_toArray,List.append_toArray,List.nil_append,List.cons_append]
 gi_wp2
 go_ret;exact ⟨rfl,rfl⟩
theorem Tn (n:Nat) (hn:1<=n) (Bn:Nat) (s:Int) (w:World) (hBn:Boxed w Bn 2 (.int .i64 s)) :
  SeqStopsK Fence.wide n prog 288 #[.pointer (some ⟨Bn,0,none⟩)] (fun x:Int=>#[Value.int .i64 x]) (KeepsBox Bn 2) (fun ys=>ys=Sq s) (fun pre=>pre <+: Sq s) 8 w:=fun l J Jx W hW _ _ hY h0=>
 GH n hn l Bn s J Jx hY W ((hW.block Bn hBn.lt).trans hBn) h0
theorem L9 (n:Nat) (hn:3<=n) (s:Int) (w:World) :
  CallsIn Fence.wide n prog 330 #[.int .i64 s] w fun e w'=>e= .returned (.int .i64 (Vy s))/\Below w.heap.size w w':=by
 have h1:1<=n:=by omega
 refine callsIn_of_wp_marks func330 rfl trivial ?_ rfl;simp only [ntmps330,List.size_toArray,YL,YF,Nat.reduceAdd,Nat.reduceSub,Array.replicate_succ,Array.replicate_zero,List.push_toArray,List.append_toArray,List.nil_append,List.cons_append]
 gi_wp2_with (refine ⟨trivial,?_⟩;gi_at_call 236;refine (Sp (n-1) _ _).mono ?_;rintro e w' ⟨rfl,rfl⟩)
 have bR:=Boxed.new w 2 (.int .i64 0);have bN:=Boxed.new (w.alloc (.cells #[.int .i64 0] 2)) 2 (.int .i64 s);simp only [XG] at bN;have hB0:Below w.heap.size w ((w.alloc (.cells #[.int .i64 0] 2)).alloc (.cells #[.int .i64 s] 2)):=((Z3 _ w).alloc (Z0 _) _).alloc (by simp) _
 refine wpIn_rangeFunc_ownG rfl h1 (gf:=288) (lb:=#[.pointer (some ⟨w.heap.size+1,0,none⟩)]) rfl trivial (enters_of func288 (by kernel_rfl) rfl)
  (Tn (n-1) (by omega) (w.heap.size+1) s _ bN) (fun h k=>h.trans k) (KeepsBox.putObj (by simp)) (Z3 _ _) (fun _=>rfl)
  (fun pre W=>(pre=[]/\Boxed W w.heap.size 2 (.int .i64 0))/\Below w.heap.size w W)
  (fun c pre W=>(c= .ret/\ ∃ x,pre=[x]/\Boxed W w.heap.size 2 (.int .i64 x))/\Below w.heap.size w W)
  (OwnFrom.and (Own.from (fun s A B row hs hg hr=>⟨hs.1,hs.2.kept hg (fun e=>by obtain ⟨o,ho,hc⟩:=hr _ e.symm;rw [show A.heap[w.heap.size]?=_ from hs.2] at ho;cases ho;cases hc)⟩) _) (ownFrom_below (Z0 _) (by simp;omega)))
  (fun c=>OwnFrom.and (Own.from (fun s A B row hs hg hr=>by obtain ⟨e1,x,e2,hb⟩:=hs;exact ⟨e1,x,e2,hb.kept hg (fun e=>by obtain ⟨o,ho,hc⟩:=hr _ e.symm;rw [show A.heap[w.heap.size]?=_ from hb] at ho;cases ho;cases hc)⟩) _) (ownFrom_below (Z0 _) (by simp;omega)))
  ⟨⟨rfl,bR.alloc _⟩,hB0⟩
  (fun x=>{ tmps:=#[.int .i64 s,undef,.pointer (some ⟨w.heap.size,0,none⟩),.int .i64 x,.int .i64 s,.func (.func 288) #[] #[.pointer (some ⟨w.heap.size+1,0,none⟩)],.int .i64 x,undef],defers:=[] }) ?assign ?body ?done ?stop
 case assign=>
  intro l x W K hK
  gi_wp2
  exact hK
 case body=>
  rintro l pre x W ⟨⟨rfl,hb⟩,hB⟩ _;have hc:=hb.cell;have hf:=hb.frozen
  gi_wp2
  exact ⟨(KeepsOthers.setCell _ _ _).from _,⟨rfl,x,rfl,hb.set _⟩,hB.setCell (p:=⟨w.heap.size,0,none⟩) (Z0 _) _⟩
 case done=>
  rintro D ys W hD hys ⟨⟨hp,hb⟩,hB⟩ hK;have hc:=hb.cell;have hf:=hb.frozen
  gi_wp2
  have hK':=(KeepsOthers.setCell W ⟨w.heap.size,0,none⟩ (.int .i64 (-1))).same D _ hK rfl;refine ⟨by simp,.inl ⟨_,_,rfl,run_takeDeferred hK',?_⟩⟩;have hc5:=cell_kept (hb.set (.int .i64 (-1))).cell (grownBy_putObj' _ D (.deferred none)) (fun r e=>by cases e;exact ⟨_,hK',rfl⟩);have hm:Sq s=[]:=hys.symm.trans hp;refine ⟨.int .i64 (-1),?_,ZB (by unfold Vy;rw [hm];rfl),(hB.setCell (p:=⟨w.heap.size,0,none⟩) (Z0 _) _).trans (belowK_b (w:=w) (Z0 _) _ D _ _ (by simp at hD;omega) hK' rfl rfl)⟩;simp [results,Tryz.f330,go_sem,hc5]
 case stop=>
  rintro D c pre W hD hpre ⟨⟨rfl,x,rfl,hb⟩,hB⟩ hK
  gi_wp2
  refine ⟨by simp,.inl ⟨_,_,rfl,run_takeDeferred hK,?_⟩⟩;have hc5:=cell_kept hb.cell (grownBy_putObj' _ D (.deferred none)) (fun r e=>by cases e;exact ⟨_,hK,rfl⟩);have hx:Vy s=x:=by obtain ⟨r,hr⟩:=hpre;unfold Vy;rw [<-hr];rfl
  refine ⟨.int .i64 x,?_,ZB hx.symm,hB.trans (belowK_b (w:=w) (Z0 _) W D _ _ (by simp at hD;omega) hK rfl rfl)⟩;simp [results,Tryz.f330,go_sem,hc5]
theorem NO (s:Int) (w:World):cB 330 #[.int .i64 s] w (.int .i64 (Vy s)):=
 callsIn_wide.1 (L9 3 (Z0 _) s w)
end Go.Proofs.YtgdpaigcmoifbaaGreat
namespace Go.Proofs.YtgdpaigcmoifbaaGreat.Draw
open Go.ChangeShapes Go.WideShapes Go.ChangeAt Go.RowKit Go.Proofs.Tryz
set_option linter.unusedVariables false
theorem Z9 {p:Prop} (h:p):Hid p:=h
theorem uh {p:Prop} (h:Hid p):p:=h
theorem ZB {k:IntKind} {a b:Int} (h:a=b):Ending.returned (.int k a)= .returned (.int k b):=by rw [h]
theorem Si (n:Int):bits .and .i64 n 255=n%256:=by
 have h127:(BitVec.ofInt 64 255).toNat=2 ^ 8-1:=by decide
 have key:(BitVec.ofInt 64 n &&& BitVec.ofInt 64 255).toNat=(n%((2 ^ 64:Nat):Int)).toNat%2 ^ 8:=by
  rw [BitVec.toNat_and,BitVec.toNat_ofInt,h127,Nat.and_two_pow_sub_one_eq_mod]
 show IntKind.i64.wrap ((BitVec.ofInt 64 n &&& BitVec.ofInt 64 255).toNat:Nat)=n%256;rw [key,IntKind.wrap_i64];omega
structure Off (bc:Nat) (w w':World):Prop where
 os:w'.os=w.os
 tape:w'.tape=w.tape
 output:w'.output=w.output
 size:w.heap.size<=w'.heap.size
 block:∀ k,k<w.heap.size->k ≠ bc->w'.heap[k]?=w.heap[k]?
theorem Off.refl (bc:Nat) (w:World):Off bc w w:=⟨rfl,rfl,rfl,Z0 _,fun _ _ _=>rfl⟩
theorem Off.trans {bc:Nat} {a b c:World} (h:Off bc a b) (k:Off bc b c):Off bc a c:=
 ⟨k.os.trans h.os,k.tape.trans h.tape,k.output.trans h.output,Xv h.size k.size,fun i hi hn=>(k.block i (Y0 hi h.size) hn).trans (h.block i hi hn)⟩
theorem Off.drewN {bc:Nat} {a w:World} (h:Off bc a w) (n:Nat):Off bc a (w.drewN n):=⟨h.os,h.tape,h.output,h.size,h.block⟩
theorem Off.alloc {bc:Nat} {a w:World} (h:Off bc a w) (o:Obj):Off bc a (w.alloc o):=
 h.trans ⟨rfl,rfl,rfl,by simp,fun k hk _=>Below.heap_alloc w o k hk⟩
theorem Off.setCell {bc:Nat} {a w:World} (h:Off bc a w) (o:Nat) (v:Value):Off bc a (w.setCell ⟨bc,o,none⟩ v):=
 h.trans ⟨rfl,rfl,rfl,by simp,fun k hk hn=>Below.heap_setCell w ⟨bc,o,none⟩ v k hn⟩
theorem Off.below {bc:Nat} {a w:World} (h:Off bc a w) {B:Nat} (hB:B<=bc) (hs:B<=a.heap.size):Below B a w:=
 ⟨h.os,h.tape,h.output,h.size,fun k hk=>h.block k (Y0 hk hs) (by omega)⟩
theorem Off.cell {bc:Nat} {w w':World} (h:Off bc w w') {p:Addr} (hp:p.block<w.heap.size) (hn:p.block ≠ bc):w'.cell? p=w.cell? p:=
 World.cell?_of_block (w:=w) (h.block p.block hp hn)
theorem Oh (w:World) (o:Nat):w.frozen? ⟨w.heap.size,o,none⟩=false:=by simp [World.frozen?]
def Row (B:Nat) (w:World) (a:Option Addr) (len:Nat):Prop:=
 len<=4096/\(len=0\/ ∃ b off,a=some ⟨b,off,none⟩/\b<B/\ ∀ i,i<len-> ∃ n:Int,0<=n/\n<=255/\w.cell? ⟨b,off+i,none⟩=some (.int .u8 n))
def Cur (a:Option Addr) (len cap bc:Nat) (w:World):Prop:=
 bc<w.heap.size/\ ∃ i h:Int,0<=i/\i<=4096/\w.cell? ⟨bc,0,none⟩=some (.slice a len cap)/\w.cell? ⟨bc,1,none⟩=some (.int .i64 i)/\w.cell? ⟨bc,2,none⟩=some (.int .i64 h)
  /\w.frozen? ⟨bc,1,none⟩=false/\w.frozen? ⟨bc,2,none⟩=false
structure St (a:Option Addr) (len cap bc:Nat) (w:World):Prop where
 cur:Cur a len cap bc w
 row:Row bc w a len
theorem Row.off {bc:Nat} {w w':World} {a:Option Addr} {len:Nat} (h:Row bc w a len) (ho:Off bc w w') (hb:bc<=w.heap.size):Row bc w' a len:=by
 refine ⟨h.1,?_⟩
 rcases h.2 with h0 | ⟨b,off,ha,hlt,hc⟩
 ·exact .inl h0
 ·refine .inr ⟨b,off,ha,hlt,fun i hi=> ?_⟩
  obtain ⟨n,n0,n1,hn⟩:=hc i hi;exact ⟨n,n0,n1,by rw [ho.cell (p:=⟨b,off+i,none⟩) (Nat.lt_of_lt_of_le hlt hb) (Nat.ne_of_lt hlt)];exact hn⟩
theorem St.drewN {a:Option Addr} {len cap bc:Nat} {w:World} (h:St a len cap bc w) (n:Nat):St a len cap bc (w.drewN n):=⟨h.cur,h.row⟩
theorem St.alloc {a:Option Addr} {len cap bc:Nat} {w:World} (h:St a len cap bc w) (o:Obj):St a len cap bc (w.alloc o):=by
 obtain ⟨⟨hb,i,x,h0,h1,c0,c1,c2,f1,f2⟩,hr⟩:=h;have hne:∀ o,(⟨bc,o,none⟩:Addr).block ≠ w.heap.size:=fun _=>VH hb;refine ⟨⟨by simp;omega,i,x,h0,h1,?_,?_,?_,?_,?_⟩,hr.off ((Off.refl _ _).alloc o) (Nat.le_of_lt hb)⟩
 ·rw [World.cell?_alloc_old _ _ _ (hne 0)];exact c0
 ·rw [World.cell?_alloc_old _ _ _ (hne 1)];exact c1
 ·rw [World.cell?_alloc_old _ _ _ (hne 2)];exact c2
 ·rw [World.frozen?_alloc_old _ _ _ (hne 1)];exact f1
 ·rw [World.frozen?_alloc_old _ _ _ (hne 2)];exact f2
theorem St.setH {a:Option Addr} {len cap bc:Nat} {w:World} (h:St a len cap bc w) (x:Int):St a len cap bc (w.setCell ⟨bc,2,none⟩ (.int .i64 x)):=by
 obtain ⟨⟨hb,i,y,h0,h1,c0,c1,c2,f1,f2⟩,hr⟩:=h;refine ⟨⟨by simpa using hb,i,x,h0,h1,?_,?_,?_,?_,?_⟩,hr.off ((Off.refl _ _).setCell 2 _) (Nat.le_of_lt hb)⟩
 ·rw [World.cell?_setCell_other _ _ _ _ (by simp)];exact c0
 ·rw [World.cell?_setCell_other _ _ _ _ (by simp)];exact c1
 ·exact World.cell?_setCell_same _ _ _ c2
 ·rw [World.frozen?_setCell];exact f1
 ·rw [World.frozen?_setCell];exact f2
theorem St.setI {a:Option Addr} {len cap bc:Nat} {w:World} (h:St a len cap bc w) (x:Int) (x0:0<=x) (x1:x<=4096):St a len cap bc (w.setCell ⟨bc,1,none⟩ (.int .i64 x)):=by
 obtain ⟨⟨hb,i,y,h0,h1,c0,c1,c2,f1,f2⟩,hr⟩:=h;refine ⟨⟨by simpa using hb,x,y,x0,x1,?_,?_,?_,?_,?_⟩,hr.off ((Off.refl _ _).setCell 1 _) (Nat.le_of_lt hb)⟩
 ·rw [World.cell?_setCell_other _ _ _ _ (by simp)];exact c0
 ·exact World.cell?_setCell_same _ _ _ c1
 ·rw [World.cell?_setCell_other _ _ _ _ (by simp)];exact c2
 ·rw [World.frozen?_setCell];exact f1
 ·rw [World.frozen?_setCell];exact f2
theorem QX (a:Option Addr) (len cap bc:Nat) (w:World) (hs:St a len cap bc w) :
  Calls prog 179 #[.pointer (some ⟨bc,0,none⟩)] w fun e w'=> ∃ x:Int,e= .returned (.int .i64 x)/\0<=x/\x<=255/\St a len cap bc w'/\Off bc w w':=by
 have Hs:=Z9 hs;obtain ⟨⟨hb,i,h,h0,h1,c0,c1,c2,f1,f2⟩,hl,hr⟩:=hs;by_cases hge:i<(len:Int)
 ·have Hr:=Z9 hr
  rcases hr with hr | ⟨b,off,rfl,hlt,hc⟩
  ·omega
  obtain ⟨k,rfl⟩:=Int.eq_ofNat_of_zero_le h0;obtain ⟨n,n0,n1,hn⟩:=hc k (by omega);have hneb:b ≠ bc:=VH hlt;clear hc Hr;go_enter func179,ntmps179;go_wp2_with fail;go_quiet (fail);go_wp2_with fail;go_quiet (fail);go_wp2_with fail;go_quiet (fail);go_wp2_with fail;go_ret;refine ⟨_,rfl,?_,?_,(((uh Hs).setH _).drewN _).setI _ (by omega) (by omega),(((Off.refl _ _).setCell 2 _).drewN _).setCell 1 _⟩
  ·rw [Si];omega
  ·rw [Si];omega
 ·go_enter func179,ntmps179
  go_wp2_with fail;go_quiet (fail);go_wp2_with fail;go_quiet (fail);go_wp2_with fail;go_ret;refine ⟨_,rfl,?_,?_,(((uh Hs).setH _).drewN _).drewN _,(((Off.refl _ _).setCell 2 _).drewN _).drewN _⟩
  ·rw [Si];omega
  ·rw [Si];omega
theorem below_any (a:Option Addr) (len cap bc:Nat) (n:Int) (hn:0<n) (hm:n<=4611686018427387904) (w:World) (hs:St a len cap bc w) :
  Calls prog 116 #[.pointer (some ⟨bc,0,none⟩),.int .i64 n] w fun e w'=> ∃ x:Int,e= .returned (.int .i64 x)/\0<=x/\x<n/\St a len cap bc w'/\Off bc w w':=by
 have Hs:=Z9 hs;clear hs;by_cases h256:n<=256
 ·go_enter func116,ntmps116
  go_wp2_with fail;refine (QX a len cap bc _ (uh Hs)).mono ?_;rintro e w1 ⟨x,rfl,x0,x1,s1,o1⟩;have Hs1:=Z9 s1;have Ho1:=Z9 o1;clear s1 o1;go_wp2_with fail;go_ret;exact ⟨_,rfl,Int.emod_nonneg _ (by omega),Int.emod_lt_of_pos _ hn,uh Hs1,uh Ho1⟩
 ·go_enter func116,ntmps116
  go_wp2_with fail;refine (QX a len cap bc _ (uh Hs)).mono ?_;rintro e w1 ⟨x,rfl,x0,x1,s1,o1⟩;have Hs1:=Z9 s1;have Ho1:=Z9 o1;clear s1 o1;go_wp2_with fail;refine (QX a len cap bc _ (uh Hs1)).mono ?_;rintro e w2 ⟨y,rfl,y0,y1,s2,o2⟩;have Hs2:=Z9 s2;have Ho2:=Z9 o2;clear s2 o2;go_wp2_with fail;refine (QX a len cap bc _ (uh Hs2)).mono ?_;rintro e w3 ⟨z,rfl,z0,z1,s3,o3⟩;have Hs3:=Z9 s3;have Ho3:=Z9 o3;clear s3 o3;go_wp2_with fail;refine (QX a len cap bc _ (uh Hs3)).mono ?_;rintro e w4 ⟨v,rfl,v0,v1,s4,o4⟩;have Hs4:=Z9 s4;have Ho4:=Z9 o4;clear s4 o4;go_wp2_with fail;go_ret;exact ⟨_,rfl,Int.emod_nonneg _ (by omega),Int.emod_lt_of_pos _ hn,uh Hs4,(((uh Ho1).trans (uh Ho2)).trans (uh Ho3)).trans (uh Ho4)⟩
theorem once_any (a:Option Addr) (len cap bc:Nat) (n:Int) (hn:0<n) (hm:n<=4611686018427387904) (w:World) (hs:St a len cap bc w) :
  Calls prog 115 #[.pointer (some ⟨bc,0,none⟩),.int .i64 n] w fun e w'=> ∃ b:Bool,e= .returned (.bool b)/\St a len cap bc w'/\Off bc w w':=by
 have Hs:=Z9 hs;clear hs;go_enter func115,ntmps115;go_wp2_with fail;refine (below_any a len cap bc n hn hm _ (uh Hs)).mono ?_;rintro e w1 ⟨x,rfl,x0,x1,s1,o1⟩;have Hs1:=Z9 s1;have Ho1:=Z9 o1;clear s1 o1;go_wp2_with fail;go_ret;exact ⟨_,rfl,uh Hs1,uh Ho1⟩
theorem from_any (a:Option Addr) (len cap bc:Nat) (lo hi:Int) (h:lo<=hi) (h1 : -1000000000000<=lo) (h2:hi<=1000000000000) (w:World) (hs:St a len cap bc w) :
  Calls prog 118 #[.pointer (some ⟨bc,0,none⟩),.int .i64 lo,.int .i64 hi] w fun e w'=> ∃ x:Int,e= .returned (.int .i64 x)/\lo<=x/\x<=hi/\St a len cap bc w'/\Off bc w w':=by
 have Hs:=Z9 hs;clear hs;go_enter func118,ntmps118;go_wp2_with fail;refine (below_any a len cap bc _ (by omega) (by omega) _ (uh Hs)).mono ?_;rintro e w1 ⟨x,rfl,x0,x1,s1,o1⟩;have Hs1:=Z9 s1;have Ho1:=Z9 o1;clear s1 o1;go_wp2_with fail;go_ret;exact ⟨_,rfl,by omega,by omega,uh Hs1,uh Ho1⟩
theorem yG {a:Option Addr} {len cap:Nat} {w:World} (hr:Row w.heap.size w a len) {t:TypeId} (x:Int):St a len cap w.heap.size (w.alloc (.cells #[.slice a len cap,.int .i64 0,.int .i64 x] t)):=by
 refine ⟨⟨by simp,0,x,by omega,by omega,?_,?_,?_,?_,?_⟩,hr.off ((Off.refl _ _).alloc _) (Z0 _)⟩
 ·simp
 ·simp
 ·simp
 ·rw [frozen?_alloc_cells];exact Oh _ _
 ·rw [frozen?_alloc_cells];exact Oh _ _
theorem new_any (a:Option Addr) (len cap:Nat) (w:World) (hr:Row w.heap.size w a len) :
  Calls prog 56 #[.slice a len cap] w fun e w'=>e= .returned (.pointer (some ⟨w.heap.size,0,none⟩))/\St a len cap w.heap.size w'/\Off w.heap.size w w':=by
 have Hr:=Z9 hr;obtain ⟨hl,hr⟩:=hr;have Hc:=Z9 hr;clear hr;go_enter func56,ntmps56;go_wp2_with fail
 go_loop [3,4] (fun t i=> ∃ k:Nat,k<=len/\i= .int .i64 k/\ ∃ x:Int,t= .int .i64 x) (fun _ i=>len-(intOf i).toNat)
 case atStart=>exact ⟨0,ZA _,rfl,_,rfl⟩
 case round=>
  obtain ⟨k,hk,rfl,x,rfl⟩:=hrel;by_cases hlt:k<len
  ·rcases uh Hc with h0 | ⟨b,off,rfl,hb,hc⟩
   ·omega
   obtain ⟨n,n0,n1,hn⟩:=hc k hlt;clear hc;go_wp2_with fail
   go_round
   case rel=>exact ⟨k+1,by omega,by go_num,_,rfl⟩
   case measure=>exact ms
  ·go_wp2_with fail
   go_ret;refine ⟨rfl,yG (uh Hr) _,(Off.refl _ _).alloc _⟩
def Vt (k:IntKind) (w:World) (a:Option Addr) (len cap:Nat) (zs:List Int):Prop:=
 (a=none/\len=0/\cap=0/\zs=[])\/
 ∃ x,a=some x/\len<=cap/\cap<=maxLen/\zs.length=cap/\(∀ i,i<zs.length->w.cell? (x.add i)=some (.int k (zs.getD i 0)))/\ ∀ n ∈ zs,(Lit.int k n).wf=true
theorem Pa {w:World} {a:Option Addr} {len cap:Nat} {zs:List Int} (h:Vt .u8 w a len cap zs) (hl:len<=4096):Row w.heap.size w a len:=by
 refine ⟨hl,?_⟩
 rcases h with ⟨_,h0,_,_⟩ | ⟨x,rfl,hlc,hm,hz,hcell,hwz⟩
 ·exact .inl h0
 ·by_cases h0:len=0
  ·exact .inl h0
  ·obtain ⟨b,off,spot⟩:=x
   have hc:=hcell 0 (by omega);have hspot:spot=none:=by simpa [Addr.add] using World.cell?_spot hc
   subst hspot;have hlt:=World.block_lt_of_cell? _ _ hc;refine .inr ⟨b,off,rfl,hlt,fun i hi=> ?_⟩;have hiz:i<zs.length:=by omega
   have hb:=bounds_u8 (hwz zs[i] (List.getElem_mem hiz));have hci:=hcell i hiz;rw [show zs.getD i 0=zs[i] from by simp [List.getD,hiz]] at hci;refine ⟨zs[i],hb.1,hb.2,?_⟩;by_cases hi0:i=0
   ·subst hi0;simpa [Addr.add] using hci
   ·simpa [Addr.add,hi0] using hci
theorem row_below {B:Nat} {w w':World} {a:Option Addr} {len:Nat} (h:Row B w a len) (hb:Below B w w'):Row B w' a len:=by
 refine ⟨h.1,?_⟩
 rcases h.2 with h0 | ⟨b,off,ha,hlt,hc⟩
 ·exact .inl h0
 ·refine .inr ⟨b,off,ha,hlt,fun i hi=> ?_⟩
  obtain ⟨n,n0,n1,hn⟩:=hc i hi;exact ⟨n,n0,n1,by rw [hb.cell (p:=⟨b,off+i,none⟩) hlt];exact hn⟩
theorem yL {B B':Nat} {w:World} {a:Option Addr} {len:Nat} (h:Row B w a len) (hB:B<=B'):Row B' w a len:=by
 refine ⟨h.1,?_⟩
 rcases h.2 with h0 | ⟨b,off,ha,hlt,hc⟩
 ·exact .inl h0
 ·exact .inr ⟨b,off,ha,Y0 hlt hB,hc⟩
theorem row_later {w w':World} {a:Option Addr} {len:Nat} (h:Row w.heap.size w a len) (hb:Below w.heap.size w w'):Row w'.heap.size w' a len:=yL (row_below h hb) hb.size
theorem OM (a:Option Addr) (len cap:Nat) (w:World) (hl:len<=4096):cE 12 #[.slice a len cap] w (.bool false):=by
 have h:¬ (4096:Int)<len:=by omega
 go_enter func12,ntmps12
 go_wp2
 go_ret;exact ⟨rfl,rfl⟩
theorem Qz (a:Option Addr) (len cap:Nat) (w:World) (hl:4096<len):cE 12 #[.slice a len cap] w (.bool true):=by
 have h:(4096:Int)<len:=by omega
 go_enter func12,ntmps12
 go_wp2
 go_ret;exact ⟨rfl,rfl⟩
def isI64:Value->Bool
 | .int .i64 _=>true
 | _=>false
theorem pick_any (cs:Array Value) (j:Nat) (hj:j<cs.size) (h:cs.toList.all isI64=true):∃ v:Int,cs[j]?=some (.int .i64 v):=by
 rw [Array.all_toList,Array.all_eq_true] at h;have:=h j hj;rw [Array.getElem?_eq_getElem hj];generalize cs[j]=c at *;unfold isI64 at this
 split at this
 ·exact ⟨_,rfl⟩
 ·cases this
theorem yo (p q r:Value) (k:IntKind) (j:Nat) (hj:j<3) (hp:∃ v:Int,p= .int k v) (hq:∃ v:Int,q= .int k v) (hr:∃ v:Int,r= .int k v) :
  ∃ v:Int,(#[p,q,r]:Array Value)[j]?=some (.int k v):=by
 obtain ⟨_,rfl⟩:=hp;obtain ⟨_,rfl⟩:=hq;obtain ⟨_,rfl⟩:=hr
 match j,hj with
 | 0,_=>exact ⟨_,rfl⟩
 | 1,_=>exact ⟨_,rfl⟩
 | 2,_=>exact ⟨_,rfl⟩
theorem drawForce_any (a:Option Addr) (len cap bc:Nat) (w:World) (hs:St a len cap bc w) :
  Calls prog 181 #[.pointer (some ⟨bc,0,none⟩)] w fun e w'=> ∃ x:Int,e= .returned (.int .i64 x)/\St a len cap bc w'/\Off bc w w':=by
 have Hs:=Z9 hs;clear hs;go_enter func181,ntmps181;go_wp2_with fail;refine (once_any a len cap bc 8 (by omega) (by omega) _ (uh Hs)).mono ?_;rintro e w1 ⟨b,rfl,s1,o1⟩;have Hs1:=Z9 s1;have Ho1:=Z9 o1;have hb:=s1.cur.1;clear s1 o1;cases b
 ·go_wp2_with fail
  refine (below_any a len cap bc 1025 (by omega) (by omega) _ (uh Hs1)).mono ?_;rintro e w2 ⟨x,rfl,x0,x1,s2,o2⟩;have Hs2:=Z9 s2;have Ho2:=Z9 o2;clear s2 o2;go_wp2_with fail;go_ret;exact ⟨_,rfl,uh Hs2,(uh Ho1).trans (uh Ho2)⟩
 ·go_wp2_with fail
  refine (below_any a len cap bc 3 (by omega) (by omega) _ ((uh Hs1).alloc _)).mono ?_;rintro e w2 ⟨x,rfl,x0,x1,s2,o2⟩;have hsz:w1.heap.size<w2.heap.size:=by have:=o2.size;simp at this;omega
  obtain ⟨v,hv⟩:=yo (.int .i64 (-1)) (.int .i64 1024) (.int .i64 1025) .i64 x.toNat (by omega) ⟨_,rfl⟩ ⟨_,rfl⟩ ⟨_,rfl⟩
  have hcell:w2.cell? ⟨w1.heap.size,x.toNat,none⟩=some (.int .i64 v):=by
   rw [o2.cell (p:=⟨w1.heap.size,x.toNat,none⟩) (by simp) (by simp;omega),World.cell?_alloc_at _ _ _ _ rfl];exact hv
  clear hv;have Hs2:=Z9 s2;have Ho2:=Z9 o2;clear s2 o2;go_wp2_with fail;go_ret;exact ⟨_,rfl,uh Hs2,(uh Ho1).trans (((Off.refl _ _).alloc _).trans (uh Ho2))⟩
end Go.Proofs.YtgdpaigcmoifbaaGreat.Draw
