/- Part 7 of what the proof rests on. No condition but those that a theorem names. -/
import Derived.Test.YtamgfpdahadnfaaGreatDoorXf03
import Derived.Test.YtamgfpdahadnfaaGreatDoorXf05
import Derived.Lib.ItoaNum
import Derived.Lib.ItoaLen
import Derived.Lib.AtoiTie
import Derived.Lib.ParseIntBTie
import Derived.Lib.SplitLaws
import Derived.Lib.Join
set_option maxHeartbeats 8000000
set_option maxRecDepth 100000
namespace Go.Proofs.YtamgfpdahadnfaaGreatDoor
open Go.ChangeShapes Go.WideShapes Go.ChangeAt Go.RowKit Go.Sort
set_option linter.unusedVariables false
variable {w w' w0 w1 w2 w3 w₀ wr W W' X A B C : World} {v v0 v1 v2 v3 v4 u u0 u1 u2 u3 u4 : Value}
theorem Yl {B:Nat} (h:Below B w w') (n:Nat):Below B w (w'.drewN n):=⟨h.os,h.tape,h.output,h.size,h.block⟩
theorem X8 (x:Int) (w:World):Calls Tryz.prog 105 #[.int .i64 x] w fun e w'=>e= .returned (.bool (inB x 0 1024))/\w'=w:=by
 go_enter Tryz.func105,Tryz.ntmps105;go_wp2_with (go_at_call 59;refine (ZU _ _ _ _).mono ?_;rintro e w' ⟨rfl,rfl⟩)
 go_ret;exact ⟨rfl,rfl⟩
theorem YD (lo hi:Int) (w:World):Calls Tryz.prog 78 #[.int .i64 lo,.int .i64 hi] w fun e w'=>e= .returned (.bool (Ya lo hi))/\w'=w:=by
 cases h1:inB lo 0 1024
 ·have hp:Ya lo hi=false:=by unfold Ya;rw [h1];rfl
  rw [hp];clear hp;go_enter Tryz.func78,Tryz.ntmps78;go_wp2_with (go_at_call 105;refine (X8 _ _).mono ?_;rintro e w' ⟨rfl,rfl⟩)
  go_ret;exact ⟨rfl,rfl⟩
 ·cases h2:inB hi 0 1024
  ·have hp:Ya lo hi=false:=by unfold Ya;rw [h1,h2];rfl
   rw [hp];clear hp;go_enter Tryz.func78,Tryz.ntmps78;go_wp2_with (go_at_call 105;refine (X8 _ _).mono ?_;rintro e w' ⟨rfl,rfl⟩)
   go_ret;exact ⟨rfl,rfl⟩
  ·have hp:Ya lo hi=decide (lo<=hi):=by unfold Ya;rw [h1,h2];rfl
   rw [hp];clear hp;by_cases h3:lo<=hi
   all_goals
    go_enter Tryz.func78,Tryz.ntmps78;go_wp2_with (go_at_call 105;refine (X8 _ _).mono ?_;rintro e w' ⟨rfl,rfl⟩)
    go_ret;exact ⟨Z5 (by first | (simp;done) | (simp;omega)),rfl⟩
theorem O5  {ps:List Zt} (h:Xz w v ps) :
  Calls Tryz.prog 115 #[v] w fun e w'=>e= .returned (.bool (Zg ps))/\Below w.heap.size w w':=by
 obtain ⟨a,cap,rfl,hc,hm,hr⟩:=h;have Hr:=Z9 hr;clear hr;go_enter Tryz.func115,Tryz.ntmps115;go_wp2_with fail
 go_loopw [3] (fun i wr=> ∃ k:Nat,k<=ps.length/\i= .int .i64 k/\TW ps k=true/\Below w.heap.size w wr) (fun i _=>ps.length-(intOf i).toNat)
 case atStart=>exact ⟨0,Zz _,rfl,rfl,Z1 _ _⟩
 case round=>
  obtain ⟨k,hk,rfl,hst,hb⟩:=hrel;have Hst:=Z9 hst;have Hb:=Z9 hb;clear hst;by_cases hlt:k<ps.length
  ·rcases uh Hr with h0 | ⟨b,off,rfl,hbw,hcl⟩
   ·rw [h0] at hlt;simp at hlt
   obtain ⟨c0,c1,c2⟩:=VS hcl hlt;rw [<-hb.cell (p:=⟨b,off+k*3,none⟩) hbw] at c0;rw [<-hb.cell (p:=⟨b,off+k*3+1,none⟩) hbw] at c1;rw [<-hb.cell (p:=⟨b,off+k*3+2,none⟩) hbw] at c2;generalize hp:Z8 ps k=p at c0 c1 c2;have Hp:=Z9 hp;clear hp;obtain ⟨x0,x1,x2⟩:=p;simp only at c0 c1 c2;clear hcl hb;have hg:Xd (x0,x1,x2) k=(inB x0 (-1) ((k:Int)-1) && Ya x1 x2):=rfl;have Hg:=Z9 hg;clear hg;cases h1:inB x0 (-1) ((k:Int)-1)
   ·go_wp2_with fail
    go_quiet (first | exact Yf (ZU _ _ _ _) | exact Yf (YD _ _ _));go_wp2_with fail;go_ret;exact ⟨Z5 (OK hlt (by rw [uh Hp,uh Hg,h1];rfl)).symm,Yl (uh Hb) _⟩
   cases h2:Ya x1 x2
   ·go_wp2_with fail
    go_quiet (first | exact Yf (ZU _ _ _ _) | exact Yf (YD _ _ _));go_wp2_with fail;go_ret;exact ⟨Z5 (OK hlt (by rw [uh Hp,uh Hg,h1,h2];rfl)).symm,Yl (uh Hb) _⟩
   ·go_wp2_with fail
    go_quiet (first | exact Yf (ZU _ _ _ _) | exact Yf (YD _ _ _));go_wp2_with fail;go_roundw
    case rel=>exact ⟨k+1,by omega,by go_num,by rw [Ql,uh Hst,uh Hp,uh Hg,h1,h2];rfl,Yl (uh Hb) _⟩
    case measure=>exact ms
  ·obtain rfl:k=ps.length:=by omega
   by_cases hbig:ps.length<=6
   all_goals
    go_wp2_with fail;go_ret;exact ⟨Z5 (by unfold Zg;rw [uh Hst];simp;omega),hb⟩
theorem Of {ps:List Zt} (g:Int) (lo hi:Int)  (h:Xz w v ps)
  (hB:Calls Tryz.prog 263 #[v,.int .i64 g] w fun e w'=>e= .returned (.tuple #[.int .i64 (bnd ps g).1,.int .i64 (bnd ps g).2])/\Below w.heap.size w w') :
  Calls Tryz.prog 219 #[v,.int .i64 g,.int .i64 lo,.int .i64 hi] w fun e w'=>e= .returned (.tuple #[.int .i64 (UI (bnd ps g) lo hi).1,.int .i64 (UI (bnd ps g) lo hi).2])/\Below w.heap.size w w':=by
 have HB:=Z9 hB;clear hB;obtain ⟨a,cap,rfl,_⟩:=h;unfold UI;go_enter Tryz.func219,Tryz.ntmps219;go_wp2_with fail;refine ck (uh HB) fun w1 hb1=> ?_;go_wp2_with (go_at_call 220;refine (R6 _ _ _ _).mono ?_;rintro e w' ⟨rfl,rfl⟩)
 go_ret2
 exact ⟨rfl,hb1⟩
theorem Jg {ps:List Zt} (hg:Zg ps=true):∀ (n:Nat) (g:Int) {w:World} {v:Value},Xz w v ps-> -1<=g->g<n->g<ps.length->
  Calls Tryz.prog 263 #[v,.int .i64 g] w fun e w'=>e= .returned (.tuple #[.int .i64 (bnd ps g).1,.int .i64 (bnd ps g).2])/\Below w.heap.size w w':=by
 intro n
 induction n with
 | zero=>
  intro g w v h h0 h1 h2;obtain rfl:g= -1:=by omega
  rw [Pn ps (by omega)];obtain ⟨a,cap,rfl,_⟩:=h;go_enter Tryz.func263,Tryz.ntmps263;go_wp2_with fail
  go_ret2
  exact ⟨rfl,Z1 _ _⟩
 | succ n ih=>
  intro g w v h h0 h1 h2;by_cases hg0:g<0
  ·obtain rfl:g= -1:=by omega
   rw [Pn ps (by omega)];obtain ⟨a,cap,rfl,_⟩:=h;go_enter Tryz.func263,Tryz.ntmps263;go_wp2_with fail
   go_ret2
   exact ⟨rfl,Z1 _ _⟩
  ·obtain ⟨k,rfl⟩:∃ k:Nat,g=k:=⟨g.toNat,by omega⟩
   have hlt:k<ps.length:=by omega
   obtain ⟨a0,a1,_⟩:=Sm hg (g:=(k:Int)) (by omega) h2;have hs:=FL hg (g:=(k:Int)) (by omega) h2;rw [show ((k:Int)).toNat=k by omega] at a0 a1 hs;rw [hs];clear hs;have Hi:=Z9 h;obtain ⟨a,cap,rfl,hc,hm,hr⟩:=h
   rcases hr with hz | ⟨b,off,rfl,hbw,hcl⟩
   ·rw [hz] at hlt;simp at hlt
   obtain ⟨c0,c1,c2⟩:=VS hcl hlt;clear hcl;generalize hp:Z8 ps k=p at *;obtain ⟨x0,x1,x2⟩:=p;simp only at c0 c1 c2 a0 a1;have k0:=ZY c0;have k1:=ZY c1;have k2:=ZY c2;have ih':=fun (w':World) (h:Xz w' (.slice (some ⟨b,off,none⟩) ps.length cap) ps)=>Of x0 x1 x2 h (ih x0 h a0 (by omega) (by omega));have Ih:=Z9 ih';clear ih ih' hp;go_enter Tryz.func263,Tryz.ntmps263;go_wp2_with fail;refine wq ?_
   repeat (go_big_quiet_step (exact ZX (uh Ih _ ((uh Hi).below (Z0 _ _ _)))))
   refine wpQuiet_nil ?_;intro _ hw';obtain ⟨⟨dq,osq⟩,hw''⟩:=hw';subst hw'';go_wp2_with fail
   go_ret2
   exact ⟨rfl,Z0 _ _ _⟩
def PacesAt (n₀:Nat) (w:World) (v:Value) (ps:List Z4):Prop:=w.ownsRow n₀ 114 2 v ps.length (YV ps)
theorem PacesAt.lt {n₀:Nat}  {ps:List Z4} (h:PacesAt n₀ w v ps) {k:Nat} (hk:v.ownBlock=some k):n₀<=k/\k<w.heap.size:=World.ownsRow.lt h k hk
theorem PacesAt.pc {n₀:Nat}  {ps:List Z4} (h:PacesAt n₀ w v ps):IsPaces w v ps:=by
 have h':=h
 rcases h.2 with ⟨rfl,hz⟩ | ⟨g,cap,cur,rfl,hb,hg,hnc,hcm,r⟩
 ·exact ⟨none,0,by rw [hz],by omega,by omega,.inl (List.eq_nil_of_length_eq_zero hz)⟩
 ·refine ⟨_,cap,rfl,hnc,by unfold maxLen at hcm;omega,.inr ⟨g,0,rfl,(Array.getElem?_eq_some_iff.1 hg).1,fun k hk=> ?_⟩⟩
  have hp:=Uw (f:=fun p:Z4=>Value.int .i64 p.1) (g:=fun p:Z4=>Value.int .i64 p.2) ps k hk;have hat:Z7 ps k=ps[k]:=by unfold Z7;simp [List.getD,hk]
  rw [Nat.zero_add,hat];exact ⟨(World.ownsRow.cellAt h' (k*2) (by omega)).trans hp.1,(World.ownsRow.cellAt h' (k*2+1) (by omega)).trans hp.2⟩
structure OwnHall (n₀:Nat) (w:World) (v:Value) (qs:List (ZZ × Value)):Prop where
 row:w.ownsRow n₀ 112 2 v qs.length (RG qs)
 pc:∀ q ∈ qs,PacesAt n₀ w q.2 q.1.2
 off:∀ q ∈ qs,∀ b,q.2.ownBlock=some b->v.ownBlock ≠ some b
 apart:(qs.map (·.2)).Pairwise fun x y=> ∀ b,x.ownBlock=some b->y.ownBlock ≠ some b
theorem OwnHall.nil (n₀:Nat) (w:World):OwnHall n₀ w (.slice none 0 0) []:=
 ⟨World.ownsRow_nil w n₀ _ _,fun _ h=>(by cases h),fun _ h=>(by cases h),List.Pairwise.nil⟩
theorem OwnHall.lt {n₀:Nat}  {qs:List (ZZ × Value)} (h:OwnHall n₀ w v qs) {k:Nat} (hk:v.ownBlock=some k\/ ∃ q ∈ qs,q.2.ownBlock=some k):n₀<=k/\k<w.heap.size:=by
 rcases hk with hk | ⟨q,hq,hk⟩
 ·exact World.ownsRow.lt h.row k hk
 ·exact (h.pc q hq).lt hk
theorem OwnHall.same {n₀:Nat}  {qs:List (ZZ × Value)} (h:OwnHall n₀ w v qs) (hs:∀ k,n₀<=k->k<w.heap.size->w'.heap[k]?=w.heap[k]?):OwnHall n₀ w' v qs:=
 ⟨Xe h.row (fun k e=>hs k (h.lt (.inl e)).1 (h.lt (.inl e)).2),fun q hq=>Xe (h.pc q hq) (fun k e=>hs k (h.lt (.inr ⟨q,hq,e⟩)).1 (h.lt (.inr ⟨q,hq,e⟩)).2),h.off,h.apart⟩
theorem OwnHall.later {n₀:Nat}  {qs:List (ZZ × Value)} (h:OwnHall n₀ w v qs) (hb:Below w.heap.size w w'):OwnHall n₀ w' v qs:=h.same (fun k _ hk=>hb.block k hk)
theorem OwnHall.but {n₀ bc:Nat}  {qs:List (ZZ × Value)} (h:OwnHall n₀ w v qs) (hb:But bc w w') (hbc:bc<n₀\/w.heap.size<=bc):OwnHall n₀ w' v qs:=h.same (fun k h0 hk=>hb.block k hk (by omega))
theorem OwnHall.mono {n₀ n₁:Nat}  {qs:List (ZZ × Value)} (h:OwnHall n₀ w v qs) (hn:n₁<=n₀):OwnHall n₁ w v qs:=
 ⟨Tj h.row hn,fun q hq=>Tj (h.pc q hq) hn,h.off,h.apart⟩
theorem OwnHall.rm {n₀:Nat}  {qs:List (ZZ × Value)} (h:OwnHall n₀ w v qs):IsRooms w v (qs.map (·.1)):=by
 have h':=h.row;have hlen:(qs.map (·.1)).length=qs.length:=by simp
 rcases h.row.2 with ⟨rfl,hz⟩ | ⟨g,cap,cur,rfl,hb,hg,hnc,hcm,r⟩
 ·exact ⟨none,0,by rw [hlen,hz],by omega,by omega,.inl (by rw [List.eq_nil_of_length_eq_zero hz];rfl)⟩
 ·refine ⟨_,cap,by rw [hlen],by rw [hlen];exact hnc,by unfold maxLen at hcm;omega,.inr ⟨g,0,rfl,(Array.getElem?_eq_some_iff.1 hg).1,fun k hk=> ?_⟩⟩
  rw [hlen] at hk;have hp:=Uw (f:=fun q:ZZ × Value=>Value.int .i64 q.1.1) (g:=fun q:ZZ × Value=>q.2) qs k hk;have hat:ZN (qs.map (·.1)) k=qs[k].1:=by unfold ZN;simp [List.getD,hk]
  rw [Nat.zero_add,hat];exact ⟨(World.ownsRow.cellAt h' (k*2) (by omega)).trans hp.1,qs[k].2,(World.ownsRow.cellAt h' (k*2+1) (by omega)).trans hp.2,(h.pc _ (List.getElem_mem hk)).pc⟩
theorem OwnHall.push {n₀:Nat} {v v' pv:Value} {qs:List (ZZ × Value)} {rb:Int} {ps:List Z4} {o:Obj} (h:OwnHall n₀ w v qs) (hp:PacesAt n₀ w pv ps)
  (hoff:∀ b,pv.ownBlock=some b->v.ownBlock ≠ some b) (hap:∀ q ∈ qs,∀ b,q.2.ownBlock=some b->pv.ownBlock ≠ some b)
  (hown:w1.ownsRow n₀ 112 2 v' (qs.length+1) (RG qs++[.int .i64 rb,pv])) (hg:(w.alloc o).grownBy w1 v.ownBlock) (hat:v'.ownBlock=v.ownBlock\/v'.ownBlock=some (w.alloc o).heap.size) :
  OwnHall n₀ w1 v' (qs++[((rb,ps),pv)]):=by
 have hk:∀ k,k<w.heap.size->v.ownBlock ≠ some k->w1.heap[k]?=w.heap[k]?:=fun k hk hn=>(hg.block k (by simp;omega) (fun e=>hn e.symm)).trans (Below.heap_alloc w o k hk)
 have hv':∀ k,k<w.heap.size->v'.ownBlock=some k->v.ownBlock=some k:=fun k hk e=>by
  rcases hat with e' | e'
  ·rw [<-e'];exact e
  ·rw [e'] at e;simp at e;omega
 refine ⟨?_,fun q hq=> ?_,fun q hq b e=> ?_,?_⟩
 ·simpa [RG] using hown
 ·rcases List.mem_append.1 hq with hq | hq
  ·exact Xe (h.pc q hq) (fun k e=>hk k (h.lt (.inr ⟨q,hq,e⟩)).2 (h.off q hq k e))
  ·obtain rfl:q=((rb,ps),pv):=by simpa using hq
   exact Xe hp (fun k e=>hk k (hp.lt e).2 (hoff k e))
 ·rcases List.mem_append.1 hq with hq | hq
  ·exact fun e'=>h.off q hq b e (hv' b (h.lt (.inr ⟨q,hq,e⟩)).2 e')
  ·obtain rfl:q=((rb,ps),pv):=by simpa using hq
   exact fun e'=>hoff b e (hv' b (hp.lt e).2 e')
 ·rw [List.map_append,List.pairwise_append]
  refine ⟨h.apart,by simp,fun x hx y hy b e=> ?_⟩;obtain ⟨q,hq,rfl⟩:=List.mem_map.1 hx;obtain rfl:y=pv:=by simpa using hy
  exact hap q hq b e
theorem BU:(Tryz.prog.info? 114).map (fun i=>(i.zero,i.size,i.bytes))=some (some (.agg #[.int .i64 0,.int .i64 0]),2,16):=by kernel_rfl
theorem JU:(Tryz.prog.info? 112).map (fun i=>(i.zero,i.size,i.bytes))=some (some (.agg #[.int .i64 0,.slice none 0 0]),2,32):=by kernel_rfl
theorem OwnHall.shape {n₀:Nat}  {qs:List (ZZ × Value)} (h:OwnHall n₀ w v qs):∃ a cap,v= .slice a qs.length cap:=by
 rcases h.row.2 with ⟨rfl,hz⟩ | ⟨g,cap,cur,rfl,_⟩
 ·exact ⟨none,0,by rw [hz]⟩
 ·exact ⟨_,cap,rfl⟩
theorem PacesAt.shape {n₀:Nat}  {ps:List Z4} (h:PacesAt n₀ w v ps):∃ a cap,v= .slice a ps.length cap:=by
 rcases h.2 with ⟨rfl,hz⟩ | ⟨g,cap,cur,rfl,_⟩
 ·exact ⟨none,0,by rw [hz]⟩
 ·exact ⟨_,cap,rfl⟩
open Go.ChangeShapes Go.WideShapes Go.ChangeAt Go.RowKit
def UE (need:Int) (p:Z4):Bool:=decide (5*need<=4*p.1)
def Qv (need:Int):List Z4->Nat
 | []=>0
 | [_]=>0
 | p::q::ps=>if UE need p then 0 else Qv need (q::ps)+1
def Xf (r:ZZ) (need:Int):Int:=if Zc r && inB need 0 1000000 then Qv need r.2 else -1
def Xc (r:ZZ) (pace work:Int):Int:=if Zc r && (inB work 0 1000000 && inB pace 0 (r.2.length-1)) then Yj (Z7 r.2 pace.toNat).2 work (Z7 r.2 pace.toNat).1 else -1
def ON (r:ZZ) (need work:Int):Int:=Xc r (Xf r need) work
theorem GR (p:Z4) (ps:List Z4):Z7 (p::ps) 0=p:=rfl
theorem GU (p:Z4) (ps:List Z4) (k:Nat):Z7 (p::ps) (k+1)=Z7 ps k:=by unfold Z7;simp [List.getD]
theorem zP {need:Int} {p:Z4} (h:5*need<=4*p.1):UE need p=true:=VN h
theorem zO {need:Int} {p:Z4} (h:4*p.1<5*need):UE need p=false:=Xn (by omega)
theorem RF (need:Int):∀ (ps:List Z4) (k:Nat),k+1<=ps.length->(∀ j,j<k->UE need (Z7 ps j)=false)->(k+1=ps.length\/UE need (Z7 ps k)=true)->Qv need ps=k
 | [],k,hk,_,_=>by simp at hk
 | [p],k,hk,_,_=>by simp at hk;subst hk;rfl
 | p::q::ps,0,_,_,he=>by
  rcases he with he | he
  ·simp at he
  ·rw [GR] at he;simp [Qv,he]
 | p::q::ps,k+1,hk,hlo,he=>by
  have h0:=hlo 0 (by omega);rw [GR] at h0
  have ih:=RF need (q::ps) k (by simp at hk ⊢;omega) (fun j hj=>by have:=hlo (j+1) (by omega);rwa [GU] at this) (by
   rcases he with he | he
   ·left;simp at he ⊢;omega
   ·right;rwa [GU] at he)
  simp [Qv,h0,ih]
theorem GV (need:Int):∀ ps:List Z4,1<=ps.length->Qv need ps+1<=ps.length
 | [],h=>by simp at h
 | [p],_=>by simp [Qv]
 | p::q::ps,_=>by
  have ih:=GV need (q::ps) (by simp);unfold Qv;split<;>simp at ih ⊢;omega
theorem O2 {r:ZZ} (h:Zc r=true) {k:Nat} (hk:k<r.2.length):1<=(Z7 r.2 k).1/\(Z7 r.2 k).1<=1024/\1<=(Z7 r.2 k).2/\(Z7 r.2 k).2<=1024:=by
 unfold Zc at h;simp only [ZL] at h;have h1:=Kd h.2.2 hk;unfold WC TQ at h1;simp only [ZL] at h1;have a:=ZJ h1.1.1;have b:=ZJ h1.1.2;omega
theorem Oh {r:ZZ} {need:Int} (h:Zc r=false):Xf r need= -1:=by unfold Xf;simp [h]
theorem Oi {r:ZZ} {need:Int} (h:inB need 0 1000000=false):Xf r need= -1:=by unfold Xf;simp [h]
theorem MD {r:ZZ} {need:Int} (h:Zc r=true) (h2:inB need 0 1000000=true):Xf r need=Qv need r.2:=by unfold Xf;simp [h,h2]
theorem Re {r:ZZ} {pace work:Int} (h:Zc r=false):Xc r pace work= -1:=by unfold Xc;simp [h]
theorem Rf {r:ZZ} {pace work:Int} (h:inB work 0 1000000=false):Xc r pace work= -1:=by unfold Xc;simp [h]
theorem TL {r:ZZ} {pace work:Int} (h:inB pace 0 (r.2.length-1)=false):Xc r pace work= -1:=by unfold Xc;simp [h]
theorem P7 {r:ZZ} {pace work:Int} (h:Zc r=true) (h2:inB work 0 1000000=true) (h3:inB pace 0 (r.2.length-1)=true):Xc r pace work=Yj (Z7 r.2 pace.toNat).2 work (Z7 r.2 pace.toNat).1:=by unfold Xc;simp [h,h2,h3]
theorem Ci {a b c:Int} (a0:0<=a) (a1:a<=1000000000) (b0:0<=b) (b1:b<=1000000000) (c0:1<=c) (c1:c<=1000000000):Yj a b c=a*b / c:=by
 unfold Yj;rw [Zp a0 a1,Zp b0 b1,Zp c0 c1];rfl
theorem FU (r:ZZ) (pace work:Int) : -1<=Xc r pace work/\Xc r pace work<=1024000000:=by
 cases h:Zc r
 ·rw [Re h];omega
 cases h2:inB work 0 1000000
 ·rw [Rf h2];omega
 cases h3:inB pace 0 (r.2.length-1)
 ·rw [TL h3];omega
 rw [P7 h h2 h3];have hb:=ZJ h2;have hp:=ZJ h3;have hr:=O2 h (k:=pace.toNat) (by omega);generalize Z7 r.2 pace.toNat=p at *;rw [Ci (by omega) (by omega) (by omega) (by omega) (by omega) (by omega)];have m0:0<=p.2*work:=Int.mul_nonneg (by omega) (by omega);have m1:p.2*work<=1024*1000000:=Int.mul_le_mul (by omega) (by omega) (by omega) (by omega);have d0:=Int.ediv_nonneg m0 (show 0<=p.1 by omega);have d1:=Int.ediv_le_self p.1 m0;omega
theorem zo {ps:List Z4} {k:Nat} {p:Z4} (hp:Z7 ps k=p) (h:LV p=false):Vx ps k=false:=by unfold Vx;rw [hp];simp [h]
theorem zp {ps:List Z4} {k:Nat} {p q:Z4} (hz:0<k) (hp:Z7 ps k=p) (hq:Z7 ps (k-1)=q) (h:ltB q p=false):Vx ps k=false:=by unfold Vx;rw [hp,hq];simp [h];omega
theorem zr {ps:List Z4} {k:Nat} {f z:Int} (hp:Z7 ps k=(f,z)) (h:0<=VC (ps.take k) z):Vx ps k=false:=by unfold Vx;rw [hp];simp;intros;exact h
theorem zt {ps:List Z4} {k:Nat} {f z:Int} {q:Z4} (hz:0<k) (hp:Z7 ps k=(f,z)) (hq:Z7 ps (k-1)=q) (h1:LV (f,z)=true) (h2:ltB q (f,z)=true) (h:VC (ps.take k) z<0):Vx ps k=true:=by unfold Vx;rw [hp,hq];simp [h1,h2,h]
theorem zn {ps:List Z4} {p:Z4} (hp:Z7 ps 0=p) (h:LV p=true):Vx ps 0=true:=by unfold Vx;rw [hp];simp [h,VC]
theorem Tm  {ps:List Z4} {who F:Int} (hF:VC ps who=F) (h:IsPaces w v ps) :
  Calls Tryz.prog 275 #[v,.int .i64 who] w fun e w'=>e= .returned (.int .i64 F)/\Below w.heap.size w w':=by
 subst hF;exact GZ who h
theorem XS  {ps:List Z4} (h:IsPaces w v ps) :
  Calls Tryz.prog 243 #[v] w fun e w'=>e= .returned (.bool (Ye ps))/\Below w.heap.size w w':=by
 have Hr2:=Z9 h;obtain ⟨a,cap,rfl,hc,hm,hr⟩:=h;have Hr:=Z9 hr;clear hr;by_cases hbig:100<ps.length
 ·go_enter Tryz.func243,Tryz.ntmps243
  go_wp2_with fail;go_ret;exact ⟨Z5 (EP hbig).symm,Z1 _ _⟩
 go_enter Tryz.func243,Tryz.ntmps243;go_wp2_with fail
 go_loopw [10] (fun i wr=> ∃ k:Nat,k<=ps.length/\i= .int .i64 k/\(∀ j,j<k->Vx ps j=true)/\Below w.heap.size w wr) (fun i _=>ps.length-(intOf i).toNat)
 case atStart=>exact ⟨0,Zz _,rfl,fun j hj=>by omega,Z1 _ _⟩
 case round=>
  obtain ⟨k,hk,rfl,hst,hb⟩:=hrel;have Hst:=Z9 hst;have Hb:=Z9 hb;clear hst;by_cases hlt:k<ps.length
  ·rcases uh Hr with h0 | ⟨b,off,rfl,hbw,hcl⟩
   ·rw [h0] at hlt;simp at hlt
   have hbr:b<wr.heap.size:=Zd hbw hb.size;have hne:b ≠ wr.heap.size:=UZ hbr;obtain ⟨c0,c1⟩:=hcl k hlt;rw [<-hb.cell (p:=⟨b,off+k*2,none⟩) hbw] at c0;rw [<-hb.cell (p:=⟨b,off+k*2+1,none⟩) hbw] at c1;generalize hp:Z7 ps k=p at c0 c1;have Hp:=Z9 hp;clear hp;obtain ⟨f,z⟩:=p;simp only at c0 c1;have Hip:=Z9 ((((uh Hr2).below hb).cut (n:=k) (by omega)).below ((Z1 _ _).alloc (Z2 _) (.cells #[.int .i64 f,.int .i64 z] 91)));have d0:(wr.alloc (.cells #[.int .i64 f,.int .i64 z] 91)).cell? ⟨wr.heap.size,0,none⟩=some (.int .i64 f):=by simp
   have d1:(wr.alloc (.cells #[.int .i64 f,.int .i64 z] 91)).cell? ⟨wr.heap.size,1,none⟩=some (.int .i64 z):=by simp
   have k0:=ZY d0;have k1:=ZY d1;clear d0 d1;obtain ⟨F,hF⟩:∃ F,VC (ps.take k) z=F:=⟨_,rfl⟩
   have hFb:=zQ (ps.take k) z;rw [hF] at hFb;have HF:=Z9 hF;clear hF;cases hpb:LV (f,z)
   ·clear hcl
    go_wp2_with fail;refine wq ?_
    repeat (go_big_quiet_step (first | exact ZX (U5 _ _ _) | exact ZX (Wk _ _ _ _ _) | exact ZX (Tm (uh HF) ((uh Hip).below (Z0 _ _ _)))))
    refine wpQuiet_nil ?_;intro _ hw';obtain ⟨⟨dq,osq⟩,hw''⟩:=hw';subst hw'';go_wp2_with fail;go_ret;exact ⟨Z5 (MJ hlt (zo (uh Hp) hpb)).symm,(uh Hb).trans (((Z1 _ _).alloc (uh Hb).size _).trans ((Z0 _ _ _).mono (by simp;have:=(uh Hb).size;omega)))⟩
   ·by_cases hz:0<k
    ·have hd:decide (0<k)=true:=VN hz
     obtain ⟨e0,e1⟩:=hcl (k-1) (by omega);rw [<-hb.cell (p:=⟨b,off+(k-1)*2,none⟩) hbw] at e0;rw [<-hb.cell (p:=⟨b,off+(k-1)*2+1,none⟩) hbw] at e1;generalize hq:Z7 ps (k-1)=q at e0 e1;have Hq:=Z9 hq;clear hq;obtain ⟨f',z'⟩:=q;simp only at e0 e1;have m0:=ZY (w:=wr.alloc (.cells #[.int .i64 f,.int .i64 z] 91)) (a:=⟨b,off+(k-1)*2,none⟩) (v:= .int .i64 f') (by rw [World.cell?_alloc_old _ _ _ hne];exact e0);have m1:=ZY (w:=wr.alloc (.cells #[.int .i64 f,.int .i64 z] 91)) (a:=⟨b,off+(k-1)*2+1,none⟩) (v:= .int .i64 z') (by rw [World.cell?_alloc_old _ _ _ hne];exact e1);clear hcl e0 e1;cases hab:ltB (f',z') (f,z)
     ·go_wp2_with fail
      refine wq ?_
      repeat (go_big_quiet_step (first | exact ZX (U5 _ _ _) | exact ZX (Wk _ _ _ _ _) | exact ZX (Tm (uh HF) ((uh Hip).below (Z0 _ _ _)))))
      refine wpQuiet_nil ?_;intro _ hw';obtain ⟨⟨dq,osq⟩,hw''⟩:=hw';subst hw'';go_wp2_with fail;go_ret;exact ⟨Z5 (MJ hlt (zp hz (uh Hp) (uh Hq) hab)).symm,(uh Hb).trans (((Z1 _ _).alloc (uh Hb).size _).trans ((Z0 _ _ _).mono (by simp;have:=(uh Hb).size;omega)))⟩
     ·by_cases hF0:F= -1
      ·subst hF0
       go_wp2_with fail;refine wq ?_
       repeat (go_big_quiet_step (first | exact ZX (U5 _ _ _) | exact ZX (Wk _ _ _ _ _) | exact ZX (Tm (uh HF) ((uh Hip).below (Z0 _ _ _)))))
       refine wpQuiet_nil ?_;intro _ hw';obtain ⟨⟨dq,osq⟩,hw''⟩:=hw';subst hw'';go_wp2_with fail;go_roundw
       case rel=>exact ⟨k+1,by omega,by go_num,Yg (uh Hst) (zt hz (uh Hp) (uh Hq) hpb hab (by rw [uh HF];omega)),(uh Hb).trans (((Z1 _ _).alloc (uh Hb).size _).trans ((Z0 _ _ _).mono (by simp;have:=(uh Hb).size;omega)))⟩
       case measure=>exact ms
      ·have hF1:0<=F:=by omega
       have hF2:(F == -1)=false:=by simpa using hF0
       have hF3:(F != -1)=true:=by simpa using hF0
       clear hF0;go_wp2_with fail;refine wq ?_
       repeat (go_big_quiet_step (first | exact ZX (U5 _ _ _) | exact ZX (Wk _ _ _ _ _) | exact ZX (Tm (uh HF) ((uh Hip).below (Z0 _ _ _)))))
       refine wpQuiet_nil ?_;intro _ hw';obtain ⟨⟨dq,osq⟩,hw''⟩:=hw';subst hw'';go_wp2_with fail;go_ret;exact ⟨Z5 (MJ hlt (zr (uh Hp) (by rw [uh HF];exact hF1))).symm,(uh Hb).trans (((Z1 _ _).alloc (uh Hb).size _).trans ((Z0 _ _ _).mono (by simp;have:=(uh Hb).size;omega)))⟩
    ·obtain rfl:k=0:=by omega
     obtain rfl:F= -1:=by simp at hFb;omega
     simp only [Nat.zero_mul,Nat.add_zero] at c0 c1 k0 k1;clear hcl hz;go_wp2_with fail;refine wq ?_
     repeat (go_big_quiet_step (first | exact ZX (U5 _ _ _) | exact ZX (Wk _ _ _ _ _) | exact ZX (Tm (uh HF) ((uh Hip).below (Z0 _ _ _)))))
     refine wpQuiet_nil ?_;intro _ hw';obtain ⟨⟨dq,osq⟩,hw''⟩:=hw';subst hw'';go_wp2_with fail;go_roundw
     case rel=>exact ⟨1,by omega,by go_num,Yg (uh Hst) (zn (uh Hp) hpb),(uh Hb).trans (((Z1 _ _).alloc (uh Hb).size _).trans ((Z0 _ _ _).mono (by simp;have:=(uh Hb).size;omega)))⟩
     case measure=>exact ms
  ·obtain rfl:k=ps.length:=by omega
   go_wp2_with fail;go_ret;exact ⟨Z5 (G9 (by omega) (uh Hst)).symm,hb⟩
open Go.Lib
abbrev Txt:=List UInt8
def YR (c:UInt8) (cur:Txt):Txt->List Txt
 | []=>[cur]
 | x::r=>if x=c then cur::YR c [] r else YR c (cur++[x]) r
def YW (c:UInt8) (l:Txt):List Txt:=YR c [] l
theorem UK (c:UInt8) (cur r:Txt):YR c cur (c::r)=cur::YR c [] r:=by simp [YR]
theorem UL {c x:UInt8} (h:x ≠ c) (cur r:Txt):YR c cur (x::r)=YR c (cur++[x]) r:=by simp [YR,h]
theorem WN (c:UInt8):∀ (l cur:Txt),1<=(YR c cur l).length/\(YR c cur l).length<=l.length+1
 | [],cur=>by simp [YR]
 | x::r,cur=>by
  by_cases h:x=c
  ·subst h;rw [UK];have:=WN x r [];simp;omega
  ·rw [UL h];have:=WN c r (cur++[x]);simp;omega
theorem Ku (c:UInt8) (l:Txt):YW c l ≠ []:=fun h=>by have:=(WN c l []).1;unfold YW at h;rw [h] at this;simp at this
theorem Ur (c:UInt8):∀ (l cur:Txt),∀ p ∈ YR c cur l,p.length<=cur.length+l.length
 | [],cur,p,hp=>by simp [YR] at hp;subst hp;simp
 | x::r,cur,p,hp=>by
  by_cases h:x=c
  ·subst h;rw [UK] at hp
   rcases List.mem_cons.1 hp with rfl | hp
   ·simp
   ·have:=Ur x r [] p hp;simp at this ⊢;omega
  ·rw [UL h] at hp;have:=Ur c r _ p hp;simp at this ⊢;omega
theorem Qr (sep x:Txt) (r:List Txt):joinTail sep (x::r)=sep++x++joinTail sep r:=by simp [joinTail]
theorem Ud (c:UInt8):∀ (l cur:Txt),join (YR c cur l) [c]=cur++l
 | [],cur=>by simp [YR,join_one]
 | x::r,cur=>by
  by_cases h:x=c
  ·subst h
   rw [UK,join_cons];have ih:=Ud x r [];cases hs:YR x [] r with
   | nil=>have:=(WN x r []).1;rw [hs] at this;simp at this
   | cons p q=>rw [hs,join_cons] at ih;rw [Qr];simp at ih ⊢;rw [ih]
  ·rw [UL h,Ud c r];simp
def XY (l:Txt):Option Int:=
 match l with
 | []=>none
 | c::r=>if c=45 then (if r=[]\/9<r.length\/r.head?=some 48 then none else (decFrom 0 r).map fun n:Nat=> -(n:Int))
  else if 9<(c::r).length\/(c=48/\r ≠ []) then none else (decFrom 0 (c::r)).map fun n:Nat=>(n:Int)
theorem GM {d:Nat} (h:d<10):(UInt8.ofNat (48+d)).toNat=48+d:=by simp;omega
theorem LP {b:UInt8} {d:Nat} (h:digitVal b=some d):d<10/\b=UInt8.ofNat (48+d):=by
 obtain ⟨h1,h2,h3⟩:=digitVal_eq h;refine ⟨by omega,?_⟩;apply UInt8.toNat_inj.1;rw [GM (by omega)];omega
theorem LL {a d:Nat} (ha:0<a) (hd:d<10):decDigits (a*10+d)=decDigits a++[UInt8.ofNat (48+d)]:=by
 rw [decDigits,dif_neg (by omega),show (a*10+d) / 10=a by omega,show (a*10+d)%10=d by omega]
theorem Rg:∀ (r:Txt) (a n:Nat),0<a->decFrom a r=some n->decDigits n=decDigits a++r/\a<=n
 | [],a,n,_,h=>by simp [decFrom] at h;subst h;simp
 | b::r,a,n,ha,h=>by
  unfold decFrom at h;cases hd:digitVal b with
  | none=>rw [hd] at h;cases h
  | some d=>
   rw [hd] at h;obtain ⟨h1,h2⟩:=LP hd;have ih:=Rg r (a*10+d) n (by omega) h;rw [ih.1,LL ha h1,h2];simp;omega
theorem RV {b:UInt8} {r:Txt} {n:Nat} (h:decFrom 0 (b::r)=some n) (hb:b ≠ 48\/r=[]):decDigits n=b::r/\(b ≠ 48->0<n):=by
 unfold decFrom at h;cases hd:digitVal b with
 | none=>rw [hd] at h;cases h
 | some d=>
  rw [hd] at h;obtain ⟨h1,h2⟩:=LP hd;simp at h;by_cases h0:d=0
  ·subst h0
   have hb48:b=48:=by rw [h2];rfl
   rcases hb with hb | rfl
   ·exact absurd hb48 hb
   ·simp [decFrom] at h;subst h;subst hb48;exact ⟨by rw [decDigits_one (by decide)];rfl,fun h=>absurd rfl h⟩
  ·have:=Rg r d n (by omega) h
   rw [this.1,decDigits_one h1,h2];simp;intro _;omega
theorem SH {l:Txt} {v:Int} (h:XY l=some v):l=itoa v/\ -999999999<=v/\v<=999999999:=by
 unfold XY at h
 split at h
 ·cases h
 ·rename_i c r
  split at h
  ·rename_i hc
   split at h
   ·cases h
   ·rename_i hr
    simp only [not_or] at hr;obtain ⟨n,hn,rfl⟩:=Option.map_eq_some_iff.1 h;cases r with
    | nil=>exact absurd rfl hr.1
    | cons b r=>
     have hb:b ≠ 48:=fun e=>hr.2.2 (by simp [e]);have hw:=RV hn (.inl hb);have hlt:=decFrom_lt _ _ _ hn;have:n<10 ^ 9:=Zd (by simpa using hlt) (Nat.pow_le_pow_right (by decide) (by have:=hr.2.1;simp at this ⊢;omega));have h3:(10:Nat) ^ 9=1000000000:=by decide
     have hp:=hw.2 hb;refine ⟨?_,by omega,by omega⟩;unfold itoa;rw [if_pos (by omega),show (-(n:Int)).natAbs=n by omega,hw.1,hc]
  ·rename_i hc
   split at h
   ·cases h
   ·rename_i hr
    simp only [not_or] at hr;obtain ⟨n,hn,rfl⟩:=Option.map_eq_some_iff.1 h
    have hb:c ≠ 48\/r=[]:=by
     by_cases e:c=48
     ·exact .inr (Classical.byContradiction fun hne=>hr.2 ⟨e,hne⟩)
     ·exact .inl e
    have hw:=RV hn hb;have hlt:=decFrom_lt _ _ _ hn;have:n<10 ^ 9:=Zd (by simpa using hlt) (Nat.pow_le_pow_right (by decide) (by have:=hr.1;simp at this ⊢;omega));have h3:(10:Nat) ^ 9=1000000000:=by decide
    refine ⟨?_,by omega,by omega⟩;unfold itoa;rw [if_neg (by omega),show ((n:Int)).toNat=n by omega,hw.1]
def Yh (l:Txt):Option Z4:=
 match YW 58 l with
 | [a,b]=>(XY a).bind fun f=>(XY b).bind fun k=>some (f,k)
 | _=>none
def YL (l:Txt):Option ZZ:=
 match YW 32 l with
 | []=>none
 | a::ws=>(XY a).bind fun n=>(ws.mapM Yh).bind fun ps=>some (n,ps)
def Yu (l:Txt):Option (List ZZ):=((YW 47 l).mapM YL).bind fun rs=>if Y0 rs=true then some rs else none
def PL (p:Z4):Txt:=itoa p.1++58::itoa p.2
def PM (r:ZZ):Txt:=join (itoa r.1::r.2.map PL) [32]
def Il (rs:List ZZ):Txt:=if Y0 rs=true then join (rs.map PM) [47] else []
theorem Le {l:Txt} {p:Z4} (h:Yh l=some p):PL p=l:=by
 unfold Yh at h
 split at h
 ·rename_i a b hs
  obtain ⟨f,hf,h⟩:=Option.bind_eq_some_iff.1 h;obtain ⟨k,hk,h⟩:=Option.bind_eq_some_iff.1 h;cases h;have hj:=Ud 58 l [];unfold YW at hs;rw [hs,join_cons,Qr] at hj;unfold PL;rw [<-(SH hf).1,<-(SH hk).1];simpa [joinTail] using hj
 ·cases h
theorem OO {α β:Type} {f:α->Option β} {g:β->α} : ∀ (l:List α) (ps:List β),l.mapM f=some ps->(∀ x p,f x=some p->g p=x)->ps.map g=l
 | [],ps,h,_=>by simp at h;subst h;rfl
 | x::l,ps,h,hg=>by
  rw [List.mapM_cons] at h;obtain ⟨p,hp,h⟩:=Option.bind_eq_some_iff.1 h;obtain ⟨q,hq,h⟩:=Option.bind_eq_some_iff.1 h;cases h;simp [hg x p hp,OO l q hq hg]
theorem Lf {l:Txt} {r:ZZ} (h:YL l=some r):PM r=l:=by
 unfold YL at h
 split at h
 ·cases h
 ·rename_i a ws hs
  obtain ⟨n,hn,h⟩:=Option.bind_eq_some_iff.1 h;obtain ⟨ps,hp,h⟩:=Option.bind_eq_some_iff.1 h;cases h;have hj:=Ud 32 l [];unfold YW at hs;rw [hs] at hj;unfold PM;rw [<-(SH hn).1,OO (g:=PL) _ _ hp (fun x p=>Le)];simpa using hj
theorem Lb {l:Txt} {rs:List ZZ} (h:Yu l=some rs):Y0 rs=true/\Il rs=l:=by
 unfold Yu at h;obtain ⟨rs',hr,h⟩:=Option.bind_eq_some_iff.1 h
 split at h
 ·rename_i hb
  cases h;refine ⟨hb,?_⟩;unfold Il;rw [if_pos hb,OO (g:=PM) _ _ hr (fun x p=>Lf)];have hj:=Ud 47 l [];simpa [YW] using hj
 ·cases h
open Go.Lib (digitVal decFrom)
def bs (l:Txt):ByteArray:=⟨l.toArray⟩
theorem QN (l:Txt):(bs l).data.toList=l:=by simp [bs]
theorem C5 (s:ByteArray):bs s.data.toList=s:=by simp [bs]
theorem yT (l:Txt):(bs l).size=l.length:=by simp [bs,ByteArray.size]
def StrsAt (n₀:Nat) (w:World) (v:Value) (zs:List Txt):Prop:=w.ownsRow n₀ 9 1 v zs.length (zs.map fun z=>Value.string (bs z))
theorem StrsAt.lt {n₀:Nat}  {zs:List Txt} (h:StrsAt n₀ w v zs) {k:Nat} (hk:v.ownBlock=some k):n₀<=k/\k<w.heap.size:=World.ownsRow.lt h k hk
theorem StrsAt.view {n₀:Nat}  {zs:List Txt} (h:StrsAt n₀ w v zs) :
  ∃ (a:Option Addr) (cap:Nat),v= .slice a zs.length cap/\zs.length<=cap/\cap<=9223372036854775807/\(zs=[]\/ ∃ g,a=some ⟨g,0,none⟩/\n₀<=g/\g<w.heap.size/\
   (∀ k,k<zs.length->w.cell? ⟨g,k,none⟩=some (.string (bs (zs.getD k []))))):=by
 have h':=h
 rcases h.2 with ⟨rfl,hz⟩ | ⟨g,cap,cur,rfl,hb,hg,hnc,hcm,r⟩
 ·exact ⟨none,0,by rw [hz],by omega,by omega,.inl (List.eq_nil_of_length_eq_zero hz)⟩
 ·refine ⟨_,cap,rfl,hnc,by unfold maxLen at hcm;omega,.inr ⟨g,rfl,hb,(Array.getElem?_eq_some_iff.1 hg).1,fun k hk=> ?_⟩⟩
  rw [World.ownsRow.cellAt h' k (by omega)];simp [List.getElem?_eq_getElem hk]
theorem yX:(Tryz.prog.info? 9).map (fun i=>(i.zero,i.size,i.bytes))=some (some (.string ByteArray.empty),1,16):=by kernel_rfl
theorem CH (l:Txt) (f k:Nat) (hf:f<=k) (h:k<l.length):(l.take (k+1)).drop f=(l.take k).drop f++[l[k]]:=by
 rw [List.take_succ_eq_append_getElem h,List.drop_append_of_le_length (by simp;omega)]
theorem OE (l:Txt) (k:Nat) (h:k<l.length):l.drop k=l[k]::l.drop (k+1):=List.drop_eq_getElem_cons h
theorem D9 (s:ByteArray) (f k:Nat):s.extract f k=bs ((s.data.toList.take k).drop f):=by
 rw [<-C5 (s.extract f k)];congr 1;rw [Go.Lib.extract_data];simp [List.drop_take]
theorem Kv {v v':Value} {P:List Txt} {s:ByteArray} {a k:Nat} {o:Obj} (hown:StrsAt w.heap.size wr v P) (hb:Below w.heap.size w wr)
  (hown':w1.ownsRow w.heap.size 9 1 v' (P.length+1) ((P.map fun z=>Value.string (bs z))++[.string (s.extract a k)])) (hg:(wr.alloc o).grownBy w1 v.ownBlock) :
  StrsAt w.heap.size w1 v' (P++[(s.data.toList.take k).drop a])/\Below w.heap.size w w1:=by
 refine ⟨?_,?_⟩
 ·unfold StrsAt;rw [D9] at hown';simpa using hown'
 ·exact (hb.alloc hb.size o).grown hg (by have:=hb.size;simp;omega) (fun j ej=>(hown.lt ej).1)
theorem Ry (s:ByteArray) (c:UInt8) (w:World) (hs:s.size<=1048576) :
  Calls Tryz.prog 249 #[.string s,.int .u8 c.toNat] w fun e w'=> ∃ v,e= .returned v/\StrsAt w.heap.size w' v (YW c s.data.toList)/\Below w.heap.size w w':=by
 obtain ⟨i0,hi,hz0,hz1,hz2⟩:=info_parts yX;go_enter Tryz.func249,Tryz.ntmps249;go_wp2_with fail
 go_loopw [5,6,7] (fun v f i wr=> ∃ (P:List Txt) (a k:Nat),f= .int .i64 a/\i= .int .i64 k/\StrsAt w.heap.size wr v P/\P.length<=k/\Below w.heap.size w wr/\((k<=s.size/\a<=k/\P++YR c ((s.data.toList.take k).drop a) (s.data.toList.drop k)=YW c s.data.toList)\/(k=s.size+1/\P=YW c s.data.toList))) (fun _ _ i _=>s.size+1-(intOf i).toNat)
 case atStart=>exact ⟨[],0,0,rfl,rfl,World.ownsRow_lit w #[] 0 (Z2 _) (by simp [maxLen]) rfl,by simp,(ba _ _),.inl ⟨by omega,by omega,by simp [YW]⟩⟩
 case round=>
  obtain ⟨P,a,k,rfl,rfl,hown,hpl,hb,hcase⟩:=hrel;have Hb:=Z9 hb;have Hown:=Z9 hown;clear hb hown
  rcases hcase with ⟨hk,ha,hsp⟩ | ⟨rfl,hP⟩
  ·have Hsp:=Z9 hsp
   clear hsp;by_cases hend:k=s.size
   ·subst hend
    go_wp2_with (at_builtin;refine wpList_append_own _ rfl _ _ 186 rfl w.heap.size 9 i0 (.string ByteArray.empty) 1 16 Tryz.underlying186 hi hz0 hz1 hz2 rfl (by decide) _ _ _ rfl (World.ownsRow.alloc (uh Hown) _) ⟨_,0,none⟩ 1 1 [.string (s.extract a s.size)] rfl rfl (cell_one_new _ _ _) (by simp [Value.oneCell']) (by simp only [maxLen];omega) (by omega) (by have:=(uh Hb).size;simp;omega) ?_;intro v' w1 hown' hgrow _;have R:=Kv (uh Hown) (uh Hb) hown' hgrow;have HR:=Z9 R;clear hown' hgrow R)
    go_roundw
    case rel=>exact ⟨P++[(s.data.toList.take s.size).drop a],s.size+1,s.size+1,by go_num,by go_num,(uh HR).1,by simp;omega,(uh HR).2,.inr ⟨rfl,by rw [<-uh Hsp,List.drop_eq_nil_of_le (show s.data.toList.length<=s.size by simp)];rfl⟩⟩
    case measure=>simp [intOf]
   ·have hlt:k<s.size:=by omega
    have hll:k<s.data.toList.length:=by simpa using hlt
    have hat:s.data.toList[k]=s[k]:=rfl;by_cases hc:s[k]=c
    ·have Hc:=Z9 hc
     have Hn:Hid (P++[(s.data.toList.take k).drop a]++YR c ((s.data.toList.take (k+1)).drop (k+1)) (s.data.toList.drop (k+1))=YW c s.data.toList):=Z9 (by
      have h0:=uh Hsp;rw [OE _ k hll,hat,hc,UK] at h0
      rw [<-h0];simp)
     clear hc hat;have hbeq:((s[k].toNat:Int) ==(c.toNat:Int))=true:=by rw [show s[k]=c from uh Hc];simp
     have hne:((k:Int) ==(s.size:Int))=false:=beq_eq_false_iff_ne.2 (by omega);go_wp2_with (at_builtin;refine wpList_append_own _ rfl _ _ 186 rfl w.heap.size 9 i0 (.string ByteArray.empty) 1 16 Tryz.underlying186 hi hz0 hz1 hz2 rfl (by decide) _ _ _ rfl (World.ownsRow.alloc (uh Hown) _) ⟨_,0,none⟩ 1 1 [.string (s.extract a k)] rfl rfl (cell_one_new _ _ _) (by simp [Value.oneCell']) (by simp only [maxLen];omega) (by omega) (by have:=(uh Hb).size;simp;omega) ?_;intro v' w1 hown' hgrow _;have R:=Kv (uh Hown) (uh Hb) hown' hgrow;have HR:=Z9 R;clear hown' hgrow R)
     go_roundw
     case rel=>exact ⟨P++[(s.data.toList.take k).drop a],k+1,k+1,by go_num,by go_num,(uh HR).1,by simp;omega,(uh HR).2,.inl ⟨by omega,by omega,uh Hn⟩⟩
     case measure=>exact ms
    ·have Hn:Hid (P++YR c ((s.data.toList.take (k+1)).drop a) (s.data.toList.drop (k+1))=YW c s.data.toList):=Z9 (by
      have h0:=uh Hsp;rw [OE _ k hll,hat,UL hc] at h0
      rw [<-h0,CH _ a k ha hll,hat])
     have hbeq:((s[k].toNat:Int) ==(c.toNat:Int))=false:=beq_eq_false_iff_ne.2 (fun e=>hc (UInt8.toNat_inj.1 (by omega)));have hne:((k:Int) ==(s.size:Int))=false:=beq_eq_false_iff_ne.2 (by omega);clear hc hat;go_wp2_with fail;go_roundw
     case rel=>exact ⟨P,a,k+1,rfl,by go_num,uh Hown,by omega,uh Hb,.inl ⟨by omega,by omega,uh Hn⟩⟩
     case measure=>exact ms
  ·have HP:=Z9 hP
   clear hP;go_wp2_with fail;go_ret;exact ⟨_,rfl,by rw [<-uh HP];exact uh Hown,uh Hb⟩
theorem UD {l:Txt} {acc n k:Nat} {b:UInt8} (h1:l[k]?=some b) (h2:digitVal b=none):Go.Lib.decFrom acc l=none:=by
 cases h:Go.Lib.decFrom acc l with
 | none=>rfl
 | some m=>obtain ⟨d,hd⟩:=Go.Lib.digit_of_decFrom l acc m h k b h1;rw [h2] at hd;cases hd
theorem QZ {c:UInt8} {r:Txt} (hc:c ≠ 45) (h9:(c::r).length<=9) (h0:¬ (c=48/\r ≠ [])):XY (c::r)=(Go.Lib.decFrom 0 (c::r)).map fun n:Nat=>(n:Int):=by
 unfold XY;simp only [if_neg hc];rw [if_neg];rw [not_or];exact ⟨by omega,h0⟩
theorem TR {c:UInt8} {r:Txt} (hc:c ≠ 45) (h:9<(c::r).length\/(c=48/\r ≠ [])):XY (c::r)=none:=by
 unfold XY;simp only [if_neg hc];rw [if_pos h]
theorem OX {r:Txt} (h1:r ≠ []) (h9:r.length<=9) (h0:r.head? ≠ some 48):XY (45::r)=(Go.Lib.decFrom 0 r).map fun n:Nat=> -(n:Int):=by
 unfold XY;simp only [if_true];rw [if_neg];rw [not_or,not_or];exact ⟨h1,by omega,h0⟩
theorem Vb {r:Txt} (h:r=[]\/9<r.length\/r.head?=some 48):XY (45::r)=none:=by
 unfold XY;simp only [if_true];rw [if_pos h]
def WA (l:Txt):Value:= .tuple #[.int .i64 ((XY l).getD 0),.bool (XY l).isSome]
theorem Xl {l:Txt} (h:XY l=none):WA l= .tuple #[.int .i64 0,.bool false]:=by unfold WA;rw [h];rfl
theorem Qg {l:Txt} {v:Int} (h:XY l=some v):WA l= .tuple #[.int .i64 v,.bool true]:=by unfold WA;rw [h];rfl
theorem FZ {b:UInt8} (h1:48<=b.toNat) (h2:b.toNat<=57):digitVal b=some (b.toNat-48):=by unfold Go.Lib.digitVal;rw [if_pos ⟨h1,h2⟩]
theorem QR {b:UInt8} (h:b.toNat<48\/57<b.toNat):digitVal b=none:=by unfold Go.Lib.digitVal;rw [if_neg (by omega)]
theorem O0 {a b:Value} (h:a=b):Ending.returned a= .returned b:=by rw [h]
theorem Sv {s:ByteArray} (h:0<s.size):s.data.toList=s[0]::s.data.toList.drop 1:=OE s.data.toList 0 (by simpa using h)
theorem Eb {s:ByteArray} {k:Nat} (h:k<s.size):s.data.toList[k]?=some s[k]:=by
 rw [List.getElem?_eq_getElem (by simpa using h)];rfl
theorem yV {s:ByteArray} {k:Nat} (h:k<s.size) (h1:1<=k):(s.data.toList.drop 1)[k-1]?=some s[k]:=by
 rw [List.getElem?_drop,show 1+(k-1)=k by omega];exact Eb h
theorem yv {s:ByteArray} (h:0<s.size):s.toList.isEmpty=false:=by
 rw [ByteArray.toList_eq,Sv h];rfl
theorem I1 {b c:UInt8} (h:b ≠ c):((b.toNat:Int) ==(c.toNat:Int))=false:=beq_eq_false_iff_ne.2 (fun e=>h (UInt8.toNat_inj.1 (by omega)))
theorem I0 {b c:UInt8} (h:b=c):((b.toNat:Int) ==(c.toNat:Int))=true:=by rw [h];simp
theorem Es (s:ByteArray) (w:World) (h0:0<s.size) (hm:s.size<=9223372036854775807) (h45:s[0] ≠ 45) :
  Calls Tryz.prog 250 #[.string s] w fun e w'=>e= .returned (WA s.data.toList)/\w'=w:=by
 have Hl:=Z9 (Sv h0);have hemp:=yv h0;have H45:=Z9 h45;have hb45:((s[0].toNat:Int) ==45)=false:=I1 (c:=45) h45;have hlen:s.data.toList.length=s.size:=by simp
 have Hlen:=Z9 hlen;clear h45 hlen;by_cases h9:9<s.size
 ·have hd1:decide ((s.size:Int)<1)=false:=Xn (by omega)
  have hd2:decide (9<(s.size:Int))=true:=VN (by omega);have HN:Hid (WA s.data.toList= .tuple #[.int .i64 0,.bool false]):=Z9 (Xl (by rw [uh Hl];exact TR (uh H45) (.inl (by rw [<-uh Hl,uh Hlen];omega))));go_enter Tryz.func250,Tryz.ntmps250;go_wp2_with fail
  go_ret2
  exact ⟨O0 (uh HN).symm,rfl⟩
 have hd1:decide ((s.size:Int)<1)=false:=Xn (by omega);have hd2:decide (9<(s.size:Int))=false:=Xn (by omega);go_enter Tryz.func250,Tryz.ntmps250;go_wp2_with fail
 go_loop [6,7] (fun n i=> ∃ (k m:Nat),0<=k/\k<=s.size/\i= .int .i64 k/\n= .int .i64 m/\decFrom 0 (s.data.toList.take k)=some m) (fun _ i=>s.size-(intOf i).toNat)
 case atStart=>exact ⟨0,0,by omega,by omega,rfl,rfl,by simp [decFrom]⟩
 case round=>
  obtain ⟨k,m,hk1,hk,rfl,rfl,hdec⟩:=hrel
  have hmb:m<1000000000:=by
   have hx:=Go.Lib.decFrom_lt _ _ _ hdec;have hy:(s.data.toList.take k).length<=9:=by rw [List.length_take];omega
   exact Zd (by simpa using hx) (XA (Nat.pow_le_pow_right (by decide) hy) (by decide))
  have Hdec:=Z9 hdec;clear hdec;by_cases hlt:k<s.size
  ·have hga:=Eb hlt
   have Hga:=Z9 hga;clear hga;have hb8:s[k].toNat<=255:=by have:=s[k].toNat_lt;omega
   by_cases hd:s[k].toNat<48
   ·have HN:Hid (WA s.data.toList= .tuple #[.int .i64 0,.bool false]):=Z9 (Xl (by rw [uh Hl];by_cases hz:s[0]=48/\s.data.toList.drop 1 ≠ [];exact TR (uh H45) (.inr hz);rw [QZ (uh H45) (by rw [<-uh Hl,uh Hlen];omega) hz,<-uh Hl,UD (n:=0) (uh Hga) (QR (by omega))];rfl))
    have ht:decide ((s[k].toNat:Int)<48)=true:=VN (by omega);go_wp2_with fail
    go_ret2
    exact ⟨O0 (uh HN).symm,rfl⟩
   by_cases hd':57<s[k].toNat
   ·have HN:Hid (WA s.data.toList= .tuple #[.int .i64 0,.bool false]):=Z9 (Xl (by rw [uh Hl];by_cases hz:s[0]=48/\s.data.toList.drop 1 ≠ [];exact TR (uh H45) (.inr hz);rw [QZ (uh H45) (by rw [<-uh Hl,uh Hlen];omega) hz,<-uh Hl,UD (n:=0) (uh Hga) (QR (by omega))];rfl))
    have ht:decide ((s[k].toNat:Int)<48)=false:=Xn (by omega);have ht':decide (57<(s[k].toNat:Int))=true:=VN (by omega);go_wp2_with fail
    go_ret2
    exact ⟨O0 (uh HN).symm,rfl⟩
   ·have ht:decide ((s[k].toNat:Int)<48)=false:=Xn (by omega)
    have ht':decide (57<(s[k].toNat:Int))=false:=Xn (by omega);have Hn:=Z9 (Go.Lib.decFrom_take s.data.toList k 0 m s[k] (s[k].toNat-48) (uh Hdec) (uh Hga) (FZ (by omega) (by omega)));have Hx:Hid (((m*10+(s[k].toNat-48):Nat):Int)=(m:Int)*10+((s[k].toNat:Int)-48)):=Z9 (by omega);have g1:48<=(s[k].toNat:Int):=by omega
    have g2:(s[k].toNat:Int)<=57:=by omega
    go_wp2_with fail
    go_round
    case rel=>exact ⟨k+1,m*10+(s[k].toNat-48),by omega,by omega,by go_num,by rw [uh Hx],uh Hn⟩
    case measure=>exact ms
  ·obtain rfl:k=s.size:=by omega
   have Hall:Hid (decFrom 0 s.data.toList=some m):=Z9 (by have hh:=uh Hdec;rwa [List.take_of_length_le (by rw [uh Hlen];omega)] at hh);by_cases hz:s[0]=48
   ·have hb48:((s[0].toNat:Int) ==48)=true:=I0 (c:=48) hz
    by_cases h1s:1<s.size
    ·have ht:decide (1<(s.size:Int))=true:=VN (by omega)
     have HN:Hid (WA s.data.toList= .tuple #[.int .i64 0,.bool false]):=Z9 (Xl (by rw [uh Hl];exact TR (uh H45) (.inr ⟨hz,fun e=>by have:=congrArg List.length e;rw [List.length_drop,uh Hlen] at this;simp at this;omega⟩)));clear hz;go_wp2_with fail
     go_ret2
     exact ⟨O0 (uh HN).symm,rfl⟩
    ·have ht:decide (1<(s.size:Int))=false:=Xn (by omega)
     have HN:Hid (WA s.data.toList= .tuple #[.int .i64 m,.bool true]):=Z9 (Qg (by rw [uh Hl,QZ (uh H45) (by rw [<-uh Hl,uh Hlen];omega) (fun hh=>hh.2 (List.eq_nil_of_length_eq_zero (by rw [List.length_drop,uh Hlen];omega))),<-uh Hl,uh Hall];rfl));clear hz;go_wp2_with fail
     go_ret2
     exact ⟨O0 (uh HN).symm,rfl⟩
   ·have hb48:((s[0].toNat:Int) ==48)=false:=I1 (c:=48) hz
    have HN:Hid (WA s.data.toList= .tuple #[.int .i64 m,.bool true]):=Z9 (Qg (by rw [uh Hl,QZ (uh H45) (by rw [<-uh Hl,uh Hlen];omega) (fun hh=>hz hh.1),<-uh Hl,uh Hall];rfl));clear hz;go_wp2_with fail
    go_ret2
    exact ⟨O0 (uh HN).symm,rfl⟩
theorem Er (s:ByteArray) (w:World) (h0:0<s.size) (hm:s.size<=9223372036854775807) (h45:s[0]=45) :
  Calls Tryz.prog 250 #[.string s] w fun e w'=>e= .returned (WA s.data.toList)/\w'=w:=by
 have Hl:=Z9 (Sv h0);have hemp:=yv h0;have H45:=Z9 h45;have hb45:((s[0].toNat:Int) ==45)=true:=I0 (c:=45) h45;have hlen:s.data.toList.length=s.size:=by simp
 have Hlen:=Z9 hlen;clear h45 hlen;by_cases h9:10<s.size
 ·have hd1:decide ((s.size:Int)-1<1)=false:=Xn (by omega)
  have hd2:decide (9<(s.size:Int)-1)=true:=VN (by omega);have HN:Hid (WA s.data.toList= .tuple #[.int .i64 0,.bool false]):=Z9 (Xl (by rw [uh Hl];rw [uh H45];exact Vb (.inr (.inl (by rw [List.length_drop,uh Hlen];omega)))));go_enter Tryz.func250,Tryz.ntmps250;go_wp2_with fail
  go_ret2
  exact ⟨O0 (uh HN).symm,rfl⟩
 by_cases h1s:s.size<2
 ·have hd1:decide ((s.size:Int)-1<1)=true:=VN (by omega)
  have HN:Hid (WA s.data.toList= .tuple #[.int .i64 0,.bool false]):=Z9 (Xl (by rw [uh Hl,uh H45];exact Vb (.inl (List.eq_nil_of_length_eq_zero (by rw [List.length_drop,uh Hlen];omega)))));go_enter Tryz.func250,Tryz.ntmps250;go_wp2_with fail
  go_ret2
  exact ⟨O0 (uh HN).symm,rfl⟩
 have hd1:decide ((s.size:Int)-1<1)=false:=Xn (by omega);have hd2:decide (9<(s.size:Int)-1)=false:=Xn (by omega);go_enter Tryz.func250,Tryz.ntmps250;go_wp2_with fail
 go_loop [6,7] (fun n i=> ∃ (k m:Nat),1<=k/\k<=s.size/\i= .int .i64 k/\n= .int .i64 m/\decFrom 0 ((s.data.toList.drop 1).take (k-1))=some m) (fun _ i=>s.size-(intOf i).toNat)
 case atStart=>exact ⟨1,0,by omega,by omega,rfl,rfl,by simp [decFrom]⟩
 case round=>
  obtain ⟨k,m,hk1,hk,rfl,rfl,hdec⟩:=hrel
  have hmb:m<1000000000:=by
   have hx:=Go.Lib.decFrom_lt _ _ _ hdec;have hy:((s.data.toList.drop 1).take (k-1)).length<=9:=by rw [List.length_take];omega
   exact Zd (by simpa using hx) (XA (Nat.pow_le_pow_right (by decide) hy) (by decide))
  have Hdec:=Z9 hdec;clear hdec;by_cases hlt:k<s.size
  ·have hga:=yV hlt hk1
   have Hga:=Z9 hga;clear hga;have hb8:s[k].toNat<=255:=by have:=s[k].toNat_lt;omega
   by_cases hd:s[k].toNat<48
   ·have HN:Hid (WA s.data.toList= .tuple #[.int .i64 0,.bool false]):=Z9 (Xl (by rw [uh Hl,uh H45];by_cases hz:(s.data.toList.drop 1).head?=some 48;exact Vb (.inr (.inr hz));rw [OX (fun e=>by have:=congrArg List.length e;rw [List.length_drop,uh Hlen] at this;simp at this;omega) (by rw [List.length_drop,uh Hlen];omega) hz,UD (n:=0) (uh Hga) (QR (by omega))];rfl))
    have ht:decide ((s[k].toNat:Int)<48)=true:=VN (by omega);go_wp2_with fail
    go_ret2
    exact ⟨O0 (uh HN).symm,rfl⟩
   by_cases hd':57<s[k].toNat
   ·have HN:Hid (WA s.data.toList= .tuple #[.int .i64 0,.bool false]):=Z9 (Xl (by rw [uh Hl,uh H45];by_cases hz:(s.data.toList.drop 1).head?=some 48;exact Vb (.inr (.inr hz));rw [OX (fun e=>by have:=congrArg List.length e;rw [List.length_drop,uh Hlen] at this;simp at this;omega) (by rw [List.length_drop,uh Hlen];omega) hz,UD (n:=0) (uh Hga) (QR (by omega))];rfl))
    have ht:decide ((s[k].toNat:Int)<48)=false:=Xn (by omega);have ht':decide (57<(s[k].toNat:Int))=true:=VN (by omega);go_wp2_with fail
    go_ret2
    exact ⟨O0 (uh HN).symm,rfl⟩
   ·have ht:decide ((s[k].toNat:Int)<48)=false:=Xn (by omega)
    have ht':decide (57<(s[k].toNat:Int))=false:=Xn (by omega);have Hn:=Z9 (Go.Lib.decFrom_take (s.data.toList.drop 1) (k-1) 0 m s[k] (s[k].toNat-48) (uh Hdec) (uh Hga) (FZ (by omega) (by omega)));have Hx:Hid (((m*10+(s[k].toNat-48):Nat):Int)=(m:Int)*10+((s[k].toNat:Int)-48)):=Z9 (by omega);have g1:48<=(s[k].toNat:Int):=by omega
    have g2:(s[k].toNat:Int)<=57:=by omega
    go_wp2_with fail
    go_round
    case rel=>exact ⟨k+1,m*10+(s[k].toNat-48),by omega,by omega,by go_num,by rw [uh Hx],by have hh:=uh Hn;rwa [show k-1+1=k+1-1 by omega] at hh⟩
    case measure=>exact ms
  ·obtain rfl:k=s.size:=by omega
   have Hall:Hid (decFrom 0 (s.data.toList.drop 1)=some m):=Z9 (by have hh:=uh Hdec;rwa [List.take_of_length_le (by rw [List.length_drop,uh Hlen];omega)] at hh);have hs1:1<s.size:=by omega
   have Hh:Hid ((s.data.toList.drop 1).head?=some s[1]):=Z9 (by rw [List.head?_drop];exact Eb hs1);have Hne:Hid (s.data.toList.drop 1 ≠ []):=Z9 (fun e=>by have:=congrArg List.length e;rw [List.length_drop,uh Hlen] at this;simp at this;omega);by_cases hz:s[1]=48
   ·have hb48:((s[1].toNat:Int) ==48)=true:=I0 (c:=48) hz
    have HN:Hid (WA s.data.toList= .tuple #[.int .i64 0,.bool false]):=Z9 (Xl (by rw [uh Hl,uh H45];exact Vb (.inr (.inr (by rw [uh Hh,hz])))));clear hz;go_wp2_with fail
    go_ret2
    exact ⟨O0 (uh HN).symm,rfl⟩
   ·have hb48:((s[1].toNat:Int) ==48)=false:=I1 (c:=48) hz
    have HN:Hid (WA s.data.toList= .tuple #[.int .i64 (-(m:Int)),.bool true]):=Z9 (Qg (by rw [uh Hl,uh H45,OX (uh Hne) (by rw [List.length_drop,uh Hlen];omega) (fun e=>hz (by rw [uh Hh] at e;exact Option.some.inj e)),uh Hall];rfl));clear hz;go_wp2_with fail
    go_ret2
    exact ⟨O0 (uh HN).symm,rfl⟩
theorem Qa (s:ByteArray) (w:World) (hm:s.size<=9223372036854775807) :
  Calls Tryz.prog 250 #[.string s] w fun e w'=>e= .returned (WA s.data.toList)/\w'=w:=by
 by_cases h0:0<s.size
 ·by_cases h45:s[0]=45
  ·exact Er s w h0 hm h45
  ·exact Es s w h0 hm h45
 ·have hd:s.data.toList=[]:=List.eq_nil_of_length_eq_zero (by rw [show s.data.toList.length=s.size by simp];omega)
  have hemp:s.toList.isEmpty=true:=by rw [ByteArray.toList_eq,hd];rfl
  have HN:Hid (WA s.data.toList= .tuple #[.int .i64 0,.bool false]):=Z9 (Xl (by rw [hd];rfl));have hz:s.size=0:=by omega
  clear hd;go_enter Tryz.func250,Tryz.ntmps250;go_wp2_with fail
  go_ret2
  exact ⟨O0 (uh HN).symm,rfl⟩
theorem QT {ps:List Z4} (h:(Ye ps && decide (0<ps.length))=false):Si ps=((0,0),false):=by unfold Si;rw [h];rfl
theorem L5 {ps:List Z4} (h:Ye ps=true) (hl:0<ps.length):Si ps=(Z7 ps 0,true):=by unfold Si;rw [h,decide_eq_true hl];rfl
theorem ND  {ps:List Z4} (h:IsPaces w v ps) :
  Calls Tryz.prog 214 #[v] w fun e w'=>e= .returned (.tuple #[.agg #[.int .i64 (Si ps).1.1,.int .i64 (Si ps).1.2],.bool (Si ps).2])/\Below w.heap.size w w':=by
 have Hv:=Z9 h;obtain ⟨a,cap,rfl,hc,hm,hr⟩:=h;cases hq:Ye ps
 ·rw [QT (by rw [hq];rfl)]
  clear hr;go_enter Tryz.func214,Tryz.ntmps214;go_wp2_with fail;refine (XS ((uh Hv).below ((ba _ _)))).mono ?_;rw [hq];rintro e w1 ⟨rfl,hb⟩;have Hb:=Z9 hb;have hsz:=hb.size;simp at hsz;obtain ⟨k1,k2⟩:=Ly hb;clear hb;go_wp2_with fail;exact ZQ (v:= .tuple #[.agg #[.int .i64 0,.int .i64 0],.bool false]) (by simp [results,Tryz.results214,go_sem,k1]) rfl ⟨rfl,((((ba _ _)).trans ((uh Hb).mono (by simp))).setCell (by simp) _).setCell (by simp) _⟩
 ·rcases hr with hr | ⟨b,off,rfl,hbw,hcl⟩
  ·subst hr
   rw [QT (by simp)];go_enter Tryz.func214,Tryz.ntmps214;go_wp2_with fail;refine (XS ((uh Hv).below ((ba _ _)))).mono ?_;rw [hq];rintro e w1 ⟨rfl,hb⟩;have Hb:=Z9 hb;have hsz:=hb.size;simp at hsz;obtain ⟨k1,k2⟩:=Ly hb;clear hb;go_wp2_with fail;exact ZQ (v:= .tuple #[.agg #[.int .i64 0,.int .i64 0],.bool false]) (by simp [results,Tryz.results214,go_sem,k1]) rfl ⟨rfl,((((ba _ _)).trans ((uh Hb).mono (by simp))).setCell (by simp) _).setCell (by simp) _⟩
  ·by_cases hl:0<ps.length
   ·rw [L5 hq hl]
    obtain ⟨c0,c1⟩:=hcl 0 hl;simp only [Nat.zero_mul,Nat.add_zero] at c0 c1;generalize Z7 ps 0=p at *;obtain ⟨f,z⟩:=p;simp only at c0 c1;have hl2:(ps.length ==0)=false:=beq_eq_false_iff_ne.2 (by omega);have hl3:((ps.length:Int) ==0)=false:=beq_eq_false_iff_ne.2 (by omega);have hne:b ≠ w.heap.size:=UZ hbw;clear hcl;go_enter Tryz.func214,Tryz.ntmps214;go_wp2_with fail;refine (XS ((uh Hv).below ((ba _ _)))).mono ?_;rw [hq];rintro e w1 ⟨rfl,hb⟩;have Hb:=Z9 hb;have hsz:=hb.size;simp at hsz;have c0':=(hb.cell (p:=⟨b,off,none⟩) (by simp;omega)).trans ((World.cell?_alloc_old _ _ _ hne).trans c0);have c1':=(hb.cell (p:=⟨b,off+1,none⟩) (by simp;omega)).trans ((World.cell?_alloc_old _ _ _ hne).trans c1);obtain ⟨k1,k2⟩:=Ly hb;clear hb c0 c1;go_wp2_with fail;exact ZQ (v:= .tuple #[.agg #[.int .i64 f,.int .i64 z],.bool true]) (by simp [results,Tryz.results214,go_sem,k1]) rfl ⟨rfl,((((ba _ _)).trans ((uh Hb).mono (by simp))).setCell (by simp) _).setCell (by simp) _⟩
   ·obtain rfl:ps=[]:=List.eq_nil_of_length_eq_zero (by omega)
    rw [QT (by simp)];clear hcl;go_enter Tryz.func214,Tryz.ntmps214;go_wp2_with fail;refine (XS ((uh Hv).below ((ba _ _)))).mono ?_;rw [hq];rintro e w1 ⟨rfl,hb⟩;have Hb:=Z9 hb;have hsz:=hb.size;simp at hsz;obtain ⟨k1,k2⟩:=Ly hb;clear hb;go_wp2_with fail;exact ZQ (v:= .tuple #[.agg #[.int .i64 0,.int .i64 0],.bool false]) (by simp [results,Tryz.results214,go_sem,k1]) rfl ⟨rfl,((((ba _ _)).trans ((uh Hb).mono (by simp))).setCell (by simp) _).setCell (by simp) _⟩
end Go.Proofs.YtamgfpdahadnfaaGreatDoor
