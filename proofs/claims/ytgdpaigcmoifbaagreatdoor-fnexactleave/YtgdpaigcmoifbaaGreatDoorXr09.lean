/- Part 9 of what the proof rests on. No condition but those that a theorem names. -/
import Derived.Test.YtgdpaigcmoifbaaGreatDoorXr03
import Derived.Test.YtgdpaigcmoifbaaGreatDoorXr06
set_option maxHeartbeats 8000000
set_option maxRecDepth 100000
namespace Go.Proofs.YtgdpaigcmoifbaaGreatDoor
open Go.ChangeShapes Go.WideShapes Go.ChangeAt Go.RowKit Go.Sort Go.Proofs.Tryz
set_option linter.unusedVariables false
variable {w w' w0 w1 w2 w3 w₀ wr W W' X A B C : World} {v v0 v1 v2 v3 v4 u u0 u1 u2 u3 u4 : Value}
theorem Yw {B:Nat} (h:Below B w w') (n:Nat):Below B w (w'.drewN n):=⟨h.os,h.tape,h.output,h.size,h.block⟩
theorem YE (x:Int) (w:World):cE 111 #[.int .i64 x] w (.bool (inB x 0 1024)):=by
 go_enter func111,ntmps111;go_wp2_with (go_at_call 70;refine (ZT _ _ _ _).mono ?_;rintro e w' ⟨rfl,rfl⟩)
 go_ret;exact ⟨rfl,rfl⟩
theorem Y1 (lo hi:Int) (w:World):cE 109 #[.int .i64 lo,.int .i64 hi] w (.bool (Yq lo hi)):=by
 cases h1:inB lo 0 1024
 ·have hp:Yq lo hi=false:=by unfold Yq;rw [h1];rfl
  rw [hp];clear hp;go_enter func109,ntmps109;go_wp2_with (go_at_call 111;refine (YE _ _).mono ?_;rintro e w' ⟨rfl,rfl⟩)
  go_ret;exact ⟨rfl,rfl⟩
 ·cases h2:inB hi 0 1024
  ·have hp:Yq lo hi=false:=by unfold Yq;rw [h1,h2];rfl
   rw [hp];clear hp;go_enter func109,ntmps109;go_wp2_with (go_at_call 111;refine (YE _ _).mono ?_;rintro e w' ⟨rfl,rfl⟩)
   go_ret;exact ⟨rfl,rfl⟩
  ·have hp:Yq lo hi=decide (lo<=hi):=by unfold Yq;rw [h1,h2];rfl
   rw [hp];clear hp;by_cases h3:lo<=hi
   all_goals
    go_enter func109,ntmps109;go_wp2_with (go_at_call 111;refine (YE _ _).mono ?_;rintro e w' ⟨rfl,rfl⟩)
    go_ret;exact ⟨Z5 (by first | (simp;done) | (simp;omega)),rfl⟩
theorem QZ  {ps:List ZG} (h:Y9 w v ps) :
  cB 99 #[v] w (.bool (Zk ps)):=by
 obtain ⟨a,cap,rfl,hc,hm,hr⟩:=h;have Hr:=Z9 hr;clear hr;go_enter func99,ntmps99;go_wp2_with fail
 go_loopw [3] (fun i wr=> ∃ k:Nat,k<=ps.length/\i= .int .i64 k/\TB ps k=true/\Below w.heap.size w wr) (fun i _=>ps.length-(intOf i).toNat)
 case atStart=>exact ⟨0,ZR _,rfl,rfl,Z0 _ _⟩
 case round=>
  obtain ⟨k,hk,rfl,hst,hb⟩:=hrel;have Hst:=Z9 hst;have Hb:=Z9 hb;clear hst;by_cases hlt:k<ps.length
  ·rcases uh Hr with h0 | ⟨b,off,rfl,hbw,hcl⟩
   ·rw [h0] at hlt;simp at hlt
   obtain ⟨c0,c1,c2⟩:=Xs hcl hlt;rw [<-hb.cell (p:=⟨b,off+k*3,none⟩) hbw] at c0;rw [<-hb.cell (p:=⟨b,off+k*3+1,none⟩) hbw] at c1;rw [<-hb.cell (p:=⟨b,off+k*3+2,none⟩) hbw] at c2;generalize hp:Z8 ps k=p at c0 c1 c2;have Hp:=Z9 hp;clear hp;obtain ⟨x0,x1,x2⟩:=p;simp only at c0 c1 c2;clear hcl hb;have hg:XI (x0,x1,x2) k=(inB x0 (-1) ((k:Int)-1) && Yq x1 x2):=rfl;have Hg:=Z9 hg;clear hg;cases h1:inB x0 (-1) ((k:Int)-1)
   ·go_wp2_with fail
    go_quiet (first | exact YD (ZT _ _ _ _) | exact YD (Y1 _ _ _));go_wp2_with fail;go_ret;exact ⟨Z5 (QJ hlt (by rw [uh Hp,uh Hg,h1];rfl)).symm,Yw (uh Hb) _⟩
   cases h2:Yq x1 x2
   ·go_wp2_with fail
    go_quiet (first | exact YD (ZT _ _ _ _) | exact YD (Y1 _ _ _));go_wp2_with fail;go_ret;exact ⟨Z5 (QJ hlt (by rw [uh Hp,uh Hg,h1,h2];rfl)).symm,Yw (uh Hb) _⟩
   ·go_wp2_with fail
    go_quiet (first | exact YD (ZT _ _ _ _) | exact YD (Y1 _ _ _));go_wp2_with fail;go_roundw
    case rel=>exact ⟨k+1,by omega,by go_num,by rw [Pt,uh Hst,uh Hp,uh Hg,h1,h2];rfl,Yw (uh Hb) _⟩
    case measure=>exact ms
  ·obtain rfl:k=ps.length:=by omega
   by_cases hbig:ps.length<=6
   all_goals
    go_wp2_with fail;go_ret;exact ⟨Z5 (by unfold Zk;rw [uh Hst];simp;omega),hb⟩
theorem Qj {ps:List ZG} (g:Int) (lo hi:Int)  (h:Y9 w v ps)
  (hB:cB 202 #[v,.int .i64 g] w (.tuple #[.int .i64 (bnd ps g).1,.int .i64 (bnd ps g).2])) :
  cB 172 #[v,.int .i64 g,.int .i64 lo,.int .i64 hi] w (.tuple #[.int .i64 (VE (bnd ps g) lo hi).1,.int .i64 (VE (bnd ps g) lo hi).2]):=by
 have HB:=Z9 hB;clear hB;obtain ⟨a,cap,rfl,_⟩:=h;unfold VE;go_enter func172,ntmps172;go_wp2_with fail;refine ck (uh HB) fun w1 hb1=> ?_;go_wp2_with (go_at_call 173;refine (TN _ _ _ _).mono ?_;rintro e w' ⟨rfl,rfl⟩)
 go_ret2
 exact ⟨rfl,hb1⟩
theorem L9 {ps:List ZG} (hg:Zk ps=true):∀ (n:Nat) (g:Int) {w:World} {v:Value},Y9 w v ps-> -1<=g->g<n->g<ps.length->
  cB 202 #[v,.int .i64 g] w (.tuple #[.int .i64 (bnd ps g).1,.int .i64 (bnd ps g).2]):=by
 intro n
 induction n with
 | zero=>
  intro g w v h h0 h1 h2;obtain rfl:g= -1:=by omega
  rw [Rd ps (by omega)];obtain ⟨a,cap,rfl,_⟩:=h;go_enter func202,ntmps202;go_wp2_with fail
  go_ret2
  exact ⟨rfl,Z0 _ _⟩
 | succ n ih=>
  intro g w v h h0 h1 h2;by_cases hg0:g<0
  ·obtain rfl:g= -1:=by omega
   rw [Rd ps (by omega)];obtain ⟨a,cap,rfl,_⟩:=h;go_enter func202,ntmps202;go_wp2_with fail
   go_ret2
   exact ⟨rfl,Z0 _ _⟩
  ·obtain ⟨k,rfl⟩:∃ k:Nat,g=k:=⟨g.toNat,by omega⟩
   have hlt:k<ps.length:=by omega
   obtain ⟨a0,a1,_⟩:=T7 hg (g:=(k:Int)) (by omega) h2;have hs:=Ju hg (g:=(k:Int)) (by omega) h2;rw [show ((k:Int)).toNat=k by omega] at a0 a1 hs;rw [hs];clear hs;have Hi:=Z9 h;obtain ⟨a,cap,rfl,hc,hm,hr⟩:=h
   rcases hr with hz | ⟨b,off,rfl,hbw,hcl⟩
   ·rw [hz] at hlt;simp at hlt
   obtain ⟨c0,c1,c2⟩:=Xs hcl hlt;clear hcl;generalize hp:Z8 ps k=p at *;obtain ⟨x0,x1,x2⟩:=p;simp only at c0 c1 c2 a0 a1;have k0:=Z1 c0;have k1:=Z1 c1;have k2:=Z1 c2;have ih':=fun (w':World) (h:Y9 w' (.slice (some ⟨b,off,none⟩) ps.length cap) ps)=>Qj x0 x1 x2 h (ih x0 h a0 (by omega) (by omega));have Ih:=Z9 ih';clear ih ih' hp;go_enter func202,ntmps202;go_wp2_with fail;refine wq ?_
   repeat (go_big_quiet_step (exact ZX (uh Ih _ ((uh Hi).below (Z2 _ _ _)))))
   refine wpQuiet_nil ?_;intro _ hw';obtain ⟨⟨dq,osq⟩,hw''⟩:=hw';subst hw'';go_wp2_with fail
   go_ret2
   exact ⟨rfl,Z2 _ _ _⟩
def PacesAt (n₀:Nat) (w:World) (v:Value) (ps:List Z6):Prop:=w.ownsRow n₀ 168 2 v ps.length (Zq ps)
theorem PacesAt.lt {n₀:Nat}  {ps:List Z6} (h:PacesAt n₀ w v ps) {k:Nat} (hk:v.ownBlock=some k):n₀<=k/\k<w.heap.size:=World.ownsRow.lt h k hk
theorem PacesAt.pc {n₀:Nat}  {ps:List Z6} (h:PacesAt n₀ w v ps):IsPaces w v ps:=by
 have h':=h
 rcases h.2 with ⟨rfl,hz⟩ | ⟨g,cap,cur,rfl,hb,hg,hnc,hcm,r⟩
 ·exact ⟨none,0,by rw [hz],by omega,by omega,.inl (List.eq_nil_of_length_eq_zero hz)⟩
 ·refine ⟨_,cap,rfl,hnc,by unfold maxLen at hcm;omega,.inr ⟨g,0,rfl,(Array.getElem?_eq_some_iff.1 hg).1,fun k hk=> ?_⟩⟩
  have hp:=WM (f:=fun p:Z6=>Value.int .i64 p.1) (g:=fun p:Z6=>Value.int .i64 p.2) ps k hk;have hat:Z7 ps k=ps[k]:=by unfold Z7;simp [List.getD,hk]
  rw [Nat.zero_add,hat];exact ⟨(World.ownsRow.cellAt h' (k*2) (by omega)).trans hp.1,(World.ownsRow.cellAt h' (k*2+1) (by omega)).trans hp.2⟩
structure OwnHall (n₀:Nat) (w:World) (v:Value) (qs:List (Z4 × Value)):Prop where
 row:w.ownsRow n₀ 126 2 v qs.length (Xb qs)
 pc:∀ q ∈ qs,PacesAt n₀ w q.2 q.1.2
 off:∀ q ∈ qs,∀ b,q.2.ownBlock=some b->v.ownBlock ≠ some b
 apart:(qs.map (·.2)).Pairwise fun x y=> ∀ b,x.ownBlock=some b->y.ownBlock ≠ some b
theorem OwnHall.nil (n₀:Nat) (w:World):OwnHall n₀ w (.slice none 0 0) []:=
 ⟨World.ownsRow_nil w n₀ _ _,fun _ h=>(by cases h),fun _ h=>(by cases h),List.Pairwise.nil⟩
theorem OwnHall.lt {n₀:Nat}  {qs:List (Z4 × Value)} (h:OwnHall n₀ w v qs) {k:Nat} (hk:v.ownBlock=some k\/ ∃ q ∈ qs,q.2.ownBlock=some k):n₀<=k/\k<w.heap.size:=by
 rcases hk with hk | ⟨q,hq,hk⟩
 ·exact World.ownsRow.lt h.row k hk
 ·exact (h.pc q hq).lt hk
theorem OwnHall.same {n₀:Nat}  {qs:List (Z4 × Value)} (h:OwnHall n₀ w v qs) (hs:∀ k,n₀<=k->k<w.heap.size->w'.heap[k]?=w.heap[k]?):OwnHall n₀ w' v qs:=
 ⟨YJ h.row (fun k e=>hs k (h.lt (.inl e)).1 (h.lt (.inl e)).2),fun q hq=>YJ (h.pc q hq) (fun k e=>hs k (h.lt (.inr ⟨q,hq,e⟩)).1 (h.lt (.inr ⟨q,hq,e⟩)).2),h.off,h.apart⟩
theorem OwnHall.later {n₀:Nat}  {qs:List (Z4 × Value)} (h:OwnHall n₀ w v qs) (hb:Below w.heap.size w w'):OwnHall n₀ w' v qs:=h.same (fun k _ hk=>hb.block k hk)
theorem OwnHall.mono {n₀ n₁:Nat}  {qs:List (Z4 × Value)} (h:OwnHall n₀ w v qs) (hn:n₁<=n₀):OwnHall n₁ w v qs:=
 ⟨Tq h.row hn,fun q hq=>Tq (h.pc q hq) hn,h.off,h.apart⟩
theorem OwnHall.rm {n₀:Nat}  {qs:List (Z4 × Value)} (h:OwnHall n₀ w v qs):IsRooms w v (qs.map (·.1)):=by
 have h':=h.row;have hlen:(qs.map (·.1)).length=qs.length:=by simp
 rcases h.row.2 with ⟨rfl,hz⟩ | ⟨g,cap,cur,rfl,hb,hg,hnc,hcm,r⟩
 ·exact ⟨none,0,by rw [hlen,hz],by omega,by omega,.inl (by rw [List.eq_nil_of_length_eq_zero hz];rfl)⟩
 ·refine ⟨_,cap,by rw [hlen],by rw [hlen];exact hnc,by unfold maxLen at hcm;omega,.inr ⟨g,0,rfl,(Array.getElem?_eq_some_iff.1 hg).1,fun k hk=> ?_⟩⟩
  rw [hlen] at hk;have hp:=WM (f:=fun q:Z4 × Value=>Value.int .i64 q.1.1) (g:=fun q:Z4 × Value=>q.2) qs k hk;have hat:ZU (qs.map (·.1)) k=qs[k].1:=by unfold ZU;simp [List.getD,hk]
  rw [Nat.zero_add,hat];exact ⟨(World.ownsRow.cellAt h' (k*2) (by omega)).trans hp.1,qs[k].2,(World.ownsRow.cellAt h' (k*2+1) (by omega)).trans hp.2,(h.pc _ (List.getElem_mem hk)).pc⟩
theorem OwnHall.push {n₀:Nat} {v v' pv:Value} {qs:List (Z4 × Value)} {rb:Int} {ps:List Z6} {o:Obj} (h:OwnHall n₀ w v qs) (hp:PacesAt n₀ w pv ps)
  (hoff:∀ b,pv.ownBlock=some b->v.ownBlock ≠ some b) (hap:∀ q ∈ qs,∀ b,q.2.ownBlock=some b->pv.ownBlock ≠ some b)
  (hown:w1.ownsRow n₀ 126 2 v' (qs.length+1) (Xb qs++[.int .i64 rb,pv])) (hg:(w.alloc o).grownBy w1 v.ownBlock) (hat:v'.ownBlock=v.ownBlock\/v'.ownBlock=some (w.alloc o).heap.size) :
  OwnHall n₀ w1 v' (qs++[((rb,ps),pv)]):=by
 have hk:∀ k,k<w.heap.size->v.ownBlock ≠ some k->w1.heap[k]?=w.heap[k]?:=fun k hk hn=>(hg.block k (by simp;omega) (fun e=>hn e.symm)).trans (Below.heap_alloc w o k hk)
 have hv':∀ k,k<w.heap.size->v'.ownBlock=some k->v.ownBlock=some k:=fun k hk e=>by
  rcases hat with e' | e'
  ·rw [<-e'];exact e
  ·rw [e'] at e;simp at e;omega
 refine ⟨?_,fun q hq=> ?_,fun q hq b e=> ?_,?_⟩
 ·simpa [Xb] using hown
 ·rcases List.mem_append.1 hq with hq | hq
  ·exact YJ (h.pc q hq) (fun k e=>hk k (h.lt (.inr ⟨q,hq,e⟩)).2 (h.off q hq k e))
  ·obtain rfl:q=((rb,ps),pv):=by simpa using hq
   exact YJ hp (fun k e=>hk k (hp.lt e).2 (hoff k e))
 ·rcases List.mem_append.1 hq with hq | hq
  ·exact fun e'=>h.off q hq b e (hv' b (h.lt (.inr ⟨q,hq,e⟩)).2 e')
  ·obtain rfl:q=((rb,ps),pv):=by simpa using hq
   exact fun e'=>hoff b e (hv' b (hp.lt e).2 e')
 ·rw [List.map_append,List.pairwise_append]
  refine ⟨h.apart,by simp,fun x hx y hy b e=> ?_⟩;obtain ⟨q,hq,rfl⟩:=List.mem_map.1 hx;obtain rfl:y=pv:=by simpa using hy
  exact hap q hq b e
theorem Fx:(prog.info? 126).map (fun i=>(i.zero,i.size,i.bytes))=some (some (.agg #[.int .i64 0,.slice none 0 0]),2,32):=by kernel_rfl
theorem OwnHall.shape {n₀:Nat}  {qs:List (Z4 × Value)} (h:OwnHall n₀ w v qs):∃ a cap,v= .slice a qs.length cap:=by
 rcases h.row.2 with ⟨rfl,hz⟩ | ⟨g,cap,cur,rfl,_⟩
 ·exact ⟨none,0,by rw [hz]⟩
 ·exact ⟨_,cap,rfl⟩
theorem PacesAt.shape {n₀:Nat}  {ps:List Z6} (h:PacesAt n₀ w v ps):∃ a cap,v= .slice a ps.length cap:=by
 rcases h.2 with ⟨rfl,hz⟩ | ⟨g,cap,cur,rfl,_⟩
 ·exact ⟨none,0,by rw [hz]⟩
 ·exact ⟨_,cap,rfl⟩
open Go.ChangeShapes Go.WideShapes Go.ChangeAt Go.RowKit
def VA (need:Int) (p:Z6):Bool:=decide (5*need<=4*p.1)
def O5 (need:Int):List Z6->Nat
 | []=>0
 | [_]=>0
 | p::q::ps=>if VA need p then 0 else O5 need (q::ps)+1
def WZ (r:Z4) (need:Int):Int:=if Zn r && inB need 0 1000000 then O5 need r.2 else -1
def Yb (r:Z4) (pace work:Int):Int:=if Zn r && (inB work 0 1000000 && inB pace 0 (r.2.length-1)) then YT (Z7 r.2 pace.toNat).2 work (Z7 r.2 pace.toNat).1 else -1
def QN (r:Z4) (need work:Int):Int:=Yb r (WZ r need) work
theorem Km (p:Z6) (ps:List Z6):Z7 (p::ps) 0=p:=rfl
theorem Kp (p:Z6) (ps:List Z6) (k:Nat):Z7 (p::ps) (k+1)=Z7 ps k:=by unfold Z7;simp [List.getD]
theorem DY {need:Int} {p:Z6} (h:5*need<=4*p.1):VA need p=true:=Sf h
theorem DX {need:Int} {p:Z6} (h:4*p.1<5*need):VA need p=false:=TG (by omega)
theorem Ts (need:Int):∀ (ps:List Z6) (k:Nat),k+1<=ps.length->(∀ j,j<k->VA need (Z7 ps j)=false)->(k+1=ps.length\/VA need (Z7 ps k)=true)->O5 need ps=k
 | [],k,hk,_,_=>by simp at hk
 | [p],k,hk,_,_=>by simp at hk;subst hk;rfl
 | p::q::ps,0,_,_,he=>by
  rcases he with he | he
  ·simp at he
  ·rw [Km] at he;simp [O5,he]
 | p::q::ps,k+1,hk,hlo,he=>by
  have h0:=hlo 0 (by omega);rw [Km] at h0
  have ih:=Ts need (q::ps) k (by simp at hk ⊢;omega) (fun j hj=>by have:=hlo (j+1) (by omega);rwa [Kp] at this) (by
   rcases he with he | he
   ·left;simp at he ⊢;omega
   ·right;rwa [Kp] at he)
  simp [O5,h0,ih]
theorem QX {r:Z4} (h:Zn r=true) {k:Nat} (hk:k<r.2.length):1<=(Z7 r.2 k).1/\(Z7 r.2 k).1<=1024/\1<=(Z7 r.2 k).2/\(Z7 r.2 k).2<=1024:=by
 unfold Zn at h;simp only [ZJ] at h;have h1:=FJ h.2.2 hk;unfold Xi UC at h1;simp only [ZJ] at h1;have a:=ZO h1.1.1;have b:=ZO h1.1.2;omega
theorem Qk {r:Z4} {need:Int} (h:Zn r=false):WZ r need= -1:=by unfold WZ;simp [h]
theorem Ql {r:Z4} {need:Int} (h:inB need 0 1000000=false):WZ r need= -1:=by unfold WZ;simp [h]
theorem O4 {r:Z4} {need:Int} (h:Zn r=true) (h2:inB need 0 1000000=true):WZ r need=O5 need r.2:=by unfold WZ;simp [h,h2]
theorem SV {r:Z4} {pace work:Int} (h:Zn r=false):Yb r pace work= -1:=by unfold Yb;simp [h]
theorem SW {r:Z4} {pace work:Int} (h:inB work 0 1000000=false):Yb r pace work= -1:=by unfold Yb;simp [h]
theorem UY {r:Z4} {pace work:Int} (h:inB pace 0 (r.2.length-1)=false):Yb r pace work= -1:=by unfold Yb;simp [h]
theorem RO {r:Z4} {pace work:Int} (h:Zn r=true) (h2:inB work 0 1000000=true) (h3:inB pace 0 (r.2.length-1)=true):Yb r pace work=YT (Z7 r.2 pace.toNat).2 work (Z7 r.2 pace.toNat).1:=by unfold Yb;simp [h,h2,h3]
theorem FF {a b c:Int} (a0:0<=a) (a1:a<=1000000000) (b0:0<=b) (b1:b<=1000000000) (c0:1<=c) (c1:c<=1000000000):YT a b c=a*b / c:=by
 unfold YT;rw [Zf a0 a1,Zf b0 b1,Zf c0 c1];rfl
theorem JA (r:Z4) (pace work:Int) : -1<=Yb r pace work/\Yb r pace work<=1024000000:=by
 cases h:Zn r
 ·rw [SV h];omega
 cases h2:inB work 0 1000000
 ·rw [SW h2];omega
 cases h3:inB pace 0 (r.2.length-1)
 ·rw [UY h3];omega
 rw [RO h h2 h3];have hb:=ZO h2;have hp:=ZO h3;have hr:=QX h (k:=pace.toNat) (by omega);generalize Z7 r.2 pace.toNat=p at *;rw [FF (by omega) (by omega) (by omega) (by omega) (by omega) (by omega)];have m0:0<=p.2*work:=Int.mul_nonneg (by omega) (by omega);have m1:p.2*work<=1024*1000000:=Int.mul_le_mul (by omega) (by omega) (by omega) (by omega);have d0:=Int.ediv_nonneg m0 (show 0<=p.1 by omega);have d1:=Int.ediv_le_self p.1 m0;omega
theorem Cj (b:Int) (x:List Z6):∀ (qs:List (Z4 × Value)) (j:Nat) (h:j<qs.length),(Xb qs).set (j*2) (.int .i64 b)=Xb (qs.set j ((b,x),qs[j].2))
 | q::qs,0,_=>by simp [Xb]
 | q::qs,j+1,h=>by
  have ih:=Cj b x qs j (by simpa using h);unfold Xb at ih ⊢;rw [List.flatMap_cons,show (j+1)*2=j*2+2 by omega];simpa using ih
theorem NN {n₀:Nat}  {ps:List Z6} (k:Int) (h:PacesAt n₀ w v ps) (hk0:0<=k) (hk1:k<=1000000000000000) (hl:ps.length<=1000000000) :
  Calls prog 136 #[v,.int .i64 k] w fun e w'=>e= .returned (.int .i64 (k+2*(ps.length:Int)))/\PacesAt n₀ w' v (mps k ps.length)/\w.grownBy w' v.ownBlock:=by
 have Hv:=Z9 h;obtain ⟨a,cap,rfl⟩:=h.shape;clear h;go_enter func136,ntmps136;go_wp2_with fail
 go_loopw [5,1] (fun i q wr=> ∃ j:Nat,j<=ps.length/\i= .int .i64 j/\q= .int .i64 (k+2*(j:Int))/\PacesAt n₀ wr (.slice a ps.length cap) (mpd ps k j)/\w.grownBy wr (Value.ownBlock (.slice a ps.length cap))) (fun i _ _=>ps.length-(intOf i).toNat)
 case atStart=>exact ⟨0,ZR _,rfl,by simp,by simpa [mpd,mps] using uh Hv,Xr _ _⟩
 case round=>
  obtain ⟨j,hj,rfl,rfl,hin,hgr⟩:=hrel;by_cases hlt:j<ps.length
  ·unfold PacesAt at hin
   rw [PH hj] at hin
   obtain ⟨g,rfl⟩:∃ g,a=some ⟨g,0,none⟩:=by
    rcases hin.2 with ⟨h9,h8⟩ | ⟨g,c',cur,h9,_⟩
    ·omega
    ·cases h9;exact ⟨g,rfl⟩
   have hcell:=fun (o:Nat) (ho:o<ps.length*2)=>World.ownsRow.cellAt hin o (by omega);have hpl:(Zq (mpd ps k j)).length=ps.length*2:=by unfold Zq;rw [SI,PH hj]
   obtain ⟨c0,hc0⟩:∃ c,wr.cell? ⟨g,j*2,none⟩=some c:=⟨_,(hcell (j*2) (by omega)).trans (List.getElem?_eq_getElem (by omega))⟩
   obtain ⟨c1,hc1⟩:∃ c,wr.cell? ⟨g,j*2+1,none⟩=some c:=⟨_,(hcell (j*2+1) (by omega)).trans (List.getElem?_eq_getElem (by omega))⟩
   have f0:=World.ownsRow.frozenAt hin (j*2);have f1:=World.ownsRow.frozenAt hin (j*2+1);obtain ⟨s1,s2⟩:=World.ownsRow.stored hin (j*2) (.int .i64 (k+2*(j:Int)));obtain ⟨t1,t2⟩:=World.ownsRow.stored s1 (j*2+1) (.int .i64 (k+2*(j:Int)+1));rw [Du _ _ _ _ (by rw [PH hj];exact hlt),Ep hlt] at t1;have H1:Hid (PacesAt n₀ ((wr.setCell ⟨g,j*2,none⟩ (.int .i64 (k+2*(j:Int)))).setCell ⟨g,j*2+1,none⟩ (.int .i64 (k+2*(j:Int)+1))) (.slice (some ⟨g,0,none⟩) ps.length cap) (mpd ps k (j+1))):=Z9 (by unfold PacesAt;rw [PH hlt];exact t1);have H2:=Z9 (XS hgr (XS s2 t2));have hc1':(wr.setCell ⟨g,j*2,none⟩ (.int .i64 (k+2*(j:Int)))).cell? ⟨g,j*2+1,none⟩=some c1:=by rw [World.cell?_setCell_other _ _ _ _ (by simp)];exact hc1
   have f1':(wr.setCell ⟨g,j*2,none⟩ (.int .i64 (k+2*(j:Int)))).frozen? ⟨g,j*2+1,none⟩=false:=by rw [World.frozen?_setCell];exact f1
   clear hin hgr s1 s2 t1 t2 hcell hpl;go_wp2_with fail;go_roundw
   case rel=>exact ⟨j+1,by omega,by go_num,by go_num,uh H1,uh H2⟩
   case measure=>exact ms
  ·obtain rfl:j=ps.length:=by omega
   rw [Dq] at hin;go_wp2_with fail;go_ret;exact ⟨rfl,hin,hgr⟩
theorem NF  (k:Int) (n:Nat) (h:IsPaces w v (mps k n)) (hk0:0<=k) (hk1:k<=1000000000000000) (hl:n<=1000000000) :
  cE 137 #[v,.int .i64 k] w (.int .i64 (k+2*(n:Int))):=by
 obtain ⟨a,cap,rfl,hc,hm,hrow⟩:=h;rw [SG] at *;have Hrow:=Z9 hrow;clear hrow;go_enter func137,ntmps137;go_wp2_with fail
 go_loop [5,1] (fun i q=> ∃ j:Nat,j<=n/\i= .int .i64 j/\q= .int .i64 (k+2*(j:Int))) (fun i _=>n-(intOf i).toNat)
 case atStart=>exact ⟨0,ZR _,rfl,by simp⟩
 case round=>
  obtain ⟨j,hj,rfl,rfl⟩:=hrel;by_cases hlt:j<n
  ·rcases uh Hrow with h0 | ⟨bk,off,rfl,hbw,hcl⟩
   ·have:=congrArg List.length h0;rw [SG] at this;simp at this;omega
   obtain ⟨c0,c1⟩:=hcl j hlt;rw [CI k n j hlt] at c0 c1;simp only at c0 c1;clear hcl;go_wp2_with fail
   go_round
   case rel=>exact ⟨j+1,by omega,by go_num,by go_num⟩
   case measure=>exact ms
  ·obtain rfl:j=n:=by omega
   go_wp2_with fail;go_ret;exact ⟨rfl,rfl⟩
theorem Dc (x:List Z6):∀ (qs:List (Z4 × Value)) (j:Nat) (h:j<qs.length),Xb (qs.set j ((qs[j].1.1,x),qs[j].2))=Xb qs
 | q::qs,0,_=>by simp [Xb]
 | q::qs,j+1,h=>by
  have ih:=Dc x qs j (by simpa using h);unfold Xb at ih ⊢;simpa using ih
theorem Kd {qs:List (Z4 × Value)} {j:Nat} (hj:j<qs.length) (r:Z4):(qs.set j (r,qs[j].2)).map (·.2)=qs.map (·.2):=by
 rw [List.map_set];simp only;have:(qs.map (·.2))[j]'(by simpa using hj)=qs[j].2:=by simp
 rw [<-this,List.set_getElem_self]
theorem Mj {qs:List (Z4 × Value)} {j:Nat} (hj:j<qs.length) {r:Z4} {q:Z4 × Value} (h:q ∈ qs.set j (r,qs[j].2)):(q ∈ qs)\/q=(r,qs[j].2):=List.mem_or_eq_of_mem_set h
theorem OwnHall.bench {n₀ g cap:Nat} {qs:List (Z4 × Value)} (h:OwnHall n₀ w (.slice (some ⟨g,0,none⟩) qs.length cap) qs) {j:Nat} (hj:j<qs.length) (b:Int) :
  OwnHall n₀ (w.setCell ⟨g,j*2,none⟩ (.int .i64 b)) (.slice (some ⟨g,0,none⟩) qs.length cap) (qs.set j ((b,qs[j].1.2),qs[j].2)):=by
 have hst:=(World.ownsRow.stored h.row (j*2) (.int .i64 b)).1;rw [Cj b qs[j].1.2 qs j hj] at hst;have hold:∀ q ∈ qs,PacesAt n₀ (w.setCell ⟨g,j*2,none⟩ (.int .i64 b)) q.2 q.1.2:=fun q hq=>YJ (h.pc q hq) (fun k e=>Below.heap_setCell w ⟨g,j*2,none⟩ _ k (fun e'=>h.off q hq k e (by show some g=some k;rw [e'])));refine ⟨by simpa using hst,fun q hq=> ?_,fun q hq b' e=> ?_,by rw [Kd hj];exact h.apart⟩
 ·rcases Mj hj hq with hq | rfl
  ·exact hold q hq
  ·exact hold qs[j] (List.getElem_mem hj)
 ·rcases Mj hj hq with hq | rfl
  ·exact h.off q hq b' e
  ·exact h.off qs[j] (List.getElem_mem hj) b' e
theorem DN {qs:List (Z4 × Value)} (h:(qs.map (·.2)).Pairwise fun x y=> ∀ b,x.ownBlock=some b->y.ownBlock ≠ some b) {i j:Nat} (hi:i<qs.length) (hj:j<qs.length) (hne:i ≠ j) {b:Nat} (e:qs[i].2.ownBlock=some b):qs[j].2.ownBlock ≠ some b:=by
 rw [List.pairwise_iff_getElem] at h
 rcases Nat.lt_or_gt_of_ne hne with hlt | hgt
 ·have:=h i j (by simpa using hi) (by simpa using hj) hlt b (by simpa using e)
  simpa using this
 ·intro e'
  have:=h j i (by simpa using hj) (by simpa using hi) hgt b (by simpa using e');simp at this;exact this e
theorem OwnHall.repace {n₀:Nat}  {qs:List (Z4 × Value)} (h:OwnHall n₀ w v qs) {j:Nat} (hj:j<qs.length) {ps:List Z6} (hp:PacesAt n₀ w' qs[j].2 ps) (hg:w.grownBy w' qs[j].2.ownBlock) :
  OwnHall n₀ w' v (qs.set j ((qs[j].1.1,ps),qs[j].2)):=by
 have hs:∀ k,k<w.heap.size->qs[j].2.ownBlock ≠ some k->w'.heap[k]?=w.heap[k]?:=fun k hk hn=>hg.block k hk (fun e=>hn e.symm);refine ⟨?_,fun q hq=> ?_,fun q hq b' e=> ?_,by rw [Kd hj];exact h.apart⟩
 ·have:=YJ h.row (fun k e=>hs k (h.lt (.inl e)).2 (fun e'=>h.off qs[j] (List.getElem_mem hj) k e' e))
  rw [UX,Dc ps qs j hj];exact this
 ·obtain ⟨i,hi,rfl⟩:=List.getElem_of_mem hq
  have hi':i<qs.length:=by simpa using hi
  by_cases hij:i=j
  ·subst hij;simpa using hp
  ·rw [List.getElem_set_ne (fun e=>hij e.symm)]
   exact YJ (h.pc qs[i] (List.getElem_mem hi')) (fun k e=>hs k (h.lt (.inr ⟨qs[i],List.getElem_mem hi',e⟩)).2 (DN h.apart hi' hj hij e))
 ·rcases Mj hj hq with hq | rfl
  ·exact h.off q hq b' e
  ·exact h.off qs[j] (List.getElem_mem hj) b' e
structure OwnOnly (v:Value) (qs:List (Z4 × Value)) (w w':World):Prop where
 os:w'.os=w.os
 tape:w'.tape=w.tape
 output:w'.output=w.output
 size:w.heap.size<=w'.heap.size
 block:∀ k,k<w.heap.size->v.ownBlock ≠ some k->(∀ q ∈ qs,q.2.ownBlock ≠ some k)->w'.heap[k]?=w.heap[k]?
theorem OwnOnly.refl (v:Value) (qs:List (Z4 × Value)) (w:World):OwnOnly v qs w w:=⟨rfl,rfl,rfl,ZY _,fun _ _ _ _=>rfl⟩
theorem OwnOnly.trans {qs:List (Z4 × Value)} {a b c:World} (h:OwnOnly v qs a b) (k:OwnOnly v qs b c):OwnOnly v qs a c:=
 ⟨k.os.trans h.os,k.tape.trans h.tape,k.output.trans h.output,YV h.size k.size,fun i hi h1 h2=>(k.block i (ZD hi h.size) h1 h2).trans (h.block i hi h1 h2)⟩
theorem OwnOnly.set {g n cap o:Nat} {qs:List (Z4 × Value)} (x:Value):OwnOnly (.slice (some ⟨g,0,none⟩) n cap) qs w (w.setCell ⟨g,o,none⟩ x):=
 ⟨rfl,rfl,rfl,by simp,fun k hk h1 _=>Below.heap_setCell w ⟨g,o,none⟩ x k (fun e=>h1 (by show some g=some k;rw [e]))⟩
theorem OwnOnly.grown {qs:List (Z4 × Value)} {q:Z4 × Value} (hq:q ∈ qs) (hg:w.grownBy w' q.2.ownBlock):OwnOnly v qs w w':=
 ⟨hg.os,hg.tape,hg.output,hg.size,fun k hk _ h2=>hg.block k hk (fun e=>h2 q hq e.symm)⟩
theorem OwnOnly.alloc (v:Value) (qs:List (Z4 × Value)) (w:World) (o:Obj):OwnOnly v qs w (w.alloc o):=⟨rfl,rfl,rfl,by simp,fun k hk _ _=>Below.heap_alloc w o k hk⟩
def Yh:Int->List (Z4 × Value)->Int
 | k,[]=>k
 | k,q::qs=>Yh (k+1+2*(q.1.2.length:Int)) qs
def YH:Int->List (Z4 × Value)->List (Z4 × Value)
 | _,[]=>[]
 | k,q::qs=>((k,mps (k+1) q.1.2.length),q.2)::YH (k+1+2*(q.1.2.length:Int)) qs
theorem J0:∀ (a:List (Z4 × Value)) (k:Int) (b:List (Z4 × Value)),Yh k (a++b)=Yh (Yh k a) b
 | [],_,_=>rfl
 | q::a,k,b=>J0 a _ b
theorem QO:∀ (a:List (Z4 × Value)) (k:Int) (b:List (Z4 × Value)),YH k (a++b)=YH k a++YH (Yh k a) b
 | [],_,_=>rfl
 | q::a,k,b=>by simp only [List.cons_append,YH,Yh];rw [QO a _ b]
theorem Xm:∀ (a:List (Z4 × Value)) (k:Int),(YH k a).length=a.length
 | [],_=>rfl
 | q::a,k=>by simp [YH,Xm a]
theorem EW {α:Type} {l:List α} {j:Nat} (h:j<l.length):l.take (j+1)=l.take j++[l[j]]:=List.take_succ_eq_append_getElem h
theorem Ik {qs:List (Z4 × Value)} {k:Int} {j:Nat} (h:j<qs.length):Yh k (qs.take (j+1))=Yh k (qs.take j)+1+2*(qs[j].1.2.length:Int):=by rw [EW h,J0];rfl
theorem Rn {qs:List (Z4 × Value)} (hp:∀ q ∈ qs,q.1.2.length<=1048576) (k:Int):∀ j,j<=qs.length->k<=Yh k (qs.take j)/\Yh k (qs.take j)<=k+2097153*j
 | 0,_=>by simp [Yh]
 | j+1,hj=>by
  have ih:=Rn hp k j (by omega);have hq:=hp qs[j] (List.getElem_mem (by omega));rw [Ik (by omega)];omega
def Y3 (k:Int) (qs:List (Z4 × Value)) (j:Nat):List (Z4 × Value):=YH k (qs.take j)++qs.drop j
theorem Mh {k:Int} {qs:List (Z4 × Value)} {j:Nat} (h:j<=qs.length):(Y3 k qs j).length=qs.length:=by unfold Y3;rw [List.length_append,Xm];simp;omega
theorem markedTo_at? {k:Int} {qs:List (Z4 × Value)} {j:Nat} (h:j<qs.length):(Y3 k qs j)[j]?=some qs[j]:=by
 have hl:(YH k (qs.take j)).length=j:=by rw [Xm];simp;omega
 unfold Y3;rw [List.getElem?_append_right (by omega),hl,Nat.sub_self,List.drop_eq_getElem_cons h];rfl
theorem Ke {k:Int} {qs:List (Z4 × Value)} {j:Nat} (h:j<qs.length) (h':j<(Y3 k qs j).length):(Y3 k qs j)[j]=qs[j]:=by
 have h1:=markedTo_at? (k:=k) h;rw [List.getElem?_eq_getElem h'] at h1;exact Option.some.inj h1
theorem Iv {k:Int} {qs:List (Z4 × Value)} {j:Nat} (h:j<qs.length):(Y3 k qs j).set j ((Yh k (qs.take j),mps (Yh k (qs.take j)+1) qs[j].1.2.length),qs[j].2)=Y3 k qs (j+1):=by
 unfold Y3;have hl:(YH k (qs.take j)).length=j:=by rw [Xm];simp;omega
 rw [List.set_append_right _ _ (by omega),hl,Nat.sub_self,List.drop_eq_getElem_cons h,List.set_cons_zero,EW h,QO];simp [YH]
theorem Mg (k:Int) (qs:List (Z4 × Value)):Y3 k qs qs.length=YH k qs:=by simp [Y3]
theorem En {k:Int} {qs:List (Z4 × Value)} {j:Nat} (h:j<qs.length):ZU ((YH k qs).map (·.1)) j=(Yh k (qs.take j),mps (Yh k (qs.take j)+1) qs[j].1.2.length):=by
 have e:YH k qs=YH k (qs.take j)++YH (Yh k (qs.take j)) (qs.drop j):=by rw [<-QO,List.take_append_drop]
 have hl:(YH k (qs.take j)).length=j:=by rw [Xm];simp;omega
 unfold ZU;rw [e,List.drop_eq_getElem_cons h];simp only [YH,List.map_append,List.map_cons,List.getD];rw [List.getElem?_append_right (by rw [List.length_map,hl];omega),List.length_map,hl,Nat.sub_self];rfl
theorem NO {n₀:Nat}  {qs:List (Z4 × Value)} (k:Int) (h:OwnHall n₀ w v qs) (hn:n₀<=w.heap.size) (hk0:0<=k) (hk1:k<=1000000000) (hl:qs.length<=1048576) (hp:∀ q ∈ qs,q.1.2.length<=1048576) :
  Calls prog 87 #[v,.int .i64 k] w fun e w'=>e= .returned (.int .i64 (Yh k qs))/\OwnHall n₀ w' v (YH k qs)/\OwnOnly v qs w w':=by
 have Hv:=Z9 h;obtain ⟨a,cap,rfl⟩:=h.shape;have Hp:=Z9 hp;clear h hp;go_enter func87,ntmps87;go_wp2_with fail
 go_loopw [5,1] (fun i q wr=> ∃ j:Nat,j<=qs.length/\i= .int .i64 j/\q= .int .i64 (Yh k (qs.take j))/\OwnHall n₀ wr (.slice a qs.length cap) (Y3 k qs j)/\OwnOnly (.slice a qs.length cap) qs w wr) (fun i _ _=>qs.length-(intOf i).toNat)
 case atStart=>exact ⟨0,ZR _,rfl,rfl,by simpa [Y3,YH] using uh Hv,OwnOnly.refl _ _ _⟩
 case round=>
  obtain ⟨j,hj,rfl,rfl,hin,hbl⟩:=hrel;by_cases hlt:j<qs.length
  ·have hml:=Mh (k:=k) (Nat.le_of_lt hlt)
   have hjm:j<(Y3 k qs j).length:=by rw [hml];exact hlt
   have hat:=Ke (k:=k) hlt hjm;have hkb:=Rn (uh Hp) k j hj;have hks:=Ik (k:=k) hlt;have Hms:=Z9 (Iv (k:=k) hlt);have hpl:=uh Hp qs[j] (List.getElem_mem hlt)
   obtain ⟨g,rfl⟩:∃ g,a=some ⟨g,0,none⟩:=by
    rcases hin.row.2 with ⟨h9,h8⟩ | ⟨g,c',cur,h9,_⟩
    ·omega
    ·simp only [Value.slice.injEq] at h9;exact ⟨g,h9.1⟩
   have hin0:=hin;rw [<-hml] at hin;have hb1:=hin.bench hjm (Yh k (qs.take j));rw [hml] at hb1;have hrow:=hin0.row;rw [hml] at hrow;have hc0:=World.ownsRow.cellAt hrow (j*2) (by omega);have hc1:=World.ownsRow.cellAt hrow (j*2+1) (by omega);have hpg:=WM (f:=fun q:Z4 × Value=>Value.int .i64 q.1.1) (g:=fun q:Z4 × Value=>q.2) (Y3 k qs j) j hjm;have hc0':=hc0.trans hpg.1;have hc1':=hc1.trans hpg.2;have f0:=World.ownsRow.frozenAt hrow (j*2);rw [hat] at hc0' hc1' hb1;have HW1:Hid (OwnOnly (.slice (some ⟨g,0,none⟩) qs.length cap) qs w (wr.setCell ⟨g,j*2,none⟩ (.int .i64 (Yh k (qs.take j))))):=Z9 (hbl.trans (OwnOnly.set _));have hjs:j<((Y3 k qs j).set j ((Yh k (qs.take j),qs[j].1.2),qs[j].2)).length:=by rw [UX];exact hjm
   have hpa:=hb1.pc _ (List.getElem_mem hjs);rw [List.getElem_set_self] at hpa;simp only at hpa;have Hb1:=Z9 hb1;have Hpa:=Z9 hpa;have hd1:(wr.setCell ⟨g,j*2,none⟩ (.int .i64 (Yh k (qs.take j)))).cell? ⟨g,j*2+1,none⟩=some qs[j].2:=by rw [World.cell?_setCell_other _ _ _ _ (by simp)];exact hc1'
   obtain ⟨pa,pcap,hps⟩:=hpa.shape;rw [hps] at hd1;have Hps:=Z9 hps;generalize Yh k (qs.take j)=kj at *;generalize hk':Yh k (qs.take (j+1))=kj' at *;have Hk':=Z9 hk';clear hin hin0 hb1 hrow hc0 hc1 hpg hc1' hpa hps hat hk';generalize hbb:qs[j].1.1=bb at *;clear hbb;generalize hll:qs[j].1.2.length=ll at *;have Hll:=Z9 hll;clear hll;go_wp2_with fail;refine (NN (n₀:=n₀) (ps:=qs[j].1.2) (kj+1) (by have h2:=uh Hpa;rw [uh Hps] at h2;exact h2) (by omega) (by omega) (by rw [uh Hll];omega)).mono ?_;rw [uh Hll];rintro e w2 ⟨rfl,hpa2,hgr⟩
   have Hrep:Hid (OwnHall n₀ w2 (.slice (some ⟨g,0,none⟩) qs.length cap) (Y3 k qs (j+1))/\OwnOnly (.slice (some ⟨g,0,none⟩) qs.length cap) qs w w2):=Z9 (by
    have hj2:j<((Y3 k qs j).set j ((kj,qs[j].1.2),qs[j].2)).length:=hjs;have e2:(((Y3 k qs j).set j ((kj,qs[j].1.2),qs[j].2))[j]'hj2)=((kj,qs[j].1.2),qs[j].2):=List.getElem_set_self _;have h3:=OwnHall.repace (uh Hb1) hj2 (ps:=mps (kj+1) ll) (w':=w2) (by rw [e2];simp only;rw [uh Hps];exact hpa2) (by rw [e2];simp only;rw [uh Hps];exact hgr);rw [e2,List.set_set] at h3;simp only at h3;have h4:=uh Hms;rw [h4] at h3
    exact ⟨h3,(uh HW1).trans (OwnOnly.grown (List.getElem_mem hlt) (by rw [uh Hps];exact hgr))⟩)
   clear hpa2 hgr;go_wp2_with fail;go_roundw
   case rel=>exact ⟨j+1,by omega,by go_num,by rw [uh Hk',hks],(uh Hrep).1,(uh Hrep).2⟩
   case measure=>exact ms
  ·obtain rfl:j=qs.length:=by omega
   rw [Mg] at hin;rw [List.take_length];go_wp2_with fail;go_ret;exact ⟨rfl,hin,hbl⟩
theorem NG  {qs:List (Z4 × Value)} (k:Int) (h:IsRooms w v ((YH k qs).map (·.1))) (hk0:0<=k) (hk1:k<=1000000000) (hl:qs.length<=1048576) (hp:∀ q ∈ qs,q.1.2.length<=1048576) :
  cE 88 #[v,.int .i64 k] w (.int .i64 (Yh k qs)):=by
 have hlen:((YH k qs).map (·.1)).length=qs.length:=by rw [List.length_map,Xm]
 obtain ⟨a,cap,rfl,hc,hm,hrow⟩:=h;rw [hlen] at hc hrow ⊢;have Hrow:=Z9 hrow;have Hp:=Z9 hp;clear hrow hp;go_enter func88,ntmps88;go_wp2_with fail
 go_loop [5,1] (fun i q=> ∃ j:Nat,j<=qs.length/\i= .int .i64 j/\q= .int .i64 (Yh k (qs.take j))) (fun i _=>qs.length-(intOf i).toNat)
 case atStart=>exact ⟨0,ZR _,rfl,rfl⟩
 case round=>
  obtain ⟨j,hj,rfl,rfl⟩:=hrel;by_cases hlt:j<qs.length
  ·have hkb:=Rn (uh Hp) k j hj
   have hks:=Ik (k:=k) hlt;have hpl:=uh Hp qs[j] (List.getElem_mem hlt);have hma:=En (k:=k) hlt
   rcases uh Hrow with h0 | ⟨bk,off,rfl,hbw,hcl⟩
   ·have h7:=congrArg List.length h0;rw [List.length_map,Xm,Xo] at h7;omega
   obtain ⟨c0,pv,c1,hip⟩:=hcl j hlt;rw [hma] at c0 hip;simp only at c0 hip;have hsh:∃ pa pcap,pv= .slice pa qs[j].1.2.length pcap:=by obtain ⟨pa,pcap,rfl,_⟩:=hip;exact ⟨pa,pcap,by rw [SG]⟩
   obtain ⟨pa,pcap,rfl⟩:=hsh;have Hip:=Z9 hip;generalize qs[j].1.2.length=ll at *;generalize Yh k (qs.take j)=kj at *;generalize hk':Yh k (qs.take (j+1))=kj' at *;have Hk':=Z9 hk';clear hcl hip hma hk';have hneg:¬ kj+1+2*(ll:Int)<0:=by omega
   go_wp2_with fail;refine ck (NF (kj+1) ll (uh Hip) (by omega) (by omega) (by omega)) fun w2 hw2=> ?_;subst w2;go_wp2_with fail
   go_round
   case rel=>exact ⟨j+1,by omega,by go_num,by rw [uh Hk',hks]⟩
   case measure=>exact ms
  ·obtain rfl:j=qs.length:=by omega
   rw [List.take_length];go_wp2_with fail;go_ret;exact ⟨rfl,rfl⟩
theorem Md {n₀:Nat}  {qs:List (Z4 × Value)} (k:Int) (h:OwnHall n₀ w v qs) (hn:n₀<=w.heap.size) (hk0:0<=k) (hk1:k<=1000000000) (hl:qs.length<=1048576) (hp:∀ q ∈ qs,q.1.2.length<=1048576) :
  Calls prog 45 #[.agg #[v],.int .i64 k] w fun e w'=>e= .returned (.int .i64 (Yh k qs))/\OwnHall n₀ w' v (YH k qs)/\OwnOnly v qs w w':=by
 have Hv:=Z9 h;obtain ⟨a,cap,rfl⟩:=h.shape;have Hp:=Z9 hp;clear h hp;go_enter func45,ntmps45;go_wp2_with fail;refine (NO k ((uh Hv).later ((ba _ _))) (by simp;omega) hk0 hk1 hl (uh Hp)).mono ?_;rintro e w1 ⟨rfl,ho,hb⟩;have Ho:=Z9 ho;have Hb:=Z9 hb;clear ho hb;go_wp2_with fail;go_ret;exact ⟨rfl,uh Ho,(OwnOnly.alloc _ _ _ _).trans (uh Hb)⟩
theorem LR  {qs:List (Z4 × Value)} (k:Int) (h:IsRooms w v ((YH k qs).map (·.1))) (hk0:0<=k) (hk1:k<=1000000000) (hl:qs.length<=1048576) (hp:∀ q ∈ qs,q.1.2.length<=1048576) :
  cB 50 #[.agg #[v],.int .i64 k] w (.int .i64 (Yh k qs)):=by
 have Hv:=Z9 h;obtain ⟨a,cap,rfl⟩:∃ a cap,v= .slice a qs.length cap:=by obtain ⟨a,cap,rfl,_⟩:=h;exact ⟨a,cap,by rw [List.length_map,Xm]⟩
 have hb:=Rn hp k qs.length (ZY _);rw [List.take_length] at hb;have Hp:=Z9 hp;have hneg:¬ Yh k qs<0:=by omega
 clear h hp;go_enter func50,ntmps50;go_wp2_with fail;refine ck (NG (qs:=qs) k ((uh Hv).below ((ba _ _))) hk0 hk1 hl (uh Hp)) fun w1 hw1=> ?_;subst w1;go_wp2_with fail;go_ret;exact ⟨rfl,(ba _ _)⟩
def VC (c:Int):ZG:=(c,c+1,c+1+1)
theorem OU {n₀:Nat}  {ps:List ZG} (c:Int) (h:GuildsAt n₀ w v ps) (hk0:0<=c) (hk1:c<=1000000000000000) (hl:ps.length<=10000000) :
  Calls prog 46 #[v,.int .i64 c] w fun e w'=>e= .returned (.int .i64 (c+3*(ps.length:Int)))/\GuildsAt n₀ w' v (WL VC 3 c ps.length)/\w.grownBy w' v.ownBlock:=by
 have Hv:=Z9 h;obtain ⟨a,cap,rfl⟩:=RecAt.shape h;clear h;go_enter func46,ntmps46;go_wp2_with fail
 go_loopw [5,1] (fun i q wr=> ∃ j:Nat,j<=ps.length/\i= .int .i64 j/\q= .int .i64 (c+3*(j:Int))/\GuildsAt n₀ wr (.slice a ps.length cap) (XK VC 3 c ps j)/\w.grownBy wr (Value.ownBlock (.slice a ps.length cap))) (fun i _ _=>ps.length-(intOf i).toNat)
 case atStart=>exact ⟨0,ZR _,rfl,by simp,by rw [Ud];exact uh Hv,Xr _ _⟩
 case round=>
  obtain ⟨j,hj,rfl,rfl,hin,hgr⟩:=hrel;by_cases hlt:j<ps.length
  ·have hfl:=Tl (mk:=VC) (d:=3) (c:=c) hj
   obtain ⟨g,rfl,_,_,hcells,hfz⟩:=RecAt.view XH (by omega) hin hfl.symm (by omega);have hq:=fun i u hu=>hcells j (by omega) i u hu;generalize Z8 (XK VC 3 c ps j) j=old at hq;have o0:=hq 0 _ rfl;have f0:=hfz (j*3);have o1:=hq 1 _ rfl;have f1:=hfz (j*3+1);have o2:=hq 2 _ rfl;have f2:=hfz (j*3+2);simp only [Nat.add_zero] at o0;have hp:=RecAt.put XH (by omega) hin hfl.symm (j:=j) (by omega) (VC (c+3*(j:Int)));have hs9:=Tm (mk:=VC) (d:=3) (c:=c) hlt;rw [show ((3:Nat):Int)=3 from rfl] at hs9;have HS:=Z9 hs9;clear hs9;have H1:=Z9 hp.1;have H2:=Z9 (XS hgr hp.2);clear hin hgr hcells hq hfz hp hfl;go_wp2_with fail;go_roundw
   case rel=>exact ⟨j+1,by omega,by go_num,by go_num,by have h9:=uh H1;rw [uh HS] at h9;exact h9,uh H2⟩
   case measure=>exact ms
  ·obtain rfl:j=ps.length:=by omega
   rw [Tk] at hin;go_wp2_with fail;go_ret;exact ⟨rfl,hin,hgr⟩
theorem Ou  (c:Int) (n:Nat) (h:Y9 w v (WL VC 3 c n)) (hk0:0<=c) (hk1:c<=1000000000000000) (hl:n<=10000000) :
  cE 51 #[v,.int .i64 c] w (.int .i64 (c+3*(n:Int))):=by
 obtain ⟨a,cap,rfl,hc,hm,hrow⟩:=h;rw [Yk] at *;have Hrow:=Z9 hrow;clear hrow;go_enter func51,ntmps51;go_wp2_with fail
 go_loop [5,1] (fun i q=> ∃ j:Nat,j<=n/\i= .int .i64 j/\q= .int .i64 (c+3*(j:Int))) (fun i _=>n-(intOf i).toNat)
 case atStart=>exact ⟨0,ZR _,rfl,by simp⟩
 case round=>
  obtain ⟨j,hj,rfl,rfl⟩:=hrel;by_cases hlt:j<n
  ·rcases uh Hrow with h0 | ⟨bk,off,rfl,hbw,hcl⟩
   ·have:=congrArg List.length h0;rw [Yk] at this;simp at this;omega
   have hq:=fun i u hu=>hcl j hlt i u hu;rw [OV _ _ _ hlt,show ((3:Nat):Int)=3 from rfl] at hq;have c0:w.cell? ⟨bk,off+j*3,none⟩=some (.int .i64 ((c+3*(j:Int)))):=hq 0 _ rfl;have c1:w.cell? ⟨bk,off+j*3+1,none⟩=some (.int .i64 ((c+3*(j:Int))+1)):=hq 1 _ rfl;have c2:w.cell? ⟨bk,off+j*3+2,none⟩=some (.int .i64 ((c+3*(j:Int))+1+1)):=hq 2 _ rfl;clear hcl hq;go_wp2_with fail
   go_round
   case rel=>exact ⟨j+1,by omega,by go_num,by go_num⟩
   case measure=>exact ms
  ·obtain rfl:j=n:=by omega
   go_wp2_with fail;go_ret;exact ⟨rfl,rfl⟩
end Go.Proofs.YtgdpaigcmoifbaaGreatDoor
