/- Part 9 of what the proof rests on. No condition but those that a theorem names. -/
import Derived.Test.YtgdpaigcmoifbaaGreatXw02
import Derived.Test.YtgdpaigcmoifbaaGreatXw03
import Derived.Test.YtgdpaigcmoifbaaGreatXw04
import Derived.Test.YtgdpaigcmoifbaaGreatXw05
set_option maxHeartbeats 8000000
set_option maxRecDepth 100000
namespace Go.Proofs.YtgdpaigcmoifbaaGreat
open Go.ChangeShapes Go.WideShapes Go.ChangeAt Go.RowKit Go.Sort Go.Proofs.Tryz
set_option linter.unusedVariables false
variable {w w' w0 w1 w2 w3 w₀ wr W W' X A B C : World} {v v0 v1 v2 v3 v4 u u0 u1 u2 u3 u4 : Value}
theorem Ym {B:Nat} (h:Below B w w') (n:Nat):Below B w (w'.drewN n):=⟨h.os,h.tape,h.output,h.size,h.block⟩
theorem Yd (x:Int) (w:World):cE 197 #[.int .i64 x] w (.bool (inB x 0 1024)):=by
 go_enter func197,ntmps197;go_wp2_with (go_at_call 129;refine (ZV _ _ _ _).mono ?_;rintro e w' ⟨rfl,rfl⟩)
 go_ret;exact ⟨rfl,rfl⟩
theorem Yz (lo hi:Int) (w:World):cE 193 #[.int .i64 lo,.int .i64 hi] w (.bool (Ye lo hi)):=by
 cases h1:inB lo 0 1024
 ·have hp:Ye lo hi=false:=by unfold Ye;rw [h1];rfl
  rw [hp];clear hp;go_enter func193,ntmps193;go_wp2_with (go_at_call 197;refine (Yd _ _).mono ?_;rintro e w' ⟨rfl,rfl⟩)
  go_ret;exact ⟨rfl,rfl⟩
 ·cases h2:inB hi 0 1024
  ·have hp:Ye lo hi=false:=by unfold Ye;rw [h1,h2];rfl
   rw [hp];clear hp;go_enter func193,ntmps193;go_wp2_with (go_at_call 197;refine (Yd _ _).mono ?_;rintro e w' ⟨rfl,rfl⟩)
   go_ret;exact ⟨rfl,rfl⟩
  ·have hp:Ye lo hi=decide (lo<=hi):=by unfold Ye;rw [h1,h2];rfl
   rw [hp];clear hp;by_cases h3:lo<=hi
   all_goals
    go_enter func193,ntmps193;go_wp2_with (go_at_call 197;refine (Yd _ _).mono ?_;rintro e w' ⟨rfl,rfl⟩)
    go_ret;exact ⟨Z5 (by first | (simp;done) | (simp;omega)),rfl⟩
theorem Pe  {ps:List Zs} (h:XF w v ps) :
  cB 132 #[v] w (.bool (Za ps)):=by
 obtain ⟨a,cap,rfl,hc,hm,hr⟩:=h;have Hr:=Z9 hr;clear hr;go_enter func132,ntmps132;go_wp2_with fail
 go_loopw [3] (fun i wr=> ∃ k:Nat,k<=ps.length/\i= .int .i64 k/\TF ps k=true/\Below w.heap.size w wr) (fun i _=>ps.length-(intOf i).toNat)
 case atStart=>exact ⟨0,ZA _,rfl,rfl,Z3 _ _⟩
 case round=>
  obtain ⟨k,hk,rfl,hst,hb⟩:=hrel;have Hst:=Z9 hst;have Hb:=Z9 hb;clear hst;by_cases hlt:k<ps.length
  ·rcases uh Hr with h0 | ⟨b,off,rfl,hbw,hcl⟩
   ·rw [h0] at hlt;simp at hlt
   obtain ⟨c0,c1,c2⟩:=Tt hcl hlt;rw [<-hb.cell (p:=⟨b,off+k*3,none⟩) hbw] at c0;rw [<-hb.cell (p:=⟨b,off+k*3+1,none⟩) hbw] at c1;rw [<-hb.cell (p:=⟨b,off+k*3+2,none⟩) hbw] at c2;generalize hp:Z8 ps k=p at c0 c1 c2;have Hp:=Z9 hp;clear hp;obtain ⟨x0,x1,x2⟩:=p;simp only at c0 c1 c2;clear hcl hb;have hg:Xh (x0,x1,x2) k=(inB x0 (-1) ((k:Int)-1) && Ye x1 x2):=rfl;have Hg:=Z9 hg;clear hg;cases h1:inB x0 (-1) ((k:Int)-1)
   ·go_wp2_with fail
    go_quiet (first | exact Yi (ZV _ _ _ _) | exact Yi (Yz _ _ _));go_wp2_with fail;go_ret;exact ⟨Z5 (OV hlt (by rw [uh Hp,uh Hg,h1];rfl)).symm,Ym (uh Hb) _⟩
   cases h2:Ye x1 x2
   ·go_wp2_with fail
    go_quiet (first | exact Yi (ZV _ _ _ _) | exact Yi (Yz _ _ _));go_wp2_with fail;go_ret;exact ⟨Z5 (OV hlt (by rw [uh Hp,uh Hg,h1,h2];rfl)).symm,Ym (uh Hb) _⟩
   ·go_wp2_with fail
    go_quiet (first | exact Yi (ZV _ _ _ _) | exact Yi (Yz _ _ _));go_wp2_with fail;go_roundw
    case rel=>exact ⟨k+1,by omega,by go_num,by rw [Qj,uh Hst,uh Hp,uh Hg,h1,h2];rfl,Ym (uh Hb) _⟩
    case measure=>exact ms
  ·obtain rfl:k=ps.length:=by omega
   by_cases hbig:ps.length<=6
   all_goals
    go_wp2_with fail;go_ret;exact ⟨Z5 (by unfold Za;rw [uh Hst];simp;omega),hb⟩
theorem On {ps:List Zs} (g:Int) (lo hi:Int)  (h:XF w v ps)
  (hB:cB 202 #[v,.int .i64 g] w (.tuple #[.int .i64 (bnd ps g).1,.int .i64 (bnd ps g).2])) :
  cB 143 #[v,.int .i64 g,.int .i64 lo,.int .i64 hi] w (.tuple #[.int .i64 (Uy (bnd ps g) lo hi).1,.int .i64 (Uy (bnd ps g) lo hi).2]):=by
 have HB:=Z9 hB;clear hB;obtain ⟨a,cap,rfl,_⟩:=h;unfold Uy;go_enter func143,ntmps143;go_wp2_with fail;refine ck (uh HB) fun w1 hb1=> ?_;go_wp2_with (go_at_call 144;refine (RS _ _ _ _).mono ?_;rintro e w' ⟨rfl,rfl⟩)
 go_ret2
 exact ⟨rfl,hb1⟩
theorem Jg {ps:List Zs} (hg:Za ps=true):∀ (n:Nat) (g:Int) {w:World} {v:Value},XF w v ps-> -1<=g->g<n->g<ps.length->
  cB 202 #[v,.int .i64 g] w (.tuple #[.int .i64 (bnd ps g).1,.int .i64 (bnd ps g).2]):=by
 intro n
 induction n with
 | zero=>
  intro g w v h h0 h1 h2;obtain rfl:g= -1:=by omega
  rw [Pq ps (by omega)];obtain ⟨a,cap,rfl,_⟩:=h;go_enter func202,ntmps202;go_wp2_with fail
  go_ret2
  exact ⟨rfl,Z3 _ _⟩
 | succ n ih=>
  intro g w v h h0 h1 h2;by_cases hg0:g<0
  ·obtain rfl:g= -1:=by omega
   rw [Pq ps (by omega)];obtain ⟨a,cap,rfl,_⟩:=h;go_enter func202,ntmps202;go_wp2_with fail
   go_ret2
   exact ⟨rfl,Z3 _ _⟩
  ·obtain ⟨k,rfl⟩:∃ k:Nat,g=k:=⟨g.toNat,by omega⟩
   have hlt:k<ps.length:=by omega
   obtain ⟨a0,a1,_⟩:=Sh hg (g:=(k:Int)) (by omega) h2;have hs:=FJ hg (g:=(k:Int)) (by omega) h2;rw [show ((k:Int)).toNat=k by omega] at a0 a1 hs;rw [hs];clear hs;have Hi:=Z9 h;obtain ⟨a,cap,rfl,hc,hm,hr⟩:=h
   rcases hr with hz | ⟨b,off,rfl,hbw,hcl⟩
   ·rw [hz] at hlt;simp at hlt
   obtain ⟨c0,c1,c2⟩:=Tt hcl hlt;clear hcl;generalize hp:Z8 ps k=p at *;obtain ⟨x0,x1,x2⟩:=p;simp only at c0 c1 c2 a0 a1;have k0:=ZX c0;have k1:=ZX c1;have k2:=ZX c2;have ih':=fun (w':World) (h:XF w' (.slice (some ⟨b,off,none⟩) ps.length cap) ps)=>On x0 x1 x2 h (ih x0 h a0 (by omega) (by omega));have Ih:=Z9 ih';clear ih ih' hp;go_enter func202,ntmps202;go_wp2_with fail;refine wq ?_
   repeat (go_big_quiet_step (exact ZZ (uh Ih _ ((uh Hi).below (Z1 _ _ _)))))
   refine wpQuiet_nil ?_;intro _ hw';obtain ⟨⟨dq,osq⟩,hw''⟩:=hw';subst hw'';go_wp2_with fail
   go_ret2
   exact ⟨rfl,Z1 _ _ _⟩
open Go.ChangeShapes Go.WideShapes Go.ChangeAt Go.RowKit Go.Sort
def YN (x:Z2):Bool:=
 inB x.1 1 3 && (inB x.2.1 0 7 && (inB x.2.2.1 (-5) 5 && (inB x.2.2.2.1 1 255 && (inB x.2.2.2.2.1 (-1) 5 && (Ye x.2.2.2.2.2.1 x.2.2.2.2.2.2.1 && (inB x.2.2.2.2.2.2.2.1 (-1000000000000) 1000000000000 &&
  (inB x.2.2.2.2.2.2.2.2.1 0 (Zb x.2.2.1-1) && (inB x.2.2.2.2.2.2.2.2.2.1 0 1024 && inB x.2.2.2.2.2.2.2.2.2.2 0 100000000000))))))))
def Tf:Z2:=(0,0,0,0,0,0,0,0,0,0,0)
def Ta (x y:Z2):Bool:=x.1 ==y.1 && (x.2.1 ==y.2.1 && (x.2.2.1 ==y.2.2.1 && (x.2.2.2.1 ==y.2.2.2.1 && (x.2.2.2.2.1 ==y.2.2.2.2.1 && (x.2.2.2.2.2.1 ==y.2.2.2.2.2.1 && (x.2.2.2.2.2.2.1 ==y.2.2.2.2.2.2.1 && (x.2.2.2.2.2.2.2.1 ==y.2.2.2.2.2.2.2.1 && (x.2.2.2.2.2.2.2.2.1 ==y.2.2.2.2.2.2.2.2.1 && (x.2.2.2.2.2.2.2.2.2.1 ==y.2.2.2.2.2.2.2.2.2.1 && (x.2.2.2.2.2.2.2.2.2.2 ==y.2.2.2.2.2.2.2.2.2.2))))))))))
theorem ER (x:Z2):Ta x x=true:=by unfold Ta;simp
theorem AX {x y:Z2} (h:Ta x y=true):x=y:=by
 obtain ⟨x0,x1,x2,x3,x4,x5,x6,x7,x8,x9,x10⟩:=x;obtain ⟨y0,y1,y2,y3,y4,y5,y6,y7,y8,y9,y10⟩:=y;unfold Ta at h;simp only [ZO,beq_iff_eq] at h;obtain ⟨rfl,rfl,rfl,rfl,rfl,rfl,rfl,rfl,rfl,rfl,rfl⟩:=h;rfl
def US (x:Z2):Bool:=Ta x Tf
def Zm (x:Z2):Bool:=US x || YN x
theorem Te (r:Int):0<=Zb r/\Zb r<=3125:=by
 cases h:inB r (-5) 5
 ·rw [VG h];omega
 ·rcases AR h with rfl | rfl | rfl | rfl | rfl | rfl | rfl | rfl | rfl | rfl | rfl<;>decide
theorem Vq {r:Int} (h:inB r (-5) 5=true):335<=Zb r:=by
 rcases AR h with rfl | rfl | rfl | rfl | rfl | rfl | rfl | rfl | rfl | rfl | rfl<;>decide
theorem IF (r:Int):(Zb r !=0)=inB r (-5) 5:=by
 cases h:inB r (-5) 5
 ·rw [VG h];rfl
 ·have:=Vq h
  simp;omega
theorem Y2 {st be rk my gu lo hi hd ca ut wk:Int} (h:YN (st,be,rk,my,gu,lo,hi,hd,ca,ut,wk)=true):(1<=st/\st<=3)/\(0<=be/\be<=7)/\inB rk (-5) 5=true/\(1<=my/\my<=255)/\(-1<=gu/\gu<=5)/\Ye lo hi=true/\(-1000000000000<=hd/\hd<=1000000000000)/\(0<=ca/\ca<=Zb rk-1)/\(0<=ut/\ut<=1024)/\(0<=wk/\wk<=100000000000):=by
 unfold YN at h;simp only [ZO] at h;obtain ⟨h0,h1,h2,h3,h4,h5,h6,h7,h8,h9⟩:=h;exact ⟨ZN h0,ZN h1,h2,ZN h3,ZN h4,h5,ZN h6,ZN h7,ZN h8,ZN h9⟩
theorem UT {x:Z2} (h:US x=true):x=Tf:=AX h
theorem D9:US Tf=true:=ER _
theorem Q9 {x:Z2} (h:x.1 ≠ 0):US x=false:=by
 cases hg:US x
 ·rfl
 ·exact absurd (show x.1=0 by rw [UT hg];rfl) h
theorem MD {x:Z2} (h:x.1=0):YN x=false:=by
 unfold YN;rw [h];rfl
def ME (x:Z2) (work:Int):Z2:=
 (x.1,x.2.1,x.2.2.1,x.2.2.2.1,x.2.2.2.2.1,x.2.2.2.2.2.1,x.2.2.2.2.2.2.1,x.2.2.2.2.2.2.2.1+SC work (Zb x.2.2.1) x.2.2.2.2.2.2.2.2.1,SA work (Zb x.2.2.1) x.2.2.2.2.2.2.2.2.1,x.2.2.2.2.2.2.2.2.2.1,x.2.2.2.2.2.2.2.2.2.2+work)
def MG (x:Z2) (rank:Int):Z2:=
 (x.1,x.2.1,rank,x.2.2.2.1,x.2.2.2.2.1,x.2.2.2.2.2.1,x.2.2.2.2.2.2.1,x.2.2.2.2.2.2.2.1,x.2.2.2.2.2.2.2.2.1%Zb rank,x.2.2.2.2.2.2.2.2.2.1,x.2.2.2.2.2.2.2.2.2.2)
def WC (x:Z2) (work:Int):Z2 × Bool:=
 if YN x then (if inB work 0 100000 && YN (ME x work) then (ME x work,true) else (x,false)) else (if US x then x else Tf,false)
def XM (x:Z2) (rank:Int):Z2 × Bool:=
 if YN x then (if inB rank (-5) 5 then (MG x rank,true) else (x,false)) else (if US x then x else Tf,false)
theorem PI {x:Z2} {rank:Int} (h:YN x=true) (hr:inB rank (-5) 5=true):YN (MG x rank)=true:=by
 obtain ⟨st,be,rk,my,gu,lo,hi,hd,ca,ut,wk⟩:=x;have hp:=Vq hr;have hc:inB (ca%Zb rank) 0 (Zb rank-1)=true:=Zn (Int.emod_nonneg _ (by omega)) (by have:=Int.emod_lt_of_pos ca (show 0<Zb rank by omega);omega);unfold YN at h ⊢;simp only [ZO] at h;obtain ⟨h0,h1,h2,h3,h4,h5,h6,h7,h8,h9⟩:=h;simp only [MG,h0,h1,h3,h4,h5,h6,h8,h9,hr,hc,Bool.and_self]
theorem A4 {work W ca:Int} (w0:0<=work) (w1:work<=100000) (r0:335<=W) (r1:W<=3125) (c0:0<=ca) (c1:ca<=W-1) :
  Wb work W ca=true/\0<=SC work W ca/\SC work W ca<=400000/\0<=SA work W ca/\SA work W ca<=W-1/\SC work W ca*W+SA work W ca=1024*work+ca:=by
 have hk:Wb work W ca=true:=ED w0 (by omega) (by omega) (by omega) c0 (by omega);obtain ⟨e1,e2⟩:=Kn hk;rw [e1,e2];have hd:=Int.emod_add_mul_ediv (1024*work+ca) W;have m0:=Int.emod_nonneg (1024*work+ca) (show W ≠ 0 by omega);have m1:=Int.emod_lt_of_pos (1024*work+ca) (show 0<W by omega);have q0:0<=(1024*work+ca) / W:=Int.ediv_nonneg (by omega) (by omega)
 have q1:(1024*work+ca) / W<=400000:=by
  refine Int.le_of_lt_add_one (Int.ediv_lt_of_lt_mul (by omega) ?_);have:(335:Int)*400001<=W*400001:=Int.mul_le_mul_of_nonneg_right r0 (by omega);have e:(400000+1)*W=W*400001:=by rw [Int.mul_comm];rfl
  rw [e];omega
 refine ⟨hk,q0,q1,m0,by omega,?_⟩;rw [Int.mul_comm];omega
theorem zB {ps:List Z4} {k:Nat} {p:Z4} (hp:Z7 ps k=p) (h:LP p=false):Vs ps k=false:=by unfold Vs;rw [hp];simp [h]
theorem zC {ps:List Z4} {k:Nat} {p q:Z4} (hz:0<k) (hp:Z7 ps k=p) (hq:Z7 ps (k-1)=q) (h:ltB q p=false):Vs ps k=false:=by unfold Vs;rw [hp,hq];simp [h];omega
theorem zD {ps:List Z4} {k:Nat} {f z:Int} (hp:Z7 ps k=(f,z)) (h:0<=Vw (ps.take k) z):Vs ps k=false:=by unfold Vs;rw [hp];simp;intros;exact h
theorem zE {ps:List Z4} {k:Nat} {f z:Int} {q:Z4} (hz:0<k) (hp:Z7 ps k=(f,z)) (hq:Z7 ps (k-1)=q) (h1:LP (f,z)=true) (h2:ltB q (f,z)=true) (h:Vw (ps.take k) z<0):Vs ps k=true:=by unfold Vs;rw [hp,hq];simp [h1,h2,h]
theorem zA {ps:List Z4} {p:Z4} (hp:Z7 ps 0=p) (h:LP p=true):Vs ps 0=true:=by unfold Vs;rw [hp];simp [h,Vw]
theorem S8  {ps:List Z4} {who F:Int} (hF:Vw ps who=F) (h:IsPaces w v ps) :
  cB 263 #[v,.int .i64 who] w (.int .i64 F):=by
 subst hF;exact GZ who h
theorem XU  {ps:List Z4} (h:IsPaces w v ps) :
  cB 224 #[v] w (.bool (Yh ps)):=by
 have Hr2:=Z9 h;obtain ⟨a,cap,rfl,hc,hm,hr⟩:=h;have Hr:=Z9 hr;clear hr;by_cases hbig:100<ps.length
 ·go_enter func224,ntmps224
  go_wp2_with fail;go_ret;exact ⟨Z5 (EK hbig).symm,Z3 _ _⟩
 go_enter func224,ntmps224;go_wp2_with fail
 go_loopw [10] (fun i wr=> ∃ k:Nat,k<=ps.length/\i= .int .i64 k/\(∀ j,j<k->Vs ps j=true)/\Below w.heap.size w wr) (fun i _=>ps.length-(intOf i).toNat)
 case atStart=>exact ⟨0,ZA _,rfl,fun j hj=>by omega,Z3 _ _⟩
 case round=>
  obtain ⟨k,hk,rfl,hst,hb⟩:=hrel;have Hst:=Z9 hst;have Hb:=Z9 hb;clear hst;by_cases hlt:k<ps.length
  ·rcases uh Hr with h0 | ⟨b,off,rfl,hbw,hcl⟩
   ·rw [h0] at hlt;simp at hlt
   have hbr:b<wr.heap.size:=Y0 hbw hb.size;have hne:b ≠ wr.heap.size:=VH hbr;obtain ⟨c0,c1⟩:=hcl k hlt;rw [<-hb.cell (p:=⟨b,off+k*2,none⟩) hbw] at c0;rw [<-hb.cell (p:=⟨b,off+k*2+1,none⟩) hbw] at c1;generalize hp:Z7 ps k=p at c0 c1;have Hp:=Z9 hp;clear hp;obtain ⟨f,z⟩:=p;simp only at c0 c1;have Hip:=Z9 ((((uh Hr2).below hb).cut (n:=k) (by omega)).below ((Z3 _ _).alloc (Z0 _) (.cells #[.int .i64 f,.int .i64 z] 78)));have d0:(wr.alloc (.cells #[.int .i64 f,.int .i64 z] 78)).cell? ⟨wr.heap.size,0,none⟩=some (.int .i64 f):=by simp
   have d1:(wr.alloc (.cells #[.int .i64 f,.int .i64 z] 78)).cell? ⟨wr.heap.size,1,none⟩=some (.int .i64 z):=by simp
   have k0:=ZX d0;have k1:=ZX d1;clear d0 d1;obtain ⟨F,hF⟩:=ZJ (Vw (ps.take k) z);have hFb:=zV (ps.take k) z;rw [hF] at hFb;have HF:=Z9 hF;clear hF;cases hpb:LP (f,z)
   ·clear hcl
    go_wp2_with fail;refine wq ?_
    repeat (go_big_quiet_step (first | exact ZZ (UX _ _ _) | exact ZZ (Wa _ _ _ _ _) | exact ZZ (S8 (uh HF) ((uh Hip).below (Z1 _ _ _)))))
    refine wpQuiet_nil ?_;intro _ hw';obtain ⟨⟨dq,osq⟩,hw''⟩:=hw';subst hw'';go_wp2_with fail;go_ret;exact ⟨Z5 (MF hlt (zB (uh Hp) hpb)).symm,(uh Hb).trans (((Z3 _ _).alloc (uh Hb).size _).trans ((Z1 _ _ _).mono (by simp;have:=(uh Hb).size;omega)))⟩
   ·by_cases hz:0<k
    ·have hd:decide (0<k)=true:=V0 hz
     obtain ⟨e0,e1⟩:=hcl (k-1) (by omega);rw [<-hb.cell (p:=⟨b,off+(k-1)*2,none⟩) hbw] at e0;rw [<-hb.cell (p:=⟨b,off+(k-1)*2+1,none⟩) hbw] at e1;generalize hq:Z7 ps (k-1)=q at e0 e1;have Hq:=Z9 hq;clear hq;obtain ⟨f',z'⟩:=q;simp only at e0 e1;have m0:=ZX (w:=wr.alloc (.cells #[.int .i64 f,.int .i64 z] 78)) (a:=⟨b,off+(k-1)*2,none⟩) (v:= .int .i64 f') (by rw [World.cell?_alloc_old _ _ _ hne];exact e0);have m1:=ZX (w:=wr.alloc (.cells #[.int .i64 f,.int .i64 z] 78)) (a:=⟨b,off+(k-1)*2+1,none⟩) (v:= .int .i64 z') (by rw [World.cell?_alloc_old _ _ _ hne];exact e1);clear hcl e0 e1;cases hab:ltB (f',z') (f,z)
     ·go_wp2_with fail
      refine wq ?_
      repeat (go_big_quiet_step (first | exact ZZ (UX _ _ _) | exact ZZ (Wa _ _ _ _ _) | exact ZZ (S8 (uh HF) ((uh Hip).below (Z1 _ _ _)))))
      refine wpQuiet_nil ?_;intro _ hw';obtain ⟨⟨dq,osq⟩,hw''⟩:=hw';subst hw'';go_wp2_with fail;go_ret;exact ⟨Z5 (MF hlt (zC hz (uh Hp) (uh Hq) hab)).symm,(uh Hb).trans (((Z3 _ _).alloc (uh Hb).size _).trans ((Z1 _ _ _).mono (by simp;have:=(uh Hb).size;omega)))⟩
     ·by_cases hF0:F= -1
      ·subst hF0
       go_wp2_with fail;refine wq ?_
       repeat (go_big_quiet_step (first | exact ZZ (UX _ _ _) | exact ZZ (Wa _ _ _ _ _) | exact ZZ (S8 (uh HF) ((uh Hip).below (Z1 _ _ _)))))
       refine wpQuiet_nil ?_;intro _ hw';obtain ⟨⟨dq,osq⟩,hw''⟩:=hw';subst hw'';go_wp2_with fail;go_roundw
       case rel=>exact ⟨k+1,by omega,by go_num,Yj (uh Hst) (zE hz (uh Hp) (uh Hq) hpb hab (by rw [uh HF];omega)),(uh Hb).trans (((Z3 _ _).alloc (uh Hb).size _).trans ((Z1 _ _ _).mono (by simp;have:=(uh Hb).size;omega)))⟩
       case measure=>exact ms
      ·have hF1:0<=F:=by omega
       have hF2:(F == -1)=false:=by simpa using hF0
       have hF3:(F != -1)=true:=by simpa using hF0
       clear hF0;go_wp2_with fail;refine wq ?_
       repeat (go_big_quiet_step (first | exact ZZ (UX _ _ _) | exact ZZ (Wa _ _ _ _ _) | exact ZZ (S8 (uh HF) ((uh Hip).below (Z1 _ _ _)))))
       refine wpQuiet_nil ?_;intro _ hw';obtain ⟨⟨dq,osq⟩,hw''⟩:=hw';subst hw'';go_wp2_with fail;go_ret;exact ⟨Z5 (MF hlt (zD (uh Hp) (by rw [uh HF];exact hF1))).symm,(uh Hb).trans (((Z3 _ _).alloc (uh Hb).size _).trans ((Z1 _ _ _).mono (by simp;have:=(uh Hb).size;omega)))⟩
    ·obtain rfl:k=0:=by omega
     obtain rfl:F= -1:=by simp at hFb;omega
     simp only [Nat.zero_mul,Nat.add_zero] at c0 c1 k0 k1;clear hcl hz;go_wp2_with fail;refine wq ?_
     repeat (go_big_quiet_step (first | exact ZZ (UX _ _ _) | exact ZZ (Wa _ _ _ _ _) | exact ZZ (S8 (uh HF) ((uh Hip).below (Z1 _ _ _)))))
     refine wpQuiet_nil ?_;intro _ hw';obtain ⟨⟨dq,osq⟩,hw''⟩:=hw';subst hw'';go_wp2_with fail;go_roundw
     case rel=>exact ⟨1,by omega,by go_num,Yj (uh Hst) (zA (uh Hp) hpb),(uh Hb).trans (((Z3 _ _).alloc (uh Hb).size _).trans ((Z1 _ _ _).mono (by simp;have:=(uh Hb).size;omega)))⟩
     case measure=>exact ms
  ·obtain rfl:k=ps.length:=by omega
   go_wp2_with fail;go_ret;exact ⟨Z5 (G9 (by omega) (uh Hst)).symm,hb⟩
open Draw (St Off Row Cur)
theorem Xn {a:Option Addr} {len cap bc:Nat} (h:St a len cap bc w) (hb:Below (bc+1) w w'):St a len cap bc w':=by
 obtain ⟨⟨hlt,i,x,h0,h1,c0,c1,c2,f1,f2⟩,hr⟩:=h;have hc:∀ o,w'.cell? ⟨bc,o,none⟩=w.cell? ⟨bc,o,none⟩:=fun o=>hb.cell (p:=⟨bc,o,none⟩) (Nat.lt_succ_self bc);have hf:∀ o,w'.frozen? ⟨bc,o,none⟩=w.frozen? ⟨bc,o,none⟩:=fun o=>hb.frozen (p:=⟨bc,o,none⟩) (Nat.lt_succ_self bc);refine ⟨⟨Y0 hlt hb.size,i,x,h0,h1,(hc 0).trans c0,(hc 1).trans c1,(hc 2).trans c2,(hf 1).trans f1,(hf 2).trans f2⟩,Draw.row_below hr (hb.mono (Nat.le_succ bc))⟩
theorem WI {a:Option Addr} {len cap bc:Nat} (h:St a len cap bc w):bc<w.heap.size:=h.cur.1
theorem SY {bc:Nat} {a b c:World} (h:Off bc a b) (k:Below a.heap.size b c):Off bc a c:=
 ⟨k.os.trans h.os,k.tape.trans h.tape,k.output.trans h.output,Xv h.size k.size,fun i hi hn=>(k.block i hi).trans (h.block i hi hn)⟩
theorem U0 {bc:Nat} (h:Off bc w.drew w'):Off bc w w':=⟨h.os,h.tape,h.output,h.size,h.block⟩
theorem Vc {a:Option Addr} {len cap bc:Nat} (h:St a len cap bc w):St a len cap bc w.drew:=⟨h.cur,h.row⟩
theorem Kd {bc:Nat} {cs:Array Value} {t:TypeId} {j:Int} (p:Off bc (w.alloc (.cells cs t)) w') (hb:bc<w.heap.size) (h0:0<=j) (h1:j<cs.size) (hz:cs.toList.all Draw.isI64=true):∃ v,w'.cell? ⟨w.heap.size,j.toNat,none⟩=some (.int .i64 v):=by
 obtain ⟨v,hv⟩:=Draw.pick_any cs j.toNat (by omega) hz;exact ⟨v,by rw [p.cell (p:=⟨w.heap.size,j.toNat,none⟩) (by simp) (by simp;omega),World.cell?_alloc_at _ _ _ _ rfl];exact hv⟩
theorem QF {ps:List Z4} (h:(Yh ps && decide (0<ps.length))=false):Se ps=((0,0),false):=by unfold Se;rw [h];rfl
theorem LU {ps:List Z4} (h:Yh ps=true) (hl:0<ps.length):Se ps=(Z7 ps 0,true):=by unfold Se;rw [h,decide_eq_true hl];rfl
theorem NN  {ps:List Z4} (h:IsPaces w v ps) :
  cB 172 #[v] w (.tuple #[.agg #[.int .i64 (Se ps).1.1,.int .i64 (Se ps).1.2],.bool (Se ps).2]):=by
 have Hv:=Z9 h;obtain ⟨a,cap,rfl,hc,hm,hr⟩:=h;cases hq:Yh ps
 ·rw [QF (by rw [hq];rfl)]
  clear hr;go_enter func172,ntmps172;go_wp2_with fail;refine (XU ((uh Hv).below ((ba _ _)))).mono ?_;rw [hq];rintro e w1 ⟨rfl,hb⟩;have Hb:=Z9 hb;have hsz:=hb.size;simp at hsz;obtain ⟨k1,k2⟩:=Ls hb;clear hb;go_wp2_with fail;exact Zz (v:= .tuple #[.agg #[.int .i64 0,.int .i64 0],.bool false]) (by simp [results,results172,go_sem,k1]) rfl ⟨rfl,((((ba _ _)).trans ((uh Hb).mono (by simp))).setCell (by simp) _).setCell (by simp) _⟩
 ·rcases hr with hr | ⟨b,off,rfl,hbw,hcl⟩
  ·subst hr
   rw [QF (by simp)];go_enter func172,ntmps172;go_wp2_with fail;refine (XU ((uh Hv).below ((ba _ _)))).mono ?_;rw [hq];rintro e w1 ⟨rfl,hb⟩;have Hb:=Z9 hb;have hsz:=hb.size;simp at hsz;obtain ⟨k1,k2⟩:=Ls hb;clear hb;go_wp2_with fail;exact Zz (v:= .tuple #[.agg #[.int .i64 0,.int .i64 0],.bool false]) (by simp [results,results172,go_sem,k1]) rfl ⟨rfl,((((ba _ _)).trans ((uh Hb).mono (by simp))).setCell (by simp) _).setCell (by simp) _⟩
  ·by_cases hl:0<ps.length
   ·rw [LU hq hl]
    obtain ⟨c0,c1⟩:=hcl 0 hl;simp only [Nat.zero_mul,Nat.add_zero] at c0 c1;generalize Z7 ps 0=p at *;obtain ⟨f,z⟩:=p;simp only at c0 c1;have hl2:(ps.length ==0)=false:=beq_eq_false_iff_ne.2 (by omega);have hl3:((ps.length:Int) ==0)=false:=beq_eq_false_iff_ne.2 (by omega);have hne:b ≠ w.heap.size:=VH hbw;clear hcl;go_enter func172,ntmps172;go_wp2_with fail;refine (XU ((uh Hv).below ((ba _ _)))).mono ?_;rw [hq];rintro e w1 ⟨rfl,hb⟩;have Hb:=Z9 hb;have hsz:=hb.size;simp at hsz;have c0':=(hb.cell (p:=⟨b,off,none⟩) (by simp;omega)).trans ((World.cell?_alloc_old _ _ _ hne).trans c0);have c1':=(hb.cell (p:=⟨b,off+1,none⟩) (by simp;omega)).trans ((World.cell?_alloc_old _ _ _ hne).trans c1);obtain ⟨k1,k2⟩:=Ls hb;clear hb c0 c1;go_wp2_with fail;exact Zz (v:= .tuple #[.agg #[.int .i64 f,.int .i64 z],.bool true]) (by simp [results,results172,go_sem,k1]) rfl ⟨rfl,((((ba _ _)).trans ((uh Hb).mono (by simp))).setCell (by simp) _).setCell (by simp) _⟩
   ·obtain rfl:ps=[]:=List.eq_nil_of_length_eq_zero (by omega)
    rw [QF (by simp)];clear hcl;go_enter func172,ntmps172;go_wp2_with fail;refine (XU ((uh Hv).below ((ba _ _)))).mono ?_;rw [hq];rintro e w1 ⟨rfl,hb⟩;have Hb:=Z9 hb;have hsz:=hb.size;simp at hsz;obtain ⟨k1,k2⟩:=Ls hb;clear hb;go_wp2_with fail;exact Zz (v:= .tuple #[.agg #[.int .i64 0,.int .i64 0],.bool false]) (by simp [results,results172,go_sem,k1]) rfl ⟨rfl,((((ba _ _)).trans ((uh Hb).mono (by simp))).setCell (by simp) _).setCell (by simp) _⟩
end Go.Proofs.YtgdpaigcmoifbaaGreat
