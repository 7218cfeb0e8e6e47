/- Part 9 of what the proof rests on. No condition but those that a theorem names. -/
import Derived.Test.YtlcpgkakdieeaaaGreatXk02
import Derived.Test.YtlcpgkakdieeaaaGreatXk03
import Derived.Test.YtlcpgkakdieeaaaGreatXk04
import Derived.Lib.ItoaNum
import Derived.Lib.ItoaLen
import Derived.Lib.AtoiTie
import Derived.Lib.ParseIntBTie
import Derived.Lib.SplitLaws
import Derived.Lib.Join
set_option maxHeartbeats 8000000
set_option maxRecDepth 100000
namespace Go.Proofs.YtlcpgkakdieeaaaGreat
open Go.ChangeShapes Go.WideShapes Go.ChangeAt Go.RowKit Go.Sort Go.Proofs.Tryz
set_option linter.unusedVariables false
variable {w w' w0 w1 w2 w3 w₀ wr W W' X A B C : World} {v v0 v1 v2 v3 v4 u u0 u1 u2 u3 u4 : Value}
theorem YC {B:Nat} (h:Below B w w') (n:Nat):Below B w (w'.drewN n):=⟨h.os,h.tape,h.output,h.size,h.block⟩
theorem Yr (x:Int) (w:World):cE 126 #[.int .i64 x] w (.bool (inB x 0 1024)):=by
 go_enter func126,ntmps126;go_wp2_with (go_at_call 64;refine (ZV _ _ _ _).mono ?_;rintro e w' ⟨rfl,rfl⟩)
 go_ret;exact ⟨rfl,rfl⟩
theorem YQ (lo hi:Int) (w:World):cE 123 #[.int .i64 lo,.int .i64 hi] w (.bool (Ys lo hi)):=by
 cases h1:inB lo 0 1024
 ·have hp:Ys lo hi=false:=by unfold Ys;rw [h1];rfl
  rw [hp];clear hp;go_enter func123,ntmps123;go_wp2_with (go_at_call 126;refine (Yr _ _).mono ?_;rintro e w' ⟨rfl,rfl⟩)
  go_ret;exact ⟨rfl,rfl⟩
 ·cases h2:inB hi 0 1024
  ·have hp:Ys lo hi=false:=by unfold Ys;rw [h1,h2];rfl
   rw [hp];clear hp;go_enter func123,ntmps123;go_wp2_with (go_at_call 126;refine (Yr _ _).mono ?_;rintro e w' ⟨rfl,rfl⟩)
   go_ret;exact ⟨rfl,rfl⟩
  ·have hp:Ys lo hi=decide (lo<=hi):=by unfold Ys;rw [h1,h2];rfl
   rw [hp];clear hp;by_cases h3:lo<=hi
   all_goals
    go_enter func123,ntmps123;go_wp2_with (go_at_call 126;refine (Yr _ _).mono ?_;rintro e w' ⟨rfl,rfl⟩)
    go_ret;exact ⟨Z5 (by first | (simp;done) | (simp;omega)),rfl⟩
theorem Qp  {ps:List Zv} (h:X8 w v ps) :
  cB 89 #[v] w (.bool (Zl ps)):=by
 obtain ⟨a,cap,rfl,hc,hm,hr⟩:=h;have Hr:=Z9 hr;clear hr;go_enter func89,ntmps89;go_wp2_with fail
 go_loopw [3] (fun i wr=> ∃ k:Nat,k<=ps.length/\i= .int .i64 k/\Uv ps k=true/\Below w.heap.size w wr) (fun i _=>ps.length-(intOf i).toNat)
 case atStart=>exact ⟨0,ZC _,rfl,rfl,ZZ _ _⟩
 case round=>
  obtain ⟨k,hk,rfl,hst,hb⟩:=hrel;have Hst:=Z9 hst;have Hb:=Z9 hb;clear hst;by_cases hlt:k<ps.length
  ·rcases uh Hr with h0 | ⟨b,off,rfl,hbw,hcl⟩
   ·rw [h0] at hlt;simp at hlt
   obtain ⟨c0,c1,c2⟩:=Wf hcl hlt;rw [<-hb.cell (p:=⟨b,off+k*3,none⟩) hbw] at c0;rw [<-hb.cell (p:=⟨b,off+k*3+1,none⟩) hbw] at c1;rw [<-hb.cell (p:=⟨b,off+k*3+2,none⟩) hbw] at c2;generalize hp:Z8 ps k=p at c0 c1 c2;have Hp:=Z9 hp;clear hp;obtain ⟨x0,x1,x2⟩:=p;simp only at c0 c1 c2;clear hcl hb;have hg:XA (x0,x1,x2) k=(inB x0 (-1) ((k:Int)-1) && Ys x1 x2):=rfl;have Hg:=Z9 hg;clear hg;cases h1:inB x0 (-1) ((k:Int)-1)
   ·go_wp2_with fail
    go_quiet (first | exact Yw (ZV _ _ _ _) | exact Yw (YQ _ _ _));go_wp2_with fail;go_ret;exact ⟨Z5 (P6 hlt (by rw [uh Hp,uh Hg,h1];rfl)).symm,YC (uh Hb) _⟩
   cases h2:Ys x1 x2
   ·go_wp2_with fail
    go_quiet (first | exact Yw (ZV _ _ _ _) | exact Yw (YQ _ _ _));go_wp2_with fail;go_ret;exact ⟨Z5 (P6 hlt (by rw [uh Hp,uh Hg,h1,h2];rfl)).symm,YC (uh Hb) _⟩
   ·go_wp2_with fail
    go_quiet (first | exact Yw (ZV _ _ _ _) | exact Yw (YQ _ _ _));go_wp2_with fail;go_roundw
    case rel=>exact ⟨k+1,by omega,by go_num,by rw [Rw,uh Hst,uh Hp,uh Hg,h1,h2];rfl,YC (uh Hb) _⟩
    case measure=>exact ms
  ·obtain rfl:k=ps.length:=by omega
   by_cases hbig:ps.length<=6
   all_goals
    go_wp2_with fail;go_ret;exact ⟨Z5 (by unfold Zl;rw [uh Hst];simp;omega),hb⟩
theorem PE {ps:List Zv} (g:Int) (lo hi:Int)  (h:X8 w v ps)
  (hB:cB 122 #[v,.int .i64 g] w (.tuple #[.int .i64 (bnd ps g).1,.int .i64 (bnd ps g).2])) :
  cB 85 #[v,.int .i64 g,.int .i64 lo,.int .i64 hi] w (.tuple #[.int .i64 (U6 (bnd ps g) lo hi).1,.int .i64 (U6 (bnd ps g) lo hi).2]):=by
 have HB:=Z9 hB;clear hB;obtain ⟨a,cap,rfl,_⟩:=h;unfold U6;go_enter func85,ntmps85;go_wp2_with fail;refine ck (uh HB) fun w1 hb1=> ?_;go_wp2_with (go_at_call 86;refine (SX _ _ _ _).mono ?_;rintro e w' ⟨rfl,rfl⟩)
 go_ret2
 exact ⟨rfl,hb1⟩
theorem KS {ps:List Zv} (hg:Zl ps=true):∀ (n:Nat) (g:Int) {w:World} {v:Value},X8 w v ps-> -1<=g->g<n->g<ps.length->
  cB 122 #[v,.int .i64 g] w (.tuple #[.int .i64 (bnd ps g).1,.int .i64 (bnd ps g).2]):=by
 intro n
 induction n with
 | zero=>
  intro g w v h h0 h1 h2;obtain rfl:g= -1:=by omega
  rw [Qy ps (by omega)];obtain ⟨a,cap,rfl,_⟩:=h;go_enter func122,ntmps122;go_wp2_with fail
  go_ret2
  exact ⟨rfl,ZZ _ _⟩
 | succ n ih=>
  intro g w v h h0 h1 h2;by_cases hg0:g<0
  ·obtain rfl:g= -1:=by omega
   rw [Qy ps (by omega)];obtain ⟨a,cap,rfl,_⟩:=h;go_enter func122,ntmps122;go_wp2_with fail
   go_ret2
   exact ⟨rfl,ZZ _ _⟩
  ·obtain ⟨k,rfl⟩:∃ k:Nat,g=k:=⟨g.toNat,by omega⟩
   have hlt:k<ps.length:=by omega
   obtain ⟨a0,a1,_⟩:=Tf hg (g:=(k:Int)) (by omega) h2;have hs:=Iz hg (g:=(k:Int)) (by omega) h2;rw [show ((k:Int)).toNat=k by omega] at a0 a1 hs;rw [hs];clear hs;have Hi:=Z9 h;obtain ⟨a,cap,rfl,hc,hm,hr⟩:=h
   rcases hr with hz | ⟨b,off,rfl,hbw,hcl⟩
   ·rw [hz] at hlt;simp at hlt
   obtain ⟨c0,c1,c2⟩:=Wf hcl hlt;clear hcl;generalize hp:Z8 ps k=p at *;obtain ⟨x0,x1,x2⟩:=p;simp only at c0 c1 c2 a0 a1;have k0:=ZY c0;have k1:=ZY c1;have k2:=ZY c2;have ih':=fun (w':World) (h:X8 w' (.slice (some ⟨b,off,none⟩) ps.length cap) ps)=>PE x0 x1 x2 h (ih x0 h a0 (by omega) (by omega));have Ih:=Z9 ih';clear ih ih' hp;go_enter func122,ntmps122;go_wp2_with fail;refine wq ?_
   repeat (go_big_quiet_step (exact ZX (uh Ih _ ((uh Hi).below (Z1 _ _ _)))))
   refine wpQuiet_nil ?_;intro _ hw';obtain ⟨⟨dq,osq⟩,hw''⟩:=hw';subst hw'';go_wp2_with fail
   go_ret2
   exact ⟨rfl,Z1 _ _ _⟩
open Go.ChangeShapes Go.WideShapes Go.ChangeAt Go.RowKit Go.Sort
def YY (x:Z2):Bool:=
 inB x.1 1 3 && (inB x.2.1 0 7 && (inB x.2.2.1 (-5) 5 && (inB x.2.2.2.1 1 255 && (inB x.2.2.2.2.1 (-1) 5 && (Ys x.2.2.2.2.2.1 x.2.2.2.2.2.2.1 && (inB x.2.2.2.2.2.2.2.1 (-1000000000000) 1000000000000 &&
  (inB x.2.2.2.2.2.2.2.2.1 0 (Zm x.2.2.1-1) && (inB x.2.2.2.2.2.2.2.2.2.1 0 1024 && inB x.2.2.2.2.2.2.2.2.2.2 0 100000000000))))))))
def Ub:Z2:=(0,0,0,0,0,0,0,0,0,0,0)
def TU (x y:Z2):Bool:=x.1 ==y.1 && (x.2.1 ==y.2.1 && (x.2.2.1 ==y.2.2.1 && (x.2.2.2.1 ==y.2.2.2.1 && (x.2.2.2.2.1 ==y.2.2.2.2.1 && (x.2.2.2.2.2.1 ==y.2.2.2.2.2.1 && (x.2.2.2.2.2.2.1 ==y.2.2.2.2.2.2.1 && (x.2.2.2.2.2.2.2.1 ==y.2.2.2.2.2.2.2.1 && (x.2.2.2.2.2.2.2.2.1 ==y.2.2.2.2.2.2.2.2.1 && (x.2.2.2.2.2.2.2.2.2.1 ==y.2.2.2.2.2.2.2.2.2.1 && (x.2.2.2.2.2.2.2.2.2.2 ==y.2.2.2.2.2.2.2.2.2.2))))))))))
theorem Oq (x:Z2):TU x x=true:=by unfold TU;simp
theorem Di {x y:Z2} (h:TU x y=true):x=y:=by
 obtain ⟨x0,x1,x2,x3,x4,x5,x6,x7,x8,x9,x10⟩:=x;obtain ⟨y0,y1,y2,y3,y4,y5,y6,y7,y8,y9,y10⟩:=y;unfold TU at h;simp only [ZP,beq_iff_eq] at h;obtain ⟨rfl,rfl,rfl,rfl,rfl,rfl,rfl,rfl,rfl,rfl,rfl⟩:=h;rfl
def Vk (x:Z2):Bool:=TU x Ub
def Zt (x:Z2):Bool:=Vk x || YY x
theorem Ua (r:Int):0<=Zm r/\Zm r<=3125:=by
 cases h:inB r (-5) 5
 ·rw [Wb h];omega
 ·rcases Dd h with rfl | rfl | rfl | rfl | rfl | rfl | rfl | rfl | rfl | rfl | rfl<;>decide
theorem VI {r:Int} (h:inB r (-5) 5=true):335<=Zm r:=by
 rcases Dd h with rfl | rfl | rfl | rfl | rfl | rfl | rfl | rfl | rfl | rfl | rfl<;>decide
theorem Kj (r:Int):(Zm r !=0)=inB r (-5) 5:=by
 cases h:inB r (-5) 5
 ·rw [Wb h];rfl
 ·have:=VI h
  simp;omega
theorem Zd {st be rk my gu lo hi hd ca ut wk:Int} (h:YY (st,be,rk,my,gu,lo,hi,hd,ca,ut,wk)=true):(1<=st/\st<=3)/\(0<=be/\be<=7)/\inB rk (-5) 5=true/\(1<=my/\my<=255)/\(-1<=gu/\gu<=5)/\Ys lo hi=true/\(-1000000000000<=hd/\hd<=1000000000000)/\(0<=ca/\ca<=Zm rk-1)/\(0<=ut/\ut<=1024)/\(0<=wk/\wk<=100000000000):=by
 unfold YY at h;simp only [ZP] at h;obtain ⟨h0,h1,h2,h3,h4,h5,h6,h7,h8,h9⟩:=h;exact ⟨ZN h0,ZN h1,h2,ZN h3,ZN h4,h5,ZN h6,ZN h7,ZN h8,ZN h9⟩
theorem Vl {x:Z2} (h:Vk x=true):x=Ub:=Di h
theorem Ga:Vk Ub=true:=Oq _
theorem Sj {x:Z2} (h:x.1 ≠ 0):Vk x=false:=by
 cases hg:Vk x
 ·rfl
 ·exact absurd (show x.1=0 by rw [Vl hg];rfl) h
theorem Og {x:Z2} (h:x.1=0):YY x=false:=by
 unfold YY;rw [h];rfl
def Oh (x:Z2) (work:Int):Z2:=
 (x.1,x.2.1,x.2.2.1,x.2.2.2.1,x.2.2.2.2.1,x.2.2.2.2.2.1,x.2.2.2.2.2.2.1,x.2.2.2.2.2.2.2.1+Tv work (Zm x.2.2.1) x.2.2.2.2.2.2.2.2.1,Tu work (Zm x.2.2.1) x.2.2.2.2.2.2.2.2.1,x.2.2.2.2.2.2.2.2.2.1,x.2.2.2.2.2.2.2.2.2.2+work)
def Ok (x:Z2) (rank:Int):Z2:=
 (x.1,x.2.1,rank,x.2.2.2.1,x.2.2.2.2.1,x.2.2.2.2.2.1,x.2.2.2.2.2.2.1,x.2.2.2.2.2.2.2.1,x.2.2.2.2.2.2.2.2.1%Zm rank,x.2.2.2.2.2.2.2.2.2.1,x.2.2.2.2.2.2.2.2.2.2)
def Xj (x:Z2) (work:Int):Z2 × Bool:=
 if YY x then (if inB work 0 100000 && YY (Oh x work) then (Oh x work,true) else (x,false)) else (if Vk x then x else Ub,false)
def Yb (x:Z2) (rank:Int):Z2 × Bool:=
 if YY x then (if inB rank (-5) 5 then (Ok x rank,true) else (x,false)) else (if Vk x then x else Ub,false)
theorem QW {x:Z2} {rank:Int} (h:YY x=true) (hr:inB rank (-5) 5=true):YY (Ok x rank)=true:=by
 obtain ⟨st,be,rk,my,gu,lo,hi,hd,ca,ut,wk⟩:=x;have hp:=VI hr;have hc:inB (ca%Zm rank) 0 (Zm rank-1)=true:=Zo (Int.emod_nonneg _ (by omega)) (by have:=Int.emod_lt_of_pos ca (show 0<Zm rank by omega);omega);unfold YY at h ⊢;simp only [ZP] at h;obtain ⟨h0,h1,h2,h3,h4,h5,h6,h7,h8,h9⟩:=h;simp only [Ok,h0,h1,h3,h4,h5,h6,h8,h9,hr,hc,Bool.and_self]
theorem Dp {work W ca:Int} (w0:0<=work) (w1:work<=100000) (r0:335<=W) (r1:W<=3125) (c0:0<=ca) (c1:ca<=W-1) :
  WK work W ca=true/\0<=Tv work W ca/\Tv work W ca<=400000/\0<=Tu work W ca/\Tu work W ca<=W-1/\Tv work W ca*W+Tu work W ca=1024*work+ca:=by
 have hk:WK work W ca=true:=GC w0 (by omega) (by omega) (by omega) c0 (by omega);obtain ⟨e1,e2⟩:=Mh hk;rw [e1,e2];have hd:=Int.emod_add_mul_ediv (1024*work+ca) W;have m0:=Int.emod_nonneg (1024*work+ca) (show W ≠ 0 by omega);have m1:=Int.emod_lt_of_pos (1024*work+ca) (show 0<W by omega);have q0:0<=(1024*work+ca) / W:=Int.ediv_nonneg (by omega) (by omega)
 have q1:(1024*work+ca) / W<=400000:=by
  refine Int.le_of_lt_add_one (Int.ediv_lt_of_lt_mul (by omega) ?_);have:(335:Int)*400001<=W*400001:=Int.mul_le_mul_of_nonneg_right r0 (by omega);have e:(400000+1)*W=W*400001:=by rw [Int.mul_comm];rfl
  rw [e];omega
 refine ⟨hk,q0,q1,m0,by omega,?_⟩;rw [Int.mul_comm];omega
open Go.Lib
abbrev Txt:=List UInt8
def Y0 (c:UInt8) (cur:Txt):Txt->List Txt
 | []=>[cur]
 | x::r=>if x=c then cur::Y0 c [] r else Y0 c (cur++[x]) r
def Y3 (c:UInt8) (l:Txt):List Txt:=Y0 c [] l
theorem Va (c:UInt8) (cur r:Txt):Y0 c cur (c::r)=cur::Y0 c [] r:=by simp [Y0]
theorem Vb {c x:UInt8} (h:x ≠ c) (cur r:Txt):Y0 c cur (x::r)=Y0 c (cur++[x]) r:=by simp [Y0,h]
theorem Xi (c:UInt8):∀ (l cur:Txt),1<=(Y0 c cur l).length/\(Y0 c cur l).length<=l.length+1
 | [],cur=>by simp [Y0]
 | x::r,cur=>by
  by_cases h:x=c
  ·subst h;rw [Va];have:=Xi x r [];simp;omega
  ·rw [Vb h];have:=Xi c r (cur++[x]);simp;omega
theorem Mj (c:UInt8) (l:Txt):Y3 c l ≠ []:=fun h=>by have:=(Xi c l []).1;unfold Y3 at h;rw [h] at this;simp at this
theorem US (c:UInt8):∀ (l cur:Txt),∀ p ∈ Y0 c cur l,p.length<=cur.length+l.length
 | [],cur,p,hp=>by simp [Y0] at hp;subst hp;simp
 | x::r,cur,p,hp=>by
  by_cases h:x=c
  ·subst h;rw [Va] at hp
   rcases List.mem_cons.1 hp with rfl | hp
   ·simp
   ·have:=US x r [] p hp;simp at this ⊢;omega
  ·rw [Vb h] at hp;have:=US c r _ p hp;simp at this ⊢;omega
theorem RD (sep x:Txt) (r:List Txt):joinTail sep (x::r)=sep++x++joinTail sep r:=by simp [joinTail]
theorem UH (c:UInt8):∀ (l cur:Txt),join (Y0 c cur l) [c]=cur++l
 | [],cur=>by simp [Y0,join_one]
 | x::r,cur=>by
  by_cases h:x=c
  ·subst h
   rw [Va,join_cons];have ih:=UH x r [];cases hs:Y0 x [] r with
   | nil=>have:=(Xi x r []).1;rw [hs] at this;simp at this
   | cons p q=>rw [hs,join_cons] at ih;rw [RD];simp at ih ⊢;rw [ih]
  ·rw [Vb h,UH c r];simp
def Yo (l:Txt):Option Int:=
 match l with
 | []=>none
 | c::r=>if c=45 then (if r=[]\/9<r.length\/r.head?=some 48 then none else (decFrom 0 r).map fun n:Nat=> -(n:Int))
  else if 9<(c::r).length\/(c=48/\r ≠ []) then none else (decFrom 0 (c::r)).map fun n:Nat=>(n:Int)
theorem Ju {d:Nat} (h:d<10):(UInt8.ofNat (48+d)).toNat=48+d:=by simp;omega
theorem Nt {b:UInt8} {d:Nat} (h:digitVal b=some d):d<10/\b=UInt8.ofNat (48+d):=by
 obtain ⟨h1,h2,h3⟩:=digitVal_eq h;refine ⟨by omega,?_⟩;apply UInt8.toNat_inj.1;rw [Ju (by omega)];omega
theorem Ns {a d:Nat} (ha:0<a) (hd:d<10):decDigits (a*10+d)=decDigits a++[UInt8.ofNat (48+d)]:=by
 rw [decDigits,dif_neg (by omega),show (a*10+d) / 10=a by omega,show (a*10+d)%10=d by omega]
theorem Sf:∀ (r:Txt) (a n:Nat),0<a->decFrom a r=some n->decDigits n=decDigits a++r/\a<=n
 | [],a,n,_,h=>by simp [decFrom] at h;subst h;simp
 | b::r,a,n,ha,h=>by
  unfold decFrom at h;cases hd:digitVal b with
  | none=>rw [hd] at h;cases h
  | some d=>
   rw [hd] at h;obtain ⟨h1,h2⟩:=Nt hd;have ih:=Sf r (a*10+d) n (by omega) h;rw [ih.1,Ns ha h1,h2];simp;omega
theorem SS {b:UInt8} {r:Txt} {n:Nat} (h:decFrom 0 (b::r)=some n) (hb:b ≠ 48\/r=[]):decDigits n=b::r/\(b ≠ 48->0<n):=by
 unfold decFrom at h;cases hd:digitVal b with
 | none=>rw [hd] at h;cases h
 | some d=>
  rw [hd] at h;obtain ⟨h1,h2⟩:=Nt hd;simp at h;by_cases h0:d=0
  ·subst h0
   have hb48:b=48:=by rw [h2];rfl
   rcases hb with hb | rfl
   ·exact absurd hb48 hb
   ·simp [decFrom] at h;subst h;subst hb48;exact ⟨by rw [decDigits_one (by decide)];rfl,fun h=>absurd rfl h⟩
  ·have:=Sf r d n (by omega) h
   rw [this.1,decDigits_one h1,h2];simp;intro _;omega
theorem Ts {l:Txt} {v:Int} (h:Yo l=some v):l=itoa v/\ -999999999<=v/\v<=999999999:=by
 unfold Yo at h
 split at h
 ·cases h
 ·rename_i c r
  split at h
  ·rename_i hc
   split at h
   ·cases h
   ·rename_i hr
    simp only [not_or] at hr;obtain ⟨n,hn,rfl⟩:=Option.map_eq_some_iff.1 h;cases r with
    | nil=>exact absurd rfl hr.1
    | cons b r=>
     have hb:b ≠ 48:=fun e=>hr.2.2 (by simp [e]);have hw:=SS hn (.inl hb);have hlt:=decFrom_lt _ _ _ hn;have:n<10 ^ 9:=Zf (by simpa using hlt) (Nat.pow_le_pow_right (by decide) (by have:=hr.2.1;simp at this ⊢;omega));have h3:(10:Nat) ^ 9=1000000000:=by decide
     have hp:=hw.2 hb;refine ⟨?_,by omega,by omega⟩;unfold itoa;rw [if_pos (by omega),show (-(n:Int)).natAbs=n by omega,hw.1,hc]
  ·rename_i hc
   split at h
   ·cases h
   ·rename_i hr
    simp only [not_or] at hr;obtain ⟨n,hn,rfl⟩:=Option.map_eq_some_iff.1 h
    have hb:c ≠ 48\/r=[]:=by
     by_cases e:c=48
     ·exact .inr (Classical.byContradiction fun hne=>hr.2 ⟨e,hne⟩)
     ·exact .inl e
    have hw:=SS hn hb;have hlt:=decFrom_lt _ _ _ hn;have:n<10 ^ 9:=Zf (by simpa using hlt) (Nat.pow_le_pow_right (by decide) (by have:=hr.1;simp at this ⊢;omega));have h3:(10:Nat) ^ 9=1000000000:=by decide
    refine ⟨?_,by omega,by omega⟩;unfold itoa;rw [if_neg (by omega),show ((n:Int)).toNat=n by omega,hw.1]
def YB (l:Txt):Option Z4:=
 match Y3 58 l with
 | [a,b]=>(Yo a).bind fun f=>(Yo b).bind fun k=>some (f,k)
 | _=>none
def YT (l:Txt):Option ZW:=
 match Y3 32 l with
 | []=>none
 | a::ws=>(Yo a).bind fun n=>(ws.mapM YB).bind fun ps=>some (n,ps)
def YI (l:Txt):Option (List ZW):=((Y3 47 l).mapM YT).bind fun rs=>if Y1 rs=true then some rs else none
def QY (p:Z4):Txt:=itoa p.1++58::itoa p.2
def QZ (r:ZW):Txt:=join (itoa r.1::r.2.map QY) [32]
def J0 (rs:List ZW):Txt:=if Y1 rs=true then join (rs.map QZ) [47] else []
theorem MO {l:Txt} {p:Z4} (h:YB l=some p):QY p=l:=by
 unfold YB at h
 split at h
 ·rename_i a b hs
  obtain ⟨f,hf,h⟩:=Option.bind_eq_some_iff.1 h;obtain ⟨k,hk,h⟩:=Option.bind_eq_some_iff.1 h;cases h;have hj:=UH 58 l [];unfold Y3 at hs;rw [hs,join_cons,RD] at hj;unfold QY;rw [<-(Ts hf).1,<-(Ts hk).1];simpa [joinTail] using hj
 ·cases h
theorem Qa {α β:Type} {f:α->Option β} {g:β->α} : ∀ (l:List α) (ps:List β),l.mapM f=some ps->(∀ x p,f x=some p->g p=x)->ps.map g=l
 | [],ps,h,_=>by simp at h;subst h;rfl
 | x::l,ps,h,hg=>by
  rw [List.mapM_cons] at h;obtain ⟨p,hp,h⟩:=Option.bind_eq_some_iff.1 h;obtain ⟨q,hq,h⟩:=Option.bind_eq_some_iff.1 h;cases h;simp [hg x p hp,Qa l q hq hg]
theorem MP {l:Txt} {r:ZW} (h:YT l=some r):QZ r=l:=by
 unfold YT at h
 split at h
 ·cases h
 ·rename_i a ws hs
  obtain ⟨n,hn,h⟩:=Option.bind_eq_some_iff.1 h;obtain ⟨ps,hp,h⟩:=Option.bind_eq_some_iff.1 h;cases h;have hj:=UH 32 l [];unfold Y3 at hs;rw [hs] at hj;unfold QZ;rw [<-(Ts hn).1,Qa (g:=QY) _ _ hp (fun x p=>MO)];simpa using hj
theorem ML {l:Txt} {rs:List ZW} (h:YI l=some rs):Y1 rs=true/\J0 rs=l:=by
 unfold YI at h;obtain ⟨rs',hr,h⟩:=Option.bind_eq_some_iff.1 h
 split at h
 ·rename_i hb
  cases h;refine ⟨hb,?_⟩;unfold J0;rw [if_pos hb,Qa (g:=QZ) _ _ hr (fun x p=>MP)];have hj:=UH 47 l [];simpa [Y3] using hj
 ·cases h
open Go.Lib (digitVal decFrom)
def bs (l:Txt):ByteArray:=⟨l.toArray⟩
theorem RK (l:Txt):(bs l).data.toList=l:=by simp [bs]
theorem Fc (s:ByteArray):bs s.data.toList=s:=by simp [bs]
theorem BD (l:Txt):(bs l).size=l.length:=by simp [bs,ByteArray.size]
def StrsAt (n₀:Nat) (w:World) (v:Value) (zs:List Txt):Prop:=w.ownsRow n₀ 9 1 v zs.length (zs.map fun z=>Value.string (bs z))
theorem StrsAt.lt {n₀:Nat}  {zs:List Txt} (h:StrsAt n₀ w v zs) {k:Nat} (hk:v.ownBlock=some k):n₀<=k/\k<w.heap.size:=World.ownsRow.lt h k hk
theorem StrsAt.view {n₀:Nat}  {zs:List Txt} (h:StrsAt n₀ w v zs) :
  ∃ (a:Option Addr) (cap:Nat),v= .slice a zs.length cap/\zs.length<=cap/\cap<=9223372036854775807/\(zs=[]\/ ∃ g,a=some ⟨g,0,none⟩/\n₀<=g/\g<w.heap.size/\
   (∀ k,k<zs.length->w.cell? ⟨g,k,none⟩=some (.string (bs (zs.getD k []))))):=by
 have h':=h
 rcases h.2 with ⟨rfl,hz⟩ | ⟨g,cap,cur,rfl,hb,hg,hnc,hcm,r⟩
 ·exact ⟨none,0,by rw [hz],by omega,by omega,.inl (List.eq_nil_of_length_eq_zero hz)⟩
 ·refine ⟨_,cap,rfl,hnc,by unfold maxLen at hcm;omega,.inr ⟨g,rfl,hb,(Array.getElem?_eq_some_iff.1 hg).1,fun k hk=> ?_⟩⟩
  rw [World.ownsRow.cellAt h' k (by omega)];simp [List.getElem?_eq_getElem hk]
theorem BJ:(prog.info? 9).map (fun i=>(i.zero,i.size,i.bytes))=some (some (.string ByteArray.empty),1,16):=by kernel_rfl
theorem ER (l:Txt) (f k:Nat) (hf:f<=k) (h:k<l.length):(l.take (k+1)).drop f=(l.take k).drop f++[l[k]]:=by
 rw [List.take_succ_eq_append_getElem h,List.drop_append_of_le_length (by simp;omega)]
theorem P1 (l:Txt) (k:Nat) (h:k<l.length):l.drop k=l[k]::l.drop (k+1):=List.drop_eq_getElem_cons h
theorem F7 (s:ByteArray) (f k:Nat):s.extract f k=bs ((s.data.toList.take k).drop f):=by
 rw [<-Fc (s.extract f k)];congr 1;rw [Go.Lib.extract_data];simp [List.drop_take]
theorem Mk {v v':Value} {P:List Txt} {s:ByteArray} {a k:Nat} {o:Obj} (hown:StrsAt w.heap.size wr v P) (hb:Below w.heap.size w wr)
  (hown':w1.ownsRow w.heap.size 9 1 v' (P.length+1) ((P.map fun z=>Value.string (bs z))++[.string (s.extract a k)])) (hg:(wr.alloc o).grownBy w1 v.ownBlock) :
  StrsAt w.heap.size w1 v' (P++[(s.data.toList.take k).drop a])/\Below w.heap.size w w1:=by
 refine ⟨?_,?_⟩
 ·unfold StrsAt;rw [F7] at hown';simpa using hown'
 ·exact (hb.alloc hb.size o).grown hg (by have:=hb.size;simp;omega) (fun j ej=>(hown.lt ej).1)
theorem Sy (s:ByteArray) (c:UInt8) (w:World) (hs:s.size<=1048576) :
  Calls prog 187 #[.string s,.int .u8 c.toNat] w fun e w'=> ∃ v,e= .returned v/\StrsAt w.heap.size w' v (Y3 c s.data.toList)/\Below w.heap.size w w':=by
 obtain ⟨i0,hi,hz0,hz1,hz2⟩:=info_parts BJ;go_enter func187,ntmps187;go_wp2_with fail
 go_loopw [5,6,7] (fun v f i wr=> ∃ (P:List Txt) (a k:Nat),f= .int .i64 a/\i= .int .i64 k/\StrsAt w.heap.size wr v P/\P.length<=k/\Below w.heap.size w wr/\((k<=s.size/\a<=k/\P++Y0 c ((s.data.toList.take k).drop a) (s.data.toList.drop k)=Y3 c s.data.toList)\/(k=s.size+1/\P=Y3 c s.data.toList))) (fun _ _ i _=>s.size+1-(intOf i).toNat)
 case atStart=>exact ⟨[],0,0,rfl,rfl,World.ownsRow_lit w #[] 0 (Z0 _) (by simp [maxLen]) rfl,by simp,(ba _ _),.inl ⟨by omega,by omega,by simp [Y3]⟩⟩
 case round=>
  obtain ⟨P,a,k,rfl,rfl,hown,hpl,hb,hcase⟩:=hrel;have Hb:=Z9 hb;have Hown:=Z9 hown;clear hb hown
  rcases hcase with ⟨hk,ha,hsp⟩ | ⟨rfl,hP⟩
  ·have Hsp:=Z9 hsp
   clear hsp;by_cases hend:k=s.size
   ·subst hend
    go_wp2_with (at_builtin;refine wpList_append_own _ rfl _ _ 152 rfl w.heap.size 9 i0 (.string ByteArray.empty) 1 16 underlying152 hi hz0 hz1 hz2 rfl (by decide) _ _ _ rfl (World.ownsRow.alloc (uh Hown) _) ⟨_,0,none⟩ 1 1 [.string (s.extract a s.size)] rfl rfl (cell_one_new _ _ _) (by simp [Value.oneCell']) (by simp only [maxLen];omega) (by omega) (by have:=(uh Hb).size;simp;omega) ?_;intro v' w1 hown' hgrow _;have R:=Mk (uh Hown) (uh Hb) hown' hgrow;have HR:=Z9 R;clear hown' hgrow R)
    go_roundw
    case rel=>exact ⟨P++[(s.data.toList.take s.size).drop a],s.size+1,s.size+1,by go_num,by go_num,(uh HR).1,by simp;omega,(uh HR).2,.inr ⟨rfl,by rw [<-uh Hsp,List.drop_eq_nil_of_le (show s.data.toList.length<=s.size by simp)];rfl⟩⟩
    case measure=>simp [intOf]
   ·have hlt:k<s.size:=by omega
    have hll:k<s.data.toList.length:=by simpa using hlt
    have hat:s.data.toList[k]=s[k]:=rfl;by_cases hc:s[k]=c
    ·have Hc:=Z9 hc
     have Hn:Hid (P++[(s.data.toList.take k).drop a]++Y0 c ((s.data.toList.take (k+1)).drop (k+1)) (s.data.toList.drop (k+1))=Y3 c s.data.toList):=Z9 (by
      have h0:=uh Hsp;rw [P1 _ k hll,hat,hc,Va] at h0
      rw [<-h0];simp)
     clear hc hat;have hbeq:((s[k].toNat:Int) ==(c.toNat:Int))=true:=by rw [show s[k]=c from uh Hc];simp
     have hne:((k:Int) ==(s.size:Int))=false:=beq_eq_false_iff_ne.2 (by omega);go_wp2_with (at_builtin;refine wpList_append_own _ rfl _ _ 152 rfl w.heap.size 9 i0 (.string ByteArray.empty) 1 16 underlying152 hi hz0 hz1 hz2 rfl (by decide) _ _ _ rfl (World.ownsRow.alloc (uh Hown) _) ⟨_,0,none⟩ 1 1 [.string (s.extract a k)] rfl rfl (cell_one_new _ _ _) (by simp [Value.oneCell']) (by simp only [maxLen];omega) (by omega) (by have:=(uh Hb).size;simp;omega) ?_;intro v' w1 hown' hgrow _;have R:=Mk (uh Hown) (uh Hb) hown' hgrow;have HR:=Z9 R;clear hown' hgrow R)
     go_roundw
     case rel=>exact ⟨P++[(s.data.toList.take k).drop a],k+1,k+1,by go_num,by go_num,(uh HR).1,by simp;omega,(uh HR).2,.inl ⟨by omega,by omega,uh Hn⟩⟩
     case measure=>exact ms
    ·have Hn:Hid (P++Y0 c ((s.data.toList.take (k+1)).drop a) (s.data.toList.drop (k+1))=Y3 c s.data.toList):=Z9 (by
      have h0:=uh Hsp;rw [P1 _ k hll,hat,Vb hc] at h0
      rw [<-h0,ER _ a k ha hll,hat])
     have hbeq:((s[k].toNat:Int) ==(c.toNat:Int))=false:=beq_eq_false_iff_ne.2 (fun e=>hc (UInt8.toNat_inj.1 (by omega)));have hne:((k:Int) ==(s.size:Int))=false:=beq_eq_false_iff_ne.2 (by omega);clear hc hat;go_wp2_with fail;go_roundw
     case rel=>exact ⟨P,a,k+1,rfl,by go_num,uh Hown,by omega,uh Hb,.inl ⟨by omega,by omega,uh Hn⟩⟩
     case measure=>exact ms
  ·have HP:=Z9 hP
   clear hP;go_wp2_with fail;go_ret;exact ⟨_,rfl,by rw [<-uh HP];exact uh Hown,uh Hb⟩
theorem U5 {l:Txt} {acc n k:Nat} {b:UInt8} (h1:l[k]?=some b) (h2:digitVal b=none):Go.Lib.decFrom acc l=none:=by
 cases h:Go.Lib.decFrom acc l with
 | none=>rfl
 | some m=>obtain ⟨d,hd⟩:=Go.Lib.digit_of_decFrom l acc m h k b h1;rw [h2] at hd;cases hd
theorem RV {c:UInt8} {r:Txt} (hc:c ≠ 45) (h9:(c::r).length<=9) (h0:¬ (c=48/\r ≠ [])):Yo (c::r)=(Go.Lib.decFrom 0 (c::r)).map fun n:Nat=>(n:Int):=by
 unfold Yo;simp only [if_neg hc];rw [if_neg];rw [not_or];exact ⟨by omega,h0⟩
theorem Ur {c:UInt8} {r:Txt} (hc:c ≠ 45) (h:9<(c::r).length\/(c=48/\r ≠ [])):Yo (c::r)=none:=by
 unfold Yo;simp only [if_neg hc];rw [if_pos h]
theorem Qf {r:Txt} (h1:r ≠ []) (h9:r.length<=9) (h0:r.head? ≠ some 48):Yo (45::r)=(Go.Lib.decFrom 0 r).map fun n:Nat=> -(n:Int):=by
 unfold Yo;simp only [if_true];rw [if_neg];rw [not_or,not_or];exact ⟨h1,by omega,h0⟩
theorem Vr {r:Txt} (h:r=[]\/9<r.length\/r.head?=some 48):Yo (45::r)=none:=by
 unfold Yo;simp only [if_true];rw [if_pos h]
def WY (l:Txt):Value:= .tuple #[.int .i64 ((Yo l).getD 0),.bool (Yo l).isSome]
theorem XL {l:Txt} (h:Yo l=none):WY l= .tuple #[.int .i64 0,.bool false]:=by unfold WY;rw [h];rfl
theorem Rs {l:Txt} {v:Int} (h:Yo l=some v):WY l= .tuple #[.int .i64 v,.bool true]:=by unfold WY;rw [h];rfl
theorem IG {b:UInt8} (h1:48<=b.toNat) (h2:b.toNat<=57):digitVal b=some (b.toNat-48):=by unfold Go.Lib.digitVal;rw [if_pos ⟨h1,h2⟩]
theorem RM {b:UInt8} (h:b.toNat<48\/57<b.toNat):digitVal b=none:=by unfold Go.Lib.digitVal;rw [if_neg (by omega)]
theorem Qi {a b:Value} (h:a=b):Ending.returned a= .returned b:=by rw [h]
theorem Tk {s:ByteArray} (h:0<s.size):s.data.toList=s[0]::s.data.toList.drop 1:=P1 s.data.toList 0 (by simpa using h)
theorem F9 {s:ByteArray} {k:Nat} (h:k<s.size):s.data.toList[k]?=some s[k]:=by
 rw [List.getElem?_eq_getElem (by simpa using h)];rfl
theorem BH {s:ByteArray} {k:Nat} (h:k<s.size) (h1:1<=k):(s.data.toList.drop 1)[k-1]?=some s[k]:=by
 rw [List.getElem?_drop,show 1+(k-1)=k by omega];exact F9 h
theorem Bp {s:ByteArray} (h:0<s.size):s.toList.isEmpty=false:=by
 rw [ByteArray.toList_eq,Tk h];rfl
theorem KC {b c:UInt8} (h:b ≠ c):((b.toNat:Int) ==(c.toNat:Int))=false:=beq_eq_false_iff_ne.2 (fun e=>h (UInt8.toNat_inj.1 (by omega)))
theorem KA {b c:UInt8} (h:b=c):((b.toNat:Int) ==(c.toNat:Int))=true:=by rw [h];simp
theorem Gp (s:ByteArray) (w:World) (h0:0<s.size) (hm:s.size<=9223372036854775807) (h45:s[0] ≠ 45) :
  cE 188 #[.string s] w (WY s.data.toList):=by
 have Hl:=Z9 (Tk h0);have hemp:=Bp h0;have H45:=Z9 h45;have hb45:((s[0].toNat:Int) ==45)=false:=KC (c:=45) h45;have hlen:s.data.toList.length=s.size:=by simp
 have Hlen:=Z9 hlen;clear h45 hlen;by_cases h9:9<s.size
 ·have hd1:decide ((s.size:Int)<1)=false:=Xs (by omega)
  have hd2:decide (9<(s.size:Int))=true:=VJ (by omega);have HN:Hid (WY s.data.toList= .tuple #[.int .i64 0,.bool false]):=Z9 (XL (by rw [uh Hl];exact Ur (uh H45) (.inl (by rw [<-uh Hl,uh Hlen];omega))));go_enter func188,ntmps188;go_wp2_with fail
  go_ret2
  exact ⟨Qi (uh HN).symm,rfl⟩
 have hd1:decide ((s.size:Int)<1)=false:=Xs (by omega);have hd2:decide (9<(s.size:Int))=false:=Xs (by omega);go_enter func188,ntmps188;go_wp2_with fail
 go_loop [6,7] (fun n i=> ∃ (k m:Nat),0<=k/\k<=s.size/\i= .int .i64 k/\n= .int .i64 m/\decFrom 0 (s.data.toList.take k)=some m) (fun _ i=>s.size-(intOf i).toNat)
 case atStart=>exact ⟨0,0,by omega,by omega,rfl,rfl,by simp [decFrom]⟩
 case round=>
  obtain ⟨k,m,hk1,hk,rfl,rfl,hdec⟩:=hrel
  have hmb:m<1000000000:=by
   have hx:=Go.Lib.decFrom_lt _ _ _ hdec;have hy:(s.data.toList.take k).length<=9:=by rw [List.length_take];omega
   exact Zf (by simpa using hx) (XN (Nat.pow_le_pow_right (by decide) hy) (by decide))
  have Hdec:=Z9 hdec;clear hdec;by_cases hlt:k<s.size
  ·have hga:=F9 hlt
   have Hga:=Z9 hga;clear hga;have hb8:s[k].toNat<=255:=by have:=s[k].toNat_lt;omega
   by_cases hd:s[k].toNat<48
   ·have HN:Hid (WY s.data.toList= .tuple #[.int .i64 0,.bool false]):=Z9 (XL (by rw [uh Hl];by_cases hz:s[0]=48/\s.data.toList.drop 1 ≠ [];exact Ur (uh H45) (.inr hz);rw [RV (uh H45) (by rw [<-uh Hl,uh Hlen];omega) hz,<-uh Hl,U5 (n:=0) (uh Hga) (RM (by omega))];rfl))
    have ht:decide ((s[k].toNat:Int)<48)=true:=VJ (by omega);go_wp2_with fail
    go_ret2
    exact ⟨Qi (uh HN).symm,rfl⟩
   by_cases hd':57<s[k].toNat
   ·have HN:Hid (WY s.data.toList= .tuple #[.int .i64 0,.bool false]):=Z9 (XL (by rw [uh Hl];by_cases hz:s[0]=48/\s.data.toList.drop 1 ≠ [];exact Ur (uh H45) (.inr hz);rw [RV (uh H45) (by rw [<-uh Hl,uh Hlen];omega) hz,<-uh Hl,U5 (n:=0) (uh Hga) (RM (by omega))];rfl))
    have ht:decide ((s[k].toNat:Int)<48)=false:=Xs (by omega);have ht':decide (57<(s[k].toNat:Int))=true:=VJ (by omega);go_wp2_with fail
    go_ret2
    exact ⟨Qi (uh HN).symm,rfl⟩
   ·have ht:decide ((s[k].toNat:Int)<48)=false:=Xs (by omega)
    have ht':decide (57<(s[k].toNat:Int))=false:=Xs (by omega);have Hn:=Z9 (Go.Lib.decFrom_take s.data.toList k 0 m s[k] (s[k].toNat-48) (uh Hdec) (uh Hga) (IG (by omega) (by omega)));have Hx:Hid (((m*10+(s[k].toNat-48):Nat):Int)=(m:Int)*10+((s[k].toNat:Int)-48)):=Z9 (by omega);have g1:48<=(s[k].toNat:Int):=by omega
    have g2:(s[k].toNat:Int)<=57:=by omega
    go_wp2_with fail
    go_round
    case rel=>exact ⟨k+1,m*10+(s[k].toNat-48),by omega,by omega,by go_num,by rw [uh Hx],uh Hn⟩
    case measure=>exact ms
  ·obtain rfl:k=s.size:=by omega
   have Hall:Hid (decFrom 0 s.data.toList=some m):=Z9 (by have hh:=uh Hdec;rwa [List.take_of_length_le (by rw [uh Hlen];omega)] at hh);by_cases hz:s[0]=48
   ·have hb48:((s[0].toNat:Int) ==48)=true:=KA (c:=48) hz
    by_cases h1s:1<s.size
    ·have ht:decide (1<(s.size:Int))=true:=VJ (by omega)
     have HN:Hid (WY s.data.toList= .tuple #[.int .i64 0,.bool false]):=Z9 (XL (by rw [uh Hl];exact Ur (uh H45) (.inr ⟨hz,fun e=>by have:=congrArg List.length e;rw [List.length_drop,uh Hlen] at this;simp at this;omega⟩)));clear hz;go_wp2_with fail
     go_ret2
     exact ⟨Qi (uh HN).symm,rfl⟩
    ·have ht:decide (1<(s.size:Int))=false:=Xs (by omega)
     have HN:Hid (WY s.data.toList= .tuple #[.int .i64 m,.bool true]):=Z9 (Rs (by rw [uh Hl,RV (uh H45) (by rw [<-uh Hl,uh Hlen];omega) (fun hh=>hh.2 (List.eq_nil_of_length_eq_zero (by rw [List.length_drop,uh Hlen];omega))),<-uh Hl,uh Hall];rfl));clear hz;go_wp2_with fail
     go_ret2
     exact ⟨Qi (uh HN).symm,rfl⟩
   ·have hb48:((s[0].toNat:Int) ==48)=false:=KC (c:=48) hz
    have HN:Hid (WY s.data.toList= .tuple #[.int .i64 m,.bool true]):=Z9 (Rs (by rw [uh Hl,RV (uh H45) (by rw [<-uh Hl,uh Hlen];omega) (fun hh=>hz hh.1),<-uh Hl,uh Hall];rfl));clear hz;go_wp2_with fail
    go_ret2
    exact ⟨Qi (uh HN).symm,rfl⟩
theorem Gn (s:ByteArray) (w:World) (h0:0<s.size) (hm:s.size<=9223372036854775807) (h45:s[0]=45) :
  cE 188 #[.string s] w (WY s.data.toList):=by
 have Hl:=Z9 (Tk h0);have hemp:=Bp h0;have H45:=Z9 h45;have hb45:((s[0].toNat:Int) ==45)=true:=KA (c:=45) h45;have hlen:s.data.toList.length=s.size:=by simp
 have Hlen:=Z9 hlen;clear h45 hlen;by_cases h9:10<s.size
 ·have hd1:decide ((s.size:Int)-1<1)=false:=Xs (by omega)
  have hd2:decide (9<(s.size:Int)-1)=true:=VJ (by omega);have HN:Hid (WY s.data.toList= .tuple #[.int .i64 0,.bool false]):=Z9 (XL (by rw [uh Hl];rw [uh H45];exact Vr (.inr (.inl (by rw [List.length_drop,uh Hlen];omega)))));go_enter func188,ntmps188;go_wp2_with fail
  go_ret2
  exact ⟨Qi (uh HN).symm,rfl⟩
 by_cases h1s:s.size<2
 ·have hd1:decide ((s.size:Int)-1<1)=true:=VJ (by omega)
  have HN:Hid (WY s.data.toList= .tuple #[.int .i64 0,.bool false]):=Z9 (XL (by rw [uh Hl,uh H45];exact Vr (.inl (List.eq_nil_of_length_eq_zero (by rw [List.length_drop,uh Hlen];omega)))));go_enter func188,ntmps188;go_wp2_with fail
  go_ret2
  exact ⟨Qi (uh HN).symm,rfl⟩
 have hd1:decide ((s.size:Int)-1<1)=false:=Xs (by omega);have hd2:decide (9<(s.size:Int)-1)=false:=Xs (by omega);go_enter func188,ntmps188;go_wp2_with fail
 go_loop [6,7] (fun n i=> ∃ (k m:Nat),1<=k/\k<=s.size/\i= .int .i64 k/\n= .int .i64 m/\decFrom 0 ((s.data.toList.drop 1).take (k-1))=some m) (fun _ i=>s.size-(intOf i).toNat)
 case atStart=>exact ⟨1,0,by omega,by omega,rfl,rfl,by simp [decFrom]⟩
 case round=>
  obtain ⟨k,m,hk1,hk,rfl,rfl,hdec⟩:=hrel
  have hmb:m<1000000000:=by
   have hx:=Go.Lib.decFrom_lt _ _ _ hdec;have hy:((s.data.toList.drop 1).take (k-1)).length<=9:=by rw [List.length_take];omega
   exact Zf (by simpa using hx) (XN (Nat.pow_le_pow_right (by decide) hy) (by decide))
  have Hdec:=Z9 hdec;clear hdec;by_cases hlt:k<s.size
  ·have hga:=BH hlt hk1
   have Hga:=Z9 hga;clear hga;have hb8:s[k].toNat<=255:=by have:=s[k].toNat_lt;omega
   by_cases hd:s[k].toNat<48
   ·have HN:Hid (WY s.data.toList= .tuple #[.int .i64 0,.bool false]):=Z9 (XL (by rw [uh Hl,uh H45];by_cases hz:(s.data.toList.drop 1).head?=some 48;exact Vr (.inr (.inr hz));rw [Qf (fun e=>by have:=congrArg List.length e;rw [List.length_drop,uh Hlen] at this;simp at this;omega) (by rw [List.length_drop,uh Hlen];omega) hz,U5 (n:=0) (uh Hga) (RM (by omega))];rfl))
    have ht:decide ((s[k].toNat:Int)<48)=true:=VJ (by omega);go_wp2_with fail
    go_ret2
    exact ⟨Qi (uh HN).symm,rfl⟩
   by_cases hd':57<s[k].toNat
   ·have HN:Hid (WY s.data.toList= .tuple #[.int .i64 0,.bool false]):=Z9 (XL (by rw [uh Hl,uh H45];by_cases hz:(s.data.toList.drop 1).head?=some 48;exact Vr (.inr (.inr hz));rw [Qf (fun e=>by have:=congrArg List.length e;rw [List.length_drop,uh Hlen] at this;simp at this;omega) (by rw [List.length_drop,uh Hlen];omega) hz,U5 (n:=0) (uh Hga) (RM (by omega))];rfl))
    have ht:decide ((s[k].toNat:Int)<48)=false:=Xs (by omega);have ht':decide (57<(s[k].toNat:Int))=true:=VJ (by omega);go_wp2_with fail
    go_ret2
    exact ⟨Qi (uh HN).symm,rfl⟩
   ·have ht:decide ((s[k].toNat:Int)<48)=false:=Xs (by omega)
    have ht':decide (57<(s[k].toNat:Int))=false:=Xs (by omega);have Hn:=Z9 (Go.Lib.decFrom_take (s.data.toList.drop 1) (k-1) 0 m s[k] (s[k].toNat-48) (uh Hdec) (uh Hga) (IG (by omega) (by omega)));have Hx:Hid (((m*10+(s[k].toNat-48):Nat):Int)=(m:Int)*10+((s[k].toNat:Int)-48)):=Z9 (by omega);have g1:48<=(s[k].toNat:Int):=by omega
    have g2:(s[k].toNat:Int)<=57:=by omega
    go_wp2_with fail
    go_round
    case rel=>exact ⟨k+1,m*10+(s[k].toNat-48),by omega,by omega,by go_num,by rw [uh Hx],by have hh:=uh Hn;rwa [show k-1+1=k+1-1 by omega] at hh⟩
    case measure=>exact ms
  ·obtain rfl:k=s.size:=by omega
   have Hall:Hid (decFrom 0 (s.data.toList.drop 1)=some m):=Z9 (by have hh:=uh Hdec;rwa [List.take_of_length_le (by rw [List.length_drop,uh Hlen];omega)] at hh);have hs1:1<s.size:=by omega
   have Hh:Hid ((s.data.toList.drop 1).head?=some s[1]):=Z9 (by rw [List.head?_drop];exact F9 hs1);have Hne:Hid (s.data.toList.drop 1 ≠ []):=Z9 (fun e=>by have:=congrArg List.length e;rw [List.length_drop,uh Hlen] at this;simp at this;omega);by_cases hz:s[1]=48
   ·have hb48:((s[1].toNat:Int) ==48)=true:=KA (c:=48) hz
    have HN:Hid (WY s.data.toList= .tuple #[.int .i64 0,.bool false]):=Z9 (XL (by rw [uh Hl,uh H45];exact Vr (.inr (.inr (by rw [uh Hh,hz])))));clear hz;go_wp2_with fail
    go_ret2
    exact ⟨Qi (uh HN).symm,rfl⟩
   ·have hb48:((s[1].toNat:Int) ==48)=false:=KC (c:=48) hz
    have HN:Hid (WY s.data.toList= .tuple #[.int .i64 (-(m:Int)),.bool true]):=Z9 (Rs (by rw [uh Hl,uh H45,Qf (uh Hne) (by rw [List.length_drop,uh Hlen];omega) (fun e=>hz (by rw [uh Hh] at e;exact Option.some.inj e)),uh Hall];rfl));clear hz;go_wp2_with fail
    go_ret2
    exact ⟨Qi (uh HN).symm,rfl⟩
theorem Rp (s:ByteArray) (w:World) (hm:s.size<=9223372036854775807) :
  cE 188 #[.string s] w (WY s.data.toList):=by
 by_cases h0:0<s.size
 ·by_cases h45:s[0]=45
  ·exact Gn s w h0 hm h45
  ·exact Gp s w h0 hm h45
 ·have hd:s.data.toList=[]:=List.eq_nil_of_length_eq_zero (by rw [show s.data.toList.length=s.size by simp];omega)
  have hemp:s.toList.isEmpty=true:=by rw [ByteArray.toList_eq,hd];rfl
  have HN:Hid (WY s.data.toList= .tuple #[.int .i64 0,.bool false]):=Z9 (XL (by rw [hd];rfl));have hz:s.size=0:=by omega
  clear hd;go_enter func188,ntmps188;go_wp2_with fail
  go_ret2
  exact ⟨Qi (uh HN).symm,rfl⟩
end Go.Proofs.YtlcpgkakdieeaaaGreat
