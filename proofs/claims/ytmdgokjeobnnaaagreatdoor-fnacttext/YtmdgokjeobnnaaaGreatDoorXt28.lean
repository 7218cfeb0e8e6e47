/- Part 28 of what the proof rests on. No condition but those that a theorem names. -/
import Derived.Test.YtmdgokjeobnnaaaGreatDoorXt24
import Derived.Test.YtmdgokjeobnnaaaGreatDoorXt25
set_option maxHeartbeats 8000000
set_option maxRecDepth 100000
namespace Go.Proofs.YtmdgokjeobnnaaaGreatDoor
open Go.ChangeShapes Go.WideShapes Go.ChangeAt Go.RowKit Go.Sort Go.Proofs.Tryz
set_option linter.unusedVariables false
set_option linter.unusedSimpArgs false
variable {w w' w0 w1 w2 w3 w₀ wr W W' X A B C : World} {v v0 v1 v2 v3 v4 u u0 u1 u2 u3 u4 : Value} {m : Z7}
theorem Gt {x y:Nat} (hx:x<256) (hy:y<256):bits .or .i64 (x:Int) (y:Int)=((x ||| y:Nat):Int):=by
 have ex:((x:Int)%((2 ^ 64:Nat):Int)).toNat=x:=by omega
 have ey:((y:Int)%((2 ^ 64:Nat):Int)).toNat=y:=by omega
 have key:(BitVec.ofInt 64 (x:Int) ||| BitVec.ofInt 64 (y:Int)).toNat=x ||| y:=by
  rw [BitVec.toNat_or,BitVec.toNat_ofInt,BitVec.toNat_ofInt,ex,ey]
 show IntKind.i64.wrap ((BitVec.ofInt 64 (x:Int) ||| BitVec.ofInt 64 (y:Int)).toNat:Nat)=_
 have h8:x ||| y<2 ^ 8:=Nat.or_lt_two_pow hx hy
 rw [key,IntKind.wrap_i64];omega
theorem GP {x y:Nat} (hx:x<256) (hy:y<256):bits .and .i64 (x:Int) (y:Int)=((x &&& y:Nat):Int):=by
 have ex:((x:Int)%((2 ^ 64:Nat):Int)).toNat=x:=by omega
 have ey:((y:Int)%((2 ^ 64:Nat):Int)).toNat=y:=by omega
 have key:(BitVec.ofInt 64 (x:Int) &&& BitVec.ofInt 64 (y:Int)).toNat=x &&& y:=by
  rw [BitVec.toNat_and,BitVec.toNat_ofInt,BitVec.toNat_ofInt,ex,ey]
 show IntKind.i64.wrap ((BitVec.ofInt 64 (x:Int) &&& BitVec.ofInt 64 (y:Int)).toNat:Nat)=_;have h8:x &&& y<=x:=Nat.and_le_left;rw [key,IntKind.wrap_i64];omega
theorem Ke {b k:Nat} (h:((Z8 m.dk k).1 && !(k ==b))=true):Zq m b (k+1)=Zq m b k ||| 2 ^ k:=by show (if _ then _ else _)=_;rw [if_pos h]
theorem IU {b k:Nat} (h:((Z8 m.dk k).1 && !(k ==b))=false):Zq m b (k+1)=Zq m b k:=by show (if _ then _ else _)=_;rw [if_neg (by rw [h];simp)]
theorem J2 (s:Z6):Ui s s.2.2.2.1=s:=rfl
theorem Mg {α:Type} [Inhabited α] {xs:List α} {k:Nat} (hk:k<xs.length):xs.set k (Z8 xs k)=xs:=by
 unfold Z8;rw [List.getD,List.getElem?_eq_getElem hk];exact List.set_getElem_self hk
theorem M6 {op:Nat} {w:Nat} (hw:w<m.sm.length) (h:(Z8 m.sm w).2.2.2.1.toNat &&& op ≠ 0):closeX op m w=m:=by
 unfold closeX Xi Uh;rw [if_neg h,J2];unfold setS;rw [Mg hw]
theorem Lw {op:Nat} {w:Nat} (h:(Z8 m.sm w).2.2.2.1.toNat &&& op=0):closeX op m w=setS m w (Ui (Z8 m.sm w) (YO m.dk.length)):=by
 unfold closeX Xi Uh;rw [if_pos h]
theorem QX  (b:Int) (h:Smy w v0 v1 v2 v3 v4 m) :
  Calls prog 110 #[.agg #[v0,v1,v2,v3,v4,.int .i64 m.now],.int .i64 b] w fun e w'=>UF w.heap.size (Xj m b).1 (Xj m b).2 e w'/\Below w.heap.size w w':=by
 obtain ⟨X,hX⟩:=ZE (Xj m b);rw [hX];have HX:=Z9 hX;clear hX;obtain ⟨a0,p0,a1,p1,a2,p2,a3,p3,a4,p4,rfl,rfl,rfl,rfl,rfl,-⟩:=h.five;refine op0 h X func110 ntmps110 results110 (fun h=>by rw [<-uh HX];unfold Xj;rw [h];rfl) ?_
 intros
 rename_i Hok HLo HFew b0 q0 b1 q1 b2 q2 b3 q3 b4 q4 oq W2 ob H
 obtain ⟨kb,kr,Hv,HO,ko,LO,hob,BB⟩:=H.out;clear H;have Hv0:=Z9 h;clear h;obtain ⟨qb,Hqb⟩:=WG (VM m b);obtain ⟨c0,c1,c2,c3,c4,c5⟩:=(uh kb).c6;go_wp2_with fail;clear c0 c1 c2 c3 c4 c5;refine ck (Qp (uh Hqb) (uh Hv)) fun w3 hb=> ?_;replace kb:=bl kb hb;replace kr:=bl kr hb;replace Hv:=Z9 ((uh Hv).below hb);replace HO:=Z9 ((uh HO).below hb);replace ko:=bl ko hb;replace BB:=bt BB hb;clear hb;cases qb
 ·
  exact OpC.fin (OpC.mk (uh ko) (uh kr) (fun k e=>by have:=uh LO k e;omega) hob (uh BB)) X 1 results110 (by rw [<-uh HX];unfold Xj;rw [uh Hok];simp only [if_true];rw [uh Hqb];rfl) rfl (uh HO)
 obtain ⟨bk,rfl,hbk⟩:=MU (uh Hqb);have hbk1:(bk:Int)<(m.dk.length:Int):=by omega
 have h8:=WY (uh HLo);obtain ⟨op0,hop0⟩:=ZE ((Z8 m.dk bk).1);have Hop0:=Z9 hop0;obtain ⟨_,_,hde,_,_,r3⟩:=(uh Hv).dk;cases hde
 rcases r3 with e0 | ⟨db,doff,rfl,hdw,hcl⟩
 ·rw [e0] at hbk;simp at hbk
 obtain ⟨d0,_,_⟩:=Yv hcl hbk;rw [hop0] at d0;have Hcl:=Z9 hcl;have c3:=(uh kb).cell (i:=3) (v:= .slice (some ⟨db,doff,none⟩) m.dk.length p3) rfl;clear hcl hop0;cases op0
 ·
  exact OpC.fin (OpC.mk (uh ko) (uh kr) (fun k e=>by have:=uh LO k e;omega) hob (uh BB)) X 2 results110 (by rw [<-uh HX];unfold Xj;rw [uh Hok];simp only [if_true];rw [uh Hqb];simp only [if_true,Zl];rw [uh Hop0];rfl) rfl (uh HO)
 go_wp2_with fail;clear d0
 go_loopw [7,8] (fun u i wr=> ∃ k:Nat,k<=m.dk.length/\i= .int .i64 k/\u= .int .i64 ((Zq m bk k:Nat):Int)/\wr=w3) (fun _ i _=>m.dk.length-(intOf i).toNat)
 case atStart=>exact ⟨0,Zi _,rfl,rfl,rfl⟩
 case round=>
  obtain ⟨k,hk,rfl,rfl,hwr⟩:=hrel;subst wr;by_cases hlt:k<m.dk.length
  ·
   have hlt1:(k:Int)<(m.dk.length:Int):=by omega
   obtain ⟨d0,_,_⟩:=Yv (uh Hcl) hlt;obtain ⟨q,hq⟩:=ZE ((Z8 m.dk k).1);rw [hq] at d0;have HY:Hid (((Z8 m.dk k).1 && !(k ==bk))=true->Zq m bk (k+1)=Zq m bk k ||| 2 ^ k):=Z9 Ke;have HN:Hid (((Z8 m.dk k).1 && !(k ==bk))=false->Zq m bk (k+1)=Zq m bk k):=Z9 IU;rw [hq] at HY HN;clear hq;cases q
   ·
    go_wp2_with fail;go_roundw
    case rel=>exact ⟨k+1,by omega,by go_num,by rw [uh HN (by first | rfl | trivial)],by first | rfl | trivial⟩
    case measure=>exact ms
   by_cases hkb:k=bk
   ·
    have h1:((k:Int) !=(bk:Int))=false:=by rw [hkb];simp
    have HN2:Hid (Zq m bk (k+1)=Zq m bk k):=Z9 (uh HN (by rw [hkb];simp));clear hkb HY HN;go_wp2_with fail;go_roundw
    case rel=>exact ⟨k+1,by omega,by go_num,by rw [uh HN2],by first | rfl | trivial⟩
    case measure=>exact ms
   have hkb1:¬ ((k:Int)=(bk:Int)):=by omega
   have h1:((k:Int) !=(bk:Int))=true:=by simpa using hkb1
   have HY2:Hid (Zq m bk (k+1)=Zq m bk k ||| 2 ^ k):=Z9 (uh HY (by simp [hkb]));have hlo:=QC m bk k;have hp1:2 ^ k<=2 ^ 7:=Nat.pow_le_pow_right (by omega) (by omega);have hor:bits .or .i64 ((Zq m bk k:Nat):Int) ((2 ^ k:Nat):Int)=((Zq m bk k ||| 2 ^ k:Nat):Int):=Gt (by omega) (by omega);have hpc:((2:Int) ^ ((k:Int)).toNat)=((2 ^ k:Nat):Int):=by rw [Zl];push_cast;rfl
   have Hor2:Hid (bits .or .i64 ((Zq m bk k:Nat):Int) ((2:Int) ^ k)=((Zq m bk k ||| 2 ^ k:Nat):Int)):=Z9 (by
    have h9:((2 ^ k:Nat):Int)=(2:Int) ^ k:=by push_cast;rfl
    rw [<-h9];exact hor)
   have Hpc:=Z9 hpc;clear hkb hkb1 HY HN hlo hp1 hor hpc;go_wp2_with fail;refine (Uf (k:Int) (by omega) (by omega) _).mono ?_;rw [uh Hpc];rintro e w9 ⟨rfl,hw9⟩;subst w9;go_wp2_with fail;go_roundw
   case rel=>exact ⟨k+1,by omega,by go_num,by rw [uh HY2];exact congrArg _ (uh Hor2),by first | rfl | trivial⟩
   case measure=>exact ms
  ·
   obtain rfl:k=m.dk.length:=by omega
   obtain ⟨op,hop⟩:=ZE (Zq m bk m.dk.length);have hopl:=QC m bk m.dk.length;have hp8:2 ^ m.dk.length<=2 ^ 8:=Nat.pow_le_pow_right (by omega) h8;rw [hop] at hopl;rw [hop];have Hop:=Z9 hop;have hop8:op<256:=by omega
   clear hop hopl hp8;by_cases hz:op=0
   ·
    subst hz;have Hop9:Hid (Zq m bk m.dk.length=0):=Hop;have hz1:(((0:Nat):Int) ==0)=true:=rfl;exact OpC.fin (OpC.mk (uh ko) (uh kr) (fun k e=>by have:=uh LO k e;omega) hob (uh BB)) X 5 results110 (by rw [<-uh HX];unfold Xj;rw [uh Hok];simp only [if_true];rw [uh Hqb];simp only [if_true,Zl];rw [uh Hop0];simp only [if_true];rw [if_pos (uh Hop9)]) rfl (uh HO)
   have Hz:=Z9 hz;have hz0:¬ ((op:Nat):Int)=0:=by omega
   have hz1:(((op:Nat):Int) ==0)=false:=by simpa using hz0
   have hz2:decide (((op:Nat):Int)=0)=false:=Ya hz0;clear hz hz0;obtain ⟨c0,c1,c2,c3,c4,c5⟩:=(uh kb).c6;go_wp2_with fail;clear hz1 hz2 c0 c1 c2 c3 c4 c5;refine (TO (bk:Int) (uh Hv) (by have:=(uh HFew).sm;omega)).mono ?_;rintro e w5 ⟨v5,rfl,he5,hb⟩;obtain ⟨qa,qc,rfl⟩:=EntsAt.shape he5;have HE:=Z9 he5;have hW5:ob<w3.heap.size:=(uh ko).lt;have hlow:∀ k,WE (.slice b0 m.rm.length q0) (.slice b1 m.gd.length q1) (.slice b2 m.sm.length q2) (.slice b3 m.dk.length q3) (.slice b4 m.pc.length q4) oq k->k<w3.heap.size:=fun k e=>((uh HO).own e).2;have Hlow:=Z9 hlow;clear he5 hlow;replace kb:=bl kb hb;replace kr:=bl kr hb;replace Hv:=Z9 ((uh Hv).below hb);replace HO:=Z9 ((uh HO).below hb);replace ko:=bl ko hb;replace BB:=bt BB hb;have hszq:=hb.size;clear hb;have Hsh:=Z9 (fun j hj=>O0 (uh HLo) hbk (by rw [uh Hop];exact uh Hz) (k:=j) hj);rw [uh Hop] at Hsh
   have Hmq:Hid (∀ x ∈ atV m.sm (bk:Int) m.sm.length,∃ j:Nat,j<m.sm.length/\x.2=(j:Int)):=Z9 (fun x hx=>by
    obtain ⟨j,hj,_,_,rfl⟩:=(XH m.sm (bk:Int) x m.sm.length).1 hx
    exact ⟨j,hj,rfl⟩)
   have HV:Hid (X=(ZL (YC op (XW m bk false) (atV m.sm (bk:Int) m.sm.length) (atV m.sm (bk:Int) m.sm.length).length),0)):=Z9 (by rw [<-uh HX];unfold Xj;rw [uh Hok];simp only [if_true];rw [uh Hqb];simp only [if_true,Zl];rw [uh Hop0];simp only [if_true];rw [uh Hop,if_neg (uh Hz)]);generalize atV m.sm (bk:Int) m.sm.length=q at *;obtain ⟨g3,hga,_,_,hc3,hz3⟩:=RecAt.view Zx (by omega) (uh HO).dk rfl (by omega);cases hga;have hg3o:=uh LO g3 (.inr (.inr (.inr (.inr (.inl rfl)))));have hg3w:=uh Hlow g3 (.inr (.inr (.inr (.inr (.inl rfl)))));have d0:=hc3 bk hbk 0 _ rfl;have f0:=hz3 (bk*3);have x3:=(uh ko).cell (i:=3) (v:= .slice (some ⟨g3,0,none⟩) m.dk.length q3) rfl;have hput:=(uh HO).putD rfl (j:=bk) (i:=0) hbk (by omega) (.bool false) (false,(Z8 m.dk bk).2) rfl;simp only [Nat.add_zero] at d0 hput;clear hc3 hz3;go_upto_region 18 with fail;clear d0 f0 x3;replace ko:Hid (Blk (w5.setCell ⟨g3,bk*3,none⟩ (.bool false)) ob 40 (S6 b0 q0 b1 q1 b2 q2 (some ⟨g3,0,none⟩) q3 b4 q4 m)):=Z9 ((uh ko).other (a:=⟨g3,bk*3,none⟩) (by show ob ≠ g3;omega) _);replace kr:Hid (Blk (w5.setCell ⟨g3,bk*3,none⟩ (.bool false)) (w.heap.size+1) 40 E6):=Z9 ((uh kr).other (a:=⟨g3,bk*3,none⟩) (by show (w.heap.size+1) ≠ g3;omega) _);replace kb:Hid (Blk (w5.setCell ⟨g3,bk*3,none⟩ (.bool false)) w.heap.size 40 #[.slice a0 m.rm.length p0,.slice a1 m.gd.length p1,.slice a2 m.sm.length p2,.slice (some ⟨db,doff,none⟩) m.dk.length p3,.slice a4 m.pc.length p4,.int .i64 m.now]):=Z9 ((uh kb).other (a:=⟨g3,bk*3,none⟩) (by show w.heap.size ≠ g3;omega) _);have HP:Hid (FullSmy (w.heap.size+2) (w5.setCell ⟨g3,bk*3,none⟩ (.bool false)) (.slice b0 m.rm.length q0) (.slice b1 m.gd.length q1) (.slice b2 m.sm.length q2) (.slice (some ⟨g3,0,none⟩) m.dk.length q3) (.slice b4 m.pc.length q4) (XW m bk false) oq):=Z9 hput;replace HE:Hid (EntsAt w3.heap.size (w5.setCell ⟨g3,bk*3,none⟩ (.bool false)) (.slice qa q.length qc) q):=Z9 (EntsAt.same (uh HE) (fun k e=>heap_setCell_other _ _ _ _ (by have:=(EntsAt.lt (uh HE) e).1;show k ≠ g3;omega)));replace BB:Hid (Below w.heap.size w (w5.setCell ⟨g3,bk*3,none⟩ (.bool false))):=Z9 ((uh BB).setCell (p:=⟨g3,bk*3,none⟩) (by show w.heap.size<=g3;omega) _);clear hput HO Hv Hcl;generalize w5.setCell ⟨g3,bk*3,none⟩ (.bool false)=W5 at *;go_wp2_with fail
   go_loopw [10] (fun i wr=> ∃ j:Nat,j<=q.length/\i= .int .i64 j/\FullSmy (w.heap.size+2) wr (.slice b0 m.rm.length q0) (.slice b1 m.gd.length q1) (.slice b2 m.sm.length q2) (.slice (some ⟨g3,0,none⟩) m.dk.length q3) (.slice b4 m.pc.length q4) (YC op (XW m bk false) q j) oq/\Two (Value.slice b2 m.sm.length q2).ownBlock (some g3) W5 wr) (fun i _=>q.length-(intOf i).toNat)
   case atStart=>exact ⟨0,Zi _,rfl,uh HP,Two.refl _ _ _⟩
   case round=>
    obtain ⟨j,hj,rfl,hf1,htw⟩:=hrel;have hsh:=uh Hsh j hj;have HF1:=Z9 hf1;have Tw:=Z9 htw;have hP2:∀ b,(Value.slice b2 m.sm.length q2).ownBlock=some b->(w.heap.size+2<=b/\b<ob)/\b<w3.heap.size:=fun b e=>⟨uh LO b (.inr (.inr (.inr (.inl e)))),uh Hlow b (.inr (.inr (.inr (.inl e))))⟩
    have hPn:∀ R,(R<=w.heap.size+1\/ob<=R)->(Value.slice b2 m.sm.length q2).ownBlock ≠ some R:=fun R h e=>by have:=(hP2 R e).1;omega
    have hGn:∀ R,(R<=w.heap.size+1\/ob<=R)->some g3 ≠ some R:=fun R h e=>by cases e;omega
    replace kb:=Z9 ((uh kb).two htw (hPn _ (.inl (by omega))) (hGn _ (.inl (by omega))));replace ko:=Z9 ((uh ko).two htw (hPn _ (.inr (Z3 _))) (hGn _ (.inr (Z3 _))));replace kr:=Z9 ((uh kr).two htw (hPn _ (.inl (by omega))) (hGn _ (.inl (by omega))));replace HE:=Z9 (Two.ents (uh HE) htw (fun b e=>(hP2 b e).2) (fun b e=>by cases e;exact hg3w));have B1:=Z9 ((uh BB).trans (htw.below (uh BB).size (fun b e=>by have:=(hP2 b e).1;omega) (fun b e=>by cases e;omega)));obtain ⟨hm1,hm2,hm3,hm4,hm5,hm6,_,_,_⟩:=hsh;have hsh:=uh Hsh j hj;have hdl:(YC op (XW m bk false) q j).dk.length=m.dk.length:=by rw [hm5,VX]
    have Hst:Hid (YC op (XW m bk false) q (j+1)=Wt op (YC op (XW m bk false) q j) (ZY q j).2.toNat):=Z9 rfl;clear hf1 htw;by_cases hjl:j<q.length
    ·
     have hjl1:(j:Int)<(q.length:Int):=by omega
     obtain ⟨_,_,hqe,_,_,hr⟩:=EntsAt.pc (uh HE);cases hqe
     rcases hr with e0 | ⟨eb,eo,rfl,hbw,hcl⟩
     ·rw [e0] at hjl;simp at hjl
     obtain ⟨_,c1⟩:=hcl j hjl;obtain ⟨i0,hi0,hie⟩:=uh Hmq _ (VU hjl);rw [hie] at c1;have hstill:Oq q j i0:=⟨j,Z3 _,hjl,hie⟩
     rw [hie,Zl] at Hst;have hX:=hsh.closeX (uh HLo) hstill op;obtain ⟨hxl,hxp,hxb,_⟩:=hX.left i0 hstill;obtain ⟨hxpb,_⟩:=hX.pres hstill;have HSx:=Z9 (hX.sane (uh HLo));obtain ⟨jb,hjb,hjbe,_⟩:=(by have h9:=hsh.chosen (uh HLo) hbk (by rw [uh Hop];exact uh Hz) hstill;rw [uh Hop] at h9;exact h9:∃ jb:Nat,jb<(YC op (XW m bk false) q j).dk.length/\OH op (YC op (XW m bk false) q j) i0=(jb:Int)/\Yi (closeX op (YC op (XW m bk false) q j) i0) (i0:Int) jb=true)
     obtain ⟨hml,hmp,_,_⟩:=hsh.left i0 hstill;obtain ⟨hmpb,_⟩:=hsh.pres hstill;have hxd:(closeX op (YC op (XW m bk false) q j) i0).dk.length=m.dk.length:=hdl;have hxpc:(closeX op (YC op (XW m bk false) q j) i0).pc=m.pc:=hm3;have hxn:(closeX op (YC op (XW m bk false) q j) i0).now=m.now:=hm4;have hi1:(i0:Int)<(m.sm.length:Int):=by omega
     generalize YC op (XW m bk false) q j=M at *
     have hmay:1<=(Z8 M.sm i0).2.2.2.1/\(Z8 M.sm i0).2.2.2.1<=255:=by
      generalize Z8 M.sm i0=s9 at *;obtain ⟨st,be,rk,my,gu,lo',hi',hd,ca,ut,wk⟩:=s9;exact (Zj hmpb).2.2.2.1
     have hxmay:0<=(Z8 (closeX op M i0).sm i0).2.2.2.1/\(Z8 (closeX op M i0).sm i0).2.2.2.1<=255/\(Z8 (closeX op M i0).sm i0).1 ≠ 0:=by
      generalize Z8 (closeX op M i0).sm i0=s9 at *;obtain ⟨st,be,rk,my,gu,lo',hi',hd,ca,ut,wk⟩:=s9;obtain ⟨p0,_,_,p3,_⟩:=Zj hxpb;exact ⟨by show (0:Int)<=my;omega,p3.2,by show st ≠ 0;omega⟩
     have HAx:Hid (TI (closeX op M i0) i0):=Z9 ⟨hxl,hxmay.2.2,hxmay.1,hxmay.2.1⟩;have Hjb:Hid (OH op M i0=(jb:Int)):=Z9 hjbe;have Hcb:Hid (Yz (closeX op M i0) (i0:Int)=(jb:Int)):=Z9 hjbe;have Hxb:=Z9 hxb;have Hxl:=Z9 hxl;have Hxn:=Z9 hxn;have Hxd:=Z9 hxd;have HPx:Hid ((closeX op M i0).pc.length<=1000):=Z9 (by rw [hxpc];exact Vb (uh HLo));have hjb2:jb<m.dk.length:=by omega
     obtain ⟨my,hmy⟩:∃ q',(Z8 M.sm i0).2.2.2.1=q':=⟨_,rfl⟩
     rw [hmy] at hmay;obtain ⟨mn,rfl⟩:∃ mn:Nat,my=(mn:Int):=⟨my.toNat,by omega⟩
     have hmn:mn<256:=by omega
     have Hmy:=Z9 hmy;have hlM:m.sm.length=M.sm.length:=hm6.symm;have HlM:=Z9 hlM;have Hml:=Z9 hml;clear hX hxp hxpb hmp hmpb hxmay hjbe hxb hxl hxn hxd hxpc hcl hie hsh hm1 hm2 hm3 hm4 hm5 hmay hmy;obtain ⟨g2,hga,_,_,hc2,hz2⟩:=RecAt.view ZT (by omega) (uh HF1).sm hlM (by omega);cases hga;have hg2o:=hP2 g2 rfl;have s3:=hc2 i0 hml 3 _ rfl;rw [uh Hmy] at s3;have f3:=hz2 (i0*11+3);have x2:=(uh ko).cell (i:=2) (v:= .slice (some ⟨g2,0,none⟩) m.sm.length q2) rfl;have hand:bits .and .i64 (mn:Int) ((op:Nat):Int)=((mn &&& op:Nat):Int):=GP hmn hop8;clear hc2 hz2 hlM hm6 hml;by_cases hza:mn &&& op=0
     ·
      have hand0:bits .and .i64 (mn:Int) ((op:Nat):Int)=0:=by rw [hand,hza];rfl
      have HXe:Hid (closeX op M i0=setS M i0 (Ui (Z8 M.sm i0) (YO m.dk.length))):=Z9 (by rw [Lw (by rw [uh Hmy,Zl];exact hza),hdl]);clear hand hza;have hput:=(uh HF1).putS (uh HlM) (j:=i0) (i:=3) (uh Hml) (by omega) (.int .i64 (YO m.dk.length)) (Ui (Z8 M.sm i0) (YO m.dk.length)) rfl;have hab:(2:Int) ^ ((m.dk.length:Int)).toNat-1=YO m.dk.length:=by rw [Zl];rfl
      have hpb:(2:Int) ^ ((m.dk.length:Int)).toNat=YO m.dk.length+1:=by rw [<-hab];omega
      have habn:=P5 (n:=m.dk.length) (by omega) h8;have Hpb2:=Z9 hpb;have c3:=(uh kb).cell (i:=3) (v:= .slice (some ⟨db,doff,none⟩) m.dk.length p3) rfl;clear hab hpb;go_upto_region 23 with fail;clear c1 s3;refine ZN (S:=fun w'=>w'.cell? ⟨ob,2,none⟩=some (.slice (some ⟨g2,0,none⟩) m.sm.length q2)/\w'.cell? ⟨w.heap.size,3,none⟩=some (.slice (some ⟨db,doff,none⟩) m.dk.length p3)) (by kernel_rfl) (WV _ _) (by kernel_rfl) ⟨x2,c3⟩ (fun hHeld=> ?_);simp only [WW,WX,Zn,Y2,Nat.zero_add,Nat.reduceAdd]
      iterate 5 refine tz ?_
      refine rd 5 rfl (fun K hK=> ?_);go_simp;refine hK.out _ _ hHeld (fun hHeld=> ?_);clear hK K
      (try simp only [Act.put,sA,sZ,sS])
      refine rd 6 rfl (fun K hK=> ?_);go_simp;refine (Uf (m.dk.length:Int) (by omega) (by omega) _).mono ?_;rw [uh Hpb2];rintro e9 w9 ⟨rfl,hw9⟩;subst w9;refine hK.out _ _ hHeld (fun hHeld=> ?_);clear hK K
      (try simp only [Act.put,sA,sZ,sS])
      refine tp 7 ?_;refine tp 8 ?_;refine tp 9 ?_;obtain ⟨_,hga,_,_,hc2,hz2⟩:=RecAt.view ZT (by omega) ((uh HF1).below (Z2 _ _).drew).sm (uh HlM) (by have:=uh Hml;omega);cases hga;have s3:=hc2 i0 (uh Hml) 3 _ rfl;rw [uh Hmy] at s3;have f3d:=hz2 (i0*11+3);clear hc2 hz2;refine wpAnyH_done (by kernel_rfl) ?_ _;refine ZH rfl rfl ?_;go_simp;clear hHeld x2 c3 s3 f3 f3d;have hwp:IntKind.i64.wrap (YO m.dk.length)=YO m.dk.length:=by rw [IntKind.wrap_i64];omega
      go_upto_region 24 with fail
      try rw [hwp]
      have HFX:Hid (FullSmy (w.heap.size+2) ((wr.setCell ⟨g2,i0*11+3,none⟩ (.int .i64 (YO m.dk.length))).drew) (.slice b0 m.rm.length q0) (.slice b1 m.gd.length q1) (.slice (some ⟨g2,0,none⟩) m.sm.length q2) (.slice (some ⟨g3,0,none⟩) m.dk.length q3) (.slice b4 m.pc.length q4) (closeX op M i0) oq):=Z9 (by rw [uh HXe];exact hput.below (Z2 _ _).drew);have T2:Hid (Two (some g2) (some g3) W5 ((wr.setCell ⟨g2,i0*11+3,none⟩ (.int .i64 (YO m.dk.length))).drew)):=Z9 (((uh Tw).trans (Two.of_set wr (.inl rfl) _ _)).trans (Two.of_below (Z2 _ _).drew));replace ko:Hid (Blk ((wr.setCell ⟨g2,i0*11+3,none⟩ (.int .i64 (YO m.dk.length))).drew) ob 40 (S6 b0 q0 b1 q1 (some ⟨g2,0,none⟩) q2 (some ⟨g3,0,none⟩) q3 b4 q4 m)):=Z9 (((uh ko).other (a:=⟨g2,i0*11+3,none⟩) (by show ob ≠ g2;omega) (.int .i64 (YO m.dk.length))).below (Z2 _ _).drew ((uh ko).other (a:=⟨g2,i0*11+3,none⟩) (by show ob ≠ g2;omega) (.int .i64 (YO m.dk.length))).lt);clear hput;generalize (wr.setCell ⟨g2,i0*11+3,none⟩ (.int .i64 (YO m.dk.length))).drew=Y at *;have Hc:=Z9 (by have h9:=Xq (m:=closeX op M i0) (who:=i0) (uh HFX).smy (uh HSx) (uh HPx) (uh HAx);rw [uh Hxn,uh Hcb] at h9;exact h9:cB 130 #[.agg (S6 b0 q0 b1 q1 (some ⟨g2,0,none⟩) q2 (some ⟨g3,0,none⟩) q3 b4 q4 m),.int .i64 (i0:Int)] Y (.int .i64 (jb:Int)));obtain ⟨y0,y1,y2,y3,y4,y5⟩:=(uh ko).c6;go_wp2_with fail;clear y0 y1 y2 y3 y4 y5;refine ck (uh Hc) fun w7 hb=> ?_;replace HFX:=Z9 ((uh HFX).below hb);replace T2:=Z9 ((uh T2).trans (Two.of_below hb));have k8:Hid (Blk w7 ob 40 #[.slice b0 m.rm.length q0,.slice b1 m.gd.length q1,.slice (some ⟨g2,0,none⟩) m.sm.length q2,.slice (some ⟨g3,0,none⟩) m.dk.length q3,.slice b4 m.pc.length q4,.int .i64 (closeX op M i0).now]):=Z9 (by rw [uh Hxn];exact (uh ko).below hb (uh ko).lt);clear hb Hc;go_wp2_with fail;refine (VO (m:=closeX op M i0) (k:=i0) (bn:=bk) (b:=jb) (uh k8) (uh HFX) (hPn _ (.inr (Z3 _))) (hGn _ (.inr (Z3 _))) (uh Hxl) (uh Hxb) (by rw [uh Hxd];exact hbk) (by rw [uh Hxd];exact hjb2)).mono ?_;rintro e w8 ⟨rfl,hf8,ht8⟩;have HF8:=Z9 hf8;replace T2:=Z9 ((uh T2).trans ht8);clear hf8 ht8;go_wp2_with fail;go_roundw
      case rel=>exact ⟨j+1,by omega,by go_num,by rw [uh Hst];unfold Wt;rw [uh Hjb];exact uh HF8,uh T2⟩
      case measure=>exact ms
     ·
      have HXe:closeX op M i0=M:=M6 (uh Hml) (by rw [uh Hmy,Zl];exact hza);have HFX:Hid (FullSmy (w.heap.size+2) wr (.slice b0 m.rm.length q0) (.slice b1 m.gd.length q1) (.slice (some ⟨g2,0,none⟩) m.sm.length q2) (.slice (some ⟨g3,0,none⟩) m.dk.length q3) (.slice b4 m.pc.length q4) (closeX op M i0) oq):=Z9 (by rw [HXe];exact uh HF1);have T2:Hid (Two (some g2) (some g3) W5 wr):=Tw;obtain ⟨na,hna⟩:∃ q',mn &&& op=q':=⟨_,rfl⟩
      rw [hna] at hand hza;have hna0:¬ ((na:Nat):Int)=0:=by omega
      have hna1:(((na:Nat):Int) ==0)=false:=by simpa using hna0
      have hna2:decide (((na:Nat):Int)=0)=false:=Ya hna0;clear hna hza HXe hna0;go_upto_region 24 with fail;clear c1 s3 x2 f3 hna1 hna2 hand;have Hc:=Z9 (by have h9:=Xq (m:=closeX op M i0) (who:=i0) (uh HFX).smy (uh HSx) (uh HPx) (uh HAx);rw [uh Hxn,uh Hcb] at h9;exact h9:cB 130 #[.agg (S6 b0 q0 b1 q1 (some ⟨g2,0,none⟩) q2 (some ⟨g3,0,none⟩) q3 b4 q4 m),.int .i64 (i0:Int)] wr (.int .i64 (jb:Int)));obtain ⟨y0,y1,y2,y3,y4,y5⟩:=(uh ko).c6;go_wp2_with fail;clear y0 y1 y2 y3 y4 y5;refine ck (uh Hc) fun w7 hb=> ?_;replace HFX:=Z9 ((uh HFX).below hb);replace T2:=Z9 ((uh T2).trans (Two.of_below hb));have k8:Hid (Blk w7 ob 40 #[.slice b0 m.rm.length q0,.slice b1 m.gd.length q1,.slice (some ⟨g2,0,none⟩) m.sm.length q2,.slice (some ⟨g3,0,none⟩) m.dk.length q3,.slice b4 m.pc.length q4,.int .i64 (closeX op M i0).now]):=Z9 (by rw [uh Hxn];exact (uh ko).below hb (uh ko).lt);clear hb Hc;go_wp2_with fail;refine (VO (m:=closeX op M i0) (k:=i0) (bn:=bk) (b:=jb) (uh k8) (uh HFX) (hPn _ (.inr (Z3 _))) (hGn _ (.inr (Z3 _))) (uh Hxl) (uh Hxb) (by rw [uh Hxd];exact hbk) (by rw [uh Hxd];exact hjb2)).mono ?_;rintro e w8 ⟨rfl,hf8,ht8⟩;have HF8:=Z9 hf8;replace T2:=Z9 ((uh T2).trans ht8);clear hf8 ht8;go_wp2_with fail;go_roundw
      case rel=>exact ⟨j+1,by omega,by go_num,by rw [uh Hst];unfold Wt;rw [uh Hjb];exact uh HF8,uh T2⟩
      case measure=>exact ms
    ·
     obtain rfl:j=q.length:=by omega
     have h12:=YF (uh HLo);have Hmn:=Z9 hm4;have hl9:(YC op (XW m bk false) q q.length).sm.length<=800:=by rw [hm6];omega
     have hd9:(YC op (XW m bk false) q q.length).dk.length<=1000:=by omega
     replace BB:=B1;clear hsh hm1 hm2 hm3 hm4 hm5 hm6 hdl;generalize YC op (XW m bk false) q q.length=M at *;go_wp2_with fail;refine (RY (m:=M) (uh Hmn) (uh ko) (uh HF1) (hPn _ (.inr (Z3 _))) (hGn _ (.inr (Z3 _))) hl9 hd9).mono ?_;rintro e w9 ⟨rfl,hf9,ht9⟩;replace kr:=Z9 ((uh kr).two ht9 (hPn _ (.inl (by omega))) (hGn _ (.inl (by omega))));replace BB:=Z9 ((uh BB).trans (ht9.below (uh BB).size (fun b e=>by have:=(hP2 b e).1;omega) (fun b e=>by have h9:g3=b:=Option.some.inj e;omega)));have HF9:=Z9 hf9;clear hf9 ht9;obtain ⟨o0,o1,o2,o3,o4,o5⟩:=(uh kr).c6;obtain ⟨f0,f1,f2,f3,f4,f5⟩:=(uh kr).f6;go_wp2_with fail;have hnow9:(ZL M).now=m.now:=((Zp _ _).2.2.2.1).trans (uh Hmn);refine Zz (v:= .tuple #[.agg (S6 b0 q0 b1 q1 b2 q2 (some ⟨g3,0,none⟩) q3 b4 q4 m),.int .i64 0]) (by simp [results,results110,go_sem, *]) rfl ⟨?_,?_⟩
     ·rw [uh HV];refine ⟨_,_,_,_,_,oq,by rw [hnow9],?_⟩
      iterate 6 (refine FullSmy.set_off ?_ (fun k e=>by have:=(uh LO k e).1;omega) _ _)
      exact (uh HF9).mono (by omega)
     ·iterate 6 (refine YU ?_ (by show _<=w.heap.size+1;omega) _)
      exact uh BB
end Go.Proofs.YtmdgokjeobnnaaaGreatDoor
