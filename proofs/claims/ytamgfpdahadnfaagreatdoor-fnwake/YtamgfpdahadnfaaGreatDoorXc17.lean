/- Part 17 of what the proof rests on. No condition but those that a theorem names. -/
import Derived.Test.YtamgfpdahadnfaaGreatDoorXc16
set_option maxHeartbeats 8000000
set_option maxRecDepth 100000
namespace Go.Proofs.YtamgfpdahadnfaaGreatDoor
open Go.ChangeShapes Go.WideShapes Go.ChangeAt Go.RowKit Go.Sort
set_option linter.unusedVariables false
set_option linter.unusedSimpArgs false
variable {w w' w0 w1 w2 w3 w₀ wr W W' X A B C : World} {v v0 v1 v2 v3 v4 u u0 u1 u2 u3 u4 : Value} {m : Z6}
theorem yK {x y:Nat} (hx:x<256) (hy:y<256):bits .or .i64 (x:Int) (y:Int)=((x ||| y:Nat):Int):=by
 have ex:((x:Int)%((2 ^ 64:Nat):Int)).toNat=x:=by omega
 have ey:((y:Int)%((2 ^ 64:Nat):Int)).toNat=y:=by omega
 have key:(BitVec.ofInt 64 (x:Int) ||| BitVec.ofInt 64 (y:Int)).toNat=x ||| y:=by
  rw [BitVec.toNat_or,BitVec.toNat_ofInt,BitVec.toNat_ofInt,ex,ey]
 show IntKind.i64.wrap ((BitVec.ofInt 64 (x:Int) ||| BitVec.ofInt 64 (y:Int)).toNat:Nat)=_
 have h8:x ||| y<2 ^ 8:=Nat.or_lt_two_pow hx hy
 rw [key,IntKind.wrap_i64];omega
theorem zo {x y:Nat} (hx:x<256) (hy:y<256):bits .and .i64 (x:Int) (y:Int)=((x &&& y:Nat):Int):=by
 have ex:((x:Int)%((2 ^ 64:Nat):Int)).toNat=x:=by omega
 have ey:((y:Int)%((2 ^ 64:Nat):Int)).toNat=y:=by omega
 have key:(BitVec.ofInt 64 (x:Int) &&& BitVec.ofInt 64 (y:Int)).toNat=x &&& y:=by
  rw [BitVec.toNat_and,BitVec.toNat_ofInt,BitVec.toNat_ofInt,ex,ey]
 show IntKind.i64.wrap ((BitVec.ofInt 64 (x:Int) &&& BitVec.ofInt 64 (y:Int)).toNat:Nat)=_;have h8:x &&& y<=x:=Nat.and_le_left;rw [key,IntKind.wrap_i64];omega
theorem CB {b k:Nat} (h:((Z8 m.dk k).1 && !(k ==b))=true):YZ m b (k+1)=YZ m b k ||| 2 ^ k:=by show (if _ then _ else _)=_;rw [if_pos h]
theorem AW {b k:Nat} (h:((Z8 m.dk k).1 && !(k ==b))=false):YZ m b (k+1)=YZ m b k:=by show (if _ then _ else _)=_;rw [if_neg (by rw [h];simp)]
theorem Cs (s:Z3):SG s s.2.2.2.1=s:=rfl
theorem Fe {α:Type} [Inhabited α] {xs:List α} {k:Nat} (hk:k<xs.length):xs.set k (Z8 xs k)=xs:=by
 unfold Z8;rw [List.getD,List.getElem?_eq_getElem hk];exact List.set_getElem_self hk
theorem F8 {op:Nat} {w:Nat} (hw:w<m.sm.length) (h:(Z8 m.sm w).2.2.2.1.toNat &&& op ≠ 0):closeX op m w=m:=by
 unfold closeX Xv RK;rw [if_neg h,Cs];unfold setS;rw [Fe hw]
theorem Eb {op:Nat} {w:Nat} (h:(Z8 m.sm w).2.2.2.1.toNat &&& op=0):closeX op m w=setS m w (SG (Z8 m.sm w) (Yt m.dk.length)):=by
 unfold closeX Xv RK;rw [if_pos h]
theorem M7  (b:Int) (h:Smy w v0 v1 v2 v3 v4 m) :
  Calls Tryz.prog 33 #[.agg #[v0,v1,v2,v3,v4,.int .i64 m.now],.int .i64 b] w fun e w'=>S5 w.heap.size (V0 m b).1 (V0 m b).2 e w'/\Below w.heap.size w w':=by
 obtain ⟨X,hX⟩:∃ x,V0 m b=x:=⟨_,rfl⟩
 rw [hX];have HX:=Z9 hX;clear hX;have Hv0:=Z9 h;obtain ⟨a0,p0,a1,p1,a2,p2,a3,p3,a4,p4,rfl,rfl,rfl,rfl,rfl,_,_,_,_,_,_,_,_,_,_⟩:=h.five;clear h;obtain ⟨ok,hok⟩:∃ q,ZJ m=q:=⟨_,rfl⟩
 have Hok:=Z9 hok;clear hok;go_enter Tryz.func33,Tryz.ntmps33;go_wp2_with fail;obtain ⟨W,hW,kb,kr,BB⟩:=YD w 32 (S6 a0 p0 a1 p1 a2 p2 a3 p3 a4 p4 m) 32 E6;have Hv:=Z9 ((uh Hv0).below (uh BB));rw [hW];clear hW;refine ck (Xt (uh Hok) (uh Hv)) fun w1 hb=> ?_;replace kb:=bl kb hb;replace kr:=bl kr hb;replace Hv:=Z9 ((uh Hv).below hb);replace BB:=bt BB hb;clear hb;cases ok
 ·
  obtain ⟨c0,c1,c2,c3,c4,c5⟩:=(uh kb).c6;go_wp2_with fail;clear c0 c1 c2 c3 c4 c5;refine ck (XV (uh Hv)) fun w2 hb=> ?_;replace kb:=bl kb hb;replace kr:=bl kr hb;replace Hv:=Z9 ((uh Hv).below hb);replace BB:=bt BB hb;clear hb;obtain ⟨o0,o1,o2,o3,o4,o5⟩:=(uh kr).c6;obtain ⟨f0,f1,f2,f3,f4,f5⟩:=(uh kr).f6;go_wp2_with fail;have hX0:X=(Ye,3):=by rw [<-uh HX];unfold V0;rw [uh Hok];rfl
  exact ZS (v:= .tuple #[.agg E6,.int .i64 3]) (by simp [results,Tryz.results33,go_sem, *]) rfl (Zb hX0 rfl (YM _ _) (uh BB))
 have hlo:=ZR (uh Hok);have HLo:=Z9 hlo;have HFew:=Z9 (Xn hlo);clear hlo;obtain ⟨c0,c1,c2,c3,c4,c5⟩:=(uh kb).c6;go_wp2_with fail;clear c0 c1 c2 c3 c4 c5;refine (T6 (uh Hv) (uh HFew) (uh kb) (uh kr) (uh BB)).mono ?_;clear kb kr Hv BB;rintro e w2 ⟨b0,q0,b1,q1,b2,q2,b3,q3,b4,q4,oq,rfl,W2,ob,hW2,hob2,kb,kr,Hv,HO,ko,LO,hob,BB⟩;go_upto_region 4 with fail
 (try rw [hW2])
 (try rw [hob2])
 clear hW2 hob2;obtain ⟨qb,hqb⟩:∃ q,Ud m b=q:=⟨_,rfl⟩
 have Hqb:=Z9 hqb;clear hqb;obtain ⟨c0,c1,c2,c3,c4,c5⟩:=(uh kb).c6;go_wp2_with fail;clear c0 c1 c2 c3 c4 c5;refine ck (Mt (uh Hqb) (uh Hv)) fun w3 hb=> ?_;replace kb:=bl kb hb;replace kr:=bl kr hb;replace Hv:=Z9 ((uh Hv).below hb);replace HO:=Z9 ((uh HO).below hb);replace ko:=bl ko hb;replace BB:=bt BB hb;clear hb;cases qb
 ·
  obtain ⟨x0,x1,x2,x3,x4,x5⟩:=(uh ko).c6;obtain ⟨o0,o1,o2,o3,o4,o5⟩:=(uh kr).c6;obtain ⟨f0,f1,f2,f3,f4,f5⟩:=(uh kr).f6;go_wp2_with fail;have hX0:X=(m,1):=by rw [<-uh HX];unfold V0;rw [uh Hok];simp only [if_true];rw [uh Hqb];rfl
  exact ZS (v:= .tuple #[.agg (S6 b0 q0 b1 q1 b2 q2 b3 q3 b4 q4 m),.int .i64 1]) (by simp [results,Tryz.results33,go_sem, *]) rfl (Zb hX0 rfl (uh HO) (uh BB))
 obtain ⟨bk,rfl,hbk⟩:=FW (uh Hqb);have hbk1:(bk:Int)<(m.dk.length:Int):=by omega
 have h8:=Xi (uh HLo);obtain ⟨op0,hop0⟩:∃ q,(Z8 m.dk bk).1=q:=⟨_,rfl⟩
 have Hop0:=Z9 hop0;obtain ⟨_,_,hde,_,_,r3⟩:=(uh Hv).dk;cases hde
 rcases r3 with e0 | ⟨db,doff,rfl,hdw,hcl⟩
 ·rw [e0] at hbk;simp at hbk
 obtain ⟨d0,_,_⟩:=Y4 hcl hbk;rw [hop0] at d0;have Hcl:=Z9 hcl;have c3:=(uh kb).cell (i:=3) (v:= .slice (some ⟨db,doff,none⟩) m.dk.length p3) rfl;clear hcl hop0;cases op0
 ·
  obtain ⟨x0,x1,x2,x3,x4,x5⟩:=(uh ko).c6;obtain ⟨o0,o1,o2,o3,o4,o5⟩:=(uh kr).c6;obtain ⟨f0,f1,f2,f3,f4,f5⟩:=(uh kr).f6;go_wp2_with fail;have hX0:X=(m,2):=by rw [<-uh HX];unfold V0;rw [uh Hok];simp only [if_true];rw [uh Hqb];simp only [if_true,Zy];rw [uh Hop0];rfl
  exact ZS (v:= .tuple #[.agg (S6 b0 q0 b1 q1 b2 q2 b3 q3 b4 q4 m),.int .i64 2]) (by simp [results,Tryz.results33,go_sem, *]) rfl (Zb hX0 rfl (uh HO) (uh BB))
 go_wp2_with fail;clear d0
 go_loopw [7,8] (fun u i wr=> ∃ k:Nat,k<=m.dk.length/\i= .int .i64 k/\u= .int .i64 ((YZ m bk k:Nat):Int)/\wr=w3) (fun _ i _=>m.dk.length-(intOf i).toNat)
 case atStart=>exact ⟨0,Zz _,rfl,rfl,rfl⟩
 case round=>
  obtain ⟨k,hk,rfl,rfl,hwr⟩:=hrel;subst wr;by_cases hlt:k<m.dk.length
  ·
   have hlt1:(k:Int)<(m.dk.length:Int):=by omega
   obtain ⟨d0,_,_⟩:=Y4 (uh Hcl) hlt;obtain ⟨q,hq⟩:∃ q,(Z8 m.dk k).1=q:=⟨_,rfl⟩
   rw [hq] at d0;have HY:Hid (((Z8 m.dk k).1 && !(k ==bk))=true->YZ m bk (k+1)=YZ m bk k ||| 2 ^ k):=Z9 CB;have HN:Hid (((Z8 m.dk k).1 && !(k ==bk))=false->YZ m bk (k+1)=YZ m bk k):=Z9 AW;rw [hq] at HY HN;clear hq;cases q
   ·
    go_wp2_with fail;go_roundw
    case rel=>exact ⟨k+1,by omega,by go_num,by rw [uh HN (by first | rfl | trivial)],by first | rfl | trivial⟩
    case measure=>exact ms
   by_cases hkb:k=bk
   ·
    have h1:((k:Int) !=(bk:Int))=false:=by rw [hkb];simp
    have HN2:Hid (YZ m bk (k+1)=YZ m bk k):=Z9 (uh HN (by rw [hkb];simp));clear hkb HY HN;go_wp2_with fail;go_roundw
    case rel=>exact ⟨k+1,by omega,by go_num,by rw [uh HN2],by first | rfl | trivial⟩
    case measure=>exact ms
   have hkb1:¬ ((k:Int)=(bk:Int)):=by omega
   have h1:((k:Int) !=(bk:Int))=true:=by simpa using hkb1
   have HY2:Hid (YZ m bk (k+1)=YZ m bk k ||| 2 ^ k):=Z9 (uh HY (by simp [hkb]));have hlo:=MI m bk k;have hp1:2 ^ k<=2 ^ 7:=Nat.pow_le_pow_right (by omega) (by omega);have hor:bits .or .i64 ((YZ m bk k:Nat):Int) ((2 ^ k:Nat):Int)=((YZ m bk k ||| 2 ^ k:Nat):Int):=yK (by omega) (by omega);have hpc:((2:Int) ^ ((k:Int)).toNat)=((2 ^ k:Nat):Int):=by rw [Zy];push_cast;rfl
   have Hor2:Hid (bits .or .i64 ((YZ m bk k:Nat):Int) ((2:Int) ^ k)=((YZ m bk k ||| 2 ^ k:Nat):Int)):=Z9 (by
    have h9:((2 ^ k:Nat):Int)=(2:Int) ^ k:=by push_cast;rfl
    rw [<-h9];exact hor)
   have Hpc:=Z9 hpc;clear hkb hkb1 HY HN hlo hp1 hor hpc;go_wp2_with fail;refine (RH (k:Int) (by omega) (by omega) _).mono ?_;rw [uh Hpc];rintro e w9 ⟨rfl,hw9⟩;subst w9;go_wp2_with fail;go_roundw
   case rel=>exact ⟨k+1,by omega,by go_num,by rw [uh HY2];exact congrArg _ (uh Hor2),by first | rfl | trivial⟩
   case measure=>exact ms
  ·
   obtain rfl:k=m.dk.length:=by omega
   obtain ⟨op,hop⟩:∃ q,YZ m bk m.dk.length=q:=⟨_,rfl⟩
   have hopl:=MI m bk m.dk.length;have hp8:2 ^ m.dk.length<=2 ^ 8:=Nat.pow_le_pow_right (by omega) h8;rw [hop] at hopl;rw [hop];have Hop:=Z9 hop;have hop8:op<256:=by omega
   clear hop hopl hp8;by_cases hz:op=0
   ·
    subst hz;have Hop9:Hid (YZ m bk m.dk.length=0):=Hop;have hz1:(((0:Nat):Int) ==0)=true:=rfl;obtain ⟨x0,x1,x2,x3,x4,x5⟩:=(uh ko).c6;obtain ⟨o0,o1,o2,o3,o4,o5⟩:=(uh kr).c6;obtain ⟨f0,f1,f2,f3,f4,f5⟩:=(uh kr).f6;go_wp2_with fail;have hX0:X=(m,5):=by rw [<-uh HX];unfold V0;rw [uh Hok];simp only [if_true];rw [uh Hqb];simp only [if_true,Zy];rw [uh Hop0];simp only [if_true];rw [if_pos (uh Hop9)]
    exact ZS (v:= .tuple #[.agg (S6 b0 q0 b1 q1 b2 q2 b3 q3 b4 q4 m),.int .i64 5]) (by simp [results,Tryz.results33,go_sem, *]) rfl (Zb hX0 rfl (uh HO) (uh BB))
   have Hz:=Z9 hz;have hz0:¬ ((op:Nat):Int)=0:=by omega
   have hz1:(((op:Nat):Int) ==0)=false:=by simpa using hz0
   have hz2:decide (((op:Nat):Int)=0)=false:=XE hz0;clear hz hz0;obtain ⟨c0,c1,c2,c3,c4,c5⟩:=(uh kb).c6;go_wp2_with fail;clear hz1 hz2 c0 c1 c2 c3 c4 c5;refine (Q2 (bk:Int) (uh Hv) (by have:=(uh HFew).sm;omega)).mono ?_;rintro e w5 ⟨v5,rfl,he5,hb⟩;obtain ⟨qa,qc,rfl⟩:=EntsAt.shape he5;have HE:=Z9 he5;have hW5:ob<w3.heap.size:=(uh ko).lt;have hlow:∀ k,Wa (.slice b0 m.rm.length q0) (.slice b1 m.gd.length q1) (.slice b2 m.sm.length q2) (.slice b3 m.dk.length q3) (.slice b4 m.pc.length q4) oq k->k<w3.heap.size:=fun k e=>((uh HO).own e).2;have Hlow:=Z9 hlow;clear he5 hlow;replace kb:=bl kb hb;replace kr:=bl kr hb;replace Hv:=Z9 ((uh Hv).below hb);replace HO:=Z9 ((uh HO).below hb);replace ko:=bl ko hb;replace BB:=bt BB hb;have hszq:=hb.size;clear hb;have Hsh:=Z9 (fun j hj=>JO (uh HLo) hbk (by rw [uh Hop];exact uh Hz) (k:=j) hj);rw [uh Hop] at Hsh
   have Hmq:Hid (∀ x ∈ atV m.sm (bk:Int) m.sm.length,∃ j:Nat,j<m.sm.length/\x.2=(j:Int)):=Z9 (fun x hx=>by
    obtain ⟨j,hj,_,_,rfl⟩:=(XC m.sm (bk:Int) x m.sm.length).1 hx
    exact ⟨j,hj,rfl⟩)
   have HV:Hid (X=(ZM (Yc op (Yb m bk false) (atV m.sm (bk:Int) m.sm.length) (atV m.sm (bk:Int) m.sm.length).length),0)):=Z9 (by rw [<-uh HX];unfold V0;rw [uh Hok];simp only [if_true];rw [uh Hqb];simp only [if_true,Zy];rw [uh Hop0];simp only [if_true];rw [uh Hop,if_neg (uh Hz)]);generalize atV m.sm (bk:Int) m.sm.length=q at *;obtain ⟨g3,hga,_,_,hc3,hz3⟩:=RecAt.view Zx (by omega) (uh HO).dk rfl (by omega);cases hga;have hg3o:=uh LO g3 (.inr (.inr (.inr (.inr (.inl rfl)))));have hg3w:=uh Hlow g3 (.inr (.inr (.inr (.inr (.inl rfl)))));have d0:=hc3 bk hbk 0 _ rfl;have f0:=hz3 (bk*3);have x3:=(uh ko).cell (i:=3) (v:= .slice (some ⟨g3,0,none⟩) m.dk.length q3) rfl;have hput:=(uh HO).putD rfl (j:=bk) (i:=0) hbk (by omega) (.bool false) (false,(Z8 m.dk bk).2) rfl;simp only [Nat.add_zero] at d0 hput;clear hc3 hz3;go_upto_region 18 with fail;clear d0 f0 x3;replace ko:Hid (Blk (w5.setCell ⟨g3,bk*3,none⟩ (.bool false)) ob 32 (S6 b0 q0 b1 q1 b2 q2 (some ⟨g3,0,none⟩) q3 b4 q4 m)):=Z9 ((uh ko).other (a:=⟨g3,bk*3,none⟩) (by show ob ≠ g3;omega) _);replace kr:Hid (Blk (w5.setCell ⟨g3,bk*3,none⟩ (.bool false)) (w.heap.size+1) 32 E6):=Z9 ((uh kr).other (a:=⟨g3,bk*3,none⟩) (by show (w.heap.size+1) ≠ g3;omega) _);replace kb:Hid (Blk (w5.setCell ⟨g3,bk*3,none⟩ (.bool false)) w.heap.size 32 #[.slice a0 m.rm.length p0,.slice a1 m.gd.length p1,.slice a2 m.sm.length p2,.slice (some ⟨db,doff,none⟩) m.dk.length p3,.slice a4 m.pc.length p4,.int .i64 m.now]):=Z9 ((uh kb).other (a:=⟨g3,bk*3,none⟩) (by show w.heap.size ≠ g3;omega) _);have HP:Hid (FullSmy (w.heap.size+2) (w5.setCell ⟨g3,bk*3,none⟩ (.bool false)) (.slice b0 m.rm.length q0) (.slice b1 m.gd.length q1) (.slice b2 m.sm.length q2) (.slice (some ⟨g3,0,none⟩) m.dk.length q3) (.slice b4 m.pc.length q4) (Yb m bk false) oq):=Z9 hput;replace HE:Hid (EntsAt w3.heap.size (w5.setCell ⟨g3,bk*3,none⟩ (.bool false)) (.slice qa q.length qc) q):=Z9 (EntsAt.same (uh HE) (fun k e=>heap_setCell_other _ _ _ _ (by have:=(EntsAt.lt (uh HE) e).1;show k ≠ g3;omega)));replace BB:Hid (Below w.heap.size w (w5.setCell ⟨g3,bk*3,none⟩ (.bool false))):=Z9 ((uh BB).setCell (p:=⟨g3,bk*3,none⟩) (by show w.heap.size<=g3;omega) _);clear hput HO Hv Hcl;generalize w5.setCell ⟨g3,bk*3,none⟩ (.bool false)=W5 at *;go_wp2_with fail
   go_loopw [10] (fun i wr=> ∃ j:Nat,j<=q.length/\i= .int .i64 j/\FullSmy (w.heap.size+2) wr (.slice b0 m.rm.length q0) (.slice b1 m.gd.length q1) (.slice b2 m.sm.length q2) (.slice (some ⟨g3,0,none⟩) m.dk.length q3) (.slice b4 m.pc.length q4) (Yc op (Yb m bk false) q j) oq/\Two (Value.slice b2 m.sm.length q2).ownBlock (some g3) W5 wr) (fun i _=>q.length-(intOf i).toNat)
   case atStart=>exact ⟨0,Zz _,rfl,uh HP,Two.refl _ _ _⟩
   case round=>
    obtain ⟨j,hj,rfl,hf1,htw⟩:=hrel;have hsh:=uh Hsh j hj;have HF1:=Z9 hf1;have Tw:=Z9 htw;have hP2:∀ b,(Value.slice b2 m.sm.length q2).ownBlock=some b->(w.heap.size+2<=b/\b<ob)/\b<w3.heap.size:=fun b e=>⟨uh LO b (.inr (.inr (.inr (.inl e)))),uh Hlow b (.inr (.inr (.inr (.inl e))))⟩
    have hPn:∀ R,(R<=w.heap.size+1\/ob<=R)->(Value.slice b2 m.sm.length q2).ownBlock ≠ some R:=fun R h e=>by have:=(hP2 R e).1;omega
    have hGn:∀ R,(R<=w.heap.size+1\/ob<=R)->some g3 ≠ some R:=fun R h e=>by cases e;omega
    replace kb:=Z9 ((uh kb).two htw (hPn _ (.inl (by omega))) (hGn _ (.inl (by omega))));replace ko:=Z9 ((uh ko).two htw (hPn _ (.inr (Z1 _))) (hGn _ (.inr (Z1 _))));replace kr:=Z9 ((uh kr).two htw (hPn _ (.inl (by omega))) (hGn _ (.inl (by omega))));replace HE:=Z9 (Two.ents (uh HE) htw (fun b e=>(hP2 b e).2) (fun b e=>by cases e;exact hg3w));have B1:=Z9 ((uh BB).trans (htw.below (uh BB).size (fun b e=>by have:=(hP2 b e).1;omega) (fun b e=>by cases e;omega)));obtain ⟨hm1,hm2,hm3,hm4,hm5,hm6,_,_,_⟩:=hsh;have hsh:=uh Hsh j hj;have hdl:(Yc op (Yb m bk false) q j).dk.length=m.dk.length:=by rw [hm5,Up]
    have Hst:Hid (Yc op (Yb m bk false) q (j+1)=Vl op (Yc op (Yb m bk false) q j) (Z7 q j).2.toNat):=Z9 rfl;clear hf1 htw;by_cases hjl:j<q.length
    ·
     have hjl1:(j:Int)<(q.length:Int):=by omega
     obtain ⟨_,_,hqe,_,_,hr⟩:=EntsAt.pc (uh HE);cases hqe
     rcases hr with e0 | ⟨eb,eo,rfl,hbw,hcl⟩
     ·rw [e0] at hjl;simp at hjl
     obtain ⟨_,c1⟩:=hcl j hjl;obtain ⟨i0,hi0,hie⟩:=uh Hmq _ (WR hjl);rw [hie] at c1;have hstill:IY q j i0:=⟨j,Z1 _,hjl,hie⟩
     rw [hie,Zy] at Hst;have hX:=hsh.closeX (uh HLo) hstill op;obtain ⟨hxl,hxp,hxb,_⟩:=hX.left i0 hstill;obtain ⟨hxpb,_⟩:=hX.pres hstill;have HSx:=Z9 (hX.sane (uh HLo));obtain ⟨jb,hjb,hjbe,_⟩:=(by have h9:=hsh.chosen (uh HLo) hbk (by rw [uh Hop];exact uh Hz) hstill;rw [uh Hop] at h9;exact h9:∃ jb:Nat,jb<(Yc op (Yb m bk false) q j).dk.length/\Jd op (Yc op (Yb m bk false) q j) i0=(jb:Int)/\YH (closeX op (Yc op (Yb m bk false) q j) i0) (i0:Int) jb=true)
     obtain ⟨hml,hmp,_,_⟩:=hsh.left i0 hstill;obtain ⟨hmpb,_⟩:=hsh.pres hstill;have hxd:(closeX op (Yc op (Yb m bk false) q j) i0).dk.length=m.dk.length:=hdl;have hxpc:(closeX op (Yc op (Yb m bk false) q j) i0).pc=m.pc:=hm3;have hxn:(closeX op (Yc op (Yb m bk false) q j) i0).now=m.now:=hm4;have hi1:(i0:Int)<(m.sm.length:Int):=by omega
     generalize Yc op (Yb m bk false) q j=M at *
     have hmay:1<=(Z8 M.sm i0).2.2.2.1/\(Z8 M.sm i0).2.2.2.1<=255:=by
      generalize Z8 M.sm i0=s9 at *;obtain ⟨st,be,rk,my,gu,lo',hi',hd,ca,ut,wk⟩:=s9;exact (Zo hmpb).2.2.2.1
     have hxmay:0<=(Z8 (closeX op M i0).sm i0).2.2.2.1/\(Z8 (closeX op M i0).sm i0).2.2.2.1<=255/\(Z8 (closeX op M i0).sm i0).1 ≠ 0:=by
      generalize Z8 (closeX op M i0).sm i0=s9 at *;obtain ⟨st,be,rk,my,gu,lo',hi',hd,ca,ut,wk⟩:=s9;obtain ⟨p0,_,_,p3,_⟩:=Zo hxpb;exact ⟨by show (0:Int)<=my;omega,p3.2,by show st ≠ 0;omega⟩
     have HAx:Hid (Si (closeX op M i0) i0):=Z9 ⟨hxl,hxmay.2.2,hxmay.1,hxmay.2.1⟩;have Hjb:Hid (Jd op M i0=(jb:Int)):=Z9 hjbe;have Hcb:Hid (Y3 (closeX op M i0) (i0:Int)=(jb:Int)):=Z9 hjbe;have Hxb:=Z9 hxb;have Hxl:=Z9 hxl;have Hxn:=Z9 hxn;have Hxd:=Z9 hxd;have HPx:Hid ((closeX op M i0).pc.length<=1000):=Z9 (by rw [hxpc];exact Tq (uh HLo));have hjb2:jb<m.dk.length:=by omega
     obtain ⟨my,hmy⟩:∃ q',(Z8 M.sm i0).2.2.2.1=q':=⟨_,rfl⟩
     rw [hmy] at hmay;obtain ⟨mn,rfl⟩:∃ mn:Nat,my=(mn:Int):=⟨my.toNat,by omega⟩
     have hmn:mn<256:=by omega
     have Hmy:=Z9 hmy;have hlM:m.sm.length=M.sm.length:=hm6.symm;have HlM:=Z9 hlM;have Hml:=Z9 hml;clear hX hxp hxpb hmp hmpb hxmay hjbe hxb hxl hxn hxd hxpc hcl hie hsh hm1 hm2 hm3 hm4 hm5 hmay hmy;obtain ⟨g2,hga,_,_,hc2,hz2⟩:=RecAt.view ZT (by omega) (uh HF1).sm hlM (by omega);cases hga;have hg2o:=hP2 g2 rfl;have s3:=hc2 i0 hml 3 _ rfl;rw [uh Hmy] at s3;have f3:=hz2 (i0*11+3);have x2:=(uh ko).cell (i:=2) (v:= .slice (some ⟨g2,0,none⟩) m.sm.length q2) rfl;have hand:bits .and .i64 (mn:Int) ((op:Nat):Int)=((mn &&& op:Nat):Int):=zo hmn hop8;clear hc2 hz2 hlM hm6 hml;by_cases hza:mn &&& op=0
     ·
      have hand0:bits .and .i64 (mn:Int) ((op:Nat):Int)=0:=by rw [hand,hza];rfl
      have HXe:Hid (closeX op M i0=setS M i0 (SG (Z8 M.sm i0) (Yt m.dk.length))):=Z9 (by rw [Eb (by rw [uh Hmy,Zy];exact hza),hdl]);clear hand hza;have hput:=(uh HF1).putS (uh HlM) (j:=i0) (i:=3) (uh Hml) (by omega) (.int .i64 (Yt m.dk.length)) (SG (Z8 M.sm i0) (Yt m.dk.length)) rfl;have hab:(2:Int) ^ ((m.dk.length:Int)).toNat-1=Yt m.dk.length:=by rw [Zy];rfl
      have hpb:(2:Int) ^ ((m.dk.length:Int)).toNat=Yt m.dk.length+1:=by rw [<-hab];omega
      have habn:=LF (n:=m.dk.length) (by omega) h8;have Hpb2:=Z9 hpb;have c3:=(uh kb).cell (i:=3) (v:= .slice (some ⟨db,doff,none⟩) m.dk.length p3) rfl;clear hab hpb;go_upto_region 23 with fail;clear c1 s3;refine ZL (S:=fun w'=>w'.cell? ⟨ob,2,none⟩=some (.slice (some ⟨g2,0,none⟩) m.sm.length q2)/\w'.cell? ⟨w.heap.size,3,none⟩=some (.slice (some ⟨db,doff,none⟩) m.dk.length p3)) (by kernel_rfl) (WU _ _) (by kernel_rfl) ⟨x2,c3⟩ (fun hHeld=> ?_);simp only [WV,WW,YQ,YC,Nat.zero_add,Nat.reduceAdd]
      iterate 5 refine tz ?_
      refine rd 5 rfl (fun K hK=> ?_);go_simp;refine hK.out _ _ hHeld (fun hHeld=> ?_);clear hK K
      (try simp only [Act.put,sA,sZ,sS])
      refine rd 6 rfl (fun K hK=> ?_);go_simp;refine (RH (m.dk.length:Int) (by omega) (by omega) _).mono ?_;rw [uh Hpb2];rintro e9 w9 ⟨rfl,hw9⟩;subst w9;refine hK.out _ _ hHeld (fun hHeld=> ?_);clear hK K
      (try simp only [Act.put,sA,sZ,sS])
      refine tp 7 ?_;refine tp 8 ?_;refine tp 9 ?_;obtain ⟨_,hga,_,_,hc2,hz2⟩:=RecAt.view ZT (by omega) ((uh HF1).below (ZZ _ _).drew).sm (uh HlM) (by have:=uh Hml;omega);cases hga;have s3:=hc2 i0 (uh Hml) 3 _ rfl;rw [uh Hmy] at s3;have f3d:=hz2 (i0*11+3);clear hc2 hz2;refine wpAnyH_done (by kernel_rfl) ?_ _;refine ZD rfl rfl ?_;go_simp;clear hHeld x2 c3 s3 f3 f3d;have hwp:IntKind.i64.wrap (Yt m.dk.length)=Yt m.dk.length:=by rw [IntKind.wrap_i64];omega
      go_upto_region 24 with fail
      try rw [hwp]
      have HFX:Hid (FullSmy (w.heap.size+2) ((wr.setCell ⟨g2,i0*11+3,none⟩ (.int .i64 (Yt m.dk.length))).drew) (.slice b0 m.rm.length q0) (.slice b1 m.gd.length q1) (.slice (some ⟨g2,0,none⟩) m.sm.length q2) (.slice (some ⟨g3,0,none⟩) m.dk.length q3) (.slice b4 m.pc.length q4) (closeX op M i0) oq):=Z9 (by rw [uh HXe];exact hput.below (ZZ _ _).drew);have T2:Hid (Two (some g2) (some g3) W5 ((wr.setCell ⟨g2,i0*11+3,none⟩ (.int .i64 (Yt m.dk.length))).drew)):=Z9 (((uh Tw).trans (Two.of_set wr (.inl rfl) _ _)).trans (Two.of_below (ZZ _ _).drew));replace ko:Hid (Blk ((wr.setCell ⟨g2,i0*11+3,none⟩ (.int .i64 (Yt m.dk.length))).drew) ob 32 (S6 b0 q0 b1 q1 (some ⟨g2,0,none⟩) q2 (some ⟨g3,0,none⟩) q3 b4 q4 m)):=Z9 (((uh ko).other (a:=⟨g2,i0*11+3,none⟩) (by show ob ≠ g2;omega) (.int .i64 (Yt m.dk.length))).below (ZZ _ _).drew ((uh ko).other (a:=⟨g2,i0*11+3,none⟩) (by show ob ≠ g2;omega) (.int .i64 (Yt m.dk.length))).lt);clear hput;generalize (wr.setCell ⟨g2,i0*11+3,none⟩ (.int .i64 (Yt m.dk.length))).drew=Y at *;have Hc:=Z9 (by have h9:=WD (m:=closeX op M i0) (who:=i0) (uh HFX).smy (uh HSx) (uh HPx) (uh HAx);rw [uh Hxn,uh Hcb] at h9;exact h9:Calls Tryz.prog 49 #[.agg (S6 b0 q0 b1 q1 (some ⟨g2,0,none⟩) q2 (some ⟨g3,0,none⟩) q3 b4 q4 m),.int .i64 (i0:Int)] Y fun e w'=>e= .returned (.int .i64 (jb:Int))/\Below Y.heap.size Y w');obtain ⟨y0,y1,y2,y3,y4,y5⟩:=(uh ko).c6;go_wp2_with fail;clear y0 y1 y2 y3 y4 y5;refine ck (uh Hc) fun w7 hb=> ?_;replace HFX:=Z9 ((uh HFX).below hb);replace T2:=Z9 ((uh T2).trans (Two.of_below hb));have k8:Hid (Blk w7 ob 32 #[.slice b0 m.rm.length q0,.slice b1 m.gd.length q1,.slice (some ⟨g2,0,none⟩) m.sm.length q2,.slice (some ⟨g3,0,none⟩) m.dk.length q3,.slice b4 m.pc.length q4,.int .i64 (closeX op M i0).now]):=Z9 (by rw [uh Hxn];exact (uh ko).below hb (uh ko).lt);clear hb Hc;go_wp2_with fail;refine (Ug (m:=closeX op M i0) (k:=i0) (bn:=bk) (b:=jb) (uh k8) (uh HFX) (hPn _ (.inr (Z1 _))) (hGn _ (.inr (Z1 _))) (uh Hxl) (uh Hxb) (by rw [uh Hxd];exact hbk) (by rw [uh Hxd];exact hjb2)).mono ?_;rintro e w8 ⟨rfl,hf8,ht8⟩;have HF8:=Z9 hf8;replace T2:=Z9 ((uh T2).trans ht8);clear hf8 ht8;go_wp2_with fail;go_roundw
      case rel=>exact ⟨j+1,by omega,by go_num,by rw [uh Hst];unfold Vl;rw [uh Hjb];exact uh HF8,uh T2⟩
      case measure=>exact ms
     ·
      have HXe:closeX op M i0=M:=F8 (uh Hml) (by rw [uh Hmy,Zy];exact hza);have HFX:Hid (FullSmy (w.heap.size+2) wr (.slice b0 m.rm.length q0) (.slice b1 m.gd.length q1) (.slice (some ⟨g2,0,none⟩) m.sm.length q2) (.slice (some ⟨g3,0,none⟩) m.dk.length q3) (.slice b4 m.pc.length q4) (closeX op M i0) oq):=Z9 (by rw [HXe];exact uh HF1);have T2:Hid (Two (some g2) (some g3) W5 wr):=Tw;obtain ⟨na,hna⟩:∃ q',mn &&& op=q':=⟨_,rfl⟩
      rw [hna] at hand hza;have hna0:¬ ((na:Nat):Int)=0:=by omega
      have hna1:(((na:Nat):Int) ==0)=false:=by simpa using hna0
      have hna2:decide (((na:Nat):Int)=0)=false:=XE hna0;clear hna hza HXe hna0;go_upto_region 24 with fail;clear c1 s3 x2 f3 hna1 hna2 hand;have Hc:=Z9 (by have h9:=WD (m:=closeX op M i0) (who:=i0) (uh HFX).smy (uh HSx) (uh HPx) (uh HAx);rw [uh Hxn,uh Hcb] at h9;exact h9:Calls Tryz.prog 49 #[.agg (S6 b0 q0 b1 q1 (some ⟨g2,0,none⟩) q2 (some ⟨g3,0,none⟩) q3 b4 q4 m),.int .i64 (i0:Int)] wr fun e w'=>e= .returned (.int .i64 (jb:Int))/\Below wr.heap.size wr w');obtain ⟨y0,y1,y2,y3,y4,y5⟩:=(uh ko).c6;go_wp2_with fail;clear y0 y1 y2 y3 y4 y5;refine ck (uh Hc) fun w7 hb=> ?_;replace HFX:=Z9 ((uh HFX).below hb);replace T2:=Z9 ((uh T2).trans (Two.of_below hb));have k8:Hid (Blk w7 ob 32 #[.slice b0 m.rm.length q0,.slice b1 m.gd.length q1,.slice (some ⟨g2,0,none⟩) m.sm.length q2,.slice (some ⟨g3,0,none⟩) m.dk.length q3,.slice b4 m.pc.length q4,.int .i64 (closeX op M i0).now]):=Z9 (by rw [uh Hxn];exact (uh ko).below hb (uh ko).lt);clear hb Hc;go_wp2_with fail;refine (Ug (m:=closeX op M i0) (k:=i0) (bn:=bk) (b:=jb) (uh k8) (uh HFX) (hPn _ (.inr (Z1 _))) (hGn _ (.inr (Z1 _))) (uh Hxl) (uh Hxb) (by rw [uh Hxd];exact hbk) (by rw [uh Hxd];exact hjb2)).mono ?_;rintro e w8 ⟨rfl,hf8,ht8⟩;have HF8:=Z9 hf8;replace T2:=Z9 ((uh T2).trans ht8);clear hf8 ht8;go_wp2_with fail;go_roundw
      case rel=>exact ⟨j+1,by omega,by go_num,by rw [uh Hst];unfold Vl;rw [uh Hjb];exact uh HF8,uh T2⟩
      case measure=>exact ms
    ·
     obtain rfl:j=q.length:=by omega
     have h12:=YS (uh HLo);have Hmn:=Z9 hm4;have hl9:(Yc op (Yb m bk false) q q.length).sm.length<=800:=by rw [hm6];omega
     have hd9:(Yc op (Yb m bk false) q q.length).dk.length<=1000:=by omega
     replace BB:=B1;clear hsh hm1 hm2 hm3 hm4 hm5 hm6 hdl;generalize Yc op (Yb m bk false) q q.length=M at *;go_wp2_with fail;refine (Ou (m:=M) (uh Hmn) (uh ko) (uh HF1) (hPn _ (.inr (Z1 _))) (hGn _ (.inr (Z1 _))) hl9 hd9).mono ?_;rintro e w9 ⟨rfl,hf9,ht9⟩;replace kr:=Z9 ((uh kr).two ht9 (hPn _ (.inl (by omega))) (hGn _ (.inl (by omega))));replace BB:=Z9 ((uh BB).trans (ht9.below (uh BB).size (fun b e=>by have:=(hP2 b e).1;omega) (fun b e=>by have h9:g3=b:=Option.some.inj e;omega)));have HF9:=Z9 hf9;clear hf9 ht9;obtain ⟨o0,o1,o2,o3,o4,o5⟩:=(uh kr).c6;obtain ⟨f0,f1,f2,f3,f4,f5⟩:=(uh kr).f6;go_wp2_with fail;have hnow9:(ZM M).now=m.now:=((ZH _ _).2.2.2.1).trans (uh Hmn);refine ZS (v:= .tuple #[.agg (S6 b0 q0 b1 q1 b2 q2 (some ⟨g3,0,none⟩) q3 b4 q4 m),.int .i64 0]) (by simp [results,Tryz.results33,go_sem, *]) rfl ⟨?_,?_⟩
     ·rw [uh HV];refine ⟨_,_,_,_,_,oq,by rw [hnow9],?_⟩
      iterate 6 (refine FullSmy.set_off ?_ (fun k e=>by have:=(uh LO k e).1;omega) _ _)
      exact (uh HF9).mono (by omega)
     ·iterate 6 (refine YO ?_ (by show _<=w.heap.size+1;omega) _)
      exact uh BB
open Go.ChangeShapes Go.WideShapes Go.ChangeAt Go.RowKit Go.Sort Go.Deep
theorem P6 {a b c n l:Int} (h:We a b c=true) (hn:SS a b c=n) (hl:SR a b c=l) (w:World):Calls Tryz.prog 301 #[.int .i64 a,.int .i64 b,.int .i64 c] w fun e w'=>e= .returned (.tuple #[.int .i64 n,.int .i64 l])/\ ∃ m,w'=w.drewN m:=by
 obtain ⟨h1,h2⟩:=KE h;rw [<-hn,<-hl,h1,h2];clear h1 h2 hn hl;obtain ⟨a0,a1,b0,b1,c0,c1⟩:=ES h;have ha:inB a 0 1000000000=true:=Zp a0 a1;have hb:inB b 1 100000=true:=Zp b0 b1;have hc:inB c 0 (b-1)=true:=Zp c0 (by omega);go_enter Tryz.func301,Tryz.ntmps301;go_wp2_with (first | (go_at_call 309;refine (Ti _ _).mono ?_;rintro e w' ⟨rfl,rfl⟩) | (go_at_call 59;refine (ZV _ _ _ _).mono ?_;rintro e w' ⟨rfl,rfl⟩))
 go_quiet (fail);go_wp2_with fail
 go_ret2
 exact ⟨rfl,_,rfl⟩
theorem Fk (work:Int) (w:World):Calls Tryz.prog 279 #[.agg E11,.int .i64 work] w fun e w'=>e= .returned (.tuple #[.agg E11,.bool false])/\Below w.heap.size w w':=by
 have Hs:Hid (Zw (0,0,0,0,0,0,0,0,0,0,0)=true):=Z9 rfl;go_enter Tryz.func279,Tryz.ntmps279;go_wp2_with fail;refine (Zk 0 0 0 0 0 0 0 0 0 0 0 _).mono ?_;rw [uh Hs];rintro e w1 ⟨rfl,hb⟩;have kb:Blk w1 w.heap.size 40 E11:=((Blk.new w 40 E11).alloc _).below hb (by simp;omega)
 have ko:Blk w1 (w.heap.size+1) 40 E11:=by
  have k:=Blk.new (w.alloc (.cells E11 40)) 40 E11;rw [Y1] at k;exact k.below hb (by simp)
 have hsz:w.heap.size+2<=w1.heap.size:=by have:=hb.size;simp at this;omega
 have hl0:w.heap.size<w1.heap.size:=by omega
 have hl1:w.heap.size+1<w1.heap.size:=by omega
 have B1:=Z9 ((((ZZ w.heap.size w).alloc (Z1 _) _).alloc (by simp) _).trans (hb.mono (by simp;omega)));have Kb:=Z9 kb;have Ko:=Z9 ko;obtain ⟨c0,c1,c2,c3,c4,c5,c6,c7,c8,c9,c10⟩:=kb.c11;obtain ⟨o0,o1,o2,o3,o4,o5,o6,o7,o8,o9,o10⟩:=ko.c11;obtain ⟨of0,of1,of2,of3,of4,of5,of6,of7,of8,of9,of10⟩:=ko.f11;clear hb kb ko;go_wp2_with fail;refine ZS (v:= .tuple #[.agg E11,.bool false]) (by simp [results,Tryz.results279,go_sem,o0,o1,o2,o3,o4,o5,o6,o7,o8,o9,o10]) rfl ⟨rfl,?_⟩
 iterate 11 (refine YO ?_ (by simp) _)
 exact uh B1
theorem Ix {st be rk my gu lo hi hd ca ut wk:Int} (work:Int) (w:World) (hs:Zw (st,be,rk,my,gu,lo,hi,hd,ca,ut,wk)=false):Calls Tryz.prog 279 #[.agg (I11 st be rk my gu lo hi hd ca ut wk),.int .i64 work] w fun e w'=>e= .returned (.tuple #[.agg E11,.bool false])/\Below w.heap.size w w':=by
 have Hs:=Z9 hs;clear hs;go_enter Tryz.func279,Tryz.ntmps279;go_wp2_with fail;refine (Zk st be rk my gu lo hi hd ca ut wk _).mono ?_;rw [uh Hs];rintro e w1 ⟨rfl,hb⟩;have kb:Blk w1 w.heap.size 40 (I11 st be rk my gu lo hi hd ca ut wk):=((Blk.new w 40 (I11 st be rk my gu lo hi hd ca ut wk)).alloc _).below hb (by simp;omega)
 have ko:Blk w1 (w.heap.size+1) 40 E11:=by
  have k:=Blk.new (w.alloc (.cells (I11 st be rk my gu lo hi hd ca ut wk) 40)) 40 E11;rw [Y1] at k;exact k.below hb (by simp)
 have hsz:w.heap.size+2<=w1.heap.size:=by have:=hb.size;simp at this;omega
 have hl0:w.heap.size<w1.heap.size:=by omega
 have hl1:w.heap.size+1<w1.heap.size:=by omega
 have B1:=Z9 ((((ZZ w.heap.size w).alloc (Z1 _) _).alloc (by simp) _).trans (hb.mono (by simp;omega)));have Kb:=Z9 kb;have Ko:=Z9 ko;obtain ⟨c0,c1,c2,c3,c4,c5,c6,c7,c8,c9,c10⟩:=kb.c11;obtain ⟨o0,o1,o2,o3,o4,o5,o6,o7,o8,o9,o10⟩:=ko.c11;obtain ⟨of0,of1,of2,of3,of4,of5,of6,of7,of8,of9,of10⟩:=ko.f11;clear hb kb ko;go_wp2_with fail;refine ZS (v:= .tuple #[.agg E11,.bool false]) (by simp [results,Tryz.results279,go_sem,o0,o1,o2,o3,o4,o5,o6,o7,o8,o9,o10]) rfl ⟨rfl,?_⟩
 iterate 11 (refine YO ?_ (by simp) _)
 exact uh B1
theorem Bm {st be rk my gu lo hi hd ca ut wk:Int} (work:Int) (w:World) (hs:Zw (st,be,rk,my,gu,lo,hi,hd,ca,ut,wk)=true) (hst:(st ==0)=false) (hw:inB work 0 100000=false):Calls Tryz.prog 279 #[.agg (I11 st be rk my gu lo hi hd ca ut wk),.int .i64 work] w fun e w'=>e= .returned (.tuple #[.agg (I11 st be rk my gu lo hi hd ca ut wk),.bool false])/\Below w.heap.size w w':=by
 have Hs:=Z9 hs;clear hs;go_enter Tryz.func279,Tryz.ntmps279;go_wp2_with fail;refine (Zk st be rk my gu lo hi hd ca ut wk _).mono ?_;rw [uh Hs];rintro e w1 ⟨rfl,hb⟩;have kb:Blk w1 w.heap.size 40 (I11 st be rk my gu lo hi hd ca ut wk):=((Blk.new w 40 (I11 st be rk my gu lo hi hd ca ut wk)).alloc _).below hb (by simp;omega)
 have ko:Blk w1 (w.heap.size+1) 40 E11:=by
  have k:=Blk.new (w.alloc (.cells (I11 st be rk my gu lo hi hd ca ut wk) 40)) 40 E11;rw [Y1] at k;exact k.below hb (by simp)
 have hsz:w.heap.size+2<=w1.heap.size:=by have:=hb.size;simp at this;omega
 have hl0:w.heap.size<w1.heap.size:=by omega
 have hl1:w.heap.size+1<w1.heap.size:=by omega
 have B1:=Z9 ((((ZZ w.heap.size w).alloc (Z1 _) _).alloc (by simp) _).trans (hb.mono (by simp;omega)));have Kb:=Z9 kb;have Ko:=Z9 ko;obtain ⟨c0,c1,c2,c3,c4,c5,c6,c7,c8,c9,c10⟩:=kb.c11;obtain ⟨o0,o1,o2,o3,o4,o5,o6,o7,o8,o9,o10⟩:=ko.c11;obtain ⟨of0,of1,of2,of3,of4,of5,of6,of7,of8,of9,of10⟩:=ko.f11;clear hb kb ko;go_wp2_with (go_at_call 59;refine (ZV _ _ _ _).mono ?_;rintro e w' ⟨rfl,h9⟩;subst w')
 refine ZS (v:= .tuple #[.agg (I11 st be rk my gu lo hi hd ca ut wk),.bool false]) (by simp [results,Tryz.results279,go_sem,o0,o1,o2,o3,o4,o5,o6,o7,o8,o9,o10]) rfl ⟨rfl,?_⟩
 iterate 11 (refine YO ?_ (by simp) _)
 exact uh B1
theorem CS {st be rk my gu lo hi hd ca ut wk:Int} {work x n l:Int} (hx:Zi rk=x) (hok:We work x ca=true) (hn:SS work x ca=n) (hl:SR work x ca=l) (n0:0<=n) (n1:n<=400000)
  (d0 : -1000000000000<=hd) (d1:hd<=1000000000000) (k0:0<=wk) (k1:wk<=100000000000) (v0:0<=work) (v1:work<=100000) (hs:Zw (st,be,rk,my,gu,lo,hi,hd,ca,ut,wk)=true) (hst:(st ==0)=false) (h2:Zw (st,be,rk,my,gu,lo,hi,(hd+n),l,ut,(wk+work))=true):Calls Tryz.prog 279 #[.agg (I11 st be rk my gu lo hi hd ca ut wk),.int .i64 work] w fun e w'=>e= .returned (.tuple #[.agg (I11 st be rk my gu lo hi (hd+n) l ut (wk+work)),.bool true])/\Below w.heap.size w w':=by
 have Hs:=Z9 hs;have H2:=Z9 h2;have Hx:=Z9 hx;have Hok:=Z9 hok;have Hn:=Z9 hn;have Hl:=Z9 hl;have hw:inB work 0 100000=true:=Zp v0 v1;clear hx hok hn hl hs h2;go_enter Tryz.func279,Tryz.ntmps279;go_wp2_with fail;refine (Zk st be rk my gu lo hi hd ca ut wk _).mono ?_;rw [uh Hs];rintro e w1 ⟨rfl,hb⟩;have kb:Blk w1 w.heap.size 40 (I11 st be rk my gu lo hi hd ca ut wk):=((Blk.new w 40 (I11 st be rk my gu lo hi hd ca ut wk)).alloc _).below hb (by simp;omega)
 have ko:Blk w1 (w.heap.size+1) 40 E11:=by
  have k:=Blk.new (w.alloc (.cells (I11 st be rk my gu lo hi hd ca ut wk) 40)) 40 E11;rw [Y1] at k;exact k.below hb (by simp)
 have hsz:w.heap.size+2<=w1.heap.size:=by have:=hb.size;simp at this;omega
 have hl0:w.heap.size<w1.heap.size:=by omega
 have hl1:w.heap.size+1<w1.heap.size:=by omega
 have B1:=Z9 ((((ZZ w.heap.size w).alloc (Z1 _) _).alloc (by simp) _).trans (hb.mono (by simp;omega)));have Kb:=Z9 kb;have Ko:=Z9 ko;obtain ⟨c0,c1,c2,c3,c4,c5,c6,c7,c8,c9,c10⟩:=kb.c11;obtain ⟨o0,o1,o2,o3,o4,o5,o6,o7,o8,o9,o10⟩:=ko.c11;obtain ⟨of0,of1,of2,of3,of4,of5,of6,of7,of8,of9,of10⟩:=ko.f11;clear hb kb ko;go_wp2_with (go_at_call 59;refine (ZV _ _ _ _).mono ?_;rintro e w' ⟨rfl,h9⟩;subst w')
 go_quiet (first | exact Yg (Yy (uh Hx) _) | exact Calls.quiet_of (P6 (uh Hok) (uh Hn) (uh Hl) _));have kb:Blk (w1.drewN nq) w.heap.size 40 (I11 st be rk my gu lo hi hd ca ut wk):=uh Kb;have ko:Blk (w1.drewN nq) (w.heap.size+1) 40 E11:=uh Ko;have b1:=Yp (uh B1) nq;clear c0 o0 of0 c1 o1 of1 c2 o2 of2 c3 o3 of3 c4 o4 of4 c5 o5 of5 c6 o6 of6 c7 o7 of7 c8 o8 of8 c9 o9 of9 c10 o10 of10 Kb Ko B1 hl0 hl1;rw [show w1.heap.size=(w1.drewN nq).heap.size from rfl] at hsz;generalize w1.drewN nq=W1 at *;have hl0:w.heap.size<W1.heap.size:=by omega
 have hl1:w.heap.size+1<W1.heap.size:=by omega
 have Kb:=Z9 kb;have Ko:=Z9 ko;have B1:=Z9 b1;obtain ⟨c0,c1,c2,c3,c4,c5,c6,c7,c8,c9,c10⟩:=kb.c11;obtain ⟨o0,o1,o2,o3,o4,o5,o6,o7,o8,o9,o10⟩:=ko.c11;obtain ⟨of0,of1,of2,of3,of4,of5,of6,of7,of8,of9,of10⟩:=ko.f11;clear kb ko b1;go_wp2_with fail;refine (Zk st be rk my gu lo hi (hd+n) l ut (wk+work) _).mono ?_;rw [uh H2];rintro e w2 ⟨rfl,hb⟩;have kb:Blk w2 w.heap.size 40 (I11 st be rk my gu lo hi hd ca ut wk):=(hb.block w.heap.size (by simp;omega)).trans ((uh Kb).alloc (.cells (I11 st be rk my gu lo hi (hd+n) l ut (wk+work)) 40));have ko:Blk w2 (w.heap.size+1) 40 E11:=(hb.block (w.heap.size+1) (by simp;omega)).trans ((uh Ko).alloc (.cells (I11 st be rk my gu lo hi (hd+n) l ut (wk+work)) 40));have kn:Blk w2 W1.heap.size 40 (I11 st be rk my gu lo hi (hd+n) l ut (wk+work)):=(hb.block W1.heap.size (by simp)).trans (Blk.new W1 40 (I11 st be rk my gu lo hi (hd+n) l ut (wk+work)));have B2:Hid (Below w.heap.size w w2):=Z9 (((uh B1).alloc (by omega) (.cells (I11 st be rk my gu lo hi (hd+n) l ut (wk+work)) 40)).trans (hb.mono (by simp;omega)));clear c0 o0 of0 c1 o1 of1 c2 o2 of2 c3 o3 of3 c4 o4 of4 c5 o5 of5 c6 o6 of6 c7 o7 of7 c8 o8 of8 c9 o9 of9 c10 o10 of10 Kb Ko;obtain ⟨p0,p1,p2,p3,p4,p5,p6,p7,p8,p9,p10⟩:=kn.c11;obtain ⟨o0,o1,o2,o3,o4,o5,o6,o7,o8,o9,o10⟩:=ko.c11;obtain ⟨of0,of1,of2,of3,of4,of5,of6,of7,of8,of9,of10⟩:=ko.f11;clear hb kb ko kn;go_wp2_with fail;refine ZS (v:= .tuple #[.agg (I11 st be rk my gu lo hi (hd+n) l ut (wk+work)),.bool true]) (by simp [results,Tryz.results279,go_sem,o0,o1,o2,o3,o4,o5,o6,o7,o8,o9,o10]) rfl ⟨rfl,?_⟩
 iterate 11 (refine YO ?_ (by simp) _)
 exact uh B2
theorem Fl {st be rk my gu lo hi hd ca ut wk:Int} {work x n l:Int} (hx:Zi rk=x) (hok:We work x ca=true) (hn:SS work x ca=n) (hl:SR work x ca=l) (n0:0<=n) (n1:n<=400000)
  (d0 : -1000000000000<=hd) (d1:hd<=1000000000000) (k0:0<=wk) (k1:wk<=100000000000) (v0:0<=work) (v1:work<=100000) (hs:Zw (st,be,rk,my,gu,lo,hi,hd,ca,ut,wk)=true) (hst:(st ==0)=false) (h2:Zw (st,be,rk,my,gu,lo,hi,(hd+n),l,ut,(wk+work))=false):Calls Tryz.prog 279 #[.agg (I11 st be rk my gu lo hi hd ca ut wk),.int .i64 work] w fun e w'=>e= .returned (.tuple #[.agg (I11 st be rk my gu lo hi hd ca ut wk),.bool false])/\Below w.heap.size w w':=by
 have Hs:=Z9 hs;have H2:=Z9 h2;have Hx:=Z9 hx;have Hok:=Z9 hok;have Hn:=Z9 hn;have Hl:=Z9 hl;have hw:inB work 0 100000=true:=Zp v0 v1;clear hx hok hn hl hs h2;go_enter Tryz.func279,Tryz.ntmps279;go_wp2_with fail;refine (Zk st be rk my gu lo hi hd ca ut wk _).mono ?_;rw [uh Hs];rintro e w1 ⟨rfl,hb⟩;have kb:Blk w1 w.heap.size 40 (I11 st be rk my gu lo hi hd ca ut wk):=((Blk.new w 40 (I11 st be rk my gu lo hi hd ca ut wk)).alloc _).below hb (by simp;omega)
 have ko:Blk w1 (w.heap.size+1) 40 E11:=by
  have k:=Blk.new (w.alloc (.cells (I11 st be rk my gu lo hi hd ca ut wk) 40)) 40 E11;rw [Y1] at k;exact k.below hb (by simp)
 have hsz:w.heap.size+2<=w1.heap.size:=by have:=hb.size;simp at this;omega
 have hl0:w.heap.size<w1.heap.size:=by omega
 have hl1:w.heap.size+1<w1.heap.size:=by omega
 have B1:=Z9 ((((ZZ w.heap.size w).alloc (Z1 _) _).alloc (by simp) _).trans (hb.mono (by simp;omega)));have Kb:=Z9 kb;have Ko:=Z9 ko;obtain ⟨c0,c1,c2,c3,c4,c5,c6,c7,c8,c9,c10⟩:=kb.c11;obtain ⟨o0,o1,o2,o3,o4,o5,o6,o7,o8,o9,o10⟩:=ko.c11;obtain ⟨of0,of1,of2,of3,of4,of5,of6,of7,of8,of9,of10⟩:=ko.f11;clear hb kb ko;go_wp2_with (go_at_call 59;refine (ZV _ _ _ _).mono ?_;rintro e w' ⟨rfl,h9⟩;subst w')
 go_quiet (first | exact Yg (Yy (uh Hx) _) | exact Calls.quiet_of (P6 (uh Hok) (uh Hn) (uh Hl) _));have kb:Blk (w1.drewN nq) w.heap.size 40 (I11 st be rk my gu lo hi hd ca ut wk):=uh Kb;have ko:Blk (w1.drewN nq) (w.heap.size+1) 40 E11:=uh Ko;have b1:=Yp (uh B1) nq;clear c0 o0 of0 c1 o1 of1 c2 o2 of2 c3 o3 of3 c4 o4 of4 c5 o5 of5 c6 o6 of6 c7 o7 of7 c8 o8 of8 c9 o9 of9 c10 o10 of10 Kb Ko B1 hl0 hl1;rw [show w1.heap.size=(w1.drewN nq).heap.size from rfl] at hsz;generalize w1.drewN nq=W1 at *;have hl0:w.heap.size<W1.heap.size:=by omega
 have hl1:w.heap.size+1<W1.heap.size:=by omega
 have Kb:=Z9 kb;have Ko:=Z9 ko;have B1:=Z9 b1;obtain ⟨c0,c1,c2,c3,c4,c5,c6,c7,c8,c9,c10⟩:=kb.c11;obtain ⟨o0,o1,o2,o3,o4,o5,o6,o7,o8,o9,o10⟩:=ko.c11;obtain ⟨of0,of1,of2,of3,of4,of5,of6,of7,of8,of9,of10⟩:=ko.f11;clear kb ko b1;go_wp2_with fail;refine (Zk st be rk my gu lo hi (hd+n) l ut (wk+work) _).mono ?_;rw [uh H2];rintro e w2 ⟨rfl,hb⟩;have kb:Blk w2 w.heap.size 40 (I11 st be rk my gu lo hi hd ca ut wk):=(hb.block w.heap.size (by simp;omega)).trans ((uh Kb).alloc (.cells (I11 st be rk my gu lo hi (hd+n) l ut (wk+work)) 40));have ko:Blk w2 (w.heap.size+1) 40 E11:=(hb.block (w.heap.size+1) (by simp;omega)).trans ((uh Ko).alloc (.cells (I11 st be rk my gu lo hi (hd+n) l ut (wk+work)) 40));have kn:Blk w2 W1.heap.size 40 (I11 st be rk my gu lo hi (hd+n) l ut (wk+work)):=(hb.block W1.heap.size (by simp)).trans (Blk.new W1 40 (I11 st be rk my gu lo hi (hd+n) l ut (wk+work)));have B2:Hid (Below w.heap.size w w2):=Z9 (((uh B1).alloc (by omega) (.cells (I11 st be rk my gu lo hi (hd+n) l ut (wk+work)) 40)).trans (hb.mono (by simp;omega)));clear c0 o0 of0 c1 o1 of1 c2 o2 of2 c3 o3 of3 c4 o4 of4 c5 o5 of5 c6 o6 of6 c7 o7 of7 c8 o8 of8 c9 o9 of9 c10 o10 of10 Kb Ko;obtain ⟨p0,p1,p2,p3,p4,p5,p6,p7,p8,p9,p10⟩:=kb.c11;obtain ⟨o0,o1,o2,o3,o4,o5,o6,o7,o8,o9,o10⟩:=ko.c11;obtain ⟨of0,of1,of2,of3,of4,of5,of6,of7,of8,of9,of10⟩:=ko.f11;clear hb kb ko kn;go_wp2_with fail;refine ZS (v:= .tuple #[.agg (I11 st be rk my gu lo hi hd ca ut wk),.bool false]) (by simp [results,Tryz.results279,go_sem,o0,o1,o2,o3,o4,o5,o6,o7,o8,o9,o10]) rfl ⟨rfl,?_⟩
 iterate 11 (refine YO ?_ (by simp) _)
 exact uh B2
theorem SU {x:Z3} (h:YR x=true):Zw x=true:=by unfold Zw;rw [h,Bool.or_true]
theorem MZ {x:Z3} (h:x.1 ≠ 0):Zw x=YR x:=by unfold Zw;rw [Rp h,Bool.false_or]
theorem LR {x:Z3} (work:Int) (hg:U4 x=true):WG x work=(Uy,false):=by
 have e:=U5 hg;subst e;rfl
theorem NL {x:Z3} (work:Int) (hg:U4 x=false) (hp:YR x=false):WG x work=(Uy,false):=by unfold WG;rw [hp,hg];rfl
theorem Jc {x:Z3} {work:Int} (hp:YR x=true) (hw:inB work 0 100000=false):WG x work=(x,false):=by unfold WG;rw [hp,hw];rfl
theorem Py {x:Z3} {work:Int} {q:Bool} (hp:YR x=true) (hw:inB work 0 100000=true) (hq:YR (MP x work)=q):WG x work=(if q then MP x work else x,q):=by unfold WG;rw [hp,hw,hq];cases q<;>rfl
theorem Fo {st:Int} (h:1<=st):(st ==0)=false:=by simp;omega
theorem Lv {x y:Z3} {work:Int} {q:Bool} (h:WG x work=(y,q)) (w:World):Calls Tryz.prog 279 #[.agg (ZU x).toArray,.int .i64 work] w fun e w'=>e= .returned (.tuple #[.agg (ZU y).toArray,.bool q])/\Below w.heap.size w w':=by
 obtain ⟨st,be,rk,my,gu,lo,hi,hd,ca,ut,wk⟩:=x;cases hg:U4 (st,be,rk,my,gu,lo,hi,hd,ca,ut,wk)
 ·cases hp:YR (st,be,rk,my,gu,lo,hi,hd,ca,ut,wk)
  ·rw [NL work hg hp] at h
   obtain ⟨rfl,rfl⟩:=Prod.mk.inj h;exact Ix work w (by unfold Zw;rw [hg,hp];rfl)
  ·cases hw:inB work 0 100000
   ·rw [Jc hp hw] at h
    obtain ⟨rfl,rfl⟩:=Prod.mk.inj h;exact Bm work w (SU hp) (Fo (Zo hp).1.1) hw
   ·obtain ⟨v0,v1⟩:=ZN hw
    obtain ⟨⟨s0,s1⟩,_,hr,_,_,_,⟨d0,d1⟩,⟨a0,a1⟩,_,⟨k0,k1⟩⟩:=Zo hp;have hr0:=Vu hr;have hr1:=(TA rk).2;have a2:ca<=3125:=by omega
    obtain ⟨hok,n0,n1,_,_,_⟩:=Bh v0 v1 hr0 hr1 a0 a1;cases hq:YR (MP (st,be,rk,my,gu,lo,hi,hd,ca,ut,wk) work)
    ·rw [Py hp hw hq] at h
     obtain ⟨rfl,rfl⟩:=Prod.mk.inj h;exact Fl rfl hok rfl rfl n0 n1 d0 d1 k0 k1 v0 v1 (SU hp) (Fo s0) ((MZ (x:=MP (st,be,rk,my,gu,lo,hi,hd,ca,ut,wk) work) (show st ≠ 0 by omega)).trans hq)
    ·rw [Py hp hw hq] at h
     obtain ⟨rfl,rfl⟩:=Prod.mk.inj h;exact CS rfl hok rfl rfl n0 n1 d0 d1 k0 k1 v0 v1 (SU hp) (Fo s0) ((MZ (x:=MP (st,be,rk,my,gu,lo,hi,hd,ca,ut,wk) work) (show st ≠ 0 by omega)).trans hq)
 ·rw [LR work hg] at h
  obtain ⟨rfl,rfl⟩:=Prod.mk.inj h;cases U5 hg;exact Fk work w
theorem FullSmy.onNow {n₀:Nat}  {qs:List (ZX × Value)} (h:FullSmy n₀ w v0 v1 v2 v3 v4 m qs) (n:Int):FullSmy n₀ w v0 v1 v2 v3 v4 (Sh m n m.sm) qs:=
 ⟨h.hall,h.rm,h.gd,h.sm,h.dk,h.pc,h.h1,h.h2,h.h3,h.h4,h.a12,h.a13,h.a14,h.a23,h.a24,h.a34⟩
theorem CP {α:Type} [Inhabited α] {xs:List α} {k:Nat} (hk:k<xs.length):xs.set k (Z8 xs k)=xs:=by
 unfold Z8;rw [List.getD,List.getElem?_eq_getElem hk];exact List.set_getElem_self hk
theorem RY {n:Int} {k:Nat} {ss:List Z3} {t:Z3} (h:Xx m n k=some ss) (ht:P9 m n (Z8 m.sm k)=some t):Xx m n (k+1)=some (ss.set k t):=by
 unfold Xx;rw [h];simp only;rw [ht]
theorem ID {n:Int} {k:Nat} {ss:List Z3} (h:Xx m n k=some ss) (ht:P9 m n (Z8 m.sm k)=none) (hk:k<m.sm.length):Xx m n m.sm.length=none:=by
 have h1:Xx m n (k+1)=none:=by unfold Xx;rw [h];simp only;rw [ht]
 have:=OD (m.sm.length-(k+1)) h1
 rwa [show k+1+(m.sm.length-(k+1))=m.sm.length by omega] at this
theorem Ar (h:Loose m) {r:Nat} (hr:r<m.rm.length):∃ p:Nat,Z8 m.pc r=(p:Int)/\p<(ZQ m.rm r).2.length/\1<=(Z7 (ZQ m.rm r).2 p).1/\(Z7 (ZQ m.rm r).2 p).1<=1024:=by
 have hd:=h.head;unfold YA at hd;simp only [ZP,Y0] at hd;have hpl:=hd.2.2.2.2.1;have hp:=h.pace r (by omega);unfold V3 at hp;obtain ⟨p0,p1⟩:=ZN hp;obtain ⟨_,_,r3,_⟩:=Zl hd.1;have hmem:ZQ m.rm r ∈ m.rm:=by unfold ZQ;simp [List.getD,hr]
 have hrb:=List.all_eq_true.1 r3 _ hmem;unfold Ze at hrb;simp only [ZP] at hrb;refine ⟨(Z8 m.pc r).toNat,by omega,by omega,?_⟩;have hst:=Kn hrb.2.2 (j:=(Z8 m.pc r).toNat) (by omega);unfold Wt TQ at hst;simp only [ZP] at hst;exact ZN hst.1.1
theorem Two.of_setW {p q:Option Nat} {g:Nat} (hg:p=some g\/q=some g):∀ (cs:List Value) (w:World) (o:Nat),Two p q w (PY w g o cs)
 | [],w,o=>Two.refl _ _ _
 | c::cs,w,o=>(Two.of_set w hg o c).trans (Two.of_setW hg cs _ (o+1))
theorem Nj  (n:Int) (h:Smy w v0 v1 v2 v3 v4 m) :
  Calls Tryz.prog 254 #[.agg #[v0,v1,v2,v3,v4,.int .i64 m.now],.int .i64 n] w fun e w'=>S5 w.heap.size (Sg m n).1 (Sg m n).2 e w'/\Below w.heap.size w w':=by
 obtain ⟨X,hX⟩:∃ x,Sg m n=x:=⟨_,rfl⟩
 rw [hX];have HX:=Z9 hX;clear hX;have Hv0:=Z9 h;obtain ⟨a0,p0,a1,p1,a2,p2,a3,p3,a4,p4,rfl,rfl,rfl,rfl,rfl,_,_,_,_,_,_,_,_,_,_⟩:=h.five;clear h;obtain ⟨ok,hok⟩:∃ q,ZJ m=q:=⟨_,rfl⟩
 have Hok:=Z9 hok;clear hok;go_enter Tryz.func254,Tryz.ntmps254;go_wp2_with fail;obtain ⟨W,hW,kb,kr,BB⟩:=YD w 32 (S6 a0 p0 a1 p1 a2 p2 a3 p3 a4 p4 m) 32 E6;have Hv:=Z9 ((uh Hv0).below (uh BB));rw [hW];clear hW;refine ck (Xt (uh Hok) (uh Hv)) fun w1 hb=> ?_;replace kb:=bl kb hb;replace kr:=bl kr hb;replace Hv:=Z9 ((uh Hv).below hb);replace BB:=bt BB hb;clear hb;cases ok
 ·
  obtain ⟨c0,c1,c2,c3,c4,c5⟩:=(uh kb).c6;go_wp2_with fail;clear c0 c1 c2 c3 c4 c5;refine ck (XV (uh Hv)) fun w2 hb=> ?_;replace kb:=bl kb hb;replace kr:=bl kr hb;replace Hv:=Z9 ((uh Hv).below hb);replace BB:=bt BB hb;clear hb;obtain ⟨o0,o1,o2,o3,o4,o5⟩:=(uh kr).c6;obtain ⟨f0,f1,f2,f3,f4,f5⟩:=(uh kr).f6;go_wp2_with fail;have hX0:X=(Ye,3):=by rw [<-uh HX];unfold Sg;rw [uh Hok];rfl
  exact ZS (v:= .tuple #[.agg E6,.int .i64 3]) (by simp [results,Tryz.results254,go_sem, *]) rfl (Zb hX0 rfl (YM _ _) (uh BB))
 have hlo:=ZR (uh Hok);have HLo:=Z9 hlo;have HFew:=Z9 (Xn hlo);clear hlo;obtain ⟨c0,c1,c2,c3,c4,c5⟩:=(uh kb).c6;go_wp2_with fail;clear c0 c1 c2 c3 c4 c5;refine (T6 (uh Hv) (uh HFew) (uh kb) (uh kr) (uh BB)).mono ?_;clear kb kr Hv BB;rintro e w2 ⟨b0,q0,b1,q1,b2,q2,b3,q3,b4,q4,oq,rfl,W2,ob,hW2,hob2,kb,kr,Hv,HO,ko,LO,hob,BB⟩;go_upto_region 4 with fail
 (try rw [hW2])
 (try rw [hob2])
 clear hW2 hob2;obtain ⟨pb,hpb⟩:∃ q,inB n 1 20=q:=⟨_,rfl⟩
 have Hpb:=Z9 hpb;clear hpb;go_wp2_with fail;refine (ZV _ _ _ _).mono ?_;rw [uh Hpb];rintro e w9 ⟨rfl,hw9⟩;subst w9;cases pb
 ·
  obtain ⟨x0,x1,x2,x3,x4,x5⟩:=(uh ko).c6;obtain ⟨o0,o1,o2,o3,o4,o5⟩:=(uh kr).c6;obtain ⟨f0,f1,f2,f3,f4,f5⟩:=(uh kr).f6;go_wp2_with fail;have hX0:X=(m,3):=by rw [<-uh HX];unfold Sg;rw [uh Hok];simp only [if_true];rw [uh Hpb];rfl
  exact ZS (v:= .tuple #[.agg (S6 b0 q0 b1 q1 b2 q2 b3 q3 b4 q4 m),.int .i64 3]) (by simp [results,Tryz.results254,go_sem, *]) rfl (Zb hX0 rfl (uh HO) (uh BB))
 obtain ⟨c0,c1,c2,c3,c4,c5⟩:=(uh kb).c6;go_wp2_with fail;clear c0 c1 c2 c3 c4 c5;have hobw:=(uh ko).lt;refine (XR (uh Hv) (uh HFew)).mono ?_;rintro e w3 ⟨y0,y1,y2,y3,y4,xq,rfl,ho,hb⟩;have k9:=ho.smy;obtain ⟨xa0,xp0,xa1,xp1,xa2,xp2,xa3,xp3,xa4,xp4,rfl,rfl,rfl,rfl,rfl,_,_,_,_,_,_,_,_,_,_⟩:=k9.five;clear k9;replace kb:=bl kb hb;replace kr:=bl kr hb;replace Hv:=Z9 ((uh Hv).below hb);replace HO:=Z9 ((uh HO).below hb);replace ko:=bl ko hb;replace BB:=bt BB hb;have hszx:=hb.size;have HY:=Z9 (ho.mono (n₁:=w.heap.size+2) (by omega));have LX:Hid (∀ k,Wa (.slice xa0 m.rm.length xp0) (.slice xa1 m.gd.length xp1) (.slice xa2 m.sm.length xp2) (.slice xa3 m.dk.length xp3) (.slice xa4 m.pc.length xp4) xq k->ob+1<=k/\k<w3.heap.size):=Z9 (fun k e=>by have:=ho.own e;omega);have hxb:ob+1<=w3.heap.size:=by omega
 clear ho hb hobw hszx;go_upto_region 7 with fail;obtain ⟨W3,hW3,hba,kx⟩:=YP w3 32 (S6 xa0 xp0 xa1 xp1 xa2 xp2 xa3 xp3 xa4 xp4 m);replace kb:=bl kb hba;replace kr:=bl kr hba;replace Hv:=Z9 ((uh Hv).below hba);replace HO:=Z9 ((uh HO).below hba);replace ko:=bl ko hba;replace HY:=Z9 ((uh HY).below hba);replace BB:=bt BB hba;clear hba;rw [hW3];clear hW3;generalize w3.heap.size=xb at *;obtain ⟨hn1,hn20⟩:=ZN (uh Hpb)
 have hnow:0<=m.now/\m.now<=1000000:=by
  have hd:=(uh HLo).head;unfold YA at hd;simp only [ZP,Y0] at hd;exact ZN hd.2.2.2.2.2
 obtain ⟨hnow0,hnow1⟩:=hnow;have c5:=(uh kb).cell (i:=5) (v:= .int .i64 m.now) rfl;have x5:=(uh kx).cell (i:=5) (v:= .int .i64 m.now) rfl;have f5:=(uh kx).free 5;go_upto_region 8 with fail;clear c5 x5 f5;replace kx:Hid (Blk (W3.setCell ⟨xb,5,none⟩ (.int .i64 (m.now+n))) xb 32 #[.slice xa0 m.rm.length xp0,.slice xa1 m.gd.length xp1,.slice xa2 m.sm.length xp2,.slice xa3 m.dk.length xp3,.slice xa4 m.pc.length xp4,.int .i64 (m.now+n)]):=Z9 ((uh kx).set 5 _);replace kb:Hid (Blk (W3.setCell ⟨xb,5,none⟩ (.int .i64 (m.now+n))) w.heap.size 32 (S6 a0 p0 a1 p1 a2 p2 a3 p3 a4 p4 m)):=Z9 ((uh kb).other (a:=⟨xb,5,none⟩) (by show w.heap.size ≠ xb;omega) (.int .i64 (m.now+n)));replace ko:Hid (Blk (W3.setCell ⟨xb,5,none⟩ (.int .i64 (m.now+n))) ob 32 (S6 b0 q0 b1 q1 b2 q2 b3 q3 b4 q4 m)):=Z9 ((uh ko).other (a:=⟨xb,5,none⟩) (by show ob ≠ xb;omega) (.int .i64 (m.now+n)));replace kr:Hid (Blk (W3.setCell ⟨xb,5,none⟩ (.int .i64 (m.now+n))) (w.heap.size+1) 32 E6):=Z9 ((uh kr).other (a:=⟨xb,5,none⟩) (by show (w.heap.size+1) ≠ xb;omega) (.int .i64 (m.now+n)));replace HO:Hid (FullSmy (w.heap.size+2) (W3.setCell ⟨xb,5,none⟩ (.int .i64 (m.now+n))) (.slice b0 m.rm.length q0) (.slice b1 m.gd.length q1) (.slice b2 m.sm.length q2) (.slice b3 m.dk.length q3) (.slice b4 m.pc.length q4) m oq):=Z9 ((uh HO).set_off (fun k e=>by have:=(uh LO k e).2;omega) _ _);have HT:Hid (FullSmy (w.heap.size+2) (W3.setCell ⟨xb,5,none⟩ (.int .i64 (m.now+n))) (.slice xa0 m.rm.length xp0) (.slice xa1 m.gd.length xp1) (.slice xa2 m.sm.length xp2) (.slice xa3 m.dk.length xp3) (.slice xa4 m.pc.length xp4) (Sh m n m.sm) xq):=Z9 (((uh HY).set_off (fun k e=>by have:=(uh LX k e).2;omega) _ _).onNow n);replace BB:Hid (Below w.heap.size w (W3.setCell ⟨xb,5,none⟩ (.int .i64 (m.now+n)))):=Z9 ((uh BB).setCell (p:=⟨xb,5,none⟩) (by show w.heap.size<=xb;omega) _);clear HY Hv;generalize W3.setCell ⟨xb,5,none⟩ (.int .i64 (m.now+n))=W4 at *;go_wp2_with fail
 go_loopw [8] (fun i wr=> ∃ (k:Nat) (ss:List Z3),k<=m.sm.length/\i= .int .i64 k/\Xx m n k=some ss/\FullSmy (w.heap.size+2) wr (.slice xa0 m.rm.length xp0) (.slice xa1 m.gd.length xp1) (.slice xa2 m.sm.length xp2) (.slice xa3 m.dk.length xp3) (.slice xa4 m.pc.length xp4) (Sh m n ss) xq/\Two (Value.slice xa2 m.sm.length xp2).ownBlock none W4 wr) (fun i _=>m.sm.length-(intOf i).toNat)
 case atStart=>exact ⟨0,m.sm,Zz _,rfl,rfl,uh HT,Two.refl _ _ _⟩
 case round=>
  obtain ⟨k,ss,hk,rfl,htk,hf1,htw⟩:=hrel;obtain ⟨hsl,hsame⟩:=OE htk;have Htk:=Z9 htk;have HF1:=Z9 hf1;have Tw:=Z9 htw;have hPx:∀ b,(Value.slice xa2 m.sm.length xp2).ownBlock=some b->ob+1<=b/\b<xb:=fun b e=>uh LX b (.inr (.inr (.inr (.inl e))));have hPn:∀ R,(R<=ob\/xb<=R)->(Value.slice xa2 m.sm.length xp2).ownBlock ≠ some R:=fun R h e=>by have:=hPx R e;omega
  have hN:∀ R:Nat,(none:Option Nat) ≠ some R:=fun R e=>by cases e
  replace kb:=Z9 ((uh kb).two htw (hPn _ (.inl (by omega))) (hN _));replace ko:=Z9 ((uh ko).two htw (hPn _ (.inl (by omega))) (hN _));replace kr:=Z9 ((uh kr).two htw (hPn _ (.inl (by omega))) (hN _));replace kx:=Z9 ((uh kx).two htw (hPn _ (.inr (Z1 _))) (hN _));replace HO:=Z9 ((uh HO).keep (fun k e0=>htw.block k ((uh HO).own e0).2 (fun e=>by have:=hPx k e;have:=(uh LO k e0).2;omega) (fun e=>by cases e)));replace BB:=Z9 ((uh BB).trans (htw.below (uh BB).size (fun b e=>by have:=hPx b e;omega) (fun b e=>by cases e)));have Hv:=Z9 ((uh Hv0).below (uh BB));have hobr:ob<wr.heap.size:=(uh ko).lt;have hxbr:xb<wr.heap.size:=(uh kx).lt;clear htk hf1 htw HT hPx hPn hN;have x2:=(uh kx).cell (i:=2) (v:= .slice xa2 m.sm.length xp2) rfl;by_cases hlt:k<m.sm.length
  ·
   have hlt1:(k:Int)<(m.sm.length:Int):=by omega
   obtain ⟨g2,hga,_,hg2w,hc2,_⟩:=RecAt.view ZT (by omega) (uh HF1).sm hsl.symm (by show 0<ss.length;omega);cases hga;have hg2o:=uh LX g2 (.inr (.inr (.inr (.inl rfl))));have hsk:=hsame k (Z1 _);obtain ⟨⟨st,be,rk,my,gu,lo,hi,hd,ca,ut,wk⟩,hrk⟩:∃ d,Z8 m.sm k=d:=⟨_,rfl⟩
   have hrs:Z8 (Sh m n ss).sm k=(st,be,rk,my,gu,lo,hi,hd,ca,ut,wk):=hsk.trans hrk;have Hrk:=Z9 hrk;obtain ⟨s0,s1,s2,s3,s4,s5,s6,s7,s8,s9,s10⟩:=CL (hc2 k (by show k<ss.length;omega));rw [hrs] at s0 s1 s2 s3 s4 s5 s6 s7 s8 s9 s10;simp only [Nat.add_zero] at s0 s1 s2 s3 s4 s5 s6 s7 s8 s9 s10;clear hc2 hsame hrs hrk;have Hss:Hid (Z8 ss k=(st,be,rk,my,gu,lo,hi,hd,ca,ut,wk)):=Z9 (hsk.trans (uh Hrk));clear hsk
   have HG:Hid (st ≠ 0->YR (st,be,rk,my,gu,lo,hi,hd,ca,ut,wk)=true/\be<m.dk.length/\0<=be):=Z9 (fun h0=>by
    obtain ⟨p,_,hb⟩:=(uh HLo).limits hlt (by rw [uh Hrk];exact h0);rw [uh Hrk] at p hb
    exact ⟨p,hb,(Zo p).2.1.1⟩)
   go_upto_region 12 with fail;clear x2 s0 s1 s2 s3 s4 s5 s6 s7 s8 s9 s10;obtain ⟨Y,hY,BR,ks⟩:=GZ wr 40 (I11 st be rk my gu lo hi hd ca ut wk);rw [hY];clear hY;have e0:=(uh ks).cell (i:=0) (v:= .int .i64 st) rfl;by_cases hst0:st=0
   ·
    subst hst0;have hts:P9 m n (Z8 m.sm k)=some (Z8 ss k):=by rw [uh Hss,uh Hrk];unfold P9;rw [if_pos rfl]
    have hnx:Xx m n (k+1)=some ss:=by rw [RY (uh Htk) hts,CP (by omega)]
    have Hnx:=Z9 hnx;clear hts hnx;go_wp2_with fail;go_roundw
    case rel=>exact ⟨k+1,ss,by omega,by go_num,uh Hnx,(uh HF1).below (uh BR),(uh Tw).trans (Two.of_below (uh BR))⟩
    case measure=>exact ms
   have h00:(st ==0)=false:=by simp [hst0]
   have h01:decide (st=0)=false:=by simp [hst0]
   obtain ⟨hpb2,hbl,hb0⟩:=uh HG hst0;obtain ⟨⟨hst1,hst3'⟩,_⟩:=Zo hpb2;have Hp2:=Z9 hpb2;clear hpb2 HG;by_cases hst3:st=3;rotate_left
   ·
    have h30:(st ==3)=false:=by simp [hst3]
    have h31:decide (st=3)=false:=by simp [hst3]
    go_upto_region 21 with fail;clear e0;have e9:=(uh ks).cell (i:=9) (v:= .int .i64 ut) rfl;have f9:=(uh ks).free 9;go_wp2_with fail;refine ck (TU ut 0 n _) fun wf hwf=> ?_;subst wf;go_upto_region 22 with fail;clear e9 f9;replace ks:Hid (Blk (Y.setCell ⟨wr.heap.size,9,none⟩ (.int .i64 (ZE ut 0 n))) wr.heap.size 40 (I11 st be rk my gu lo hi hd ca (ZE ut 0 n) wk)):=Z9 ((uh ks).set 9 _);replace BR:Hid (Below wr.heap.size wr (Y.setCell ⟨wr.heap.size,9,none⟩ (.int .i64 (ZE ut 0 n)))):=Z9 ((uh BR).setCell (p:=⟨wr.heap.size,9,none⟩) (Z1 _) _);generalize Y.setCell ⟨wr.heap.size,9,none⟩ (.int .i64 (ZE ut 0 n))=Y9 at *;obtain ⟨z0,z1,z2,z3,z4,z5,z6,z7,z8,z9,z10⟩:=(uh ks).c11;have HF9:=Z9 ((uh HF1).below (uh BR));have kx9:=(uh kx).below (uh BR) (uh kx).lt;have x2:=kx9.cell (i:=2) (v:= .slice (some ⟨g2,0,none⟩) m.sm.length xp2) rfl;obtain ⟨_,hga,_,_,hc2,hz2⟩:=RecAt.view ZT (by omega) (uh HF9).sm hsl.symm (by show 0<ss.length;omega);cases hga;obtain ⟨s0,s1,s2,s3,s4,s5,s6,s7,s8,s9,s10⟩:=CL (hc2 k (by show k<ss.length;omega));obtain ⟨fz0,fz1,fz2,fz3,fz4,fz5,fz6,fz7,fz8,fz9,fz10⟩:=As hz2 (k*11);simp only [Nat.add_zero] at s0 fz0;have hput:=(uh HF9).putW hsl.symm (j:=k) (by show k<ss.length;omega) (st,be,rk,my,gu,lo,hi,hd,ca,(ZE ut 0 n),wk);rw [show ZU (st,be,rk,my,gu,lo,hi,hd,ca,(ZE ut 0 n),wk)=[.int .i64 st,.int .i64 be,.int .i64 rk,.int .i64 my,.int .i64 gu,.int .i64 lo,.int .i64 hi,.int .i64 hd,.int .i64 ca,.int .i64 (ZE ut 0 n),.int .i64 wk] from rfl,JL] at hput;have HP:=Z9 hput;have Hnx:Hid (Xx m n (k+1)=some (ss.set k (st,be,rk,my,gu,lo,hi,hd,ca,(ZE ut 0 n),wk))):=Z9 (RY (uh Htk) (by rw [uh Hrk];unfold P9;rw [if_neg hst0,if_neg hst3];rfl));have htw9:=Two.of_setW (p:=some g2) (q:=none) (g:=g2) (.inl rfl) (ZU (st,be,rk,my,gu,lo,hi,hd,ca,(ZE ut 0 n),wk)) Y9 (k*11);rw [show ZU (st,be,rk,my,gu,lo,hi,hd,ca,(ZE ut 0 n),wk)=[.int .i64 st,.int .i64 be,.int .i64 rk,.int .i64 my,.int .i64 gu,.int .i64 lo,.int .i64 hi,.int .i64 hd,.int .i64 ca,.int .i64 (ZE ut 0 n),.int .i64 wk] from rfl,JL] at htw9;have TW9:=Z9 (((uh Tw).trans (Two.of_below (uh BR))).trans htw9);clear htw9;clear hput hc2 hz2 kx9;go_wp2_with fail;go_roundw
    case rel=>exact ⟨k+1,_,by omega,by go_num,uh Hnx,uh HP,uh TW9⟩
    case measure=>exact ms
   subst hst3;obtain ⟨bn,rfl⟩:∃ bn:Nat,be=(bn:Int):=⟨be.toNat,by omega⟩
   have hbn:Yu m.rm (bn:Int)=true:=(uh HLo).sane.bench (by omega);have hrl:=Qv hbn;have Hbn:=Z9 hbn;obtain ⟨fo,hfo⟩:∃ q,Tb m (bn:Int)=q:=⟨_,rfl⟩
   have Hfo:=Z9 hfo;obtain ⟨pp,hpp,hppl,hf1',hf2'⟩:=Ar (uh HLo) hrl;have hfo2:(Z7 (ZQ m.rm (Xr m.rm (bn:Int))).2 pp).1=fo:=by rw [<-hfo];unfold Tb;rw [hpp];simp
   rw [hfo2] at hf1' hf2';obtain ⟨r,hr⟩:∃ r,Xr m.rm (bn:Int)=r:=⟨_,rfl⟩
   rw [hr] at hrl hpp hppl hfo2;have Hr:=Z9 hr;have Hpp:=Z9 hpp;have Hfo2:=Z9 hfo2;clear hbn hfo hpp hfo2 hr;have kbY:=(uh kb).below (uh BR) (uh kb).lt;have c0:=kbY.cell (i:=0) (v:= .slice a0 m.rm.length p0) rfl;have e1:=(uh ks).cell (i:=1) (v:= .int .i64 (bn:Int)) rfl;clear kbY;go_wp2_with fail;refine (Qp (bn:Int) ((uh Hv).below (uh BR)).rm (uh Hbn)).mono ?_;rw [uh Hr];rintro e w5 ⟨rfl,hb⟩;replace ks:=bl ks hb;replace BR:=Z9 ((uh BR).trans (hb.mono (uh BR).size));clear hb e0 e1 c0;obtain ⟨_,_,hre,_,_,r0⟩:=((uh Hv).below (uh BR)).rm;cases hre
   rcases r0 with e0 | ⟨rb,off,rfl,hbw,hcl⟩
   ·rw [e0] at hrl;simp at hrl
   obtain ⟨_,pv,d1,hpv⟩:=hcl r hrl;obtain ⟨pa,pc,rfl,_,_,hpr⟩:=hpv
   rcases hpr with e0 | ⟨pbk,po,rfl,hpw,hpc⟩
   ·rw [e0] at hppl;simp at hppl
   obtain ⟨d2,_⟩:=hpc pp hppl;rw [uh Hfo2] at d2;obtain ⟨_,_,hpe,_,_,r4⟩:=((uh Hv).below (uh BR)).pc;cases hpe
   rcases r4 with e0 | ⟨nb,no,rfl,hnw,hnc⟩
   ·exfalso
    have h9:=VV (uh HLo);have h8:m.pc.length=0:=by rw [e0];rfl
    omega
   have d3:=hnc r (by rw [VV (uh HLo)];exact hrl) 0 _ rfl;simp only [Nat.mul_one,Nat.add_zero] at d3;rw [uh Hpp] at d3;obtain ⟨pl,hpl⟩:∃ q,(ZQ m.rm r).2.length=q:=⟨_,rfl⟩
   rw [hpl] at d1 hppl;have hr1:(r:Int)<(m.rm.length:Int):=by omega
   have hr2:(r:Int)<(m.pc.length:Int):=by rw [VV (uh HLo)];omega
   have hp1:(pp:Int)<(pl:Int):=by omega
   have kbY:=(uh kb).below (uh BR) (uh kb).lt;have c0:=kbY.cell (i:=0) (v:= .slice (some ⟨rb,off,none⟩) m.rm.length p0) rfl;have c4:=kbY.cell (i:=4) (v:= .slice (some ⟨nb,no,none⟩) m.pc.length p4) rfl;clear hcl hpc hnc kbY hpl;go_wp2_with fail;refine ZL (S:=fun w'=>w'.cell? ⟨w.heap.size,0,none⟩=some (.slice (some ⟨rb,off,none⟩) m.rm.length p0)/\w'.cell? ⟨w.heap.size,4,none⟩=some (.slice (some ⟨nb,no,none⟩) m.pc.length p4)/\w'.cell? ⟨rb,off+r*2+1,none⟩=some (.slice (some ⟨pbk,po,none⟩) pl pc)/\w'.cell? ⟨nb,no+r,none⟩=some (.int .i64 (pp:Int))/\w'.cell? ⟨pbk,po+pp*2,none⟩=some (.int .i64 fo)) (by kernel_rfl) (WU _ _) (by kernel_rfl) ⟨c0,c4,d1,d3,d2⟩ (fun hHeld=> ?_);simp only [WV,WW,YQ,YC,Nat.zero_add,Nat.reduceAdd]
   iterate 15 refine tz ?_
   refine wpAnyH_done (by kernel_rfl) ?_ _;refine ZD rfl rfl ?_;go_simp;clear hHeld c0 c4 d1 d2 d3;replace ks:=Z9 ((uh ks).below (ZZ _ _).drew (uh ks).lt);replace BR:=Z9 (uh BR).drew;generalize w5.drew=Y5 at *;obtain ⟨⟨⟨t0,t1,t2,t3,t4,t5,t6,t7,t8,t9,t10⟩,iq⟩,hch⟩:∃ q,WG (3,(bn:Int),rk,my,gu,lo,hi,hd,ca,ut,wk) (n*fo)=q:=⟨_,rfl⟩
   have Hch:=Z9 hch;clear hch;have hnf0:0<=n*fo:=Int.mul_nonneg (by omega) (by omega)
   have hnf1:n*fo<=20480:=by
    have h1:n*fo<=20*fo:=Int.mul_le_mul_of_nonneg_right hn20 (by omega);have h2:20*fo<=20480:=by omega
    omega
   obtain ⟨z0,z1,z2,z3,z4,z5,z6,z7,z8,z9,z10⟩:=(uh ks).c11;go_wp2_with fail;clear z0 z1 z2 z3 z4 z5 z6 z7 z8 z9 z10;refine ck (Lv (uh Hch) _) fun w6 hb=> ?_;replace ks:=bl ks hb;replace BR:=Z9 ((uh BR).trans (hb.mono (uh BR).size));clear hb;simp only [ZU];go_upto_region 18 with fail;obtain ⟨Y6,hY6,hb,kt⟩:=YP w6 40 (I11 t0 t1 t2 t3 t4 t5 t6 t7 t8 t9 t10);have hks6:=(uh ks).lt;replace ks:=bl ks hb;replace BR:=Z9 ((uh BR).trans (hb.mono (uh BR).size));clear hb;rw [hY6];clear hY6;generalize w6.heap.size=tb at *;cases iq
   ·
    have hno:Xx m n m.sm.length=none:=ID (uh Htk) (by rw [uh Hrk];unfold P9;rw [if_neg (by show ¬ (3:Int)=0;omega),if_pos rfl];simp only;rw [uh Hfo,uh Hch];rfl) hlt;have Hno:=Z9 hno;clear hno;replace ko:=Z9 ((uh ko).below (uh BR) (uh ko).lt);replace kr:=Z9 ((uh kr).below (uh BR) (uh kr).lt);replace HO:=Z9 ((uh HO).below (uh BR));replace BB:=Z9 ((uh BB).trans ((uh BR).mono (uh BB).size));obtain ⟨x0,x1,x2,x3,x4,x5⟩:=(uh ko).c6;obtain ⟨o0,o1,o2,o3,o4,o5⟩:=(uh kr).c6;obtain ⟨f0,f1,f2,f3,f4,f5⟩:=(uh kr).f6;go_wp2_with fail;have hX0:X=(m,4):=by rw [<-uh HX];unfold Sg;rw [uh Hok];simp only [if_true];rw [uh Hpb];simp only [if_true];rw [uh Hno]
    exact ZS (v:= .tuple #[.agg (S6 b0 q0 b1 q1 b2 q2 b3 q3 b4 q4 m),.int .i64 4]) (by simp [results,Tryz.results254,go_sem, *]) rfl (Zb hX0 rfl (uh HO) (uh BB))
   have z0:=(uh kt).cell (i:=0) (v:= .int .i64 t0) rfl;have y0:=(uh ks).cell (i:=0) (v:= .int .i64 3) rfl;have f0:=(uh ks).free 0;have z1:=(uh kt).cell (i:=1) (v:= .int .i64 t1) rfl;have y1:=(uh ks).cell (i:=1) (v:= .int .i64 (bn:Int)) rfl;have f1:=(uh ks).free 1;have z2:=(uh kt).cell (i:=2) (v:= .int .i64 t2) rfl;have y2:=(uh ks).cell (i:=2) (v:= .int .i64 rk) rfl;have f2:=(uh ks).free 2;have z3:=(uh kt).cell (i:=3) (v:= .int .i64 t3) rfl;have y3:=(uh ks).cell (i:=3) (v:= .int .i64 my) rfl;have f3:=(uh ks).free 3;have z4:=(uh kt).cell (i:=4) (v:= .int .i64 t4) rfl;have y4:=(uh ks).cell (i:=4) (v:= .int .i64 gu) rfl;have f4:=(uh ks).free 4;have z5:=(uh kt).cell (i:=5) (v:= .int .i64 t5) rfl;have y5:=(uh ks).cell (i:=5) (v:= .int .i64 lo) rfl;have f5:=(uh ks).free 5;have z6:=(uh kt).cell (i:=6) (v:= .int .i64 t6) rfl;have y6:=(uh ks).cell (i:=6) (v:= .int .i64 hi) rfl;have f6:=(uh ks).free 6;have z7:=(uh kt).cell (i:=7) (v:= .int .i64 t7) rfl;have y7:=(uh ks).cell (i:=7) (v:= .int .i64 hd) rfl;have f7:=(uh ks).free 7;have z8:=(uh kt).cell (i:=8) (v:= .int .i64 t8) rfl;have y8:=(uh ks).cell (i:=8) (v:= .int .i64 ca) rfl;have f8:=(uh ks).free 8;have z9:=(uh kt).cell (i:=9) (v:= .int .i64 t9) rfl;have y9:=(uh ks).cell (i:=9) (v:= .int .i64 ut) rfl;have f9:=(uh ks).free 9;have z10:=(uh kt).cell (i:=10) (v:= .int .i64 t10) rfl;have y10:=(uh ks).cell (i:=10) (v:= .int .i64 wk) rfl;have f10:=(uh ks).free 10;go_upto_region 21 with fail;clear z0 y0 f0 z1 y1 f1 z2 y2 f2 z3 y3 f3 z4 y4 f4 z5 y5 f5 z6 y6 f6 z7 y7 f7 z8 y8 f8 z9 y9 f9 z10 y10 f10;have q0:Blk (Y6.setCell ⟨wr.heap.size,0,none⟩ (.int .i64 t0)) wr.heap.size 40 (I11 t0 (bn:Int) rk my gu lo hi hd ca ut wk):=(uh ks).set 0 _;have q1:Blk ((Y6.setCell ⟨wr.heap.size,0,none⟩ (.int .i64 t0)).setCell ⟨wr.heap.size,1,none⟩ (.int .i64 t1)) wr.heap.size 40 (I11 t0 t1 rk my gu lo hi hd ca ut wk):=q0.set 1 _;have q2:Blk (((Y6.setCell ⟨wr.heap.size,0,none⟩ (.int .i64 t0)).setCell ⟨wr.heap.size,1,none⟩ (.int .i64 t1)).setCell ⟨wr.heap.size,2,none⟩ (.int .i64 t2)) wr.heap.size 40 (I11 t0 t1 t2 my gu lo hi hd ca ut wk):=q1.set 2 _;have q3:Blk ((((Y6.setCell ⟨wr.heap.size,0,none⟩ (.int .i64 t0)).setCell ⟨wr.heap.size,1,none⟩ (.int .i64 t1)).setCell ⟨wr.heap.size,2,none⟩ (.int .i64 t2)).setCell ⟨wr.heap.size,3,none⟩ (.int .i64 t3)) wr.heap.size 40 (I11 t0 t1 t2 t3 gu lo hi hd ca ut wk):=q2.set 3 _;have q4:Blk (((((Y6.setCell ⟨wr.heap.size,0,none⟩ (.int .i64 t0)).setCell ⟨wr.heap.size,1,none⟩ (.int .i64 t1)).setCell ⟨wr.heap.size,2,none⟩ (.int .i64 t2)).setCell ⟨wr.heap.size,3,none⟩ (.int .i64 t3)).setCell ⟨wr.heap.size,4,none⟩ (.int .i64 t4)) wr.heap.size 40 (I11 t0 t1 t2 t3 t4 lo hi hd ca ut wk):=q3.set 4 _;have q5:Blk ((((((Y6.setCell ⟨wr.heap.size,0,none⟩ (.int .i64 t0)).setCell ⟨wr.heap.size,1,none⟩ (.int .i64 t1)).setCell ⟨wr.heap.size,2,none⟩ (.int .i64 t2)).setCell ⟨wr.heap.size,3,none⟩ (.int .i64 t3)).setCell ⟨wr.heap.size,4,none⟩ (.int .i64 t4)).setCell ⟨wr.heap.size,5,none⟩ (.int .i64 t5)) wr.heap.size 40 (I11 t0 t1 t2 t3 t4 t5 hi hd ca ut wk):=q4.set 5 _
   have q6:Blk (((((((Y6.setCell ⟨wr.heap.size,0,none⟩ (.int .i64 t0)).setCell ⟨wr.heap.size,1,none⟩ (.int .i64 t1)).setCell ⟨wr.heap.size,2,none⟩ (.int .i64 t2)).setCell ⟨wr.heap.size,3,none⟩ (.int .i64 t3)).setCell ⟨wr.heap.size,4,none⟩ (.int .i64 t4)).setCell ⟨wr.heap.size,5,none⟩ (.int .i64 t5)).setCell ⟨wr.heap.size,6,none⟩ (.int .i64 t6)) wr.heap.size 40 (I11 t0 t1 t2 t3 t4 t5 t6 hd ca ut wk):=q5.set 6 _;have q7:Blk ((((((((Y6.setCell ⟨wr.heap.size,0,none⟩ (.int .i64 t0)).setCell ⟨wr.heap.size,1,none⟩ (.int .i64 t1)).setCell ⟨wr.heap.size,2,none⟩ (.int .i64 t2)).setCell ⟨wr.heap.size,3,none⟩ (.int .i64 t3)).setCell ⟨wr.heap.size,4,none⟩ (.int .i64 t4)).setCell ⟨wr.heap.size,5,none⟩ (.int .i64 t5)).setCell ⟨wr.heap.size,6,none⟩ (.int .i64 t6)).setCell ⟨wr.heap.size,7,none⟩ (.int .i64 t7)) wr.heap.size 40 (I11 t0 t1 t2 t3 t4 t5 t6 t7 ca ut wk):=q6.set 7 _;have q8:Blk (((((((((Y6.setCell ⟨wr.heap.size,0,none⟩ (.int .i64 t0)).setCell ⟨wr.heap.size,1,none⟩ (.int .i64 t1)).setCell ⟨wr.heap.size,2,none⟩ (.int .i64 t2)).setCell ⟨wr.heap.size,3,none⟩ (.int .i64 t3)).setCell ⟨wr.heap.size,4,none⟩ (.int .i64 t4)).setCell ⟨wr.heap.size,5,none⟩ (.int .i64 t5)).setCell ⟨wr.heap.size,6,none⟩ (.int .i64 t6)).setCell ⟨wr.heap.size,7,none⟩ (.int .i64 t7)).setCell ⟨wr.heap.size,8,none⟩ (.int .i64 t8)) wr.heap.size 40 (I11 t0 t1 t2 t3 t4 t5 t6 t7 t8 ut wk):=q7.set 8 _;have q9:Blk ((((((((((Y6.setCell ⟨wr.heap.size,0,none⟩ (.int .i64 t0)).setCell ⟨wr.heap.size,1,none⟩ (.int .i64 t1)).setCell ⟨wr.heap.size,2,none⟩ (.int .i64 t2)).setCell ⟨wr.heap.size,3,none⟩ (.int .i64 t3)).setCell ⟨wr.heap.size,4,none⟩ (.int .i64 t4)).setCell ⟨wr.heap.size,5,none⟩ (.int .i64 t5)).setCell ⟨wr.heap.size,6,none⟩ (.int .i64 t6)).setCell ⟨wr.heap.size,7,none⟩ (.int .i64 t7)).setCell ⟨wr.heap.size,8,none⟩ (.int .i64 t8)).setCell ⟨wr.heap.size,9,none⟩ (.int .i64 t9)) wr.heap.size 40 (I11 t0 t1 t2 t3 t4 t5 t6 t7 t8 t9 wk):=q8.set 9 _;have q10:Blk (((((((((((Y6.setCell ⟨wr.heap.size,0,none⟩ (.int .i64 t0)).setCell ⟨wr.heap.size,1,none⟩ (.int .i64 t1)).setCell ⟨wr.heap.size,2,none⟩ (.int .i64 t2)).setCell ⟨wr.heap.size,3,none⟩ (.int .i64 t3)).setCell ⟨wr.heap.size,4,none⟩ (.int .i64 t4)).setCell ⟨wr.heap.size,5,none⟩ (.int .i64 t5)).setCell ⟨wr.heap.size,6,none⟩ (.int .i64 t6)).setCell ⟨wr.heap.size,7,none⟩ (.int .i64 t7)).setCell ⟨wr.heap.size,8,none⟩ (.int .i64 t8)).setCell ⟨wr.heap.size,9,none⟩ (.int .i64 t9)).setCell ⟨wr.heap.size,10,none⟩ (.int .i64 t10)) wr.heap.size 40 (I11 t0 t1 t2 t3 t4 t5 t6 t7 t8 t9 t10):=q9.set 10 _;replace ks:Hid (Blk (((((((((((Y6.setCell ⟨wr.heap.size,0,none⟩ (.int .i64 t0)).setCell ⟨wr.heap.size,1,none⟩ (.int .i64 t1)).setCell ⟨wr.heap.size,2,none⟩ (.int .i64 t2)).setCell ⟨wr.heap.size,3,none⟩ (.int .i64 t3)).setCell ⟨wr.heap.size,4,none⟩ (.int .i64 t4)).setCell ⟨wr.heap.size,5,none⟩ (.int .i64 t5)).setCell ⟨wr.heap.size,6,none⟩ (.int .i64 t6)).setCell ⟨wr.heap.size,7,none⟩ (.int .i64 t7)).setCell ⟨wr.heap.size,8,none⟩ (.int .i64 t8)).setCell ⟨wr.heap.size,9,none⟩ (.int .i64 t9)).setCell ⟨wr.heap.size,10,none⟩ (.int .i64 t10)) wr.heap.size 40 (I11 t0 t1 t2 t3 t4 t5 t6 t7 t8 t9 t10)):=Z9 q10
   replace BR:Hid (Below wr.heap.size wr (((((((((((Y6.setCell ⟨wr.heap.size,0,none⟩ (.int .i64 t0)).setCell ⟨wr.heap.size,1,none⟩ (.int .i64 t1)).setCell ⟨wr.heap.size,2,none⟩ (.int .i64 t2)).setCell ⟨wr.heap.size,3,none⟩ (.int .i64 t3)).setCell ⟨wr.heap.size,4,none⟩ (.int .i64 t4)).setCell ⟨wr.heap.size,5,none⟩ (.int .i64 t5)).setCell ⟨wr.heap.size,6,none⟩ (.int .i64 t6)).setCell ⟨wr.heap.size,7,none⟩ (.int .i64 t7)).setCell ⟨wr.heap.size,8,none⟩ (.int .i64 t8)).setCell ⟨wr.heap.size,9,none⟩ (.int .i64 t9)).setCell ⟨wr.heap.size,10,none⟩ (.int .i64 t10))):=Z9 ((((((((((((uh BR).setCell (p:=⟨wr.heap.size,0,none⟩) (Z1 _) _).setCell (p:=⟨wr.heap.size,1,none⟩) (Z1 _) _).setCell (p:=⟨wr.heap.size,2,none⟩) (Z1 _) _).setCell (p:=⟨wr.heap.size,3,none⟩) (Z1 _) _).setCell (p:=⟨wr.heap.size,4,none⟩) (Z1 _) _).setCell (p:=⟨wr.heap.size,5,none⟩) (Z1 _) _).setCell (p:=⟨wr.heap.size,6,none⟩) (Z1 _) _).setCell (p:=⟨wr.heap.size,7,none⟩) (Z1 _) _).setCell (p:=⟨wr.heap.size,8,none⟩) (Z1 _) _).setCell (p:=⟨wr.heap.size,9,none⟩) (Z1 _) _).setCell (p:=⟨wr.heap.size,10,none⟩) (Z1 _) _);clear q0 q1 q2 q3 q4 q5 q6 q7 q8 q9 q10;generalize ((((((((((Y6.setCell ⟨wr.heap.size,0,none⟩ (.int .i64 t0)).setCell ⟨wr.heap.size,1,none⟩ (.int .i64 t1)).setCell ⟨wr.heap.size,2,none⟩ (.int .i64 t2)).setCell ⟨wr.heap.size,3,none⟩ (.int .i64 t3)).setCell ⟨wr.heap.size,4,none⟩ (.int .i64 t4)).setCell ⟨wr.heap.size,5,none⟩ (.int .i64 t5)).setCell ⟨wr.heap.size,6,none⟩ (.int .i64 t6)).setCell ⟨wr.heap.size,7,none⟩ (.int .i64 t7)).setCell ⟨wr.heap.size,8,none⟩ (.int .i64 t8)).setCell ⟨wr.heap.size,9,none⟩ (.int .i64 t9)).setCell ⟨wr.heap.size,10,none⟩ (.int .i64 t10)=Y7 at *;have e9:=(uh ks).cell (i:=9) (v:= .int .i64 t9) rfl;have f9:=(uh ks).free 9;go_wp2_with fail;refine ck (TU t9 fo n _) fun wf hwf=> ?_;subst wf;go_upto_region 22 with fail;clear e9 f9;replace ks:Hid (Blk (Y7.setCell ⟨wr.heap.size,9,none⟩ (.int .i64 (ZE t9 fo n))) wr.heap.size 40 (I11 t0 t1 t2 t3 t4 t5 t6 t7 t8 (ZE t9 fo n) t10)):=Z9 ((uh ks).set 9 _);replace BR:Hid (Below wr.heap.size wr (Y7.setCell ⟨wr.heap.size,9,none⟩ (.int .i64 (ZE t9 fo n)))):=Z9 ((uh BR).setCell (p:=⟨wr.heap.size,9,none⟩) (Z1 _) _);generalize Y7.setCell ⟨wr.heap.size,9,none⟩ (.int .i64 (ZE t9 fo n))=Y9 at *;obtain ⟨z0,z1,z2,z3,z4,z5,z6,z7,z8,z9,z10⟩:=(uh ks).c11;have HF9:=Z9 ((uh HF1).below (uh BR));have kx9:=(uh kx).below (uh BR) (uh kx).lt;have x2:=kx9.cell (i:=2) (v:= .slice (some ⟨g2,0,none⟩) m.sm.length xp2) rfl;obtain ⟨_,hga,_,_,hc2,hz2⟩:=RecAt.view ZT (by omega) (uh HF9).sm hsl.symm (by show 0<ss.length;omega);cases hga;obtain ⟨s0,s1,s2,s3,s4,s5,s6,s7,s8,s9,s10⟩:=CL (hc2 k (by show k<ss.length;omega));obtain ⟨fz0,fz1,fz2,fz3,fz4,fz5,fz6,fz7,fz8,fz9,fz10⟩:=As hz2 (k*11);simp only [Nat.add_zero] at s0 fz0;have hput:=(uh HF9).putW hsl.symm (j:=k) (by show k<ss.length;omega) (t0,t1,t2,t3,t4,t5,t6,t7,t8,(ZE t9 fo n),t10);rw [show ZU (t0,t1,t2,t3,t4,t5,t6,t7,t8,(ZE t9 fo n),t10)=[.int .i64 t0,.int .i64 t1,.int .i64 t2,.int .i64 t3,.int .i64 t4,.int .i64 t5,.int .i64 t6,.int .i64 t7,.int .i64 t8,.int .i64 (ZE t9 fo n),.int .i64 t10] from rfl,JL] at hput
   have HP:=Z9 hput;have Hnx:Hid (Xx m n (k+1)=some (ss.set k (t0,t1,t2,t3,t4,t5,t6,t7,t8,(ZE t9 fo n),t10))):=Z9 (RY (uh Htk) (by rw [uh Hrk];unfold P9;rw [if_neg (by show ¬ (3:Int)=0;omega),if_pos rfl];simp only;rw [uh Hfo,uh Hch];rfl));have htw9:=Two.of_setW (p:=some g2) (q:=none) (g:=g2) (.inl rfl) (ZU (t0,t1,t2,t3,t4,t5,t6,t7,t8,(ZE t9 fo n),t10)) Y9 (k*11);rw [show ZU (t0,t1,t2,t3,t4,t5,t6,t7,t8,(ZE t9 fo n),t10)=[.int .i64 t0,.int .i64 t1,.int .i64 t2,.int .i64 t3,.int .i64 t4,.int .i64 t5,.int .i64 t6,.int .i64 t7,.int .i64 t8,.int .i64 (ZE t9 fo n),.int .i64 t10] from rfl,JL] at htw9;have TW9:=Z9 (((uh Tw).trans (Two.of_below (uh BR))).trans htw9);clear htw9;clear hput hc2 hz2 kx9;go_wp2_with fail;go_roundw
   case rel=>exact ⟨k+1,_,by omega,by go_num,uh Hnx,uh HP,uh TW9⟩
   case measure=>exact ms
  ·
   obtain rfl:k=m.sm.length:=by omega
   clear hsame;obtain ⟨lb,hlb⟩:∃ q,YK (Sh m n ss)=q:=⟨_,rfl⟩
   have Hlb:=Z9 hlb;clear hlb;obtain ⟨z0,z1,z2,z3,z4,z5⟩:=(uh kx).c6;go_wp2_with fail;clear x2 z0 z1 z2 z3 z4 z5;refine (SA (m:=Sh m n ss) (uh HF1).smy).mono ?_;rw [uh Hlb];rintro e w8 ⟨rfl,hb⟩;replace kx:=bl kx hb;replace ko:=bl ko hb;replace kr:=bl kr hb;replace HO:=Z9 ((uh HO).below hb);replace HF1:=Z9 ((uh HF1).below hb);replace BB:=bt BB hb;clear hb;cases lb
   ·
    obtain ⟨x0,x1,x2,x3,x4,x5⟩:=(uh ko).c6;obtain ⟨o0,o1,o2,o3,o4,o5⟩:=(uh kr).c6;obtain ⟨f0,f1,f2,f3,f4,f5⟩:=(uh kr).f6;go_wp2_with fail;have hX0:X=(m,4):=by rw [<-uh HX];unfold Sg;rw [uh Hok];simp only [if_true];rw [uh Hpb];simp only [if_true];rw [uh Htk];simp only;rw [uh Hlb];rfl
    exact ZS (v:= .tuple #[.agg (S6 b0 q0 b1 q1 b2 q2 b3 q3 b4 q4 m),.int .i64 4]) (by simp [results,Tryz.results254,go_sem, *]) rfl (Zb hX0 rfl (uh HO) (uh BB))
   have hofX:∀ k,Wa (.slice xa0 m.rm.length xp0) (.slice xa1 m.gd.length xp1) (.slice xa2 m.sm.length xp2) (.slice xa3 m.dk.length xp3) (.slice xa4 m.pc.length xp4) xq k->k ≠ xb:=fun k e=>by have:=(uh LX k e).2;omega
   go_wp2_with fail;refine (RF (m:=Sh m n ss) (uh kx) (uh HF1) (fun e=>hofX _ (.inr (.inr (.inr (.inl e)))) rfl) (fun e=>hofX _ (.inr (.inr (.inr (.inr (.inl e))))) rfl) (by show ss.length<=800;have:=(uh HFew).sm;omega) (uh HFew).dk).mono ?_;rintro e w9 ⟨rfl,hf9,ht9⟩;replace kr:=Z9 ((uh kr).two ht9 (fun e=>by have:=(uh LX _ (.inr (.inr (.inr (.inl e))))).1;omega) (fun e=>by have:=(uh LX _ (.inr (.inr (.inr (.inr (.inl e)))))).1;omega));replace BB:=Z9 ((uh BB).trans (ht9.below (uh BB).size (fun k e=>by have:=(uh LX k (.inr (.inr (.inr (.inl e))))).1;omega) (fun k e=>by have:=(uh LX k (.inr (.inr (.inr (.inr (.inl e)))))).1;omega)));have HF9:=Z9 hf9;clear hf9 ht9 hofX;obtain ⟨o0,o1,o2,o3,o4,o5⟩:=(uh kr).c6;obtain ⟨f0,f1,f2,f3,f4,f5⟩:=(uh kr).f6;go_wp2_with fail;have hX0:X=(ZM (Sh m n ss),0):=by rw [<-uh HX];unfold Sg;rw [uh Hok];simp only [if_true];rw [uh Hpb];simp only [if_true];rw [uh Htk];simp only;rw [uh Hlb];rfl
   have hnow9:(ZM (Sh m n ss)).now=m.now+n:=(ZH _ _).2.2.2.1;refine ZS (v:= .tuple #[.agg #[.slice xa0 m.rm.length xp0,.slice xa1 m.gd.length xp1,.slice xa2 m.sm.length xp2,.slice xa3 m.dk.length xp3,.slice xa4 m.pc.length xp4,.int .i64 (m.now+n)],.int .i64 0]) (by simp [results,Tryz.results254,go_sem,Sh, *]) rfl ⟨?_,?_⟩
   ·rw [hX0];refine ⟨_,_,_,_,_,xq,by rw [hnow9],?_⟩
    iterate 6 (refine FullSmy.set_off ?_ (fun k e=>by have:=(uh LX k e).1;omega) _ _)
    exact (uh HF9).mono (by omega)
   ·iterate 6 (refine YO ?_ (by show _<=w.heap.size+1;omega) _)
    exact uh BB
end Go.Proofs.YtamgfpdahadnfaaGreatDoor
