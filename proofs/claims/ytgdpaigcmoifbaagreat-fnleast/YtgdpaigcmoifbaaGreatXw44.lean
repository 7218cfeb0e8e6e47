/- Part 44 of what the proof rests on. No condition but those that a theorem names. -/
import Derived.Test.YtgdpaigcmoifbaaGreatXw43
namespace Go.Proofs.YtgdpaigcmoifbaaGreat
open Go.ChangeShapes Go.WideShapes Go.ChangeAt Go.RowKit Go.Sort Go.Proofs.Tryz
open Draw (Row Vt Pa row_later Qz OM)
set_option linter.unusedVariables false
set_option linter.unusedSimpArgs false
set_option maxRecDepth 100000
set_option maxHeartbeats 8000000 in
theorem IE (a0:Option Addr) (len0 cap0:Nat) (z0:List Int) (w:World) (w0:Vt .u8 w a0 len0 cap0 z0) :
  cB 11 #[.slice a0 len0 cap0] w (.bool true):=by
 by_cases hbig:4096<len0
 ·go_enter func11,ntmps11
  go_wp2_with fail;refine (Qz _ _ _ _ hbig).mono ?_;rintro e w' ⟨rfl,rfl⟩;go_wp2_with fail;go_ret;exact ⟨rfl,Z3 _ _⟩
 have Hr:=Z9 (Pa w0 (by omega));clear w0;go_enter func11,ntmps11;go_wp2_with fail;refine (OM _ _ _ _ (by omega)).mono ?_;rintro e w' ⟨rfl,hw'⟩;subst w';go_wp2_with fail;refine (NK _ _ _ _ (uh Hr)).mono ?_;rintro e w1 ⟨M,u0,u1,u2,u3,u4,mq,rfl,hf,hb⟩;have hm:=hf.smy;obtain ⟨b0,q0,b1,q1,b2,q2,b3,q3,b4,q4,rfl,rfl,rfl,rfl,rfl,_,_,_,_,_,_,_,_,_,_⟩:=hm.five;have Hv:=Z9 hm;have BB:=Z9 hb;replace Hr:=Z9 (row_later (uh Hr) hb);clear hm hf hb;go_upto_region 4 with fail;obtain ⟨W1,hW1,hb,km⟩:=Zc w1 32 (S6 b0 q0 b1 q1 b2 q2 b3 q3 b4 q4 M);replace Hv:=Z9 ((uh Hv).below hb);replace Hr:=Z9 (row_later (uh Hr) hb);replace BB:=bt BB hb;clear hb;rw [hW1];clear hW1;generalize w1.heap.size=mb at *;obtain ⟨wl,hwl⟩:=ZJ (XS M);have HI:=Z9 (RN W1 _ _ _ _ _ M (uh Hv));rw [hwl] at HI;have HW:=Z9 hwl;clear hwl;obtain ⟨x0,x1,x2,x3,x4,x5⟩:=(uh km).c6;go_wp2_with fail;clear x0 x1 x2 x3 x4 x5;refine (uh HI).mono ?_;rintro e w2 ⟨v9,rfl,hn,hb⟩;obtain ⟨wa,wc,rfl⟩:=RecAt.shape hn;have Hw:=Z9 hn;clear hn HI;replace Hv:=Z9 ((uh Hv).below hb);replace Hr:=Z9 (row_later (uh Hr) hb);replace km:=bl km hb;replace BB:=bt BB hb;clear hb;go_wp2_with fail;refine (LM _ _ _ _ (uh Hr)).mono ?_;rintro e w3 ⟨Q,u0,u1,u2,u3,u4,bn,rq,rfl,hf,hb⟩;have hm:=hf.smy;obtain ⟨c0,r0,c1,r1,c2,r2,c3,r3,c4,r4,rfl,rfl,rfl,rfl,rfl,_,_,_,_,_,_,_,_,_,_⟩:=hm.five;have Hq:=Z9 hm;clear hm hf;clear Hr;replace Hv:=Z9 ((uh Hv).below hb);replace km:=bl km hb;replace Hw:=Z9 ((uh Hw).later hb);replace BB:=bt BB hb;clear hb;go_upto_region 6 with fail;obtain ⟨W3,hW3,hb,kq⟩:=Zc w3 32 (S6 c0 r0 c1 r1 c2 r2 c3 r3 c4 r4 Q);replace Hv:=Z9 ((uh Hv).below hb);replace km:=bl km hb;replace Hw:=Z9 ((uh Hw).later hb);replace Hq:=Z9 ((uh Hq).below hb);replace BB:=bt BB hb;clear hb;rw [hW3];clear hW3;generalize w3.heap.size=qb at *;obtain ⟨is,HS⟩:=YV (VW Q bn);obtain ⟨x0,x1,x2,x3,x4,x5⟩:=(uh kq).c6;go_wp2_with fail;clear x0 x1 x2 x3 x4 x5;refine ck (Mc (uh HS) (uh Hq)) fun w4 hb=> ?_;replace Hv:=Z9 ((uh Hv).below hb);replace km:=bl km hb;replace Hw:=Z9 ((uh Hw).later hb);replace Hq:=Z9 ((uh Hq).below hb);replace kq:=bl kq hb;replace BB:=bt BB hb;clear hb;obtain ⟨x0,x1,x2,x3,x4,x5⟩:=(uh km).c6;go_wp2_with fail;clear x0 x1 x2 x3 x4 x5;have hS:=N7 w4 _ _ _ _ _ M (uh Hv);rw [uh HW] at hS;refine hS.mono ?_;rintro e w5 ⟨v9,rfl,hn,hb⟩;obtain ⟨za,zc,rfl⟩:=RecAt.shape hn;have Hz:=Z9 hn;clear hn hS;replace Hv:=Z9 ((uh Hv).below hb);replace km:=bl km hb;replace Hw:=Z9 ((uh Hw).later hb);replace Hq:=Z9 ((uh Hq).below hb);replace kq:=bl kq hb;replace BB:=bt BB hb;clear hb;go_wp2_with fail;refine ck (PC (RecAt.recs Ze (by omega) (uh Hw)) (RecAt.recs Ze (by omega) (uh Hz))) fun w6 hb=> ?_;clear Hz;replace Hv:=Z9 ((uh Hv).below hb);replace km:=bl km hb;replace Hw:=Z9 ((uh Hw).later hb);replace Hq:=Z9 ((uh Hq).below hb);replace kq:=bl kq hb;replace BB:=bt BB hb;clear hb;obtain ⟨x0,x1,x2,x3,x4,x5⟩:=(uh kq).c6;go_wp2_with fail;clear x0 x1 x2 x3 x4 x5;refine ck (MV (uh HS) (uh Hq)) fun w7 hb=> ?_;replace Hv:=Z9 ((uh Hv).below hb);replace km:=bl km hb;replace Hw:=Z9 ((uh Hw).later hb)
 replace Hq:=Z9 ((uh Hq).below hb);replace kq:=bl kq hb;replace BB:=bt BB hb;clear hb;have hpp:(is !=is)=false:=bne_self_eq_false is;go_upto_region 9 with (first | rw [hpp] | fail)
 clear hpp;have HB7:=Z9 (Z3 w7.heap.size w7)
 go_cut [55] (fun s wc=>s= .bool false/\Below w7.heap.size w7 wc)
 case first=>
  cases is
  ·
   go_wp2_with fail;go_meet;exact ⟨by simp,uh HB7⟩
  obtain ⟨hat,hb0,hb1,hop⟩:=Ee (uh HS);obtain ⟨j,rfl⟩:=Int.eq_ofNat_of_zero_le hb0;have hjl:j<Q.dk.length:=by omega
  have HAT:=Z9 hat;clear hat hb0;obtain ⟨x0,x1,x2,x3,x4,x5⟩:=(uh kq).c6;go_wp2_with fail;clear x0 x1 x2 x3 x4 x5;have hS:=MP (j:Int) (uh Hq);rw [uh HAT] at hS;refine hS.mono ?_;rintro e w8 ⟨v9,rfl,hn,hb⟩;obtain ⟨ea,ec,rfl⟩:=EntsAt.shape hn;clear hn hS;have kq8:=Z9 ((uh kq).below hb (uh kq).lt);have Hq8:=Z9 ((uh Hq).below hb);have HB8:=Z9 hb;clear hb;obtain ⟨_,_,hse,_,_,rx⟩:=(uh Hq8).dk;cases hse
  rcases rx with e0 | ⟨db,dof,rfl,hbx,hcx⟩
  ·rw [e0] at hjl;simp at hjl
  obtain ⟨d0,d1,d2⟩:=Zh hcx hjl;rw [show (Z8 Q.dk j).1=true by simpa using hop] at d0;have x3:=(uh kq8).cell (i:=3) (v:= .slice (some ⟨db,dof,none⟩) Q.dk.length r3) rfl;clear hcx hop;go_wp2_with fail;go_meet;exact ⟨by simp,uh HB8⟩
 case rest=>
  obtain ⟨rfl,hb⟩:=hcut;obtain ⟨w8,rfl⟩:∃ x,x=wc:=⟨wc,rfl⟩
  clear HS Hq kq HB7;replace Hv:=Z9 ((uh Hv).below hb);replace km:=bl km hb;replace Hw:=Z9 ((uh Hw).later hb);replace BB:=bt BB hb;clear hb;obtain ⟨ok,Hok⟩:=YV (ZM M);obtain ⟨x0,x1,x2,x3,x4,x5⟩:=(uh km).c6;go_wp2_with fail;clear x0 x1 x2 x3 x4 x5;refine ck (Ww (uh Hok) (uh Hv)) fun w9 hb=> ?_;replace Hv:=Z9 ((uh Hv).below hb);replace km:=bl km hb;replace Hw:=Z9 ((uh Hw).later hb);replace BB:=bt BB hb;clear hb;cases ok
  ·
   have hl0:wl.length=0:=by rw [<-uh HW,JI (uh Hok)];rfl
   rw [hl0];go_wp2_with fail;go_ret;exact ⟨rfl,uh BB⟩
  have hlo:=ZU (uh Hok);obtain ⟨X,hX⟩:=ZJ (Xr M);have hXt:X=ZH M:=by rw [<-hX];unfold Xr;rw [hlo.mk'];rfl
  have HI:=Z9 (Mg w9 _ _ _ _ _ M (uh Hv));rw [hX] at HI;have HXT:=Z9 hXt;have HLo:=Z9 hlo;have hXo:ZM X=true:=by rw [hXt];exact YS hlo
  have HXo:=Z9 hXo;have hdl:X.dk.length=M.dk.length:=by rw [hXt];exact (Zv M M.dk.length).2.2.2.2.2
  have hsl:X.sm.length=M.sm.length:=by rw [hXt];exact (Zv M M.dk.length).2.2.2.2.1
  have Hdl:=Z9 hdl;have Hsl:=Z9 hsl;clear hX hXt hlo hXo hdl hsl;obtain ⟨x0,x1,x2,x3,x4,x5⟩:=(uh km).c6;go_wp2_with fail;clear x0 x1 x2 x3 x4 x5;refine (uh HI).mono ?_;rintro e w10 ⟨y0,y1,y2,y3,y4,xq,rfl,ho,hb⟩;have k9:=ho.smy;obtain ⟨d0,t0,d1,t1,d2,t2,d3,t3,d4,t4,rfl,rfl,rfl,rfl,rfl,_,_,_,_,_,_,_,_,_,_⟩:=k9.five;have Hx:=Z9 k9;clear ho k9 HI;replace Hv:=Z9 ((uh Hv).below hb);replace km:=bl km hb;replace Hw:=Z9 ((uh Hw).later hb);replace BB:=bt BB hb;clear hb;go_upto_region 14 with fail;obtain ⟨W10,hW10,hb,kx⟩:=Zc w10 32 (S6 d0 t0 d1 t1 d2 t2 d3 t3 d4 t4 X);replace Hv:=Z9 ((uh Hv).below hb);replace km:=bl km hb;replace Hw:=Z9 ((uh Hw).later hb);replace Hx:=Z9 ((uh Hx).below hb);replace BB:=bt BB hb;clear hb;rw [hW10];clear hW10;generalize w10.heap.size=xb at *;obtain ⟨vl,hvl⟩:=ZJ (XS X);have HI:=Z9 (RN W10 _ _ _ _ _ X (uh Hx));rw [hvl] at HI;have HVL:Hid (vl.length=M.dk.length/\ ∀ i,i<M.dk.length->Z8 vl i=(Z8 (ZH M).dk i).2.1):=Z9 ⟨by rw [<-hvl,OH (uh HXo),uh Hdl],fun i hi=>by rw [<-hvl,Ft (uh HXo) (by rw [uh Hdl];exact hi),uh HXT]⟩;clear hvl;obtain ⟨x0,x1,x2,x3,x4,x5⟩:=(uh kx).c6;go_wp2_with fail;clear x0 x1 x2 x3 x4 x5;refine (uh HI).mono ?_;rintro e w11 ⟨v9,rfl,hn,hb⟩;obtain ⟨va,vc,rfl⟩:=RecAt.shape hn;have Hn:=Z9 hn;clear hn HI;replace Hv:=Z9 ((uh Hv).below hb);replace km:=bl km hb;replace Hw:=Z9 ((uh Hw).later hb);replace Hx:=Z9 ((uh Hx).below hb);replace kx:=bl kx hb;replace BB:=bt BB hb;clear hb;go_wp2_with fail
  go_loopw [10] (fun i wr=> ∃ k:Nat,k<=M.dk.length/\i= .int .i64 k/\Below w11.heap.size w11 wr) (fun i _=>M.dk.length-(intOf i).toNat)
  case atStart=>exact ⟨0,ZA _,rfl,Z3 _ _⟩
  case round=>
   obtain ⟨k,hk,rfl,hb⟩:=hrel;have HB:=Z9 hb;replace Hv:=Z9 ((uh Hv).below hb);replace km:=bl km hb;replace Hw:=Z9 ((uh Hw).later hb);replace Hx:=Z9 ((uh Hx).below hb);replace kx:=bl kx hb;replace Hn:=Z9 ((uh Hn).later hb);replace BB:=bt BB hb;clear hb;have hvn:=Nat.le_of_eq (uh HVL).1;have hvm:=Nat.le_of_eq (uh HVL).1.symm;by_cases hlt:k<M.dk.length
   ·
    have hlt1:(k:Int)<(vl.length:Int):=by omega
    obtain ⟨L,hL⟩:=ZJ (atV M.sm k M.sm.length);have hat:UM X k=L:=by rw [uh HXT,CJ (uh HLo) hlt,hL]
    have HL:=Z9 hL;have HAT:=Z9 hat;have hval:=(uh HVL).2 k hlt;have hltv:k<vl.length:=by omega
    have Hval:=Z9 hval;clear hL hat hval;obtain ⟨wo,rfl⟩:∃ x,x=wr:=⟨wr,rfl⟩
    go_upto_block 1 with fail
    go_cut [] (fun wc=>Below wo.heap.size wo wc)
    case first=>
     replace HB:=Z9 (Z3 wo.heap.size wo);obtain ⟨x0,x1,x2,x3,x4,x5⟩:=(uh kx).c6;go_wp2_with fail;clear x0 x1 x2 x3 x4 x5;have hS:=MP (k:Int) (uh Hx);rw [uh HAT] at hS;refine hS.mono ?_;rintro e w12 ⟨v9,rfl,hn,hb⟩;obtain ⟨ea,ec,rfl⟩:=EntsAt.shape hn;have He:=Z9 hn;clear hn hS HAT;replace HB:=Z9 ((uh HB).trans (hb.mono (uh HB).size));replace Hv:=Z9 ((uh Hv).below hb);replace km:=bl km hb;replace Hw:=Z9 ((uh Hw).later hb);replace Hx:=Z9 ((uh Hx).below hb);replace kx:=bl kx hb;replace Hn:=Z9 ((uh Hn).later hb);replace BB:=bt BB hb;clear hb;obtain ⟨_,_,hse,_,_,rv⟩:=RecAt.recs Ze (by omega) (uh Hn);cases hse
     rcases rv with e0 | ⟨vb,vo,rfl,hbw,hcl⟩
     ·rw [e0] at hltv;simp at hltv
     have c0:=Rs hcl hltv;have Hcl:=Z9 hcl;clear hcl;rw [uh Hval] at c0;go_upto_region 19 with fail;have HB12:=Z9 (Z3 w12.heap.size w12)
     go_cut [99] (fun s wc=>s= .bool false/\Below w12.heap.size w12 wc)
     case first=>
      rcases L with _ | ⟨⟨h0,n0⟩,tl⟩
      ·
       rw [Et hlt (uh HL)] at c0;go_wp2_with fail;go_quiet (fail);go_wp2_with fail;go_meet;exact ⟨by simp,⟨(uh HB12).os,(uh HB12).tape,(uh HB12).output,(uh HB12).size,(uh HB12).block⟩⟩
      obtain ⟨hw0,hn0,hn1,_⟩:=Oo hlt (uh HL);rw [hw0] at c0;simp only at c0 hn0 hn1;obtain ⟨_,_,hse,_,_,re⟩:=(uh He).pc;cases hse
      rcases re with e0 | ⟨eb,eo,rfl,hbe,hce⟩
      ·cases e0
      obtain ⟨g0,g1⟩:=hce 0 (by simp);rw [show Z7 ((h0,n0)::tl) 0=(h0,n0) from rfl] at g0 g1;simp only [Nat.zero_mul,Nat.add_zero] at g0 g1;have hn2:decide (n0<0)=false:=Yb (by omega);have hln:(((h0,n0)::tl).length:Int)=(tl.length:Int)+1:=by simp
      clear hce hw0;go_wp2_with fail;go_quiet (fail);go_wp2_with fail;go_meet;exact ⟨by simp;omega,⟨(uh HB12).os,(uh HB12).tape,(uh HB12).output,(uh HB12).size,(uh HB12).block⟩⟩
     case rest=>
      obtain ⟨rfl,hb⟩:=hcut;obtain ⟨w13,rfl⟩:∃ x,x=wc:=⟨wc,rfl⟩
      replace HB:=Z9 ((uh HB).trans (hb.mono (uh HB).size));replace Hv:=Z9 ((uh Hv).below hb);replace km:=bl km hb;replace Hw:=Z9 ((uh Hw).later hb);replace Hx:=Z9 ((uh Hx).below hb);replace kx:=bl kx hb;replace Hn:=Z9 ((uh Hn).later hb);replace He:=Z9 ((uh He).later hb);replace BB:=bt BB hb;clear hb;go_wp2_with fail
      go_loopw [12] (fun j wz=> ∃ q:Nat,1<=q/\q<=L.length+1/\j= .int .i64 q/\Below w13.heap.size w13 wz) (fun j _=>L.length+1-(intOf j).toNat)
      case atStart=>exact ⟨1,by omega,by omega,rfl,Z3 _ _⟩
      case round=>
       obtain ⟨q,hq1,hq2,rfl,hb⟩:=hrel;have HB2:=Z9 hb;by_cases hlq:q<L.length
       ·
        replace Hv:=Z9 ((uh Hv).below hb);replace km:=bl km hb;replace Hw:=Z9 ((uh Hw).later hb);replace Hx:=Z9 ((uh Hx).below hb);replace kx:=bl kx hb;replace Hn:=Z9 ((uh Hn).later hb);replace He:=Z9 ((uh He).later hb);replace BB:=bt BB hb;clear hb;have hlq1:(q:Int)<(L.length:Int):=by omega
        have hmem:∃ h0 n0 tl,L=(h0,n0)::tl/\Z7 L q ∈ tl:=by
         rcases L with _ | ⟨⟨h0,n0⟩,tl⟩
         ·simp at hlq
         ·obtain ⟨q',rfl⟩:∃ q',q=q'+1:=⟨q-1,by omega⟩
          have hq':q'<tl.length:=by simpa using hlq
          exact ⟨h0,n0,tl,rfl,by unfold Z7;simp [List.getD,hq']⟩
        obtain ⟨h0,n0,tl,hLe,hm⟩:=hmem;have hL:=uh HL;rw [hLe] at hL;obtain ⟨hw0,hn0,hn1,hhad⟩:=Oo hlt hL;obtain ⟨hf0,hf1,hfs,hfh⟩:=Eu (uh HLo) hlt hL hm;obtain ⟨⟨fh,fw⟩,hfe⟩:=ZJ (Z7 L q);rw [hfe] at hf0 hf1 hfs hfh;simp only at hw0 hn0 hn1 hhad hf0 hf1 hfs hfh;obtain ⟨fj,rfl⟩:=Int.eq_ofNat_of_zero_le hf0;obtain ⟨nj,rfl⟩:=Int.eq_ofNat_of_zero_le hn0;rw [Zp,<-uh HXT] at hfs hhad;have hfl:fj<X.sm.length:=by rw [uh Hsl];omega
        have hnl:nj<X.sm.length:=by rw [uh Hsl];omega
        obtain ⟨_,_,hse,_,_,rs⟩:=(uh Hx).sm;cases hse
        rcases rs with e0 | ⟨sb,so,rfl,hbs,hcs⟩
        ·rw [e0] at hfl;simp at hfl
        have s0:=(Zu hcs hfl).1;rw [hfs] at s0;have s7:=hcs nj hnl 7 _ rfl;rw [show (Z8 X.sm nj).2.2.2.2.2.2.2.1=h0 from hhad] at s7;obtain ⟨_,_,hse,_,_,rv⟩:=RecAt.recs Ze (by omega) (uh Hn);cases hse
        rcases rv with e0 | ⟨_,_,hve,_,hcl'⟩
        ·rw [e0] at hltv;simp at hltv
        cases hve;have c1:=Rs hcl' hltv;rw [uh Hval,hw0] at c1;obtain ⟨_,_,hse,_,_,re⟩:=(uh He).pc;cases hse
        rcases re with e0 | ⟨eb,eo,rfl,hbe,hce⟩
        ·rw [e0] at hlq;simp at hlq
        obtain ⟨g0,g1⟩:=hce q hlq;rw [hfe] at g0 g1;simp only at g0 g1;have x2:=(uh kx).cell (i:=2) (v:= .slice (some ⟨sb,so,none⟩) X.sm.length t2) rfl;have hcmp:¬ fh<h0:=by omega
        have hfl1:(fj:Int)<(X.sm.length:Int):=by omega
        have hnl1:(nj:Int)<(X.sm.length:Int):=by omega
        clear hcs hcl' hce hhad hfs hLe hm hL hw0 hfe;go_wp2_with fail;go_quiet (fail);go_wp2_with fail;go_roundw
        case rel=>exact ⟨q+1,by omega,by omega,by go_num,⟨(uh HB2).os,(uh HB2).tape,(uh HB2).output,(uh HB2).size,(uh HB2).block⟩⟩
        case measure=>exact ms
       ·
        have hnq:¬ (q:Int)<(L.length:Int):=by omega
        have hnd:decide ((q:Int)<(L.length:Int))=false:=Yb hnq;go_wp2_with fail;go_meet;exact (uh HB).trans ((uh HB2).mono (uh HB).size)
    case rest=>
     have hb:=hcut;obtain ⟨wz,rfl⟩:∃ x,x=wc:=⟨wc,rfl⟩
     go_wp2_with fail;go_roundw
     case rel=>exact ⟨k+1,by omega,by go_num,(uh HB).trans (hb.mono (uh HB).size)⟩
     case measure=>exact ms
   ·
    obtain rfl:k=M.dk.length:=by omega
    have hwn:wl.length=M.dk.length:=by rw [<-uh HW,OH (uh Hok)]
    have x3:=(uh km).cell (i:=3) (v:= .slice b3 M.dk.length q3) rfl;rw [hwn];go_wp2_with fail;go_ret;exact ⟨by simp,uh BB⟩
end Go.Proofs.YtgdpaigcmoifbaaGreat
