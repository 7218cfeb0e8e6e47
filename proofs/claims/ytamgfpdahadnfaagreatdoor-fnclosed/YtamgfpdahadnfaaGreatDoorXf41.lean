/- Part 41 of what the proof rests on. No condition but those that a theorem names. -/
import Derived.Test.YtamgfpdahadnfaaGreatDoorXf42
import Derived.Test.YtamgfpdahadnfaaGreatDoorXf39
import Derived.Test.YtamgfpdahadnfaaGreatDoorXf40
namespace Go.Proofs.YtamgfpdahadnfaaGreatDoor
open Go.ChangeShapes Go.WideShapes Go.ChangeAt Go.RowKit Go.Sort Go.Shelf
open Draw (Row IsRow AQ row_later C0 zE)
set_option linter.unusedVariables false
set_option linter.unusedSimpArgs false
set_option maxRecDepth 100000
theorem Aa {m:Z6} (h:Loose m) {k:Nat} (hk:k<m.sm.length) (hp:ZR (Z8 m.sm k)=true) : -1000000000000<=Yn (Z8 m.sm k)/\Yn (Z8 m.sm k)<=1000000000000:=by
 have hs:(Z8 m.sm k).1 ≠ 0:=by
  intro e;unfold ZR at hp;rw [e] at hp;cases hp
 obtain ⟨p,_,_⟩:=h.limits hk hs;obtain ⟨⟨st,be,rk,my,gu,lo,hi,hd,ca,ut,wk⟩,hrk⟩:∃ d,Z8 m.sm k=d:=⟨_,rfl⟩
 rw [hrk] at p ⊢;exact (Zj p).2.2.2.2.2.2.1
set_option maxHeartbeats 8000000 in
theorem JF (a0:Option Addr) (len0 cap0:Nat) (z0:List Int) (w:World) (w0:IsRow .u8 w a0 len0 cap0 z0) (her:∃ q,Errs w q) :
  Calls Tryz.prog 6 #[.slice a0 len0 cap0] w fun e w'=>e= .returned (.bool true)/\Below w.heap.size w w':=by
 obtain ⟨qe,her⟩:=her;have HEr:=Z9 her;clear her;by_cases hbig:4096<len0
 ·go_enter Tryz.func6,Tryz.ntmps6
  go_wp2_with fail;refine (C0 _ _ _ _ hbig).mono ?_;rintro e w' ⟨rfl,rfl⟩;go_wp2_with fail;go_ret;exact ⟨rfl,Z1 _ _⟩
 have Hr:=Z9 (AQ w0 (by omega));clear w0;go_enter Tryz.func6,Tryz.ntmps6;go_wp2_with fail;refine (zE _ _ _ _ (by omega)).mono ?_;rintro e w' ⟨rfl,hw'⟩;subst w';go_wp2_with fail;refine (LS _ _ _ _ (uh Hr)).mono ?_;rintro e v1 ⟨M,u0,u1,u2,u3,u4,bn0,rq1,rfl,hf,hb⟩;obtain ⟨a_0,p_0,a_1,p_1,a_2,p_2,a_3,p_3,a_4,p_4,rfl,rfl,rfl,rfl,rfl,K⟩:=Bx.put hf.smy (hb);replace Hr:=Z9 (row_later (uh Hr) hb);clear hb hf;go_upto_region 4 with fail;have hb:Below v1.heap.size v1 (v1.alloc (.cells (S6 a_0 p_0 a_1 p_1 a_2 p_2 a_3 p_3 a_4 p_4 M) 32)):=ba _ _;replace Hr:=Z9 (row_later (uh Hr) hb);clear hb;generalize v1.alloc (.cells (S6 a_0 p_0 a_1 p_1 a_2 p_2 a_3 p_3 a_4 p_4 M) 32)=W1a at *;generalize v1.heap.size=m1 at *;obtain ⟨⟨X,cd1⟩,hV⟩:∃ v,Yr M bn0=v:=⟨_,rfl⟩
 have hI:=Mc bn0 ((uh HEr).below K.bb) K.smy;rw [hV] at hI;have HI:=Z9 hI;have HV1:=Z9 hV;clear hV hI;obtain ⟨c0,c1,c2,c3,c4,c5⟩:=K.cells;go_wp2_with fail;clear c0 c1 c2 c3 c4 c5;refine (uh HI).mono ?_;rintro e v2 ⟨⟨y0,y1,y2,y3,y4,rs1,rfl,ho⟩,hb⟩;obtain ⟨d_0,q_0,d_1,q_1,d_2,q_2,d_3,q_3,d_4,q_4,rfl,rfl,rfl,rfl,rfl,KX⟩:=Bx.put ho.smy (K.bb.trans (hb.mono K.bb.size));replace K:=K.next hb;replace Hr:=Z9 (row_later (uh Hr) hb);clear ho hb HI;go_upto_region 5 with fail;have hb:Below v2.heap.size v2 (v2.alloc (.cells (S6 d_0 q_0 d_1 q_1 d_2 q_2 d_3 q_3 d_4 q_4 X) 32)):=ba _ _;replace K:=K.next hb;replace Hr:=Z9 (row_later (uh Hr) hb);clear hb;generalize v2.alloc (.cells (S6 d_0 q_0 d_1 q_1 d_2 q_2 d_3 q_3 d_4 q_4 X) 32)=W1b at *;generalize v2.heap.size=x1_ at *;go_wp2_with fail;refine (LU _ _ _ _ (uh Hr)).mono ?_;rintro e v1 ⟨Q,u0,u1,u2,u3,u4,dn0,rq2,rfl,hf,hb⟩;obtain ⟨f_0,s_0,f_1,s_1,f_2,s_2,f_3,s_3,f_4,s_4,rfl,rfl,rfl,rfl,rfl,KQ⟩:=Bx.put hf.smy (K.bb.trans (hb.mono K.bb.size));replace K:=K.next hb;replace KX:=KX.next hb;replace Hr:=Z9 (row_later (uh Hr) hb);clear hb hf;go_upto_region 6 with fail;have hb:Below v1.heap.size v1 (v1.alloc (.cells (S6 f_0 s_0 f_1 s_1 f_2 s_2 f_3 s_3 f_4 s_4 Q) 32)):=ba _ _;replace K:=K.next hb;replace KX:=KX.next hb;replace Hr:=Z9 (row_later (uh Hr) hb);clear hb;generalize v1.alloc (.cells (S6 f_0 s_0 f_1 s_1 f_2 s_2 f_3 s_3 f_4 s_4 Q) 32)=W2a at *;generalize v1.heap.size=m2 at *;obtain ⟨⟨Y,cd2⟩,hV⟩:∃ v,Wd Q dn0=v:=⟨_,rfl⟩
 have hI:=Mi dn0 ((uh HEr).below KQ.bb) KQ.smy;rw [hV] at hI;have HI:=Z9 hI;have HV2:=Z9 hV;clear hV hI;obtain ⟨c0,c1,c2,c3,c4,c5⟩:=KQ.cells;go_wp2_with fail;clear c0 c1 c2 c3 c4 c5;refine (uh HI).mono ?_;rintro e v2 ⟨⟨y0,y1,y2,y3,y4,rs2,rfl,ho⟩,hb⟩;obtain ⟨g_0,j_0,g_1,j_1,g_2,j_2,g_3,j_3,g_4,j_4,rfl,rfl,rfl,rfl,rfl,KY⟩:=Bx.put ho.smy (KQ.bb.trans (hb.mono KQ.bb.size));replace K:=K.next hb;replace KX:=KX.next hb;replace KQ:=KQ.next hb;clear ho hb HI Hr;go_upto_region 7 with fail;have hb:Below v2.heap.size v2 (v2.alloc (.cells (S6 g_0 j_0 g_1 j_1 g_2 j_2 g_3 j_3 g_4 j_4 Y) 32)):=ba _ _;replace K:=K.next hb;replace KX:=KX.next hb;replace KQ:=KQ.next hb;clear hb;generalize v2.alloc (.cells (S6 g_0 j_0 g_1 j_1 g_2 j_2 g_3 j_3 g_4 j_4 Y) 32)=W2b at *;generalize v2.heap.size=x2_ at *;have hS:=RM bn0 K.smy;rw [uh HV1] at hS;have HS:=Z9 hS;clear hS;obtain ⟨c0,c1,c2,c3,c4,c5⟩:=K.cells;go_wp2_with fail;clear c0 c1 c2 c3 c4 c5;refine (uh HS).mono ?_;rintro e v3 ⟨⟨y0,y1,y2,y3,y4,rt1,rfl,ho⟩,hb⟩;obtain ⟨h1_0,l1_0,h1_1,l1_1,h1_2,l1_2,h1_3,l1_3,h1_4,l1_4,rfl,rfl,rfl,rfl,rfl,KZ⟩:=Bx.put ho.smy (K.bb.trans (hb.mono K.bb.size));replace K:=K.next hb;replace KX:=KX.next hb;replace KQ:=KQ.next hb;replace KY:=KY.next hb;clear ho hb HS;go_upto_region 8 with fail;have hb:Below v3.heap.size v3 (v3.alloc (.cells (S6 h1_0 l1_0 h1_1 l1_1 h1_2 l1_2 h1_3 l1_3 h1_4 l1_4 X) 32)):=ba _ _;replace K:=K.next hb;replace KX:=KX.next hb;replace KQ:=KQ.next hb;replace KY:=KY.next hb;clear hb;generalize v3.alloc (.cells (S6 h1_0 l1_0 h1_1 l1_1 h1_2 l1_2 h1_3 l1_3 h1_4 l1_4 X) 32)=W1c at *;generalize v3.heap.size=y1_ at *;obtain ⟨x0,x1,x2,x3,x4,x5⟩:=KX.cells;obtain ⟨yy0,yy1,yy2,yy3,yy4,yy5⟩:=KZ.cells;go_wp2_with fail;clear x0 x1 x2 x3 x4 x5 yy0 yy1 yy2 yy3 yy4 yy5;refine ck (Ui KX.smy KZ.smy) fun v4 hb=> ?_;replace K:=K.next hb;replace KX:=KX.next hb;replace KQ:=KQ.next hb;replace KY:=KY.next hb;clear hb KZ;have hS:=RN dn0 KQ.smy;rw [uh HV2] at hS;have HS:=Z9 hS;clear hS;obtain ⟨c0,c1,c2,c3,c4,c5⟩:=KQ.cells;go_wp2_with fail;clear c0 c1 c2 c3 c4 c5;refine (uh HS).mono ?_;rintro e v3 ⟨⟨y0,y1,y2,y3,y4,rt2,rfl,ho⟩,hb⟩;obtain ⟨h2_0,l2_0,h2_1,l2_1,h2_2,l2_2,h2_3,l2_3,h2_4,l2_4,rfl,rfl,rfl,rfl,rfl,KZ⟩:=Bx.put ho.smy (KQ.bb.trans (hb.mono KQ.bb.size));replace K:=K.next hb;replace KX:=KX.next hb;replace KQ:=KQ.next hb;replace KY:=KY.next hb;clear ho hb HS;go_upto_region 11 with fail;have hb:Below v3.heap.size v3 (v3.alloc (.cells (S6 h2_0 l2_0 h2_1 l2_1 h2_2 l2_2 h2_3 l2_3 h2_4 l2_4 Y) 32)):=ba _ _;replace K:=K.next hb;replace KX:=KX.next hb;replace KQ:=KQ.next hb;replace KY:=KY.next hb;clear hb;generalize v3.alloc (.cells (S6 h2_0 l2_0 h2_1 l2_1 h2_2 l2_2 h2_3 l2_3 h2_4 l2_4 Y) 32)=W2c at *;generalize v3.heap.size=y2_ at *;have HK:=Z9 K;have HKX:=Z9 KX
 go_cut [86] (fun s wc=>s= .bool false/\Below W2c.heap.size W2c wc)
 case first=>
  clear HK HKX K KX HV1
  as_aux_lemma=>
   obtain ⟨x0,x1,x2,x3,x4,x5⟩:=KY.cells;obtain ⟨yy0,yy1,yy2,yy3,yy4,yy5⟩:=KZ.cells;go_wp2_with fail;clear x0 x1 x2 x3 x4 x5 yy0 yy1 yy2 yy3 yy4 yy5;refine ck (Ui KY.smy KZ.smy) fun v4 hb=> ?_;replace KY:=KY.next hb;have HB:=Z9 hb;clear hb KZ
   rcases EJ Q dn0 with ⟨hk0,hv⟩ | ⟨hk0,c',hc,hv⟩ | ⟨hk0,X',hv,hr,hid⟩
   ·obtain ⟨hX,hcc⟩:=Prod.mk.inj ((uh HV2).symm.trans hv)
    subst hX hcc;clear HV2 hv hk0;go_wp2_with fail;go_meet;exact ⟨rfl,uh HB⟩
   ·obtain ⟨hX,hcc⟩:=Prod.mk.inj ((uh HV2).symm.trans hv)
    subst hX hcc;clear HV2 hv hk0;have hcd:decide (cd2=0)=false:=Xn hc;have hcb:(cd2 ==0)=false:=beq_eq_false_iff_ne.mpr hc;go_wp2_with fail;go_meet;exact ⟨rfl,uh HB⟩
   ·obtain ⟨hX,hcc⟩:=Prod.mk.inj ((uh HV2).symm.trans hv)
    subst hX hcc;have Hok:=Z9 hr;have Hid9:=Z9 hid;clear HV2 hv hk0 hr hid;obtain ⟨x0,x1,x2,x3,x4,x5⟩:=KY.cells;go_wp2_with fail;clear x0 x1 x2 x3 x4 x5;refine ck (Uc _ _ _ _ _ _ _ _ (uh Hok) KY.smy) fun v5 hb=> ?_;replace KY:=KY.next hb;replace HB:=Z9 ((uh HB).trans (hb.mono (uh HB).size));clear hb;obtain ⟨x0,x1,x2,x3,x4,x5⟩:=KY.cells;go_wp2_with fail;clear x0 x1 x2 x3 x4 x5;refine ck (MX (uh Hid9) KY.smy) fun v6 hb=> ?_;replace HB:=Z9 ((uh HB).trans (hb.mono (uh HB).size));clear hb;go_wp2_with fail;go_meet;exact ⟨rfl,uh HB⟩
 case rest=>
  obtain ⟨rfl,hb⟩:=hcut;clear K KX KQ KY KZ HV2;have K:=(uh HK).next hb;have KX:=(uh HKX).next hb;clear hb HK HKX
  rcases I4 M bn0 with ⟨hk0,hv⟩ | ⟨hk0,c',hc,hv⟩ | ⟨hk0,X',bn,hbb,hbl,hv,hr,hl,hdl,hcl,hat,hall⟩
  ·
   as_aux_lemma=>
    obtain ⟨hX,hcc⟩:=Prod.mk.inj ((uh HV1).symm.trans hv);subst hX hcc;have Hok:=Z9 hk0;clear HV1 hv hk0;obtain ⟨c0,c1,c2,c3,c4,c5⟩:=K.cells;go_wp2_with fail;clear c0 c1 c2 c3 c4 c5;refine ck (Xx (uh Hok) K.smy) fun v5 hb=> ?_;replace K:=K.next hb;clear hb;go_wp2_with fail;go_ret;exact ⟨rfl,K.bb⟩
  ·
   as_aux_lemma=>
    obtain ⟨hX,hcc⟩:=Prod.mk.inj ((uh HV1).symm.trans hv);subst hX hcc;have Hok:=Z9 hk0;clear HV1 hv hk0;have hcd:decide (cd1=0)=false:=Xn hc;have hcb:(cd1 ==0)=false:=beq_eq_false_iff_ne.mpr hc;obtain ⟨c0,c1,c2,c3,c4,c5⟩:=K.cells;go_wp2_with fail;clear c0 c1 c2 c3 c4 c5;refine ck (Xx (uh Hok) K.smy) fun v5 hb=> ?_;replace K:=K.next hb;replace KX:=KX.next hb;clear hb;obtain ⟨c0,c1,c2,c3,c4,c5⟩:=K.cells;obtain ⟨x0,x1,x2,x3,x4,x5⟩:=KX.cells;go_wp2_with fail;clear c0 c1 c2 c3 c4 c5 x0 x1 x2 x3 x4 x5;refine ck (Ui KX.smy K.smy) fun v6 hb=> ?_;replace K:=K.next hb;clear hb;go_wp2_with fail;go_ret;exact ⟨rfl,K.bb⟩
  obtain ⟨hX,hcc⟩:=Prod.mk.inj ((uh HV1).symm.trans hv);subst hX hcc hbb;have Hok:=Z9 hk0;clear HV1 hv hk0;obtain ⟨c0,c1,c2,c3,c4,c5⟩:=K.cells;go_wp2_with fail;clear c0 c1 c2 c3 c4 c5;refine ck (Xx (uh Hok) K.smy) fun v5 hb=> ?_;replace K:=K.next hb;replace KX:=KX.next hb;clear hb;have HLo:=Z9 (ZM (uh Hok));have HLx:=Z9 (ZM hr);have HR:=Z9 hr;have HA:=Z9 hall;have Hl:=Z9 hl;have Hdl:=Z9 hdl;have Hcl:=Z9 hcl;have Hat:Hid (SN X (bn:Int)=[]):=Z9 (by unfold SN;split;exact hat;rfl);have hl9:=YO (uh HLo);have hbl1:(bn:Int)<(M.dk.length:Int):=by omega
  clear hr hall hl hdl hcl hat;have HK:=Z9 K;have HKX:=Z9 KX;clear K KX;go_wp2_with fail
  go_loopw [15] (fun i wr=> ∃ k:Nat,k<=M.sm.length/\i= .int .i64 k/\Below v5.heap.size v5 wr) (fun i _=>M.sm.length-(intOf i).toNat)
  case atStart=>exact ⟨0,Zz _,rfl,Z1 _ _⟩
  case round=>
   obtain ⟨k,hk0,rfl,hR0⟩:=hrel;have K:=(uh HK).next hR0;have KX:=(uh HKX).next hR0;obtain ⟨_,_,c2,_,_,_⟩:=K.cells;by_cases hk:k<M.sm.length;rotate_left
   ·obtain rfl:k=M.sm.length:=by omega
    as_aux_lemma=>
     obtain ⟨x0,x1,x2,x3,x4,x5⟩:=KX.cells;go_wp2_with fail;refine ck (Uc _ _ _ _ _ _ _ _ (uh HR) KX.smy) fun w7 hb=> ?_;replace K:=K.next hb;replace KX:=KX.next hb;clear hb c2 x0 x1 x2 x3 x4 x5;obtain ⟨_,_,hse,_,_,r3⟩:=KX.smy.dk;cases hse;have hblx:bn<X.dk.length:=by have:=uh Hdl;omega
     have hblx1:(bn:Int)<(X.dk.length:Int):=by omega
     rcases r3 with e0 | ⟨db,dof,rfl,hbw3,hcl3⟩
     ·exfalso;rw [e0] at hblx;simp at hblx
     have dk:=hcl3 bn hblx 0 (.bool false) (by rw [<-uh Hcl];rfl);simp only [Nat.add_zero] at dk;clear hcl3;obtain ⟨x0,x1,x2,x3,x4,x5⟩:=KX.cells;go_wp2_with fail;refine (Fc (bn:Int) KX.smy).mono ?_;rw [uh Hat];rintro e w8 ⟨v9,rfl,hv9,hb⟩;replace K:=K.next hb;obtain ⟨va,vcap,rfl⟩:=hv9.shape;clear hb x0 x1 x2 x3 x4 x5 dk hv9;go_wp2_with fail;go_ret;exact ⟨rfl,K.bb⟩
   have hk1:(k:Int)<(M.sm.length:Int):=by omega
   have hlk:k<X.sm.length:=by have:=uh Hl;omega
   have hlk1:(k:Int)<(X.sm.length:Int):=by omega
   obtain ⟨hp0,hp1,hp2,hp3⟩:=uh HA k hk;have hha:=Aa (uh HLo) hk;have hhb:=Aa (uh HLx) hlk;obtain ⟨_,_,hse,_,_,r2p⟩:=K.smy.sm;cases hse
   rcases r2p with e0 | ⟨sbp,ofp,rfl,hbwp,hclp⟩
   ·exfalso;have h9:=hk;rw [e0] at h9;simp at h9
   obtain ⟨p0,p1,p2,p3,p4,p5,p6,p7,p8,p9,p10⟩:=Zx hclp hk;clear hclp;obtain ⟨_,_,hse,_,_,r2s⟩:=KX.smy.sm;cases hse
   rcases r2s with e0 | ⟨sbs,ofs,rfl,hbws,hcls⟩
   ·exfalso;have h9:=hlk;rw [e0] at h9;simp at h9
   obtain ⟨s0,s1,s2,s3,s4,s5,s6,s7,s8,s9,s10⟩:=Zx hcls hlk;clear hcls;generalize Z8 X.sm k=ss2 at *;generalize Z8 M.sm k=ss1 at *;obtain ⟨st,be,rk,my,gu,lo,hi,hd,ca,ut,wk⟩:=ss1;obtain ⟨st2,be2,rk2,my2,gu2,lo2,hi2,hd2,ca2,ut2,wk2⟩:=ss2;obtain ⟨pq,hpq⟩:∃ q,ZR (st,be,rk,my,gu,lo,hi,hd,ca,ut,wk)=q:=⟨_,rfl⟩
   replace hp1:be ≠ (bn:Int)->be2=be/\my2=my:=hp1;replace hp2:wk2=wk:=hp2;replace hp3:ZR (st,be,rk,my,gu,lo,hi,hd,ca,ut,wk)=true->be=(bn:Int)-> ∃ j:Nat,be2=(j:Int)/\j<M.dk.length/\hd2-YJ M (j:Int)=hd-YJ M (bn:Int):=hp3;rw [hpq] at hp0 hp3 hha;rw [hp0] at hhb;replace hha:pq=true-> -1000000000000<=hd/\hd<=1000000000000:=hha;replace hhb:pq=true-> -1000000000000<=hd2/\hd2<=1000000000000:=hhb;replace hp2:wk=wk2:=hp2.symm;subst hp2;have Hp1:=Z9 hp1;have Hp3:=Z9 hp3;have Hpa:=Z9 hpq;have Hpb:=Z9 hp0;have Hha:=Z9 hha;have Hhb:=Z9 hhb;clear hp0 hp1 hp3 hha hhb hpq;simp only at p0 p1 p2 p3 p4 p5 p6 p7 p8 p9 p10 s0 s1 s2 s3 s4 s5 s6 s7 s8 s9 s10;go_upto_region 21 with fail;have hba:Below wr.heap.size wr (wr.alloc (.cells (I11 st be rk my gu lo hi hd ca ut wk) 40)):=ba _ _;have ka:Hid (Blk (wr.alloc (.cells (I11 st be rk my gu lo hi hd ca ut wk) 40)) wr.heap.size 40 (I11 st be rk my gu lo hi hd ca ut wk)):=Z9 (Blk.new _ _ _);replace K:=K.next hba;replace KX:=KX.next hba;replace hR0:=hR0.trans (hba.mono hR0.size);replace s0:=(hba.cell (World.block_lt_of_cell? _ _ s0)).trans s0;replace s1:=(hba.cell (World.block_lt_of_cell? _ _ s1)).trans s1;replace s2:=(hba.cell (World.block_lt_of_cell? _ _ s2)).trans s2;replace s3:=(hba.cell (World.block_lt_of_cell? _ _ s3)).trans s3;replace s4:=(hba.cell (World.block_lt_of_cell? _ _ s4)).trans s4;replace s5:=(hba.cell (World.block_lt_of_cell? _ _ s5)).trans s5;replace s6:=(hba.cell (World.block_lt_of_cell? _ _ s6)).trans s6;replace s7:=(hba.cell (World.block_lt_of_cell? _ _ s7)).trans s7;replace s8:=(hba.cell (World.block_lt_of_cell? _ _ s8)).trans s8;replace s9:=(hba.cell (World.block_lt_of_cell? _ _ s9)).trans s9;replace s10:=(hba.cell (World.block_lt_of_cell? _ _ s10)).trans s10;clear hba c2 p0 p1 p2 p3 p4 p5 p6 p7 p8 p9 p10;generalize wr.alloc (.cells (I11 st be rk my gu lo hi hd ca ut wk) 40)=W6 at *;generalize wr.heap.size=ab at *;obtain ⟨_,_,x2,_,_,_⟩:=KX.cells;go_upto_region 22 with fail;obtain ⟨W7,hW7,hba,kb⟩:=Yz W6 40 (I11 st2 be2 rk2 my2 gu2 lo2 hi2 hd2 ca2 ut2 wk);replace K:=K.next hba;replace KX:=KX.next hba;replace ka:=bl ka hba;replace hR0:=hR0.trans (hba.mono hR0.size);clear hba x2 s0 s1 s2 s3 s4 s5 s6 s7 s8 s9 s10;rw [hW7];clear hW7;generalize W6.heap.size=bb2 at *;have hpa:=uh Hpa;have hpb:=uh Hpb;obtain ⟨e0,e1,e2,e3,e4,e5,e6,e7,e8,e9,e10⟩:=(uh ka).c11;obtain ⟨f0,f1,f2,f3,f4,f5,f6,f7,f8,f9,f10⟩:=(uh kb).c11;have ke0:=ZY e0;have ke1:=ZY e1;have ke2:=ZY e2;have ke3:=ZY e3;have ke4:=ZY e4;have ke5:=ZY e5;have ke6:=ZY e6;have ke7:=ZY e7;have ke8:=ZY e8;have ke9:=ZY e9;have ke10:=ZY e10;have kf0:=ZY f0;have kf1:=ZY f1;have kf2:=ZY f2;have kf3:=ZY f3;have kf4:=ZY f4;have kf5:=ZY f5;have kf6:=ZY f6;have kf7:=ZY f7;have kf8:=ZY f8;have kf9:=ZY f9;have kf10:=ZY f10;by_cases hbe:be=(bn:Int)
   rotate_left
   ·obtain ⟨h1,h2⟩:=uh Hp1 hbe
    have hbe1:(be ==(bn:Int))=false:=beq_eq_false_iff_ne.mpr hbe;have hbe2:decide (be=(bn:Int))=false:=Xn hbe;have hbe3:(be !=(bn:Int))=true:=by simp [bne,hbe1]
    have hbe4:decide (be ≠ (bn:Int))=true:=VN hbe;subst h1 h2;cases pq
    all_goals
     as_aux_lemma=>
      refine wq ?_
      repeat (go_big_quiet_step (exact ZX (OW (by first | exact hpa | exact hpb) _)))
      refine wqn fun wq hbq=> ?_;go_wp2_with fail;go_roundw
      case rel=>exact ⟨k+1,by omega,by go_num,hR0.trans (hbq.mono hR0.size)⟩
      case measure=>exact ms
   subst hbe;cases pq
   ·clear Hp3
    as_aux_lemma=>
     refine wq ?_
     repeat (go_big_quiet_step (exact ZX (OW (by first | exact hpa | exact hpb) _)))
     refine wqn fun wq hbq=> ?_;go_wp2_with fail;go_roundw
     case rel=>exact ⟨k+1,by omega,by go_num,hR0.trans (hbq.mono hR0.size)⟩
     case measure=>exact ms
   obtain ⟨j9,hj1,hj2,hj3⟩:=uh Hp3 rfl rfl;subst hj1;have hj9:(j9:Int)<(M.dk.length:Int):=by omega
   obtain ⟨ha1,ha2⟩:=uh Hha rfl;obtain ⟨hb1,hb2⟩:=uh Hhb rfl;have hm1:=Ns (uh HLo) hbl;have hm2:=Ns (uh HLo) hj2;obtain ⟨mb,hmb⟩:∃ q,YJ M (bn:Int)=q:=⟨_,rfl⟩
   obtain ⟨mj,hmj⟩:∃ q,YJ M (j9:Int)=q:=⟨_,rfl⟩
   obtain ⟨_,_,hse,_,_,r3⟩:=K.smy.dk;cases hse
   rcases r3 with e00 | ⟨db,dof,rfl,hbw3,hcl3⟩
   ·exfalso;rw [e00] at hbl;simp at hbl
   have dk:=hcl3 bn hbl 2 (.int .i64 mb) (by rw [<-hmb];unfold YJ;rw [Zy];rfl);have dj:=hcl3 j9 hj2 2 (.int .i64 mj) (by rw [<-hmj];unfold YJ;rw [Zy];rfl);rw [hmb,hmj] at hj3;rw [hmb] at hm1;rw [hmj] at hm2;obtain ⟨hm11,hm12⟩:=hm1;obtain ⟨hm21,hm22⟩:=hm2;clear hcl3 hmb hmj;obtain ⟨_,_,_,c3,_,_⟩:=K.cells;have kc3:=ZY c3;have kdk:=ZY dk;have kdj:=ZY dj;obtain ⟨dl,hdl⟩:∃ q,hd-mb=q:=⟨_,rfl⟩
   have hdl2:hd2-mj=dl:=by omega
   have hw1:IntKind.i64.wrap (hd-mb)=dl:=by rw [hdl,IntKind.wrap_i64];omega
   have hw2:IntKind.i64.wrap (hd2-mj)=dl:=by rw [hdl2,IntKind.wrap_i64];omega
   clear hj3 Hp3 Hha Hhb Hp1
   as_aux_lemma=>
    refine wq ?_
    repeat (go_big_quiet_step (exact ZX (OW (by first | exact hpa | exact hpb) _)))
    refine wqn fun wq hbq=> ?_;go_wp2_with fail;go_roundw
    case rel=>exact ⟨k+1,by omega,by go_num,hR0.trans (hbq.mono hR0.size)⟩
    case measure=>exact ms
end Go.Proofs.YtamgfpdahadnfaaGreatDoor
