/- Part 9 of what the proof rests on. No condition but those that a theorem names. -/
import Derived.Test.YtamgfpdahadnfaaGreatDoorXc08
import Derived.Deep.LoopGhost
set_option maxHeartbeats 8000000
set_option maxRecDepth 100000
namespace Go.Proofs.YtamgfpdahadnfaaGreatDoor
open Go.ChangeShapes Go.WideShapes Go.ChangeAt Go.RowKit Go.Sort
set_option linter.unusedVariables false
theorem B7 {ps qs hs hs':List Z4} (hr:Ris qs) (hle:∀ x ∈ qs,∀ y ∈ hs,ltB y x=false) (hh:HeapTo hs hs.length) (hl:0<hs.length) (hp:(qs++hs).Perm ps) (hp':(hs'++[Z7 hs 0]).Perm hs) :
  Ris (qs++[Z7 hs 0])/\(∀ x ∈ qs++[Z7 hs 0],∀ y ∈ hs',ltB y x=false)/\((qs++[Z7 hs 0])++hs').Perm ps:=by
 have hsub:∀ y ∈ hs',y ∈ hs:=fun y hy=>hp'.subset (List.mem_append_left _ hy);refine ⟨A8 hr (fun y hy=>hle y hy _ (WR hl)),fun x hx y hy=> ?_,?_⟩
 ·rcases List.mem_append.1 hx with hx | hx
  ·exact hle x hx y (hsub y hy)
  ·obtain rfl:x=Z7 hs 0:=by simpa using hx
   obtain ⟨k,hk,rfl⟩:=SH (hsub y hy);exact hh.least k hk
 ·rw [List.append_assoc]
  exact ((List.perm_append_comm (l₁:=[Z7 hs 0]) (l₂:=hs')).trans hp').append_left qs |>.trans hp
theorem Gi {n₀ bx:Nat} {v:Value} {w:World} {ps:List Z4} (h:HeapIs n₀ bx v w ps) (hp:HeapTo ps ps.length) (hl:ps.length<=900) (hx:n₀<=bx) (hn:n₀<=w.heap.size) :
  Calls Tryz.prog 246 #[.pointer (some ⟨bx,0,none⟩)] w fun e w'=> ∃ v' qs,e= .returned v'/\EntsAt w.heap.size w' v' qs/\Ris qs/\qs.Perm ps/\Below n₀ w w':=by
 have H:=Z9 h;have HP:=Z9 hp;have hbx:=h.lt;have HO:Hid (∀ k,v.ownBlock=some k->n₀<=k/\k<w.heap.size):=Z9 (fun k e=>h.row.lt e);clear h hp;go_enter Tryz.func246,Tryz.ntmps246;go_wp2_with fail
 go_loopg [3] ps.length (fun gg q wr=> ∃ (vh:Value) (qs hs:List Z4),hs.length<=gg/\EntsAt w.heap.size wr q qs/\HeapIs n₀ bx vh wr hs/\HeapTo hs hs.length/\Ris qs/\(∀ x ∈ qs,∀ y ∈ hs,ltB y x=false)/\(qs++hs).Perm ps/\vh.ownBlock=v.ownBlock/\Below n₀ w wr)
 case atStart=>exact ⟨v,[],ps,Z1 _,Vm rfl (Z1 _),(uh H).later ((ba _ _)),uh HP,List.Pairwise.nil,fun _ hx=>(by cases hx),List.Perm.refl _,rfl,(ZZ _ _).alloc hn _⟩
 case round=>
  obtain ⟨vh,qs,hs,hgg,hq,hh,hto,hris,hle,hperm,hob,hbel⟩:=hrel;have hlen:qs.length+hs.length=ps.length:=by have:=hperm.length_eq;simpa using this
  obtain ⟨qa,qcap,rfl⟩:=hq.shape;have Hq:=Z9 hq;have Hh:=Z9 hh;have Hto:=Z9 hto;have Hris:=Z9 hris;have Hle:=Z9 hle;have Hpe:=Z9 hperm;have Hob:=Z9 hob;have Hbel:=Z9 hbel;have hsz:=hbel.size;clear hq hh hto hris hle hperm hob hbel;by_cases h0:hs.length=0
  ·have hz:¬ (0:Int)<(hs.length:Int):=by omega
   go_wp2_with fail;refine (PI (uh Hh)).mono ?_;rintro e w' ⟨rfl,h2⟩;subst w';go_wp2_with fail;go_ret;obtain rfl:hs=[]:=List.eq_nil_of_length_eq_zero h0;exact ⟨_,qs,rfl,uh Hq,uh Hris,by have:=uh Hpe;simpa using this,uh Hbel⟩
  ·obtain ⟨m,hm⟩:∃ m,hs.length=m+1:=⟨hs.length-1,by omega⟩
   have hz:(0:Int)<(hs.length:Int):=by omega
   go_wp2_with fail;refine (PI (uh Hh)).mono ?_;rintro e w' ⟨rfl,h2⟩;subst w';go_wp2_with fail;refine (Gy (uh Hh) (uh Hto) hm (by omega)).mono ?_;rintro e w1 ⟨rfl,v1,hs',hh1,hto1,hpe1,hob1,hf1⟩;obtain ⟨s1,s2,s3⟩:=B7 (uh Hris) (uh Hle) (uh Hto) (by omega) (uh Hpe) hpe1;have hlen':hs'.length+1=hs.length:=by have:=hpe1.length_eq;simpa using this
   generalize Z7 hs 0=p at *;obtain ⟨f,z⟩:=p;have hta:=LJ f z;have S1:=Z9 s1;have S2:=Z9 s2;have S3:=Z9 s3;have H1:=Z9 hh1;have T1:=Z9 hto1;have O1:Hid (v1.ownBlock=v.ownBlock):=Z9 (hob1.trans (uh Hob));have Q1:Hid (EntsAt w.heap.size w1 (.slice qa qs.length qcap) qs):=Z9 ((uh Hq).fr hf1 (fun e=>by have:=(uh Hq).lt e;omega) (fun k e e2=>by have h8:=(uh Hq).lt e;have h9:=uh HO k ((uh Hob).symm.trans e2);omega));have hz1:=hf1.size;have B1:Hid (Below n₀ w w1):=Z9 ((uh Hbel).trans ((uh Hh).below (v':=v1) (qs:=hs) hf1 hx (by omega)));clear s1 s2 s3 hh1 hto1 hpe1 hob1 hf1 Hh Hto Hris Hle Hpe Hob Hbel Hq;go_wp2_with (at_builtin;refine VZ rfl (.tmp 8) (.tmp 13) 52 Tryz.underlying52 rfl w.heap.size _ _ qs [(f,z)] rfl rfl ((uh Q1).later ((ba _ _))) (Ro rfl (Z1 _) (by omega)) (by simp;omega) (by simp;omega) ?_;intro v' w2 hown hgrow hat)
   have hb0:Below w1.heap.size w1 (w1.alloc (.cells #[.int .i64 f,.int .i64 z] 91)):=ba _ _;have hq0:∀ k,(Value.slice qa qs.length qcap).ownBlock=some k->w.heap.size<=k:=fun k e=>((uh Q1).lt e).1;have hw2:Below w.heap.size (w1.alloc (.cells #[.int .i64 f,.int .i64 z] 91)) w2:=(ZZ _ _).grown hgrow (by simp;omega) (fun k e=>hq0 k e)
   have hh2:HeapIs n₀ bx v1 w2 hs':=by
    have h3:=(uh H1).later hb0;have hk:=hw2.block bx hbx;refine ⟨(World.cell?_of_block (a:=⟨bx,0,none⟩) hk).trans h3.cell,(World.frozen?_of_block (a:=⟨bx,0,none⟩) hk).trans h3.free,Zf h3.lt hw2.size,h3.row.same (fun k e=>hw2.block k ?_),h3.off⟩;exact (uh HO k ((uh O1).symm.trans e)).2
   have H2:=Z9 hh2;have N2:=Z9 hown;have B2:Hid (Below n₀ w w2):=Z9 ((uh B1).trans ((hb0.mono (by omega)).trans (hw2.mono hn)));clear hown hgrow hat hb0 hw2 hh2 hq0
   go_roundg (m)
   case measure=>omega
   case rel=>exact ⟨v1,qs++[(f,z)],hs',by omega,uh N2,uh H2,uh T1,uh S1,uh S2,uh S3,uh O1,uh B2⟩
theorem zN {ps:List Z4} {k:Nat} {p:Z4} (hp:Z7 ps k=p) (h:L6 p=false):Vw ps k=false:=by unfold Vw;rw [hp];simp [h]
theorem zO {ps:List Z4} {k:Nat} {p q:Z4} (hz:0<k) (hp:Z7 ps k=p) (hq:Z7 ps (k-1)=q) (h:ltB q p=false):Vw ps k=false:=by unfold Vw;rw [hp,hq];simp [h];omega
theorem zP {ps:List Z4} {k:Nat} {f z:Int} (hp:Z7 ps k=(f,z)) (h:0<=VD (ps.take k) z):Vw ps k=false:=by unfold Vw;rw [hp];simp;intros;exact h
theorem zQ {ps:List Z4} {k:Nat} {f z:Int} {q:Z4} (hz:0<k) (hp:Z7 ps k=(f,z)) (hq:Z7 ps (k-1)=q) (h1:L6 (f,z)=true) (h2:ltB q (f,z)=true) (h:VD (ps.take k) z<0):Vw ps k=true:=by unfold Vw;rw [hp,hq];simp [h1,h2,h]
theorem zM {ps:List Z4} {p:Z4} (hp:Z7 ps 0=p) (h:L6 p=true):Vw ps 0=true:=by unfold Vw;rw [hp];simp [h,VD]
theorem Ts {w:World} {v:Value} {ps:List Z4} {who F:Int} (hF:VD ps who=F) (h:IsPaces w v ps) :
  Calls Tryz.prog 275 #[v,.int .i64 who] w fun e w'=>e= .returned (.int .i64 F)/\Below w.heap.size w w':=by
 subst hF;exact H8 who h
theorem XU {w:World} {v:Value} {ps:List Z4} (h:IsPaces w v ps) :
  Calls Tryz.prog 243 #[v] w fun e w'=>e= .returned (.bool (Yf ps))/\Below w.heap.size w w':=by
 have Hr2:=Z9 h;obtain ⟨a,cap,rfl,hc,hm,hr⟩:=h;have Hr:=Z9 hr;clear hr;by_cases hbig:100<ps.length
 ·go_enter Tryz.func243,Tryz.ntmps243
  go_wp2_with fail;go_ret;exact ⟨Z5 (EZ hbig).symm,ZZ _ _⟩
 go_enter Tryz.func243,Tryz.ntmps243;go_wp2_with fail
 go_loopw [10] (fun i wr=> ∃ k:Nat,k<=ps.length/\i= .int .i64 k/\(∀ j,j<k->Vw ps j=true)/\Below w.heap.size w wr) (fun i _=>ps.length-(intOf i).toNat)
 case atStart=>exact ⟨0,Zz _,rfl,fun j hj=>by omega,ZZ _ _⟩
 case round=>
  obtain ⟨k,hk,rfl,hst,hb⟩:=hrel;have Hst:=Z9 hst;have Hb:=Z9 hb;clear hst;by_cases hlt:k<ps.length
  ·rcases uh Hr with h0 | ⟨b,off,rfl,hbw,hcl⟩
   ·rw [h0] at hlt;simp at hlt
   have hbr:b<wr.heap.size:=Zf hbw hb.size;have hne:b ≠ wr.heap.size:=U3 hbr;obtain ⟨c0,c1⟩:=hcl k hlt;rw [<-hb.cell (p:=⟨b,off+k*2,none⟩) hbw] at c0;rw [<-hb.cell (p:=⟨b,off+k*2+1,none⟩) hbw] at c1;generalize hp:Z7 ps k=p at c0 c1;have Hp:=Z9 hp;clear hp;obtain ⟨f,z⟩:=p;simp only at c0 c1;have Hip:=Z9 ((((uh Hr2).below hb).cut (n:=k) (by omega)).below ((ZZ _ _).alloc (Z1 _) (.cells #[.int .i64 f,.int .i64 z] 91)));have d0:(wr.alloc (.cells #[.int .i64 f,.int .i64 z] 91)).cell? ⟨wr.heap.size,0,none⟩=some (.int .i64 f):=by simp
   have d1:(wr.alloc (.cells #[.int .i64 f,.int .i64 z] 91)).cell? ⟨wr.heap.size,1,none⟩=some (.int .i64 z):=by simp
   have k0:=Z2 d0;have k1:=Z2 d1;clear d0 d1;obtain ⟨F,hF⟩:∃ F,VD (ps.take k) z=F:=⟨_,rfl⟩
   have hFb:=Ak (ps.take k) z;rw [hF] at hFb;have HF:=Z9 hF;clear hF;cases hpb:L6 (f,z)
   ·clear hcl
    go_wp2_with fail;refine wq ?_
    repeat (go_big_quiet_step (first | exact ZY (U7 _ _ _) | exact ZY (Wd _ _ _ _ _) | exact ZY (Ts (uh HF) ((uh Hip).below (Z0 _ _ _)))))
    refine wpQuiet_nil ?_;intro _ hw';obtain ⟨⟨dq,osq⟩,hw''⟩:=hw';subst hw'';go_wp2_with fail;go_ret;exact ⟨Z5 (MQ hlt (zN (uh Hp) hpb)).symm,(uh Hb).trans (((ZZ _ _).alloc (uh Hb).size _).trans ((Z0 _ _ _).mono (by simp;have:=(uh Hb).size;omega)))⟩
   ·by_cases hz:0<k
    ·have hd:decide (0<k)=true:=VO hz
     obtain ⟨e0,e1⟩:=hcl (k-1) (by omega);rw [<-hb.cell (p:=⟨b,off+(k-1)*2,none⟩) hbw] at e0;rw [<-hb.cell (p:=⟨b,off+(k-1)*2+1,none⟩) hbw] at e1;generalize hq:Z7 ps (k-1)=q at e0 e1;have Hq:=Z9 hq;clear hq;obtain ⟨f',z'⟩:=q;simp only at e0 e1;have m0:=Z2 (w:=wr.alloc (.cells #[.int .i64 f,.int .i64 z] 91)) (a:=⟨b,off+(k-1)*2,none⟩) (v:= .int .i64 f') (by rw [World.cell?_alloc_old _ _ _ hne];exact e0);have m1:=Z2 (w:=wr.alloc (.cells #[.int .i64 f,.int .i64 z] 91)) (a:=⟨b,off+(k-1)*2+1,none⟩) (v:= .int .i64 z') (by rw [World.cell?_alloc_old _ _ _ hne];exact e1);clear hcl e0 e1;cases hab:ltB (f',z') (f,z)
     ·go_wp2_with fail
      refine wq ?_
      repeat (go_big_quiet_step (first | exact ZY (U7 _ _ _) | exact ZY (Wd _ _ _ _ _) | exact ZY (Ts (uh HF) ((uh Hip).below (Z0 _ _ _)))))
      refine wpQuiet_nil ?_;intro _ hw';obtain ⟨⟨dq,osq⟩,hw''⟩:=hw';subst hw'';go_wp2_with fail;go_ret;exact ⟨Z5 (MQ hlt (zO hz (uh Hp) (uh Hq) hab)).symm,(uh Hb).trans (((ZZ _ _).alloc (uh Hb).size _).trans ((Z0 _ _ _).mono (by simp;have:=(uh Hb).size;omega)))⟩
     ·by_cases hF0:F= -1
      ·subst hF0
       go_wp2_with fail;refine wq ?_
       repeat (go_big_quiet_step (first | exact ZY (U7 _ _ _) | exact ZY (Wd _ _ _ _ _) | exact ZY (Ts (uh HF) ((uh Hip).below (Z0 _ _ _)))))
       refine wpQuiet_nil ?_;intro _ hw';obtain ⟨⟨dq,osq⟩,hw''⟩:=hw';subst hw'';go_wp2_with fail;go_roundw
       case rel=>exact ⟨k+1,by omega,by go_num,Yi (uh Hst) (zQ hz (uh Hp) (uh Hq) hpb hab (by rw [uh HF];omega)),(uh Hb).trans (((ZZ _ _).alloc (uh Hb).size _).trans ((Z0 _ _ _).mono (by simp;have:=(uh Hb).size;omega)))⟩
       case measure=>exact ms
      ·have hF1:0<=F:=by omega
       have hF2:(F == -1)=false:=by simpa using hF0
       have hF3:(F != -1)=true:=by simpa using hF0
       clear hF0;go_wp2_with fail;refine wq ?_
       repeat (go_big_quiet_step (first | exact ZY (U7 _ _ _) | exact ZY (Wd _ _ _ _ _) | exact ZY (Ts (uh HF) ((uh Hip).below (Z0 _ _ _)))))
       refine wpQuiet_nil ?_;intro _ hw';obtain ⟨⟨dq,osq⟩,hw''⟩:=hw';subst hw'';go_wp2_with fail;go_ret;exact ⟨Z5 (MQ hlt (zP (uh Hp) (by rw [uh HF];exact hF1))).symm,(uh Hb).trans (((ZZ _ _).alloc (uh Hb).size _).trans ((Z0 _ _ _).mono (by simp;have:=(uh Hb).size;omega)))⟩
    ·obtain rfl:k=0:=by omega
     obtain rfl:F= -1:=by simp at hFb;omega
     simp only [Nat.zero_mul,Nat.add_zero] at c0 c1 k0 k1;clear hcl hz;go_wp2_with fail;refine wq ?_
     repeat (go_big_quiet_step (first | exact ZY (U7 _ _ _) | exact ZY (Wd _ _ _ _ _) | exact ZY (Ts (uh HF) ((uh Hip).below (Z0 _ _ _)))))
     refine wpQuiet_nil ?_;intro _ hw';obtain ⟨⟨dq,osq⟩,hw''⟩:=hw';subst hw'';go_wp2_with fail;go_roundw
     case rel=>exact ⟨1,by omega,by go_num,Yi (uh Hst) (zM (uh Hp) hpb),(uh Hb).trans (((ZZ _ _).alloc (uh Hb).size _).trans ((Z0 _ _ _).mono (by simp;have:=(uh Hb).size;omega)))⟩
     case measure=>exact ms
  ·obtain rfl:k=ps.length:=by omega
   go_wp2_with fail;go_ret;exact ⟨Z5 (Ig (by omega) (uh Hst)).symm,hb⟩
def xV (n₀:Nat) (r:List Z4 × Bool) (e:Ending) (w':World):Prop:= ∃ v',e= .returned (.tuple #[v',.bool r.2])/\EntsAt n₀ w' v' r.1
theorem E7 {ps:List Z4} {e:Z4} (h:Yf ps=false):SP ps e=([],false):=by unfold SP;rw [h];rfl
theorem Lk {ps:List Z4} {e:Z4} (h:Yf ps=true) (h2:Yf (Vd ps e)=false):SP ps e=(ps,false):=by unfold SP;rw [h,h2];rfl
theorem OA {ps:List Z4} {e:Z4} (h:Yf ps=true) (h2:Yf (Vd ps e)=true):SP ps e=(Vd ps e,true):=by unfold SP;rw [h,h2];rfl
theorem Mm {w:World} {v:Value} {ps:List Z4} (f z:Int) (h:IsPaces w v ps) :
  Calls Tryz.prog 201 #[v,.agg #[.int .i64 f,.int .i64 z]] w fun e w'=>xV w.heap.size (SP ps (f,z)) e w'/\Below w.heap.size w w':=by
 have Hv:=Z9 h;obtain ⟨a,cap,rfl,hc,hm,hr⟩:=h;clear hr;cases hq:Yf ps
 ·rw [E7 hq]
  go_enter Tryz.func201,Tryz.ntmps201;go_wp2_with fail;refine (XU ((uh Hv).below ((ba _ _)))).mono ?_;rw [hq];rintro e w1 ⟨rfl,hb1⟩;have B1:Hid (Below w.heap.size w w1):=Z9 (((ba _ _)).trans (hb1.mono (by simp)));clear hb1;go_wp2_with fail
  go_ret2
  exact ⟨⟨_,rfl,Vm rfl (uh B1).size⟩,(uh B1).alloc (uh B1).size _⟩
 ·have hQ:=yB hq
  have hlen:=hQ.len;have HQ:=Z9 hQ;clear hQ;go_enter Tryz.func201,Tryz.ntmps201;go_wp2_with fail;refine (XU ((uh Hv).below ((ba _ _)))).mono ?_;rw [hq];rintro e w1 ⟨rfl,hb1⟩;have hz1:w.heap.size+1<=w1.heap.size:=by have:=hb1.size;simpa using this
  have c0:w1.cell? ⟨w.heap.size,0,none⟩=some (.int .i64 f):=(hb1.cell (p:=⟨w.heap.size,0,none⟩) (by simp)).trans (by simp);have c1:w1.cell? ⟨w.heap.size,1,none⟩=some (.int .i64 z):=(hb1.cell (p:=⟨w.heap.size,1,none⟩) (by simp)).trans (by simp);have B1:Hid (Below w.heap.size w w1):=Z9 (((ba _ _)).trans (hb1.mono (by simp)));clear hb1;go_wp2_with fail;refine (Ep ((uh Hv).below (uh B1)) (by omega)).mono ?_;rintro e w2 ⟨bx,v2,rfl,hbx,hh2,hb2⟩;have hlt1:w.heap.size<w1.heap.size:=by omega
  have d0:=(hb2.cell (p:=⟨w.heap.size,0,none⟩) hlt1).trans c0;have d1:=(hb2.cell (p:=⟨w.heap.size,1,none⟩) hlt1).trans c1;have hz2:=hb2.size;have H2:=Z9 hh2;have B2:Hid (Below w.heap.size w w2):=Z9 ((uh B1).trans (hb2.mono (by omega)));clear hb2 hh2 c0 c1;go_wp2_with fail;refine (Jr f z (uh H2) (A7 (uh HQ).ris) (by omega) hbx hz2).mono ?_;rintro e w3 ⟨rfl,v3,hs,hh3,hto3,hpe3,hb3⟩;have hz3:=hb3.size;have hsl:hs.length=ps.length+1:=by have:=hpe3.length_eq;simpa using this
  have H3:=Z9 hh3;have T3:=Z9 hto3;have P3:=Z9 hpe3;have B3:Hid (Below w.heap.size w w3):=Z9 ((uh B2).trans (hb3.mono (by omega)));clear hb3 hh3 hto3 hpe3 d0 d1;go_wp2_with fail;refine (Gi (uh H3) (uh T3) (by omega) hbx (by omega)).mono ?_;rintro e w4 ⟨v4,qs,rfl,hi4,hris4,hpe4,hb4⟩;obtain rfl:qs=Vd ps (f,z):=Fj (uh HQ) hris4 (hpe4.trans (uh P3));have hz4:=hb4.size;obtain ⟨a4,cap4,rfl⟩:=hi4.shape;have H4:=Z9 hi4;have B4:Hid (Below w.heap.size w w4):=Z9 ((uh B3).trans (hb4.mono (by omega)));clear hi4 hris4 hpe4 hb4 H2 H3 T3 P3;go_wp2_with fail;refine (XU (uh H4).pc).mono ?_;cases hq2:Yf (Vd ps (f,z))
  ·rintro e w5 ⟨rfl,hb5⟩
   have B5:Hid (Below w.heap.size w w5):=Z9 ((uh B4).trans (hb5.mono (by omega)));clear hb5;go_wp2_with fail;refine (LY ((uh Hv).below (uh B5)) (by omega)).mono ?_;rintro e w6 ⟨v6,rfl,hi6,hb6⟩;obtain ⟨a6,cap6,rfl⟩:=hi6.shape;have H6:=Z9 hi6;have B6:Hid (Below w.heap.size w w6):=Z9 ((uh B5).trans (hb6.mono (uh B5).size));clear hi6 hb6;go_wp2_with fail
   go_ret2
   rw [Lk hq hq2];exact ⟨⟨_,rfl,(uh H6).mono (uh B5).size⟩,uh B6⟩
  ·rintro e w5 ⟨rfl,hb5⟩
   have H5:=Z9 ((uh H4).later hb5);have B5:Hid (Below w.heap.size w w5):=Z9 ((uh B4).trans (hb5.mono (by omega)));clear hb5;go_wp2_with fail
   go_ret2
   rw [OA hq hq2];exact ⟨⟨_,rfl,(uh H5).mono (by omega)⟩,uh B5⟩
structure Bx (w W:World) (R:Nat) (a0:Option Addr) (p0:Nat) (a1:Option Addr) (p1:Nat) (a2:Option Addr) (p2:Nat) (a3:Option Addr) (p3:Nat) (a4:Option Addr) (p4:Nat) (m:Z6):Prop where
 smy:Smy W (.slice a0 m.rm.length p0) (.slice a1 m.gd.length p1) (.slice a2 m.sm.length p2) (.slice a3 m.dk.length p3) (.slice a4 m.pc.length p4) m
 blk:Blk W R 32 (S6 a0 p0 a1 p1 a2 p2 a3 p3 a4 p4 m)
 bb:Below w.heap.size w W
section
variable {w W X : World} {R : Nat} {a0 a1 a2 a3 a4 : Option Addr} {p0 p1 p2 p3 p4 : Nat} {m : Z6}
theorem Bx.next (h:Bx w W R a0 p0 a1 p1 a2 p2 a3 p3 a4 p4 m) (hb:Below W.heap.size W X):Bx w X R a0 p0 a1 p1 a2 p2 a3 p3 a4 p4 m:=⟨h.smy.below hb,h.blk.below hb h.blk.lt,h.bb.trans (hb.mono h.bb.size)⟩
theorem Bx.alloc (h:Bx w W R a0 p0 a1 p1 a2 p2 a3 p3 a4 p4 m) (o:Obj):Bx w (W.alloc o) R a0 p0 a1 p1 a2 p2 a3 p3 a4 p4 m:=h.next ((ba _ _))
theorem Bx.drew (h:Bx w W R a0 p0 a1 p1 a2 p2 a3 p3 a4 p4 m):Bx w W.drew R a0 p0 a1 p1 a2 p2 a3 p3 a4 p4 m:=h.next (ZZ _ _).drew
theorem Bx.cells (h:Bx w W R a0 p0 a1 p1 a2 p2 a3 p3 a4 p4 m):W.cell? ⟨R,0,none⟩=some (.slice a0 m.rm.length p0)/\W.cell? ⟨R,1,none⟩=some (.slice a1 m.gd.length p1)/\W.cell? ⟨R,2,none⟩=some (.slice a2 m.sm.length p2)/\W.cell? ⟨R,3,none⟩=some (.slice a3 m.dk.length p3)/\W.cell? ⟨R,4,none⟩=some (.slice a4 m.pc.length p4)/\W.cell? ⟨R,5,none⟩=some (.int .i64 m.now):=h.blk.c6
end
theorem Bx.new {w:World} {v0 v1 v2 v3 v4:Value} {m:Z6} (h:Smy w v0 v1 v2 v3 v4 m):∃ a0 p0 a1 p1 a2 p2 a3 p3 a4 p4,v0= .slice a0 m.rm.length p0/\v1= .slice a1 m.gd.length p1/\v2= .slice a2 m.sm.length p2/\v3= .slice a3 m.dk.length p3/\v4= .slice a4 m.pc.length p4/\Bx w (w.alloc (.cells (S6 a0 p0 a1 p1 a2 p2 a3 p3 a4 p4 m) 32)) w.heap.size a0 p0 a1 p1 a2 p2 a3 p3 a4 p4 m:=by
 obtain ⟨a0,p0,a1,p1,a2,p2,a3,p3,a4,p4,rfl,rfl,rfl,rfl,rfl,_⟩:=h.five;exact ⟨a0,p0,a1,p1,a2,p2,a3,p3,a4,p4,rfl,rfl,rfl,rfl,rfl,h.alloc _,Blk.new _ _ _,(ba _ _)⟩
theorem Bx.put {w W:World} {v0 v1 v2 v3 v4:Value} {m:Z6} (h:Smy W v0 v1 v2 v3 v4 m) (hb:Below w.heap.size w W):∃ a0 p0 a1 p1 a2 p2 a3 p3 a4 p4,v0= .slice a0 m.rm.length p0/\v1= .slice a1 m.gd.length p1/\v2= .slice a2 m.sm.length p2/\v3= .slice a3 m.dk.length p3/\v4= .slice a4 m.pc.length p4/\Bx w (W.alloc (.cells (S6 a0 p0 a1 p1 a2 p2 a3 p3 a4 p4 m) 32)) W.heap.size a0 p0 a1 p1 a2 p2 a3 p3 a4 p4 m:=by
 obtain ⟨a0,p0,a1,p1,a2,p2,a3,p3,a4,p4,rfl,rfl,rfl,rfl,rfl,_⟩:=h.five;exact ⟨a0,p0,a1,p1,a2,p2,a3,p3,a4,p4,rfl,rfl,rfl,rfl,rfl,h.alloc _,Blk.new _ _ _,hb.trans (((ba _ _)).mono hb.size)⟩
end Go.Proofs.YtamgfpdahadnfaaGreatDoor
namespace Go.Proofs.YtamgfpdahadnfaaGreatDoor
open Go.ChangeShapes Go.WideShapes Go.ChangeAt Go.RowKit Go.Sort
set_option linter.unusedVariables false
set_option maxRecDepth 100000
theorem IT {m:Z6} {b:Int} {k:Nat} (hk:k<(ZO (atB b) m.sm m.sm.length).length):∃ i:Nat,i<m.sm.length/\Z8 (ZO (atB b) m.sm m.sm.length) k=(i:Int):=by
 obtain ⟨i,hi,e,_⟩:=(Wu (atB b) m.sm _ m.sm.length).1 (Vs hk);exact ⟨i,hi,e⟩
theorem EY {w:World} {v0 v1 v2 v3 v4:Value} {m M:Z6} (b:Int) (h:Smy w v0 v1 v2 v3 v4 m) (hL:Loose M) (hM:M.sm=m.sm):Calls Tryz.prog 144 #[.agg #[v0,v1,v2,v3,v4,.int .i64 m.now],.int .i64 b] w fun e w'=> ∃ v',e= .returned v'/\EntsAt w.heap.size w' v' (atV m.sm b m.sm.length)/\Below w.heap.size w w':=by
 have Hv:=Z9 ((h.alloc (.cells #[v0,v1,v2,v3,v4,.int .i64 m.now] 32)).alloc (.cells #[] 91));have HV0:=Z9 h;obtain ⟨a0,p0,a1,p1,a2,p2,a3,p3,a4,p4,rfl,rfl,rfl,rfl,rfl,_,_,_,_,_,_,_,_,_,_⟩:=h.five;clear h;have hl:m.sm.length<=1000:=by rw [<-hM];have:=(Xn hL).sm;omega
 have HL:Hid (∀ k,Yf (VK m.sm ((ZO (atB b) m.sm m.sm.length).take k))=true):=Z9 (fun k=>by have:=EV hL b k;rw [hM] at this;exact this);clear hL hM;have kb:Hid (Blk ((w.alloc (.cells (S6 a0 p0 a1 p1 a2 p2 a3 p3 a4 p4 m) 32)).alloc (.cells #[] 91)) w.heap.size 32 (S6 a0 p0 a1 p1 a2 p2 a3 p3 a4 p4 m)):=Z9 ((Blk.new w _ _).alloc _);have BB:Hid (Below w.heap.size w ((w.alloc (.cells (S6 a0 p0 a1 p1 a2 p2 a3 p3 a4 p4 m) 32)).alloc (.cells #[] 91))):=Z9 (((ba _ _)).alloc (by simp) _);have HE:Hid (EntsAt w.heap.size ((w.alloc (.cells (S6 a0 p0 a1 p1 a2 p2 a3 p3 a4 p4 m) 32)).alloc (.cells #[] 91)) (.slice (some ⟨w.heap.size+1,0,none⟩) 0 0) []):=Z9 (Vm (by simp) (by simp));go_enter Tryz.func144,Tryz.ntmps144;go_upto_region 2 with fail;generalize (w.alloc (.cells (S6 a0 p0 a1 p1 a2 p2 a3 p3 a4 p4 m) 32)).alloc (.cells #[] 91)=W at *;obtain ⟨c0,c1,c2,c3,c4,c5⟩:=(uh kb).c6;go_wp2_with fail;refine (R6 b (uh Hv) hl).mono ?_;rintro e w1 ⟨vn,rfl,hn,hb⟩;obtain ⟨na,nc,rfl⟩:=RecAt.shape hn;have HN0:=Z9 (RecAt.mono hn (uh BB).size);have Hv1:=Z9 ((uh Hv).below hb);have kb1:=Z9 ((uh kb).below hb (uh kb).lt);have BB1:=Z9 ((uh BB).trans (hb.mono (uh BB).size));have HE1:=Z9 ((uh HE).later hb);clear hb hn c0 c1 c2 c3 c4 c5 Hv kb BB HE;have Hq:=Z9 (Qt m.sm b m.sm.length);have Hwh:=Z9 (fun k hk=>IT (m:=m) (b:=b) (k:=k) hk);have Hpq:=HL;clear HL;have hwl:=VW (atB b) m.sm m.sm.length;generalize ZO (atB b) m.sm m.sm.length=ws at *;go_wp2_with fail
 go_loopw [5,13] (fun l i wr=> ∃ k:Nat,k<=ws.length/\i= .int .i64 k/\EntsAt w.heap.size wr l (VK m.sm (ws.take k))/\NumsAt w.heap.size wr (.slice na ws.length nc) ws/\Blk wr w.heap.size 32 (S6 a0 p0 a1 p1 a2 p2 a3 p3 a4 p4 m)/\Smy wr (.slice a0 m.rm.length p0) (.slice a1 m.gd.length p1) (.slice a2 m.sm.length p2) (.slice a3 m.dk.length p3) (.slice a4 m.pc.length p4) m/\Below w.heap.size w wr) (fun _ i _=>ws.length-(intOf i).toNat)
 case atStart=>exact ⟨0,Zz _,rfl,uh HE1,uh HN0,uh kb1,uh Hv1,uh BB1⟩
 case round=>
  obtain ⟨k,hk,rfl,he,hn,hkb,hv,hb0⟩:=hrel;obtain ⟨la,lc,rfl⟩:=EntsAt.shape he;have HE:=Z9 he;have HN:=Z9 hn;have kb:=Z9 hkb;have Hv:=Z9 hv;have BB:=Z9 hb0;clear he hn hkb hv hb0 HE1 HN0 kb1 Hv1 BB1;by_cases hlt:k<ws.length
  ·have hlt1:(k:Int)<(ws.length:Int):=by omega
   obtain ⟨g,hga,_,_,hcl,_⟩:=RecAt.view YE (by omega) (uh HN) rfl (by omega);cases hga;have z0:=hcl k hlt 0 _ rfl;simp only [Nat.mul_one,Nat.add_zero] at z0;obtain ⟨i,hi,hiw⟩:=uh Hwh k hlt;rw [hiw] at z0;have hi1:(i:Int)<(m.sm.length:Int):=by omega
   obtain ⟨_,_,hse,_,_,r2⟩:=(uh Hv).sm;cases hse
   rcases r2 with e0 | ⟨sb,off,rfl,hbw,hcs⟩
   ·rw [e0] at hi;simp at hi
   obtain ⟨_,_,_,_,_,_,_,d7,_⟩:=ZA hcs hi;have HT:Hid (VK m.sm (ws.take (k+1))=Vd (VK m.sm (ws.take k)) (WN (Z8 m.sm i),(i:Int))):=Z9 (by rw [P8 hlt,PT,hiw];simp);have hq1:=uh Hpq k;have hq2:=uh Hpq (k+1);rw [uh HT] at hq2;have HQ:=Z9 (OA hq1 hq2);clear hcl hcs hq1 hq2;have e7:(Z8 m.sm i).2.2.2.2.2.2.2.1=WN (Z8 m.sm i):=rfl;rw [e7] at d7;clear e7;generalize WN (Z8 m.sm i)=hd at *;have c2:=(uh kb).cell (i:=2) (v:= .slice (some ⟨sb,off,none⟩) m.sm.length p2) rfl;go_wp2_with fail;refine (Mm hd (i:Int) (uh HE).pc).mono ?_;rw [uh HQ];rintro e w2 ⟨⟨v',rfl,he⟩,hb⟩;obtain ⟨ua,uc,rfl⟩:=EntsAt.shape he;have HE2:=Z9 (he.mono (uh BB).size);replace HN:=Z9 (RecAt.later (uh HN) hb);replace kb:=bl kb hb;replace Hv:=Z9 ((uh Hv).below hb);replace BB:=bt BB hb;clear hb he c2 d7 z0;go_wp2_with fail;go_roundw
   case rel=>exact ⟨k+1,by omega,by go_num,by rw [uh HT];exact uh HE2,uh HN,uh kb,uh Hv,uh BB⟩
   case measure=>exact ms
  ·obtain rfl:k=ws.length:=by omega
   have HE3:Hid (EntsAt w.heap.size wr (.slice la (VK m.sm (ws.take ws.length)).length lc) (atV m.sm b m.sm.length)):=Z9 (by
    have h9:=uh HE;have e9:VK m.sm (ws.take ws.length)=atV m.sm b m.sm.length:=by rw [List.take_length,uh Hq]
    rw [<-e9]
    exact h9)
   go_wp2_with fail;go_ret;exact ⟨_,rfl,uh HE3,uh BB⟩
theorem Ie {w:World} {v0 v1 v2 v3 v4:Value} {m:Z6} (b:Int) (h:Smy w v0 v1 v2 v3 v4 m) (hL:Loose m):Calls Tryz.prog 144 #[.agg #[v0,v1,v2,v3,v4,.int .i64 m.now],.int .i64 b] w fun e w'=> ∃ v',e= .returned v'/\EntsAt w.heap.size w' v' (atV m.sm b m.sm.length)/\Below w.heap.size w w':=EY b h hL rfl
theorem Ns {w:World} {v0 v1 v2 v3 v4:Value} {m:Z6} {k:Nat} (h:Smy w v0 v1 v2 v3 v4 m) (hL:Wants m) (hk:k<m.sm.length) (hs:(Z8 m.sm k).1 ≠ 0):Calls Tryz.prog 239 #[.agg #[v0,v1,v2,v3,v4,.int .i64 m.now],.int .i64 (k:Int)] w fun e w'=>e= .returned (.int .i64 (Zs m (k:Int)))/\Below w.heap.size w w':=by
 have hw:Zs m (k:Int)=Qe m.gd (Z8 m.sm k):=rfl;rw [hw];clear hw;have Hg0:=Z9 h.gd;obtain ⟨a0,p0,rfl,_,_⟩:=IsRooms.shape h.rm;obtain ⟨a1,p1,rfl,_,_⟩:=IsRec.shape h.gd;obtain ⟨a2,p2,rfl,hc2,hm2,r2⟩:=h.sm;obtain ⟨a3,p3,rfl,_,_⟩:=IsRec.shape h.dk;obtain ⟨a4,p4,rfl,_,_⟩:=IsRec.shape h.pc;clear h;obtain ⟨hg1,hpair⟩:=hL.each k hk hs
 rcases r2 with e0 | ⟨sb,off,rfl,hbw,hcl⟩
 ·rw [e0] at hk;simp at hk
 have hk1:(k:Int)<(m.sm.length:Int):=by omega
 obtain ⟨d0,d1,d2,d3,d4,d5,d6,d7,d8,d9,d10⟩:=ZA hcl hk;clear hcl hs hL;generalize Z8 m.sm k=ss at *;obtain ⟨st,be,rk,my,gu,lo,hi,hd,ca,ut,wk⟩:=ss;simp only at d0 d1 d2 d3 d4 d5 d6 d7 d8 d9 d10 hg1 hpair;obtain ⟨nr,hnr⟩:∃ nr,UK (bnd m.gd gu) lo hi=nr:=⟨_,rfl⟩
 have HW:Hid (SZ m.gd gu lo hi=nr):=Z9 (by rw [<-hnr];exact K6 hg1 hpair);have HX:Hid (Qe m.gd (st,be,rk,my,gu,lo,hi,hd,ca,ut,wk)=min (max ut nr.1) nr.2):=Z9 (by rw [<-hnr];rfl);rw [uh HX];clear hpair hg1 HX hnr;obtain ⟨nl,nh⟩:=nr;dsimp only;have hne:sb ≠ w.heap.size:=U3 hbw;have hbw2:sb<w.heap.size+1:=by omega
 have BB:Hid (Below w.heap.size w ((w.alloc (.cells #[.slice a0 m.rm.length p0,.slice a1 m.gd.length p1,.slice (some ⟨sb,off,none⟩) m.sm.length p2,.slice a3 m.dk.length p3,.slice a4 m.pc.length p4,.int .i64 m.now] 32)).alloc (.cells (I11 st be rk my gu lo hi hd ca ut wk) 40))):=Z9 (((ba _ _)).alloc (by simp) _)
 have ks:Hid (Blk ((w.alloc (.cells #[.slice a0 m.rm.length p0,.slice a1 m.gd.length p1,.slice (some ⟨sb,off,none⟩) m.sm.length p2,.slice a3 m.dk.length p3,.slice a4 m.pc.length p4,.int .i64 m.now] 32)).alloc (.cells (I11 st be rk my gu lo hi hd ca ut wk) 40)) (w.heap.size+1) 40 (I11 st be rk my gu lo hi hd ca ut wk)):=Z9 (by
  have k9:=Blk.new (w.alloc (.cells #[.slice a0 m.rm.length p0,.slice a1 m.gd.length p1,.slice (some ⟨sb,off,none⟩) m.sm.length p2,.slice a3 m.dk.length p3,.slice a4 m.pc.length p4,.int .i64 m.now] 32)) 40 (I11 st be rk my gu lo hi hd ca ut wk);rw [Y1] at k9
  exact k9)
 have kb:Hid (Blk ((w.alloc (.cells #[.slice a0 m.rm.length p0,.slice a1 m.gd.length p1,.slice (some ⟨sb,off,none⟩) m.sm.length p2,.slice a3 m.dk.length p3,.slice a4 m.pc.length p4,.int .i64 m.now] 32)).alloc (.cells (I11 st be rk my gu lo hi hd ca ut wk) 40)) w.heap.size 32 #[.slice a0 m.rm.length p0,.slice a1 m.gd.length p1,.slice (some ⟨sb,off,none⟩) m.sm.length p2,.slice a3 m.dk.length p3,.slice a4 m.pc.length p4,.int .i64 m.now]):=Z9 ((Blk.new w _ _).alloc _);have Hg2:=Z9 ((uh Hg0).below (uh BB));go_enter Tryz.func239,Tryz.ntmps239;go_upto_region 2 with fail;generalize (w.alloc (.cells #[.slice a0 m.rm.length p0,.slice a1 m.gd.length p1,.slice (some ⟨sb,off,none⟩) m.sm.length p2,.slice a3 m.dk.length p3,.slice a4 m.pc.length p4,.int .i64 m.now] 32)).alloc (.cells (I11 st be rk my gu lo hi hd ca ut wk) 40)=W at *;clear d0 d1 d2 d3 d4 d5 d6 d7 d8 d9 d10;have c1:=(uh kb).cell (i:=1) (v:= .slice a1 m.gd.length p1) rfl;have s4:=(uh ks).cell (i:=4) (v:= .int .i64 gu) rfl;have s5:=(uh ks).cell (i:=5) (v:= .int .i64 lo) rfl;have s6:=(uh ks).cell (i:=6) (v:= .int .i64 hi) rfl;go_wp2_with fail;refine (Mo gu lo hi (uh Hg2)).mono ?_;rw [uh HW];rintro e w1 ⟨rfl,hb⟩;replace ks:=bl ks hb;replace BB:=bt BB hb;clear hb c1 s4 s5 s6 HW;have s9:=(uh ks).cell (i:=9) (v:= .int .i64 ut) rfl;go_wp2_with (go_at_call 259;refine (UZ _ _ _ _).mono ?_;rintro e w' ⟨rfl,h9⟩;subst w')
 go_ret;exact ⟨rfl,uh BB⟩
theorem FI {w:World} {v0 v1 v2 v3 v4:Value} {m:Z6} {k:Nat} (h:Smy w v0 v1 v2 v3 v4 m) (hL:Loose m) (hk:k<m.sm.length) (hs:(Z8 m.sm k).1 ≠ 0):Calls Tryz.prog 239 #[.agg #[v0,v1,v2,v3,v4,.int .i64 m.now],.int .i64 (k:Int)] w fun e w'=>e= .returned (.int .i64 (Zs m (k:Int)))/\Below w.heap.size w w':=Ns h hL.wants hk hs
theorem BI {m:Z6} (who:Int):WL m who=(Xf m.sm.length who && !((Z8 m.sm who.toNat).1 ==0)):=by unfold WL;rw [Au]
theorem On {w:World} {v0 v1 v2 v3 v4:Value} {m:Z6} {who:Int} {q:Bool} (hq:WL m who=q) (h:Smy w v0 v1 v2 v3 v4 m):Calls Tryz.prog 125 #[.agg #[v0,v1,v2,v3,v4,.int .i64 m.now],.int .i64 who] w fun e w'=>e= .returned (.bool q)/\Below w.heap.size w w':=by
 rw [BI] at hq;have Hq:=Z9 hq;clear hq;obtain ⟨a0,p0,a1,p1,a2,p2,a3,p3,a4,p4,rfl,rfl,rfl,rfl,rfl,K⟩:=Bx.new h;clear h;go_enter Tryz.func125,Tryz.ntmps125;go_wp2_with fail;generalize w.alloc (.cells (S6 a0 p0 a1 p1 a2 p2 a3 p3 a4 p4 m) 32)=W at *;obtain ⟨c0,c1,c2,c3,c4,c5⟩:=K.cells;go_wp2_with fail;refine ck (WS _ _ _ _ _ _ _ _ _ _ _ _ _ _ _ _ _) fun w2 hb=> ?_;replace K:=K.next hb;clear hb c0 c1 c2 c3 c4 c5;obtain ⟨qh,hqh⟩:∃ q,Xf m.sm.length who=q:=⟨_,rfl⟩
 have Hh:=Z9 hqh;clear hqh;go_wp2_with fail;refine (Jq _ _ _ who _).mono ?_;rw [uh Hh];rintro e w3 ⟨rfl,h9⟩;subst w3;cases qh
 ·obtain rfl:q=false:=by rw [<-uh Hq,uh Hh];rfl
  go_wp2_with fail;go_ret;exact ⟨rfl,K.bb⟩
 have hwb:0<=who/\who<(m.sm.length:Int):=by have:=uh Hh;unfold Xf at this;simpa using this
 obtain ⟨k,rfl⟩:∃ k:Nat,who=k:=⟨who.toNat,by omega⟩
 have hk:k<m.sm.length:=by omega
 have hk1:(k:Int)<(m.sm.length:Int):=by omega
 obtain ⟨_,_,hse,_,_,r2⟩:=K.smy.sm;cases hse
 rcases r2 with e0 | ⟨sb,off,rfl,hbw,hcl⟩
 ·rw [e0] at hk;simp at hk
 obtain ⟨d0,d1,d2,d3,d4,d5,d6,d7,d8,d9,d10⟩:=ZA hcl hk;obtain ⟨_,_,c2,_,_,_⟩:=K.cells;have HS:Hid (q= !((Z8 m.sm k).1 ==0)):=Z9 (by rw [<-uh Hq,uh Hh,Zy];rfl);clear hcl;generalize Z8 m.sm k=ss at *;obtain ⟨st,be,rk,my,gu,lo,hi,hd,ca,ut,wk⟩:=ss;simp only at d0 d1 d2 d3 d4 d5 d6 d7 d8 d9 d10;go_wp2_with fail;refine ck (VY st be rk my gu lo hi hd ca ut wk _) fun w4 hb=> ?_;replace K:=K.next hb;clear hb c2 d0 d1 d2 d3 d4 d5 d6 d7 d8 d9 d10;obtain rfl:q= !(st ==0):=uh HS;go_wp2_with fail;go_ret;exact ⟨rfl,K.bb⟩
theorem Mn {w:World} {v0 v1 v2 v3 v4:Value} {m:Z6} {who q:Int} (hq:Re m who=q) (h:Smy w v0 v1 v2 v3 v4 m):Calls Tryz.prog 218 #[.agg #[v0,v1,v2,v3,v4,.int .i64 m.now],.int .i64 who] w fun e w'=>e= .returned (.int .i64 q)/\Below w.heap.size w w':=by
 have Hq:=Z9 hq;clear hq;obtain ⟨ok,hok⟩:∃ q,ZJ m=q:=⟨_,rfl⟩
 have Hok:=Z9 hok;clear hok;obtain ⟨a0,p0,a1,p1,a2,p2,a3,p3,a4,p4,rfl,rfl,rfl,rfl,rfl,K⟩:=Bx.new h;clear h;go_enter Tryz.func218,Tryz.ntmps218;go_wp2_with fail;generalize w.alloc (.cells (S6 a0 p0 a1 p1 a2 p2 a3 p3 a4 p4 m) 32)=W at *;refine ck (Wm _ _ _ _ _ _ _ _ (uh Hok) K.smy) fun w1 hb=> ?_;replace K:=K.next hb;clear hb;cases ok
 ·obtain rfl:q= -1:=by rw [<-uh Hq];unfold Re;rw [uh Hok];rfl
  go_wp2_with fail;go_ret;exact ⟨rfl,K.bb⟩
 obtain ⟨qh,hqh⟩:∃ q,WL m who=q:=⟨_,rfl⟩
 have Hh:=Z9 hqh;clear hqh;obtain ⟨c0,c1,c2,c3,c4,c5⟩:=K.cells;go_wp2_with fail;refine ck (On (uh Hh) K.smy) fun w2 hb=> ?_;replace K:=K.next hb;clear hb c0 c1 c2 c3 c4 c5;cases qh
 ·obtain rfl:q= -1:=by rw [<-uh Hq];unfold Re;rw [uh Hh];simp
  go_wp2_with fail;go_ret;exact ⟨rfl,K.bb⟩
 obtain ⟨k,rfl,hk,hs⟩:=XS (uh Hh);obtain rfl:q=Zs m (k:Int):=by rw [<-uh Hq];unfold Re;rw [uh Hok,uh Hh];rfl
 obtain ⟨c0,c1,c2,c3,c4,c5⟩:=K.cells;go_wp2_with fail;refine ck (FI K.smy (ZR (uh Hok)) hk hs) fun w3 hb=> ?_;replace K:=K.next hb;clear hb c0 c1 c2 c3 c4 c5;go_wp2_with fail;go_ret;exact ⟨rfl,K.bb⟩
set_option maxRecDepth 100000
theorem Qz {w:World} {v0 v1 v2 v3 v4:Value} {m:Z6} {b q:Int} (hq:Zc m b (-1)=q) (h:Smy w v0 v1 v2 v3 v4 m) (hW:Wants m) (hl:m.sm.length<=12):Calls Tryz.prog 292 #[.agg #[v0,v1,v2,v3,v4,.int .i64 m.now],.int .i64 b] w fun e w'=>e= .returned (.int .i64 q)/\Below w.heap.size w w':=by
 have Hq:=Z9 hq;clear hq;have HW:=Z9 hW;clear hW;obtain ⟨a0,p0,a1,p1,a2,p2,a3,p3,a4,p4,rfl,rfl,rfl,rfl,rfl,K⟩:=Bx.new h;clear h;go_enter Tryz.func292,Tryz.ntmps292;go_upto_region 2 with fail;generalize w.alloc (.cells (S6 a0 p0 a1 p1 a2 p2 a3 p3 a4 p4 m) 32)=W at *;obtain ⟨c0,c1,c2,c3,c4,c5⟩:=K.cells;go_wp2_with fail;refine (R6 b K.smy (by omega)).mono ?_;rintro e w1 ⟨vn,rfl,hn,hb⟩;obtain ⟨na,nc,rfl⟩:=RecAt.shape hn;have HN:=Z9 hn;replace K:=K.next hb;clear hb hn c0 c1 c2 c3 c4 c5;have Hwh:=Z9 (fun k hk=>IT (m:=m) (b:=b) (k:=k) hk);have Hat:=Z9 (fun x hx=>(Wu (atB b) m.sm x m.sm.length).1 hx);have hwl:=VW (atB b) m.sm m.sm.length;rw [<-FC] at Hq;generalize ZO (atB b) m.sm m.sm.length=ws at *;go_wp2_with fail
 go_loopw [5,12] (fun u i wr=> ∃ k:Nat,k<=ws.length/\i= .int .i64 k/\u= .int .i64 (U0 m (ws.take k))/\Bx w wr w.heap.size a0 p0 a1 p1 a2 p2 a3 p3 a4 p4 m/\Below w1.heap.size w1 wr) (fun _ i _=>ws.length-(intOf i).toNat)
 case atStart=>exact ⟨0,Zz _,rfl,rfl,K,ZZ _ _⟩
 case round=>
  obtain ⟨k,hk,rfl,rfl,hK,hb0⟩:=hrel;clear K;have K:=hK;have BB:=Z9 hb0;clear hK hb0;have hub:=DV m (ws.take k);have htl:(ws.take k).length<=ws.length:=by simp;omega
  by_cases hlt:k<ws.length
  ·have hlt1:(k:Int)<(ws.length:Int):=by omega
   obtain ⟨g,hga,_,hgl,hcl,_⟩:=RecAt.view YE (by omega) (uh HN) rfl (by omega);cases hga;have z0:=hcl k hlt 0 _ rfl;simp only [Nat.mul_one,Nat.add_zero] at z0;have hgw:g<w1.heap.size:=hgl;rw [<-(uh BB).cell (p:=⟨g,k,none⟩) hgw] at z0;obtain ⟨i,hi,hiw⟩:=uh Hwh k hlt;obtain ⟨_,_,hi2,hat⟩:=uh Hat _ (Vs hlt)
   have hpi:(Z8 m.sm i).1 ≠ 0:=by
    rw [hiw] at hi2;obtain rfl:=Int.ofNat.inj hi2;intro e;unfold atB at hat;rw [e] at hat;simp at hat
   clear hcl hi2 hat;have HS:Hid (U0 m (ws.take (k+1))=U0 m (ws.take k)+Zs m (i:Int)):=Z9 (by rw [CU m hlt,hiw]);rw [hiw] at z0;have hwb:=R1 m (i:Int);have HC:=Z9 (fun (X:World) (hX:Smy X (.slice a0 m.rm.length p0) (.slice a1 m.gd.length p1) (.slice a2 m.sm.length p2) (.slice a3 m.dk.length p3) (.slice a4 m.pc.length p4) m)=>Ns hX (uh HW) hi hpi);generalize U0 m (ws.take k)=us at *;generalize Zs m (i:Int)=wa at *;have hgr:g<wr.heap.size:=Zf hgw (uh BB).size;obtain ⟨c0,c1,c2,c3,c4,c5⟩:=K.cells;go_wp2_with fail;refine ck (uh HC _ K.smy) fun w2 hb=> ?_;replace K:=K.next hb;replace BB:=bt BB hb;clear hb c0 c1 c2 c3 c4 c5 z0;have hlen12:(ws.length:Int)<=12:=by omega
   go_wp2_with fail;go_roundw
   case rel=>exact ⟨k+1,by omega,by go_num,by rw [uh HS],K,uh BB⟩
   case measure=>exact ms
  ·obtain rfl:k=ws.length:=by omega
   rw [List.take_length] at *;obtain rfl:q=U0 m ws:=(uh Hq).symm;go_wp2_with fail;go_ret;exact ⟨rfl,K.bb⟩
theorem Ol {w:World} {v0 v1 v2 v3 v4:Value} {m:Z6} {b:Int} {q:Bool} (hq:Um m b=q) (h:Smy w v0 v1 v2 v3 v4 m):Calls Tryz.prog 291 #[.agg #[v0,v1,v2,v3,v4,.int .i64 m.now],.int .i64 b] w fun e w'=>e= .returned (.bool q)/\Below w.heap.size w w':=by
 have Hq:=Z9 hq;clear hq;obtain ⟨a0,p0,a1,p1,a2,p2,a3,p3,a4,p4,rfl,rfl,rfl,rfl,rfl,K⟩:=Bx.new h;clear h;go_enter Tryz.func291,Tryz.ntmps291;go_wp2_with fail;generalize w.alloc (.cells (S6 a0 p0 a1 p1 a2 p2 a3 p3 a4 p4 m) 32)=W at *;refine ck (Oe _ _ _ _ _ _ _ _ _ _ _ _ _ _ _ _ _) fun w2 hb=> ?_;replace K:=K.next hb;clear hb;obtain ⟨qh,hqh⟩:∃ q,Xf m.dk.length b=q:=⟨_,rfl⟩
 have Hh:=Z9 hqh;clear hqh;go_wp2_with fail;refine (Rs _ _ _ b _).mono ?_;rw [uh Hh];rintro e w3 ⟨rfl,h9⟩;subst w3;cases qh
 ·obtain rfl:q=false:=by rw [<-uh Hq];unfold Um;rw [uh Hh];rfl
  go_wp2_with fail;go_ret;exact ⟨rfl,K.bb⟩
 have hbb:0<=b/\b<(m.dk.length:Int):=by have:=uh Hh;unfold Xf at this;simpa using this
 obtain ⟨k,rfl⟩:∃ k:Nat,b=k:=⟨b.toNat,by omega⟩
 have hk:k<m.dk.length:=by omega
 have hk1:(k:Int)<(m.dk.length:Int):=by omega
 obtain ⟨_,_,hde,_,_,r3⟩:=K.smy.dk;cases hde
 rcases r3 with e0 | ⟨db,off,rfl,hbw,hcl⟩
 ·rw [e0] at hk;simp at hk
 obtain ⟨d0,d1,d2⟩:=Y4 hcl hk;have hq2:(Z8 m.dk k).1=q:=by rw [<-uh Hq];unfold Um;rw [uh Hh,Zy];rfl
 clear hcl Hq;generalize Z8 m.dk k=dd at *;obtain ⟨op,wo,mk⟩:=dd;simp only at d0 d1 d2 hq2;subst hq2;obtain ⟨c0,c1,c2,c3,c4,c5⟩:=K.cells;go_wp2_with fail;refine ck (Qm op wo mk _) fun w4 hb=> ?_;replace K:=K.next hb;clear hb c0 c1 c2 c3 c4 c5 d0 d1 d2;go_wp2_with fail;go_ret;exact ⟨rfl,K.bb⟩
theorem Ei (f c need:Int) (w:World) (f0:1<=f) (f1:f<=1024) (n0:0<=need) (n1:need<=1000000) :
  Calls Tryz.prog 315 #[.int .i64 f,.int .i64 need] w fun e w'=>e= .returned (.bool (UG need (f,c)))/\Below w.heap.size w w':=
 (Sz f need w (by omega) (by omega) n0 (by omega)).mono fun _ _ ⟨he,hw⟩=>⟨he,hw ▸ ZZ _ _⟩
theorem Iw {w:World} {v:Value} {ps:List Z4} (b need:Int) (h:IsPaces w v ps) (hr:Ze (b,ps)=true) (hn:inB need 0 1000000=true) :
  Calls Tryz.prog 311 #[v,.int .i64 need] w fun e w'=>e= .returned (.int .i64 (QM need ps))/\Below w.heap.size w w':=by
 obtain ⟨a,cap,rfl,hc,hm,hrow⟩:=h;have hbd:=PW hr;simp only at hbd;obtain ⟨_,_,hl1,hl4⟩:=hbd;obtain ⟨n0,n1⟩:=ZN hn
 rcases hrow with h0 | ⟨bk,off,rfl,hbw,hcl⟩
 ·rw [h0] at hl1;simp at hl1
 have Hcl:=Z9 hcl;have Hr:=Z9 hr;clear hcl hr hn;go_enter Tryz.func311,Tryz.ntmps311;go_wp2_with fail
 go_step3
 go_wp2_with fail
 go_step3
 go_wp2_with fail
 go_loopw [5] (fun i wr=> ∃ k:Nat,k+1<=ps.length/\i= .int .i64 k/\(∀ j,j<k->UG need (Z7 ps j)=false)/\Below w.heap.size w wr) (fun i _=>ps.length-(intOf i).toNat)
 case atStart=>exact ⟨0,by omega,rfl,fun j hj=>by omega,ZZ _ _⟩
 case round=>
  obtain ⟨k,hk,rfl,hlo,hb⟩:=hrel;have Hlo:=Z9 hlo;have Hb:=Z9 hb;clear hlo;by_cases hlast:k+1=ps.length
  ·clear hb
   have he:(k:Int)=(ps.length:Int)-1:=by omega
   have Hp:=Z9 (RP need ps k hk (uh Hlo) (.inl hlast));go_wp2_with fail
   (try rw [Exit.noGoto_ret])
   go_ret;exact ⟨ZC (by rw [uh Hp]),uh Hb⟩
  ·have hne:¬ (k:Int)=(ps.length:Int)-1:=by omega
   obtain ⟨c0,c1⟩:=uh Hcl k (by omega);rw [<-hb.cell (p:=⟨bk,off+k*2,none⟩) hbw] at c0;rw [<-hb.cell (p:=⟨bk,off+k*2+1,none⟩) hbw] at c1;have hpb:=Pd (uh Hr) (k:=k) (show k<ps.length by omega);simp only at hpb;generalize hp:Z7 ps k=p at c0 c1 hpb;have Hp:=Z9 hp;clear hp hb;obtain ⟨f,c⟩:=p;simp only at c0 c1 hpb;obtain ⟨f0,f1,_,_⟩:=hpb;go_wp2_with fail;refine ck (Ei f c need _ f0 f1 n0 n1) fun w1 hb1=> ?_;have Hb1:=Z9 hb1;clear hb1;cases hen:UG need (f,c)
   ·go_wp2_with fail
    go_roundw
    case rel=>exact ⟨k+1,by omega,by go_num,Yi (uh Hlo) (by rw [uh Hp];exact hen),(uh Hb).trans ((uh Hb1).mono (uh Hb).size)⟩
    case measure=>exact ms
   ·have Hq:=Z9 (RP need ps k hk (uh Hlo) (.inr (by rw [uh Hp];exact hen)))
    go_wp2_with fail
    (try rw [Exit.noGoto_ret])
    go_ret;exact ⟨ZC (by rw [uh Hq]),(uh Hb).trans ((uh Hb1).mono (uh Hb).size)⟩
theorem NS {w:World} {v:Value} {ps:List Z4} (b need:Int) (h:IsPaces w v ps) :
  Calls Tryz.prog 308 #[.agg #[.int .i64 b,v],.int .i64 need] w fun e w'=>e= .returned (.int .i64 (Xq (b,ps) need))/\Below w.heap.size w w':=by
 have Hv:=Z9 h;obtain ⟨a,cap,rfl,hc,hm,hrow⟩:=h;clear hrow;cases hr:Ze (b,ps)
 ·rw [Ox hr]
  go_enter Tryz.func308,Tryz.ntmps308;go_wp2_with fail;refine ck (YJ b ((uh Hv).below ((ba _ _)))) fun w1 hb=> ?_;have B1:Hid (Below w.heap.size w w1):=Z9 (((ba _ _)).trans (hb.mono (by simp)));clear hb;go_wp2_with fail;go_ret;exact ⟨rfl,uh B1⟩
 cases hn:inB need 0 1000000
 ·rw [Oy hn]
  go_enter Tryz.func308,Tryz.ntmps308;go_wp2_with fail;refine ck (YJ b ((uh Hv).below ((ba _ _)))) fun w1 hb=> ?_;have B1:Hid (Below w.heap.size w w1):=Z9 (((ba _ _)).trans (hb.mono (by simp)));clear hb;go_wp2_with (go_at_call 181;refine (Zv _ _ _ _).mono ?_;rintro e w' ⟨rfl,rfl⟩)
  go_ret;exact ⟨rfl,uh B1⟩
 ·rw [ML hr hn]
  have Hr:=Z9 hr;go_enter Tryz.func308,Tryz.ntmps308;go_wp2_with fail;refine ck (YJ b ((uh Hv).below ((ba _ _)))) fun w1 hb=> ?_;have x1:w1.cell? ⟨w.heap.size,1,none⟩=some (.slice a ps.length cap):=(hb.cell (p:=⟨w.heap.size,1,none⟩) (by simp)).trans (by simp);have B1:Hid (Below w.heap.size w w1):=Z9 (((ba _ _)).trans (hb.mono (by simp)));clear hb;go_wp2_with (go_at_call 181;refine (Zv _ _ _ _).mono ?_;rintro e w' ⟨rfl,rfl⟩)
  refine ck (Iw b need ((uh Hv).below (uh B1)) (uh Hr) hn) fun w2 hb2=> ?_;have Hb2:=Z9 hb2;clear hb2;go_wp2_with fail;go_ret;exact ⟨rfl,(uh B1).trans ((uh Hb2).mono (uh B1).size)⟩
theorem Uh (x:Int) (w:World):Calls Tryz.prog 171 #[.int .i64 x] w fun e w'=>e= .returned (.bool (inB x 0 1000000))/\w'=w:=by
 go_enter Tryz.func171,Tryz.ntmps171;go_wp2_with (go_at_call 59;refine (ZV _ _ _ _).mono ?_;rintro e w' ⟨rfl,rfl⟩)
 go_ret;exact ⟨rfl,rfl⟩
theorem Sf {w:World} {v:Value} {ps:List Z4} (b need:Int) (h:IsPaces w v ps) :
  Calls Tryz.prog 287 #[.agg #[.int .i64 b,v],.int .i64 need] w fun e w'=>e= .returned (.int .i64 (Xq (b,ps) need))/\Below w.heap.size w w':=by
 have Hv:=Z9 h;obtain ⟨a,cap,rfl,hc,hm,hrow⟩:=h;clear hrow;cases hr:Ze (b,ps)
 ·rw [Ox hr]
  go_enter Tryz.func287,Tryz.ntmps287;go_wp2_with fail;refine ck (Yx b ((uh Hv).below ((ba _ _)))) fun w1 hb=> ?_;have B1:Hid (Below w.heap.size w w1):=Z9 (((ba _ _)).trans (hb.mono (by simp)));clear hb;go_wp2_with fail;go_ret;exact ⟨rfl,uh B1⟩
 cases hn:inB need 0 1000000
 ·rw [Oy hn]
  go_enter Tryz.func287,Tryz.ntmps287;go_wp2_with fail;refine ck (Yx b ((uh Hv).below ((ba _ _)))) fun w1 hb=> ?_;have B1:Hid (Below w.heap.size w w1):=Z9 (((ba _ _)).trans (hb.mono (by simp)));clear hb;go_wp2_with (go_at_call 171;refine (Uh _ _).mono ?_;rintro e w' ⟨rfl,rfl⟩)
  go_ret;exact ⟨rfl,uh B1⟩
 rw [ML hr hn];have Hr:=Z9 hr;have hn':=hn;obtain ⟨n0,n1⟩:=ZN hn';clear hn';go_enter Tryz.func287,Tryz.ntmps287;go_wp2_with fail;refine ck (Yx b ((uh Hv).below ((ba _ _)))) fun w1 hb=> ?_;have x1:w1.cell? ⟨w.heap.size,1,none⟩=some (.slice a ps.length cap):=(hb.cell (p:=⟨w.heap.size,1,none⟩) (by simp)).trans (by simp);have B1:Hid (Below w.heap.size w w1):=Z9 (((ba _ _)).trans (hb.mono (by simp)));clear hb;have hv1:=(uh Hv).below (uh B1);obtain ⟨a',cap',he,_,_,hrow⟩:=hv1;cases he;have hbd:=PW (uh Hr);simp only at hbd;obtain ⟨_,_,hl1,hl4⟩:=hbd
 rcases hrow with h0 | ⟨bk,off,rfl,hbw,hcl⟩
 ·rw [h0] at hl1;simp at hl1
 have Hcl:=Z9 hcl;clear hcl;go_wp2_with (go_at_call 171;refine (Uh _ _).mono ?_;rintro e w' ⟨rfl,rfl⟩)
 clear hr hn
 go_loop [5] (fun i=> ∃ k:Nat,k+1<=ps.length/\i= .int .i64 k/\(∀ j,j<k->UG need (Z7 ps j)=false)) (fun i=>ps.length-(intOf i).toNat)
 case atStart=>exact ⟨0,by omega,rfl,fun j hj=>by omega⟩
 case round=>
  obtain ⟨k,hk,rfl,hlo⟩:=hrel;have Hlo:=Z9 hlo;clear hlo;by_cases hlast:k+1=ps.length
  ·have Hp:=Z9 (RP need ps k hk (uh Hlo) (.inl hlast))
   have hd:¬ (k:Int)+1<(ps.length:Int):=by omega
   go_wp2_with fail;go_ret;exact ⟨ZC (by rw [uh Hp]),uh B1⟩
  ·have hd:(k:Int)+1<(ps.length:Int):=by omega
   obtain ⟨c0,c1⟩:=uh Hcl k (by omega);have hpb:=Pd (uh Hr) (k:=k) (show k<ps.length by omega);simp only at hpb;generalize hp:Z7 ps k=p at c0 c1 hpb;have Hp:=Z9 hp;clear hp;obtain ⟨f,c⟩:=p;simp only at c0 c1 hpb;obtain ⟨f0,f1,_,_⟩:=hpb;by_cases hen:4*f<5*need
   ·go_wp2_with fail
    go_round
    case rel=>exact ⟨k+1,by omega,by go_num,Yi (uh Hlo) (by rw [uh Hp];exact Ai hen)⟩
    case measure=>exact ms
   ·have Hq:=Z9 (RP need ps k hk (uh Hlo) (.inr (by rw [uh Hp];exact Aj (by simp only;omega))))
    go_wp2_with fail;go_ret;exact ⟨ZC (by rw [uh Hq]),uh B1⟩
theorem NO {w:World} {v:Value} {ps:List Z4} (b pace work:Int) (h:IsPaces w v ps) :
  Calls Tryz.prog 307 #[.agg #[.int .i64 b,v],.int .i64 pace,.int .i64 work] w fun e w'=>e= .returned (.int .i64 (Xl (b,ps) pace work))/\Below w.heap.size w w':=by
 have Hv:=Z9 h;obtain ⟨a,cap,rfl,hc,hm,hrow⟩:=h;clear hrow;have hl:(ps.length:Int)<=9223372036854775807:=by omega
 cases hr:Ze (b,ps)
 ·rw [Rl hr]
  go_enter Tryz.func307,Tryz.ntmps307;go_wp2_with fail;refine ck (YJ b ((uh Hv).below ((ba _ _)))) fun w1 hb=> ?_;have B1:Hid (Below w.heap.size w w1):=Z9 (((ba _ _)).trans (hb.mono (by simp)));clear hb;go_wp2_with fail;go_ret;exact ⟨rfl,uh B1⟩
 by_cases hp0:pace<0
 ·rw [TM (Wn (by omega))]
  go_enter Tryz.func307,Tryz.ntmps307;go_wp2_with fail;refine ck (YJ b ((uh Hv).below ((ba _ _)))) fun w1 hb=> ?_;have B1:Hid (Below w.heap.size w w1):=Z9 (((ba _ _)).trans (hb.mono (by simp)));clear hb;go_wp2_with fail;go_ret;exact ⟨rfl,uh B1⟩
 by_cases hp1:(ps.length:Int)<=pace
 ·rw [TM (Wn (by simp only;omega))]
  go_enter Tryz.func307,Tryz.ntmps307;go_wp2_with fail;refine ck (YJ b ((uh Hv).below ((ba _ _)))) fun w1 hb=> ?_;have x1:w1.cell? ⟨w.heap.size,1,none⟩=some (.slice a ps.length cap):=(hb.cell (p:=⟨w.heap.size,1,none⟩) (by simp)).trans (by simp);have B1:Hid (Below w.heap.size w w1):=Z9 (((ba _ _)).trans (hb.mono (by simp)));clear hb;go_wp2_with fail;go_ret;exact ⟨rfl,uh B1⟩
 cases hn:inB work 0 1000000
 ·rw [Rm hn]
  go_enter Tryz.func307,Tryz.ntmps307;go_wp2_with fail;refine ck (YJ b ((uh Hv).below ((ba _ _)))) fun w1 hb=> ?_;have x1:w1.cell? ⟨w.heap.size,1,none⟩=some (.slice a ps.length cap):=(hb.cell (p:=⟨w.heap.size,1,none⟩) (by simp)).trans (by simp);have B1:Hid (Below w.heap.size w w1):=Z9 (((ba _ _)).trans (hb.mono (by simp)));clear hb;go_wp2_with (go_at_call 181;refine (Zv _ _ _ _).mono ?_;rintro e w' ⟨rfl,rfl⟩)
  go_ret;exact ⟨rfl,uh B1⟩
 rw [Qk hr hn (Zp (by omega) (by simp only;omega))];obtain ⟨k,rfl⟩:=Int.eq_ofNat_of_zero_le (show 0<=pace by omega);have hk:k<ps.length:=by omega
 rw [Zy];simp only;generalize hpk:Z7 ps k=p;have Hpk:=Z9 hpk;clear hpk;obtain ⟨f,c⟩:=p;simp only;have Hn:=Z9 hn;go_enter Tryz.func307,Tryz.ntmps307;go_wp2_with fail;refine ck (YJ b ((uh Hv).below ((ba _ _)))) fun w1 hb=> ?_;have x1:w1.cell? ⟨w.heap.size,1,none⟩=some (.slice a ps.length cap):=(hb.cell (p:=⟨w.heap.size,1,none⟩) (by simp)).trans (by simp);have B1:Hid (Below w.heap.size w w1):=Z9 (((ba _ _)).trans (hb.mono (by simp)));have hz1:w.heap.size+1<=w1.heap.size:=by have:=hb.size;simpa using this
 clear hb;have hv1:=(uh Hv).below (uh B1);obtain ⟨a',cap',he,_,_,hrow⟩:=hv1;cases he
 rcases hrow with h0 | ⟨bk,off,rfl,hbw,hcl⟩
 ·rw [h0] at hk;simp at hk
 obtain ⟨c0,c1⟩:=hcl k hk;clear hcl;rw [uh Hpk] at c0 c1;simp only at c0 c1;go_wp2_with (go_at_call 181;refine (Zv _ _ _ _).mono ?_;rintro e w' ⟨rfl,rfl⟩)
 refine ck (Mk c work f _) fun w2 hb2=> ?_;have Hb2:=Z9 hb2;clear hb2;go_wp2_with fail;go_ret;exact ⟨rfl,(uh B1).trans (((ZZ _ _).alloc (uh B1).size _).trans ((uh Hb2).mono (by simp;omega)))⟩
theorem NY {w:World} {v:Value} {ps:List Z4} (b pace work:Int) (h:IsPaces w v ps) :
  Calls Tryz.prog 286 #[.agg #[.int .i64 b,v],.int .i64 pace,.int .i64 work] w fun e w'=>e= .returned (.int .i64 (Xl (b,ps) pace work))/\Below w.heap.size w w':=by
 have Hv:=Z9 h;obtain ⟨a,cap,rfl,hc,hm,hrow⟩:=h;clear hrow;have hl:(ps.length:Int)<=9223372036854775807:=by omega
 cases hr:Ze (b,ps)
 ·rw [Rl hr]
  go_enter Tryz.func286,Tryz.ntmps286;go_wp2_with fail;refine ck (Yx b ((uh Hv).below ((ba _ _)))) fun w1 hb=> ?_;have B1:Hid (Below w.heap.size w w1):=Z9 (((ba _ _)).trans (hb.mono (by simp)));clear hb;go_wp2_with fail;go_ret;exact ⟨rfl,uh B1⟩
 cases hn:inB work 0 1000000
 ·rw [Rm hn]
  go_enter Tryz.func286,Tryz.ntmps286;go_wp2_with fail;refine ck (Yx b ((uh Hv).below ((ba _ _)))) fun w1 hb=> ?_;have B1:Hid (Below w.heap.size w w1):=Z9 (((ba _ _)).trans (hb.mono (by simp)));clear hb;go_wp2_with (go_at_call 171;refine (Uh _ _).mono ?_;rintro e w' ⟨rfl,rfl⟩)
  go_ret;exact ⟨rfl,uh B1⟩
 cases hp:inB pace 0 ((ps.length:Int)-1)
 ·rw [TM hp]
  go_enter Tryz.func286,Tryz.ntmps286;go_wp2_with fail;refine ck (Yx b ((uh Hv).below ((ba _ _)))) fun w1 hb=> ?_;have x1:w1.cell? ⟨w.heap.size,1,none⟩=some (.slice a ps.length cap):=(hb.cell (p:=⟨w.heap.size,1,none⟩) (by simp)).trans (by simp);have B1:Hid (Below w.heap.size w w1):=Z9 (((ba _ _)).trans (hb.mono (by simp)));clear hb;go_wp2_with (first | (go_at_call 171;refine (Uh _ _).mono ?_;rintro e w' ⟨rfl,rfl⟩) | (go_at_call 59;refine (ZV _ _ _ _).mono ?_;rintro e w' ⟨rfl,rfl⟩))
  go_ret;exact ⟨rfl,uh B1⟩
 rw [Qk hr hn hp];have hpp:=ZN hp;obtain ⟨hp0,hp1⟩:=hpp;obtain ⟨k,rfl⟩:=Int.eq_ofNat_of_zero_le hp0;have hk:k<ps.length:=by omega
 rw [Zy];simp only;generalize hpk:Z7 ps k=p;have Hpk:=Z9 hpk;clear hpk;obtain ⟨f,c⟩:=p;simp only;go_enter Tryz.func286,Tryz.ntmps286;go_wp2_with fail;refine ck (Yx b ((uh Hv).below ((ba _ _)))) fun w1 hb=> ?_;have x1:w1.cell? ⟨w.heap.size,1,none⟩=some (.slice a ps.length cap):=(hb.cell (p:=⟨w.heap.size,1,none⟩) (by simp)).trans (by simp);have B1:Hid (Below w.heap.size w w1):=Z9 (((ba _ _)).trans (hb.mono (by simp)));clear hb;have hv1:=(uh Hv).below (uh B1);obtain ⟨a',cap',he,_,_,hrow⟩:=hv1;cases he
 rcases hrow with h0 | ⟨bk,off,rfl,hbw,hcl⟩
 ·rw [h0] at hk;simp at hk
 obtain ⟨c0,c1⟩:=hcl k hk;clear hcl;rw [uh Hpk] at c0 c1;simp only at c0 c1;go_wp2_with (first | (go_at_call 171;refine (Uh _ _).mono ?_;rintro e w' ⟨rfl,rfl⟩) | (go_at_call 59;refine (ZV _ _ _ _).mono ?_;rintro e w' ⟨rfl,rfl⟩))
 go_quiet (exact Yg (Nd _ _ _ _));go_wp2_with fail;go_ret;exact ⟨rfl,WZ (uh B1) _⟩
theorem PF {w:World} {v:Value} {ps:List Z4} (b need work:Int) (h:IsPaces w v ps) :
  Calls Tryz.prog 295 #[.agg #[.int .i64 b,v],.int .i64 need,.int .i64 work] w fun e w'=>e= .returned (.int .i64 (O0 (b,ps) need work))/\Below w.heap.size w w':=by
 have Hv:=Z9 h;obtain ⟨a,cap,rfl,hc,hm,hrow⟩:=h;clear hrow;have k0:=Z2 (w:=w.alloc (.cells #[.int .i64 b,.slice a ps.length cap] 112)) (a:=⟨w.heap.size,0,none⟩) (v:= .int .i64 b) (by simp);have k1:=Z2 (w:=w.alloc (.cells #[.int .i64 b,.slice a ps.length cap] 112)) (a:=⟨w.heap.size,1,none⟩) (v:= .slice a ps.length cap) (by simp);have Ha:Hid (IsPaces (w.alloc (.cells #[.int .i64 b,.slice a ps.length cap] 112)) (.slice a ps.length cap) ps):=Z9 ((uh Hv).below ((ba _ _)));go_enter Tryz.func295,Tryz.ntmps295;go_wp2_with fail;refine wq ?_
 repeat (go_big_quiet_step (first | exact ZY (NS b need ((uh Ha).below (Z0 _ _ _))) | exact ZY (NO b _ work ((uh Ha).below (Z0 _ _ _)))))
 refine wpQuiet_nil ?_;intro _ hw';obtain ⟨⟨dq,osq⟩,hw''⟩:=hw';subst hw'';go_wp2_with fail;go_ret;exact ⟨rfl,((ba _ _)).trans ((Z0 _ _ _).mono (by simp))⟩
theorem P4 {w:World} {v:Value} {ps:List Z4} (b need work:Int) (h:IsPaces w v ps) :
  Calls Tryz.prog 265 #[.agg #[.int .i64 b,v],.int .i64 need,.int .i64 work] w fun e w'=>e= .returned (.int .i64 (O0 (b,ps) need work))/\Below w.heap.size w w':=by
 have Hv:=Z9 h;obtain ⟨a,cap,rfl,hc,hm,hrow⟩:=h;clear hrow;have k0:=Z2 (w:=w.alloc (.cells #[.int .i64 b,.slice a ps.length cap] 112)) (a:=⟨w.heap.size,0,none⟩) (v:= .int .i64 b) (by simp);have k1:=Z2 (w:=w.alloc (.cells #[.int .i64 b,.slice a ps.length cap] 112)) (a:=⟨w.heap.size,1,none⟩) (v:= .slice a ps.length cap) (by simp);have Ha:Hid (IsPaces (w.alloc (.cells #[.int .i64 b,.slice a ps.length cap] 112)) (.slice a ps.length cap) ps):=Z9 ((uh Hv).below ((ba _ _)));go_enter Tryz.func265,Tryz.ntmps265;go_wp2_with fail;refine wq ?_
 repeat (go_big_quiet_step (first | exact ZY (Sf b need ((uh Ha).below (Z0 _ _ _))) | exact ZY (NY b _ work ((uh Ha).below (Z0 _ _ _)))))
 refine wpQuiet_nil ?_;intro _ hw';obtain ⟨⟨dq,osq⟩,hw''⟩:=hw';subst hw'';go_wp2_with fail;go_ret;exact ⟨rfl,((ba _ _)).trans ((Z0 _ _ _).mono (by simp))⟩
open Go.ChangeShapes Go.WideShapes Go.ChangeAt Go.RowKit Go.Sort Go.Shelf
set_option maxRecDepth 100000
attribute [local go_sem] Oper.semAt_some
theorem Pw {W X:World} (h:Below W.heap.size W X):KeepsOthers W X:=⟨h.size,fun k o hk _=>(h.block k (Array.getElem?_eq_some_iff.1 hk).1).trans hk⟩
theorem FU {W X:World} (h:Below W.heap.size W X) {B:Nat} {t:TypeId} : KeepsBox B t W X:=fun v hv=>(h.block B hv.lt).trans hv
theorem Wh {W X:World} (h:Below W.heap.size W X) {B:Nat} {t:TypeId} {v:Value} (hv:Boxed W B t v):Boxed X B t v:=(h.block B hv.lt).trans hv
def Rnd (w:World) (f:List Int->Int) (a0:Option Addr) (p0:Nat) (a1:Option Addr) (p1:Nat) (a2:Option Addr) (p2:Nat) (a3:Option Addr) (p3:Nat) (a4:Option Addr) (p4:Nat) (m:Z6) (pre:List Int) (W:World):Prop:=Boxed W (w.heap.size+1) 2 (.int .i64 (f pre))/\Bx w W w.heap.size a0 p0 a1 p1 a2 p2 a3 p3 a4 p4 m
theorem DK (w:World) (f:List Int->Int) (a0:Option Addr) (p0:Nat) (a1:Option Addr) (p1:Nat) (a2:Option Addr) (p2:Nat) (a3:Option Addr) (p3:Nat) (a4:Option Addr) (p4:Nat) (m:Z6) (hs:Smy w (.slice a0 m.rm.length p0) (.slice a1 m.gd.length p1) (.slice a2 m.sm.length p2) (.slice a3 m.dk.length p3) (.slice a4 m.pc.length p4) m) {B:Nat} (hB:w.heap.size<=B):OwnFrom B (Rnd w f a0 p0 a1 p1 a2 p2 a3 p3 a4 p4 m):=by
 rintro pre W X row ⟨h1,h2⟩ hg hr;have h4:=h2.bb.grown hg h2.bb.size (fun k e=>XO hB (hr k e).1);refine ⟨h1.kept hg (fun e=> ?_),hs.below h4,(hg.block _ h2.blk.lt (fun e=> ?_)).trans h2.blk,h4⟩
 ·obtain ⟨_,o,ho,hc⟩:=hr _ e.symm
  rw [show W.heap[w.heap.size+1]?=_ from h1] at ho;cases ho;cases hc
 ·obtain ⟨_,o,ho,hc⟩:=hr _ e.symm
  rw [show W.heap[w.heap.size]?=_ from h2.blk] at ho;cases ho;cases hc
theorem Im {w W W1 W2:World} {f:List Int->Int} {a0 a1 a2 a3 a4:Option Addr} {p0 p1 p2 p3 p4:Nat} {m:Z6} {pre:List Int} {x v nl:Int} {B S:Nat} (hs:Smy w (.slice a0 m.rm.length p0) (.slice a1 m.gd.length p1) (.slice a2 m.sm.length p2) (.slice a3 m.dk.length p3) (.slice a4 m.pc.length p4) m) (hko:KeepsOthers W W1) (hkb:KeepsBox S 2 W W1) (hb:Below W1.heap.size W1 W2) (hv:Boxed W1 (w.heap.size+1) 2 (.int .i64 nl)) (hK:Bx w W1 w.heap.size a0 p0 a1 p1 a2 p2 a3 p3 a4 p4 m) (hS:w.heap.size+1<S) (e:f (pre++[x])=v) :
  KeepsFrom B W (W2.setCell ⟨w.heap.size+1,0,none⟩ (.int .i64 v))/\KeepsBox S 2 W (W2.setCell ⟨w.heap.size+1,0,none⟩ (.int .i64 v))/\Rnd w f a0 p0 a1 p1 a2 p2 a3 p3 a4 p4 m (pre++[x]) (W2.setCell ⟨w.heap.size+1,0,none⟩ (.int .i64 v)):=by
 have hK2:=hK.next hb;have hbb:Below w.heap.size w (W2.setCell ⟨w.heap.size+1,0,none⟩ (.int .i64 v)):=hK2.bb.setCell (p:=⟨w.heap.size+1,0,none⟩) (Nat.le_succ _) _;refine ⟨((hko.trans (Pw hb)).trans (KeepsOthers.setCell _ _ _)).from _,fun u hu=>(Wh hb (hkb u hu)).other (by omega) _,?_,hs.below hbb,hK2.blk.other (a:=⟨w.heap.size+1,0,none⟩) (by show w.heap.size ≠ w.heap.size+1;omega) _,hbb⟩;rw [e];exact (Wh hb hv).set _
theorem Cw (n:Nat) (hn:3<=n) {w:World} {v0 v1 v2 v3 v4:Value} {m:Z6} {r:Nat} (h:Smy w v0 v1 v2 v3 v4 m) (hS:Sane m) (hW:Wants m) (hr:r<m.rm.length):CallsIn Fence.wide n Tryz.prog 296 #[.agg #[v0,v1,v2,v3,v4,.int .i64 m.now],.int .i64 (r:Int)] w fun e w'=>e= .returned (.int .i64 (Va m (SJ (Vf m.rm (r:Int)))))/\Below w.heap.size w w':=by
 have h1:1<=n:=by omega
 have hmo:Tryz.prog.follows .mixedOrders=true:=by kernel_rfl
 have hl:=hS.few;have HW:=Z9 hW;have Hs:=Z9 h;clear hS hW;obtain ⟨a0,p0,a1,p1,a2,p2,a3,p3,a4,p4,rfl,rfl,rfl,rfl,rfl,K⟩:=Bx.new h;clear h;obtain ⟨st,hst⟩:∃ st,Vf m.rm (r:Int)=st:=⟨_,rfl⟩
 rw [hst];have Hst:=Z9 hst;clear hst;refine callsIn_of_wp_marks Tryz.func296 rfl trivial ?_ rfl;simp only [Tryz.ntmps296,List.size_toArray,YQ,YC,Nat.reduceAdd,Nat.reduceSub,Array.replicate_succ,Array.replicate_zero,List.push_toArray,List.append_toArray,List.nil_append,List.cons_append]
 gi_wp2_with fail
 have bN:=Boxed.new (w.alloc (.cells (S6 a0 p0 a1 p1 a2 p2 a3 p3 a4 p4 m) 32)) 2 (.int .i64 0);rw [Y1] at bN;replace K:=K.alloc (.cells #[.int .i64 0] 2);generalize (w.alloc (.cells (S6 a0 p0 a1 p1 a2 p2 a3 p3 a4 p4 m) 32)).alloc (.cells #[.int .i64 0] 2)=W0 at *;refine ⟨trivial,?_⟩;refine (callsIn_wide.2 (Th (r:Int) K.smy.rm)).mono ?_;rw [uh Hst];rintro e w1 ⟨rfl,hb⟩;dsimp only;replace bN:=Wh hb bN;replace K:=K.next hb;clear hb Hst
 gi_wp2_with (refine ⟨trivial,?_⟩;gi_at_call 238;refine (SI (n-1) _ _).mono ?_;rintro e w' ⟨rfl,rfl⟩)
 have bS:=Boxed.new w1 2 (.int .i64 st);have hsz:=K.bb.size
 refine wpIn_rangeFunc_ownG rfl h1 (gf:=267) (lb:=#[.pointer (some ⟨w1.heap.size,0,none⟩)]) rfl trivial (enters_of Tryz.func267 (by kernel_rfl) rfl)
  (TI (n-1) (by omega) w1.heap.size st _ bS) (fun h k=>h.trans k) (KeepsBox.putObj (by simp)) (ZZ _ _) (fun _=>rfl)
  (Rnd w (Va m) a0 p0 a1 p1 a2 p2 a3 p3 a4 p4 m) (fun _ _ _=>False)
  (DK w (Va m) a0 p0 a1 p1 a2 p2 a3 p3 a4 p4 m (uh Hs) (by simp;omega))
  (fun _ _ _ _ _ hs _ _=>hs)
  ⟨bN.alloc _,K.alloc _⟩
  (fun x=>{ tmps:=#[.agg (S6 a0 p0 a1 p1 a2 p2 a3 p3 a4 p4 m),.int .i64 (r:Int),.pointer (some ⟨w.heap.size,0,none⟩),undef,.int .i64 0,.pointer (some ⟨w.heap.size+1,0,none⟩),.int .i64 x,.pointer (some ⟨w.heap.size,0,none⟩),.agg #[.slice a0 m.rm.length p0],.int .i64 (r:Int),.int .i64 st,.func (.func 267) #[] #[.pointer (some ⟨w1.heap.size,0,none⟩)],.int .i64 x,undef,undef,undef,undef,undef,undef,undef,undef,undef],defers:=[] }) ?assign ?body ?done ?stop
 case assign=>
  intro l x W K hK
  gi_wp2
  exact hK
 case body=>
  rintro l pre x W ⟨hv,hK⟩ hlt;have hc:=hv.cell;have hf:=hv.frozen;obtain ⟨c0,c1,c2,c3,c4,c5⟩:=hK.cells;obtain ⟨us,hus⟩:∃ q,Zc m x (-1)=q:=⟨_,rfl⟩
  have hub:=Tz m x (-1);rw [hus] at hub;have Hus:=Z9 hus;obtain ⟨q,hq⟩:∃ q,Um m x=q:=⟨_,rfl⟩
  have HN:=Z9 (MF m pre x);have hnb:=AS m hl pre;rw [hq,hus] at HN;clear hus;generalize Va m pre=nl at *
  gi_wp2_with fail
  refine ⟨trivial,fun _=>(by omega),?_⟩;refine (CallsIn.inRound l (callsIn_wide.2 (Ol hq hK.smy))).mono ?_;rintro e W1 ⟨rfl,hb⟩;dsimp only;have hko:=Pw hb;have hkb:=FU hb (B:=w1.heap.size) (t:=2);replace hv:=Wh hb hv;replace hK:=hK.next hb;clear hb hc hf c0 c1 c2 c3 c4 c5;cases q
  ·gi_wp2_with fail
   exact ⟨hko.from _,hkb,by rw [show Rnd w (Va m) a0 p0 a1 p1 a2 p2 a3 p3 a4 p4 m (pre++[x]) W1=(Boxed W1 (w.heap.size+1) 2 (.int .i64 (Va m (pre++[x])))/\Bx w W1 w.heap.size a0 p0 a1 p1 a2 p2 a3 p3 a4 p4 m) from rfl,uh HN];exact ⟨hv,hK⟩⟩
  have hc:=hv.cell;have hf:=hv.frozen;obtain ⟨c0,c1,c2,c3,c4,c5⟩:=hK.cells
  gi_wp2_with fail
  gi_region_with_o (refine ⟨trivial,fun _=>(by omega),?_⟩;gi_at_call 292;refine (CallsIn.inRound l (callsIn_wide.2 (Qz (uh Hus) ?_ (uh HW) hl))).mono ?_;exact hK.smy.below (ZZ _ _).drew;rintro e W2 ⟨rfl,hb2⟩;have Hb2:Hid (Below W1.heap.size W1 W2):=Z9 ⟨hb2.os,hb2.tape,hb2.output,hb2.size,hb2.block⟩;have hv2:=Wh (uh Hb2) hv;have hc2:=hv2.cell;have hf2:=hv2.frozen;clear hb2)
  all_goals
   exact Im (uh Hs) hko hkb (uh Hb2) hv hK bN.lt (by rw [uh HN];simp only [if_true];omega)
 case done=>
  rintro D ys W hD rfl ⟨hv,hK⟩ hDf;have hc:=hv.cell
  gi_wp2
  refine ⟨by simp,.inl ⟨_,_,rfl,run_takeDeferred hDf,?_⟩⟩;exact ⟨_,results_tmp rfl _ _ _,rfl,hK.bb.trans (belowK_b (w:=w) (Z1 _) W D _ _ (by simp at hD;omega) hDf rfl rfl)⟩
 case stop=>
  rintro D c pre W _ _ h _;exact h.elim
theorem EP {w:World} {v0 v1 v2 v3 v4:Value} {m:Z6} {r:Nat} (h:Smy w v0 v1 v2 v3 v4 m) (hS:Sane m) (hW:Wants m) (hr:r<m.rm.length):Calls Tryz.prog 296 #[.agg #[v0,v1,v2,v3,v4,.int .i64 m.now],.int .i64 (r:Int)] w fun e w'=>e= .returned (.int .i64 (Va m (SJ (Vf m.rm (r:Int)))))/\Below w.heap.size w w':=callsIn_wide.1 (Cw 3 (Z1 _) h hS hW hr)
theorem Dc (n:Nat) (hn:3<=n) {w:World} {v0 v1 v2 v3 v4:Value} {m:Z6} {r:Nat} (h:Smy w v0 v1 v2 v3 v4 m) (hS:Sane m) (hW:Wants m) (hr:r<m.rm.length):CallsIn Fence.wide n Tryz.prog 297 #[.agg #[v0,v1,v2,v3,v4,.int .i64 m.now],.int .i64 (r:Int)] w fun e w'=>e= .returned (.int .i64 (Ux m (SJ (Vf m.rm (r:Int)))))/\Below w.heap.size w w':=by
 have h1:1<=n:=by omega
 have hmo:Tryz.prog.follows .mixedOrders=true:=by kernel_rfl
 have hl:=hS.few;have HW:=Z9 hW;have Hs:=Z9 h;clear hS hW;obtain ⟨a0,p0,a1,p1,a2,p2,a3,p3,a4,p4,rfl,rfl,rfl,rfl,rfl,K⟩:=Bx.new h;clear h;obtain ⟨st,hst⟩:∃ st,Vf m.rm (r:Int)=st:=⟨_,rfl⟩
 rw [hst];have Hst:=Z9 hst;clear hst;refine callsIn_of_wp_marks Tryz.func297 rfl trivial ?_ rfl;simp only [Tryz.ntmps297,List.size_toArray,YQ,YC,Nat.reduceAdd,Nat.reduceSub,Array.replicate_succ,Array.replicate_zero,List.push_toArray,List.append_toArray,List.nil_append,List.cons_append]
 gi_wp2_with fail
 have bN:=Boxed.new (w.alloc (.cells (S6 a0 p0 a1 p1 a2 p2 a3 p3 a4 p4 m) 32)) 2 (.int .i64 0);rw [Y1] at bN;replace K:=K.alloc (.cells #[.int .i64 0] 2);generalize (w.alloc (.cells (S6 a0 p0 a1 p1 a2 p2 a3 p3 a4 p4 m) 32)).alloc (.cells #[.int .i64 0] 2)=W0 at *;refine ⟨trivial,?_⟩;refine (callsIn_wide.2 (Th (r:Int) K.smy.rm)).mono ?_;rw [uh Hst];rintro e w1 ⟨rfl,hb⟩;dsimp only;replace bN:=Wh hb bN;replace K:=K.next hb;clear hb Hst
 gi_wp2_with (refine ⟨trivial,?_⟩;gi_at_call 238;refine (SI (n-1) _ _).mono ?_;rintro e w' ⟨rfl,rfl⟩)
 have bS:=Boxed.new w1 2 (.int .i64 st);have hsz:=K.bb.size
 refine wpIn_rangeFunc_ownG rfl h1 (gf:=267) (lb:=#[.pointer (some ⟨w1.heap.size,0,none⟩)]) rfl trivial (enters_of Tryz.func267 (by kernel_rfl) rfl)
  (TI (n-1) (by omega) w1.heap.size st _ bS) (fun h k=>h.trans k) (KeepsBox.putObj (by simp)) (ZZ _ _) (fun _=>rfl)
  (Rnd w (Ux m) a0 p0 a1 p1 a2 p2 a3 p3 a4 p4 m) (fun _ _ _=>False)
  (DK w (Ux m) a0 p0 a1 p1 a2 p2 a3 p3 a4 p4 m (uh Hs) (by simp;omega))
  (fun _ _ _ _ _ hs _ _=>hs)
  ⟨bN.alloc _,K.alloc _⟩
  (fun x=>{ tmps:=#[.agg (S6 a0 p0 a1 p1 a2 p2 a3 p3 a4 p4 m),.int .i64 (r:Int),.pointer (some ⟨w.heap.size,0,none⟩),undef,.int .i64 0,.pointer (some ⟨w.heap.size+1,0,none⟩),.int .i64 x,.pointer (some ⟨w.heap.size,0,none⟩),.agg #[.slice a0 m.rm.length p0],.int .i64 (r:Int),.int .i64 st,.func (.func 267) #[] #[.pointer (some ⟨w1.heap.size,0,none⟩)],.int .i64 x,undef,undef,undef,undef,undef,undef],defers:=[] }) ?assign ?body ?done ?stop
 case assign=>
  intro l x W K hK
  gi_wp2
  exact hK
 case body=>
  rintro l pre x W ⟨hv,hK⟩ hlt;have hc:=hv.cell;have hf:=hv.frozen;obtain ⟨c0,c1,c2,c3,c4,c5⟩:=hK.cells;obtain ⟨us,hus⟩:∃ q,Zc m x (-1)=q:=⟨_,rfl⟩
  have hub:=Tz m x (-1);rw [hus] at hub;have Hus:=Z9 hus;have HN:=Z9 (Ny m pre x);have hnb:=BK m hl pre;rw [hus] at HN;clear hus;generalize Ux m pre=nl at *;obtain ⟨W1,hW1⟩:∃ X,X=W:=⟨_,rfl⟩
  subst hW1;have hwr:IntKind.i64.wrap (nl+us)=nl+us:=by rw [IntKind.wrap_i64];omega
  gi_wp2_with fail
  gi_region_with_o (refine ⟨trivial,fun _=>(by omega),?_⟩;gi_at_call 292;refine (CallsIn.inRound l (callsIn_wide.2 (Qz (uh Hus) ?_ (uh HW) hl))).mono ?_;exact hK.smy.below (ZZ _ _).drew;rintro e W2 ⟨rfl,hb2⟩;have Hb2:Hid (Below W1.heap.size W1 W2):=Z9 ⟨hb2.os,hb2.tape,hb2.output,hb2.size,hb2.block⟩;have hv2:=Wh (uh Hb2) hv;have hc2:=hv2.cell;have hf2:=hv2.frozen;clear hb2)
  all_goals
   exact Im (uh Hs) (KeepsOthers.refl _) (fun _ h=>h) (uh Hb2) hv hK bN.lt (by rw [uh HN])
 case done=>
  rintro D ys W hD rfl ⟨hv,hK⟩ hDf;have hc:=hv.cell
  gi_wp2
  refine ⟨by simp,.inl ⟨_,_,rfl,run_takeDeferred hDf,?_⟩⟩;exact ⟨_,results_tmp rfl _ _ _,rfl,hK.bb.trans (belowK_b (w:=w) (Z1 _) W D _ _ (by simp at hD;omega) hDf rfl rfl)⟩
 case stop=>
  rintro D c pre W _ _ h _;exact h.elim
theorem FK {w:World} {v0 v1 v2 v3 v4:Value} {m:Z6} {r:Nat} (h:Smy w v0 v1 v2 v3 v4 m) (hS:Sane m) (hW:Wants m) (hr:r<m.rm.length):Calls Tryz.prog 297 #[.agg #[v0,v1,v2,v3,v4,.int .i64 m.now],.int .i64 (r:Int)] w fun e w'=>e= .returned (.int .i64 (Ux m (SJ (Vf m.rm (r:Int)))))/\Below w.heap.size w w':=callsIn_wide.1 (Dc 3 (Z1 _) h hS hW hr)
end Go.Proofs.YtamgfpdahadnfaaGreatDoor
namespace Go.Proofs.YtamgfpdahadnfaaGreatDoor
open Go.ChangeShapes Go.WideShapes Go.ChangeAt Go.RowKit Go.Sort Go.Shelf
set_option linter.unusedVariables false
set_option maxRecDepth 100000
theorem Bx.of {w:World} {a0 a1 a2 a3 a4:Option Addr} {p0 p1 p2 p3 p4:Nat} {m:Z6} (h:Smy w (.slice a0 m.rm.length p0) (.slice a1 m.gd.length p1) (.slice a2 m.sm.length p2) (.slice a3 m.dk.length p3) (.slice a4 m.pc.length p4) m):Bx w (w.alloc (.cells (S6 a0 p0 a1 p1 a2 p2 a3 p3 a4 p4 m) 32)) w.heap.size a0 p0 a1 p1 a2 p2 a3 p3 a4 p4 m:=⟨h.alloc _,Blk.new _ _ _,(ba _ _)⟩
theorem Ge {w:World} {a0 a1 a2 a3 a4:Option Addr} {p0 p1 p2 p3 p4:Nat} {m:Z6} (h:Smy w (.slice a0 m.rm.length p0) (.slice a1 m.gd.length p1) (.slice a2 m.sm.length p2) (.slice a3 m.dk.length p3) (.slice a4 m.pc.length p4) m):Calls Tryz.prog 271 #[.agg (S6 a0 p0 a1 p1 a2 p2 a3 p3 a4 p4 m)] w fun e w'=>e= .returned (.func (Fn.func 294) #[] #[.pointer (some ⟨w.heap.size,0,none⟩)])/\Bx w w' w.heap.size a0 p0 a1 p1 a2 p2 a3 p3 a4 p4 m:=by
 have K:=Bx.of h;clear h;go_enter Tryz.func271,Tryz.ntmps271;go_wp2_with fail;go_ret;exact ⟨rfl,K⟩
theorem Eg {w0 w:World} {R r:Nat} {a0 a1 a2 a3 a4:Option Addr} {p0 p1 p2 p3 p4:Nat} {m:Z6} (K:Bx w0 w R a0 p0 a1 p1 a2 p2 a3 p3 a4 p4 m) (hS:Sane m) (hW:Wants m) (hr:r<m.rm.length):Calls Tryz.prog 294 #[.int .i64 (r:Int),.pointer (some ⟨R,0,none⟩)] w fun e w'=>e= .returned (.int .i64 (TE m r))/\Below w.heap.size w w':=by
 have hr1:(r:Int)<(m.rm.length:Int):=by omega
 have HM:=Z9 (CJ hS hr);have HN:=Z9 (fun (X:World) (hX:Below w.heap.size w X)=>EP (K.smy.below hX) hS hW hr);have HK:=Z9 (fun (X:World) (hX:Below w.heap.size w X)=>FK (K.smy.below hX) hS hW hr);clear hS hW;have Hc:Hid (TE m r=O0 (ZQ m.rm r) (Va m (SJ (Vf m.rm (r:Int)))) (Ux m (SJ (Vf m.rm (r:Int))))):=Z9 (by rw [(uh HM).1,(uh HM).2];rfl);rw [uh Hc];clear Hc HM;obtain ⟨_,_,hre,_,_,r0⟩:=K.smy.rm;cases hre
 rcases r0 with e0 | ⟨rb,off,rfl,hbw,hcl⟩
 ·rw [e0] at hr;simp at hr
 obtain ⟨d0,pv,d1,hpv⟩:=hcl r hr;clear hcl;generalize Va m (SJ (Vf m.rm (r:Int)))=ne at *;generalize Ux m (SJ (Vf m.rm (r:Int)))=wo at *;obtain ⟨⟨n,ps⟩,hrm⟩:∃ x,ZQ m.rm r=x:=⟨_,rfl⟩
 rw [hrm] at d0 hpv ⊢;clear hrm;simp only at d0 hpv;have Hpv:=Z9 hpv;obtain ⟨pa,pc,rfl,_,_,_⟩:=hpv;obtain ⟨c0,c1,c2,c3,c4,c5⟩:=K.cells;have k0:=Z2 c0;have k1:=Z2 c1;have k2:=Z2 c2;have k3:=Z2 c3;have k4:=Z2 c4;have k5:=Z2 c5;have k6:=Z2 d0;have k7:=Z2 d1;go_enter Tryz.func294,Tryz.ntmps294;go_wp2_with fail;refine wq ?_
 repeat (go_big_quiet_step (first | exact ZY (uh HN _ (Z0 _ _ _)) | exact ZY (uh HK _ (Z0 _ _ _)) | exact ZY (PF _ _ _ ((uh Hpv).below (Z0 _ _ _)))))
 refine wpQuiet_nil ?_;intro _ hw';obtain ⟨⟨dq,osq⟩,hw''⟩:=hw';subst hw'';go_wp2_with fail;go_ret;exact ⟨rfl,Z0 _ _ _⟩
theorem JS {w0 w:World} {R:Nat} {a0 a1 a2 a3 a4 b0:Option Addr} {p0 p1 p2 p3 p4 q0:Nat} {m:Z6} (K:Bx w0 w R a0 p0 a1 p1 a2 p2 a3 p3 a4 p4 m) (hS:Sane m) (hW:Wants m):Calls Tryz.prog 270 #[.slice b0 m.rm.length q0,.func (Fn.func 294) #[] #[.pointer (some ⟨R,0,none⟩)]] w fun e w'=>e= .returned (.int .i64 (PA m))/\Below w.heap.size w w':=by
 have h3:=(Zl hS.hall).2.1;have Hbd:=Z9 (OP m);have HC:=Z9 (fun (X:World) (hX:Below w.heap.size w X) (k:Nat) (hk:k<m.rm.length)=>Eg (K.next hX) hS hW hk);clear hS hW K;go_enter Tryz.func270,Tryz.ntmps270;go_wp2_with fail
 go_loopw [5,9] (fun n i wr=> ∃ k:Nat,k<=m.rm.length/\i= .int .i64 k/\n= .int .i64 (VA m k)/\Below w.heap.size w wr) (fun _ i _=>m.rm.length-(intOf i).toNat)
 case atStart=>exact ⟨0,Zz _,rfl,rfl,ZZ _ _⟩
 case round=>
  obtain ⟨k,hk,rfl,rfl,hb0⟩:=hrel;obtain ⟨u0,u1⟩:=uh Hbd k;obtain ⟨u2,u3⟩:=uh Hbd (k+1);have hst:VA m (k+1)=VA m k+TE m k:=rfl;rw [hst] at u2 u3;have Hst:=Z9 hst;have BB:=Z9 hb0;clear hb0 hst;by_cases hlt:k<m.rm.length
  ·have hlt1:(k:Int)<(m.rm.length:Int):=by omega
   have HD:=Z9 (uh HC wr (uh BB) k hlt);generalize TE m k=ci at *;generalize VA m k=ct at *;go_wp2_with fail;refine ck (uh HD) fun w1 hb=> ?_;replace BB:=bt BB hb;clear hb HD;go_wp2_with fail;go_roundw
   case rel=>exact ⟨k+1,by omega,by go_num,by rw [uh Hst],uh BB⟩
   case measure=>exact ms
  ·obtain rfl:k=m.rm.length:=by omega
   go_wp2_with fail;go_ret;exact ⟨rfl,uh BB⟩
open Go.ChangeShapes Go.WideShapes Go.ChangeAt Go.RowKit Go.Sort
set_option linter.unusedSimpArgs false
set_option maxRecDepth 100000
theorem MJ {B g:Nat} {w:World} (hg:g=w.heap.size) (hB:B<=g):OwnHall B (w.alloc (.cells #[] 112)) (.slice (some ⟨g,0,none⟩) 0 0) []:=by
 subst hg;exact ⟨⟨by simp [RQ],.inr ⟨_,0,#[],rfl,hB,heap_alloc_new w _,Z1 _,Zz _,by simp,by simp [RQ]⟩⟩,fun _ h=>(by cases h),fun _ h=>(by cases h),List.Pairwise.nil⟩
theorem Ef {w:World} {v:Value} {ps:List Z4} (h:IsPaces w v ps) (hl:ps.length<=1000):Calls Tryz.prog 213 #[v] w fun e w'=> ∃ v',e= .returned v'/\PacesAt w.heap.size w' v' ps/\Below w.heap.size w w':=by
 have HR:=Z9 (IsPaces.rec (h.below ((ZZ _ _).alloc (Z1 _) (.cells #[] 114))));obtain ⟨a,cap,rfl,hc,hm,hr⟩:=h;clear hr;go_enter Tryz.func213,Tryz.ntmps213;go_wp2_with (at_builtin;refine ZI BA rfl (.tmp 3) (.tmp 4) 207 Tryz.underlying207 rfl w.heap.size _ _ [] ps rfl rfl (Y8 rfl (Z1 _)) (uh HR) (by simp;omega) (by simp) ?_;intro u9 w9 hp9 hg9 hat9;rw [List.nil_append] at hp9;have HP9:=Z9 hp9;have HG9:=Z9 hg9;clear hp9 hg9 hat9)
 have hb9:Below w.heap.size w w9:=((ba _ _)).trans ((ZZ _ _).grown (uh HG9) (by simp) (fun i e=>by cases e;exact Z1 _));go_wp2_with fail;go_ret;exact ⟨_,rfl,uh HP9,hb9⟩
theorem LW {w:World} {v:Value} {rs:List ZX} (h:IsRooms w v rs) (hl:rs.length<=1000) (hp:∀ r ∈ rs,r.2.length<=1000) :
  Calls Tryz.prog 157 #[.agg #[v]] w fun e w'=> ∃ v' qs,e= .returned (.agg #[v'])/\qs.map (·.1)=rs/\OwnHall w.heap.size w' v' qs/\Below w.heap.size w w':=by
 obtain ⟨a,cap,rfl,hc,hm,hr⟩:=h;have Hr:=Z9 hr;have HP:=Z9 hp;clear hr hp;go_enter Tryz.func157,Tryz.ntmps157;go_wp2_with fail
 go_loopw [3,10] (fun u i wr=> ∃ (k:Nat) (qs:List (ZX × Value)) (ua:Option Addr) (uc:Nat),k<=rs.length/\i= .int .i64 k/\u= .slice ua k uc/\Blk wr (w.heap.size+1) 26 #[.slice none 0 0]/\OwnHall (w.heap.size+2) wr (.slice ua k uc) qs/\qs.map (·.1)=rs.take k/\Below w.heap.size w wr) (fun _ i _=>rs.length-(intOf i).toNat)
 case atStart=>
  refine ⟨0,[],_,_,Zz _,rfl,rfl,?_,MJ (by simp) (by simp),rfl,(((ba _ _)).alloc (by simp) _).alloc (by simp;omega) _⟩;have k:=Blk.new (w.alloc (.cells #[.slice a rs.length cap] 26)) 26 #[.slice none 0 0];rw [Y1] at k;exact k.alloc _
 case round=>
  obtain ⟨k,qs,ua,uc,hk,rfl,rfl,kr,ho,hq,hb⟩:=hrel;have hql:qs.length=k:=by have:=congrArg List.length hq;simp at this;omega
  have Hql:=Z9 hql;clear hql;have Kr:=Z9 kr;have Ho:=Z9 ho;have Hq:=Z9 hq;have Hb:=Z9 hb;have hsz:=kr.lt;by_cases hlt:k<rs.length
  ·have hlt1:(k:Int)<(rs.length:Int):=by omega
   rcases uh Hr with e0 | ⟨b,off,rfl,hbw,hcl⟩
   ·rw [e0] at hlt;simp at hlt
   obtain ⟨c0,pv,c1,hpv⟩:=hcl k hlt;rw [<-hb.cell (p:=⟨b,off+k*2,none⟩) hbw] at c0;rw [<-hb.cell (p:=⟨b,off+k*2+1,none⟩) hbw] at c1;have Hpv:=Z9 (hpv.below (hb.mono (Z1 _)));have hpl:=uh HP (ZQ rs k) (by unfold ZQ;simp [List.getD,hlt]);have Htk:Hid (rs.take (k+1)=rs.take k++[ZQ rs k]):=Z9 (by rw [List.take_succ_eq_append_getElem hlt];unfold ZQ;simp [List.getD,hlt]);generalize ZQ rs k=r at *;obtain ⟨n,ps⟩:=r;simp only at c0 hpl hpv;obtain ⟨pa,pc,rfl,_,_,_⟩:=hpv;have hbw':b<wr.heap.size:=by have:=hb.size;omega
   clear hcl kr ho hq hb;go_wp2_with fail;clear c0 c1;have hba:Below wr.heap.size wr (wr.alloc (.cells #[.int .i64 n,.slice pa ps.length pc] 112)):=ba _ _;have KB:Hid (Blk (wr.alloc (.cells #[.int .i64 n,.slice pa ps.length pc] 112)) wr.heap.size 112 #[.int .i64 n,.slice pa ps.length pc]):=Z9 (Blk.new wr _ _);replace Kr:=bl Kr hba;have HLB:Hid (∀ i,(Value.slice ua k uc).ownBlock=some i->i<wr.heap.size):=Z9 (fun i e=>((uh Ho).lt (.inl e)).2);replace Ho:=Z9 ((uh Ho).later hba);replace Hb:=Z9 ((uh Hb).trans (hba.mono (uh Hb).size));replace Hpv:=Z9 ((uh Hpv).below hba);have hsz2:w.heap.size+2<=(wr.alloc (.cells #[.int .i64 n,.slice pa ps.length pc] 112)).heap.size:=by have:=(uh Kr).lt;simp at this ⊢;omega
   clear hba;generalize wr.alloc (.cells #[.int .i64 n,.slice pa ps.length pc] 112)=X at *;generalize wr.heap.size=rb at *;have s0:=(uh KB).cell (i:=0) (v:= .int .i64 n) rfl;have s1:=(uh KB).cell (i:=1) (v:= .slice pa ps.length pc) rfl;refine ZL (S:=fun w'=>w'.cell? ⟨rb,0,none⟩=some (.int .i64 n)/\w'.cell? ⟨rb,1,none⟩=some (.slice pa ps.length pc)) (by kernel_rfl) (WU _ _) (by kernel_rfl) ⟨s0,s1⟩ (fun hHeld=> ?_);simp only [WV,WW,YQ,YC,Nat.zero_add,Nat.reduceAdd]
   iterate 5 refine tz ?_
   refine rd 5 rfl (fun K hK=> ?_);go_simp;refine (Ef ((uh Hpv).below (ZZ _ _).drew) hpl).mono ?_;rintro e9 w4 ⟨v4,rfl,hp4,hb4⟩;obtain ⟨pa4,pc4,rfl⟩:=PacesAt.shape hp4;have X4:Below X.heap.size X w4:=(ZZ X.heap.size X).drew.trans hb4;have HO4:Hid (PacesAt X.heap.size w4 (.slice pa4 ps.length pc4) ps):=Z9 hp4;have HX4:=Z9 X4;have hz4:=X4.size;have t0:=(X4.cell (p:=⟨rb,0,none⟩) (uh KB).lt).trans s0;have t1:=(X4.cell (p:=⟨rb,1,none⟩) (uh KB).lt).trans s1;clear hp4 hb4 X4;refine hK.out _ _ ⟨t0,t1⟩ (fun hHeld=> ?_);clear hK K
   (try simp only [Act.put,sA,sZ,sS])
   refine tp 6 ?_;have KB5:=((uh KB).below (uh HX4) (uh KB).lt).alloc (.cells #[.int .i64 n,.slice pa4 ps.length pc4] 112);have u0:=KB5.cell (i:=0) (v:= .int .i64 n) rfl;have u1:=KB5.cell (i:=1) (v:= .slice pa ps.length pc) rfl;refine rd 7 rfl (fun K hK=> ?_);go_simp;refine hK.out _ _ ⟨u0,u1⟩ (fun hHeld=> ?_);clear hK K
   (try simp only [Act.put,sA,sZ,sS])
   obtain ⟨v5,w5,hrun5,hown5,hg5,hat5⟩:=Sd (w:=w4.alloc (.cells #[.int .i64 n,.slice pa4 ps.length pc4] 112)) (t:=24) (ty:=24) (base:=w.heap.size+2) (v:= .slice ua k uc) (n:=k) (xs:=RQ qs) Tryz.underlying24 (World.ownsRow.alloc (by have h9:=((uh Ho).later (uh HX4)).row;rw [uh Hql] at h9;exact h9) _) (g:=w4.heap.size) (c:=1) (Zg w4 (i:=0) rfl) (Zg w4 (i:=1) rfl) rfl (by omega) (by simp;omega);obtain ⟨a5,c5,rfl⟩:=Km hown5;have hn5:∀ i,(Value.slice ua k uc).ownBlock=some i->w.heap.size+2<=i/\i<X.heap.size:=fun i e=>(uh Ho).lt (.inl e);have hrbX:=(uh KB).lt;have RB:Hid (∀ i,(Value.slice ua k uc).ownBlock=some i->i ≠ rb):=Z9 (fun i e e2=>by have:=uh HLB i e;omega);have KB6:=KB5.same (w':=w5) (hg5.block _ KB5.lt (fun e=>uh RB _ e.symm rfl));have y0:=KB6.cell (i:=0) (v:= .int .i64 n) rfl;have y1:=KB6.cell (i:=1) (v:= .slice pa ps.length pc) rfl;have HO5:=Z9 hown5;have HG5:=Z9 hg5;have HA5:=Z9 hat5;have R5:=Z9 hrun5
   have X5:Hid (Below (w.heap.size+2) X w5):=Z9 (by
    have q1:Below X.heap.size X w4:=uh HX4;have q2:Below w4.heap.size w4 (w4.alloc (.cells #[.int .i64 n,.slice pa4 ps.length pc4] 112)):=ba _ _;have q3:Below (w.heap.size+2) (w4.alloc (.cells #[.int .i64 n,.slice pa4 ps.length pc4] 112)) w5:=(ZZ _ _).grown (uh HG5) (by have:=q1.size;simp;omega) (fun i e=>((uh Ho).lt (.inl e)).1)
    exact ((q1.mono (by omega)).trans (q2.mono (by have:=q1.size;omega))).trans q3)
   have hp5:OwnHall (w.heap.size+2) w5 (.slice a5 (k+1) c5) (qs++[((n,ps),.slice pa4 ps.length pc4)]):=by
    have q1:OwnHall (w.heap.size+2) w4 (.slice ua k uc) qs:=(uh Ho).later (uh HX4);have q2:PacesAt X.heap.size w4 (.slice pa4 ps.length pc4) ps:=uh HO4;have q3:PacesAt (w.heap.size+2) w4 (.slice pa4 ps.length pc4) ps:=q2.mono (by omega);refine OwnHall.push (w:=w4) (w1:=w5) (v:= .slice ua k uc) (o:= .cells #[.int .i64 n,.slice pa4 ps.length pc4] 112) q1 q3 ?_ ?_ ?_ (uh HG5) (uh HA5)
    ·intro b' e e'
     have h8:=(q2.lt e).1;have h9:=((uh Ho).lt (.inl e')).2;omega
    ·intro q hq' b' e e'
     have h8:=(q2.lt e').1;have h9:=((uh Ho).lt (.inr ⟨q,hq',e⟩)).2;omega
    ·rw [uh Hql];exact uh HO5
   have HP5:=Z9 hp5;clear hp5 hown5 hg5 hat5 hrun5 KB5 KB6;refine rd 8 rfl (fun K hK=> ?_);refine WK rfl (.tmp 14) (.tmp 21) 24 rfl rfl rfl (uh R5) ?_;refine hK.out _ _ ⟨y0,y1⟩ (fun hHeld=> ?_);clear hK K
   (try simp only [Act.put,sA,sZ,sS])
   refine wpAnyH_done (by kernel_rfl) ?_ _;refine ZD rfl rfl ?_;go_simp;clear hHeld;go_wp2_with fail;go_roundw
   case rel=>
    exact ⟨k+1,qs++[((n,ps),.slice pa4 ps.length pc4)],a5,c5,by omega,by go_num,rfl,(uh Kr).below (uh X5) (by omega),uh HP5,by rw [List.map_append,uh Hq,uh Htk];rfl,(uh Hb).trans ((uh X5).mono (by omega))⟩
   case measure=>exact ms
  ·obtain rfl:k=rs.length:=by omega
   have r0:=kr.cell (i:=0) rfl;have r1:=kr.free 0;go_wp2_with fail;rw [List.take_length] at hq;refine ZS (v:= .agg #[.slice ua rs.length uc]) (by simp [results,Tryz.results157,go_sem, *]) rfl ⟨_,qs,rfl,hq,?_,?_⟩
   ·exact (ho.same fun i h0 hi=>heap_setCell_other _ _ _ _ (by show i ≠ w.heap.size+1;omega)).mono (by omega)
   ·exact hb.setCell (by show _<=w.heap.size+1;omega) _
def TW (rs:List ZX):Z6:=⟨rs,[],[],List.replicate (ZW rs).toNat (true,-1,0),List.replicate rs.length 0,0⟩
end Go.Proofs.YtamgfpdahadnfaaGreatDoor
