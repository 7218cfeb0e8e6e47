/- Part 25 of what the proof rests on. No condition but those that a theorem names. -/
import Derived.Test.YtffcgajndmhpkaaGreatDoorXt24
import Derived.Deep.LoopGhost
import Derived.Laws.EntriesVeiled
set_option maxHeartbeats 8000000
set_option maxRecDepth 100000
namespace Go.Proofs.YtffcgajndmhpkaaGreatDoor
open Go.ChangeShapes Go.WideShapes Go.ChangeAt Go.RowKit Go.Sort
set_option linter.unusedVariables false
theorem EJ {ps qs hs hs':List Z4} (hr:Ris qs) (hle:∀ x ∈ qs,∀ y ∈ hs,ltB y x=false) (hh:HeapTo hs hs.length) (hl:0<hs.length) (hp:(qs++hs).Perm ps) (hp':(hs'++[Z7 hs 0]).Perm hs) :
  Ris (qs++[Z7 hs 0])/\(∀ x ∈ qs++[Z7 hs 0],∀ y ∈ hs',ltB y x=false)/\((qs++[Z7 hs 0])++hs').Perm ps:=by
 have hsub:∀ y ∈ hs',y ∈ hs:=fun y hy=>hp'.subset (List.mem_append_left _ hy)
 refine ⟨D9 hr (fun y hy=>hle y hy _ (XQ hl)),fun x hx y hy=> ?_,?_⟩
 ·rcases List.mem_append.1 hx with hx | hx
  ·exact hle x hx y (hsub y hy)
  ·obtain rfl:x=Z7 hs 0:=by simpa using hx
   obtain ⟨k,hk,rfl⟩:=TZ (hsub y hy)
   exact hh.least k hk
 ·rw [List.append_assoc]
  exact ((List.perm_append_comm (l₁:=[Z7 hs 0]) (l₂:=hs')).trans hp').append_left qs |>.trans hp
theorem Jw {n₀ bx:Nat} {v:Value} {w:World} {ps:List Z4} (h:HeapIs n₀ bx v w ps) (hp:HeapTo ps ps.length) (hl:ps.length<=900) (hx:n₀<=bx) (hn:n₀<=w.heap.size) :
  Calls Tryz.prog 287 #[.pointer (some ⟨bx,0,none⟩)] w fun e w'=> ∃ v' qs,e= .returned v'/\EntsAt w.heap.size w' v' qs/\Ris qs/\qs.Perm ps/\Below n₀ w w':=by
 have H:=Z9 h
 have HP:=Z9 hp
 have hbx:=h.lt
 have HO:Hid (∀ k,v.ownBlock=some k->n₀<=k/\k<w.heap.size):=Z9 (fun k e=>h.row.lt e)
 clear h hp
 go_enter Tryz.func287,Tryz.ntmps287
 go_wp2_with fail
 go_loopg [3] ps.length (fun gg q wr=> ∃ (vh:Value) (qs hs:List Z4),hs.length<=gg/\EntsAt w.heap.size wr q qs/\HeapIs n₀ bx vh wr hs/\HeapTo hs hs.length/\Ris qs/\(∀ x ∈ qs,∀ y ∈ hs,ltB y x=false)/\(qs++hs).Perm ps/\vh.ownBlock=v.ownBlock/\Below n₀ w wr)
 case atStart=>exact ⟨v,[],ps,Nat.le_refl _,Wi rfl (Nat.le_refl _),(uh H).later ((ba _ _)),uh HP,List.Pairwise.nil,fun _ hx=>(by cases hx),List.Perm.refl _,rfl,(Below.refl _ _).alloc hn _⟩
 case round=>
  obtain ⟨vh,qs,hs,hgg,hq,hh,hto,hris,hle,hperm,hob,hbel⟩:=hrel
  have hlen:qs.length+hs.length=ps.length:=by have:=hperm.length_eq;simpa using this
  obtain ⟨qa,qcap,rfl⟩:=hq.shape
  have Hq:=Z9 hq
  have Hh:=Z9 hh
  have Hto:=Z9 hto
  have Hris:=Z9 hris
  have Hle:=Z9 hle
  have Hpe:=Z9 hperm
  have Hob:=Z9 hob
  have Hbel:=Z9 hbel
  have hsz:=hbel.size
  clear hq hh hto hris hle hperm hob hbel
  by_cases h0:hs.length=0
  ·have hz:¬ (0:Int)<(hs.length:Int):=by omega
   go_wp2_with fail
   refine (Rz (uh Hh)).mono ?_
   rintro e w' ⟨rfl,h2⟩
   subst w'
   go_wp2_with fail
   go_ret
   obtain rfl:hs=[]:=List.eq_nil_of_length_eq_zero h0
   exact ⟨_,qs,rfl,uh Hq,uh Hris,by have:=uh Hpe;simpa using this,uh Hbel⟩
  ·obtain ⟨m,hm⟩:∃ m,hs.length=m+1:=⟨hs.length-1,by omega⟩
   have hz:(0:Int)<(hs.length:Int):=by omega
   go_wp2_with fail
   refine (Rz (uh Hh)).mono ?_
   rintro e w' ⟨rfl,h2⟩
   subst w'
   go_wp2_with fail
   refine (JN (uh Hh) (uh Hto) hm (by omega)).mono ?_
   rintro e w1 ⟨rfl,v1,hs',hh1,hto1,hpe1,hob1,hf1⟩
   obtain ⟨s1,s2,s3⟩:=EJ (uh Hris) (uh Hle) (uh Hto) (by omega) (uh Hpe) hpe1
   have hlen':hs'.length+1=hs.length:=by have:=hpe1.length_eq;simpa using this
   generalize Z7 hs 0=p at *
   obtain ⟨f,z⟩:=p
   have hta:=NN f z
   have S1:=Z9 s1
   have S2:=Z9 s2
   have S3:=Z9 s3
   have H1:=Z9 hh1
   have T1:=Z9 hto1
   have O1:Hid (v1.ownBlock=v.ownBlock):=Z9 (hob1.trans (uh Hob))
   have Q1:Hid (EntsAt w.heap.size w1 (.slice qa qs.length qcap) qs):=Z9 ((uh Hq).fr hf1 (fun e=>by have:=(uh Hq).lt e;omega) (fun k e e2=>by have h8:=(uh Hq).lt e;have h9:=uh HO k ((uh Hob).symm.trans e2);omega))
   have hz1:=hf1.size
   have B1:Hid (Below n₀ w w1):=Z9 ((uh Hbel).trans ((uh Hh).below (v':=v1) (qs:=hs) hf1 hx (by omega)))
   clear s1 s2 s3 hh1 hto1 hpe1 hob1 hf1 Hh Hto Hris Hle Hpe Hob Hbel Hq
   go_wp2_with (at_builtin;refine WV rfl (.tmp 8) (.tmp 13) 148 Tryz.underlying148 rfl w.heap.size _ _ qs [(f,z)] rfl rfl ((uh Q1).later ((ba _ _))) (SX rfl (Nat.le_refl _) (by omega)) (by simp;omega) (by simp;omega) ?_;intro v' w2 hown hgrow hat)
   have hb0:Below w1.heap.size w1 (w1.alloc (.cells #[.int .i64 f,.int .i64 z] 151)):=ba _ _
   have hq0:∀ k,(Value.slice qa qs.length qcap).ownBlock=some k->w.heap.size<=k:=fun k e=>((uh Q1).lt e).1
   have hw2:Below w.heap.size (w1.alloc (.cells #[.int .i64 f,.int .i64 z] 151)) w2:=(Below.refl _ _).grown hgrow (by simp;omega) (fun k e=>hq0 k e)
   have hh2:HeapIs n₀ bx v1 w2 hs':=by
    have h3:=(uh H1).later hb0
    have hk:=hw2.block bx hbx
    refine ⟨(World.cell?_of_block (a:=⟨bx,0,none⟩) hk).trans h3.cell,(World.frozen?_of_block (a:=⟨bx,0,none⟩) hk).trans h3.free,Nat.lt_of_lt_of_le h3.lt hw2.size,h3.row.same (fun k e=>hw2.block k ?_),h3.off⟩
    exact (uh HO k ((uh O1).symm.trans e)).2
   have H2:=Z9 hh2
   have N2:=Z9 hown
   have B2:Hid (Below n₀ w w2):=Z9 ((uh B1).trans ((hb0.mono (by omega)).trans (hw2.mono hn)))
   clear hown hgrow hat hb0 hw2 hh2 hq0
   go_roundg (m)
   case measure=>omega
   case rel=>exact ⟨v1,qs++[(f,z)],hs',by omega,uh N2,uh H2,uh T1,uh S1,uh S2,uh S3,uh O1,uh B2⟩
theorem C5 {ps:List Z4} {k:Nat} {p:Z4} (hp:Z7 ps k=p) (h:N9 p=false):Wv ps k=false:=by unfold Wv;rw [hp];simp [h]
theorem C6 {ps:List Z4} {k:Nat} {p q:Z4} (hz:0<k) (hp:Z7 ps k=p) (hq:Z7 ps (k-1)=q) (h:ltB q p=false):Wv ps k=false:=by unfold Wv;rw [hp,hq];simp [h];omega
theorem C7 {ps:List Z4} {k:Nat} {f z:Int} (hp:Z7 ps k=(f,z)) (h:0<=WA (ps.take k) z):Wv ps k=false:=by unfold Wv;rw [hp];simp;intros;exact h
theorem C8 {ps:List Z4} {k:Nat} {f z:Int} {q:Z4} (hz:0<k) (hp:Z7 ps k=(f,z)) (hq:Z7 ps (k-1)=q) (h1:N9 (f,z)=true) (h2:ltB q (f,z)=true) (h:WA (ps.take k) z<0):Wv ps k=true:=by unfold Wv;rw [hp,hq];simp [h1,h2,h]
theorem C4 {ps:List Z4} {p:Z4} (hp:Z7 ps 0=p) (h:N9 p=true):Wv ps 0=true:=by unfold Wv;rw [hp];simp [h,WA]
theorem Uw {w:World} {v:Value} {ps:List Z4} {who F:Int} (hF:WA ps who=F) (h:IsPaces w v ps) :
  Calls Tryz.prog 291 #[v,.int .i64 who] w fun e w'=>e= .returned (.int .i64 F)/\Below w.heap.size w w':=by
 subst hF
 exact Kv who h
theorem Yw {w:World} {v:Value} {ps:List Z4} (h:IsPaces w v ps) :
  Calls Tryz.prog 257 #[v] w fun e w'=>e= .returned (.bool (YJ ps))/\Below w.heap.size w w':=by
 have Hr2:=Z9 h
 obtain ⟨a,cap,rfl,hc,hm,hr⟩:=h
 have Hr:=Z9 hr
 clear hr
 by_cases hbig:100<ps.length
 ·go_enter Tryz.func257,Tryz.ntmps257
  go_wp2_with fail
  go_ret
  exact ⟨Z5 (Iw hbig).symm,Below.refl _ _⟩
 go_enter Tryz.func257,Tryz.ntmps257
 go_wp2_with fail
 go_loopw [10] (fun i wr=> ∃ k:Nat,k<=ps.length/\i= .int .i64 k/\(∀ j,j<k->Wv ps j=true)/\Below w.heap.size w wr) (fun i _=>ps.length-(intOf i).toNat)
 case atStart=>exact ⟨0,Nat.zero_le _,rfl,fun j hj=>by omega,Below.refl _ _⟩
 case round=>
  obtain ⟨k,hk,rfl,hst,hb⟩:=hrel
  have Hst:=Z9 hst
  have Hb:=Z9 hb
  clear hst
  by_cases hlt:k<ps.length
  ·rcases uh Hr with h0 | ⟨b,off,rfl,hbw,hcl⟩
   ·rw [h0] at hlt;simp at hlt
   have hbr:b<wr.heap.size:=Nat.lt_of_lt_of_le hbw hb.size
   have hne:b ≠ wr.heap.size:=Nat.ne_of_lt hbr
   obtain ⟨c0,c1⟩:=hcl k hlt
   rw [<-hb.cell (p:=⟨b,off+k*2,none⟩) hbw] at c0
   rw [<-hb.cell (p:=⟨b,off+k*2+1,none⟩) hbw] at c1
   generalize hp:Z7 ps k=p at c0 c1
   have Hp:=Z9 hp
   clear hp
   obtain ⟨f,z⟩:=p
   simp only at c0 c1
   have Hip:=Z9 ((((uh Hr2).below hb).cut (n:=k) (by omega)).below ((Below.refl _ _).alloc (Nat.le_refl _) (.cells #[.int .i64 f,.int .i64 z] 151)))
   have d0:(wr.alloc (.cells #[.int .i64 f,.int .i64 z] 151)).cell? ⟨wr.heap.size,0,none⟩=some (.int .i64 f):=by simp
   have d1:(wr.alloc (.cells #[.int .i64 f,.int .i64 z] 151)).cell? ⟨wr.heap.size,1,none⟩=some (.int .i64 z):=by simp
   have k0:=cell_regrown d0
   have k1:=cell_regrown d1
   clear d0 d1
   obtain ⟨F,hF⟩:∃ F,WA (ps.take k) z=F:=⟨_,rfl⟩
   have hFb:=Du (ps.take k) z
   rw [hF] at hFb
   have HF:=Z9 hF
   clear hF
   cases hpb:N9 (f,z)
   ·clear hcl
    go_wp2_with fail
    refine wq ?_
    repeat (go_big_quiet_step (first | exact Calls.regrown_of (V5 _ _ _) | exact Calls.regrown_of (Xh _ _ _ _ _) | exact Calls.regrown_of (Uw (uh HF) ((uh Hip).below (below_regrown _ _ _)))))
    refine wpQuiet_nil ?_
    intro _ hw'
    obtain ⟨⟨dq,osq⟩,hw''⟩:=hw'
    subst hw''
    go_wp2_with fail
    go_ret
    exact ⟨Z5 (OP hlt (C5 (uh Hp) hpb)).symm,(uh Hb).trans (((Below.refl _ _).alloc (uh Hb).size _).trans ((below_regrown _ _ _).mono (by simp;have:=(uh Hb).size;omega)))⟩
   ·by_cases hz:0<k
    ·have hd:decide (0<k)=true:=decide_eq_true hz
     obtain ⟨e0,e1⟩:=hcl (k-1) (by omega)
     rw [<-hb.cell (p:=⟨b,off+(k-1)*2,none⟩) hbw] at e0
     rw [<-hb.cell (p:=⟨b,off+(k-1)*2+1,none⟩) hbw] at e1
     generalize hq:Z7 ps (k-1)=q at e0 e1
     have Hq:=Z9 hq
     clear hq
     obtain ⟨f',z'⟩:=q
     simp only at e0 e1
     have m0:=cell_regrown (w:=wr.alloc (.cells #[.int .i64 f,.int .i64 z] 151)) (a:=⟨b,off+(k-1)*2,none⟩) (v:= .int .i64 f') (by rw [World.cell?_alloc_old _ _ _ hne];exact e0)
     have m1:=cell_regrown (w:=wr.alloc (.cells #[.int .i64 f,.int .i64 z] 151)) (a:=⟨b,off+(k-1)*2+1,none⟩) (v:= .int .i64 z') (by rw [World.cell?_alloc_old _ _ _ hne];exact e1)
     clear hcl e0 e1
     cases hab:ltB (f',z') (f,z)
     ·go_wp2_with fail
      refine wq ?_
      repeat (go_big_quiet_step (first | exact Calls.regrown_of (V5 _ _ _) | exact Calls.regrown_of (Xh _ _ _ _ _) | exact Calls.regrown_of (Uw (uh HF) ((uh Hip).below (below_regrown _ _ _)))))
      refine wpQuiet_nil ?_
      intro _ hw'
      obtain ⟨⟨dq,osq⟩,hw''⟩:=hw'
      subst hw''
      go_wp2_with fail
      go_ret
      exact ⟨Z5 (OP hlt (C6 hz (uh Hp) (uh Hq) hab)).symm,(uh Hb).trans (((Below.refl _ _).alloc (uh Hb).size _).trans ((below_regrown _ _ _).mono (by simp;have:=(uh Hb).size;omega)))⟩
     ·by_cases hF0:F= -1
      ·subst hF0
       go_wp2_with fail
       refine wq ?_
       repeat (go_big_quiet_step (first | exact Calls.regrown_of (V5 _ _ _) | exact Calls.regrown_of (Xh _ _ _ _ _) | exact Calls.regrown_of (Uw (uh HF) ((uh Hip).below (below_regrown _ _ _)))))
       refine wpQuiet_nil ?_
       intro _ hw'
       obtain ⟨⟨dq,osq⟩,hw''⟩:=hw'
       subst hw''
       go_wp2_with fail
       go_roundw
       case rel=>exact ⟨k+1,by omega,by go_num,Yu (uh Hst) (C8 hz (uh Hp) (uh Hq) hpb hab (by rw [uh HF];omega)),(uh Hb).trans (((Below.refl _ _).alloc (uh Hb).size _).trans ((below_regrown _ _ _).mono (by simp;have:=(uh Hb).size;omega)))⟩
       case measure=>exact ms
      ·have hF1:0<=F:=by omega
       have hF2:(F == -1)=false:=by simpa using hF0
       have hF3:(F != -1)=true:=by simpa using hF0
       clear hF0
       go_wp2_with fail
       refine wq ?_
       repeat (go_big_quiet_step (first | exact Calls.regrown_of (V5 _ _ _) | exact Calls.regrown_of (Xh _ _ _ _ _) | exact Calls.regrown_of (Uw (uh HF) ((uh Hip).below (below_regrown _ _ _)))))
       refine wpQuiet_nil ?_
       intro _ hw'
       obtain ⟨⟨dq,osq⟩,hw''⟩:=hw'
       subst hw''
       go_wp2_with fail
       go_ret
       exact ⟨Z5 (OP hlt (C7 (uh Hp) (by rw [uh HF];exact hF1))).symm,(uh Hb).trans (((Below.refl _ _).alloc (uh Hb).size _).trans ((below_regrown _ _ _).mono (by simp;have:=(uh Hb).size;omega)))⟩
    ·obtain rfl:k=0:=by omega
     obtain rfl:F= -1:=by simp at hFb;omega
     simp only [Nat.zero_mul,Nat.add_zero] at c0 c1 k0 k1
     clear hcl hz
     go_wp2_with fail
     refine wq ?_
     repeat (go_big_quiet_step (first | exact Calls.regrown_of (V5 _ _ _) | exact Calls.regrown_of (Xh _ _ _ _ _) | exact Calls.regrown_of (Uw (uh HF) ((uh Hip).below (below_regrown _ _ _)))))
     refine wpQuiet_nil ?_
     intro _ hw'
     obtain ⟨⟨dq,osq⟩,hw''⟩:=hw'
     subst hw''
     go_wp2_with fail
     go_roundw
     case rel=>exact ⟨1,by omega,by go_num,Yu (uh Hst) (C4 (uh Hp) hpb),(uh Hb).trans (((Below.refl _ _).alloc (uh Hb).size _).trans ((below_regrown _ _ _).mono (by simp;have:=(uh Hb).size;omega)))⟩
     case measure=>exact ms
  ·obtain rfl:k=ps.length:=by omega
   go_wp2_with fail
   go_ret
   exact ⟨Z5 (Kz (by omega) (uh Hst)).symm,hb⟩
def Bk (n₀:Nat) (r:List Z4 × Bool) (e:Ending) (w':World):Prop:= ∃ v',e= .returned (.tuple #[v',.bool r.2])/\EntsAt n₀ w' v' r.1
theorem Iy {ps:List Z4} {e:Z4} (h:YJ ps=false):Ub ps e=([],false):=by unfold Ub;rw [h];rfl
theorem Np {ps:List Z4} {e:Z4} (h:YJ ps=true) (h2:YJ (U5 ps e)=false):Ub ps e=(ps,false):=by unfold Ub;rw [h,h2];rfl
theorem Ql {ps:List Z4} {e:Z4} (h:YJ ps=true) (h2:YJ (U5 ps e)=true):Ub ps e=(U5 ps e,true):=by unfold Ub;rw [h,h2];rfl
theorem On {w:World} {v:Value} {ps:List Z4} (f z:Int) (h:IsPaces w v ps) :
  Calls Tryz.prog 256 #[v,.agg #[.int .i64 f,.int .i64 z]] w fun e w'=>Bk w.heap.size (Ub ps (f,z)) e w'/\Below w.heap.size w w':=by
 have Hv:=Z9 h
 obtain ⟨a,cap,rfl,hc,hm,hr⟩:=h
 clear hr
 cases hq:YJ ps
 ·rw [Iy hq]
  go_enter Tryz.func256,Tryz.ntmps256
  go_wp2_with fail
  refine (Yw ((uh Hv).below ((ba _ _)))).mono ?_
  rw [hq]
  rintro e w1 ⟨rfl,hb1⟩
  have B1:Hid (Below w.heap.size w w1):=Z9 (((ba _ _)).trans (hb1.mono (by simp)))
  clear hb1
  go_wp2_with fail
  go_ret2
  exact ⟨⟨_,rfl,Wi rfl (uh B1).size⟩,(uh B1).alloc (uh B1).size _⟩
 ·have hQ:=BS hq
  have hlen:=hQ.len
  have HQ:=Z9 hQ
  clear hQ
  go_enter Tryz.func256,Tryz.ntmps256
  go_wp2_with fail
  refine (Yw ((uh Hv).below ((ba _ _)))).mono ?_
  rw [hq]
  rintro e w1 ⟨rfl,hb1⟩
  have hz1:w.heap.size+1<=w1.heap.size:=by have:=hb1.size;simpa using this
  have c0:w1.cell? ⟨w.heap.size,0,none⟩=some (.int .i64 f):=(hb1.cell (p:=⟨w.heap.size,0,none⟩) (by simp)).trans (by simp)
  have c1:w1.cell? ⟨w.heap.size,1,none⟩=some (.int .i64 z):=(hb1.cell (p:=⟨w.heap.size,1,none⟩) (by simp)).trans (by simp)
  have B1:Hid (Below w.heap.size w w1):=Z9 (((ba _ _)).trans (hb1.mono (by simp)))
  clear hb1
  go_wp2_with fail
  refine (GY ((uh Hv).below (uh B1)) (by omega)).mono ?_
  rintro e w2 ⟨bx,v2,rfl,hbx,hh2,hb2⟩
  have hlt1:w.heap.size<w1.heap.size:=by omega
  have d0:=(hb2.cell (p:=⟨w.heap.size,0,none⟩) hlt1).trans c0
  have d1:=(hb2.cell (p:=⟨w.heap.size,1,none⟩) hlt1).trans c1
  have hz2:=hb2.size
  have H2:=Z9 hh2
  have B2:Hid (Below w.heap.size w w2):=Z9 ((uh B1).trans (hb2.mono (by omega)))
  clear hb2 hh2 c0 c1
  go_wp2_with fail
  refine (LR f z (uh H2) (D8 (uh HQ).ris) (by omega) hbx hz2).mono ?_
  rintro e w3 ⟨rfl,v3,hs,hh3,hto3,hpe3,hb3⟩
  have hz3:=hb3.size
  have hsl:hs.length=ps.length+1:=by have:=hpe3.length_eq;simpa using this
  have H3:=Z9 hh3
  have T3:=Z9 hto3
  have P3:=Z9 hpe3
  have B3:Hid (Below w.heap.size w w3):=Z9 ((uh B2).trans (hb3.mono (by omega)))
  clear hb3 hh3 hto3 hpe3 d0 d1
  go_wp2_with fail
  refine (Jw (uh H3) (uh T3) (by omega) hbx (by omega)).mono ?_
  rintro e w4 ⟨v4,qs,rfl,hi4,hris4,hpe4,hb4⟩
  obtain rfl:qs=U5 ps (f,z):=IH (uh HQ) hris4 (hpe4.trans (uh P3))
  have hz4:=hb4.size
  obtain ⟨a4,cap4,rfl⟩:=hi4.shape
  have H4:=Z9 hi4
  have B4:Hid (Below w.heap.size w w4):=Z9 ((uh B3).trans (hb4.mono (by omega)))
  clear hi4 hris4 hpe4 hb4 H2 H3 T3 P3
  go_wp2_with fail
  refine (Yw (uh H4).paces).mono ?_
  cases hq2:YJ (U5 ps (f,z))
  ·rintro e w5 ⟨rfl,hb5⟩
   have B5:Hid (Below w.heap.size w w5):=Z9 ((uh B4).trans (hb5.mono (by omega)))
   clear hb5
   go_wp2_with fail
   refine (NZ ((uh Hv).below (uh B5)) (by omega)).mono ?_
   rintro e w6 ⟨v6,rfl,hi6,hb6⟩
   obtain ⟨a6,cap6,rfl⟩:=hi6.shape
   have H6:=Z9 hi6
   have B6:Hid (Below w.heap.size w w6):=Z9 ((uh B5).trans (hb6.mono (uh B5).size))
   clear hi6 hb6
   go_wp2_with fail
   go_ret2
   rw [Np hq hq2]
   exact ⟨⟨_,rfl,(uh H6).mono (uh B5).size⟩,uh B6⟩
  ·rintro e w5 ⟨rfl,hb5⟩
   have H5:=Z9 ((uh H4).later hb5)
   have B5:Hid (Below w.heap.size w w5):=Z9 ((uh B4).trans (hb5.mono (by omega)))
   clear hb5
   go_wp2_with fail
   go_ret2
   rw [Ql hq hq2]
   exact ⟨⟨_,rfl,(uh H5).mono (by omega)⟩,uh B5⟩
set_option maxRecDepth 100000
theorem EB {m:Z6} {b:Int} {k:Nat} (hk:k<(ZS (atB b) m.smiths m.smiths.length).length):∃ i:Nat,i<m.smiths.length/\Z8 (ZS (atB b) m.smiths m.smiths.length) k=(i:Int):=by
 obtain ⟨i,hi,e,_⟩:=(WT (atB b) m.smiths _ m.smiths.length).1 (SO hk)
 exact ⟨i,hi,e⟩
theorem Iv {w:World} {v0 v1 v2 v3 v4:Value} {m M:Z6} (b:Int) (h:Smy w v0 v1 v2 v3 v4 m) (hL:Loose M) (hM:M.smiths=m.smiths):Calls Tryz.prog 204 #[.agg #[v0,v1,v2,v3,v4,.int .i64 m.now],.int .i64 b] w fun e w'=> ∃ v',e= .returned v'/\EntsAt w.heap.size w' v' (atV m.smiths b m.smiths.length)/\Below w.heap.size w w':=by
 have Hv:=Z9 ((h.alloc (.cells #[v0,v1,v2,v3,v4,.int .i64 m.now] 32)).alloc (.cells #[] 151))
 have HV0:=Z9 h
 obtain ⟨a0,p0,a1,p1,a2,p2,a3,p3,a4,p4,rfl,rfl,rfl,rfl,rfl,_,_,_,_,_,_,_,_,_,_⟩:=h.five
 clear h
 have hl:m.smiths.length<=1000:=by rw [<-hM];have:=(XE hL).smiths;omega
 have HL:Hid (∀ k,YJ (WH m.smiths ((ZS (atB b) m.smiths m.smiths.length).take k))=true):=Z9 (fun k=>by have:=Is hL b k;rw [hM] at this;exact this)
 clear hL hM
 have kb:Hid (Blk ((w.alloc (.cells (S6 a0 p0 a1 p1 a2 p2 a3 p3 a4 p4 m) 32)).alloc (.cells #[] 151)) w.heap.size 32 (S6 a0 p0 a1 p1 a2 p2 a3 p3 a4 p4 m)):=Z9 ((Blk.new w _ _).alloc _)
 have BB:Hid (Below w.heap.size w ((w.alloc (.cells (S6 a0 p0 a1 p1 a2 p2 a3 p3 a4 p4 m) 32)).alloc (.cells #[] 151))):=Z9 (((ba _ _)).alloc (by simp) _)
 have HE:Hid (EntsAt w.heap.size ((w.alloc (.cells (S6 a0 p0 a1 p1 a2 p2 a3 p3 a4 p4 m) 32)).alloc (.cells #[] 151)) (.slice (some ⟨w.heap.size+1,0,none⟩) 0 0) []):=Z9 (Wi (by simp) (by simp))
 go_enter Tryz.func204,Tryz.ntmps204
 go_upto_region 2 with fail
 generalize (w.alloc (.cells (S6 a0 p0 a1 p1 a2 p2 a3 p3 a4 p4 m) 32)).alloc (.cells #[] 151)=W at *
 obtain ⟨c0,c1,c2,c3,c4,c5⟩:=(uh kb).c6
 go_wp2_with fail
 refine (Qt b (uh Hv) hl).mono ?_
 rintro e w1 ⟨vn,rfl,hn,hb⟩
 obtain ⟨na,nc,rfl⟩:=RecAt.shape hn
 have HN0:=Z9 (RecAt.mono hn (uh BB).size)
 have Hv1:=Z9 ((uh Hv).below hb)
 have kb1:=Z9 ((uh kb).below hb (uh kb).lt)
 have BB1:=Z9 ((uh BB).trans (hb.mono (uh BB).size))
 have HE1:=Z9 ((uh HE).later hb)
 clear hb hn c0 c1 c2 c3 c4 c5 Hv kb BB HE
 have Hq:=Z9 (Se m.smiths b m.smiths.length)
 have Hwh:=Z9 (fun k hk=>EB (m:=m) (b:=b) (k:=k) hk)
 have Hpq:=HL
 clear HL
 have hwl:=Wb (atB b) m.smiths m.smiths.length
 generalize ZS (atB b) m.smiths m.smiths.length=ws at *
 go_wp2_with fail
 go_loopw [5,13] (fun l i wr=> ∃ k:Nat,k<=ws.length/\i= .int .i64 k/\EntsAt w.heap.size wr l (WH m.smiths (ws.take k))/\NumsAt w.heap.size wr (.slice na ws.length nc) ws/\Blk wr w.heap.size 32 (S6 a0 p0 a1 p1 a2 p2 a3 p3 a4 p4 m)/\Smy wr (.slice a0 m.rooms.length p0) (.slice a1 m.guilds.length p1) (.slice a2 m.smiths.length p2) (.slice a3 m.desks.length p3) (.slice a4 m.paces.length p4) m/\Below w.heap.size w wr) (fun _ i _=>ws.length-(intOf i).toNat)
 case atStart=>exact ⟨0,Nat.zero_le _,rfl,uh HE1,uh HN0,uh kb1,uh Hv1,uh BB1⟩
 case round=>
  obtain ⟨k,hk,rfl,he,hn,hkb,hv,hb0⟩:=hrel
  obtain ⟨la,lc,rfl⟩:=EntsAt.shape he
  have HE:=Z9 he
  have HN:=Z9 hn
  have kb:=Z9 hkb
  have Hv:=Z9 hv
  have BB:=Z9 hb0
  clear he hn hkb hv hb0 HE1 HN0 kb1 Hv1 BB1
  by_cases hlt:k<ws.length
  ·have hlt1:(k:Int)<(ws.length:Int):=by omega
   obtain ⟨g,hga,_,_,hcl,_⟩:=RecAt.view YH (by omega) (uh HN) rfl (by omega)
   cases hga
   have z0:=hcl k hlt 0 _ rfl
   simp only [Nat.mul_one,Nat.add_zero] at z0
   obtain ⟨i,hi,hiw⟩:=uh Hwh k hlt
   rw [hiw] at z0
   have hi1:(i:Int)<(m.smiths.length:Int):=by omega
   obtain ⟨_,_,hse,_,_,r2⟩:=(uh Hv).smiths
   cases hse
   rcases r2 with e0 | ⟨sb,off,rfl,hbw,hcs⟩
   ·rw [e0] at hi;simp at hi
   obtain ⟨_,_,_,_,_,_,_,d7,_⟩:=ZB hcs hi
   have HT:Hid (WH m.smiths (ws.take (k+1))=U5 (WH m.smiths (ws.take k)) (XL (Z8 m.smiths i),(i:Int))):=Z9 (by rw [Mi hlt,RI,hiw];simp)
   have hq1:=uh Hpq k
   have hq2:=uh Hpq (k+1)
   rw [uh HT] at hq2
   have HQ:=Z9 (Ql hq1 hq2)
   clear hcl hcs hq1 hq2
   have e7:(Z8 m.smiths i).2.2.2.2.2.2.2.1=XL (Z8 m.smiths i):=rfl
   rw [e7] at d7
   clear e7
   generalize XL (Z8 m.smiths i)=hd at *
   have c2:=(uh kb).cell (i:=2) (v:= .slice (some ⟨sb,off,none⟩) m.smiths.length p2) rfl
   go_wp2_with fail
   refine (On hd (i:Int) (uh HE).paces).mono ?_
   rw [uh HQ]
   rintro e w2 ⟨⟨v',rfl,he⟩,hb⟩
   obtain ⟨ua,uc,rfl⟩:=EntsAt.shape he
   have HE2:=Z9 (he.mono (uh BB).size)
   replace HN:=Z9 (RecAt.later (uh HN) hb)
   replace kb:=bl kb hb
   replace Hv:=Z9 ((uh Hv).below hb)
   replace BB:=bt BB hb
   clear hb he c2 d7 z0
   go_wp2_with fail
   go_roundw
   case rel=>exact ⟨k+1,by omega,by go_num,by rw [uh HT];exact uh HE2,uh HN,uh kb,uh Hv,uh BB⟩
   case measure=>exact ms
  ·obtain rfl:k=ws.length:=by omega
   have HE3:Hid (EntsAt w.heap.size wr (.slice la (WH m.smiths (ws.take ws.length)).length lc) (atV m.smiths b m.smiths.length)):=Z9 (by
    have h9:=uh HE
    have e9:WH m.smiths (ws.take ws.length)=atV m.smiths b m.smiths.length:=by rw [List.take_length,uh Hq]
    rw [<-e9]
    exact h9)
   go_wp2_with fail
   go_ret
   exact ⟨_,rfl,uh HE3,uh BB⟩
theorem Ky {w:World} {v0 v1 v2 v3 v4:Value} {m:Z6} (b:Int) (h:Smy w v0 v1 v2 v3 v4 m) (hL:Loose m):Calls Tryz.prog 204 #[.agg #[v0,v1,v2,v3,v4,.int .i64 m.now],.int .i64 b] w fun e w'=> ∃ v',e= .returned v'/\EntsAt w.heap.size w' v' (atV m.smiths b m.smiths.length)/\Below w.heap.size w w':=Iv b h hL rfl
open Go.ChangeShapes Go.WideShapes Go.ChangeAt Go.RowKit Go.Sort Go.Shelf
set_option linter.unusedSimpArgs false
set_option maxRecDepth 100000
section
variable {F G : Nat → TypeId → Array Value → Prop} {w W : World} {R : Nat} {v0 v1 v2 v3 v4 : Value} {m : Z6} {qs : List (Z2 × Value)}
theorem Ny.more (h:Ny F w W R v0 v1 v2 v3 v4 m qs) (hG:∀ k t cs,G k t cs->Blk W k t cs/\k ≠ R/\ ¬ Xb v0 v1 v2 v3 v4 qs k):Ny (fun k t cs=>F k t cs\/G k t cs) w W R v0 v1 v2 v3 v4 m qs:=⟨h.nx,fun k t cs e=>e.elim (h.fx k t cs) (hG k t cs)⟩
theorem Ny.less (h:Ny F w W R v0 v1 v2 v3 v4 m qs) (hG:∀ k t cs,G k t cs->F k t cs):Ny G w W R v0 v1 v2 v3 v4 m qs:=⟨h.nx,fun k t cs e=>h.fx k t cs (hG k t cs e)⟩
theorem Ny.new (h:Ny F w W R v0 v1 v2 v3 v4 m qs) (t:TypeId) (cs:Array Value):Ny (fun k t' cs'=>F k t' cs'\/(k=W.heap.size/\t'=t/\cs'=cs)) w (W.alloc (.cells cs t)) R v0 v1 v2 v3 v4 m qs:=by
 have hR:=h.blk.lt
 refine (h.next ((ba _ _))).more fun k t' cs' e=> ?_
 obtain ⟨rfl,rfl,rfl⟩:=e
 exact ⟨Blk.new _ _ _,by omega,fun ho=>by have:=(h.full.own ho).2;omega⟩
end
def Bl (m:Z6) (n:Int) (j:Nat) (x:Z6):Prop:=
 (j=0/\m=x)\/(j=1/\inB n 1 20=true/\m=x)\/(j=2/\inB n 1 20=true/\ ∃ ss,Ch m n m.desks.length ss/\x={ m with smiths:=ss })\/(j=3/\inB n 1 20=true/\ ∃ ss,Fd m n m.smiths.length ss/\x={ m with smiths:=ss })\/(j=4/\inB n 1 20=true/\ ∃ ss,Fd m n m.smiths.length ss/\x=XT m n ss)\/(j=5/\inB n 1 20=true/\ ∃ ss,Fd m n m.smiths.length ss/\Ze (XT m n ss)=true/\x=XT m n ss)
theorem FG {m:Z6} {n:Int} (h:inB n 1 20=false):Ww m n=3:=by unfold Ww;rw [h];rfl
theorem IM {m:Z6} {n:Int} (h:inB n 1 20=true) (ht:Zs m n m.smiths.length=none):Ww m n=4:=by unfold Ww;rw [h,ht];rfl
theorem Ph {m:Z6} {n:Int} (h:inB n 1 20=true) {ss:List Z3} (ht:Zs m n m.smiths.length=some ss) {q:Bool} (hq:Ze (XT m n ss)=q):Ww m n=if q then 0 else 4:=by unfold Ww;rw [h,ht];simp only [if_true];rw [hq]
theorem IN {m:Z6} {n:Int} {ss:List Z3} (ht:Zs m n m.smiths.length=some ss):VU m n=XT m n ss:=by unfold VU;rw [ht]
theorem FE {w:World} {q:Int->Addr} (he:Errs w q):Calls Tryz.prog 97 #[] w fun e w'=>e= .returned (.slice (some ⟨w.heap.size,0,none⟩) 5 5)/\w'=w.alloc (.cells #[.func (Fn.func 154) #[] #[],Zv (q 3),.func (Fn.func 155) #[] #[],Zv (q 4),.func (Fn.func 156) #[] #[],Zv (q 4),.func (Fn.func 157) #[] #[],Zv (q 4),.func (Fn.func 158) #[] #[],Zv (q 4)] 132):=by
 have x3:=he.c3
 have x4:=he.c4
 clear he
 go_enter Tryz.func97,Tryz.ntmps97
 go_wp2_with fail
 go_ret
 exact ⟨rfl,rfl⟩
theorem It {w W:World} {R:Nat} {v0 v1 v2 v3 v4:Value} {m:Z6} {qs:List (Z2 × Value)} {q:Int->Addr} (K:Nx w W R v0 v1 v2 v3 v4 m qs) (he:Errs w q) (hm:ZO m=true) (n:Int):Calls Tryz.prog 37 #[.pointer (some ⟨R,0,none⟩),.int .i64 n] W fun e W'=>Chg w R q (VU m n) (Ww m n) e W':=by
 have HM:=Z9 hm
 have HE:=Z9 he
 have hnow:0<=m.now/\m.now<=1000000:=by
  have hd:=(ZT hm).head
  unfold YY at hd
  simp only [Bool.and_eq_true,decide_eq_true_eq] at hd
  exact ZU hd.2.2.2.2.2
 obtain ⟨hnow0,hnow1⟩:=hnow
 clear hm he
 go_enter Tryz.func37,Tryz.ntmps37
 go_wp2_with fail
 refine ck (FE ((uh HE).below K.bb)) fun w1 hw1=> ?_
 subst hw1
 have K0:=(Ny.of K).new 132 #[.func (Fn.func 154) #[] #[],Zv (q 3),.func (Fn.func 155) #[] #[],Zv (q 4),.func (Fn.func 156) #[] #[],Zv (q 4),.func (Fn.func 157) #[] #[],Zv (q 4),.func (Fn.func 158) #[] #[],Zv (q 4)]
 replace K0:Hid (Ny (fun k t cs=>k=W.heap.size/\t=132/\cs=#[.func (Fn.func 154) #[] #[],Zv (q 3),.func (Fn.func 155) #[] #[],Zv (q 4),.func (Fn.func 156) #[] #[],Zv (q 4),.func (Fn.func 157) #[] #[],Zv (q 4),.func (Fn.func 158) #[] #[],Zv (q 4)]) w (W.alloc (.cells #[.func (Fn.func 154) #[] #[],Zv (q 3),.func (Fn.func 155) #[] #[],Zv (q 4),.func (Fn.func 156) #[] #[],Zv (q 4),.func (Fn.func 157) #[] #[],Zv (q 4),.func (Fn.func 158) #[] #[],Zv (q 4)] 132)) R v0 v1 v2 v3 v4 m qs):=Z9 (K0.less fun k t cs e=> .inr e)
 clear K
 generalize W.alloc (.cells #[.func (Fn.func 154) #[] #[],Zv (q 3),.func (Fn.func 155) #[] #[],Zv (q 4),.func (Fn.func 156) #[] #[],Zv (q 4),.func (Fn.func 157) #[] #[],Zv (q 4),.func (Fn.func 158) #[] #[],Zv (q 4)] 132)=W1 at *
 generalize W.heap.size=sb at *
 go_wp2_with fail
 go_loopw [9] (fun i wr=> ∃ (j:Nat) (x:Z6),i= .int .i64 j/\Bl m n j x/\Ny (fun k t cs=>k=sb/\t=132/\cs=#[.func (Fn.func 154) #[] #[],Zv (q 3),.func (Fn.func 155) #[] #[],Zv (q 4),.func (Fn.func 156) #[] #[],Zv (q 4),.func (Fn.func 157) #[] #[],Zv (q 4),.func (Fn.func 158) #[] #[],Zv (q 4)]) w wr R v0 v1 v2 v3 v4 x qs) (fun i _=>5-(intOf i).toNat)
 case atStart=>exact ⟨0,m,rfl,.inl ⟨rfl,rfl⟩,uh K0⟩
 case round=>
  clear K0
  obtain ⟨j,x,rfl,hst,K⟩:=hrel
  have kb:=Z9 (K.fx sb _ _ ⟨rfl,rfl,rfl⟩).1
  rcases hst with ⟨rfl,rfl⟩ | ⟨rfl,hn,rfl⟩ | ⟨rfl,hn,ss,hch,rfl⟩ | ⟨rfl,hn,ss,hfd,rfl⟩ | ⟨rfl,hn,ss,hfd,rfl⟩ | ⟨rfl,hn,ss,hfd,hl,rfl⟩
  ·have d0:=(uh kb).cell (i:=0) (v:= .func (Fn.func 154) #[] #[]) rfl
   have d1:=(uh kb).cell (i:=1) (v:=Zv (q 3)) rfl
   go_upto_region 4 with fail
   have KS:=K.new 132 #[.func (Fn.func 154) #[] #[],Zv (q 3)]
   have ks:=(KS.fx _ _ _ (.inr ⟨rfl,rfl,rfl⟩)).1
   clear d0 d1 kb K
   generalize wr.alloc (.cells #[.func (Fn.func 154) #[] #[],Zv (q 3)] 132)=W2 at *
   generalize wr.heap.size=sv at *
   have e0:=ks.cell (i:=0) (v:= .func (Fn.func 154) #[] #[]) rfl
   clear ks
   obtain ⟨qn,hqn⟩:∃ b,inB n 1 20=b:=⟨_,rfl⟩
   have Hqn:=Z9 hqn
   clear hqn
   go_wp2_with fail
   refine (Ji n _ _).mono ?_
   rw [uh Hqn]
   rintro e w5 ⟨rfl,hw5⟩
   subst hw5
   clear e0
   cases qn
   ·have hcd:=FG (m:=m) (uh Hqn)
    have e1:=(KS.fb _ _ _ (.inr ⟨rfl,rfl,rfl⟩)).cell (i:=1) (v:=Zv (q 3)) rfl
    have Hcd:=Z9 hcd
    clear hcd
    go_wp2_with fail
    go_ret
    exact Chg.no KS.bb (uh Hcd) (by omega)
   ·go_wp2_with fail
    go_roundw
    case rel=>exact ⟨1,_,by go_num,.inr (.inl ⟨rfl,uh Hqn,rfl⟩),KS.less fun k t cs e=> .inl e⟩
    case measure=>simp [intOf]
  ·have d0:=(uh kb).cell (i:=2) (v:= .func (Fn.func 155) #[] #[]) rfl
   have d1:=(uh kb).cell (i:=3) (v:=Zv (q 4)) rfl
   go_upto_region 4 with fail
   have KS:=K.new 132 #[.func (Fn.func 155) #[] #[],Zv (q 4)]
   have ks:=(KS.fx _ _ _ (.inr ⟨rfl,rfl,rfl⟩)).1
   clear d0 d1 kb K
   generalize wr.alloc (.cells #[.func (Fn.func 155) #[] #[],Zv (q 4)] 132)=W2 at *
   generalize wr.heap.size=sv at *
   have e0:=ks.cell (i:=0) (v:= .func (Fn.func 155) #[] #[]) rfl
   clear ks
   have Hn:=Z9 hn
   clear hn
   go_wp2_with fail
   refine (Rp KS (uh HM) (uh Hn)).mono ?_
   rintro e w5 ⟨hb5,hF5,⟨rfl,ss,hch,K5⟩ | ⟨rfl,htn⟩⟩
   ·have Hch:=Z9 hch
    clear hch e0 KS hb5 hF5
    go_wp2_with fail
    go_roundw
    case rel=>exact ⟨2,_,by go_num,.inr (.inr (.inl ⟨rfl,uh Hn,ss,uh Hch,rfl⟩)),K5.less fun k t cs e=> .inl e⟩
    case measure=>simp [intOf]
   ·have hcd:=IM (uh Hn) htn
    clear e0 KS htn
    have e1:=(hF5 _ _ _ (.inr ⟨rfl,rfl,rfl⟩)).cell (i:=1) (v:=Zv (q 4)) rfl
    have Hcd:=Z9 hcd
    clear hcd
    go_wp2_with fail
    go_ret
    exact Chg.no hb5 (uh Hcd) (by omega)
  ·have d0:=(uh kb).cell (i:=4) (v:= .func (Fn.func 156) #[] #[]) rfl
   have d1:=(uh kb).cell (i:=5) (v:=Zv (q 4)) rfl
   go_upto_region 4 with fail
   have KS:=K.new 132 #[.func (Fn.func 156) #[] #[],Zv (q 4)]
   have ks:=(KS.fx _ _ _ (.inr ⟨rfl,rfl,rfl⟩)).1
   clear d0 d1 kb K
   generalize wr.alloc (.cells #[.func (Fn.func 156) #[] #[],Zv (q 4)] 132)=W2 at *
   generalize wr.heap.size=sv at *
   have e0:=ks.cell (i:=0) (v:= .func (Fn.func 156) #[] #[]) rfl
   clear ks
   have Hn:=Z9 hn
   have Hz:=Z9 (CN (uh HM) hch)
   clear hn hch
   go_wp2_with fail
   refine (Jz KS (uh HM) (uh Hn) (uh Hz)).mono ?_
   rintro e w5 ⟨rfl,ts,hfd,K5⟩
   have Hfd:=Z9 hfd
   clear hfd e0 KS Hz
   go_wp2_with fail
   go_roundw
   case rel=>exact ⟨3,_,by go_num,.inr (.inr (.inr (.inl ⟨rfl,uh Hn,ts,uh Hfd,rfl⟩))),K5.less fun k t cs e=> .inl e⟩
   case measure=>simp [intOf]
  ·have d0:=(uh kb).cell (i:=6) (v:= .func (Fn.func 157) #[] #[]) rfl
   have d1:=(uh kb).cell (i:=7) (v:=Zv (q 4)) rfl
   go_upto_region 4 with fail
   have KS:=K.new 132 #[.func (Fn.func 157) #[] #[],Zv (q 4)]
   have ks:=(KS.fx _ _ _ (.inr ⟨rfl,rfl,rfl⟩)).1
   clear d0 d1 kb K
   generalize wr.alloc (.cells #[.func (Fn.func 157) #[] #[],Zv (q 4)] 132)=W2 at *
   generalize wr.heap.size=sv at *
   have e0:=ks.cell (i:=0) (v:= .func (Fn.func 157) #[] #[]) rfl
   clear ks
   have Hn:=Z9 hn
   have Hfd:=Z9 hfd
   clear hn hfd
   go_wp2_with fail
   refine ck (Nd KS hnow0 hnow1 (uh Hn)) fun w5 K5=> ?_
   clear e0 KS
   go_wp2_with fail
   go_roundw
   case rel=>exact ⟨4,_,by go_num,.inr (.inr (.inr (.inr (.inl ⟨rfl,uh Hn,ss,uh Hfd,rfl⟩)))),K5.less fun k t cs e=> .inl e⟩
   case measure=>simp [intOf]
  ·have d0:=(uh kb).cell (i:=8) (v:= .func (Fn.func 158) #[] #[]) rfl
   have d1:=(uh kb).cell (i:=9) (v:=Zv (q 4)) rfl
   go_upto_region 4 with fail
   have KS:=K.new 132 #[.func (Fn.func 158) #[] #[],Zv (q 4)]
   have ks:=(KS.fx _ _ _ (.inr ⟨rfl,rfl,rfl⟩)).1
   clear d0 d1 kb K
   generalize wr.alloc (.cells #[.func (Fn.func 158) #[] #[],Zv (q 4)] 132)=W2 at *
   generalize wr.heap.size=sv at *
   have e0:=ks.cell (i:=0) (v:= .func (Fn.func 158) #[] #[]) rfl
   clear ks
   have Hn:=Z9 hn
   have Hfd:=Z9 hfd
   clear hn hfd
   obtain ⟨ql,hql⟩:∃ b,Ze (XT m n ss)=b:=⟨_,rfl⟩
   have Hql:=Z9 hql
   clear hql
   go_wp2_with fail
   refine ck (Nj KS _ (uh Hql)) fun w5 K5=> ?_
   clear e0 KS
   cases ql
   ·have hcd:=Ph (uh Hn) (LK (uh HM) (uh Hn) (uh Hfd)) (uh Hql)
    replace hcd:Ww m n=4:=hcd
    have e1:=(K5.fb _ _ _ (.inr ⟨rfl,rfl,rfl⟩)).cell (i:=1) (v:=Zv (q 4)) rfl
    have Hcd:=Z9 hcd
    clear hcd
    go_wp2_with fail
    go_ret
    exact Chg.no K5.bb (uh Hcd) (by omega)
   ·go_wp2_with fail
    go_roundw
    case rel=>exact ⟨5,_,by go_num,.inr (.inr (.inr (.inr (.inr ⟨rfl,uh Hn,ss,uh Hfd,uh Hql,rfl⟩)))),K5.less fun k t cs e=> .inl e⟩
    case measure=>simp [intOf]
  ·have hc0:=Ph hn (LK (uh HM) hn hfd) hl
   have hx0:=IN (LK (uh HM) hn hfd)
   have Hc0:=Z9 hc0
   have Hx0:=Z9 hx0
   clear hc0 hx0 hfd hl hn kb
   go_wp2_with fail
   go_ret
   exact Chg.yes K.nx (uh Hc0) (uh Hx0)
end Go.Proofs.YtffcgajndmhpkaaGreatDoor
