/- Part 33 of what the proof rests on. No condition but those that a theorem names. -/
import Derived.Test.YtjhijildaceadaaGreatDoorXa30
import Derived.Test.YtjhijildaceadaaGreatDoorXa32
set_option maxHeartbeats 8000000
set_option maxRecDepth 100000
namespace Go.Proofs.YtjhijildaceadaaGreatDoor
open Go.ChangeShapes Go.WideShapes Go.ChangeAt Go.RowKit Go.Sort Go.Shelf
set_option linter.unusedVariables false
set_option linter.unusedSimpArgs false
set_option maxRecDepth 100000
attribute [local go_sem] Ll B7
theorem Ow {w:World} {v:Value} {n0:Nat} {us:List YX} (h:YZ n0 w v us) (hl:us.length<=1000):Calls Tryz.prog 218 #[v] w fun e w'=>e= .returned (.int .i64 (Ta us).1)/\Below w.heap.size w w':=by
 obtain ⟨ua,uc,rfl⟩:=RecAt.shape h
 have H0:=Z9 h
 clear h
 go_enter Tryz.func218,Tryz.ntmps218
 go_wp2_with fail
 go_loopw [3,4,9] (fun c t i wr=> ∃ j:Nat,j<=us.length/\i= .int .i64 j/\c= .int .i64 (Ta (us.take j)).1/\t= .int .i64 (Ta (us.take j)).2/\Below w.heap.size w wr) (fun _ _ i _=>us.length-(intOf i).toNat)
 case atStart=>exact ⟨0,Nat.zero_le _,rfl,rfl,rfl,Below.refl _ _⟩
 case round=>
  obtain ⟨j,hj,rfl,rfl,rfl,hb⟩:=hrel
  have HU:=Z9 (RecAt.later (uh H0) hb)
  have BB:=Z9 hb
  clear hb
  by_cases hlt:j<us.length
  ·have hlt1:(j:Int)<(us.length:Int):=by omega
   have HR:=Z9 (EN hlt)
   generalize hcm:Ta (us.take j)=cm at *
   clear hcm
   obtain ⟨ch,mo⟩:=cm
   obtain ⟨g,rfl,hgl,hgw,hcl,_⟩:=RecAt.view WY (by omega) (uh HU) rfl (by omega)
   have z0:=TE hcl hlt
   clear hcl
   generalize hx:Z8 us j=x at *
   clear hx
   obtain ⟨bx,ux,fx⟩:=x
   simp only at z0
   unfold Rc at HR
   simp only at HR ⊢
   by_cases h1:ch= -1
   ·subst h1
    rw [if_pos (.inl rfl)] at HR
    go_upto_region 6 with fail
    go_wp2_with (first | (go_at_call 434;refine (Su _ _ _ _).mono ?_;rintro e w1 ⟨rfl,hb⟩;replace BB:=bt BB hb;clear hb) | (go_at_call 435;refine (Mp _ _ _ _).mono ?_;rintro e w2 ⟨rfl,hb⟩;replace BB:=bt BB hb;clear hb))
    go_roundw
    case rel=>exact ⟨j+1,by omega,by go_num,by rw [uh HR],by rw [uh HR],uh BB⟩
    case measure=>simp [intOf];omega
   ·have h1b:(ch == -1)=false:=beq_eq_false_iff_ne.mpr h1
    obtain ⟨sp,hsp⟩:∃ x,Yt ux fx=x:=⟨_,rfl⟩
    have HSP:=Z9 (fun X=>Calls.int_of (Mp bx ux fx X) hsp)
    rw [hsp] at HR
    clear hsp
    go_upto_region 5 with fail
    go_wp2_with fail
    refine (uh HSP _).mono ?_
    rintro e w1 ⟨rfl,hb⟩
    replace BB:=bt BB hb
    clear hb
    by_cases h2:mo<sp
    ·rw [if_pos (.inr h2)] at HR
     go_upto_region 6 with fail
     go_wp2_with (first | (go_at_call 434;refine (Su _ _ _ _).mono ?_;rintro e w2 ⟨rfl,hb⟩;replace BB:=bt BB hb;clear hb) | (go_at_call 435;refine (uh HSP _).mono ?_;rintro e w3 ⟨rfl,hb⟩;replace BB:=bt BB hb;clear hb))
     go_roundw
     case rel=>exact ⟨j+1,by omega,by go_num,by rw [uh HR],by rw [uh HR],uh BB⟩
     case measure=>simp [intOf];omega
    ·rw [if_neg (not_or.2 ⟨h1,h2⟩)] at HR
     go_wp2_with fail
     go_roundw
     case rel=>exact ⟨j+1,by omega,by go_num,by rw [uh HR],by rw [uh HR],uh BB⟩
     case measure=>simp [intOf];omega
  ·obtain rfl:j=us.length:=by omega
   rw [List.take_length]
   go_wp2_with fail
   go_ret
   exact ⟨rfl,uh BB⟩
theorem O4 {w:World} {v0 v1 v2 v3 v4:Value} {m:Z4} {k n0:Nat} {v:Value} {fs:List Int} (h:Smy w v0 v1 v2 v3 v4 m) (A:Asks m k) (hf:NumsAt n0 w v fs) (hl:fs.length<=1000):Calls Tryz.prog 220 #[.agg #[v0,v1,v2,v3,v4,.int .i64 m.now],.int .i64 (k:Int),v] w fun e w'=>e= .returned (.int .i64 (Vo m (k:Int) fs).1)/\Below w.heap.size w w':=by
 obtain ⟨ua,uc,rfl⟩:=RecAt.shape hf
 have HA:=Z9 A
 have hk:=A.hk
 clear A
 have H0:=Z9 (RecAt.later hf ((Below.refl _ _).alloc (Nat.le_refl _) (.cells #[v0,v1,v2,v3,v4,.int .i64 m.now] 32)))
 clear hf
 obtain ⟨a0,p0,a1,p1,a2,p2,a3,p3,a4,p4,rfl,rfl,rfl,rfl,rfl,K⟩:=Bx.new h
 clear h
 go_enter Tryz.func220,Tryz.ntmps220
 go_wp2_with fail
 generalize w.alloc (.cells #[.slice a0 m.rooms.length p0,.slice a1 m.guilds.length p1,.slice a2 m.smiths.length p2,.slice a3 m.desks.length p3,.slice a4 m.paces.length p4,.int .i64 m.now] 32)=W at *
 go_loopw [7,8,14] (fun c t i wr=> ∃ j:Nat,j<=fs.length/\i= .int .i64 j/\c= .int .i64 (Vo m (k:Int) (fs.take j)).1/\t= .int .i64 (Vo m (k:Int) (fs.take j)).2/\Bx w wr w.heap.size a0 p0 a1 p1 a2 p2 a3 p3 a4 p4 m/\Below W.heap.size W wr) (fun _ _ i _=>fs.length-(intOf i).toNat)
 case atStart=>exact ⟨0,Nat.zero_le _,rfl,rfl,rfl,K,Below.refl _ _⟩
 case round=>
  obtain ⟨j,hj,rfl,rfl,rfl,hK,hb⟩:=hrel
  clear K
  have K:=hK
  have HU:=Z9 (RecAt.later (uh H0) hb)
  have BB:=Z9 hb
  clear hb hK
  by_cases hlt:j<fs.length
  ·have hlt1:(j:Int)<(fs.length:Int):=by omega
   have HR:=Z9 (FX (m:=m) (who:=(k:Int)) hlt)
   obtain ⟨g,rfl,hgl,hgw,hcl,_⟩:=RecAt.view X8 (by omega) (uh HU) rfl (by omega)
   have z0:=hcl j hlt 0 _ rfl
   simp only [Nat.mul_one,Nat.add_zero] at z0
   clear hcl
   generalize hx:Z8 fs j=bx at *
   clear hx
   generalize hcm:Vo m (k:Int) (fs.take j)=cm at *
   clear hcm
   obtain ⟨ch,mo⟩:=cm
   unfold XP at HR
   rw [Int.toNat_natCast] at HR
   simp only at HR ⊢
   obtain ⟨cw,hcw⟩:∃ x,ZD m (k:Int) bx=x:=⟨_,rfl⟩
   rw [hcw] at HR
   have Hcw:=Z9 hcw
   clear hcw
   obtain ⟨c0,c1,c2,c3,c4,c5⟩:=K.cells
   go_wp2_with fail
   refine (F4 (uh Hcw) K.smy (uh HA).sane (uh HA).wants hk (uh HA).hs).mono ?_
   rintro e w1 ⟨rfl,hb⟩
   replace K:=K.next hb
   replace BB:=bt BB hb
   clear hb c0 c1 c2 c3 c4 c5 z0 HU Hcw
   by_cases h1:ch= -1
   ·subst h1
    rw [if_pos (.inl rfl)] at HR
    go_wp2_with fail
    go_roundw
    case rel=>exact ⟨j+1,by omega,by go_num,by rw [uh HR],by rw [uh HR],K,uh BB⟩
    case measure=>simp [intOf];omega
   have h1b:(ch == -1)=false:=beq_eq_false_iff_ne.mpr h1
   by_cases h2:cw<mo
   ·rw [if_pos (.inr (.inl h2))] at HR
    go_wp2_with fail
    go_roundw
    case rel=>exact ⟨j+1,by omega,by go_num,by rw [uh HR],by rw [uh HR],K,uh BB⟩
    case measure=>simp [intOf];omega
   by_cases h3:cw=mo
   ·have h3b:(cw ==mo)=true:=beq_iff_eq.mpr h3
    have hk1:(k:Int)<(m.smiths.length:Int):=by omega
    obtain ⟨_,_,hse,_,_,r2⟩:=K.smy.smiths
    cases hse
    rcases r2 with e0 | ⟨sb,off,rfl,hbw,hcs⟩
    ·rw [e0] at hk;simp at hk
    obtain ⟨d0,d1,d2,d3,d4,d5,d6,d7,d8,d9,d10⟩:=ZI hcs hk
    have c2:=K.blk.cell (i:=2) (v:= .slice (some ⟨sb,off,none⟩) m.smiths.length p2) rfl
    clear hcs d0 d2 d3 d4 d5 d6 d7 d8 d9 d10
    generalize (Z8 m.smiths k).2.1=own at *
    subst h3
    clear h3b
    by_cases h4:bx=own
    ·have h4b:(bx ==own)=true:=beq_iff_eq.mpr h4
     rw [if_pos (.inr (.inr ⟨rfl,h4⟩))] at HR
     subst h4
     go_wp2_with fail
     go_roundw
     case rel=>exact ⟨j+1,by omega,by go_num,by rw [uh HR],by rw [uh HR],K,uh BB⟩
     case measure=>simp [intOf];omega
    ·have h4b:(bx ==own)=false:=beq_eq_false_iff_ne.mpr h4
     rw [if_neg (not_or.2 ⟨h1,not_or.2 ⟨h2,fun e=>h4 e.2⟩⟩)] at HR
     go_wp2_with fail
     go_roundw
     case rel=>exact ⟨j+1,by omega,by go_num,by rw [uh HR],by rw [uh HR],K,uh BB⟩
     case measure=>simp [intOf];omega
   ·have h3b:(cw ==mo)=false:=beq_eq_false_iff_ne.mpr h3
    rw [if_neg (not_or.2 ⟨h1,not_or.2 ⟨h2,fun e=>h3 e.1⟩⟩)] at HR
    go_wp2_with fail
    go_roundw
    case rel=>exact ⟨j+1,by omega,by go_num,by rw [uh HR],by rw [uh HR],K,uh BB⟩
    case measure=>simp [intOf];omega
  ·obtain rfl:j=fs.length:=by omega
   rw [List.take_length]
   go_wp2_with fail
   go_ret
   exact ⟨rfl,K.bb⟩
attribute [local go_sem] Lj
theorem Jb {w:World} {v0 v1 v2 v3 v4:Value} {m:Z4} {q:Bool} (hq:XZ m=q) (h:Smy w v0 v1 v2 v3 v4 m) (hS:Sane m) (hT:Wants m):Calls Tryz.prog 217 #[.agg #[v0,v1,v2,v3,v4,.int .i64 m.now]] w fun e w'=>e= .returned (.bool q)/\Below w.heap.size w w':=by
 have Hq2:Hid ((Yr m m.desks.length).any (fun x=>Wk x.2.1 x.2.2)=q):=Z9 ((Eh m).trans hq)
 clear hq
 have hl:=hS.few
 have h8:=hS.eight
 have hfl:=TU m m.desks.length
 have HT:=Z9 hT
 clear hT hS
 obtain ⟨a0,p0,a1,p1,a2,p2,a3,p3,a4,p4,rfl,rfl,rfl,rfl,rfl,K⟩:=Bx.new h
 clear h
 go_enter Tryz.func217,Tryz.ntmps217
 go_wp2_with fail
 generalize w.alloc (.cells #[.slice a0 m.rooms.length p0,.slice a1 m.guilds.length p1,.slice a2 m.smiths.length p2,.slice a3 m.desks.length p3,.slice a4 m.paces.length p4,.int .i64 m.now] 32)=W at *
 refine (Ro K.smy (uh HT) hl (by omega)).mono ?_
 rintro e w2 ⟨v2,rfl,hu,hb⟩
 replace K:=K.next hb
 clear hb
 generalize Yr m m.desks.length=us at *
 obtain ⟨ua,uc,rfl⟩:=RecAt.shape hu
 have H0:=Z9 hu
 clear hu
 go_wp2_with fail
 go_loopw [8] (fun i wr=> ∃ j:Nat,j<=us.length/\i= .int .i64 j/\(∀ i,i<j->(fun x:YX=>Wk x.2.1 x.2.2) (Z8 us i)=false)/\Bx w wr w.heap.size a0 p0 a1 p1 a2 p2 a3 p3 a4 p4 m/\Below w2.heap.size w2 wr) (fun i _=>us.length-(intOf i).toNat)
 case atStart=>exact ⟨0,Nat.zero_le _,rfl,fun i hi=>by omega,K,Below.refl _ _⟩
 case round=>
  obtain ⟨j,hj,rfl,hno,hK,hb⟩:=hrel
  clear K
  have K:=hK
  have HU:=Z9 (RecAt.later (uh H0) hb)
  have BB:=Z9 hb
  have Hno:=Z9 hno
  clear hb hK hno
  by_cases hlt:j<us.length
  ·have hlt1:(j:Int)<(us.length:Int):=by omega
   obtain ⟨pq,hpq⟩:∃ q,(fun x:YX=>Wk x.2.1 x.2.2) (Z8 us j)=q:=⟨_,rfl⟩
   have HY:=Z9 (fun hh:pq=true=>BV hlt (p:=(fun x:YX=>Wk x.2.1 x.2.2)) (hpq.trans hh))
   have HX:Hid (pq=false-> ∀ i,i<j+1->(fun x:YX=>Wk x.2.1 x.2.2) (Z8 us i)=false):=Z9 (fun hh i hi=>by
    by_cases e:i=j
    ·rw [e,hpq,hh]
    ·exact uh Hno i (by omega))
   have Hpq:=Z9 hpq
   clear hpq
   obtain ⟨g,rfl,hgl,hgw,hcl,_⟩:=RecAt.view WY (by omega) (uh HU) rfl (by omega)
   have z0:=TE hcl hlt
   clear hcl
   generalize hx:Z8 us j=x at *
   clear hx
   obtain ⟨bx,ux,fx⟩:=x
   simp only at z0
   go_upto_region 4 with fail
   go_wp2_with fail
   refine (Calls.bool_of (Nu _ _ _ _) (uh Hpq)).mono ?_
   rintro e w3 ⟨rfl,hb⟩
   replace K:=K.next hb
   replace BB:=bt BB hb
   clear hb z0
   cases pq
   ·go_wp2_with fail
    go_roundw
    case rel=>exact ⟨j+1,by omega,by go_num,uh HX (by trivial),K,uh BB⟩
    case measure=>simp [intOf];omega
   ·obtain rfl:q=true:=(uh Hq2).symm.trans (uh HY (by trivial))
    go_wp2_with fail
    go_ret
    exact ⟨rfl,K.bb⟩
  ·obtain rfl:j=us.length:=by omega
   obtain rfl:q=false:=(uh Hq2).symm.trans (Bb (uh Hno))
   go_wp2_with fail
   go_ret
   exact ⟨rfl,K.bb⟩
attribute [local go_sem] Ll B8
theorem CP {wn:Int} {us:List YX} {j:Nat} (hj:j<us.length) (h:Xq wn (Z8 us j)=true):((us.take (j+1)).filter (Xq wn)).map (·.1)=((us.take j).filter (Xq wn)).map (·.1)++[(Z8 us j).1]:=by rw [Np hj h,List.map_append];rfl
theorem CQ {wn:Int} {us:List YX} {j:Nat} (hj:j<us.length) (h:Xq wn (Z8 us j)=false):((us.take (j+1)).filter (Xq wn)).map (·.1)=((us.take j).filter (Xq wn)).map (·.1):=by rw [LP hj h]
theorem KW {w:World} {v0 v1 v2 v3 v4:Value} {m:Z4} {k:Nat} {q:List Int} (hq:Zp m (k:Int)=q) (h:Smy w v0 v1 v2 v3 v4 m) (A:Asks m k):Calls Tryz.prog 216 #[.agg #[v0,v1,v2,v3,v4,.int .i64 m.now],.int .i64 (k:Int)] w fun e w'=> ∃ v',e= .returned v'/\NumsAt w.heap.size w' v' q/\Below w.heap.size w w':=by
 have hq:((Wj m (k:Int) m.desks.length).filter (Xq (ZC m (k:Int)))).map (·.1)=q:=(Ls m (k:Int) m.desks.length).trans hq
 have hfl:=A.few
 have HA:=Z9 A
 have HW9:=Z9 (fun (X:World) (hX:Smy X v0 v1 v2 v3 v4 m)=>Kt hX A.wants A.hk A.hs)
 clear A
 obtain ⟨wn,hwn⟩:∃ x,ZC m (k:Int)=x:=⟨_,rfl⟩
 rw [hwn] at hq HW9
 have Hq:=Z9 hq
 clear hwn hq
 have Hs:=Z9 h
 obtain ⟨a0,p0,a1,p1,a2,p2,a3,p3,a4,p4,rfl,rfl,rfl,rfl,rfl,K⟩:=Bx.new h
 clear h
 go_enter Tryz.func216,Tryz.ntmps216
 go_wp2_with fail
 generalize w.alloc (.cells #[.slice a0 m.rooms.length p0,.slice a1 m.guilds.length p1,.slice a2 m.smiths.length p2,.slice a3 m.desks.length p3,.slice a4 m.paces.length p4,.int .i64 m.now] 32)=W at *
 refine (uh HW9 _ K.smy).mono ?_
 rintro e w1 ⟨rfl,hb⟩
 replace K:=K.next hb
 clear hb HW9
 obtain ⟨c0,c1,c2,c3,c4,c5⟩:=K.cells
 have hsz:=K.blk.lt
 go_wp2_with fail
 clear c0 c1 c2 c3 c4 c5
 have HL:Hid (NumsAt (w.heap.size+1) (w1.alloc (.cells #[] 2)) (.slice (some ⟨w1.heap.size,0,none⟩) 0 0) []):=Z9 (Zl rfl (by omega))
 replace K:=K.alloc (.cells #[] 2)
 generalize w1.alloc (.cells #[] 2)=W1 at *
 generalize w1.heap.size=lb at *
 refine (SD K.smy (uh HA)).mono ?_
 rintro e w2 ⟨v2,rfl,hu,hb⟩
 have hsp:∀ i,v2.ownBlock=some i->(Value.slice (some ⟨lb,0,none⟩) 0 0).ownBlock ≠ some i:=fun i e e2=>by have:=(RecAt.lt hu e).1;have:=(RecAt.lt (uh HL) e2).2;omega
 have hu2:YZ W1.heap.size w2 v2 (Wj m (k:Int) m.desks.length):=hu
 replace K:=K.next hb
 replace HL:=Z9 (RecAt.later (uh HL) hb)
 clear hb hu
 generalize Wj m (k:Int) m.desks.length=us at *
 obtain ⟨ua,uc,rfl⟩:=RecAt.shape hu2
 have HU:=Z9 hu2
 have Hsp:=Z9 hsp
 clear hu2 hsp
 go_wp2_with fail
 go_loopw [6,17] (fun l i wr=> ∃ j:Nat,j<=us.length/\i= .int .i64 j/\NumsAt (w.heap.size+1) wr l (((us.take j).filter (Xq wn)).map (·.1))/\YZ W1.heap.size wr (.slice ua us.length uc) us/\(∀ i,(Value.slice ua us.length uc).ownBlock=some i->l.ownBlock ≠ some i)/\Bx w wr w.heap.size a0 p0 a1 p1 a2 p2 a3 p3 a4 p4 m) (fun _ i _=>us.length-(intOf i).toNat)
 case atStart=>exact ⟨0,Nat.zero_le _,rfl,uh HL,uh HU,uh Hsp,K⟩
 case round=>
  obtain ⟨j,hj,rfl,hln,hun,hsp,hK⟩:=hrel
  clear K HL HU Hsp
  have K:=hK
  clear hK
  obtain ⟨la,lc,rfl⟩:=RecAt.shape hln
  have HL:=Z9 hln
  have HU:=Z9 hun
  have Hsp:=Z9 hsp
  have hgl9:(((us.take j).filter (Xq wn)).map (·.1)).length<=8:=by have e1:=List.length_filter_le (Xq wn) (us.take j);have e2:(us.take j).length<=us.length:=(by simp;omega);simp only [List.length_map];omega
  clear hln hun hsp
  by_cases hlt:j<us.length
  ·have hlt1:(j:Int)<(us.length:Int):=by omega
   have HY:=Z9 (fun hh=>CP (wn:=wn) hlt hh)
   have HN:=Z9 (fun hh=>CQ (wn:=wn) hlt hh)
   obtain ⟨tq,htq⟩:∃ q,Xq wn (Z8 us j)=q:=⟨_,rfl⟩
   rw [htq] at HY HN
   have Htq:=Z9 htq
   clear htq
   generalize ((us.take j).filter (Xq wn)).map (·.1)=ls at *
   obtain ⟨g,rfl,hgl,hgw,hcl,_⟩:=RecAt.view WY (by omega) (uh HU) rfl (by omega)
   have z0:=TE hcl hlt
   clear hcl
   generalize hx:Z8 us j=x at *
   clear hx
   obtain ⟨bx,ux,fx⟩:=x
   simp only at z0
   go_upto_region 6 with fail
   go_wp2_with fail
   refine (Calls.bool_of (EX wn bx ux fx _) (uh Htq)).mono ?_
   rintro e w3 ⟨rfl,hb⟩
   replace K:=K.next hb
   replace HL:=Z9 (RecAt.later (uh HL) hb)
   replace HU:=Z9 (RecAt.later (uh HU) hb)
   clear hb z0
   cases tq
   ·go_wp2_with fail
    go_roundw
    case rel=>exact ⟨j+1,by omega,by go_num,by rw [uh HN (by trivial)];exact uh HL,uh HU,uh Hsp,K⟩
    case measure=>simp [intOf];omega
   ·go_wp2_with fail
    refine (Su _ _ _ _).mono ?_
    rintro e w4 ⟨rfl,hb⟩
    replace K:=K.next hb
    replace HL:=Z9 (RecAt.later (uh HL) hb)
    replace HU:=Z9 (RecAt.later (uh HU) hb)
    clear hb
    have hsx:=K.blk.lt
    go_wp2_with (at_builtin;refine ZO tyN rfl (.tmp 24) (.tmp 27) 30 Tryz.underlying30 rfl (w.heap.size+1) _ _ ls [bx] rfl rfl (RecAt.later (uh HL) ((Below.refl _ _).alloc (Nat.le_refl _) _)) (U1 bx rfl (Nat.le_refl _) (by omega)) (by simp;omega) (by simp;omega) ?_;intro u9 w9 hp9 hg9 hat9;have HP9:=Z9 hp9;have HG9:=Z9 hg9;have HA9:=Z9 hat9;clear hp9 hg9 hat9)
    have hgo:∀ i,(Value.slice la ls.length lc).ownBlock=some i->w.heap.size<=i/\i ≠ w.heap.size:=fun i e=>by have:=(RecAt.lt (uh HL) e).1;omega
    replace K:=(K.alloc _).grown (uh Hs) (uh HG9) hgo
    have hul:=fun i e=>(RecAt.lt (uh HU) (i:=i) e).2
    have hsp9:∀ i,(Value.slice (some ⟨g,0,none⟩) us.length uc).ownBlock=some i->u9.ownBlock ≠ some i:=by
     intro i e e2
     rcases uh HA9 with h9 | h9
     ·rw [h9] at e2;exact uh Hsp i e e2
     ·rw [h9] at e2
      have:=hul i e
      simp at e2
      omega
    replace HU:=Z9 (RecAt.grown (RecAt.later (uh HU) ((Below.refl _ _).alloc (Nat.le_refl _) _)) (uh HG9) (uh Hsp))
    go_wp2_with fail
    go_roundw
    case rel=>exact ⟨j+1,by omega,by go_num,by rw [uh HY (by trivial)];exact uh HP9,uh HU,hsp9,K⟩
    case measure=>simp [intOf];omega
  ·obtain rfl:j=us.length:=by omega
   have e9:((us.take us.length).filter (Xq wn)).map (·.1)=q:=by rw [List.take_length];exact uh Hq
   have E9:=Z9 e9
   clear e9
   go_wp2_with fail
   go_ret
   exact ⟨_,rfl,by rw [<-uh E9];exact RecAt.mono (uh HL) (Nat.le_succ _),K.bb⟩
theorem SF {w:World} {v0 v1 v2 v3 v4:Value} {m:Z4} {k:Nat} {q:Int} (hq:Zn m (k:Int)=q) (h:Smy w v0 v1 v2 v3 v4 m) (A:Asks m k):Calls Tryz.prog 148 #[.agg #[v0,v1,v2,v3,v4,.int .i64 m.now],.int .i64 (k:Int)] w fun e w'=>e= .returned (.int .i64 q)/\Below w.heap.size w w':=by
 rw [FY] at hq
 have Hq:=Z9 hq
 clear hq
 obtain ⟨fs,hfs⟩:∃ q,Zp m (k:Int)=q:=⟨_,rfl⟩
 have Hfs:=Z9 hfs
 have hfl:fs.length<=1000:=by
  rw [<-hfs,show Zp m (k:Int)=((Wj m (k:Int) m.desks.length).filter (Xq (ZC m (k:Int)))).map (·.1) from (Ls m (k:Int) m.desks.length).symm,List.length_map]
  have:=List.length_filter_le (Xq (ZC m (k:Int))) (Wj m (k:Int) m.desks.length)
  have:=A.few
  omega
 rw [hfs] at Hq
 obtain ⟨cr,hcr⟩:∃ q,XZ m=q:=⟨_,rfl⟩
 have Hcr:=Z9 hcr
 rw [hcr] at Hq
 clear hfs hcr
 have hul:=A.few
 have HA:=Z9 A
 clear A
 obtain ⟨a0,p0,a1,p1,a2,p2,a3,p3,a4,p4,rfl,rfl,rfl,rfl,rfl,K⟩:=Bx.new h
 clear h
 go_enter Tryz.func148,Tryz.ntmps148
 go_wp2_with fail
 generalize w.alloc (.cells #[.slice a0 m.rooms.length p0,.slice a1 m.guilds.length p1,.slice a2 m.smiths.length p2,.slice a3 m.desks.length p3,.slice a4 m.paces.length p4,.int .i64 m.now] 32)=W at *
 refine (KW (uh Hfs) K.smy (uh HA)).mono ?_
 rintro e w1 ⟨v1,rfl,hn,hb⟩
 replace K:=K.next hb
 clear hb
 obtain ⟨na,nc,rfl⟩:=RecAt.shape hn
 have HN:=Z9 hn
 clear hn
 obtain ⟨c0,c1,c2,c3,c4,c5⟩:=K.cells
 go_wp2_with fail
 refine (Jb (uh Hcr) K.smy (uh HA).sane (uh HA).wants).mono ?_
 rintro e w2 ⟨rfl,hb⟩
 replace K:=K.next hb
 replace HN:=Z9 (RecAt.later (uh HN) hb)
 clear hb c0 c1 c2 c3 c4 c5 Hcr
 obtain ⟨c0,c1,c2,c3,c4,c5⟩:=K.cells
 by_cases hcond:(cr || decide (fs.length=0))=true
 ·rw [hcond,if_pos rfl] at Hq
  obtain rfl:=(uh Hq).symm
  have hrun:cr=true\/(cr=false/\fs.length=0):=by
   cases cr
   ·right;exact ⟨rfl,by simpa using hcond⟩
   ·exact .inl rfl
  clear hcond Hq
  rcases hrun with rfl | ⟨rfl,h0⟩
  all_goals
   try (obtain rfl:=List.eq_nil_of_length_eq_zero h0;clear h0)
   go_wp2_with fail
   refine (SD K.smy (uh HA)).mono ?_
   rintro e w3 ⟨v3,rfl,hu,hb⟩
   replace K:=K.next hb
   have HU:=Z9 hu
   clear hb hu c0 c1 c2 c3 c4 c5
   go_wp2_with fail
   refine (Ow (uh HU) (by omega)).mono ?_
   rintro e w4 ⟨rfl,hb⟩
   replace K:=K.next hb
   clear hb
   go_wp2_with fail
   go_ret
   exact ⟨rfl,K.bb⟩
 ·obtain rfl:cr=false:=(by cases cr<;>first | rfl | simp at hcond)
  have h0:¬ fs.length=0:=by simpa using hcond
  rw [Bool.false_or,decide_eq_false h0,if_neg (by simp)] at Hq
  obtain rfl:=(uh Hq).symm
  clear hcond Hq
  have h0i:¬ ((fs.length:Int)=0):=by omega
  have h0b:((fs.length:Int) ==0)=false:=beq_eq_false_iff_ne.mpr h0i
  clear h0
  go_wp2_with fail
  refine (O4 K.smy (uh HA) (uh HN) hfl).mono ?_
  rintro e w3 ⟨rfl,hb⟩
  replace K:=K.next hb
  clear hb c0 c1 c2 c3 c4 c5
  go_wp2_with fail
  go_ret
  exact ⟨rfl,K.bb⟩
end Go.Proofs.YtjhijildaceadaaGreatDoor
namespace Go.Proofs.YtjhijildaceadaaGreatDoor
open Go.ChangeShapes Go.WideShapes Go.ChangeAt Go.RowKit Go.Sort Go.Shelf
set_option linter.unusedVariables false
set_option linter.unusedSimpArgs false
set_option maxRecDepth 100000
theorem De {F:Nat->TypeId->Array Value->Prop} {w W:World} {R g n cap:Nat} {v0 v1 v3 v4:Value} {m:Z4} {qs:List (Z3 × Value)} (K:Ny F w W R v0 v1 (.slice (some ⟨g,0,none⟩) n cap) v3 v4 m qs) (hn:n=m.smiths.length) {k:Nat} (hk:k<m.smiths.length) (b had:Int) :
  Calls Tryz.prog 188 #[.pointer (some ⟨g,k*11,none⟩),.int .i64 b,.int .i64 had] W fun e W'=>e= .returned (.tuple #[])/\Ny F w W' R v0 v1 (.slice (some ⟨g,0,none⟩) n cap) v3 v4 (setS m k (JZ (Z8 m.smiths k) b had)) qs:=by
 obtain ⟨⟨st,be,rk,my,gu,lo,hi,hd,ca,ut,wk⟩,hrk⟩:∃ d,Z8 m.smiths k=d:=⟨_,rfl⟩
 have hl:∀ x:Z2,k<(setS m k x).smiths.length:=fun x=>by unfold setS;simpa using hk
 have hlen:∀ x:Z2,n=(setS m k x).smiths.length:=fun x=>by unfold setS;simpa using hn
 have hat:∀ x:Z2,Z8 (setS m k x).smiths k=x:=fun x=>by unfold setS;rw [ZV hk,if_pos rfl]
 obtain ⟨_,hga,_,_,hc,hz⟩:=RecAt.view Z1 (by omega) K.full.smiths hn (by omega)
 cases hga
 have s0:=hc k hk 0 _ rfl
 have f0:=hz (k*11)
 have K1:=K.putS hn hk (i:=0) (by omega) (.int .i64 2) (2,be,rk,my,gu,lo,hi,hd,ca,ut,wk) (by rw [hrk];rfl)
 obtain ⟨_,hga,_,_,hc1,hz1⟩:=RecAt.view Z1 (by omega) K1.full.smiths (hlen _) (by have:=hl (2,be,rk,my,gu,lo,hi,hd,ca,ut,wk);omega)
 cases hga
 have s1:=hc1 k (hl _) 1 _ rfl
 have f1:=hz1 (k*11+1)
 have K2:=K1.putS (hlen _) (hl _) (i:=1) (by omega) (.int .i64 b) (2,b,rk,my,gu,lo,hi,hd,ca,ut,wk) (by rw [hat];rfl)
 rw [Qt] at K2
 obtain ⟨_,hga,_,_,hc2,hz2⟩:=RecAt.view Z1 (by omega) K2.full.smiths (hlen _) (by have:=hl (2,b,rk,my,gu,lo,hi,hd,ca,ut,wk);omega)
 cases hga
 have s7:=hc2 k (hl _) 7 _ rfl
 have f7:=hz2 (k*11+7)
 have K3:=K2.putS (hlen _) (hl _) (i:=7) (by omega) (.int .i64 had) (2,b,rk,my,gu,lo,hi,had,ca,ut,wk) (by rw [hat];rfl)
 rw [Qt] at K3
 simp only [Nat.add_zero] at s0 s1 s7 K3
 simp only [Nat.add_zero] at f1 f7
 have HK:=Z9 K3
 have hres:JZ (st,be,rk,my,gu,lo,hi,hd,ca,ut,wk) b had=(2,b,rk,my,gu,lo,hi,had,ca,ut,wk):=rfl
 rw [hrk,hres]
 clear K K1 K2 K3 hc hz hc1 hz1 hc2 hz2 hat hl hlen hres hrk
 go_enter Tryz.func188,Tryz.ntmps188
 go_wp2_with fail
 go_end0
 exact ⟨rfl,uh HK⟩
theorem Fw {F:Nat->TypeId->Array Value->Prop} {w W:World} {R g2 p2:Nat} {v0 v1 v3 v4:Value} {m:Z4} {qs:List (Z3 × Value)} (K:Ny F w W R v0 v1 (.slice (some ⟨g2,0,none⟩) m.smiths.length p2) v3 v4 m qs) {k b bn:Nat} (hk:k<m.smiths.length) (hb:b<m.desks.length) (hbn:(Z8 m.smiths k).2.1=(bn:Int)) (hbl:bn<m.desks.length) :
  Calls Tryz.prog 149 #[.pointer (some ⟨R,0,none⟩),.int .i64 (k:Int),.int .i64 (b:Int)] W fun e W'=>e= .returned (.tuple #[])/\Ny F w W' R v0 v1 (.slice (some ⟨g2,0,none⟩) m.smiths.length p2) v3 v4 (setS m k (putW m (Z8 m.smiths k) (b:Int))) qs:=by
 have hk1:(k:Int)<(m.smiths.length:Int):=by omega
 have hb1:(b:Int)<(m.desks.length:Int):=by omega
 have hbl1:(bn:Int)<(m.desks.length:Int):=by omega
 obtain ⟨a3,p3,rfl⟩:=RecAt.shape K.full.desks
 obtain ⟨g3,hga,_,_,hc3,hz3⟩:=RecAt.view ZT (by omega) K.full.desks rfl (by omega)
 cases hga
 obtain ⟨_,hga,_,_,hc2,hz2⟩:=RecAt.view Z1 (by omega) K.full.smiths rfl (by omega)
 cases hga
 obtain ⟨mk,hmk⟩:∃ x,(Z8 m.desks b).2.2=x:=⟨_,rfl⟩
 obtain ⟨mf,hmf⟩:∃ x,(Z8 m.desks bn).2.2=x:=⟨_,rfl⟩
 obtain ⟨hd,hhd⟩:∃ x,XS (Z8 m.smiths k)=x:=⟨_,rfl⟩
 have d1:=hc3 b hb 2 (.int .i64 mk) (by rw [<-hmk];rfl)
 have d2:=hc3 bn hbl 2 (.int .i64 mf) (by rw [<-hmf];rfl)
 have s1:=hc2 k hk 1 (.int .i64 (bn:Int)) (by rw [<-hbn];rfl)
 have s7:=hc2 k hk 7 (.int .i64 hd) (by rw [<-hhd];rfl)
 have hpw:putW m (Z8 m.smiths k) (b:Int)=JZ (Z8 m.smiths k) (b:Int) (YR hd mf mk):=by
  unfold putW Xb
  rw [hhd,hbn,Int.toNat_natCast,Int.toNat_natCast,hmk,hmf]
 obtain ⟨hn,hhn⟩:∃ x,YR hd mf mk=x:=⟨_,rfl⟩
 rw [hpw,hhn]
 have Hhn:=Z9 hhn
 obtain ⟨_,_,c2,c3,_,_⟩:=K.cells
 clear hc2 hz2 hc3 hz3 hmk hmf hhd hpw hhn
 go_enter Tryz.func149,Tryz.ntmps149
 go_wp2_with fail
 have k1:=cell_regrown c3
 have k2:=cell_regrown d1
 have k3:=cell_regrown d2
 have k4:=cell_regrown s1
 refine wp_region_quiet_below (by kernel_rfl) (by kernel_rfl) ?_
 repeat (go_big_quiet_step (fail))
 refine wpQuiet_nil ?_
 intro _ hw'
 obtain ⟨⟨dq,osq⟩,hw''⟩:=hw'
 subst hw''
 have hbb:Below W.heap.size W (Go.Sort.grow (Go.redrawn W dq) osq):=below_regrown W dq osq
 generalize Go.Sort.grow (Go.redrawn W dq) osq=wq at *
 replace K:=K.next hbb
 replace s7:=(hbb.cell (World.block_lt_of_cell? _ _ s7)).trans s7
 clear hbb c2 c3 d1 d2 s1 k1 k2 k3 k4
 go_wp2_with fail
 refine (Calls.int_of (MN hd mf mk _) (uh Hhn)).mono ?_
 rintro e w1 ⟨rfl,hbb⟩
 replace K:=K.next hbb
 clear hbb s7
 go_wp2_with fail
 refine (De K rfl hk (b:Int) hn).mono ?_
 rintro e w2 ⟨rfl,K2⟩
 have HK:=Z9 K2
 clear K2
 go_wp2_with fail
 go_end0
 exact ⟨rfl,uh HK⟩
theorem CB {m:Z4} (h:Loose m) {k:Nat} (hk:k<m.smiths.length) (hs:(Z8 m.smiths k).1 ≠ 0) {may:Int} (m0:1<=may) (m1:may<=255):Asks (Zx m k may) k:=by
 have hat:∀ i,Z8 (Zx m k may).smiths i=if i=k then XE (Z8 m.smiths k) may else Z8 m.smiths i:=fun i=>ZV hk i
 have hl:(Zx m k may).smiths.length=m.smiths.length:=by unfold Zx setS;simp
 obtain ⟨sg,sl,sh⟩:=h.sane.guilded
 refine ⟨⟨h.sane.hall,h.sane.desks,⟨sg,fun i hi hne=> ?_,fun i hi hne=> ?_⟩,by rw [hl];exact h.sane.few⟩,⟨h.wants.guilds,fun i hi hne=> ?_⟩,by rw [hl];exact hk,?_,?_⟩
 ·rw [hl] at hi
  rw [hat] at hne ⊢
  by_cases e:i=k
  ·rw [if_pos e];exact sl k hk hs
  ·rw [if_neg e] at hne ⊢;exact sl i hi hne
 ·rw [hl] at hi
  rw [hat] at hne ⊢
  by_cases e:i=k
  ·rw [if_pos e];exact sh k hk hs
  ·rw [if_neg e] at hne ⊢;exact sh i hi hne
 ·rw [hl] at hi
  rw [hat] at hne ⊢
  by_cases e:i=k
  ·rw [if_pos e];exact h.wants.each k hk hs
  ·rw [if_neg e] at hne ⊢;exact h.wants.each i hi hne
 ·rw [hat,if_pos rfl];exact hs
 ·rw [hat,if_pos rfl];exact ⟨by show 0<=may;omega,m1⟩
theorem CE {m:Z4} (h:Loose m) {k:Nat} (hk:k<m.smiths.length) (hs:(Z8 m.smiths k).1 ≠ 0):∃ bn:Nat,(Z8 m.smiths k).2.1=(bn:Int)/\bn<m.desks.length:=by
 obtain ⟨p,_,hb⟩:=h.limits hk hs
 obtain ⟨⟨st,be,rk,my,gu,lo,hi,hd,ca,ut,wk⟩,hrk⟩:∃ d,Z8 m.smiths k=d:=⟨_,rfl⟩
 rw [hrk] at p hb ⊢
 obtain ⟨_,x1,_⟩:=Zk p
 simp only at hb
 exact ⟨be.toNat,by show be=_;omega,by omega⟩
theorem Ca {may be:Int} (m0:1<=may) (m1:may<=255) (b0:0<=be) (b1:be<=7):VY may be=Xp may be:=by
 unfold VY
 rw [Zj (show (0:Int)<=may by omega) m1,Zj b0 b1]
 rfl
theorem FL {F:Nat->TypeId->Array Value->Prop} {w W:World} {R:Nat} {v0 v1 v2 v3 v4:Value} {m:Z4} {qs:List (Z3 × Value)} {q:Int->Addr} (K:Ny F w W R v0 v1 v2 v3 v4 m qs) (he:Errs w q) (hm:Zo m=true) (who may:Int):Calls Tryz.prog 65 #[.pointer (some ⟨R,0,none⟩),.int .i64 who,.int .i64 may] W fun e W'=>PChg F w R q (V9 m who may) (YA m who may) e W':=by
 obtain ⟨a0,p0,a1,p1,a2,p2,a3,p3,a4,p4,rfl,rfl,rfl,rfl,rfl⟩:=YQ K.full
 have HE:=Z9 he
 have HM:=Z9 hm
 clear he hm
 obtain ⟨wq,hwq⟩:∃ b,V7 m who=b:=⟨_,rfl⟩
 have Hwq:=Z9 hwq
 clear hwq
 cases wq
 ·have hc0:YA m who may=1:=by unfold YA;rw [uh Hwq];rfl
  go_enter Tryz.func65,Tryz.ntmps65
  go_wp2_with fail
  refine (RN K (uh HE) (uh Hwq)).mono ?_
  rintro e w1 ⟨rfl,hb,hF⟩
  go_wp2_with fail
  exact ⟨rfl,PChg.no hb hF hc0 (by omega)⟩
 obtain ⟨k,rfl,hk,hs⟩:=WI (uh Hwq)
 have hk1:(k:Int)<(m.smiths.length:Int):=by omega
 obtain ⟨g2,hga,_,_,_,_⟩:=RecAt.view Z1 (by omega) K.full.smiths rfl (by omega)
 cases hga
 go_enter Tryz.func65,Tryz.ntmps65
 go_wp2_with fail
 refine (Td K (uh HE) (uh Hwq) hk).mono ?_
 rintro e w1 ⟨rfl,K1⟩
 clear K
 have K:=K1
 clear K1
 obtain ⟨mq,hmq⟩:∃ b,inB may 1 255=b:=⟨_,rfl⟩
 have Hmq:=Z9 hmq
 clear hmq
 have x1:=((uh HE).below K.bb).c3
 go_wp2_with fail
 refine ZU (S:=fun w'=>w'.cell? ⟨0,0,none⟩=some (Zv (q 3))) (by kernel_rfl) (List.cons_ne_nil _ _) (by kernel_rfl) x1 (fun hHeld=> ?_)
 simp only [List.dropLast_cons_cons,List.dropLast_singleton,List.length_cons,List.length_nil,Nat.zero_add,Nat.reduceAdd]
 replace K:=K.next ((Below.refl _ _).drew:Below w1.heap.size w1 w1.drew)
 clear x1
 generalize w1.drew=W5 at *
 have x1:=((uh HE).below K.bb).c3
 (refine tk 0 rfl (by assumption) ?_;(try simp only [Act.put,sA,sZ,sS]))
 (refine tk 2 rfl (by assumption) ?_;(try simp only [Act.put,sA,sZ,sS]))
 refine wpAnyH_ready (rs:=[1]) (by kernel_rfl) (by simp) ?_
 refine AllReadyH.cons rfl (fun K0 hK=> ?_) AllReadyH.nil
 go_simp
 refine (Calls.bool_of (LZ may _) (uh Hmq)).mono ?_
 rintro e9 w9 ⟨rfl,hb⟩
 replace K:=K.next hb
 clear hb
 clear x1
 have x1:=((uh HE).below K.bb).c3
 refine hK.out _ _ x1 (fun hHeld=> ?_)
 clear hK K0
 (try simp only [Act.put,sA,sZ,sS])
 refine wpAnyH_done (by kernel_rfl) ?_ _
 refine ZF rfl rfl ?_
 go_simp
 clear hHeld
 cases mq
 ·have hc0:YA m (k:Int) may=3:=by unfold YA;rw [uh Hwq,uh Hmq];rfl
  refine (WZ (q 3) _).mono ?_
  rintro e8 w8 ⟨rfl,h8⟩
  subst w8
  go_wp2_with fail
  exact ⟨rfl,PChg.no K.bb K.fb hc0 (by omega)⟩
 refine (XA _ _).mono ?_
 rintro e8 w8 ⟨rfl,h8⟩
 subst w8
 obtain ⟨m0,m1⟩:=ZP (uh Hmq)
 have HLo:=Z9 (Ze (uh HM))
 have HA:=Z9 (CB (uh HLo) hk hs m0 m1)
 obtain ⟨⟨st,be,rk,my,gu,lo,hi,hd,ca,ut,wk⟩,hrk⟩:∃ d,Z8 m.smiths k=d:=⟨_,rfl⟩
 have hpr:=DK (uh HLo) hk hs
 obtain ⟨bn,hbn,hbnl⟩:=CE (uh HLo) hk hs
 have h8:=(uh HLo).sane.eight
 rw [hrk] at hpr hbn
 simp only at hpr hbn
 subst hbn
 obtain ⟨_,hga,_,_,hc,hz⟩:=RecAt.view Z1 (by omega) K.full.smiths rfl (by omega)
 cases hga
 have s3:=hc k hk 3 _ rfl
 have f3:=hz (k*11+3)
 have K1:=K.putS rfl hk (i:=3) (by omega) (.int .i64 may) (st,(bn:Int),rk,may,gu,lo,hi,hd,ca,ut,wk) (by rw [hrk];rfl)
 have hmx:Zx m k may=setS m k (st,(bn:Int),rk,may,gu,lo,hi,hd,ca,ut,wk):=by unfold Zx;rw [hrk];rfl
 rw [<-hmx] at K1
 have hlM:(Zx m k may).smiths.length=m.smiths.length:=by unfold Zx setS;simp
 have hatM:Z8 (Zx m k may).smiths k=(st,(bn:Int),rk,may,gu,lo,hi,hd,ca,ut,wk):=by rw [hmx];unfold setS;rw [ZV hk,if_pos rfl]
 have HK:=Z9 K1
 have Hrk:=Z9 hrk
 have HmM:=Z9 (show SX m k may=(!decide (st=1) && !Xp may (bn:Int)) by unfold SX;rw [hrk];rw [hpr])
 clear K1 hc hz hrk hpr x1
 go_upto_region 3 with fail
 clear s3 f3 K
 have K:=uh HK
 clear HK
 generalize W5.setCell ⟨g2,k*11+3,none⟩ (.int .i64 may)=W6 at *
 obtain ⟨_,hga,_,_,hc,_⟩:=RecAt.view Z1 (by omega) K.full.smiths hlM.symm (by omega)
 cases hga
 have s0:=hc k (by omega) 0 (.int .i64 st) (by rw [hatM];rfl)
 have s1:=hc k (by omega) 1 (.int .i64 (bn:Int)) (by rw [hatM];rfl)
 have s2:=hc k (by omega) 2 (.int .i64 rk) (by rw [hatM];rfl)
 have s3:=hc k (by omega) 3 (.int .i64 may) (by rw [hatM];rfl)
 have s4:=hc k (by omega) 4 (.int .i64 gu) (by rw [hatM];rfl)
 have s5:=hc k (by omega) 5 (.int .i64 lo) (by rw [hatM];rfl)
 have s6:=hc k (by omega) 6 (.int .i64 hi) (by rw [hatM];rfl)
 have s7:=hc k (by omega) 7 (.int .i64 hd) (by rw [hatM];rfl)
 have s8:=hc k (by omega) 8 (.int .i64 ca) (by rw [hatM];rfl)
 have s9:=hc k (by omega) 9 (.int .i64 ut) (by rw [hatM];rfl)
 have s10:=hc k (by omega) 10 (.int .i64 wk) (by rw [hatM];rfl)
 simp only [Nat.add_zero] at s0
 have hbn7:(bn:Int)<=7:=by omega
 have hmb:=Ca m0 m1 (show (0:Int)<=(bn:Int) by omega) hbn7
 have Hc3:Hid (SX m k may=false->YA m (k:Int) may=0/\V9 m (k:Int) may=Zx m k may):=Z9 (fun e=>by
  unfold YA V9
  rw [uh Hwq,uh Hmq,Int.toNat_natCast,e]
  exact ⟨rfl,rfl⟩)
 clear hc
 go_wp2_with fail
 refine (NO st (bn:Int) rk may gu lo hi hd ca ut wk _).mono ?_
 rintro e w6 ⟨rfl,hb⟩
 replace K:=K.next hb
 clear hb s0 s1 s2 s3 s4 s5 s6 s7 s8 s9 s10
 by_cases hst:st=1
 ·have e1:(st ==1)=true:=by rw [hst];rfl
  have e2:=uh Hc3 (by rw [uh HmM,hst];rfl)
  have HK:=Z9 K
  clear K
  subst hst
  go_wp2_with fail
  go_end0
  exact PChg.yes (uh HK) e2.1 e2.2
 have e1:(st ==1)=false:=by simp [hst]
 obtain ⟨_,hga,_,_,hc,_⟩:=RecAt.view Z1 (by omega) K.full.smiths hlM.symm (by omega)
 cases hga
 have s1:=hc k (by omega) 1 (.int .i64 (bn:Int)) (by rw [hatM];rfl)
 clear hc
 go_wp2_with fail
 refine (WL may (bn:Int) _).mono ?_
 rw [hmb]
 rintro e w7 ⟨rfl,h7⟩
 subst w7
 clear s1
 obtain ⟨bi,hbi⟩:∃ b,Xp may (bn:Int)=b:=⟨_,rfl⟩
 rw [hbi]
 cases bi
 rotate_left
 ·have e2:=uh Hc3 (by rw [uh HmM,hbi];simp)
  have HK:=Z9 K
  clear K
  go_wp2_with fail
  go_end0
  exact PChg.yes (uh HK) e2.1 e2.2
 have hmg:SX m k may=true:=by rw [uh HmM,hbi];simp [hst]
 have HmG:=Z9 hmg
 clear hmg Hc3 hbi
 obtain ⟨ch,hch⟩:∃ x,Zn (Zx m k may) (k:Int)=x:=⟨_,rfl⟩
 have Hch:=Z9 hch
 clear hch
 obtain ⟨c0,c1,c2,c3,c4,c5⟩:=K.cells
 go_wp2_with fail
 clear c0 c1 c2 c3 c4 c5
 refine (SF (uh Hch) K.full.smy (uh HA)).mono ?_
 rintro e w8 ⟨rfl,hb⟩
 replace K:=K.next hb
 clear hb
 have x1:=((uh HE).below K.bb).c2
 rcases VQ (Zx m k may) (k:Int) with ⟨ec,_⟩ | ⟨b,hbl,ec,_⟩
 ·rw [uh Hch] at ec
  subst ec
  have hc0:YA m (k:Int) may=2:=by unfold YA;rw [uh Hwq,uh Hmq,Int.toNat_natCast,uh HmG,uh Hch];rfl
  go_wp2_with fail
  refine (WZ (q 2) _).mono ?_
  rintro e8 w9 ⟨rfl,h8⟩
  subst w9
  go_wp2_with fail
  exact ⟨rfl,PChg.no K.bb K.fb hc0 (by omega)⟩
 ·rw [uh Hch] at ec
  subst ec
  have hcn:¬ (b:Int)= -1:=by omega
  have hc0:YA m (k:Int) may=0:=by unfold YA;rw [uh Hwq,uh Hmq,Int.toNat_natCast,uh HmG,uh Hch];simp only [if_true];rw [if_neg hcn]
  have hx0:V9 m (k:Int) may=setS (Zx m k may) k (putW (Zx m k may) (Z8 (Zx m k may).smiths k) (b:Int)):=by
   unfold V9
   rw [Int.toNat_natCast,uh HmG,uh Hch,hatM,uh Hrk]
   rfl
  have hne:((b:Int) != -1)=true:=by simp
  have hbl':b<(Zx m k may).desks.length:=hbl
  have Hc0:=Z9 hc0
  have Hx0:=Z9 hx0
  clear hc0 hx0
  go_wp2_with fail
  refine (XA _ _).mono ?_
  rintro e8 w9 ⟨rfl,h8⟩
  subst w9
  clear x1
  go_wp2_with fail
  have K2:Ny F w w8 R (.slice a0 m.rooms.length p0) (.slice a1 m.guilds.length p1) (.slice (some ⟨g2,0,none⟩) (Zx m k may).smiths.length p2) (.slice a3 m.desks.length p3) (.slice a4 m.paces.length p4) (Zx m k may) qs:=by rw [hlM];exact K
  refine (Fw K2 (by omega) hbl' (by rw [hatM]) hbnl).mono ?_
  rintro e9 w10 ⟨rfl,K3⟩
  have HK:=Z9 K3
  clear K3 K K2
  go_wp2_with fail
  go_end0
  exact PChg.yes (uh HK) (uh Hc0) (uh Hx0)
open Go.ChangeShapes Go.WideShapes Go.ChangeAt Go.RowKit Go.Sort
theorem SR {w:World} {v:Value} {rs:List Z3} (n:Int) (h:IsRooms w v rs) (h1:YV rs n=true) :
  Calls Tryz.prog 161 #[.agg #[v],.int .i64 n] w fun e w'=>e= .returned (.int .i64 (U7 (ZY rs (WT rs n)).2))/\Below w.heap.size w w':=by
 have Hv:=Z9 h
 obtain ⟨a,cap,rfl,hc,hm⟩:∃ a cap,v= .slice a rs.length cap/\rs.length<=cap/\cap<=9223372036854775807:=by obtain ⟨a,cap,rfl,hc,hm,_⟩:=h;exact ⟨a,cap,rfl,hc,hm⟩
 clear h
 have hlt:=Ov h1
 have Hh:=Z9 (XC h1).1
 have H1:=Z9 h1
 have hl3:rs.length<=3:=(Zi (XC h1).1).2.1
 clear h1
 have hw1:=(uh Hv).alloc (.cells #[.slice a rs.length cap] 26)
 have Hw1:=Z9 hw1
 obtain ⟨b,off,a',cap',rfl,hbw,d1,p1,p4,sp,hbw',d2⟩:=FC hw1 hlt (uh Hh)
 obtain ⟨b',off',sp'⟩:=a'
 simp only at sp hbw' d2
 subst sp
 clear hw1
 have k0:=cell_regrown (w:=w.alloc (.cells #[.slice (some ⟨b,off,none⟩) rs.length cap] 26)) (a:=⟨w.heap.size,0,none⟩) (v:= .slice (some ⟨b,off,none⟩) rs.length cap) (by simp)
 have k1:=cell_regrown d1
 have k2:=cell_regrown d2
 clear d1 d2
 go_enter Tryz.func161,Tryz.ntmps161
 go_wp2_with fail
 refine wp_region_quiet_below (by kernel_rfl) (by kernel_rfl) ?_
 repeat (go_big_quiet_step (exact Calls.regrown_of (NZ n ((uh Hw1).below (below_regrown _ _ _)) (uh H1))))
 refine wpQuiet_nil ?_
 intro _ hw'
 obtain ⟨⟨dq,osq⟩,hw''⟩:=hw'
 subst hw''
 generalize hr1:WT rs n=r at *
 generalize hr2:U7 (ZY rs r).2=fo at *
 generalize (ZY rs r).2.length=m at *
 have Hr1:=Z9 hr1
 have Hr2:=Z9 hr2
 clear hr1 hr2
 go_wp2_with fail
 go_ret
 exact ⟨ZS (by rw [uh Hr1,uh Hr2]),((Below.refl _ _).alloc (Nat.le_refl _) _).trans ((below_regrown _ _ _).mono (by simp))⟩
end Go.Proofs.YtjhijildaceadaaGreatDoor
