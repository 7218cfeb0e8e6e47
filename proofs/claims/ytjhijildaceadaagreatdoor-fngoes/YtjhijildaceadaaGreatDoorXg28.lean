/- Part 28 of what the proof rests on. No condition but those that a theorem names. -/
import Derived.Test.YtjhijildaceadaaGreatDoorXg26
import Derived.Test.YtjhijildaceadaaGreatDoorXg27
set_option maxHeartbeats 8000000
set_option maxRecDepth 100000
namespace Go.Proofs.YtjhijildaceadaaGreatDoor
open Go.ChangeShapes Go.WideShapes Go.ChangeAt Go.RowKit Go.Sort
set_option linter.unusedVariables false
set_option maxRecDepth 100000
variable {w w' w0 w1 w2 w3 w₀ wr W W' X A B C : World} {v v0 v1 v2 v3 v4 u u0 u1 u2 u3 u4 : Value} {m : Z4}
theorem PA  (h:Smy w v0 v1 v2 v3 v4 m) :
  Calls Tryz.prog 349 #[.agg #[v0,v1,v2,v3,v4,.int .i64 m.now]] w fun e w'=>e= .returned (Gx (VR m))/\Below w.heap.size w w':=by
 have Hv0:=Z9 (h.alloc (.cells #[v0,v1,v2,v3,v4,.int .i64 m.now] 32))
 obtain ⟨a0,p0,a1,p1,a2,p2,a3,p3,a4,p4,rfl,rfl,rfl,rfl,rfl,_,_,_,_,_,_,_,_,_,_⟩:=h.five
 clear h
 obtain ⟨BB0,kb0⟩:=Xj w 32 (S6 a0 p0 a1 p1 a2 p2 a3 p3 a4 p4 m)
 obtain ⟨tv,htv⟩:∃ t,Gx (VR m)=t:=⟨_,rfl⟩
 rw [htv]
 obtain ⟨ok,hok⟩:∃ q,ZP m=q:=⟨_,rfl⟩
 have Hok:=Z9 hok
 have HT:=Z9 htv
 clear hok htv
 cases ok
 ·obtain rfl:tv= .tuple #[.int .i64 0,.int .i64 0,.bool false]:=by rw [<-uh HT];unfold VR;rw [uh Hok];rfl
  go_enter Tryz.func349,Tryz.ntmps349
  go_wp2_with fail
  go_loopw [5] (fun i wr=>i= .int .i64 0/\Blk wr w.heap.size 32 (S6 a0 p0 a1 p1 a2 p2 a3 p3 a4 p4 m)/\Smy wr (.slice a0 m.rooms.length p0) (.slice a1 m.guilds.length p1) (.slice a2 m.smiths.length p2) (.slice a3 m.desks.length p3) (.slice a4 m.paces.length p4) m/\Below w.heap.size w wr) (fun _ _=>1)
  case atStart=>exact ⟨rfl,uh kb0,uh Hv0,uh BB0⟩
  case round=>
   obtain ⟨rfl,hkb,hv,hb0⟩:=hrel
   have kb:=Z9 hkb
   have Hv:=Z9 hv
   have BB:=Z9 hb0
   clear hkb hv hb0 kb0 Hv0 BB0
   obtain ⟨c0,c1,c2,c3,c4,c5⟩:=(uh kb).c6
   by_cases hlt:0<m.smiths.length
   ·have hlt1:(0:Int)<(m.smiths.length:Int):=by omega
    go_wp2_with fail
    refine (Yb (uh Hok) (uh Hv)).mono ?_
    rintro e w1 ⟨rfl,hb⟩
    replace BB:=bt BB hb
    clear hb
    go_wp2_with fail
    refine bodyPost_ret (v:= .tuple #[.int .i64 0,.int .i64 0,.bool false]) (by simp [results,Tryz.results349,go_sem]) rfl ⟨rfl,uh BB⟩
   ·have hlt1:¬ ((0:Int)<(m.smiths.length:Int)):=by omega
    go_wp2_with fail
    refine bodyPost_ret (v:= .tuple #[.int .i64 0,.int .i64 0,.bool false]) (by simp [results,Tryz.results349,go_sem]) rfl ⟨rfl,uh BB⟩
 have hlo:=ZU (uh Hok)
 have HLo:=Z9 hlo
 have HSa:=Z9 hlo.sane
 have h12:=Y3 hlo
 have h8:=WT hlo
 clear hlo
 have HW:Hid (tv=Gx (UH m m.smiths.length)):=Z9 (by rw [<-uh HT];unfold VR;rw [uh Hok];rfl)
 clear HT
 go_enter Tryz.func349,Tryz.ntmps349
 go_wp2_with fail
 go_loopw [5] (fun i wr=> ∃ k:Nat,k<=m.smiths.length/\i= .int .i64 k/\UH m k=none/\Blk wr w.heap.size 32 (S6 a0 p0 a1 p1 a2 p2 a3 p3 a4 p4 m)/\Smy wr (.slice a0 m.rooms.length p0) (.slice a1 m.guilds.length p1) (.slice a2 m.smiths.length p2) (.slice a3 m.desks.length p3) (.slice a4 m.paces.length p4) m/\Below w.heap.size w wr) (fun i _=>m.smiths.length-(intOf i).toNat)
 case atStart=>exact ⟨0,Nat.zero_le _,rfl,rfl,uh kb0,uh Hv0,uh BB0⟩
 case round=>
  obtain ⟨k,hk,rfl,hno,hkb,hv,hb0⟩:=hrel
  have Hno:=Z9 hno
  clear hno
  have kb:=Z9 hkb
  have Hv:=Z9 hv
  have BB:=Z9 hb0
  clear hkb hv hb0
  clear kb0 Hv0 BB0
  obtain ⟨c0,c1,c2,c3,c4,c5⟩:=(uh kb).c6
  by_cases hlt:k<m.smiths.length
  rotate_left
  ·have hlt1:¬ ((k:Int)<(m.smiths.length:Int)):=by omega
   obtain rfl:k=m.smiths.length:=by omega
   obtain rfl:tv= .tuple #[.int .i64 0,.int .i64 0,.bool false]:=by rw [uh HW,uh Hno];rfl
   go_wp2_with fail
   refine bodyPost_ret (v:= .tuple #[.int .i64 0,.int .i64 0,.bool false]) (by simp [results,Tryz.results349,go_sem]) rfl ⟨rfl,uh BB⟩
  have hlt1:(k:Int)<(m.smiths.length:Int):=by omega
  go_wp2_with fail
  refine (Yb (uh Hok) (uh Hv)).mono ?_
  rintro e w1 ⟨rfl,hb⟩
  replace Hv:=Z9 ((uh Hv).below hb)
  replace kb:=bl kb hb
  replace BB:=bt BB hb
  clear hb c0 c1 c2 c3 c4 c5
  have HN:Hid (∀ w9,RU m k=w9->UH m (k+1)=w9.map fun x=>(k,x)):=Z9 (fun w9 e=>by unfold UH;rw [uh Hno,e])
  have HMB:Hid (SO m k=(ZT (Z8 m.smiths k) && !VV (Yr m (k:Int)) 0 (YV m.rooms (Z8 m.smiths k).2.1))):=Z9 rfl
  obtain ⟨_,_,hse,_,_,r2⟩:=(uh Hv).smiths
  cases hse
  rcases r2 with e0 | ⟨sb,off,rfl,hbw,hcl⟩
  ·rw [e0] at hlt;simp at hlt
  obtain ⟨d0,d1,d2,d3,d4,d5,d6,d7,d8,d9,d10⟩:=ZK hcl hlt
  clear hcl
  obtain ⟨ps,hps⟩:∃ q,ZT (Z8 m.smiths k)=q:=⟨_,rfl⟩
  obtain ⟨fi,hfi⟩:∃ q,VV (Yr m (k:Int)) 0 (YV m.rooms (Z8 m.smiths k).2.1)=q:=⟨_,rfl⟩
  have HM2:Hid (SO m k=(ps && !fi)):=Z9 (by rw [uh HMB,hps,hfi])
  have HP0:=Z9 hps
  have HA1:Hid (ps=true->0<=(Z8 m.smiths k).2.1/\(Z8 m.smiths k).2.1<m.desks.length/\ -1<=(Z8 m.smiths k).2.2.2.2.1/\(Z8 m.smiths k).2.2.2.2.1<m.guilds.length/\0<=(Z8 m.smiths k).2.2.2.1/\(Z8 m.smiths k).2.2.2.1<=255):=Z9 (fun e=>by
   have hp:=(uh HP0).trans e
   have h1:=(uh HLo).at hlt hp
   have h2:=(uh HLo).limits hlt (Ia hp)
   have h3:=h2.1
   have h4:=h2.2.1
   have a0:=h1.1
   have a1:=h1.2.1
   generalize Z8 m.smiths k=s at *
   obtain ⟨st,be,rk,my,gu,lo',hi',hd,ca,ut,wk⟩:=s
   have h5:=Zn h3
   exact ⟨a0,a1,h5.2.2.2.2.1.1,h4,by show 0<=my;omega,h5.2.2.2.1.2⟩)
  have HG:=Z9 (uh HSa).guilded.guilds
  have Hwa:=Z9 (fun (e:ps=true) (X:World) (hX:Smy X (.slice a0 m.rooms.length p0) (.slice a1 m.guilds.length p1) (.slice (some ⟨sb,off,none⟩) m.smiths.length p2) (.slice a3 m.desks.length p3) (.slice a4 m.paces.length p4) m)=>Tt hX (uh HG) hlt (uh HA1 e).2.2.1 (uh HA1 e).2.2.2.1)
  have Hfo:=Z9 (fun (e:ps=true) (X:World) (hX:Smy X (.slice a0 m.rooms.length p0) (.slice a1 m.guilds.length p1) (.slice (some ⟨sb,off,none⟩) m.smiths.length p2) (.slice a3 m.desks.length p3) (.slice a4 m.paces.length p4) m)=>Wb (Z8 m.smiths k).2.1 hX.rooms (by
   have h9:=uh HA1 e
   obtain ⟨j9,e9⟩:∃ j:Nat,(Z8 m.smiths k).2.1=(j:Int):=⟨(Z8 m.smiths k).2.1.toNat,by omega⟩
   rw [e9]
   exact (uh HSa).bench (by omega)))
  have HFv:Hid (ps=true->VL (ZW m.rooms (WL m.rooms (Z8 m.smiths k).2.1)).2=YV m.rooms (Z8 m.smiths k).2.1):=Z9 (fun e=>(Tl (by
   have h9:=uh HA1 e
   obtain ⟨j9,e9⟩:∃ j:Nat,(Z8 m.smiths k).2.1=(j:Int):=⟨(Z8 m.smiths k).2.1.toNat,by omega⟩
   rw [e9]
   exact (uh HSa).bench (by omega))).symm)
  have Hmy:=Z9 (fun (e:ps=true)=>(uh HA1 e).2.2.2.2)
  obtain ⟨⟨st,be,rk,my,gu,lo,hi,hd,ca,ut,wk⟩,hrk⟩:∃ d,Z8 m.smiths k=d:=⟨_,rfl⟩
  rw [hrk] at d0 d1 d2 d3 d4 d5 d6 d7 d8 d9 d10 hps hfi Hfo HFv
  simp only at d0 d1 d2 d3 d4 d5 d6 d7 d8 d9 d10 hfi Hfo HFv
  have Hps:=Z9 hps
  have Hfi:=Z9 hfi
  have Hrk:=Z9 hrk
  clear hps hfi hrk HMB HP0
  have hsbw:sb<w1.heap.size:=hbw
  obtain ⟨c0,c1,c2,c3,c4,c5⟩:=(uh kb).c6
  go_upto_region 5 with fail
  clear d0 d1 d2 d3 d4 d5 d6 d7 d8 d9 d10 c0 c1 c2 c3 c4 c5
  obtain ⟨WQ,hWQ,hba,ks⟩:=ZA w1 43 (I11 st be rk my gu lo hi hd ca ut wk)
  replace Hv:=Z9 ((uh Hv).below hba)
  replace kb:=bl kb hba
  replace BB:=bt BB hba
  clear hba hsbw hbw
  rw [hWQ]
  clear hWQ
  generalize w1.heap.size=sx at *
  obtain ⟨c0,c1,c2,c3,c4,c5⟩:=(uh kb).c6
  have y0:=cell_regrown c0
  have y1:=cell_regrown c1
  have y2:=cell_regrown c2
  have y3:=cell_regrown c3
  have y4:=cell_regrown c4
  have y5:=cell_regrown c5
  have s0:=cell_regrown ((uh ks).cell (i:=0) (v:= .int .i64 st) rfl)
  have s1:=cell_regrown ((uh ks).cell (i:=1) (v:= .int .i64 be) rfl)
  have s2:=cell_regrown ((uh ks).cell (i:=2) (v:= .int .i64 rk) rfl)
  have s3:=cell_regrown ((uh ks).cell (i:=3) (v:= .int .i64 my) rfl)
  have s4:=cell_regrown ((uh ks).cell (i:=4) (v:= .int .i64 gu) rfl)
  have s5:=cell_regrown ((uh ks).cell (i:=5) (v:= .int .i64 lo) rfl)
  have s6:=cell_regrown ((uh ks).cell (i:=6) (v:= .int .i64 hi) rfl)
  have s7:=cell_regrown ((uh ks).cell (i:=7) (v:= .int .i64 hd) rfl)
  have s8:=cell_regrown ((uh ks).cell (i:=8) (v:= .int .i64 ca) rfl)
  have s9:=cell_regrown ((uh ks).cell (i:=9) (v:= .int .i64 ut) rfl)
  have s10:=cell_regrown ((uh ks).cell (i:=10) (v:= .int .i64 wk) rfl)
  have H1:=Z9 (fun (X:World)=>YX (uh Hps) X)
  cases ps
  ·have hm0:RU m k=none:=by unfold RU;rw [uh HM2];rfl
   have Hm0:=Z9 hm0
   clear hm0
   go_wp2_with fail
   refine wp_region_quiet_below (by kernel_rfl) (by kernel_rfl) ?_
   repeat (go_big_quiet_step (first | exact Calls.regrown_of (uh H1 _)))
   refine wpQuiet_nil ?_
   intro W9 hw'
   have hb:Below WQ.heap.size WQ W9:=by
    obtain ⟨⟨dq,osq⟩,hw''⟩:=hw'
    subst hw''
    exact below_regrown _ _ _
   clear hw'
   replace Hv:=Z9 ((uh Hv).below hb)
   replace kb:=bl kb hb
   replace BB:=bt BB hb
   clear hb
   go_wp2_with fail
   go_roundw
   case rel=>exact ⟨k+1,by omega,by go_num,by rw [uh HN none (uh Hm0)];rfl,uh kb,uh Hv,uh BB⟩
   case measure=>simp [intOf];omega
  have H2:=Z9 (fun (X:World) (hX:Below WQ.heap.size WQ X)=>uh Hwa rfl X ((uh Hv).below hX))
  have H3:=Z9 (fun (X:World) (hX:Below WQ.heap.size WQ X)=>uh Hfo rfl X ((uh Hv).below hX))
  rw [uh HFv rfl] at H3
  have H4:=Z9 (fun (X:World)=>Calls.bool_of (Calls.same_below (VD (Yr m (k:Int)) 0 (YV m.rooms be) X)) (uh Hfi))
  have Hmy2:=Z9 (uh Hmy rfl)
  obtain ⟨wa,hwa⟩:∃ q,Yr m (k:Int)=q:=⟨_,rfl⟩
  obtain ⟨fo,hfo⟩:∃ q,YV m.rooms be=q:=⟨_,rfl⟩
  have HWb:=Z9 (fun (X:World) (hX:Smy X (.slice a0 m.rooms.length p0) (.slice a1 m.guilds.length p1) (.slice (some ⟨sb,off,none⟩) m.smiths.length p2) (.slice a3 m.desks.length p3) (.slice a4 m.paces.length p4) m)=>uh Hwa rfl X hX)
  rw [hwa] at H2 H4 HWb
  rw [hfo] at H3 H4
  have HWa:=Z9 hwa
  clear hwa hfo Hwa Hfo HFv Hmy
  cases fi
  rotate_left
  ·have hm0:RU m k=none:=by unfold RU;rw [uh HM2];rfl
   have Hm0:=Z9 hm0
   clear hm0
   go_wp2_with fail
   refine wp_region_quiet_below (by kernel_rfl) (by kernel_rfl) ?_
   repeat (go_big_quiet_step (first | exact Calls.regrown_of (uh H1 _) | exact Calls.regrown_of (uh H2 _ (below_regrown _ _ _)) | exact Calls.regrown_of (uh H3 _ (below_regrown _ _ _)) | exact Calls.regrown_of (uh H4 _)))
   refine wpQuiet_nil ?_
   intro W9 hw'
   have hb:Below WQ.heap.size WQ W9:=by
    obtain ⟨⟨dq,osq⟩,hw''⟩:=hw'
    subst hw''
    exact below_regrown _ _ _
   clear hw'
   replace Hv:=Z9 ((uh Hv).below hb)
   replace kb:=bl kb hb
   replace BB:=bt BB hb
   clear hb
   go_wp2_with fail
   go_roundw
   case rel=>exact ⟨k+1,by omega,by go_num,by rw [uh HN none (uh Hm0)];rfl,uh kb,uh Hv,uh BB⟩
   case measure=>simp [intOf];omega
  have HMA:Hid (RU m k=Wo m k m.desks.length):=Z9 (by unfold RU;rw [uh HM2];rfl)
  go_wp2_with fail
  refine wp_region_quiet_below (by kernel_rfl) (by kernel_rfl) ?_
  repeat (go_big_quiet_step (first | exact Calls.regrown_of (uh H1 _) | exact Calls.regrown_of (uh H2 _ (below_regrown _ _ _)) | exact Calls.regrown_of (uh H3 _ (below_regrown _ _ _)) | exact Calls.regrown_of (uh H4 _)))
  refine wpQuiet_nil ?_
  intro W9 hw'
  have hb:Below WQ.heap.size WQ W9:=by
   obtain ⟨⟨dq,osq⟩,hw''⟩:=hw'
   subst hw''
   exact below_regrown _ _ _
  clear hw'
  replace Hv:=Z9 ((uh Hv).below hb)
  replace kb:=bl kb hb
  replace BB:=bt BB hb
  clear hb c0 c1 c2 c3 c4 c5 s0 s1 s2 s3 s4 s5 s6 s7 s8 s9 s10 y0 y1 y2 y3 y4 y5 H1 H2 H3 H4 ks
  go_wp2_with fail
  go_loopw [7] (fun i wr=> ∃ j:Nat,j<=m.desks.length/\i= .int .i64 j/\Wo m k j=none/\Blk wr w.heap.size 32 #[.slice a0 m.rooms.length p0,.slice a1 m.guilds.length p1,.slice (some ⟨sb,off,none⟩) m.smiths.length p2,.slice a3 m.desks.length p3,.slice a4 m.paces.length p4,.int .i64 m.now]/\Smy wr (.slice a0 m.rooms.length p0) (.slice a1 m.guilds.length p1) (.slice (some ⟨sb,off,none⟩) m.smiths.length p2) (.slice a3 m.desks.length p3) (.slice a4 m.paces.length p4) m/\Below w.heap.size w wr) (fun i _=>m.desks.length-(intOf i).toNat)
  case atStart=>exact ⟨0,Nat.zero_le _,rfl,rfl,uh kb,uh Hv,uh BB⟩
  case round=>
   obtain ⟨j,hj,rfl,hno2,hkb,hv,hb0⟩:=hrel
   have Hno2:=Z9 hno2
   obtain ⟨WQ,rfl⟩:∃ x,x=wr:=⟨wr,rfl⟩
   clear hno2 kb Hv BB
   have kb:=Z9 hkb
   have Hv:=Z9 hv
   have BB:=Z9 hb0
   clear hkb hv hb0
   obtain ⟨c0,c1,c2,c3,c4,c5⟩:=(uh kb).c6
   by_cases hlj:j<m.desks.length
   rotate_left
   ·have hlj1:¬ ((j:Int)<(m.desks.length:Int)):=by omega
    obtain rfl:j=m.desks.length:=by omega
    go_wp2_with fail
    go_roundw
    case rel=>exact ⟨k+1,by omega,by go_num,by rw [uh HN none (by rw [uh HMA];exact uh Hno2)];rfl,uh kb,uh Hv,uh BB⟩
    case measure=>simp [intOf];omega
   have hlj1:(j:Int)<(m.desks.length:Int):=by omega
   have HS:Hid (∀ q,OI m k j=q->Wo m k (j+1)=if q then some j else none):=Z9 (fun q e=>by unfold Wo;rw [uh Hno2,e])
   obtain ⟨qi,hqi⟩:∃ q,WI m j=q:=⟨_,rfl⟩
   obtain ⟨qm,hqm⟩:∃ q,Ym m (k:Int) j=q:=⟨_,rfl⟩
   obtain ⟨qf,hqf⟩:∃ q,VV wa 0 (YV m.rooms (j:Int))=q:=⟨_,rfl⟩
   have HB2:Hid (OI m k j=(qi && (qm && qf))):=Z9 (by unfold OI;rw [hqi,hqm,uh HWa,hqf])
   have hfov:=Tl ((uh HSa).bench hlj)
   have H1:=Z9 (fun (X:World) (hX:Below WQ.heap.size WQ X)=>Calls.bool_of (Qx ((uh Hv).below hX) hlj (by omega)) hqi)
   have H2:=Z9 (fun (X:World) (hX:Below WQ.heap.size WQ X)=>Calls.bool_of (Uf ((uh Hv).below hX) hlt hlj (by omega) (uh Hmy2).1 (uh Hmy2).2) hqm)
   have H3:=Z9 (fun (X:World) (hX:Below WQ.heap.size WQ X)=>uh HWb X ((uh Hv).below hX))
   have H4:=Z9 (fun (X:World) (hX:Below WQ.heap.size WQ X)=>Wb (j:Int) ((uh Hv).below hX).rooms ((uh HSa).bench hlj))
   rw [<-hfov] at H4
   have H5:=Z9 (fun (X:World)=>Calls.bool_of (Calls.same_below (VD wa 0 (YV m.rooms (j:Int)) X)) hqf)
   clear hqi hqm hqf hfov
   generalize YV m.rooms (j:Int)=fj at *
   have y0:=cell_regrown c0
   have y1:=cell_regrown c1
   have y2:=cell_regrown c2
   have y3:=cell_regrown c3
   have y4:=cell_regrown c4
   have y5:=cell_regrown c5
   cases qi
   ·go_wp2_with fail
    refine wp_region_quiet_below (by kernel_rfl) (by kernel_rfl) ?_
    repeat (go_big_quiet_step (first | exact Calls.regrown_of (uh H1 _ (below_regrown _ _ _)) | exact Calls.regrown_of (uh H2 _ (below_regrown _ _ _)) | exact Calls.regrown_of (uh H3 _ (below_regrown _ _ _)) | exact Calls.regrown_of (uh H4 _ (below_regrown _ _ _)) | exact Calls.regrown_of (uh H5 _)))
    refine wpQuiet_nil ?_
    intro W9 hw'
    have hb:Below WQ.heap.size WQ W9:=by
     obtain ⟨⟨dq,osq⟩,hw''⟩:=hw'
     subst hw''
     exact below_regrown _ _ _
    clear hw'
    replace Hv:=Z9 ((uh Hv).below hb)
    replace kb:=bl kb hb
    replace BB:=bt BB hb
    clear hb
    go_wp2_with fail
    go_roundw
    case rel=>exact ⟨j+1,by omega,by go_num,by rw [uh HS _ (uh HB2)];rfl,uh kb,uh Hv,uh BB⟩
    case measure=>simp [intOf];omega
   cases qm
   ·go_wp2_with fail
    refine wp_region_quiet_below (by kernel_rfl) (by kernel_rfl) ?_
    repeat (go_big_quiet_step (first | exact Calls.regrown_of (uh H1 _ (below_regrown _ _ _)) | exact Calls.regrown_of (uh H2 _ (below_regrown _ _ _)) | exact Calls.regrown_of (uh H3 _ (below_regrown _ _ _)) | exact Calls.regrown_of (uh H4 _ (below_regrown _ _ _)) | exact Calls.regrown_of (uh H5 _)))
    refine wpQuiet_nil ?_
    intro W9 hw'
    have hb:Below WQ.heap.size WQ W9:=by
     obtain ⟨⟨dq,osq⟩,hw''⟩:=hw'
     subst hw''
     exact below_regrown _ _ _
    clear hw'
    replace Hv:=Z9 ((uh Hv).below hb)
    replace kb:=bl kb hb
    replace BB:=bt BB hb
    clear hb
    go_wp2_with fail
    go_roundw
    case rel=>exact ⟨j+1,by omega,by go_num,by rw [uh HS _ (uh HB2)];rfl,uh kb,uh Hv,uh BB⟩
    case measure=>simp [intOf];omega
   cases qf
   ·go_wp2_with fail
    refine wp_region_quiet_below (by kernel_rfl) (by kernel_rfl) ?_
    repeat (go_big_quiet_step (first | exact Calls.regrown_of (uh H1 _ (below_regrown _ _ _)) | exact Calls.regrown_of (uh H2 _ (below_regrown _ _ _)) | exact Calls.regrown_of (uh H3 _ (below_regrown _ _ _)) | exact Calls.regrown_of (uh H4 _ (below_regrown _ _ _)) | exact Calls.regrown_of (uh H5 _)))
    refine wpQuiet_nil ?_
    intro W9 hw'
    have hb:Below WQ.heap.size WQ W9:=by
     obtain ⟨⟨dq,osq⟩,hw''⟩:=hw'
     subst hw''
     exact below_regrown _ _ _
    clear hw'
    replace Hv:=Z9 ((uh Hv).below hb)
    replace kb:=bl kb hb
    replace BB:=bt BB hb
    clear hb
    go_wp2_with fail
    go_roundw
    case rel=>exact ⟨j+1,by omega,by go_num,by rw [uh HS _ (uh HB2)];rfl,uh kb,uh Hv,uh BB⟩
    case measure=>simp [intOf];omega
   go_wp2_with fail
   refine wp_region_quiet_below (by kernel_rfl) (by kernel_rfl) ?_
   repeat (go_big_quiet_step (first | exact Calls.regrown_of (uh H1 _ (below_regrown _ _ _)) | exact Calls.regrown_of (uh H2 _ (below_regrown _ _ _)) | exact Calls.regrown_of (uh H3 _ (below_regrown _ _ _)) | exact Calls.regrown_of (uh H4 _ (below_regrown _ _ _)) | exact Calls.regrown_of (uh H5 _)))
   refine wpQuiet_nil ?_
   intro W9 hw'
   have hb:Below WQ.heap.size WQ W9:=by
    obtain ⟨⟨dq,osq⟩,hw''⟩:=hw'
    subst hw''
    exact below_regrown _ _ _
   clear hw'
   replace Hv:=Z9 ((uh Hv).below hb)
   replace kb:=bl kb hb
   replace BB:=bt BB hb
   clear hb
   have HR:Hid (tv= .tuple #[.int .i64 (k:Int),.int .i64 (j:Int),.bool true]):=Z9 (by
    rw [uh HW,EA (k:=k+1) (w:=k) (b:=j) (by rw [uh HN (some j) (by rw [uh HMA];exact FI (k:=j+1) (by rw [uh HS _ (uh HB2)];rfl) (by omega))];rfl) (by omega)]
    rfl)
   obtain rfl:=uh HR
   go_wp2_with fail
   refine bodyPost_ret (v:= .tuple #[.int .i64 (k:Int),.int .i64 (j:Int),.bool true]) (by simp [results,Tryz.results349,go_sem]) rfl ⟨rfl,uh BB⟩
set_option maxRecDepth 100000
theorem Qg  (h:Smy w v0 v1 v2 v3 v4 m) :
  Calls Tryz.prog 350 #[.agg #[v0,v1,v2,v3,v4,.int .i64 m.now]] w fun e w'=>e= .returned (Gx (Wg m))/\Below w.heap.size w w':=by
 have Hv0:=Z9 (h.alloc (.cells #[v0,v1,v2,v3,v4,.int .i64 m.now] 32))
 obtain ⟨a0,p0,a1,p1,a2,p2,a3,p3,a4,p4,rfl,rfl,rfl,rfl,rfl,_,_,_,_,_,_,_,_,_,_⟩:=h.five
 clear h
 obtain ⟨BB0,kb0⟩:=Xj w 32 (S6 a0 p0 a1 p1 a2 p2 a3 p3 a4 p4 m)
 obtain ⟨tv,htv⟩:∃ t,Gx (Wg m)=t:=⟨_,rfl⟩
 rw [htv]
 obtain ⟨ok,hok⟩:∃ q,ZP m=q:=⟨_,rfl⟩
 have Hok:=Z9 hok
 have HT:=Z9 htv
 clear hok htv
 cases ok
 ·obtain rfl:tv= .tuple #[.int .i64 0,.int .i64 0,.bool false]:=by rw [<-uh HT];unfold Wg;rw [uh Hok];rfl
  go_enter Tryz.func350,Tryz.ntmps350
  go_wp2_with fail
  go_loopw [5] (fun i wr=>i= .int .i64 0/\Blk wr w.heap.size 32 (S6 a0 p0 a1 p1 a2 p2 a3 p3 a4 p4 m)/\Smy wr (.slice a0 m.rooms.length p0) (.slice a1 m.guilds.length p1) (.slice a2 m.smiths.length p2) (.slice a3 m.desks.length p3) (.slice a4 m.paces.length p4) m/\Below w.heap.size w wr) (fun _ _=>1)
  case atStart=>exact ⟨rfl,uh kb0,uh Hv0,uh BB0⟩
  case round=>
   obtain ⟨rfl,hkb,hv,hb0⟩:=hrel
   have kb:=Z9 hkb
   have Hv:=Z9 hv
   have BB:=Z9 hb0
   clear hkb hv hb0 kb0 Hv0 BB0
   obtain ⟨c0,c1,c2,c3,c4,c5⟩:=(uh kb).c6
   by_cases hlt:0<m.desks.length
   ·have hlt1:(0:Int)<(m.desks.length:Int):=by omega
    go_wp2_with fail
    refine (Yb (uh Hok) (uh Hv)).mono ?_
    rintro e w1 ⟨rfl,hb⟩
    replace BB:=bt BB hb
    clear hb
    go_wp2_with fail
    refine bodyPost_ret (v:= .tuple #[.int .i64 0,.int .i64 0,.bool false]) (by simp [results,Tryz.results350,go_sem]) rfl ⟨rfl,uh BB⟩
   ·have hlt1:¬ ((0:Int)<(m.desks.length:Int)):=by omega
    go_wp2_with fail
    refine bodyPost_ret (v:= .tuple #[.int .i64 0,.int .i64 0,.bool false]) (by simp [results,Tryz.results350,go_sem]) rfl ⟨rfl,uh BB⟩
 have hlo:=ZU (uh Hok)
 have HLo:=Z9 hlo
 have h12:=Y3 hlo
 have h8:=WT hlo
 clear hlo
 have HW:Hid (tv=Gx (Xt m m.desks.length)):=Z9 (by rw [<-uh HT];unfold Wg;rw [uh Hok];rfl)
 clear HT
 go_enter Tryz.func350,Tryz.ntmps350
 go_wp2_with fail
 go_loopw [5] (fun i wr=> ∃ k:Nat,k<=m.desks.length/\i= .int .i64 k/\Xt m k=none/\Blk wr w.heap.size 32 (S6 a0 p0 a1 p1 a2 p2 a3 p3 a4 p4 m)/\Smy wr (.slice a0 m.rooms.length p0) (.slice a1 m.guilds.length p1) (.slice a2 m.smiths.length p2) (.slice a3 m.desks.length p3) (.slice a4 m.paces.length p4) m/\Below w.heap.size w wr) (fun i _=>m.desks.length-(intOf i).toNat)
 case atStart=>exact ⟨0,Nat.zero_le _,rfl,rfl,uh kb0,uh Hv0,uh BB0⟩
 case round=>
  obtain ⟨k,hk,rfl,hno,hkb,hv,hb0⟩:=hrel
  have Hno:=Z9 hno
  clear hno
  have kb:=Z9 hkb
  have Hv:=Z9 hv
  have BB:=Z9 hb0
  clear hkb hv hb0
  clear kb0 Hv0 BB0
  obtain ⟨c0,c1,c2,c3,c4,c5⟩:=(uh kb).c6
  by_cases hlt:k<m.desks.length
  rotate_left
  ·have hlt1:¬ ((k:Int)<(m.desks.length:Int)):=by omega
   obtain rfl:k=m.desks.length:=by omega
   obtain rfl:tv= .tuple #[.int .i64 0,.int .i64 0,.bool false]:=by rw [uh HW,uh Hno];rfl
   go_wp2_with fail
   refine bodyPost_ret (v:= .tuple #[.int .i64 0,.int .i64 0,.bool false]) (by simp [results,Tryz.results350,go_sem]) rfl ⟨rfl,uh BB⟩
  have hlt1:(k:Int)<(m.desks.length:Int):=by omega
  go_wp2_with fail
  refine (Yb (uh Hok) (uh Hv)).mono ?_
  rintro e w1 ⟨rfl,hb⟩
  replace Hv:=Z9 ((uh Hv).below hb)
  replace kb:=bl kb hb
  replace BB:=bt BB hb
  clear hb c0 c1 c2 c3 c4 c5
  obtain ⟨qi,hqi⟩:∃ q,WI m k=q:=⟨_,rfl⟩
  have Hqi:=Z9 hqi
  clear hqi
  have HN:Hid (∀ w9,Rw m k=w9->Xt m (k+1)=w9.map fun x=>(x,k)):=Z9 (fun w9 e=>by unfold Xt;rw [uh Hno,e])
  obtain ⟨c0,c1,c2,c3,c4,c5⟩:=(uh kb).c6
  go_wp2_with fail
  refine (Qx (uh Hv) hlt (by omega)).mono ?_
  rw [uh Hqi]
  rintro e w2 ⟨rfl,hb⟩
  replace Hv:=Z9 ((uh Hv).below hb)
  replace kb:=bl kb hb
  replace BB:=bt BB hb
  clear hb c0 c1 c2 c3 c4 c5
  cases qi
  ·go_wp2_with fail
   go_roundw
   case rel=>exact ⟨k+1,by omega,by go_num,by rw [uh HN none (by unfold Rw;rw [uh Hqi];rfl)];rfl,uh kb,uh Hv,uh BB⟩
   case measure=>simp [intOf];omega
  go_wp2_with fail
  go_loopw [6] (fun i wr=> ∃ j:Nat,j<=m.smiths.length/\i= .int .i64 j/\V0 m k j=none/\Blk wr w.heap.size 32 (S6 a0 p0 a1 p1 a2 p2 a3 p3 a4 p4 m)/\Smy wr (.slice a0 m.rooms.length p0) (.slice a1 m.guilds.length p1) (.slice a2 m.smiths.length p2) (.slice a3 m.desks.length p3) (.slice a4 m.paces.length p4) m/\Below w.heap.size w wr) (fun i _=>m.smiths.length-(intOf i).toNat)
  case atStart=>exact ⟨0,Nat.zero_le _,rfl,rfl,uh kb,uh Hv,uh BB⟩
  case round=>
   obtain ⟨j,hj,rfl,hno2,hkb,hv,hb0⟩:=hrel
   have Hno2:=Z9 hno2
   clear hno2 kb Hv BB
   have kb:=Z9 hkb
   have Hv:=Z9 hv
   have BB:=Z9 hb0
   clear hkb hv hb0
   obtain ⟨c0,c1,c2,c3,c4,c5⟩:=(uh kb).c6
   by_cases hlj:j<m.smiths.length
   rotate_left
   ·have hlj1:¬ ((j:Int)<(m.smiths.length:Int)):=by omega
    obtain rfl:j=m.smiths.length:=by omega
    go_wp2_with fail
    go_roundw
    case rel=>exact ⟨k+1,by omega,by go_num,by rw [uh HN none (by unfold Rw;rw [uh Hqi];exact uh Hno2)];rfl,uh kb,uh Hv,uh BB⟩
    case measure=>simp [intOf];omega
   have hlj1:(j:Int)<(m.smiths.length:Int):=by omega
   have HS:Hid (∀ q,QQ m j k=q->V0 m k (j+1)=if q then some j else none):=Z9 (fun q e=>by unfold V0;rw [uh Hno2,e])
   have HB:Hid (QQ m j k=((Z8 m.smiths j).1 ==2 && Ym m (j:Int) k)):=Z9 rfl
   obtain ⟨_,_,hse,_,_,r2⟩:=(uh Hv).smiths
   cases hse
   rcases r2 with e0 | ⟨sb,off,rfl,hbw,hcl⟩
   ·rw [e0] at hlj;simp at hlj
   obtain ⟨d0,_⟩:=ZK hcl hlj
   clear hcl
   obtain ⟨st,hst⟩:∃ q,(Z8 m.smiths j).1=q:=⟨_,rfl⟩
   rw [hst] at d0
   by_cases h2:st=2
   rotate_left
   ·have hn2:(st ==2)=false:=by simpa using h2
    have HB2:Hid (QQ m j k=false):=Z9 (by rw [uh HB,hst,hn2];rfl)
    clear hst
    go_wp2_with fail
    go_roundw
    case rel=>exact ⟨j+1,by omega,by go_num,by rw [uh HS _ (uh HB2)];rfl,uh kb,uh Hv,uh BB⟩
    case measure=>simp [intOf];omega
   subst h2
   have hlim:=(uh HLo).limits hlj (by rw [hst];omega)
   have hmy:0<=(Z8 m.smiths j).2.2.2.1/\(Z8 m.smiths j).2.2.2.1<=255:=by
    have hp:=hlim.1
    generalize Z8 m.smiths j=s at *
    obtain ⟨st,be,rk,my,gu,lo',hi',hd,ca,ut,wk⟩:=s
    have:=(Zn hp).2.2.2.1
    exact ⟨by show 0<=my;omega,this.2⟩
   obtain ⟨qm,hqm⟩:∃ q,Ym m (j:Int) k=q:=⟨_,rfl⟩
   have Hqm:=Z9 hqm
   have HB2:Hid (QQ m j k=qm):=Z9 (by rw [uh HB,hst,hqm];rfl)
   have HM:=Z9 (fun (X:World) (hX:Smy X (.slice a0 m.rooms.length p0) (.slice a1 m.guilds.length p1) (.slice (some ⟨sb,off,none⟩) m.smiths.length p2) (.slice a3 m.desks.length p3) (.slice a4 m.paces.length p4) m)=>Uf hX hlj hlt (by omega) hmy.1 hmy.2)
   clear hst hlim hmy hqm
   go_wp2_with fail
   refine (uh HM _ (uh Hv)).mono ?_
   rw [uh Hqm]
   rintro e w3 ⟨rfl,hb⟩
   replace Hv:=Z9 ((uh Hv).below hb)
   replace kb:=bl kb hb
   replace BB:=bt BB hb
   clear hb c0 c1 c2 c3 c4 c5 d0 HM
   cases qm
   ·go_wp2_with fail
    go_roundw
    case rel=>exact ⟨j+1,by omega,by go_num,by rw [uh HS _ (uh HB2)];rfl,uh kb,uh Hv,uh BB⟩
    case measure=>simp [intOf];omega
   have HR:Hid (tv= .tuple #[.int .i64 (j:Int),.int .i64 (k:Int),.bool true]):=Z9 (by
    rw [uh HW,JG (k:=k+1) (w:=j) (b:=k) (by rw [uh HN (some j) (by unfold Rw;rw [uh Hqi];exact GD (k:=j+1) (by rw [uh HS _ (uh HB2)];rfl) (by omega))];rfl) (by omega)]
    rfl)
   obtain rfl:=uh HR
   go_wp2_with fail
   refine bodyPost_ret (v:= .tuple #[.int .i64 (j:Int),.int .i64 (k:Int),.bool true]) (by simp [results,Tryz.results350,go_sem]) rfl ⟨rfl,uh BB⟩
set_option linter.unusedSimpArgs false
def Dm (n₀:Nat) (M:Z4) (e:Ending) (w':World):Prop:=
 ∃ u0 u1 u2 u3 u4 qs,e= .returned (.agg #[u0,u1,u2,u3,u4,.int .i64 M.now])/\FullSmy n₀ w' u0 u1 u2 u3 u4 M qs
theorem Rp  (h:Smy w v0 v1 v2 v3 v4 m) :
  Calls Tryz.prog 321 #[.agg #[v0,v1,v2,v3,v4,.int .i64 m.now]] w fun e w'=>Dm w.heap.size (WW m) e w'/\Below w.heap.size w w':=by
 obtain ⟨X,hX⟩:∃ x,WW m=x:=⟨_,rfl⟩
 rw [hX]
 have HX:=Z9 hX
 clear hX
 have Hv0:=Z9 h
 obtain ⟨a0,p0,a1,p1,a2,p2,a3,p3,a4,p4,rfl,rfl,rfl,rfl,rfl,_,_,_,_,_,_,_,_,_,_⟩:=h.five
 clear h
 obtain ⟨ok,hok⟩:∃ q,ZP m=q:=⟨_,rfl⟩
 have Hok:=Z9 hok
 clear hok
 go_enter Tryz.func321,Tryz.ntmps321
 go_wp2_with fail
 obtain ⟨W,hW,kb,kr,BB⟩:=YQ w 32 (S6 a0 p0 a1 p1 a2 p2 a3 p3 a4 p4 m) 32 E6
 have Hv:=Z9 ((uh Hv0).below (uh BB))
 clear Hv0
 rw [hW]
 clear hW
 refine (Yb (uh Hok) (uh Hv)).mono ?_
 rintro e w1 ⟨rfl,hb⟩
 replace kb:=bl kb hb
 replace kr:=bl kr hb
 replace Hv:=Z9 ((uh Hv).below hb)
 replace BB:=bt BB hb
 clear hb
 cases ok
 ·
  obtain ⟨o0,o1,o2,o3,o4,o5⟩:=(uh kr).c6
  obtain ⟨f0,f1,f2,f3,f4,f5⟩:=(uh kr).f6
  go_wp2_with fail
  have hX0:X=YM:=by rw [<-uh HX];unfold WW;rw [uh Hok];rfl
  refine bodyPost_ret (v:= .agg E6) (by simp [results,Tryz.results321,go_sem, *]) rfl ⟨?_,?_⟩
  ·rw [hX0];exact ⟨_,_,_,_,_,[],rfl,Zd _ _⟩
  ·iterate 6 (refine Below.setCell ?_ (by show _<=w.heap.size+1;omega) _)
   exact uh BB
 have hlo:=ZU (uh Hok)
 have HLo:=Z9 hlo
 have HFew:=Z9 (XO hlo)
 clear hlo
 obtain ⟨c0,c1,c2,c3,c4,c5⟩:=(uh kb).c6
 go_wp2_with fail
 clear c0 c1 c2 c3 c4 c5
 have hWs:w.heap.size+2<=w1.heap.size:=by have:=(uh kr).lt;omega
 refine (ZB (uh Hv) (uh HFew)).mono ?_
 rintro e w2 ⟨y0,y1,y2,y3,y4,oq,rfl,ho,hb⟩
 have k9:=ho.smy
 obtain ⟨b0,q0,b1,q1,b2,q2,b3,q3,b4,q4,rfl,rfl,rfl,rfl,rfl,_,_,_,_,_,_,_,_,_,_⟩:=k9.five
 clear k9
 replace kb:=bl kb hb
 replace kr:=bl kr hb
 replace Hv:=Z9 ((uh Hv).below hb)
 replace BB:=bt BB hb
 have HO:=Z9 (ho.mono hWs)
 have LO:Hid (∀ k,YG (.slice b0 m.rooms.length q0) (.slice b1 m.guilds.length q1) (.slice b2 m.smiths.length q2) (.slice b3 m.desks.length q3) (.slice b4 m.paces.length q4) oq k->w.heap.size+2<=k/\k<w2.heap.size):=Z9 (fun k e=>(uh HO).own e)
 have hsz9:=hb.size
 clear ho hb
 go_upto_region 4 with fail
 obtain ⟨W2,hW2,hba,ko⟩:=ZA w2 32 (S6 b0 q0 b1 q1 b2 q2 b3 q3 b4 q4 m)
 replace kb:=bl kb hba
 replace kr:=bl kr hba
 replace Hv:=Z9 ((uh Hv).below hba)
 replace HO:=Z9 ((uh HO).below hba)
 replace BB:=bt BB hba
 have hob:w.heap.size+2<=w2.heap.size:=Nat.le_trans hWs hsz9
 clear hba hsz9 hWs
 rw [hW2]
 clear hW2
 generalize w2.heap.size=ob at *
 have HX2:Hid (U2 m=X):=Z9 (by rw [<-uh HX];unfold WW;rw [uh Hok];rfl)
 have hofR:∀ k,YG (.slice b0 m.rooms.length q0) (.slice b1 m.guilds.length q1) (.slice b2 m.smiths.length q2) (.slice b3 m.desks.length q3) (.slice b4 m.paces.length q4) oq k->k ≠ ob:=fun k e=>by have:=(uh LO k e).2;omega
 have H2:Hid ((Value.slice b2 m.smiths.length q2).ownBlock ≠ some ob):=Z9 (fun e=>hofR _ (.inr (.inr (.inr (.inl e)))) rfl)
 have H3:Hid ((Value.slice b3 m.desks.length q3).ownBlock ≠ some ob):=Z9 (fun e=>hofR _ (.inr (.inr (.inr (.inr (.inl e))))) rfl)
 clear hofR
 go_wp2_with fail
 go_loopg [4] (TP m+1) (fun k i wr=> ∃ (M:Z4) (more:Bool),i= .bool more/\k=(if more=true then TP M+1 else 0)/\ZP M=true/\M.now=m.now/\U2 M=U2 m/\(more=false->Vx M=none)/\FullSmy (w.heap.size+2) wr (.slice b0 m.rooms.length q0) (.slice b1 m.guilds.length q1) (.slice b2 m.smiths.length q2) (.slice b3 m.desks.length q3) (.slice b4 m.paces.length q4) M oq/\Two (Value.slice b2 m.smiths.length q2).ownBlock (Value.slice b3 m.desks.length q3).ownBlock W2 wr)
 case atStart=>exact ⟨m,true,rfl,rfl,uh Hok,rfl,rfl,(fun e=>by cases e),uh HO,Two.refl _ _ _⟩
 case round=>
  obtain ⟨M,more,rfl,hgk,hsm,hnow,hlv,hno,hf1,htw⟩:=hrel
  have HF1:=Z9 hf1
  have Tw:=Z9 htw
  have Hsm:=Z9 hsm
  have Hnow:=Z9 hnow
  have Hlv:=Z9 hlv
  have Hno:=Z9 hno
  replace ko:=Z9 ((uh ko).two htw (uh H2) (uh H3))
  clear hf1 htw hsm hnow hlv hno
  cases more
  ·
   clear hgk
   replace kr:=Z9 ((uh kr).two (uh Tw) (fun e=>by have:=(uh LO _ (.inr (.inr (.inr (.inl e))))).1;omega) (fun e=>by have:=(uh LO _ (.inr (.inr (.inr (.inr (.inl e)))))).1;omega))
   replace BB:=Z9 ((uh BB).trans ((uh Tw).below (uh BB).size (fun k e=>by have:=(uh LO k (.inr (.inr (.inr (.inl e))))).1;omega) (fun k e=>by have:=(uh LO k (.inr (.inr (.inr (.inr (.inl e)))))).1;omega)))
   obtain ⟨x0,x1,x2,x3,x4,x5⟩:=(uh ko).c6
   obtain ⟨o0,o1,o2,o3,o4,o5⟩:=(uh kr).c6
   obtain ⟨f0,f1,f2,f3,f4,f5⟩:=(uh kr).f6
   go_wp2_with fail
   have hX0:X=M:=by rw [<-uh HX2,<-uh Hlv];exact KJ (uh Hno (by trivial))
   refine bodyPost_ret (v:= .agg (S6 b0 q0 b1 q1 b2 q2 b3 q3 b4 q4 m)) (by simp [results,Tryz.results321,go_sem, *]) rfl ⟨?_,?_⟩
   ·rw [hX0];refine ⟨_,_,_,_,_,oq,by rw [uh Hnow],?_⟩
    iterate 6 (refine FullSmy.set_off ?_ (fun k e=>by have:=(uh LO k e).1;omega) _ _)
    exact (uh HF1).mono (by omega)
   ·iterate 6 (refine Below.setCell ?_ (by show _<=w.heap.size+1;omega) _)
    exact uh BB
  simp only [if_true] at hgk
  subst hgk
  clear Hno
  obtain ⟨mi,hmi⟩:∃ q,VR M=q:=⟨_,rfl⟩
  have hc:=PA (uh HF1).smy
  rw [uh Hnow] at hc
  have Hc:=Z9 hc
  clear hc
  rw [hmi] at Hc
  have Hmi:=Z9 hmi
  clear hmi
  obtain ⟨x0,x1,x2,x3,x4,x5⟩:=(uh ko).c6
  cases mi with
  | some r=>
   obtain ⟨wh,bb⟩:=r
   have Hc2:Hid (Calls Tryz.prog 349 #[.agg (S6 b0 q0 b1 q1 b2 q2 b3 q3 b4 q4 m)] wr fun e w'=>e= .returned (.tuple #[.int .i64 (wh:Int),.int .i64 (bb:Int),.bool true])/\Below wr.heap.size wr w'):=Hc
   clear Hc
   have Hc:=Hc2
   clear Hc2
   go_wp2_with fail
   clear x0 x1 x2 x3 x4 x5
   refine (uh Hc).mono ?_
   rintro e w5 ⟨rfl,hb⟩
   replace HF1:=Z9 ((uh HF1).below hb)
   replace ko:=bl ko hb
   replace Tw:=Z9 ((uh Tw).trans (Two.of_below hb))
   clear hb Hc
   have hmv:Vx M=some (wh,bb):=by unfold Vx;rw [uh Hmi]
   have mv:=TD hmv
   have Hmv:=Z9 hmv
   obtain ⟨a0',a1',_⟩:=(ZU (uh Hsm)).at mv.who mv.pres
   obtain ⟨bn,hbn⟩:∃ bn:Nat,(Z8 M.smiths wh).2.1=(bn:Int):=⟨(Z8 M.smiths wh).2.1.toNat,by omega⟩
   have Hbn:=Z9 hbn
   have hbl:bn<M.desks.length:=by omega
   have Mv:=Z9 mv
   have Hbl:=Z9 hbl
   clear hmv hbn hbl a0' a1' mv
   have k8:Hid (Blk w5 ob 32 #[.slice b0 m.rooms.length q0,.slice b1 m.guilds.length q1,.slice b2 m.smiths.length q2,.slice b3 m.desks.length q3,.slice b4 m.paces.length q4,.int .i64 M.now]):=Z9 (by rw [uh Hnow];exact uh ko)
   go_wp2_with fail
   refine (Vt (m:=M) (k:=wh) (bn:=bn) (b:=bb) (uh k8) (uh HF1) (uh H2) (uh H3) (uh Mv).who (uh Hbn) (uh Hbl) (uh Mv).bench).mono ?_
   rintro e w7 ⟨rfl,hf7,ht7⟩
   have k7:Hid (Blk w7 ob 32 #[.slice b0 m.rooms.length q0,.slice b1 m.guilds.length q1,.slice b2 m.smiths.length q2,.slice b3 m.desks.length q3,.slice b4 m.paces.length q4,.int .i64 M.now]):=Z9 ((uh k8).two ht7 (uh H2) (uh H3))
   have HF7:=Z9 hf7
   have T7:=Z9 ((uh Tw).trans ht7)
   clear hf7 ht7 k8
   have h12:=Y3 (ZU (uh Hsm))
   have h8:=(ZU (uh Hsm)).sane.eight
   have hl12:(U3 M wh bb).smiths.length<=800:=by rw [Vz];omega
   have hd8:(U3 M wh bb).desks.length<=1000:=by show M.desks.length<=1000;omega
   have Hl12:=Z9 hl12
   have Hd8:=Z9 hd8
   clear h12 h8 hl12 hd8
   go_wp2_with fail
   refine (Tu (m:=U3 M wh bb) (uh k7) (uh HF7) (uh H2) (uh H3) (uh Hl12) (uh Hd8)).mono ?_
   rintro e w8 ⟨rfl,hf8,ht8⟩
   have HF8:=Z9 hf8
   have T8:=Z9 ((uh T7).trans ht8)
   clear hf8 ht8
   go_wp2_with fail
   go_roundg (TP (Vy M wh bb)+1)
   case measure=>have:=(uh Mv).falls;omega
   case rel=>exact ⟨Vy M wh bb,true,rfl,rfl,(uh Mv).keeps,((ZQ _ _).2.2.2.1).trans (uh Hnow),(Nk (uh Hmv)).symm.trans (uh Hlv),(fun e=>by cases e),uh HF8,uh T8⟩
  | none=>
   have Hc2:Hid (Calls Tryz.prog 349 #[.agg (S6 b0 q0 b1 q1 b2 q2 b3 q3 b4 q4 m)] wr fun e w'=>e= .returned (.tuple #[.int .i64 0,.int .i64 0,.bool false])/\Below wr.heap.size wr w'):=Hc
   clear Hc
   have Hc:=Hc2
   clear Hc2
   go_wp2_with fail
   clear x0 x1 x2 x3 x4 x5
   refine (uh Hc).mono ?_
   rintro e w5 ⟨rfl,hb⟩
   replace HF1:=Z9 ((uh HF1).below hb)
   replace ko:=bl ko hb
   replace Tw:=Z9 ((uh Tw).trans (Two.of_below hb))
   clear hb Hc
   obtain ⟨wi,hwi⟩:∃ q,Wg M=q:=⟨_,rfl⟩
   have hc:=Qg (uh HF1).smy
   rw [uh Hnow] at hc
   have Hc:=Z9 hc
   clear hc
   rw [hwi] at Hc
   have hmv:Vx M=wi:=by unfold Vx;rw [uh Hmi];exact hwi
   clear hwi
   obtain ⟨x0,x1,x2,x3,x4,x5⟩:=(uh ko).c6
   cases wi with
   | some r=>
    obtain ⟨wh,bb⟩:=r
    have Hc2:Hid (Calls Tryz.prog 350 #[.agg (S6 b0 q0 b1 q1 b2 q2 b3 q3 b4 q4 m)] w5 fun e w'=>e= .returned (.tuple #[.int .i64 (wh:Int),.int .i64 (bb:Int),.bool true])/\Below w5.heap.size w5 w'):=Hc
    clear Hc
    have Hc:=Hc2
    clear Hc2
    have Hm0:=Z9 hmv
    clear hmv
    go_wp2_with fail
    clear x0 x1 x2 x3 x4 x5
    refine (uh Hc).mono ?_
    rintro e w6 ⟨rfl,hb⟩
    replace HF1:=Z9 ((uh HF1).below hb)
    replace ko:=bl ko hb
    replace Tw:=Z9 ((uh Tw).trans (Two.of_below hb))
    clear hb Hc
    have hmv:=uh Hm0
    clear Hm0
    have mv:=TD hmv
    have Hmv:=Z9 hmv
    obtain ⟨a0',a1',_⟩:=(ZU (uh Hsm)).at mv.who mv.pres
    obtain ⟨bn,hbn⟩:∃ bn:Nat,(Z8 M.smiths wh).2.1=(bn:Int):=⟨(Z8 M.smiths wh).2.1.toNat,by omega⟩
    have Hbn:=Z9 hbn
    have hbl:bn<M.desks.length:=by omega
    have Mv:=Z9 mv
    have Hbl:=Z9 hbl
    clear hmv hbn hbl a0' a1' mv
    have k8:Hid (Blk w6 ob 32 #[.slice b0 m.rooms.length q0,.slice b1 m.guilds.length q1,.slice b2 m.smiths.length q2,.slice b3 m.desks.length q3,.slice b4 m.paces.length q4,.int .i64 M.now]):=Z9 (by rw [uh Hnow];exact uh ko)
    go_wp2_with fail
    refine (Vt (m:=M) (k:=wh) (bn:=bn) (b:=bb) (uh k8) (uh HF1) (uh H2) (uh H3) (uh Mv).who (uh Hbn) (uh Hbl) (uh Mv).bench).mono ?_
    rintro e w7 ⟨rfl,hf7,ht7⟩
    have k7:Hid (Blk w7 ob 32 #[.slice b0 m.rooms.length q0,.slice b1 m.guilds.length q1,.slice b2 m.smiths.length q2,.slice b3 m.desks.length q3,.slice b4 m.paces.length q4,.int .i64 M.now]):=Z9 ((uh k8).two ht7 (uh H2) (uh H3))
    have HF7:=Z9 hf7
    have T7:=Z9 ((uh Tw).trans ht7)
    clear hf7 ht7 k8
    have h12:=Y3 (ZU (uh Hsm))
    have h8:=(ZU (uh Hsm)).sane.eight
    have hl12:(U3 M wh bb).smiths.length<=800:=by rw [Vz];omega
    have hd8:(U3 M wh bb).desks.length<=1000:=by show M.desks.length<=1000;omega
    have Hl12:=Z9 hl12
    have Hd8:=Z9 hd8
    clear h12 h8 hl12 hd8
    go_wp2_with fail
    refine (Tu (m:=U3 M wh bb) (uh k7) (uh HF7) (uh H2) (uh H3) (uh Hl12) (uh Hd8)).mono ?_
    rintro e w8 ⟨rfl,hf8,ht8⟩
    have HF8:=Z9 hf8
    have T8:=Z9 ((uh T7).trans ht8)
    clear hf8 ht8
    go_wp2_with fail
    go_roundg (TP (Vy M wh bb)+1)
    case measure=>have:=(uh Mv).falls;omega
    case rel=>exact ⟨Vy M wh bb,true,rfl,rfl,(uh Mv).keeps,((ZQ _ _).2.2.2.1).trans (uh Hnow),(Nk (uh Hmv)).symm.trans (uh Hlv),(fun e=>by cases e),uh HF8,uh T8⟩
   | none=>
    have Hc2:Hid (Calls Tryz.prog 350 #[.agg (S6 b0 q0 b1 q1 b2 q2 b3 q3 b4 q4 m)] w5 fun e w'=>e= .returned (.tuple #[.int .i64 0,.int .i64 0,.bool false])/\Below w5.heap.size w5 w'):=Hc
    clear Hc
    have Hc:=Hc2
    clear Hc2
    have Hm0:=Z9 hmv
    clear hmv
    go_wp2_with fail
    clear x0 x1 x2 x3 x4 x5
    refine (uh Hc).mono ?_
    rintro e w6 ⟨rfl,hb⟩
    replace HF1:=Z9 ((uh HF1).below hb)
    replace ko:=bl ko hb
    replace Tw:=Z9 ((uh Tw).trans (Two.of_below hb))
    clear hb Hc
    go_wp2_with fail
    go_roundg 0
    case measure=>omega
    case rel=>exact ⟨M,false,rfl,rfl,uh Hsm,uh Hnow,uh Hlv,(fun _=>uh Hm0),uh HF1,uh Tw⟩
set_option maxRecDepth 100000
def ZC (m:Z4) (k who a b:Int):Z4 × Int:=
 if ZP m then (if k=1 then Uz m a b (-1) else if k=2 then Xn m who else if k=3 then UU m who else if k=4 then Yf m who else if k=5 then VA m who a else if k=6 then WC m who a else if k=7 then Vw m who a b else if k=8 then Xc m a else if k=9 then TF m a else if k=10 then TV m a else if k=11 then Vo m a b else if k=12 then (Io m,0) else if k=13 then (WW m,0) else if k=14 then SJ m who a else (m,3)) else (YM,3)
theorem GW (h:ZP m=true) (who a b:Int):ZC m 1 who a b=Uz m a b (-1):=by unfold ZC;rw [h];rfl
theorem GX (h:ZP m=true) (who a b:Int):ZC m 2 who a b=Xn m who:=by unfold ZC;rw [h];rfl
theorem GY (h:ZP m=true) (who a b:Int):ZC m 3 who a b=UU m who:=by unfold ZC;rw [h];rfl
theorem GZ (h:ZP m=true) (who a b:Int):ZC m 4 who a b=Yf m who:=by unfold ZC;rw [h];rfl
theorem G0 (h:ZP m=true) (who a b:Int):ZC m 5 who a b=VA m who a:=by unfold ZC;rw [h];rfl
theorem G5 (h:ZP m=true) (who a b:Int):ZC m 6 who a b=WC m who a:=by unfold ZC;rw [h];rfl
theorem G6 (h:ZP m=true) (who a b:Int):ZC m 7 who a b=Vw m who a b:=by unfold ZC;rw [h];rfl
theorem G7 (h:ZP m=true) (who a b:Int):ZC m 8 who a b=Xc m a:=by unfold ZC;rw [h];rfl
theorem G8 (h:ZP m=true) (who a b:Int):ZC m 9 who a b=TF m a:=by unfold ZC;rw [h];rfl
theorem Kk (h:ZP m=true) (who a b:Int):ZC m 10 who a b=TV m a:=by unfold ZC;rw [h];rfl
theorem Kl (h:ZP m=true) (who a b:Int):ZC m 11 who a b=Vo m a b:=by unfold ZC;rw [h];rfl
theorem Km (h:ZP m=true) (who a b:Int):ZC m 12 who a b=(Io m,0):=by unfold ZC;rw [h];rfl
theorem Kn (h:ZP m=true) (who a b:Int):ZC m 13 who a b=(WW m,0):=by unfold ZC;rw [h];rfl
theorem Kp (h:ZP m=true) (who a b:Int):ZC m 14 who a b=SJ m who a:=by unfold ZC;rw [h];rfl
theorem Qt (h:ZP m=true) {k:Int} (hk:k<1\/14<k) (who a b:Int):ZC m k who a b=(m,3):=by
 unfold ZC
 rw [if_pos h,if_neg (show ¬ k=1 by omega),if_neg (show ¬ k=2 by omega),if_neg (show ¬ k=3 by omega),if_neg (show ¬ k=4 by omega),if_neg (show ¬ k=5 by omega),if_neg (show ¬ k=6 by omega),if_neg (show ¬ k=7 by omega),if_neg (show ¬ k=8 by omega),if_neg (show ¬ k=9 by omega),if_neg (show ¬ k=10 by omega),if_neg (show ¬ k=11 by omega),if_neg (show ¬ k=12 by omega),if_neg (show ¬ k=13 by omega),if_neg (show ¬ k=14 by omega)]
theorem Mu (h:ZP m=true) (k who a b:Int):ZP (ZC m k who a b).1=true:=by
 by_cases hk:k<1\/14<k
 ·rw [Qt h hk];exact h
 rcases (show k=1\/k=2\/k=3\/k=4\/k=5\/k=6\/k=7\/k=8\/k=9\/k=10\/k=11\/k=12\/k=13\/k=14 by omega) with rfl | rfl | rfl | rfl | rfl | rfl | rfl | rfl | rfl | rfl | rfl | rfl | rfl | rfl
 ·rw [GW h];exact Iv h a b (-1)
 ·rw [GX h];exact Pn h who
 ·rw [GY h];exact JH h who
 ·rw [GZ h];exact QE h who
 ·rw [G0 h];exact Jg h who a
 ·rw [G5 h];exact JO h who a
 ·rw [G6 h];exact KP h who a b
 ·rw [G7 h];exact Ml h a
 ·rw [G8 h];exact I7 h a
 ·rw [Kk h];exact Jt h a
 ·rw [Kl h];exact Kg h a b
 ·rw [Km h];exact Fx h
 ·rw [Kn h];exact (show ZP (WW m)=true by unfold WW;rw [h];exact KK h)
 ·rw [Kp h];exact II h who a
end Go.Proofs.YtjhijildaceadaaGreatDoor
