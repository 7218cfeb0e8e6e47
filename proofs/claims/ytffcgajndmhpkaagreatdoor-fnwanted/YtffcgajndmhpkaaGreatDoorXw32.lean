/- Part 32 of what the proof rests on. No condition but those that a theorem names. -/
import Derived.Test.YtffcgajndmhpkaaGreatDoorXw29
set_option maxHeartbeats 8000000
set_option maxRecDepth 100000
namespace Go.Proofs.YtffcgajndmhpkaaGreatDoor
open Go.ChangeShapes Go.WideShapes Go.ChangeAt Go.RowKit Go.Sort
set_option linter.unusedVariables false
set_option linter.unusedSimpArgs false
variable {w w' w0 w1 w2 w3 w₀ wr W W' X A B C : World} {v v0 v1 v2 v3 v4 u u0 u1 u2 u3 u4 : Value} {m : Z4}
def Td (m:Z4) (b:Int):Z4 × Int:=
 if ZP m then (if WX m b then (if (Z8 m.desks b.toNat).1 then (m,2) else (ZX (YH m b.toNat true),0)) else (m,1)) else (YJ,3)
theorem I6 {b:Int} (h:WX m b=true):∃ k:Nat,b=(k:Int)/\k<m.desks.length:=by
 have:=ZU (show inB b 0 ((m.desks.length:Int)-1)=true from h)
 exact ⟨b.toNat,by omega,by omega⟩
theorem Ie (h:ZP m=true) (b:Int):ZP (Td m b).1=true:=by
 unfold Td
 rw [h]
 simp only [if_true]
 split
 ·rename_i hw
  obtain ⟨k,rfl,hk⟩:=I6 hw
  rw [show ((k:Int)).toNat=k by simp]
  split
  ·exact h
  ·exact Y4 (EJ (ZY h) hk)
 ·exact h
theorem OX  (bench:Int) (h:Smy w v0 v1 v2 v3 v4 m) :
  Calls Tryz.prog 251 #[.agg #[v0,v1,v2,v3,v4,.int .i64 m.now],.int .i64 bench] w fun e w'=>TC w.heap.size (Td m bench).1 (Td m bench).2 e w'/\Below w.heap.size w w':=by
 obtain ⟨X,hX⟩:∃ x,Td m bench=x:=⟨_,rfl⟩
 rw [hX]
 have HX:=Z9 hX
 clear hX
 have Hv0:=Z9 h
 obtain ⟨a0,p0,a1,p1,a2,p2,a3,p3,a4,p4,rfl,rfl,rfl,rfl,rfl,_,_,_,_,_,_,_,_,_,_⟩:=h.five
 clear h
 obtain ⟨ok,hok⟩:∃ q,ZP m=q:=⟨_,rfl⟩
 have Hok:=Z9 hok
 clear hok
 go_enter Tryz.func251,Tryz.ntmps251
 go_wp2_with fail
 obtain ⟨W,hW,kb,kr,BB⟩:=YS w 32 (S6 a0 p0 a1 p1 a2 p2 a3 p3 a4 p4 m) 32 E6
 have Hv:=Z9 ((uh Hv0).below (uh BB))
 clear Hv0
 rw [hW]
 clear hW
 refine ck (XX (uh Hok) (uh Hv)) fun w1 hb=> ?_
 replace kb:=bl kb hb
 replace kr:=bl kr hb
 replace Hv:=Z9 ((uh Hv).below hb)
 replace BB:=bt BB hb
 clear hb
 cases ok
 ·
  obtain ⟨c0,c1,c2,c3,c4,c5⟩:=(uh kb).c6
  go_wp2_with fail
  clear c0 c1 c2 c3 c4 c5
  refine ck (Yy (uh Hv)) fun w2 hb=> ?_
  replace kb:=bl kb hb
  replace kr:=bl kr hb
  replace Hv:=Z9 ((uh Hv).below hb)
  replace BB:=bt BB hb
  clear hb
  obtain ⟨o0,o1,o2,o3,o4,o5⟩:=(uh kr).c6
  obtain ⟨f0,f1,f2,f3,f4,f5⟩:=(uh kr).f6
  go_wp2_with fail
  have hX0:X=(YJ,3):=by rw [<-uh HX];unfold Td;rw [uh Hok];rfl
  exact bodyPost_ret (v:= .tuple #[.agg E6,.int .i64 3]) (by simp [results,Tryz.results251,go_sem, *]) rfl (Zr hX0 rfl (Y1 _ _) (uh BB))
 have hlo:=ZY (uh Hok)
 have HLo:=Z9 hlo
 have HFew:=Z9 (XJ hlo)
 clear hlo
 obtain ⟨c0,c1,c2,c3,c4,c5⟩:=(uh kb).c6
 go_wp2_with fail
 clear c0 c1 c2 c3 c4 c5
 refine (U2 (uh Hv) (uh HFew) (uh kb) (uh kr) (uh BB)).mono ?_
 clear kb kr Hv BB
 rintro e w2 ⟨b0,q0,b1,q1,b2,q2,b3,q3,b4,q4,oq,rfl,W2,ob,hW2,hob2,kb,kr,Hv,HO,ko,LO,hob,BB⟩
 go_upto_region 4 with fail
 (try rw [hW2])
 (try rw [hob2])
 clear hW2 hob2
 obtain ⟨qw,hqw⟩:∃ q,WX m bench=q:=⟨_,rfl⟩
 have Hqw:=Z9 hqw
 clear hqw
 obtain ⟨c0,c1,c2,c3,c4,c5⟩:=(uh kb).c6
 go_wp2_with fail
 clear c0 c1 c2 c3 c4 c5
 refine ck (RR (uh Hqw) (uh Hv)) fun w3 hb=> ?_
 replace kb:=bl kb hb
 replace kr:=bl kr hb
 replace Hv:=Z9 ((uh Hv).below hb)
 replace HO:=Z9 ((uh HO).below hb)
 replace ko:=bl ko hb
 replace BB:=bt BB hb
 clear hb
 cases qw
 ·
  obtain ⟨x0,x1,x2,x3,x4,x5⟩:=(uh ko).c6
  obtain ⟨o0,o1,o2,o3,o4,o5⟩:=(uh kr).c6
  obtain ⟨f0,f1,f2,f3,f4,f5⟩:=(uh kr).f6
  go_wp2_with fail
  have hX0:X=(m,1):=by rw [<-uh HX];unfold Td;rw [uh Hok,uh Hqw];rfl
  exact bodyPost_ret (v:= .tuple #[.agg (S6 b0 q0 b1 q1 b2 q2 b3 q3 b4 q4 m),.int .i64 1]) (by simp [results,Tryz.results251,go_sem, *]) rfl (Zr hX0 rfl (uh HO) (uh BB))
 obtain ⟨k,rfl,hk⟩:=I6 (uh Hqw)
 have hk1:(k:Int)<(m.desks.length:Int):=by omega
 obtain ⟨_,_,hde,_,_,r3⟩:=(uh Hv).desks
 cases hde
 rcases r3 with e0 | ⟨db,off,rfl,hbw,hcl⟩
 ·rw [e0] at hk;simp at hk
 obtain ⟨d0,_,_⟩:=Zp hcl hk
 clear hcl
 obtain ⟨op,hop⟩:∃ q,(Z8 m.desks k).1=q:=⟨_,rfl⟩
 rw [hop] at d0
 have Hop:=Z9 hop
 clear hop
 have c3:=(uh kb).cell (i:=3) (v:= .slice (some ⟨db,off,none⟩) m.desks.length p3) rfl
 cases op
 rotate_left
 ·
  obtain ⟨x0,x1,x2,x3,x4,x5⟩:=(uh ko).c6
  obtain ⟨o0,o1,o2,o3,o4,o5⟩:=(uh kr).c6
  obtain ⟨f0,f1,f2,f3,f4,f5⟩:=(uh kr).f6
  go_wp2_with fail
  have hX0:X=(m,2):=by rw [<-uh HX];unfold Td;rw [uh Hok,uh Hqw];simp only [if_true,Int.toNat_natCast];rw [uh Hop];rfl
  exact bodyPost_ret (v:= .tuple #[.agg (S6 b0 q0 b1 q1 b2 q2 b3 q3 b4 q4 m),.int .i64 2]) (by simp [results,Tryz.results251,go_sem, *]) rfl (Zr hX0 rfl (uh HO) (uh BB))
 obtain ⟨g3,hga,_,_,hc3,hz3⟩:=RecAt.view ZG (by omega) (uh HO).desks rfl (by omega)
 cases hga
 have s0:=hc3 k hk 0 _ rfl
 have f0:=hz3 (k*3)
 have x3:=(uh ko).cell (i:=3) (v:= .slice (some ⟨g3,0,none⟩) m.desks.length q3) rfl
 have hput:=(uh HO).putD rfl (j:=k) (i:=0) hk (by omega) (.bool true) (true,(Z8 m.desks k).2) rfl
 simp only [Nat.add_zero] at s0 hput
 have hg3o:=(uh LO g3 (.inr (.inr (.inr (.inr (.inl rfl))))))
 clear hc3 hz3
 go_upto_region 9 with fail
 clear s0 f0 x3 c3 d0
 have HP:=Z9 hput
 clear hput HO
 replace ko:Hid (Blk (w3.setCell ⟨g3,k*3,none⟩ (.bool true)) ob 32 (S6 b0 q0 b1 q1 b2 q2 (some ⟨g3,0,none⟩) q3 b4 q4 m)):=Z9 ((uh ko).other (a:=⟨g3,k*3,none⟩) (by show ob ≠ g3;omega) _)
 replace kr:Hid (Blk (w3.setCell ⟨g3,k*3,none⟩ (.bool true)) (w.heap.size+1) 32 E6):=Z9 ((uh kr).other (a:=⟨g3,k*3,none⟩) (by show w.heap.size+1 ≠ g3;omega) _)
 replace BB:Hid (Below w.heap.size w (w3.setCell ⟨g3,k*3,none⟩ (.bool true))):=Z9 ((uh BB).setCell (p:=⟨g3,k*3,none⟩) (by show w.heap.size<=g3;omega) _)
 clear kb Hv
 generalize w3.setCell ⟨g3,k*3,none⟩ (.bool true)=W3 at *
 have hfw:=uh HFew
 go_wp2_with fail
 refine (VP (m:=YH m k true) (uh ko) (uh HP) (fun k e=>by have:=(uh LO k e).2;omega) (uh kr) (uh BB) (by show m.smiths.length<=800;have:=hfw.smiths;omega) (by show (m.desks.set k _).length<=_;rw [List.length_set];exact hfw.desks)).mono ?_
 clear kr BB
 rintro e w4 ⟨rfl,HF9,kr,BB⟩
 obtain ⟨o0,o1,o2,o3,o4,o5⟩:=(uh kr).c6
 obtain ⟨f0,f1,f2,f3,f4,f5⟩:=(uh kr).f6
 go_wp2_with fail
 have hX0:X=(ZX (YH m k true),0):=by rw [<-uh HX];unfold Td;rw [uh Hok,uh Hqw];simp only [if_true,Int.toNat_natCast];rw [uh Hop];rfl
 have hnow:(ZX (YH m k true)).now=m.now:=(ZQ _ _).2.2.2.1
 exact bodyPost_ret (v:= .tuple #[.agg (S6 b0 q0 b1 q1 b2 q2 (some ⟨g3,0,none⟩) q3 b4 q4 m),.int .i64 0]) (by simp [results,Tryz.results251,go_sem,setS,Xq,YH,pushS, *]) rfl (Zr hX0 hnow (uh HF9) (uh BB))
theorem O3  {q:Bool} (hq:ZP m=q) (h:Smy w v0 v1 v2 v3 v4 m):Calls Tryz.prog 12 #[.agg #[v0,v1,v2,v3,v4,.int .i64 m.now]] w fun e w'=>e= .returned (.bool q)/\Below w.heap.size w w':=by
 have:=Uz h;rw [hq] at this;exact this
def Ft:Option (Nat × Nat)->Value
 | none=> .tuple #[.int .i64 0,.int .i64 0,.bool false]
 | some (w,b)=> .tuple #[.int .i64 (w:Int),.int .i64 (b:Int),.bool true]
theorem FB {b w:Nat} {k n:Nat} (h:VU m b k=some w) (hn:k<=n):VU m b n=some w:=by
 obtain ⟨d,rfl⟩:∃ d,n=k+d:=⟨n-k,by omega⟩
 clear hn
 induction d with
 | zero=>exact h
 | succ d ih=>
  show VU m b (k+d+1)=some w
  unfold VU
  rw [ih]
theorem IS {w b:Nat} {k n:Nat} (h:Xi m k=some (w,b)) (hn:k<=n):Xi m n=some (w,b):=by
 obtain ⟨d,rfl⟩:∃ d,n=k+d:=⟨n-k,by omega⟩
 clear hn
 induction d with
 | zero=>exact h
 | succ d ih=>
  show Xi m (k+d+1)=some (w,b)
  unfold Xi
  rw [ih]
theorem EA {w b:Nat} {k n:Nat} (h:Wi m w k=some b) (hn:k<=n):Wi m w n=some b:=by
 obtain ⟨d,rfl⟩:∃ d,n=k+d:=⟨n-k,by omega⟩
 clear hn
 induction d with
 | zero=>exact h
 | succ d ih=>
  show Wi m w (k+d+1)=some b
  unfold Wi
  rw [ih]
theorem Dv {w b:Nat} {k n:Nat} (h:Un m k=some (w,b)) (hn:k<=n):Un m n=some (w,b):=by
 obtain ⟨d,rfl⟩:∃ d,n=k+d:=⟨n-k,by omega⟩
 clear hn
 induction d with
 | zero=>exact h
 | succ d ih=>
  show Un m (k+d+1)=some (w,b)
  unfold Un
  rw [ih]
set_option maxRecDepth 100000
theorem OU  (h:Smy w v0 v1 v2 v3 v4 m) :
  Calls Tryz.prog 283 #[.agg #[v0,v1,v2,v3,v4,.int .i64 m.now]] w fun e w'=>e= .returned (Ft (VD m))/\Below w.heap.size w w':=by
 have Hv0:=Z9 (h.alloc (.cells #[v0,v1,v2,v3,v4,.int .i64 m.now] 32))
 obtain ⟨a0,p0,a1,p1,a2,p2,a3,p3,a4,p4,rfl,rfl,rfl,rfl,rfl,_,_,_,_,_,_,_,_,_,_⟩:=h.five
 clear h
 obtain ⟨BB0,kb0⟩:=WZ w 32 (S6 a0 p0 a1 p1 a2 p2 a3 p3 a4 p4 m)
 obtain ⟨tv,htv⟩:∃ t,Ft (VD m)=t:=⟨_,rfl⟩
 rw [htv]
 obtain ⟨ok,hok⟩:∃ q,ZP m=q:=⟨_,rfl⟩
 have Hok:=Z9 hok
 have HT:=Z9 htv
 clear hok htv
 cases ok
 ·obtain rfl:tv= .tuple #[.int .i64 0,.int .i64 0,.bool false]:=by rw [<-uh HT];unfold VD;rw [uh Hok];rfl
  go_enter Tryz.func283,Tryz.ntmps283
  go_wp2_with fail
  go_loopw [5] (fun i wr=>i= .int .i64 0/\Blk wr w.heap.size 32 (S6 a0 p0 a1 p1 a2 p2 a3 p3 a4 p4 m)/\Smy wr (.slice a0 m.rooms.length p0) (.slice a1 m.guilds.length p1) (.slice a2 m.smiths.length p2) (.slice a3 m.desks.length p3) (.slice a4 m.paces.length p4) m/\Below w.heap.size w wr) (fun _ _=>1)
  case atStart=>exact ⟨rfl,uh kb0,uh Hv0,uh BB0⟩
  case round=>
   obtain ⟨rfl,hkb,hv,hb0⟩:=hrel
   have kb:=Z9 hkb
   have Hv:=Z9 hv
   have BB:=Z9 hb0
   clear hkb hv hb0 kb0 Hv0 BB0
   obtain ⟨c0,c1,c2,c3,c4,c5⟩:=(uh kb).c6
   by_cases hlt:0<m.smiths.length
   ·have hlt1:(0:Int)<(m.smiths.length:Int):=by omega
    go_wp2_with fail
    refine ck (XX (uh Hok) (uh Hv)) fun w1 hb=> ?_
    replace BB:=bt BB hb
    clear hb
    go_wp2_with fail
    refine bodyPost_ret (v:= .tuple #[.int .i64 0,.int .i64 0,.bool false]) (by simp [results,Tryz.results283,go_sem]) rfl ⟨rfl,uh BB⟩
   ·have hlt1:¬ ((0:Int)<(m.smiths.length:Int)):=by omega
    go_wp2_with fail
    refine bodyPost_ret (v:= .tuple #[.int .i64 0,.int .i64 0,.bool false]) (by simp [results,Tryz.results283,go_sem]) rfl ⟨rfl,uh BB⟩
 have hlo:=ZY (uh Hok)
 have HLo:=Z9 hlo
 have HSa:=Z9 hlo.sane
 have h12:=Zk hlo
 have h8:=WG hlo
 clear hlo
 have HW:Hid (tv=Ft (Un m m.smiths.length)):=Z9 (by rw [<-uh HT];unfold VD;rw [uh Hok];rfl)
 clear HT
 go_enter Tryz.func283,Tryz.ntmps283
 go_wp2_with fail
 go_loopw [5] (fun i wr=> ∃ k:Nat,k<=m.smiths.length/\i= .int .i64 k/\Un m k=none/\Blk wr w.heap.size 32 (S6 a0 p0 a1 p1 a2 p2 a3 p3 a4 p4 m)/\Smy wr (.slice a0 m.rooms.length p0) (.slice a1 m.guilds.length p1) (.slice a2 m.smiths.length p2) (.slice a3 m.desks.length p3) (.slice a4 m.paces.length p4) m/\Below w.heap.size w wr) (fun i _=>m.smiths.length-(intOf i).toNat)
 case atStart=>exact ⟨0,Nat.zero_le _,rfl,rfl,uh kb0,uh Hv0,uh BB0⟩
 case round=>
  obtain ⟨k,hk,rfl,hno,hkb,hv,hb0⟩:=hrel
  have Hno:=Z9 hno
  clear hno
  have kb:=Z9 hkb
  have Hv:=Z9 hv
  have BB:=Z9 hb0
  clear hkb hv hb0
  clear kb0 Hv0 BB0
  obtain ⟨c0,c1,c2,c3,c4,c5⟩:=(uh kb).c6
  by_cases hlt:k<m.smiths.length
  rotate_left
  ·have hlt1:¬ ((k:Int)<(m.smiths.length:Int)):=by omega
   obtain rfl:k=m.smiths.length:=by omega
   obtain rfl:tv= .tuple #[.int .i64 0,.int .i64 0,.bool false]:=by rw [uh HW,uh Hno];rfl
   go_wp2_with fail
   refine bodyPost_ret (v:= .tuple #[.int .i64 0,.int .i64 0,.bool false]) (by simp [results,Tryz.results283,go_sem]) rfl ⟨rfl,uh BB⟩
  have hlt1:(k:Int)<(m.smiths.length:Int):=by omega
  go_wp2_with fail
  refine ck (XX (uh Hok) (uh Hv)) fun w1 hb=> ?_
  replace Hv:=Z9 ((uh Hv).below hb)
  replace kb:=bl kb hb
  replace BB:=bt BB hb
  clear hb c0 c1 c2 c3 c4 c5
  have HN:Hid (∀ w9,Rn m k=w9->Un m (k+1)=w9.map fun x=>(k,x)):=Z9 (fun w9 e=>by unfold Un;rw [uh Hno,e])
  have HMB:Hid (Sg m k=(ZR (Z8 m.smiths k) && !VM (Zo m (k:Int)) 0 (YU m.rooms (Z8 m.smiths k).2.1))):=Z9 rfl
  obtain ⟨_,_,hse,_,_,r2⟩:=(uh Hv).smiths
  cases hse
  rcases r2 with e0 | ⟨sb,off,rfl,hbw,hcl⟩
  ·rw [e0] at hlt;simp at hlt
  obtain ⟨d0,d1,d2,d3,d4,d5,d6,d7,d8,d9,d10⟩:=ZC hcl hlt
  clear hcl
  obtain ⟨ps,hps⟩:∃ q,ZR (Z8 m.smiths k)=q:=⟨_,rfl⟩
  obtain ⟨fi,hfi⟩:∃ q,VM (Zo m (k:Int)) 0 (YU m.rooms (Z8 m.smiths k).2.1)=q:=⟨_,rfl⟩
  have HM2:Hid (Sg m k=(ps && !fi)):=Z9 (by rw [uh HMB,hps,hfi])
  have HP0:=Z9 hps
  have HA1:Hid (ps=true->0<=(Z8 m.smiths k).2.1/\(Z8 m.smiths k).2.1<m.desks.length/\ -1<=(Z8 m.smiths k).2.2.2.2.1/\(Z8 m.smiths k).2.2.2.2.1<m.guilds.length/\0<=(Z8 m.smiths k).2.2.2.1/\(Z8 m.smiths k).2.2.2.1<=255):=Z9 (fun e=>by
   have hp:=(uh HP0).trans e
   have h1:=(uh HLo).at hlt hp
   have h2:=(uh HLo).limits hlt (Gb hp)
   have h3:=h2.1
   have h4:=h2.2.1
   have a0:=h1.1
   have a1:=h1.2.1
   generalize Z8 m.smiths k=s at *
   obtain ⟨st,be,rk,my,gu,lo',hi',hd,ca,ut,wk⟩:=s
   have h5:=Zi h3
   exact ⟨a0,a1,h5.2.2.2.2.1.1,h4,by show 0<=my;omega,h5.2.2.2.1.2⟩)
  have HG:=Z9 (uh HSa).guilded.guilds
  have Hwa:=Z9 (fun (e:ps=true) (X:World) (hX:Smy X (.slice a0 m.rooms.length p0) (.slice a1 m.guilds.length p1) (.slice (some ⟨sb,off,none⟩) m.smiths.length p2) (.slice a3 m.desks.length p3) (.slice a4 m.paces.length p4) m)=>SU hX (uh HG) hlt (uh HA1 e).2.2.1 (uh HA1 e).2.2.2.1)
  have Hfo:=Z9 (fun (e:ps=true) (X:World) (hX:Smy X (.slice a0 m.rooms.length p0) (.slice a1 m.guilds.length p1) (.slice (some ⟨sb,off,none⟩) m.smiths.length p2) (.slice a3 m.desks.length p3) (.slice a4 m.paces.length p4) m)=>V3 (Z8 m.smiths k).2.1 hX.rooms (by
   have h9:=uh HA1 e
   obtain ⟨j9,e9⟩:∃ j:Nat,(Z8 m.smiths k).2.1=(j:Int):=⟨(Z8 m.smiths k).2.1.toNat,by omega⟩
   rw [e9]
   exact (uh HSa).bench (by omega)))
  have HFv:Hid (ps=true->Vu (Z0 m.rooms (Yw m.rooms (Z8 m.smiths k).2.1)).2=YU m.rooms (Z8 m.smiths k).2.1):=Z9 (fun e=>(SK (by
   have h9:=uh HA1 e
   obtain ⟨j9,e9⟩:∃ j:Nat,(Z8 m.smiths k).2.1=(j:Int):=⟨(Z8 m.smiths k).2.1.toNat,by omega⟩
   rw [e9]
   exact (uh HSa).bench (by omega))).symm)
  have Hmy:=Z9 (fun (e:ps=true)=>(uh HA1 e).2.2.2.2)
  obtain ⟨⟨st,be,rk,my,gu,lo,hi,hd,ca,ut,wk⟩,hrk⟩:∃ d,Z8 m.smiths k=d:=⟨_,rfl⟩
  rw [hrk] at d0 d1 d2 d3 d4 d5 d6 d7 d8 d9 d10 hps hfi Hfo HFv
  simp only at d0 d1 d2 d3 d4 d5 d6 d7 d8 d9 d10 hfi Hfo HFv
  have Hps:=Z9 hps
  have Hfi:=Z9 hfi
  have Hrk:=Z9 hrk
  clear hps hfi hrk HMB HP0
  have hsbw:sb<w1.heap.size:=hbw
  obtain ⟨c0,c1,c2,c3,c4,c5⟩:=(uh kb).c6
  go_upto_region 5 with fail
  clear d0 d1 d2 d3 d4 d5 d6 d7 d8 d9 d10 c0 c1 c2 c3 c4 c5
  obtain ⟨WQ,hWQ,hba,ks⟩:=YO w1 39 (I11 st be rk my gu lo hi hd ca ut wk)
  replace Hv:=Z9 ((uh Hv).below hba)
  replace kb:=bl kb hba
  replace BB:=bt BB hba
  clear hba hsbw hbw
  rw [hWQ]
  clear hWQ
  generalize w1.heap.size=sx at *
  obtain ⟨c0,c1,c2,c3,c4,c5⟩:=(uh kb).c6
  have y0:=cell_regrown c0
  have y1:=cell_regrown c1
  have y2:=cell_regrown c2
  have y3:=cell_regrown c3
  have y4:=cell_regrown c4
  have y5:=cell_regrown c5
  have s0:=cell_regrown ((uh ks).cell (i:=0) (v:= .int .i64 st) rfl)
  have s1:=cell_regrown ((uh ks).cell (i:=1) (v:= .int .i64 be) rfl)
  have s2:=cell_regrown ((uh ks).cell (i:=2) (v:= .int .i64 rk) rfl)
  have s3:=cell_regrown ((uh ks).cell (i:=3) (v:= .int .i64 my) rfl)
  have s4:=cell_regrown ((uh ks).cell (i:=4) (v:= .int .i64 gu) rfl)
  have s5:=cell_regrown ((uh ks).cell (i:=5) (v:= .int .i64 lo) rfl)
  have s6:=cell_regrown ((uh ks).cell (i:=6) (v:= .int .i64 hi) rfl)
  have s7:=cell_regrown ((uh ks).cell (i:=7) (v:= .int .i64 hd) rfl)
  have s8:=cell_regrown ((uh ks).cell (i:=8) (v:= .int .i64 ca) rfl)
  have s9:=cell_regrown ((uh ks).cell (i:=9) (v:= .int .i64 ut) rfl)
  have s10:=cell_regrown ((uh ks).cell (i:=10) (v:= .int .i64 wk) rfl)
  have H1:=Z9 (fun (X:World)=>YV (uh Hps) X)
  cases ps
  ·have hm0:Rn m k=none:=by unfold Rn;rw [uh HM2];rfl
   have Hm0:=Z9 hm0
   clear hm0
   go_wp2_with fail
   refine wq ?_
   repeat (go_big_quiet_step (first | exact Calls.regrown_of (uh H1 _)))
   refine wqn fun W9 hb=> ?_
   replace Hv:=Z9 ((uh Hv).below hb)
   replace kb:=bl kb hb
   replace BB:=bt BB hb
   clear hb
   go_wp2_with fail
   go_roundw
   case rel=>exact ⟨k+1,by omega,by go_num,by rw [uh HN none (uh Hm0)];rfl,uh kb,uh Hv,uh BB⟩
   case measure=>exact ms
  have H2:=Z9 (fun (X:World) (hX:Below WQ.heap.size WQ X)=>uh Hwa rfl X ((uh Hv).below hX))
  have H3:=Z9 (fun (X:World) (hX:Below WQ.heap.size WQ X)=>uh Hfo rfl X ((uh Hv).below hX))
  rw [uh HFv rfl] at H3
  have H4:=Z9 (fun (X:World)=>Calls.bool_of (Calls.same_below (Vm (Zo m (k:Int)) 0 (YU m.rooms be) X)) (uh Hfi))
  have Hmy2:=Z9 (uh Hmy rfl)
  obtain ⟨wa,hwa⟩:∃ q,Zo m (k:Int)=q:=⟨_,rfl⟩
  obtain ⟨fo,hfo⟩:∃ q,YU m.rooms be=q:=⟨_,rfl⟩
  have HWb:=Z9 (fun (X:World) (hX:Smy X (.slice a0 m.rooms.length p0) (.slice a1 m.guilds.length p1) (.slice (some ⟨sb,off,none⟩) m.smiths.length p2) (.slice a3 m.desks.length p3) (.slice a4 m.paces.length p4) m)=>uh Hwa rfl X hX)
  rw [hwa] at H2 H4 HWb
  rw [hfo] at H3 H4
  have HWa:=Z9 hwa
  clear hwa hfo Hwa Hfo HFv Hmy
  cases fi
  rotate_left
  ·have hm0:Rn m k=none:=by unfold Rn;rw [uh HM2];rfl
   have Hm0:=Z9 hm0
   clear hm0
   go_wp2_with fail
   refine wq ?_
   repeat (go_big_quiet_step (first | exact Calls.regrown_of (uh H1 _) | exact Calls.regrown_of (uh H2 _ (below_regrown _ _ _)) | exact Calls.regrown_of (uh H3 _ (below_regrown _ _ _)) | exact Calls.regrown_of (uh H4 _)))
   refine wqn fun W9 hb=> ?_
   replace Hv:=Z9 ((uh Hv).below hb)
   replace kb:=bl kb hb
   replace BB:=bt BB hb
   clear hb
   go_wp2_with fail
   go_roundw
   case rel=>exact ⟨k+1,by omega,by go_num,by rw [uh HN none (uh Hm0)];rfl,uh kb,uh Hv,uh BB⟩
   case measure=>exact ms
  have HMA:Hid (Rn m k=Wi m k m.desks.length):=Z9 (by unfold Rn;rw [uh HM2];rfl)
  go_wp2_with fail
  refine wq ?_
  repeat (go_big_quiet_step (first | exact Calls.regrown_of (uh H1 _) | exact Calls.regrown_of (uh H2 _ (below_regrown _ _ _)) | exact Calls.regrown_of (uh H3 _ (below_regrown _ _ _)) | exact Calls.regrown_of (uh H4 _)))
  refine wqn fun W9 hb=> ?_
  replace Hv:=Z9 ((uh Hv).below hb)
  replace kb:=bl kb hb
  replace BB:=bt BB hb
  clear hb c0 c1 c2 c3 c4 c5 s0 s1 s2 s3 s4 s5 s6 s7 s8 s9 s10 y0 y1 y2 y3 y4 y5 H1 H2 H3 H4 ks
  go_wp2_with fail
  go_loopw [7] (fun i wr=> ∃ j:Nat,j<=m.desks.length/\i= .int .i64 j/\Wi m k j=none/\Blk wr w.heap.size 32 #[.slice a0 m.rooms.length p0,.slice a1 m.guilds.length p1,.slice (some ⟨sb,off,none⟩) m.smiths.length p2,.slice a3 m.desks.length p3,.slice a4 m.paces.length p4,.int .i64 m.now]/\Smy wr (.slice a0 m.rooms.length p0) (.slice a1 m.guilds.length p1) (.slice (some ⟨sb,off,none⟩) m.smiths.length p2) (.slice a3 m.desks.length p3) (.slice a4 m.paces.length p4) m/\Below w.heap.size w wr) (fun i _=>m.desks.length-(intOf i).toNat)
  case atStart=>exact ⟨0,Nat.zero_le _,rfl,rfl,uh kb,uh Hv,uh BB⟩
  case round=>
   obtain ⟨j,hj,rfl,hno2,hkb,hv,hb0⟩:=hrel
   have Hno2:=Z9 hno2
   obtain ⟨WQ,rfl⟩:∃ x,x=wr:=⟨wr,rfl⟩
   clear hno2 kb Hv BB
   have kb:=Z9 hkb
   have Hv:=Z9 hv
   have BB:=Z9 hb0
   clear hkb hv hb0
   obtain ⟨c0,c1,c2,c3,c4,c5⟩:=(uh kb).c6
   by_cases hlj:j<m.desks.length
   rotate_left
   ·have hlj1:¬ ((j:Int)<(m.desks.length:Int)):=by omega
    obtain rfl:j=m.desks.length:=by omega
    go_wp2_with fail
    go_roundw
    case rel=>exact ⟨k+1,by omega,by go_num,by rw [uh HN none (by rw [uh HMA];exact uh Hno2)];rfl,uh kb,uh Hv,uh BB⟩
    case measure=>exact ms
   have hlj1:(j:Int)<(m.desks.length:Int):=by omega
   have HS:Hid (∀ q,NZ m k j=q->Wi m k (j+1)=if q then some j else none):=Z9 (fun q e=>by unfold Wi;rw [uh Hno2,e])
   obtain ⟨qi,hqi⟩:∃ q,WA m j=q:=⟨_,rfl⟩
   obtain ⟨qm,hqm⟩:∃ q,Yb m (k:Int) j=q:=⟨_,rfl⟩
   obtain ⟨qf,hqf⟩:∃ q,VM wa 0 (YU m.rooms (j:Int))=q:=⟨_,rfl⟩
   have HB2:Hid (NZ m k j=(qi && (qm && qf))):=Z9 (by unfold NZ;rw [hqi,hqm,uh HWa,hqf])
   have hfov:=SK ((uh HSa).bench hlj)
   have H1:=Z9 (fun (X:World) (hX:Below WQ.heap.size WQ X)=>Calls.bool_of (PY ((uh Hv).below hX) hlj (by omega)) hqi)
   have H2:=Z9 (fun (X:World) (hX:Below WQ.heap.size WQ X)=>Calls.bool_of (TL ((uh Hv).below hX) hlt hlj (by omega) (uh Hmy2).1 (uh Hmy2).2) hqm)
   have H3:=Z9 (fun (X:World) (hX:Below WQ.heap.size WQ X)=>uh HWb X ((uh Hv).below hX))
   have H4:=Z9 (fun (X:World) (hX:Below WQ.heap.size WQ X)=>V3 (j:Int) ((uh Hv).below hX).rooms ((uh HSa).bench hlj))
   rw [<-hfov] at H4
   have H5:=Z9 (fun (X:World)=>Calls.bool_of (Calls.same_below (Vm wa 0 (YU m.rooms (j:Int)) X)) hqf)
   clear hqi hqm hqf hfov
   generalize YU m.rooms (j:Int)=fj at *
   have y0:=cell_regrown c0
   have y1:=cell_regrown c1
   have y2:=cell_regrown c2
   have y3:=cell_regrown c3
   have y4:=cell_regrown c4
   have y5:=cell_regrown c5
   cases qi
   ·go_wp2_with fail
    refine wq ?_
    repeat (go_big_quiet_step (first | exact Calls.regrown_of (uh H1 _ (below_regrown _ _ _)) | exact Calls.regrown_of (uh H2 _ (below_regrown _ _ _)) | exact Calls.regrown_of (uh H3 _ (below_regrown _ _ _)) | exact Calls.regrown_of (uh H4 _ (below_regrown _ _ _)) | exact Calls.regrown_of (uh H5 _)))
    refine wqn fun W9 hb=> ?_
    replace Hv:=Z9 ((uh Hv).below hb)
    replace kb:=bl kb hb
    replace BB:=bt BB hb
    clear hb
    go_wp2_with fail
    go_roundw
    case rel=>exact ⟨j+1,by omega,by go_num,by rw [uh HS _ (uh HB2)];rfl,uh kb,uh Hv,uh BB⟩
    case measure=>exact ms
   cases qm
   ·go_wp2_with fail
    refine wq ?_
    repeat (go_big_quiet_step (first | exact Calls.regrown_of (uh H1 _ (below_regrown _ _ _)) | exact Calls.regrown_of (uh H2 _ (below_regrown _ _ _)) | exact Calls.regrown_of (uh H3 _ (below_regrown _ _ _)) | exact Calls.regrown_of (uh H4 _ (below_regrown _ _ _)) | exact Calls.regrown_of (uh H5 _)))
    refine wqn fun W9 hb=> ?_
    replace Hv:=Z9 ((uh Hv).below hb)
    replace kb:=bl kb hb
    replace BB:=bt BB hb
    clear hb
    go_wp2_with fail
    go_roundw
    case rel=>exact ⟨j+1,by omega,by go_num,by rw [uh HS _ (uh HB2)];rfl,uh kb,uh Hv,uh BB⟩
    case measure=>exact ms
   cases qf
   ·go_wp2_with fail
    refine wq ?_
    repeat (go_big_quiet_step (first | exact Calls.regrown_of (uh H1 _ (below_regrown _ _ _)) | exact Calls.regrown_of (uh H2 _ (below_regrown _ _ _)) | exact Calls.regrown_of (uh H3 _ (below_regrown _ _ _)) | exact Calls.regrown_of (uh H4 _ (below_regrown _ _ _)) | exact Calls.regrown_of (uh H5 _)))
    refine wqn fun W9 hb=> ?_
    replace Hv:=Z9 ((uh Hv).below hb)
    replace kb:=bl kb hb
    replace BB:=bt BB hb
    clear hb
    go_wp2_with fail
    go_roundw
    case rel=>exact ⟨j+1,by omega,by go_num,by rw [uh HS _ (uh HB2)];rfl,uh kb,uh Hv,uh BB⟩
    case measure=>exact ms
   go_wp2_with fail
   refine wq ?_
   repeat (go_big_quiet_step (first | exact Calls.regrown_of (uh H1 _ (below_regrown _ _ _)) | exact Calls.regrown_of (uh H2 _ (below_regrown _ _ _)) | exact Calls.regrown_of (uh H3 _ (below_regrown _ _ _)) | exact Calls.regrown_of (uh H4 _ (below_regrown _ _ _)) | exact Calls.regrown_of (uh H5 _)))
   refine wqn fun W9 hb=> ?_
   replace Hv:=Z9 ((uh Hv).below hb)
   replace kb:=bl kb hb
   replace BB:=bt BB hb
   clear hb
   have HR:Hid (tv= .tuple #[.int .i64 (k:Int),.int .i64 (j:Int),.bool true]):=Z9 (by
    rw [uh HW,Dv (k:=k+1) (w:=k) (b:=j) (by rw [uh HN (some j) (by rw [uh HMA];exact EA (k:=j+1) (by rw [uh HS _ (uh HB2)];rfl) (by omega))];rfl) (by omega)]
    rfl)
   obtain rfl:=uh HR
   go_wp2_with fail
   refine bodyPost_ret (v:= .tuple #[.int .i64 (k:Int),.int .i64 (j:Int),.bool true]) (by simp [results,Tryz.results283,go_sem]) rfl ⟨rfl,uh BB⟩
set_option maxRecDepth 100000
theorem PF  (h:Smy w v0 v1 v2 v3 v4 m) :
  Calls Tryz.prog 284 #[.agg #[v0,v1,v2,v3,v4,.int .i64 m.now]] w fun e w'=>e= .returned (Ft (V7 m))/\Below w.heap.size w w':=by
 have Hv0:=Z9 (h.alloc (.cells #[v0,v1,v2,v3,v4,.int .i64 m.now] 32))
 obtain ⟨a0,p0,a1,p1,a2,p2,a3,p3,a4,p4,rfl,rfl,rfl,rfl,rfl,_,_,_,_,_,_,_,_,_,_⟩:=h.five
 clear h
 obtain ⟨BB0,kb0⟩:=WZ w 32 (S6 a0 p0 a1 p1 a2 p2 a3 p3 a4 p4 m)
 obtain ⟨tv,htv⟩:∃ t,Ft (V7 m)=t:=⟨_,rfl⟩
 rw [htv]
 obtain ⟨ok,hok⟩:∃ q,ZP m=q:=⟨_,rfl⟩
 have Hok:=Z9 hok
 have HT:=Z9 htv
 clear hok htv
 cases ok
 ·obtain rfl:tv= .tuple #[.int .i64 0,.int .i64 0,.bool false]:=by rw [<-uh HT];unfold V7;rw [uh Hok];rfl
  go_enter Tryz.func284,Tryz.ntmps284
  go_wp2_with fail
  go_loopw [5] (fun i wr=>i= .int .i64 0/\Blk wr w.heap.size 32 (S6 a0 p0 a1 p1 a2 p2 a3 p3 a4 p4 m)/\Smy wr (.slice a0 m.rooms.length p0) (.slice a1 m.guilds.length p1) (.slice a2 m.smiths.length p2) (.slice a3 m.desks.length p3) (.slice a4 m.paces.length p4) m/\Below w.heap.size w wr) (fun _ _=>1)
  case atStart=>exact ⟨rfl,uh kb0,uh Hv0,uh BB0⟩
  case round=>
   obtain ⟨rfl,hkb,hv,hb0⟩:=hrel
   have kb:=Z9 hkb
   have Hv:=Z9 hv
   have BB:=Z9 hb0
   clear hkb hv hb0 kb0 Hv0 BB0
   obtain ⟨c0,c1,c2,c3,c4,c5⟩:=(uh kb).c6
   by_cases hlt:0<m.desks.length
   ·have hlt1:(0:Int)<(m.desks.length:Int):=by omega
    go_wp2_with fail
    refine ck (XX (uh Hok) (uh Hv)) fun w1 hb=> ?_
    replace BB:=bt BB hb
    clear hb
    go_wp2_with fail
    refine bodyPost_ret (v:= .tuple #[.int .i64 0,.int .i64 0,.bool false]) (by simp [results,Tryz.results284,go_sem]) rfl ⟨rfl,uh BB⟩
   ·have hlt1:¬ ((0:Int)<(m.desks.length:Int)):=by omega
    go_wp2_with fail
    refine bodyPost_ret (v:= .tuple #[.int .i64 0,.int .i64 0,.bool false]) (by simp [results,Tryz.results284,go_sem]) rfl ⟨rfl,uh BB⟩
 have hlo:=ZY (uh Hok)
 have HLo:=Z9 hlo
 have h12:=Zk hlo
 have h8:=WG hlo
 clear hlo
 have HW:Hid (tv=Ft (Xi m m.desks.length)):=Z9 (by rw [<-uh HT];unfold V7;rw [uh Hok];rfl)
 clear HT
 go_enter Tryz.func284,Tryz.ntmps284
 go_wp2_with fail
 go_loopw [5] (fun i wr=> ∃ k:Nat,k<=m.desks.length/\i= .int .i64 k/\Xi m k=none/\Blk wr w.heap.size 32 (S6 a0 p0 a1 p1 a2 p2 a3 p3 a4 p4 m)/\Smy wr (.slice a0 m.rooms.length p0) (.slice a1 m.guilds.length p1) (.slice a2 m.smiths.length p2) (.slice a3 m.desks.length p3) (.slice a4 m.paces.length p4) m/\Below w.heap.size w wr) (fun i _=>m.desks.length-(intOf i).toNat)
 case atStart=>exact ⟨0,Nat.zero_le _,rfl,rfl,uh kb0,uh Hv0,uh BB0⟩
 case round=>
  obtain ⟨k,hk,rfl,hno,hkb,hv,hb0⟩:=hrel
  have Hno:=Z9 hno
  clear hno
  have kb:=Z9 hkb
  have Hv:=Z9 hv
  have BB:=Z9 hb0
  clear hkb hv hb0
  clear kb0 Hv0 BB0
  obtain ⟨c0,c1,c2,c3,c4,c5⟩:=(uh kb).c6
  by_cases hlt:k<m.desks.length
  rotate_left
  ·have hlt1:¬ ((k:Int)<(m.desks.length:Int)):=by omega
   obtain rfl:k=m.desks.length:=by omega
   obtain rfl:tv= .tuple #[.int .i64 0,.int .i64 0,.bool false]:=by rw [uh HW,uh Hno];rfl
   go_wp2_with fail
   refine bodyPost_ret (v:= .tuple #[.int .i64 0,.int .i64 0,.bool false]) (by simp [results,Tryz.results284,go_sem]) rfl ⟨rfl,uh BB⟩
  have hlt1:(k:Int)<(m.desks.length:Int):=by omega
  go_wp2_with fail
  refine ck (XX (uh Hok) (uh Hv)) fun w1 hb=> ?_
  replace Hv:=Z9 ((uh Hv).below hb)
  replace kb:=bl kb hb
  replace BB:=bt BB hb
  clear hb c0 c1 c2 c3 c4 c5
  obtain ⟨qi,hqi⟩:∃ q,WA m k=q:=⟨_,rfl⟩
  have Hqi:=Z9 hqi
  clear hqi
  have HN:Hid (∀ w9,QY m k=w9->Xi m (k+1)=w9.map fun x=>(x,k)):=Z9 (fun w9 e=>by unfold Xi;rw [uh Hno,e])
  obtain ⟨c0,c1,c2,c3,c4,c5⟩:=(uh kb).c6
  go_wp2_with fail
  refine (PY (uh Hv) hlt (by omega)).mono ?_
  rw [uh Hqi]
  rintro e w2 ⟨rfl,hb⟩
  replace Hv:=Z9 ((uh Hv).below hb)
  replace kb:=bl kb hb
  replace BB:=bt BB hb
  clear hb c0 c1 c2 c3 c4 c5
  cases qi
  ·go_wp2_with fail
   go_roundw
   case rel=>exact ⟨k+1,by omega,by go_num,by rw [uh HN none (by unfold QY;rw [uh Hqi];rfl)];rfl,uh kb,uh Hv,uh BB⟩
   case measure=>exact ms
  go_wp2_with fail
  go_loopw [6] (fun i wr=> ∃ j:Nat,j<=m.smiths.length/\i= .int .i64 j/\VU m k j=none/\Blk wr w.heap.size 32 (S6 a0 p0 a1 p1 a2 p2 a3 p3 a4 p4 m)/\Smy wr (.slice a0 m.rooms.length p0) (.slice a1 m.guilds.length p1) (.slice a2 m.smiths.length p2) (.slice a3 m.desks.length p3) (.slice a4 m.paces.length p4) m/\Below w.heap.size w wr) (fun i _=>m.smiths.length-(intOf i).toNat)
  case atStart=>exact ⟨0,Nat.zero_le _,rfl,rfl,uh kb,uh Hv,uh BB⟩
  case round=>
   obtain ⟨j,hj,rfl,hno2,hkb,hv,hb0⟩:=hrel
   have Hno2:=Z9 hno2
   clear hno2 kb Hv BB
   have kb:=Z9 hkb
   have Hv:=Z9 hv
   have BB:=Z9 hb0
   clear hkb hv hb0
   obtain ⟨c0,c1,c2,c3,c4,c5⟩:=(uh kb).c6
   by_cases hlj:j<m.smiths.length
   rotate_left
   ·have hlj1:¬ ((j:Int)<(m.smiths.length:Int)):=by omega
    obtain rfl:j=m.smiths.length:=by omega
    go_wp2_with fail
    go_roundw
    case rel=>exact ⟨k+1,by omega,by go_num,by rw [uh HN none (by unfold QY;rw [uh Hqi];exact uh Hno2)];rfl,uh kb,uh Hv,uh BB⟩
    case measure=>exact ms
   have hlj1:(j:Int)<(m.smiths.length:Int):=by omega
   have HS:Hid (∀ q,Qd m j k=q->VU m k (j+1)=if q then some j else none):=Z9 (fun q e=>by unfold VU;rw [uh Hno2,e])
   have HB:Hid (Qd m j k=((Z8 m.smiths j).1 ==2 && Yb m (j:Int) k)):=Z9 rfl
   obtain ⟨_,_,hse,_,_,r2⟩:=(uh Hv).smiths
   cases hse
   rcases r2 with e0 | ⟨sb,off,rfl,hbw,hcl⟩
   ·rw [e0] at hlj;simp at hlj
   obtain ⟨d0,_⟩:=ZC hcl hlj
   clear hcl
   obtain ⟨st,hst⟩:∃ q,(Z8 m.smiths j).1=q:=⟨_,rfl⟩
   rw [hst] at d0
   by_cases h2:st=2
   rotate_left
   ·have hn2:(st ==2)=false:=by simpa using h2
    have HB2:Hid (Qd m j k=false):=Z9 (by rw [uh HB,hst,hn2];rfl)
    clear hst
    go_wp2_with fail
    go_roundw
    case rel=>exact ⟨j+1,by omega,by go_num,by rw [uh HS _ (uh HB2)];rfl,uh kb,uh Hv,uh BB⟩
    case measure=>exact ms
   subst h2
   have hlim:=(uh HLo).limits hlj (by rw [hst];omega)
   have hmy:0<=(Z8 m.smiths j).2.2.2.1/\(Z8 m.smiths j).2.2.2.1<=255:=by
    have hp:=hlim.1
    generalize Z8 m.smiths j=s at *
    obtain ⟨st,be,rk,my,gu,lo',hi',hd,ca,ut,wk⟩:=s
    have:=(Zi hp).2.2.2.1
    exact ⟨by show 0<=my;omega,this.2⟩
   obtain ⟨qm,hqm⟩:∃ q,Yb m (j:Int) k=q:=⟨_,rfl⟩
   have Hqm:=Z9 hqm
   have HB2:Hid (Qd m j k=qm):=Z9 (by rw [uh HB,hst,hqm];rfl)
   have HM:=Z9 (fun (X:World) (hX:Smy X (.slice a0 m.rooms.length p0) (.slice a1 m.guilds.length p1) (.slice (some ⟨sb,off,none⟩) m.smiths.length p2) (.slice a3 m.desks.length p3) (.slice a4 m.paces.length p4) m)=>TL hX hlj hlt (by omega) hmy.1 hmy.2)
   clear hst hlim hmy hqm
   go_wp2_with fail
   refine (uh HM _ (uh Hv)).mono ?_
   rw [uh Hqm]
   rintro e w3 ⟨rfl,hb⟩
   replace Hv:=Z9 ((uh Hv).below hb)
   replace kb:=bl kb hb
   replace BB:=bt BB hb
   clear hb c0 c1 c2 c3 c4 c5 d0 HM
   cases qm
   ·go_wp2_with fail
    go_roundw
    case rel=>exact ⟨j+1,by omega,by go_num,by rw [uh HS _ (uh HB2)];rfl,uh kb,uh Hv,uh BB⟩
    case measure=>exact ms
   have HR:Hid (tv= .tuple #[.int .i64 (j:Int),.int .i64 (k:Int),.bool true]):=Z9 (by
    rw [uh HW,IS (k:=k+1) (w:=j) (b:=k) (by rw [uh HN (some j) (by unfold QY;rw [uh Hqi];exact FB (k:=j+1) (by rw [uh HS _ (uh HB2)];rfl) (by omega))];rfl) (by omega)]
    rfl)
   obtain rfl:=uh HR
   go_wp2_with fail
   refine bodyPost_ret (v:= .tuple #[.int .i64 (j:Int),.int .i64 (k:Int),.bool true]) (by simp [results,Tryz.results284,go_sem]) rfl ⟨rfl,uh BB⟩
end Go.Proofs.YtffcgajndmhpkaaGreatDoor
