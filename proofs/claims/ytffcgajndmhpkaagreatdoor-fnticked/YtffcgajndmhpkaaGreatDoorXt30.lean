/- Part 30 of what the proof rests on. No condition but those that a theorem names. -/
import Derived.Test.YtffcgajndmhpkaaGreatDoorXt22
import Derived.Test.YtffcgajndmhpkaaGreatDoorXt28
set_option maxHeartbeats 8000000
set_option maxRecDepth 100000
namespace Go.Proofs.YtffcgajndmhpkaaGreatDoor
open Go.ChangeShapes Go.WideShapes Go.ChangeAt Go.RowKit Go.Sort
set_option linter.unusedVariables false
set_option linter.unusedSimpArgs false
variable {w w' w0 w1 w2 w3 w₀ wr W W' X A B C : World} {v v0 v1 v2 v3 v4 u u0 u1 u2 u3 u4 : Value} {m : Z6}
def Tm (m:Z6) (b:Int):Z6 × Int:=
 if ZO m then (if Vj m b then (if (Z8 m.desks b.toNat).1 then (m,2) else (ZQ (YD m b.toNat true),0)) else (m,1)) else (YF,3)
theorem Je {b:Int} (h:Vj m b=true):∃ k:Nat,b=(k:Int)/\k<m.desks.length:=by
 have:=ZU (show inB b 0 ((m.desks.length:Int)-1)=true from h)
 exact ⟨b.toNat,by omega,by omega⟩
theorem Ip (h:ZO m=true) (b:Int):ZO (Tm m b).1=true:=by
 unfold Tm
 rw [h]
 simp only [if_true]
 split
 ·rename_i hw
  obtain ⟨k,rfl,hk⟩:=Je hw
  rw [show ((k:Int)).toNat=k by simp]
  split
  ·exact h
  ·exact Y0 (EX (ZT h) hk)
 ·exact h
theorem Pa  (bench:Int) (h:Smy w v0 v1 v2 v3 v4 m) :
  Calls Tryz.prog 251 #[.agg #[v0,v1,v2,v3,v4,.int .i64 m.now],.int .i64 bench] w fun e w'=>TH w.heap.size (Tm m bench).1 (Tm m bench).2 e w'/\Below w.heap.size w w':=by
 obtain ⟨X,hX⟩:∃ x,Tm m bench=x:=⟨_,rfl⟩
 rw [hX]
 have HX:=Z9 hX
 clear hX
 have Hv0:=Z9 h
 obtain ⟨a0,p0,a1,p1,a2,p2,a3,p3,a4,p4,rfl,rfl,rfl,rfl,rfl,_,_,_,_,_,_,_,_,_,_⟩:=h.five
 clear h
 obtain ⟨ok,hok⟩:∃ q,ZO m=q:=⟨_,rfl⟩
 have Hok:=Z9 hok
 clear hok
 go_enter Tryz.func251,Tryz.ntmps251
 go_wp2_with fail
 obtain ⟨W,hW,kb,kr,BB⟩:=YK w 32 (S6 a0 p0 a1 p1 a2 p2 a3 p3 a4 p4 m) 32 E6
 have Hv:=Z9 ((uh Hv0).below (uh BB))
 clear Hv0
 rw [hW]
 clear hW
 refine ck (XF (uh Hok) (uh Hv)) fun w1 hb=> ?_
 replace kb:=bl kb hb
 replace kr:=bl kr hb
 replace Hv:=Z9 ((uh Hv).below hb)
 replace BB:=bt BB hb
 clear hb
 cases ok
 ·
  obtain ⟨c0,c1,c2,c3,c4,c5⟩:=(uh kb).c6
  go_wp2_with fail
  clear c0 c1 c2 c3 c4 c5
  refine ck (Yx (uh Hv)) fun w2 hb=> ?_
  replace kb:=bl kb hb
  replace kr:=bl kr hb
  replace Hv:=Z9 ((uh Hv).below hb)
  replace BB:=bt BB hb
  clear hb
  obtain ⟨o0,o1,o2,o3,o4,o5⟩:=(uh kr).c6
  obtain ⟨f0,f1,f2,f3,f4,f5⟩:=(uh kr).f6
  go_wp2_with fail
  have hX0:X=(YF,3):=by rw [<-uh HX];unfold Tm;rw [uh Hok];rfl
  exact bodyPost_ret (v:= .tuple #[.agg E6,.int .i64 3]) (by simp [results,Tryz.results251,go_sem, *]) rfl (Zr hX0 rfl (YP _ _) (uh BB))
 have hlo:=ZT (uh Hok)
 have HLo:=Z9 hlo
 have HFew:=Z9 (XE hlo)
 clear hlo
 obtain ⟨c0,c1,c2,c3,c4,c5⟩:=(uh kb).c6
 go_wp2_with fail
 clear c0 c1 c2 c3 c4 c5
 refine (Va (uh Hv) (uh HFew) (uh kb) (uh kr) (uh BB)).mono ?_
 clear kb kr Hv BB
 rintro e w2 ⟨b0,q0,b1,q1,b2,q2,b3,q3,b4,q4,oq,rfl,W2,ob,hW2,hob2,kb,kr,Hv,HO,ko,LO,hob,BB⟩
 go_upto_region 4 with fail
 (try rw [hW2])
 (try rw [hob2])
 clear hW2 hob2
 obtain ⟨qw,hqw⟩:∃ q,Vj m bench=q:=⟨_,rfl⟩
 have Hqw:=Z9 hqw
 clear hqw
 obtain ⟨c0,c1,c2,c3,c4,c5⟩:=(uh kb).c6
 go_wp2_with fail
 clear c0 c1 c2 c3 c4 c5
 refine ck (Oy (uh Hqw) (uh Hv)) fun w3 hb=> ?_
 replace kb:=bl kb hb
 replace kr:=bl kr hb
 replace Hv:=Z9 ((uh Hv).below hb)
 replace HO:=Z9 ((uh HO).below hb)
 replace ko:=bl ko hb
 replace BB:=bt BB hb
 clear hb
 cases qw
 ·
  obtain ⟨x0,x1,x2,x3,x4,x5⟩:=(uh ko).c6
  obtain ⟨o0,o1,o2,o3,o4,o5⟩:=(uh kr).c6
  obtain ⟨f0,f1,f2,f3,f4,f5⟩:=(uh kr).f6
  go_wp2_with fail
  have hX0:X=(m,1):=by rw [<-uh HX];unfold Tm;rw [uh Hok,uh Hqw];rfl
  exact bodyPost_ret (v:= .tuple #[.agg (S6 b0 q0 b1 q1 b2 q2 b3 q3 b4 q4 m),.int .i64 1]) (by simp [results,Tryz.results251,go_sem, *]) rfl (Zr hX0 rfl (uh HO) (uh BB))
 obtain ⟨k,rfl,hk⟩:=Je (uh Hqw)
 have hk1:(k:Int)<(m.desks.length:Int):=by omega
 obtain ⟨_,_,hde,_,_,r3⟩:=(uh Hv).desks
 cases hde
 rcases r3 with e0 | ⟨db,off,rfl,hbw,hcl⟩
 ·rw [e0] at hk;simp at hk
 obtain ⟨d0,_,_⟩:=Zi hcl hk
 clear hcl
 obtain ⟨op,hop⟩:∃ q,(Z8 m.desks k).1=q:=⟨_,rfl⟩
 rw [hop] at d0
 have Hop:=Z9 hop
 clear hop
 have c3:=(uh kb).cell (i:=3) (v:= .slice (some ⟨db,off,none⟩) m.desks.length p3) rfl
 cases op
 rotate_left
 ·
  obtain ⟨x0,x1,x2,x3,x4,x5⟩:=(uh ko).c6
  obtain ⟨o0,o1,o2,o3,o4,o5⟩:=(uh kr).c6
  obtain ⟨f0,f1,f2,f3,f4,f5⟩:=(uh kr).f6
  go_wp2_with fail
  have hX0:X=(m,2):=by rw [<-uh HX];unfold Tm;rw [uh Hok,uh Hqw];simp only [if_true,Int.toNat_natCast];rw [uh Hop];rfl
  exact bodyPost_ret (v:= .tuple #[.agg (S6 b0 q0 b1 q1 b2 q2 b3 q3 b4 q4 m),.int .i64 2]) (by simp [results,Tryz.results251,go_sem, *]) rfl (Zr hX0 rfl (uh HO) (uh BB))
 obtain ⟨g3,hga,_,_,hc3,hz3⟩:=RecAt.view ZF (by omega) (uh HO).desks rfl (by omega)
 cases hga
 have s0:=hc3 k hk 0 _ rfl
 have f0:=hz3 (k*3)
 have x3:=(uh ko).cell (i:=3) (v:= .slice (some ⟨g3,0,none⟩) m.desks.length q3) rfl
 have hput:=(uh HO).putD rfl (j:=k) (i:=0) hk (by omega) (.bool true) (true,(Z8 m.desks k).2) rfl
 simp only [Nat.add_zero] at s0 hput
 have hg3o:=(uh LO g3 (.inr (.inr (.inr (.inr (.inl rfl))))))
 clear hc3 hz3
 go_upto_region 9 with fail
 clear s0 f0 x3 c3 d0
 have HP:=Z9 hput
 clear hput HO
 replace ko:Hid (Blk (w3.setCell ⟨g3,k*3,none⟩ (.bool true)) ob 32 (S6 b0 q0 b1 q1 b2 q2 (some ⟨g3,0,none⟩) q3 b4 q4 m)):=Z9 ((uh ko).other (a:=⟨g3,k*3,none⟩) (by show ob ≠ g3;omega) _)
 replace kr:Hid (Blk (w3.setCell ⟨g3,k*3,none⟩ (.bool true)) (w.heap.size+1) 32 E6):=Z9 ((uh kr).other (a:=⟨g3,k*3,none⟩) (by show w.heap.size+1 ≠ g3;omega) _)
 replace BB:Hid (Below w.heap.size w (w3.setCell ⟨g3,k*3,none⟩ (.bool true))):=Z9 ((uh BB).setCell (p:=⟨g3,k*3,none⟩) (by show w.heap.size<=g3;omega) _)
 clear kb Hv
 generalize w3.setCell ⟨g3,k*3,none⟩ (.bool true)=W3 at *
 have hfw:=uh HFew
 go_wp2_with fail
 refine (VW (m:=YD m k true) (uh ko) (uh HP) (fun k e=>by have:=(uh LO k e).2;omega) (uh kr) (uh BB) (by show m.smiths.length<=800;have:=hfw.smiths;omega) (by show (m.desks.set k _).length<=_;rw [List.length_set];exact hfw.desks)).mono ?_
 clear kr BB
 rintro e w4 ⟨rfl,HF9,kr,BB⟩
 obtain ⟨o0,o1,o2,o3,o4,o5⟩:=(uh kr).c6
 obtain ⟨f0,f1,f2,f3,f4,f5⟩:=(uh kr).f6
 go_wp2_with fail
 have hX0:X=(ZQ (YD m k true),0):=by rw [<-uh HX];unfold Tm;rw [uh Hok,uh Hqw];simp only [if_true,Int.toNat_natCast];rw [uh Hop];rfl
 have hnow:(ZQ (YD m k true)).now=m.now:=(ZM _ _).2.2.2.1
 exact bodyPost_ret (v:= .tuple #[.agg (S6 b0 q0 b1 q1 b2 q2 (some ⟨g3,0,none⟩) q3 b4 q4 m),.int .i64 0]) (by simp [results,Tryz.results251,go_sem,setS,UQ,YD,pushS, *]) rfl (Zr hX0 hnow (uh HF9) (uh BB))
set_option maxRecDepth 100000
theorem Nk  {r:Nat} (h:Smy w v0 v1 v2 v3 v4 m) (hS:Sane m) (hr:r<m.rooms.length) :
  Calls Tryz.prog 59 #[.agg #[v0,v1,v2,v3,v4,.int .i64 m.now],.int .i64 (r:Int)] w fun e w'=>e= .returned (.int .i64 (Uh m r))/\Below w.heap.size w w':=by
 have Hv:=Z9 (h.alloc (.cells #[v0,v1,v2,v3,v4,.int .i64 m.now] 32))
 obtain ⟨a0,p0,a1,p1,a2,p2,a3,p3,a4,p4,rfl,rfl,rfl,rfl,rfl,_,_,_,_,_,_,_,_,_,_⟩:=h.five
 clear h
 have kb:Hid (Blk (w.alloc (.cells (S6 a0 p0 a1 p1 a2 p2 a3 p3 a4 p4 m) 32)) w.heap.size 32 (S6 a0 p0 a1 p1 a2 p2 a3 p3 a4 p4 m)):=Z9 (Blk.new w _ _)
 have BB:Hid (Below w.heap.size w (w.alloc (.cells (S6 a0 p0 a1 p1 a2 p2 a3 p3 a4 p4 m) 32))):=Z9 ((ba _ _))
 obtain ⟨x,hx⟩:∃ x,Uh m r=x:=⟨_,rfl⟩
 rw [hx]
 obtain ⟨ms,hms⟩:∃ q,Y3 m (r:Int) m.desks.length=q:=⟨_,rfl⟩
 have Hx:Hid (XM (ZV m.rooms r) ms.1=x):=Z9 (by rw [<-hx,<-hms];rfl)
 have Hms:=Z9 hms
 have HS:=Z9 hS
 have hr1:(r:Int)<(m.rooms.length:Int):=by omega
 clear hx hms hS
 obtain ⟨mo,al⟩:=ms
 go_enter Tryz.func59,Tryz.ntmps59
 go_wp2_with fail
 generalize w.alloc (.cells (S6 a0 p0 a1 p1 a2 p2 a3 p3 a4 p4 m) 32)=W at *
 refine (Qf (r:Int) (uh Hv) (uh HS)).mono ?_
 rw [uh Hms]
 rintro e w1 ⟨rfl,hb⟩
 replace Hv:=Z9 ((uh Hv).below hb)
 replace kb:=bl kb hb
 replace BB:=bt BB hb
 clear hb
 obtain ⟨_,_,hre,_,_,r0⟩:=(uh Hv).rooms
 cases hre
 rcases r0 with e0 | ⟨rb,off,rfl,hbw,hcl⟩
 ·rw [e0] at hr;simp at hr
 obtain ⟨d0,pv,d1,hpv⟩:=hcl r hr
 have Hpv:=Z9 hpv
 obtain ⟨pa,pc,rfl,_,_,_⟩:=hpv
 obtain ⟨⟨bn,ps⟩,hrm⟩:∃ q,ZV m.rooms r=q:=⟨_,rfl⟩
 rw [hrm] at d0 d1 Hpv Hx
 simp only at d0 d1
 clear hcl hrm
 have c0:=(uh kb).cell (i:=0) (v:= .slice (some ⟨rb,off,none⟩) m.rooms.length p0) rfl
 go_wp2_with fail
 refine ck (TG bn mo (uh Hpv)) fun w2 hb=> ?_
 replace BB:=bt BB hb
 clear hb
 go_wp2_with fail
 go_ret
 exact ⟨ZD (uh Hx),uh BB⟩
theorem Qe  {b:Nat} (h:Smy w v0 v1 v2 v3 v4 m) (hb0:b<m.desks.length) (hl:m.smiths.length<=800) :
  Calls Tryz.prog 306 #[.agg #[v0,v1,v2,v3,v4,.int .i64 m.now],.int .i64 (b:Int)] w fun e w'=>e= .returned (.bool (WE m b))/\Below w.heap.size w w':=by
 have Hv:=Z9 (h.alloc (.cells #[v0,v1,v2,v3,v4,.int .i64 m.now] 32))
 obtain ⟨a0,p0,a1,p1,a2,p2,a3,p3,a4,p4,rfl,rfl,rfl,rfl,rfl,_,_,_,_,_,_,_,_,_,_⟩:=h.five
 clear h
 have kb:Hid (Blk (w.alloc (.cells (S6 a0 p0 a1 p1 a2 p2 a3 p3 a4 p4 m) 32)) w.heap.size 32 (S6 a0 p0 a1 p1 a2 p2 a3 p3 a4 p4 m)):=Z9 (Blk.new w _ _)
 have BB:Hid (Below w.heap.size w (w.alloc (.cells (S6 a0 p0 a1 p1 a2 p2 a3 p3 a4 p4 m) 32))):=Z9 ((ba _ _))
 have hb1:(b:Int)<(m.desks.length:Int):=by omega
 obtain ⟨qs,hqs⟩:∃ q,atV m.smiths (b:Int) m.smiths.length=q:=⟨_,rfl⟩
 obtain ⟨op,hop⟩:∃ q,(Z8 m.desks b).1=q:=⟨_,rfl⟩
 have hI:WE m b=(op && decide (qs.length=0)):=by unfold WE;rw [hqs,hop]
 rw [hI]
 have Hqs:=Z9 hqs
 have Hop:=Z9 hop
 clear hI hqs hop
 go_enter Tryz.func306,Tryz.ntmps306
 go_upto_region 1 with fail
 generalize w.alloc (.cells (S6 a0 p0 a1 p1 a2 p2 a3 p3 a4 p4 m) 32)=W at *
 obtain ⟨_,_,hde,_,_,r3⟩:=(uh Hv).desks
 cases hde
 rcases r3 with e0 | ⟨db,off,rfl,hbw,hcl⟩
 ·rw [e0] at hb0;simp at hb0
 obtain ⟨d0,_,_⟩:=Zi hcl hb0
 rw [uh Hop] at d0
 clear hcl Hop
 obtain ⟨c0,c1,c2,c3,c4,c5⟩:=(uh kb).c6
 cases op
 ·go_wp2_with fail
  go_ret
  exact ⟨rfl,uh BB⟩
 go_wp2_with fail
 refine (SH (b:Int) (uh Hv) (by omega)).mono ?_
 rw [uh Hqs]
 rintro e w2 ⟨v',rfl,he,hb⟩
 obtain ⟨ua,uc,rfl⟩:=EntsAt.shape he
 replace BB:=bt BB hb
 clear hb he c0 c1 c2 c3 c4 c5
 go_wp2_with fail
 go_ret
 exact ⟨Z5 (by rw [Bool.true_and,Bool.eq_iff_iff];simp only [beq_iff_eq,decide_eq_true_eq];omega),uh BB⟩
def FK:Option (Nat × Nat)->Value
 | none=> .tuple #[.int .i64 0,.int .i64 0,.bool false]
 | some (w,b)=> .tuple #[.int .i64 (w:Int),.int .i64 (b:Int),.bool true]
theorem FR {b w:Nat} {k n:Nat} (h:V0 m b k=some w) (hn:k<=n):V0 m b n=some w:=by
 obtain ⟨d,rfl⟩:∃ d,n=k+d:=⟨n-k,by omega⟩
 clear hn
 induction d with
 | zero=>exact h
 | succ d ih=>
  show V0 m b (k+d+1)=some w
  unfold V0
  rw [ih]
theorem I1 {w b:Nat} {k n:Nat} (h:Xl m k=some (w,b)) (hn:k<=n):Xl m n=some (w,b):=by
 obtain ⟨d,rfl⟩:∃ d,n=k+d:=⟨n-k,by omega⟩
 clear hn
 induction d with
 | zero=>exact h
 | succ d ih=>
  show Xl m (k+d+1)=some (w,b)
  unfold Xl
  rw [ih]
theorem EO {w b:Nat} {k n:Nat} (h:Wj m w k=some b) (hn:k<=n):Wj m w n=some b:=by
 obtain ⟨d,rfl⟩:∃ d,n=k+d:=⟨n-k,by omega⟩
 clear hn
 induction d with
 | zero=>exact h
 | succ d ih=>
  show Wj m w (k+d+1)=some b
  unfold Wj
  rw [ih]
theorem DP {w b:Nat} {k n:Nat} (h:Ur m k=some (w,b)) (hn:k<=n):Ur m n=some (w,b):=by
 obtain ⟨d,rfl⟩:∃ d,n=k+d:=⟨n-k,by omega⟩
 clear hn
 induction d with
 | zero=>exact h
 | succ d ih=>
  show Ur m (k+d+1)=some (w,b)
  unfold Ur
  rw [ih]
set_option maxRecDepth 100000
theorem O8  (h:Smy w v0 v1 v2 v3 v4 m) :
  Calls Tryz.prog 283 #[.agg #[v0,v1,v2,v3,v4,.int .i64 m.now]] w fun e w'=>e= .returned (FK (VN m))/\Below w.heap.size w w':=by
 have Hv0:=Z9 (h.alloc (.cells #[v0,v1,v2,v3,v4,.int .i64 m.now] 32))
 obtain ⟨a0,p0,a1,p1,a2,p2,a3,p3,a4,p4,rfl,rfl,rfl,rfl,rfl,_,_,_,_,_,_,_,_,_,_⟩:=h.five
 clear h
 obtain ⟨BB0,kb0⟩:=Xe w 32 (S6 a0 p0 a1 p1 a2 p2 a3 p3 a4 p4 m)
 obtain ⟨tv,htv⟩:∃ t,FK (VN m)=t:=⟨_,rfl⟩
 rw [htv]
 obtain ⟨ok,hok⟩:∃ q,ZO m=q:=⟨_,rfl⟩
 have Hok:=Z9 hok
 have HT:=Z9 htv
 clear hok htv
 cases ok
 ·obtain rfl:tv= .tuple #[.int .i64 0,.int .i64 0,.bool false]:=by rw [<-uh HT];unfold VN;rw [uh Hok];rfl
  go_enter Tryz.func283,Tryz.ntmps283
  go_wp2_with fail
  go_loopw [5] (fun i wr=>i= .int .i64 0/\Blk wr w.heap.size 32 (S6 a0 p0 a1 p1 a2 p2 a3 p3 a4 p4 m)/\Smy wr (.slice a0 m.rooms.length p0) (.slice a1 m.guilds.length p1) (.slice a2 m.smiths.length p2) (.slice a3 m.desks.length p3) (.slice a4 m.paces.length p4) m/\Below w.heap.size w wr) (fun _ _=>1)
  case atStart=>exact ⟨rfl,uh kb0,uh Hv0,uh BB0⟩
  case round=>
   obtain ⟨rfl,hkb,hv,hb0⟩:=hrel
   have kb:=Z9 hkb
   have Hv:=Z9 hv
   have BB:=Z9 hb0
   clear hkb hv hb0 kb0 Hv0 BB0
   obtain ⟨c0,c1,c2,c3,c4,c5⟩:=(uh kb).c6
   by_cases hlt:0<m.smiths.length
   ·have hlt1:(0:Int)<(m.smiths.length:Int):=by omega
    go_wp2_with fail
    refine ck (XF (uh Hok) (uh Hv)) fun w1 hb=> ?_
    replace BB:=bt BB hb
    clear hb
    go_wp2_with fail
    refine bodyPost_ret (v:= .tuple #[.int .i64 0,.int .i64 0,.bool false]) (by simp [results,Tryz.results283,go_sem]) rfl ⟨rfl,uh BB⟩
   ·have hlt1:¬ ((0:Int)<(m.smiths.length:Int)):=by omega
    go_wp2_with fail
    refine bodyPost_ret (v:= .tuple #[.int .i64 0,.int .i64 0,.bool false]) (by simp [results,Tryz.results283,go_sem]) rfl ⟨rfl,uh BB⟩
 have hlo:=ZT (uh Hok)
 have HLo:=Z9 hlo
 have HSa:=Z9 hlo.sane
 have h12:=Za hlo
 have h8:=Xg hlo
 clear hlo
 have HW:Hid (tv=FK (Ur m m.smiths.length)):=Z9 (by rw [<-uh HT];unfold VN;rw [uh Hok];rfl)
 clear HT
 go_enter Tryz.func283,Tryz.ntmps283
 go_wp2_with fail
 go_loopw [5] (fun i wr=> ∃ k:Nat,k<=m.smiths.length/\i= .int .i64 k/\Ur m k=none/\Blk wr w.heap.size 32 (S6 a0 p0 a1 p1 a2 p2 a3 p3 a4 p4 m)/\Smy wr (.slice a0 m.rooms.length p0) (.slice a1 m.guilds.length p1) (.slice a2 m.smiths.length p2) (.slice a3 m.desks.length p3) (.slice a4 m.paces.length p4) m/\Below w.heap.size w wr) (fun i _=>m.smiths.length-(intOf i).toNat)
 case atStart=>exact ⟨0,Nat.zero_le _,rfl,rfl,uh kb0,uh Hv0,uh BB0⟩
 case round=>
  obtain ⟨k,hk,rfl,hno,hkb,hv,hb0⟩:=hrel
  have Hno:=Z9 hno
  clear hno
  have kb:=Z9 hkb
  have Hv:=Z9 hv
  have BB:=Z9 hb0
  clear hkb hv hb0
  clear kb0 Hv0 BB0
  obtain ⟨c0,c1,c2,c3,c4,c5⟩:=(uh kb).c6
  by_cases hlt:k<m.smiths.length
  rotate_left
  ·have hlt1:¬ ((k:Int)<(m.smiths.length:Int)):=by omega
   obtain rfl:k=m.smiths.length:=by omega
   obtain rfl:tv= .tuple #[.int .i64 0,.int .i64 0,.bool false]:=by rw [uh HW,uh Hno];rfl
   go_wp2_with fail
   refine bodyPost_ret (v:= .tuple #[.int .i64 0,.int .i64 0,.bool false]) (by simp [results,Tryz.results283,go_sem]) rfl ⟨rfl,uh BB⟩
  have hlt1:(k:Int)<(m.smiths.length:Int):=by omega
  go_wp2_with fail
  refine ck (XF (uh Hok) (uh Hv)) fun w1 hb=> ?_
  replace Hv:=Z9 ((uh Hv).below hb)
  replace kb:=bl kb hb
  replace BB:=bt BB hb
  clear hb c0 c1 c2 c3 c4 c5
  have HN:Hid (∀ w9,RD m k=w9->Ur m (k+1)=w9.map fun x=>(k,x)):=Z9 (fun w9 e=>by unfold Ur;rw [uh Hno,e])
  have HMB:Hid (Sw m k=(ZP (Z8 m.smiths k) && !VT (Yk m (k:Int)) 0 (YR m.rooms (Z8 m.smiths k).2.1))):=Z9 rfl
  obtain ⟨_,_,hse,_,_,r2⟩:=(uh Hv).smiths
  cases hse
  rcases r2 with e0 | ⟨sb,off,rfl,hbw,hcl⟩
  ·rw [e0] at hlt;simp at hlt
  obtain ⟨d0,d1,d2,d3,d4,d5,d6,d7,d8,d9,d10⟩:=ZB hcl hlt
  clear hcl
  obtain ⟨ps,hps⟩:∃ q,ZP (Z8 m.smiths k)=q:=⟨_,rfl⟩
  obtain ⟨fi,hfi⟩:∃ q,VT (Yk m (k:Int)) 0 (YR m.rooms (Z8 m.smiths k).2.1)=q:=⟨_,rfl⟩
  have HM2:Hid (Sw m k=(ps && !fi)):=Z9 (by rw [uh HMB,hps,hfi])
  have HP0:=Z9 hps
  have HA1:Hid (ps=true->0<=(Z8 m.smiths k).2.1/\(Z8 m.smiths k).2.1<m.desks.length/\ -1<=(Z8 m.smiths k).2.2.2.2.1/\(Z8 m.smiths k).2.2.2.2.1<m.guilds.length/\0<=(Z8 m.smiths k).2.2.2.1/\(Z8 m.smiths k).2.2.2.1<=255):=Z9 (fun e=>by
   have hp:=(uh HP0).trans e
   have h1:=(uh HLo).at hlt hp
   have h2:=(uh HLo).limits hlt (Gt hp)
   have h3:=h2.1
   have h4:=h2.2.1
   have a0:=h1.1
   have a1:=h1.2.1
   generalize Z8 m.smiths k=s at *
   obtain ⟨st,be,rk,my,gu,lo',hi',hd,ca,ut,wk⟩:=s
   have h5:=Zu h3
   exact ⟨a0,a1,h5.2.2.2.2.1.1,h4,by show 0<=my;omega,h5.2.2.2.1.2⟩)
  have HG:=Z9 (uh HSa).guilded.guilds
  have Hwa:=Z9 (fun (e:ps=true) (X:World) (hX:Smy X (.slice a0 m.rooms.length p0) (.slice a1 m.guilds.length p1) (.slice (some ⟨sb,off,none⟩) m.smiths.length p2) (.slice a3 m.desks.length p3) (.slice a4 m.paces.length p4) m)=>S8 hX (uh HG) hlt (uh HA1 e).2.2.1 (uh HA1 e).2.2.2.1)
  have Hfo:=Z9 (fun (e:ps=true) (X:World) (hX:Smy X (.slice a0 m.rooms.length p0) (.slice a1 m.guilds.length p1) (.slice (some ⟨sb,off,none⟩) m.smiths.length p2) (.slice a3 m.desks.length p3) (.slice a4 m.paces.length p4) m)=>V6 (Z8 m.smiths k).2.1 hX.rooms (by
   have h9:=uh HA1 e
   obtain ⟨j9,e9⟩:∃ j:Nat,(Z8 m.smiths k).2.1=(j:Int):=⟨(Z8 m.smiths k).2.1.toNat,by omega⟩
   rw [e9]
   exact (uh HSa).bench (by omega)))
  have HFv:Hid (ps=true->VE (ZV m.rooms (XN m.rooms (Z8 m.smiths k).2.1)).2=YR m.rooms (Z8 m.smiths k).2.1):=Z9 (fun e=>(SY (by
   have h9:=uh HA1 e
   obtain ⟨j9,e9⟩:∃ j:Nat,(Z8 m.smiths k).2.1=(j:Int):=⟨(Z8 m.smiths k).2.1.toNat,by omega⟩
   rw [e9]
   exact (uh HSa).bench (by omega))).symm)
  have Hmy:=Z9 (fun (e:ps=true)=>(uh HA1 e).2.2.2.2)
  obtain ⟨⟨st,be,rk,my,gu,lo,hi,hd,ca,ut,wk⟩,hrk⟩:∃ d,Z8 m.smiths k=d:=⟨_,rfl⟩
  rw [hrk] at d0 d1 d2 d3 d4 d5 d6 d7 d8 d9 d10 hps hfi Hfo HFv
  simp only at d0 d1 d2 d3 d4 d5 d6 d7 d8 d9 d10 hfi Hfo HFv
  have Hps:=Z9 hps
  have Hfi:=Z9 hfi
  have Hrk:=Z9 hrk
  clear hps hfi hrk HMB HP0
  have hsbw:sb<w1.heap.size:=hbw
  obtain ⟨c0,c1,c2,c3,c4,c5⟩:=(uh kb).c6
  go_upto_region 5 with fail
  clear d0 d1 d2 d3 d4 d5 d6 d7 d8 d9 d10 c0 c1 c2 c3 c4 c5
  obtain ⟨WQ,hWQ,hba,ks⟩:=YN w1 39 (I11 st be rk my gu lo hi hd ca ut wk)
  replace Hv:=Z9 ((uh Hv).below hba)
  replace kb:=bl kb hba
  replace BB:=bt BB hba
  clear hba hsbw hbw
  rw [hWQ]
  clear hWQ
  generalize w1.heap.size=sx at *
  obtain ⟨c0,c1,c2,c3,c4,c5⟩:=(uh kb).c6
  have y0:=cell_regrown c0
  have y1:=cell_regrown c1
  have y2:=cell_regrown c2
  have y3:=cell_regrown c3
  have y4:=cell_regrown c4
  have y5:=cell_regrown c5
  have s0:=cell_regrown ((uh ks).cell (i:=0) (v:= .int .i64 st) rfl)
  have s1:=cell_regrown ((uh ks).cell (i:=1) (v:= .int .i64 be) rfl)
  have s2:=cell_regrown ((uh ks).cell (i:=2) (v:= .int .i64 rk) rfl)
  have s3:=cell_regrown ((uh ks).cell (i:=3) (v:= .int .i64 my) rfl)
  have s4:=cell_regrown ((uh ks).cell (i:=4) (v:= .int .i64 gu) rfl)
  have s5:=cell_regrown ((uh ks).cell (i:=5) (v:= .int .i64 lo) rfl)
  have s6:=cell_regrown ((uh ks).cell (i:=6) (v:= .int .i64 hi) rfl)
  have s7:=cell_regrown ((uh ks).cell (i:=7) (v:= .int .i64 hd) rfl)
  have s8:=cell_regrown ((uh ks).cell (i:=8) (v:= .int .i64 ca) rfl)
  have s9:=cell_regrown ((uh ks).cell (i:=9) (v:= .int .i64 ut) rfl)
  have s10:=cell_regrown ((uh ks).cell (i:=10) (v:= .int .i64 wk) rfl)
  have H1:=Z9 (fun (X:World)=>YS (uh Hps) X)
  cases ps
  ·have hm0:RD m k=none:=by unfold RD;rw [uh HM2];rfl
   have Hm0:=Z9 hm0
   clear hm0
   go_wp2_with fail
   refine wq ?_
   repeat (go_big_quiet_step (first | exact Calls.regrown_of (uh H1 _)))
   refine wqn fun W9 hb=> ?_
   replace Hv:=Z9 ((uh Hv).below hb)
   replace kb:=bl kb hb
   replace BB:=bt BB hb
   clear hb
   go_wp2_with fail
   go_roundw
   case rel=>exact ⟨k+1,by omega,by go_num,by rw [uh HN none (uh Hm0)];rfl,uh kb,uh Hv,uh BB⟩
   case measure=>exact ms
  have H2:=Z9 (fun (X:World) (hX:Below WQ.heap.size WQ X)=>uh Hwa rfl X ((uh Hv).below hX))
  have H3:=Z9 (fun (X:World) (hX:Below WQ.heap.size WQ X)=>uh Hfo rfl X ((uh Hv).below hX))
  rw [uh HFv rfl] at H3
  have H4:=Z9 (fun (X:World)=>Calls.bool_of (Calls.same_below (Vw (Yk m (k:Int)) 0 (YR m.rooms be) X)) (uh Hfi))
  have Hmy2:=Z9 (uh Hmy rfl)
  obtain ⟨wa,hwa⟩:∃ q,Yk m (k:Int)=q:=⟨_,rfl⟩
  obtain ⟨fo,hfo⟩:∃ q,YR m.rooms be=q:=⟨_,rfl⟩
  have HWb:=Z9 (fun (X:World) (hX:Smy X (.slice a0 m.rooms.length p0) (.slice a1 m.guilds.length p1) (.slice (some ⟨sb,off,none⟩) m.smiths.length p2) (.slice a3 m.desks.length p3) (.slice a4 m.paces.length p4) m)=>uh Hwa rfl X hX)
  rw [hwa] at H2 H4 HWb
  rw [hfo] at H3 H4
  have HWa:=Z9 hwa
  clear hwa hfo Hwa Hfo HFv Hmy
  cases fi
  rotate_left
  ·have hm0:RD m k=none:=by unfold RD;rw [uh HM2];rfl
   have Hm0:=Z9 hm0
   clear hm0
   go_wp2_with fail
   refine wq ?_
   repeat (go_big_quiet_step (first | exact Calls.regrown_of (uh H1 _) | exact Calls.regrown_of (uh H2 _ (below_regrown _ _ _)) | exact Calls.regrown_of (uh H3 _ (below_regrown _ _ _)) | exact Calls.regrown_of (uh H4 _)))
   refine wqn fun W9 hb=> ?_
   replace Hv:=Z9 ((uh Hv).below hb)
   replace kb:=bl kb hb
   replace BB:=bt BB hb
   clear hb
   go_wp2_with fail
   go_roundw
   case rel=>exact ⟨k+1,by omega,by go_num,by rw [uh HN none (uh Hm0)];rfl,uh kb,uh Hv,uh BB⟩
   case measure=>exact ms
  have HMA:Hid (RD m k=Wj m k m.desks.length):=Z9 (by unfold RD;rw [uh HM2];rfl)
  go_wp2_with fail
  refine wq ?_
  repeat (go_big_quiet_step (first | exact Calls.regrown_of (uh H1 _) | exact Calls.regrown_of (uh H2 _ (below_regrown _ _ _)) | exact Calls.regrown_of (uh H3 _ (below_regrown _ _ _)) | exact Calls.regrown_of (uh H4 _)))
  refine wqn fun W9 hb=> ?_
  replace Hv:=Z9 ((uh Hv).below hb)
  replace kb:=bl kb hb
  replace BB:=bt BB hb
  clear hb c0 c1 c2 c3 c4 c5 s0 s1 s2 s3 s4 s5 s6 s7 s8 s9 s10 y0 y1 y2 y3 y4 y5 H1 H2 H3 H4 ks
  go_wp2_with fail
  go_loopw [7] (fun i wr=> ∃ j:Nat,j<=m.desks.length/\i= .int .i64 j/\Wj m k j=none/\Blk wr w.heap.size 32 #[.slice a0 m.rooms.length p0,.slice a1 m.guilds.length p1,.slice (some ⟨sb,off,none⟩) m.smiths.length p2,.slice a3 m.desks.length p3,.slice a4 m.paces.length p4,.int .i64 m.now]/\Smy wr (.slice a0 m.rooms.length p0) (.slice a1 m.guilds.length p1) (.slice (some ⟨sb,off,none⟩) m.smiths.length p2) (.slice a3 m.desks.length p3) (.slice a4 m.paces.length p4) m/\Below w.heap.size w wr) (fun i _=>m.desks.length-(intOf i).toNat)
  case atStart=>exact ⟨0,Nat.zero_le _,rfl,rfl,uh kb,uh Hv,uh BB⟩
  case round=>
   obtain ⟨j,hj,rfl,hno2,hkb,hv,hb0⟩:=hrel
   have Hno2:=Z9 hno2
   obtain ⟨WQ,rfl⟩:∃ x,x=wr:=⟨wr,rfl⟩
   clear hno2 kb Hv BB
   have kb:=Z9 hkb
   have Hv:=Z9 hv
   have BB:=Z9 hb0
   clear hkb hv hb0
   obtain ⟨c0,c1,c2,c3,c4,c5⟩:=(uh kb).c6
   by_cases hlj:j<m.desks.length
   rotate_left
   ·have hlj1:¬ ((j:Int)<(m.desks.length:Int)):=by omega
    obtain rfl:j=m.desks.length:=by omega
    go_wp2_with fail
    go_roundw
    case rel=>exact ⟨k+1,by omega,by go_num,by rw [uh HN none (by rw [uh HMA];exact uh Hno2)];rfl,uh kb,uh Hv,uh BB⟩
    case measure=>exact ms
   have hlj1:(j:Int)<(m.desks.length:Int):=by omega
   have HS:Hid (∀ q,Od m k j=q->Wj m k (j+1)=if q then some j else none):=Z9 (fun q e=>by unfold Wj;rw [uh Hno2,e])
   obtain ⟨qi,hqi⟩:∃ q,WE m j=q:=⟨_,rfl⟩
   obtain ⟨qm,hqm⟩:∃ q,Yg m (k:Int) j=q:=⟨_,rfl⟩
   obtain ⟨qf,hqf⟩:∃ q,VT wa 0 (YR m.rooms (j:Int))=q:=⟨_,rfl⟩
   have HB2:Hid (Od m k j=(qi && (qm && qf))):=Z9 (by unfold Od;rw [hqi,hqm,uh HWa,hqf])
   have hfov:=SY ((uh HSa).bench hlj)
   have H1:=Z9 (fun (X:World) (hX:Below WQ.heap.size WQ X)=>Calls.bool_of (Qe ((uh Hv).below hX) hlj (by omega)) hqi)
   have H2:=Z9 (fun (X:World) (hX:Below WQ.heap.size WQ X)=>Calls.bool_of (TR ((uh Hv).below hX) hlt hlj (by omega) (uh Hmy2).1 (uh Hmy2).2) hqm)
   have H3:=Z9 (fun (X:World) (hX:Below WQ.heap.size WQ X)=>uh HWb X ((uh Hv).below hX))
   have H4:=Z9 (fun (X:World) (hX:Below WQ.heap.size WQ X)=>V6 (j:Int) ((uh Hv).below hX).rooms ((uh HSa).bench hlj))
   rw [<-hfov] at H4
   have H5:=Z9 (fun (X:World)=>Calls.bool_of (Calls.same_below (Vw wa 0 (YR m.rooms (j:Int)) X)) hqf)
   clear hqi hqm hqf hfov
   generalize YR m.rooms (j:Int)=fj at *
   have y0:=cell_regrown c0
   have y1:=cell_regrown c1
   have y2:=cell_regrown c2
   have y3:=cell_regrown c3
   have y4:=cell_regrown c4
   have y5:=cell_regrown c5
   cases qi
   ·go_wp2_with fail
    refine wq ?_
    repeat (go_big_quiet_step (first | exact Calls.regrown_of (uh H1 _ (below_regrown _ _ _)) | exact Calls.regrown_of (uh H2 _ (below_regrown _ _ _)) | exact Calls.regrown_of (uh H3 _ (below_regrown _ _ _)) | exact Calls.regrown_of (uh H4 _ (below_regrown _ _ _)) | exact Calls.regrown_of (uh H5 _)))
    refine wqn fun W9 hb=> ?_
    replace Hv:=Z9 ((uh Hv).below hb)
    replace kb:=bl kb hb
    replace BB:=bt BB hb
    clear hb
    go_wp2_with fail
    go_roundw
    case rel=>exact ⟨j+1,by omega,by go_num,by rw [uh HS _ (uh HB2)];rfl,uh kb,uh Hv,uh BB⟩
    case measure=>exact ms
   cases qm
   ·go_wp2_with fail
    refine wq ?_
    repeat (go_big_quiet_step (first | exact Calls.regrown_of (uh H1 _ (below_regrown _ _ _)) | exact Calls.regrown_of (uh H2 _ (below_regrown _ _ _)) | exact Calls.regrown_of (uh H3 _ (below_regrown _ _ _)) | exact Calls.regrown_of (uh H4 _ (below_regrown _ _ _)) | exact Calls.regrown_of (uh H5 _)))
    refine wqn fun W9 hb=> ?_
    replace Hv:=Z9 ((uh Hv).below hb)
    replace kb:=bl kb hb
    replace BB:=bt BB hb
    clear hb
    go_wp2_with fail
    go_roundw
    case rel=>exact ⟨j+1,by omega,by go_num,by rw [uh HS _ (uh HB2)];rfl,uh kb,uh Hv,uh BB⟩
    case measure=>exact ms
   cases qf
   ·go_wp2_with fail
    refine wq ?_
    repeat (go_big_quiet_step (first | exact Calls.regrown_of (uh H1 _ (below_regrown _ _ _)) | exact Calls.regrown_of (uh H2 _ (below_regrown _ _ _)) | exact Calls.regrown_of (uh H3 _ (below_regrown _ _ _)) | exact Calls.regrown_of (uh H4 _ (below_regrown _ _ _)) | exact Calls.regrown_of (uh H5 _)))
    refine wqn fun W9 hb=> ?_
    replace Hv:=Z9 ((uh Hv).below hb)
    replace kb:=bl kb hb
    replace BB:=bt BB hb
    clear hb
    go_wp2_with fail
    go_roundw
    case rel=>exact ⟨j+1,by omega,by go_num,by rw [uh HS _ (uh HB2)];rfl,uh kb,uh Hv,uh BB⟩
    case measure=>exact ms
   go_wp2_with fail
   refine wq ?_
   repeat (go_big_quiet_step (first | exact Calls.regrown_of (uh H1 _ (below_regrown _ _ _)) | exact Calls.regrown_of (uh H2 _ (below_regrown _ _ _)) | exact Calls.regrown_of (uh H3 _ (below_regrown _ _ _)) | exact Calls.regrown_of (uh H4 _ (below_regrown _ _ _)) | exact Calls.regrown_of (uh H5 _)))
   refine wqn fun W9 hb=> ?_
   replace Hv:=Z9 ((uh Hv).below hb)
   replace kb:=bl kb hb
   replace BB:=bt BB hb
   clear hb
   have HR:Hid (tv= .tuple #[.int .i64 (k:Int),.int .i64 (j:Int),.bool true]):=Z9 (by
    rw [uh HW,DP (k:=k+1) (w:=k) (b:=j) (by rw [uh HN (some j) (by rw [uh HMA];exact EO (k:=j+1) (by rw [uh HS _ (uh HB2)];rfl) (by omega))];rfl) (by omega)]
    rfl)
   obtain rfl:=uh HR
   go_wp2_with fail
   refine bodyPost_ret (v:= .tuple #[.int .i64 (k:Int),.int .i64 (j:Int),.bool true]) (by simp [results,Tryz.results283,go_sem]) rfl ⟨rfl,uh BB⟩
set_option maxRecDepth 100000
theorem PU  (h:Smy w v0 v1 v2 v3 v4 m) :
  Calls Tryz.prog 284 #[.agg #[v0,v1,v2,v3,v4,.int .i64 m.now]] w fun e w'=>e= .returned (FK (Wa m))/\Below w.heap.size w w':=by
 have Hv0:=Z9 (h.alloc (.cells #[v0,v1,v2,v3,v4,.int .i64 m.now] 32))
 obtain ⟨a0,p0,a1,p1,a2,p2,a3,p3,a4,p4,rfl,rfl,rfl,rfl,rfl,_,_,_,_,_,_,_,_,_,_⟩:=h.five
 clear h
 obtain ⟨BB0,kb0⟩:=Xe w 32 (S6 a0 p0 a1 p1 a2 p2 a3 p3 a4 p4 m)
 obtain ⟨tv,htv⟩:∃ t,FK (Wa m)=t:=⟨_,rfl⟩
 rw [htv]
 obtain ⟨ok,hok⟩:∃ q,ZO m=q:=⟨_,rfl⟩
 have Hok:=Z9 hok
 have HT:=Z9 htv
 clear hok htv
 cases ok
 ·obtain rfl:tv= .tuple #[.int .i64 0,.int .i64 0,.bool false]:=by rw [<-uh HT];unfold Wa;rw [uh Hok];rfl
  go_enter Tryz.func284,Tryz.ntmps284
  go_wp2_with fail
  go_loopw [5] (fun i wr=>i= .int .i64 0/\Blk wr w.heap.size 32 (S6 a0 p0 a1 p1 a2 p2 a3 p3 a4 p4 m)/\Smy wr (.slice a0 m.rooms.length p0) (.slice a1 m.guilds.length p1) (.slice a2 m.smiths.length p2) (.slice a3 m.desks.length p3) (.slice a4 m.paces.length p4) m/\Below w.heap.size w wr) (fun _ _=>1)
  case atStart=>exact ⟨rfl,uh kb0,uh Hv0,uh BB0⟩
  case round=>
   obtain ⟨rfl,hkb,hv,hb0⟩:=hrel
   have kb:=Z9 hkb
   have Hv:=Z9 hv
   have BB:=Z9 hb0
   clear hkb hv hb0 kb0 Hv0 BB0
   obtain ⟨c0,c1,c2,c3,c4,c5⟩:=(uh kb).c6
   by_cases hlt:0<m.desks.length
   ·have hlt1:(0:Int)<(m.desks.length:Int):=by omega
    go_wp2_with fail
    refine ck (XF (uh Hok) (uh Hv)) fun w1 hb=> ?_
    replace BB:=bt BB hb
    clear hb
    go_wp2_with fail
    refine bodyPost_ret (v:= .tuple #[.int .i64 0,.int .i64 0,.bool false]) (by simp [results,Tryz.results284,go_sem]) rfl ⟨rfl,uh BB⟩
   ·have hlt1:¬ ((0:Int)<(m.desks.length:Int)):=by omega
    go_wp2_with fail
    refine bodyPost_ret (v:= .tuple #[.int .i64 0,.int .i64 0,.bool false]) (by simp [results,Tryz.results284,go_sem]) rfl ⟨rfl,uh BB⟩
 have hlo:=ZT (uh Hok)
 have HLo:=Z9 hlo
 have h12:=Za hlo
 have h8:=Xg hlo
 clear hlo
 have HW:Hid (tv=FK (Xl m m.desks.length)):=Z9 (by rw [<-uh HT];unfold Wa;rw [uh Hok];rfl)
 clear HT
 go_enter Tryz.func284,Tryz.ntmps284
 go_wp2_with fail
 go_loopw [5] (fun i wr=> ∃ k:Nat,k<=m.desks.length/\i= .int .i64 k/\Xl m k=none/\Blk wr w.heap.size 32 (S6 a0 p0 a1 p1 a2 p2 a3 p3 a4 p4 m)/\Smy wr (.slice a0 m.rooms.length p0) (.slice a1 m.guilds.length p1) (.slice a2 m.smiths.length p2) (.slice a3 m.desks.length p3) (.slice a4 m.paces.length p4) m/\Below w.heap.size w wr) (fun i _=>m.desks.length-(intOf i).toNat)
 case atStart=>exact ⟨0,Nat.zero_le _,rfl,rfl,uh kb0,uh Hv0,uh BB0⟩
 case round=>
  obtain ⟨k,hk,rfl,hno,hkb,hv,hb0⟩:=hrel
  have Hno:=Z9 hno
  clear hno
  have kb:=Z9 hkb
  have Hv:=Z9 hv
  have BB:=Z9 hb0
  clear hkb hv hb0
  clear kb0 Hv0 BB0
  obtain ⟨c0,c1,c2,c3,c4,c5⟩:=(uh kb).c6
  by_cases hlt:k<m.desks.length
  rotate_left
  ·have hlt1:¬ ((k:Int)<(m.desks.length:Int)):=by omega
   obtain rfl:k=m.desks.length:=by omega
   obtain rfl:tv= .tuple #[.int .i64 0,.int .i64 0,.bool false]:=by rw [uh HW,uh Hno];rfl
   go_wp2_with fail
   refine bodyPost_ret (v:= .tuple #[.int .i64 0,.int .i64 0,.bool false]) (by simp [results,Tryz.results284,go_sem]) rfl ⟨rfl,uh BB⟩
  have hlt1:(k:Int)<(m.desks.length:Int):=by omega
  go_wp2_with fail
  refine ck (XF (uh Hok) (uh Hv)) fun w1 hb=> ?_
  replace Hv:=Z9 ((uh Hv).below hb)
  replace kb:=bl kb hb
  replace BB:=bt BB hb
  clear hb c0 c1 c2 c3 c4 c5
  obtain ⟨qi,hqi⟩:∃ q,WE m k=q:=⟨_,rfl⟩
  have Hqi:=Z9 hqi
  clear hqi
  have HN:Hid (∀ w9,Rf m k=w9->Xl m (k+1)=w9.map fun x=>(x,k)):=Z9 (fun w9 e=>by unfold Xl;rw [uh Hno,e])
  obtain ⟨c0,c1,c2,c3,c4,c5⟩:=(uh kb).c6
  go_wp2_with fail
  refine (Qe (uh Hv) hlt (by omega)).mono ?_
  rw [uh Hqi]
  rintro e w2 ⟨rfl,hb⟩
  replace Hv:=Z9 ((uh Hv).below hb)
  replace kb:=bl kb hb
  replace BB:=bt BB hb
  clear hb c0 c1 c2 c3 c4 c5
  cases qi
  ·go_wp2_with fail
   go_roundw
   case rel=>exact ⟨k+1,by omega,by go_num,by rw [uh HN none (by unfold Rf;rw [uh Hqi];rfl)];rfl,uh kb,uh Hv,uh BB⟩
   case measure=>exact ms
  go_wp2_with fail
  go_loopw [6] (fun i wr=> ∃ j:Nat,j<=m.smiths.length/\i= .int .i64 j/\V0 m k j=none/\Blk wr w.heap.size 32 (S6 a0 p0 a1 p1 a2 p2 a3 p3 a4 p4 m)/\Smy wr (.slice a0 m.rooms.length p0) (.slice a1 m.guilds.length p1) (.slice a2 m.smiths.length p2) (.slice a3 m.desks.length p3) (.slice a4 m.paces.length p4) m/\Below w.heap.size w wr) (fun i _=>m.smiths.length-(intOf i).toNat)
  case atStart=>exact ⟨0,Nat.zero_le _,rfl,rfl,uh kb,uh Hv,uh BB⟩
  case round=>
   obtain ⟨j,hj,rfl,hno2,hkb,hv,hb0⟩:=hrel
   have Hno2:=Z9 hno2
   clear hno2 kb Hv BB
   have kb:=Z9 hkb
   have Hv:=Z9 hv
   have BB:=Z9 hb0
   clear hkb hv hb0
   obtain ⟨c0,c1,c2,c3,c4,c5⟩:=(uh kb).c6
   by_cases hlj:j<m.smiths.length
   rotate_left
   ·have hlj1:¬ ((j:Int)<(m.smiths.length:Int)):=by omega
    obtain rfl:j=m.smiths.length:=by omega
    go_wp2_with fail
    go_roundw
    case rel=>exact ⟨k+1,by omega,by go_num,by rw [uh HN none (by unfold Rf;rw [uh Hqi];exact uh Hno2)];rfl,uh kb,uh Hv,uh BB⟩
    case measure=>exact ms
   have hlj1:(j:Int)<(m.smiths.length:Int):=by omega
   have HS:Hid (∀ q,Qq m j k=q->V0 m k (j+1)=if q then some j else none):=Z9 (fun q e=>by unfold V0;rw [uh Hno2,e])
   have HB:Hid (Qq m j k=((Z8 m.smiths j).1 ==2 && Yg m (j:Int) k)):=Z9 rfl
   obtain ⟨_,_,hse,_,_,r2⟩:=(uh Hv).smiths
   cases hse
   rcases r2 with e0 | ⟨sb,off,rfl,hbw,hcl⟩
   ·rw [e0] at hlj;simp at hlj
   obtain ⟨d0,_⟩:=ZB hcl hlj
   clear hcl
   obtain ⟨st,hst⟩:∃ q,(Z8 m.smiths j).1=q:=⟨_,rfl⟩
   rw [hst] at d0
   by_cases h2:st=2
   rotate_left
   ·have hn2:(st ==2)=false:=by simpa using h2
    have HB2:Hid (Qq m j k=false):=Z9 (by rw [uh HB,hst,hn2];rfl)
    clear hst
    go_wp2_with fail
    go_roundw
    case rel=>exact ⟨j+1,by omega,by go_num,by rw [uh HS _ (uh HB2)];rfl,uh kb,uh Hv,uh BB⟩
    case measure=>exact ms
   subst h2
   have hlim:=(uh HLo).limits hlj (by rw [hst];omega)
   have hmy:0<=(Z8 m.smiths j).2.2.2.1/\(Z8 m.smiths j).2.2.2.1<=255:=by
    have hp:=hlim.1
    generalize Z8 m.smiths j=s at *
    obtain ⟨st,be,rk,my,gu,lo',hi',hd,ca,ut,wk⟩:=s
    have:=(Zu hp).2.2.2.1
    exact ⟨by show 0<=my;omega,this.2⟩
   obtain ⟨qm,hqm⟩:∃ q,Yg m (j:Int) k=q:=⟨_,rfl⟩
   have Hqm:=Z9 hqm
   have HB2:Hid (Qq m j k=qm):=Z9 (by rw [uh HB,hst,hqm];rfl)
   have HM:=Z9 (fun (X:World) (hX:Smy X (.slice a0 m.rooms.length p0) (.slice a1 m.guilds.length p1) (.slice (some ⟨sb,off,none⟩) m.smiths.length p2) (.slice a3 m.desks.length p3) (.slice a4 m.paces.length p4) m)=>TR hX hlj hlt (by omega) hmy.1 hmy.2)
   clear hst hlim hmy hqm
   go_wp2_with fail
   refine (uh HM _ (uh Hv)).mono ?_
   rw [uh Hqm]
   rintro e w3 ⟨rfl,hb⟩
   replace Hv:=Z9 ((uh Hv).below hb)
   replace kb:=bl kb hb
   replace BB:=bt BB hb
   clear hb c0 c1 c2 c3 c4 c5 d0 HM
   cases qm
   ·go_wp2_with fail
    go_roundw
    case rel=>exact ⟨j+1,by omega,by go_num,by rw [uh HS _ (uh HB2)];rfl,uh kb,uh Hv,uh BB⟩
    case measure=>exact ms
   have HR:Hid (tv= .tuple #[.int .i64 (j:Int),.int .i64 (k:Int),.bool true]):=Z9 (by
    rw [uh HW,I1 (k:=k+1) (w:=j) (b:=k) (by rw [uh HN (some j) (by unfold Rf;rw [uh Hqi];exact FR (k:=j+1) (by rw [uh HS _ (uh HB2)];rfl) (by omega))];rfl) (by omega)]
    rfl)
   obtain rfl:=uh HR
   go_wp2_with fail
   refine bodyPost_ret (v:= .tuple #[.int .i64 (j:Int),.int .i64 (k:Int),.bool true]) (by simp [results,Tryz.results284,go_sem]) rfl ⟨rfl,uh BB⟩
end Go.Proofs.YtffcgajndmhpkaaGreatDoor
