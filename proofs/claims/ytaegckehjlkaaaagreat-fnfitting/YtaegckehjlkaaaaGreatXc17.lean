/- Part 17 of what the proof rests on. No condition but those that a theorem names. -/
import Derived.Test.YtaegckehjlkaaaaGreatXc12
import Derived.Test.YtaegckehjlkaaaaGreatXc16
import Derived.Deep.LoopGhost
set_option maxHeartbeats 8000000
set_option maxRecDepth 100000
namespace Go.Proofs.YtaegckehjlkaaaaGreat
open Go.ChangeShapes Go.WideShapes Go.ChangeAt Go.RowKit Go.Sort
set_option linter.unusedVariables false
set_option maxRecDepth 100000
variable {w w' w0 w1 w2 w3 w₀ wr W W' X A B C : World} {v v0 v1 v2 v3 v4 u u0 u1 u2 u3 u4 : Value} {m : Z6}
theorem ES {b:Int} {k:Nat} (hk:k<(ZQ (atB b) m.smiths m.smiths.length).length):∃ i:Nat,i<m.smiths.length/\Z8 (ZQ (atB b) m.smiths m.smiths.length) k=(i:Int):=by
 obtain ⟨i,hi,e,_⟩:=(Xh (atB b) m.smiths _ m.smiths.length).1 (Xn hk)
 exact ⟨i,hi,e⟩
theorem LD  {k:Nat} (h:Smy w v0 v1 v2 v3 v4 m) (hL:Wants m) (hk:k<m.smiths.length) (hs:(Z8 m.smiths k).1 ≠ 0):Calls Tryz.prog 63 #[.agg #[v0,v1,v2,v3,v4,.int .i64 m.now],.int .i64 (k:Int)] w fun e w'=>e= .returned (.int .i64 (ZI m (k:Int)))/\Below w.heap.size w w':=by
 have hw:ZI m (k:Int)=RJ m.guilds (Z8 m.smiths k):=rfl
 rw [hw]
 clear hw
 have Hg0:=Z9 h.guilds
 obtain ⟨a0,p0,rfl,_,_⟩:=IsRooms.shape h.rooms
 obtain ⟨a1,p1,rfl,_,_⟩:=IsRec.shape h.guilds
 obtain ⟨a2,p2,rfl,hc2,hm2,r2⟩:=h.smiths
 obtain ⟨a3,p3,rfl,_,_⟩:=IsRec.shape h.desks
 obtain ⟨a4,p4,rfl,_,_⟩:=IsRec.shape h.paces
 clear h
 obtain ⟨hg1,hpair⟩:=hL.each k hk hs
 rcases r2 with e0 | ⟨sb,off,rfl,hbw,hcl⟩
 ·rw [e0] at hk;simp at hk
 have hk1:(k:Int)<(m.smiths.length:Int):=by omega
 obtain ⟨d0,d1,d2,d3,d4,d5,d6,d7,d8,d9,d10⟩:=ZE hcl hk
 clear hcl hs hL
 generalize Z8 m.smiths k=ss at *
 obtain ⟨st,be,rk,my,gu,lo,hi,hd,ca,ut,wk⟩:=ss
 simp only at d0 d1 d2 d3 d4 d5 d6 d7 d8 d9 d10 hg1 hpair
 obtain ⟨nr,hnr⟩:∃ nr,Vo (bnd m.guilds gu) lo hi=nr:=⟨_,rfl⟩
 have HW:Hid (TV m.guilds gu lo hi=nr):=Z9 (by rw [<-hnr];exact NB hg1 hpair)
 have HX:Hid (RJ m.guilds (st,be,rk,my,gu,lo,hi,hd,ca,ut,wk)=min (max ut nr.1) nr.2):=Z9 (by rw [<-hnr];rfl)
 rw [uh HX]
 clear hpair hg1 HX hnr
 obtain ⟨nl,nh⟩:=nr
 dsimp only
 have hne:sb ≠ w.heap.size:=Nat.ne_of_lt hbw
 have hbw2:sb<w.heap.size+1:=by omega
 have BB:Hid (Below w.heap.size w ((w.alloc (.cells #[.slice a0 m.rooms.length p0,.slice a1 m.guilds.length p1,.slice (some ⟨sb,off,none⟩) m.smiths.length p2,.slice a3 m.desks.length p3,.slice a4 m.paces.length p4,.int .i64 m.now] 32)).alloc (.cells #[.int .i64 st,.int .i64 be,.int .i64 rk,.int .i64 my,.int .i64 gu,.int .i64 lo,.int .i64 hi,.int .i64 hd,.int .i64 ca,.int .i64 ut,.int .i64 wk] 41))):=Z9 (((Below.refl _ _).alloc (Nat.le_refl _) _).alloc (by simp) _)
 have ks:Hid (Blk ((w.alloc (.cells #[.slice a0 m.rooms.length p0,.slice a1 m.guilds.length p1,.slice (some ⟨sb,off,none⟩) m.smiths.length p2,.slice a3 m.desks.length p3,.slice a4 m.paces.length p4,.int .i64 m.now] 32)).alloc (.cells #[.int .i64 st,.int .i64 be,.int .i64 rk,.int .i64 my,.int .i64 gu,.int .i64 lo,.int .i64 hi,.int .i64 hd,.int .i64 ca,.int .i64 ut,.int .i64 wk] 41)) (w.heap.size+1) 41 #[.int .i64 st,.int .i64 be,.int .i64 rk,.int .i64 my,.int .i64 gu,.int .i64 lo,.int .i64 hi,.int .i64 hd,.int .i64 ca,.int .i64 ut,.int .i64 wk]):=Z9 (by
  have k9:=Blk.new (w.alloc (.cells #[.slice a0 m.rooms.length p0,.slice a1 m.guilds.length p1,.slice (some ⟨sb,off,none⟩) m.smiths.length p2,.slice a3 m.desks.length p3,.slice a4 m.paces.length p4,.int .i64 m.now] 32)) 41 #[.int .i64 st,.int .i64 be,.int .i64 rk,.int .i64 my,.int .i64 gu,.int .i64 lo,.int .i64 hi,.int .i64 hd,.int .i64 ca,.int .i64 ut,.int .i64 wk]
  rw [World.size_alloc] at k9
  exact k9)
 have kb:Hid (Blk ((w.alloc (.cells #[.slice a0 m.rooms.length p0,.slice a1 m.guilds.length p1,.slice (some ⟨sb,off,none⟩) m.smiths.length p2,.slice a3 m.desks.length p3,.slice a4 m.paces.length p4,.int .i64 m.now] 32)).alloc (.cells #[.int .i64 st,.int .i64 be,.int .i64 rk,.int .i64 my,.int .i64 gu,.int .i64 lo,.int .i64 hi,.int .i64 hd,.int .i64 ca,.int .i64 ut,.int .i64 wk] 41)) w.heap.size 32 #[.slice a0 m.rooms.length p0,.slice a1 m.guilds.length p1,.slice (some ⟨sb,off,none⟩) m.smiths.length p2,.slice a3 m.desks.length p3,.slice a4 m.paces.length p4,.int .i64 m.now]):=Z9 ((Blk.new w _ _).alloc _)
 have Hg2:=Z9 ((uh Hg0).below (uh BB))
 go_enter Tryz.func63,Tryz.ntmps63
 go_upto_region 2 with fail
 generalize (w.alloc (.cells #[.slice a0 m.rooms.length p0,.slice a1 m.guilds.length p1,.slice (some ⟨sb,off,none⟩) m.smiths.length p2,.slice a3 m.desks.length p3,.slice a4 m.paces.length p4,.int .i64 m.now] 32)).alloc (.cells #[.int .i64 st,.int .i64 be,.int .i64 rk,.int .i64 my,.int .i64 gu,.int .i64 lo,.int .i64 hi,.int .i64 hd,.int .i64 ca,.int .i64 ut,.int .i64 wk] 41)=W at *
 clear d0 d1 d2 d3 d4 d5 d6 d7 d8 d9 d10
 have c1:=(uh kb).cell (i:=1) (v:= .slice a1 m.guilds.length p1) rfl
 have s4:=(uh ks).cell (i:=4) (v:= .int .i64 gu) rfl
 have s5:=(uh ks).cell (i:=5) (v:= .int .i64 lo) rfl
 have s6:=(uh ks).cell (i:=6) (v:= .int .i64 hi) rfl
 go_wp2_with fail
 refine (OB gu lo hi (uh Hg2)).mono ?_
 rw [uh HW]
 rintro e w1 ⟨rfl,hb⟩
 replace ks:=bl ks hb
 replace BB:=bt BB hb
 clear hb c1 s4 s5 s6 HW
 have s9:=(uh ks).cell (i:=9) (v:= .int .i64 ut) rfl
 go_wp2_with (go_at_call 122;refine (Td _ _ _ _).mono ?_;rintro e w' ⟨rfl,h9⟩;subst w')
 go_ret
 exact ⟨rfl,uh BB⟩
theorem JD  {k:Nat} (h:Smy w v0 v1 v2 v3 v4 m) (hL:Loose m) (hk:k<m.smiths.length) (hs:(Z8 m.smiths k).1 ≠ 0):Calls Tryz.prog 63 #[.agg #[v0,v1,v2,v3,v4,.int .i64 m.now],.int .i64 (k:Int)] w fun e w'=>e= .returned (.int .i64 (ZI m (k:Int)))/\Below w.heap.size w w':=LD h hL.wants hk hs
theorem Pm (who:Int):Yg m who=(Xu m.smiths.length who && !((Z8 m.smiths who.toNat).1 ==0)):=by unfold Yg;rw [IE]
theorem UR  {who q:Int} (hq:YV m who=q) (h:Smy w v0 v1 v2 v3 v4 m):Calls Tryz.prog 15 #[.agg #[v0,v1,v2,v3,v4,.int .i64 m.now],.int .i64 who] w fun e w'=>e= .returned (.int .i64 q)/\Below w.heap.size w w':=by
 have Hq:=Z9 hq
 clear hq
 have Hv:=Z9 (h.alloc (.cells #[v0,v1,v2,v3,v4,.int .i64 m.now] 32))
 obtain ⟨a0,p0,a1,p1,a2,p2,a3,p3,a4,p4,rfl,rfl,rfl,rfl,rfl,_,_,_,_,_,_,_,_,_,_⟩:=h.five
 clear h
 have kb:Hid (Blk (w.alloc (.cells #[.slice a0 m.rooms.length p0,.slice a1 m.guilds.length p1,.slice a2 m.smiths.length p2,.slice a3 m.desks.length p3,.slice a4 m.paces.length p4,.int .i64 m.now] 32)) w.heap.size 32 #[.slice a0 m.rooms.length p0,.slice a1 m.guilds.length p1,.slice a2 m.smiths.length p2,.slice a3 m.desks.length p3,.slice a4 m.paces.length p4,.int .i64 m.now]):=Z9 (Blk.new w _ _)
 have BB:Hid (Below w.heap.size w (w.alloc (.cells #[.slice a0 m.rooms.length p0,.slice a1 m.guilds.length p1,.slice a2 m.smiths.length p2,.slice a3 m.desks.length p3,.slice a4 m.paces.length p4,.int .i64 m.now] 32))):=Z9 ((Below.refl _ _).alloc (Nat.le_refl _) _)
 obtain ⟨ok,hok⟩:∃ q,ZS m=q:=⟨_,rfl⟩
 have Hok:=Z9 hok
 clear hok
 go_enter Tryz.func15,Tryz.ntmps15
 go_wp2_with fail
 generalize w.alloc (.cells #[.slice a0 m.rooms.length p0,.slice a1 m.guilds.length p1,.slice a2 m.smiths.length p2,.slice a3 m.desks.length p3,.slice a4 m.paces.length p4,.int .i64 m.now] 32)=W at *
 refine (SL _ _ _ _ _ _ _ _ (uh Hok) (uh Hv)).mono ?_
 rintro e w1 ⟨rfl,hb⟩
 replace Hv:=Z9 ((uh Hv).below hb)
 replace kb:=bl kb hb
 replace BB:=bt BB hb
 clear hb
 cases ok
 ·obtain rfl:q= -1:=by rw [<-uh Hq];unfold YV;rw [uh Hok];rfl
  go_wp2_with fail
  go_ret
  exact ⟨rfl,uh BB⟩
 obtain ⟨c0,c1,c2,c3,c4,c5⟩:=(uh kb).c6
 go_wp2_with fail
 refine (WS _ _ _ _ _ _ _ _ _ _ _ _ _ _ _ _ _).mono ?_
 rintro e w2 ⟨rfl,hb⟩
 replace Hv:=Z9 ((uh Hv).below hb)
 replace kb:=bl kb hb
 replace BB:=bt BB hb
 clear hb c0 c1 c2 c3 c4 c5
 obtain ⟨qh,hqh⟩:∃ q,Xu m.smiths.length who=q:=⟨_,rfl⟩
 have Hh:=Z9 hqh
 clear hqh
 go_wp2_with fail
 refine (Mh _ _ _ who _).mono ?_
 rw [uh Hh]
 rintro e w3 ⟨rfl,h9⟩
 subst w3
 cases qh
 ·obtain rfl:q= -1:=by rw [<-uh Hq];unfold YV;rw [Pm,uh Hh];simp
  go_wp2_with fail
  go_ret
  exact ⟨rfl,uh BB⟩
 have hwb:0<=who/\who<(m.smiths.length:Int):=by have:=uh Hh;unfold Xu at this;simpa using this
 obtain ⟨k,rfl⟩:∃ k:Nat,who=k:=⟨who.toNat,by omega⟩
 have hk:k<m.smiths.length:=by omega
 have hk1:(k:Int)<(m.smiths.length:Int):=by omega
 obtain ⟨_,_,hse,_,_,r2⟩:=(uh Hv).smiths
 cases hse
 rcases r2 with e0 | ⟨sb,off,rfl,hbw,hcl⟩
 ·rw [e0] at hk;simp at hk
 obtain ⟨d0,d1,d2,d3,d4,d5,d6,d7,d8,d9,d10⟩:=ZE hcl hk
 have c2:=(uh kb).cell (i:=2) (v:= .slice (some ⟨sb,off,none⟩) m.smiths.length p2) rfl
 have HS:Hid (((Z8 m.smiths k).1 ≠ 0->q=ZI m (k:Int))/\((Z8 m.smiths k).1=0->q= -1)):=Z9 ⟨fun hne=>by
   rw [<-uh Hq];unfold YV;rw [uh Hok,Pm,uh Hh,Int.toNat_natCast];simp [hne],fun he=>by
   rw [<-uh Hq];unfold YV;rw [Pm,Int.toNat_natCast,he];simp⟩
 have HW:=Z9 (fun (hne:(Z8 m.smiths k).1 ≠ 0) (X:World) (hX:Below w2.heap.size w2 X)=>JD ((uh Hv).below hX) (ZZ (uh Hok)) hk hne)
 clear hcl
 generalize Z8 m.smiths k=ss at *
 obtain ⟨st,be,rk,my,gu,lo,hi,hd,ca,ut,wk⟩:=ss
 simp only at d0 d1 d2 d3 d4 d5 d6 d7 d8 d9 d10
 go_wp2_with fail
 refine (WD st be rk my gu lo hi hd ca ut wk _).mono ?_
 rintro e w4 ⟨rfl,hb⟩
 have HB4:=Z9 hb
 replace kb:=bl kb hb
 replace BB:=bt BB hb
 clear hb c2 d0 d1 d2 d3 d4 d5 d6 d7 d8 d9 d10
 by_cases hst:st=0
 ·subst hst
  obtain rfl:q= -1:=(uh HS).2 rfl
  go_wp2_with fail
  go_ret
  exact ⟨rfl,uh BB⟩
 have n0:(st ==0)=false:=by simpa using hst
 rw [n0]
 obtain rfl:q=ZI m (k:Int):=(uh HS).1 hst
 obtain ⟨c0,c1,c2,c3,c4,c5⟩:=(uh kb).c6
 go_wp2_with fail
 refine (uh HW hst _ (uh HB4)).mono ?_
 rintro e w5 ⟨rfl,hb⟩
 replace BB:=bt BB hb
 clear hb c0 c1 c2 c3 c4 c5
 go_wp2_with fail
 go_ret
 exact ⟨rfl,uh BB⟩
set_option maxRecDepth 100000
theorem R8  {b q:Int} (hq:ZA m b (-1)=q) (h:Smy w v0 v1 v2 v3 v4 m) (hW:Wants m) (hl:m.smiths.length<=12):Calls Tryz.prog 58 #[.agg #[v0,v1,v2,v3,v4,.int .i64 m.now],.int .i64 b] w fun e w'=>e= .returned (.int .i64 q)/\Below w.heap.size w w':=by
 have Hq:=Z9 hq
 clear hq
 have HW:=Z9 hW
 clear hW
 obtain ⟨a0,p0,a1,p1,a2,p2,a3,p3,a4,p4,rfl,rfl,rfl,rfl,rfl,K⟩:=Bx.new h
 clear h
 go_enter Tryz.func58,Tryz.ntmps58
 go_upto_region 2 with fail
 generalize w.alloc (.cells #[.slice a0 m.rooms.length p0,.slice a1 m.guilds.length p1,.slice a2 m.smiths.length p2,.slice a3 m.desks.length p3,.slice a4 m.paces.length p4,.int .i64 m.now] 32)=W at *
 obtain ⟨c0,c1,c2,c3,c4,c5⟩:=K.cells
 go_wp2_with fail
 refine (Qk b K.smy (by omega)).mono ?_
 rintro e w1 ⟨vn,rfl,hn,hb⟩
 obtain ⟨na,nc,rfl⟩:=RecAt.shape hn
 have HN:=Z9 hn
 replace K:=K.next hb
 clear hb hn c0 c1 c2 c3 c4 c5
 have Hwh:=Z9 (fun k hk=>ES (m:=m) (b:=b) (k:=k) hk)
 have Hat:=Z9 (fun x hx=>(Xh (atB b) m.smiths x m.smiths.length).1 hx)
 have hwl:=VP (atB b) m.smiths m.smiths.length
 rw [<-Jy] at Hq
 generalize ZQ (atB b) m.smiths m.smiths.length=ws at *
 go_wp2_with fail
 go_loopw [5,12] (fun u i wr=> ∃ k:Nat,k<=ws.length/\i= .int .i64 k/\u= .int .i64 (VC m (ws.take k))/\Bx w wr w.heap.size a0 p0 a1 p1 a2 p2 a3 p3 a4 p4 m/\Below w1.heap.size w1 wr) (fun _ i _=>ws.length-(intOf i).toNat)
 case atStart=>exact ⟨0,Nat.zero_le _,rfl,rfl,K,Below.refl _ _⟩
 case round=>
  obtain ⟨k,hk,rfl,rfl,hK,hb0⟩:=hrel
  clear K
  have K:=hK
  have BB:=Z9 hb0
  clear hK hb0
  have hub:=H7 m (ws.take k)
  have htl:(ws.take k).length<=ws.length:=by simp;omega
  by_cases hlt:k<ws.length
  ·have hlt1:(k:Int)<(ws.length:Int):=by omega
   obtain ⟨g,hga,_,hgl,hcl,_⟩:=RecAt.view YK (by omega) (uh HN) rfl (by omega)
   cases hga
   have z0:=hcl k hlt 0 _ rfl
   simp only [Nat.mul_one,Nat.add_zero] at z0
   have hgw:g<w1.heap.size:=hgl
   rw [<-(uh BB).cell (p:=⟨g,k,none⟩) hgw] at z0
   obtain ⟨i,hi,hiw⟩:=uh Hwh k hlt
   obtain ⟨_,_,hi2,hat⟩:=uh Hat _ (Xn hlt)
   have hpi:(Z8 m.smiths i).1 ≠ 0:=by
    rw [hiw] at hi2
    obtain rfl:=Int.ofNat.inj hi2
    intro e
    unfold atB at hat
    rw [e] at hat
    simp at hat
   clear hcl hi2 hat
   have HS:Hid (VC m (ws.take (k+1))=VC m (ws.take k)+ZI m (i:Int)):=Z9 (by rw [F9 m hlt,hiw])
   rw [hiw] at z0
   have hwb:=Wr m (i:Int)
   have HC:=Z9 (fun (X:World) (hX:Smy X (.slice a0 m.rooms.length p0) (.slice a1 m.guilds.length p1) (.slice a2 m.smiths.length p2) (.slice a3 m.desks.length p3) (.slice a4 m.paces.length p4) m)=>LD hX (uh HW) hi hpi)
   generalize VC m (ws.take k)=us at *
   generalize ZI m (i:Int)=wa at *
   have hgr:g<wr.heap.size:=Nat.lt_of_lt_of_le hgw (uh BB).size
   obtain ⟨c0,c1,c2,c3,c4,c5⟩:=K.cells
   go_wp2_with fail
   refine (uh HC _ K.smy).mono ?_
   rintro e w2 ⟨rfl,hb⟩
   replace K:=K.next hb
   replace BB:=bt BB hb
   clear hb c0 c1 c2 c3 c4 c5 z0
   have hlen12:(ws.length:Int)<=12:=by omega
   go_wp2_with fail
   go_roundw
   case rel=>exact ⟨k+1,by omega,by go_num,by rw [uh HS],K,uh BB⟩
   case measure=>simp [intOf];omega
  ·obtain rfl:k=ws.length:=by omega
   rw [List.take_length] at *
   obtain rfl:q=VC m ws:=(uh Hq).symm
   go_wp2_with fail
   go_ret
   exact ⟨rfl,K.bb⟩
theorem SJ  {b:Int} {q:Bool} (hq:Wi m b=q) (h:Smy w v0 v1 v2 v3 v4 m):Calls Tryz.prog 195 #[.agg #[v0,v1,v2,v3,v4,.int .i64 m.now],.int .i64 b] w fun e w'=>e= .returned (.bool q)/\Below w.heap.size w w':=by
 have Hq:=Z9 hq
 clear hq
 obtain ⟨a0,p0,a1,p1,a2,p2,a3,p3,a4,p4,rfl,rfl,rfl,rfl,rfl,K⟩:=Bx.new h
 clear h
 go_enter Tryz.func195,Tryz.ntmps195
 go_wp2_with fail
 generalize w.alloc (.cells #[.slice a0 m.rooms.length p0,.slice a1 m.guilds.length p1,.slice a2 m.smiths.length p2,.slice a3 m.desks.length p3,.slice a4 m.paces.length p4,.int .i64 m.now] 32)=W at *
 refine (J1 _ _ _ _ _ _ _ _ _ _ _ _ _ _ _ _ _).mono ?_
 rintro e w2 ⟨rfl,hb⟩
 replace K:=K.next hb
 clear hb
 obtain ⟨qh,hqh⟩:∃ q,Xu m.desks.length b=q:=⟨_,rfl⟩
 have Hh:=Z9 hqh
 clear hqh
 go_wp2_with fail
 refine (SI _ _ _ b _).mono ?_
 rw [uh Hh]
 rintro e w3 ⟨rfl,h9⟩
 subst w3
 cases qh
 ·obtain rfl:q=false:=by rw [<-uh Hq];unfold Wi;rw [uh Hh];rfl
  go_wp2_with fail
  go_ret
  exact ⟨rfl,K.bb⟩
 have hbb:0<=b/\b<(m.desks.length:Int):=by have:=uh Hh;unfold Xu at this;simpa using this
 obtain ⟨k,rfl⟩:∃ k:Nat,b=k:=⟨b.toNat,by omega⟩
 have hk:k<m.desks.length:=by omega
 have hk1:(k:Int)<(m.desks.length:Int):=by omega
 obtain ⟨_,_,hde,_,_,r3⟩:=K.smy.desks
 cases hde
 rcases r3 with e0 | ⟨db,off,rfl,hbw,hcl⟩
 ·rw [e0] at hk;simp at hk
 obtain ⟨d0,d1,d2⟩:=Zf hcl hk
 have hq2:(Z8 m.desks k).1=q:=by rw [<-uh Hq];unfold Wi;rw [uh Hh,Int.toNat_natCast];rfl
 clear hcl Hq
 generalize Z8 m.desks k=dd at *
 obtain ⟨op,wo,mk⟩:=dd
 simp only at d0 d1 d2 hq2
 subst hq2
 obtain ⟨c0,c1,c2,c3,c4,c5⟩:=K.cells
 go_wp2_with fail
 refine (RS op wo mk _).mono ?_
 rintro e w4 ⟨rfl,hb⟩
 replace K:=K.next hb
 clear hb c0 c1 c2 c3 c4 c5 d0 d1 d2
 go_wp2_with fail
 go_ret
 exact ⟨rfl,K.bb⟩
theorem It (f c need:Int) (w:World) (f0:1<=f) (f1:f<=1024) (n0:0<=need) (n1:need<=1000000) :
  Calls Tryz.prog 308 #[.int .i64 f,.int .i64 need] w fun e w'=>e= .returned (.bool (Vk need (f,c)))/\Below w.heap.size w w':=
 (Tz f need w (by omega) (by omega) n0 (by omega)).mono fun _ _ ⟨he,hw⟩=>⟨he,hw ▸ Below.refl _ _⟩
theorem Lp  {ps:List Z1} (b need:Int) (h:IsPaces w v ps) (hr:Zj (b,ps)=true) (hn:inB need 0 1000000=true) :
  Calls Tryz.prog 294 #[v,.int .i64 need] w fun e w'=>e= .returned (.int .i64 (Sf need ps))/\Below w.heap.size w w':=by
 obtain ⟨a,cap,rfl,hc,hm,hrow⟩:=h
 have hbd:=Rz hr
 simp only at hbd
 obtain ⟨_,_,hl1,hl4⟩:=hbd
 obtain ⟨n0,n1⟩:=ZV hn
 rcases hrow with h0 | ⟨bk,off,rfl,hbw,hcl⟩
 ·rw [h0] at hl1;simp at hl1
 have Hcl:=Z9 hcl
 have Hr:=Z9 hr
 clear hcl hr hn
 go_enter Tryz.func294,Tryz.ntmps294
 go_wp2_with fail
 go_step3
 go_wp2_with fail
 go_step3
 go_wp2_with fail
 go_loopw [5] (fun i wr=> ∃ k:Nat,k+1<=ps.length/\i= .int .i64 k/\(∀ j,j<k->Vk need (ZY ps j)=false)/\Below w.heap.size w wr) (fun i _=>ps.length-(intOf i).toNat)
 case atStart=>exact ⟨0,by omega,rfl,fun j hj=>by omega,Below.refl _ _⟩
 case round=>
  obtain ⟨k,hk,rfl,hlo,hb⟩:=hrel
  have Hlo:=Z9 hlo
  have Hb:=Z9 hb
  clear hlo
  by_cases hlast:k+1=ps.length
  ·clear hb
   have he:(k:Int)=(ps.length:Int)-1:=by omega
   have Hp:=Z9 (SW need ps k hk (uh Hlo) (.inl hlast))
   go_wp2_with fail
   (try rw [Exit.noGoto_ret])
   go_ret
   exact ⟨ZJ (by rw [uh Hp]),uh Hb⟩
  ·have hne:¬ (k:Int)=(ps.length:Int)-1:=by omega
   obtain ⟨c0,c1⟩:=uh Hcl k (by omega)
   rw [<-hb.cell (p:=⟨bk,off+k*2,none⟩) hbw] at c0
   rw [<-hb.cell (p:=⟨bk,off+k*2+1,none⟩) hbw] at c1
   have hpb:=QR (uh Hr) (k:=k) (show k<ps.length by omega)
   simp only at hpb
   generalize hp:ZY ps k=p at c0 c1 hpb
   have Hp:=Z9 hp
   clear hp hb
   obtain ⟨f,c⟩:=p
   simp only at c0 c1 hpb
   obtain ⟨f0,f1,_,_⟩:=hpb
   go_wp2_with fail
   refine (It f c need _ f0 f1 n0 n1).mono ?_
   rintro e w1 ⟨rfl,hb1⟩
   have Hb1:=Z9 hb1
   clear hb1
   cases hen:Vk need (f,c)
   ·go_wp2_with fail
    go_roundw
    case rel=>exact ⟨k+1,by omega,by go_num,X8 (uh Hlo) (by rw [uh Hp];exact hen),(uh Hb).trans ((uh Hb1).mono (uh Hb).size)⟩
    case measure=>simp [intOf];omega
   ·have Hq:=Z9 (SW need ps k hk (uh Hlo) (.inr (by rw [uh Hp];exact hen)))
    go_wp2_with fail
    (try rw [Exit.noGoto_ret])
    go_ret
    exact ⟨ZJ (by rw [uh Hq]),(uh Hb).trans ((uh Hb1).mono (uh Hb).size)⟩
theorem PI  {ps:List Z1} (b need:Int) (h:IsPaces w v ps) :
  Calls Tryz.prog 271 #[.agg #[.int .i64 b,v],.int .i64 need] w fun e w'=>e= .returned (.int .i64 (XI (b,ps) need))/\Below w.heap.size w w':=by
 have Hv:=Z9 h
 obtain ⟨a,cap,rfl,hc,hm,hrow⟩:=h
 clear hrow
 cases hr:Zj (b,ps)
 ·rw [Qb hr]
  go_enter Tryz.func271,Tryz.ntmps271
  go_wp2_with fail
  refine (YP b ((uh Hv).below ((Below.refl _ _).alloc (Nat.le_refl _) _))).mono ?_
  rintro e w1 ⟨rfl,hb⟩
  have B1:Hid (Below w.heap.size w w1):=Z9 (((Below.refl _ _).alloc (Nat.le_refl _) _).trans (hb.mono (by simp)))
  clear hb
  go_wp2_with fail
  go_ret
  exact ⟨rfl,uh B1⟩
 cases hn:inB need 0 1000000
 ·rw [Qc hn]
  go_enter Tryz.func271,Tryz.ntmps271
  go_wp2_with fail
  refine (YP b ((uh Hv).below ((Below.refl _ _).alloc (Nat.le_refl _) _))).mono ?_
  rintro e w1 ⟨rfl,hb⟩
  have B1:Hid (Below w.heap.size w w1):=Z9 (((Below.refl _ _).alloc (Nat.le_refl _) _).trans (hb.mono (by simp)))
  clear hb
  go_wp2_with (go_at_call 184;refine (ZW _ _ _ _).mono ?_;rintro e w' ⟨rfl,rfl⟩)
  go_ret
  exact ⟨rfl,uh B1⟩
 ·rw [OR hr hn]
  have Hr:=Z9 hr
  go_enter Tryz.func271,Tryz.ntmps271
  go_wp2_with fail
  refine (YP b ((uh Hv).below ((Below.refl _ _).alloc (Nat.le_refl _) _))).mono ?_
  rintro e w1 ⟨rfl,hb⟩
  have x1:w1.cell? ⟨w.heap.size,1,none⟩=some (.slice a ps.length cap):=(hb.cell (p:=⟨w.heap.size,1,none⟩) (by simp)).trans (by simp)
  have B1:Hid (Below w.heap.size w w1):=Z9 (((Below.refl _ _).alloc (Nat.le_refl _) _).trans (hb.mono (by simp)))
  clear hb
  go_wp2_with (go_at_call 184;refine (ZW _ _ _ _).mono ?_;rintro e w' ⟨rfl,rfl⟩)
  refine (Lp b need ((uh Hv).below (uh B1)) (uh Hr) hn).mono ?_
  rintro e w2 ⟨rfl,hb2⟩
  have Hb2:=Z9 hb2
  clear hb2
  go_wp2_with fail
  go_ret
  exact ⟨rfl,(uh B1).trans ((uh Hb2).mono (uh B1).size)⟩
theorem U0 (x:Int) (w:World):Calls Tryz.prog 83 #[.int .i64 x] w fun e w'=>e= .returned (.bool (inB x 0 1000000))/\w'=w:=by
 go_enter Tryz.func83,Tryz.ntmps83
 go_wp2_with (go_at_call 123;refine (Z0 _ _ _ _).mono ?_;rintro e w' ⟨rfl,rfl⟩)
 go_ret
 exact ⟨rfl,rfl⟩
theorem Tm  {ps:List Z1} (b need:Int) (h:IsPaces w v ps) :
  Calls Tryz.prog 275 #[.agg #[.int .i64 b,v],.int .i64 need] w fun e w'=>e= .returned (.int .i64 (XI (b,ps) need))/\Below w.heap.size w w':=by
 have Hv:=Z9 h
 obtain ⟨a,cap,rfl,hc,hm,hrow⟩:=h
 clear hrow
 cases hr:Zj (b,ps)
 ·rw [Qb hr]
  go_enter Tryz.func275,Tryz.ntmps275
  go_wp2_with fail
  refine (YJ b ((uh Hv).below ((Below.refl _ _).alloc (Nat.le_refl _) _))).mono ?_
  rintro e w1 ⟨rfl,hb⟩
  have B1:Hid (Below w.heap.size w w1):=Z9 (((Below.refl _ _).alloc (Nat.le_refl _) _).trans (hb.mono (by simp)))
  clear hb
  go_wp2_with fail
  go_ret
  exact ⟨rfl,uh B1⟩
 cases hn:inB need 0 1000000
 ·rw [Qc hn]
  go_enter Tryz.func275,Tryz.ntmps275
  go_wp2_with fail
  refine (YJ b ((uh Hv).below ((Below.refl _ _).alloc (Nat.le_refl _) _))).mono ?_
  rintro e w1 ⟨rfl,hb⟩
  have B1:Hid (Below w.heap.size w w1):=Z9 (((Below.refl _ _).alloc (Nat.le_refl _) _).trans (hb.mono (by simp)))
  clear hb
  go_wp2_with (go_at_call 83;refine (U0 _ _).mono ?_;rintro e w' ⟨rfl,rfl⟩)
  go_ret
  exact ⟨rfl,uh B1⟩
 rw [OR hr hn]
 have Hr:=Z9 hr
 have hn':=hn
 obtain ⟨n0,n1⟩:=ZV hn'
 clear hn'
 go_enter Tryz.func275,Tryz.ntmps275
 go_wp2_with fail
 refine (YJ b ((uh Hv).below ((Below.refl _ _).alloc (Nat.le_refl _) _))).mono ?_
 rintro e w1 ⟨rfl,hb⟩
 have x1:w1.cell? ⟨w.heap.size,1,none⟩=some (.slice a ps.length cap):=(hb.cell (p:=⟨w.heap.size,1,none⟩) (by simp)).trans (by simp)
 have B1:Hid (Below w.heap.size w w1):=Z9 (((Below.refl _ _).alloc (Nat.le_refl _) _).trans (hb.mono (by simp)))
 clear hb
 have hv1:=(uh Hv).below (uh B1)
 obtain ⟨a',cap',he,_,_,hrow⟩:=hv1
 cases he
 have hbd:=Rz (uh Hr)
 simp only at hbd
 obtain ⟨_,_,hl1,hl4⟩:=hbd
 rcases hrow with h0 | ⟨bk,off,rfl,hbw,hcl⟩
 ·rw [h0] at hl1;simp at hl1
 have Hcl:=Z9 hcl
 clear hcl
 go_wp2_with (go_at_call 83;refine (U0 _ _).mono ?_;rintro e w' ⟨rfl,rfl⟩)
 clear hr hn
 go_loop [5] (fun i=> ∃ k:Nat,k+1<=ps.length/\i= .int .i64 k/\(∀ j,j<k->Vk need (ZY ps j)=false)) (fun i=>ps.length-(intOf i).toNat)
 case atStart=>exact ⟨0,by omega,rfl,fun j hj=>by omega⟩
 case round=>
  obtain ⟨k,hk,rfl,hlo⟩:=hrel
  have Hlo:=Z9 hlo
  clear hlo
  by_cases hlast:k+1=ps.length
  ·have Hp:=Z9 (SW need ps k hk (uh Hlo) (.inl hlast))
   have hd:¬ (k:Int)+1<(ps.length:Int):=by omega
   go_wp2_with fail
   go_ret
   exact ⟨ZJ (by rw [uh Hp]),uh B1⟩
  ·have hd:(k:Int)+1<(ps.length:Int):=by omega
   obtain ⟨c0,c1⟩:=uh Hcl k (by omega)
   have hpb:=QR (uh Hr) (k:=k) (show k<ps.length by omega)
   simp only at hpb
   generalize hp:ZY ps k=p at c0 c1 hpb
   have Hp:=Z9 hp
   clear hp
   obtain ⟨f,c⟩:=p
   simp only at c0 c1 hpb
   obtain ⟨f0,f1,_,_⟩:=hpb
   by_cases hen:4*f<5*need
   ·go_wp2_with fail
    go_round
    case rel=>exact ⟨k+1,by omega,by go_num,X8 (uh Hlo) (by rw [uh Hp];exact Dy hen)⟩
    case measure=>simp [intOf];omega
   ·have Hq:=Z9 (SW need ps k hk (uh Hlo) (.inr (by rw [uh Hp];exact Dz (by simp only;omega))))
    go_wp2_with fail
    go_ret
    exact ⟨ZJ (by rw [uh Hq]),uh B1⟩
theorem PE  {ps:List Z1} (b pace work:Int) (h:IsPaces w v ps) :
  Calls Tryz.prog 270 #[.agg #[.int .i64 b,v],.int .i64 pace,.int .i64 work] w fun e w'=>e= .returned (.int .i64 (XD (b,ps) pace work))/\Below w.heap.size w w':=by
 have Hv:=Z9 h
 obtain ⟨a,cap,rfl,hc,hm,hrow⟩:=h
 clear hrow
 have hl:(ps.length:Int)<=9223372036854775807:=by omega
 cases hr:Zj (b,ps)
 ·rw [SD hr]
  go_enter Tryz.func270,Tryz.ntmps270
  go_wp2_with fail
  refine (YP b ((uh Hv).below ((Below.refl _ _).alloc (Nat.le_refl _) _))).mono ?_
  rintro e w1 ⟨rfl,hb⟩
  have B1:Hid (Below w.heap.size w w1):=Z9 (((Below.refl _ _).alloc (Nat.le_refl _) _).trans (hb.mono (by simp)))
  clear hb
  go_wp2_with fail
  go_ret
  exact ⟨rfl,uh B1⟩
 by_cases hp0:pace<0
 ·rw [UA (W7 (by omega))]
  go_enter Tryz.func270,Tryz.ntmps270
  go_wp2_with fail
  refine (YP b ((uh Hv).below ((Below.refl _ _).alloc (Nat.le_refl _) _))).mono ?_
  rintro e w1 ⟨rfl,hb⟩
  have B1:Hid (Below w.heap.size w w1):=Z9 (((Below.refl _ _).alloc (Nat.le_refl _) _).trans (hb.mono (by simp)))
  clear hb
  go_wp2_with fail
  go_ret
  exact ⟨rfl,uh B1⟩
 by_cases hp1:(ps.length:Int)<=pace
 ·rw [UA (W7 (by simp only;omega))]
  go_enter Tryz.func270,Tryz.ntmps270
  go_wp2_with fail
  refine (YP b ((uh Hv).below ((Below.refl _ _).alloc (Nat.le_refl _) _))).mono ?_
  rintro e w1 ⟨rfl,hb⟩
  have x1:w1.cell? ⟨w.heap.size,1,none⟩=some (.slice a ps.length cap):=(hb.cell (p:=⟨w.heap.size,1,none⟩) (by simp)).trans (by simp)
  have B1:Hid (Below w.heap.size w w1):=Z9 (((Below.refl _ _).alloc (Nat.le_refl _) _).trans (hb.mono (by simp)))
  clear hb
  go_wp2_with fail
  go_ret
  exact ⟨rfl,uh B1⟩
 cases hn:inB work 0 1000000
 ·rw [SE hn]
  go_enter Tryz.func270,Tryz.ntmps270
  go_wp2_with fail
  refine (YP b ((uh Hv).below ((Below.refl _ _).alloc (Nat.le_refl _) _))).mono ?_
  rintro e w1 ⟨rfl,hb⟩
  have x1:w1.cell? ⟨w.heap.size,1,none⟩=some (.slice a ps.length cap):=(hb.cell (p:=⟨w.heap.size,1,none⟩) (by simp)).trans (by simp)
  have B1:Hid (Below w.heap.size w w1):=Z9 (((Below.refl _ _).alloc (Nat.le_refl _) _).trans (hb.mono (by simp)))
  clear hb
  go_wp2_with (go_at_call 184;refine (ZW _ _ _ _).mono ?_;rintro e w' ⟨rfl,rfl⟩)
  go_ret
  exact ⟨rfl,uh B1⟩
 rw [RQ hr hn (Zq (by omega) (by simp only;omega))]
 obtain ⟨k,rfl⟩:=Int.eq_ofNat_of_zero_le (show 0<=pace by omega)
 have hk:k<ps.length:=by omega
 rw [Int.toNat_natCast]
 simp only
 generalize hpk:ZY ps k=p
 have Hpk:=Z9 hpk
 clear hpk
 obtain ⟨f,c⟩:=p
 simp only
 have Hn:=Z9 hn
 go_enter Tryz.func270,Tryz.ntmps270
 go_wp2_with fail
 refine (YP b ((uh Hv).below ((Below.refl _ _).alloc (Nat.le_refl _) _))).mono ?_
 rintro e w1 ⟨rfl,hb⟩
 have x1:w1.cell? ⟨w.heap.size,1,none⟩=some (.slice a ps.length cap):=(hb.cell (p:=⟨w.heap.size,1,none⟩) (by simp)).trans (by simp)
 have B1:Hid (Below w.heap.size w w1):=Z9 (((Below.refl _ _).alloc (Nat.le_refl _) _).trans (hb.mono (by simp)))
 have hz1:w.heap.size+1<=w1.heap.size:=by have:=hb.size;simpa using this
 clear hb
 have hv1:=(uh Hv).below (uh B1)
 obtain ⟨a',cap',he,_,_,hrow⟩:=hv1
 cases he
 rcases hrow with h0 | ⟨bk,off,rfl,hbw,hcl⟩
 ·rw [h0] at hk;simp at hk
 obtain ⟨c0,c1⟩:=hcl k hk
 clear hcl
 rw [uh Hpk] at c0 c1
 simp only at c0 c1
 go_wp2_with (go_at_call 184;refine (ZW _ _ _ _).mono ?_;rintro e w' ⟨rfl,rfl⟩)
 refine (OA c work f _).mono ?_
 rintro e w2 ⟨rfl,hb2⟩
 have Hb2:=Z9 hb2
 clear hb2
 go_wp2_with fail
 go_ret
 exact ⟨rfl,(uh B1).trans (((Below.refl _ _).alloc (uh B1).size _).trans ((uh Hb2).mono (by simp;omega)))⟩
theorem PR  {ps:List Z1} (b pace work:Int) (h:IsPaces w v ps) :
  Calls Tryz.prog 274 #[.agg #[.int .i64 b,v],.int .i64 pace,.int .i64 work] w fun e w'=>e= .returned (.int .i64 (XD (b,ps) pace work))/\Below w.heap.size w w':=by
 have Hv:=Z9 h
 obtain ⟨a,cap,rfl,hc,hm,hrow⟩:=h
 clear hrow
 have hl:(ps.length:Int)<=9223372036854775807:=by omega
 cases hr:Zj (b,ps)
 ·rw [SD hr]
  go_enter Tryz.func274,Tryz.ntmps274
  go_wp2_with fail
  refine (YJ b ((uh Hv).below ((Below.refl _ _).alloc (Nat.le_refl _) _))).mono ?_
  rintro e w1 ⟨rfl,hb⟩
  have B1:Hid (Below w.heap.size w w1):=Z9 (((Below.refl _ _).alloc (Nat.le_refl _) _).trans (hb.mono (by simp)))
  clear hb
  go_wp2_with fail
  go_ret
  exact ⟨rfl,uh B1⟩
 cases hn:inB work 0 1000000
 ·rw [SE hn]
  go_enter Tryz.func274,Tryz.ntmps274
  go_wp2_with fail
  refine (YJ b ((uh Hv).below ((Below.refl _ _).alloc (Nat.le_refl _) _))).mono ?_
  rintro e w1 ⟨rfl,hb⟩
  have B1:Hid (Below w.heap.size w w1):=Z9 (((Below.refl _ _).alloc (Nat.le_refl _) _).trans (hb.mono (by simp)))
  clear hb
  go_wp2_with (go_at_call 83;refine (U0 _ _).mono ?_;rintro e w' ⟨rfl,rfl⟩)
  go_ret
  exact ⟨rfl,uh B1⟩
 cases hp:inB pace 0 ((ps.length:Int)-1)
 ·rw [UA hp]
  go_enter Tryz.func274,Tryz.ntmps274
  go_wp2_with fail
  refine (YJ b ((uh Hv).below ((Below.refl _ _).alloc (Nat.le_refl _) _))).mono ?_
  rintro e w1 ⟨rfl,hb⟩
  have x1:w1.cell? ⟨w.heap.size,1,none⟩=some (.slice a ps.length cap):=(hb.cell (p:=⟨w.heap.size,1,none⟩) (by simp)).trans (by simp)
  have B1:Hid (Below w.heap.size w w1):=Z9 (((Below.refl _ _).alloc (Nat.le_refl _) _).trans (hb.mono (by simp)))
  clear hb
  go_wp2_with (first | (go_at_call 83;refine (U0 _ _).mono ?_;rintro e w' ⟨rfl,rfl⟩) | (go_at_call 123;refine (Z0 _ _ _ _).mono ?_;rintro e w' ⟨rfl,rfl⟩))
  go_ret
  exact ⟨rfl,uh B1⟩
 rw [RQ hr hn hp]
 have hpp:=ZV hp
 obtain ⟨hp0,hp1⟩:=hpp
 obtain ⟨k,rfl⟩:=Int.eq_ofNat_of_zero_le hp0
 have hk:k<ps.length:=by omega
 rw [Int.toNat_natCast]
 simp only
 generalize hpk:ZY ps k=p
 have Hpk:=Z9 hpk
 clear hpk
 obtain ⟨f,c⟩:=p
 simp only
 go_enter Tryz.func274,Tryz.ntmps274
 go_wp2_with fail
 refine (YJ b ((uh Hv).below ((Below.refl _ _).alloc (Nat.le_refl _) _))).mono ?_
 rintro e w1 ⟨rfl,hb⟩
 have x1:w1.cell? ⟨w.heap.size,1,none⟩=some (.slice a ps.length cap):=(hb.cell (p:=⟨w.heap.size,1,none⟩) (by simp)).trans (by simp)
 have B1:Hid (Below w.heap.size w w1):=Z9 (((Below.refl _ _).alloc (Nat.le_refl _) _).trans (hb.mono (by simp)))
 clear hb
 have hv1:=(uh Hv).below (uh B1)
 obtain ⟨a',cap',he,_,_,hrow⟩:=hv1
 cases he
 rcases hrow with h0 | ⟨bk,off,rfl,hbw,hcl⟩
 ·rw [h0] at hk;simp at hk
 obtain ⟨c0,c1⟩:=hcl k hk
 clear hcl
 rw [uh Hpk] at c0 c1
 simp only at c0 c1
 go_wp2_with (first | (go_at_call 83;refine (U0 _ _).mono ?_;rintro e w' ⟨rfl,rfl⟩) | (go_at_call 123;refine (Z0 _ _ _ _).mono ?_;rintro e w' ⟨rfl,rfl⟩))
 go_quiet (exact Calls.quiet_of_same (Pc _ _ _ _))
 go_wp2_with fail
 go_ret
 exact ⟨rfl,Xz (uh B1) _⟩
theorem Rn  {ps:List Z1} (b need work:Int) (h:IsPaces w v ps) :
  Calls Tryz.prog 234 #[.agg #[.int .i64 b,v],.int .i64 need,.int .i64 work] w fun e w'=>e= .returned (.int .i64 (QC (b,ps) need work))/\Below w.heap.size w w':=by
 have Hv:=Z9 h
 obtain ⟨a,cap,rfl,hc,hm,hrow⟩:=h
 clear hrow
 have k0:=cell_regrown (w:=w.alloc (.cells #[.int .i64 b,.slice a ps.length cap] 140)) (a:=⟨w.heap.size,0,none⟩) (v:= .int .i64 b) (by simp)
 have k1:=cell_regrown (w:=w.alloc (.cells #[.int .i64 b,.slice a ps.length cap] 140)) (a:=⟨w.heap.size,1,none⟩) (v:= .slice a ps.length cap) (by simp)
 have Ha:Hid (IsPaces (w.alloc (.cells #[.int .i64 b,.slice a ps.length cap] 140)) (.slice a ps.length cap) ps):=Z9 ((uh Hv).below ((Below.refl _ _).alloc (Nat.le_refl _) _))
 go_enter Tryz.func234,Tryz.ntmps234
 go_wp2_with fail
 refine wp_region_quiet_below (by kernel_rfl) (by kernel_rfl) ?_
 repeat (go_big_quiet_step (first | exact Calls.regrown_of (PI b need ((uh Ha).below (below_regrown _ _ _))) | exact Calls.regrown_of (PE b _ work ((uh Ha).below (below_regrown _ _ _)))))
 refine wpQuiet_nil ?_
 intro _ hw'
 obtain ⟨⟨dq,osq⟩,hw''⟩:=hw'
 subst hw''
 go_wp2_with fail
 go_ret
 exact ⟨rfl,((Below.refl _ _).alloc (Nat.le_refl _) _).trans ((below_regrown _ _ _).mono (by simp))⟩
theorem RD  {ps:List Z1} (b need work:Int) (h:IsPaces w v ps) :
  Calls Tryz.prog 239 #[.agg #[.int .i64 b,v],.int .i64 need,.int .i64 work] w fun e w'=>e= .returned (.int .i64 (QC (b,ps) need work))/\Below w.heap.size w w':=by
 have Hv:=Z9 h
 obtain ⟨a,cap,rfl,hc,hm,hrow⟩:=h
 clear hrow
 have k0:=cell_regrown (w:=w.alloc (.cells #[.int .i64 b,.slice a ps.length cap] 140)) (a:=⟨w.heap.size,0,none⟩) (v:= .int .i64 b) (by simp)
 have k1:=cell_regrown (w:=w.alloc (.cells #[.int .i64 b,.slice a ps.length cap] 140)) (a:=⟨w.heap.size,1,none⟩) (v:= .slice a ps.length cap) (by simp)
 have Ha:Hid (IsPaces (w.alloc (.cells #[.int .i64 b,.slice a ps.length cap] 140)) (.slice a ps.length cap) ps):=Z9 ((uh Hv).below ((Below.refl _ _).alloc (Nat.le_refl _) _))
 go_enter Tryz.func239,Tryz.ntmps239
 go_wp2_with fail
 refine wp_region_quiet_below (by kernel_rfl) (by kernel_rfl) ?_
 repeat (go_big_quiet_step (first | exact Calls.regrown_of (Tm b need ((uh Ha).below (below_regrown _ _ _))) | exact Calls.regrown_of (PR b _ work ((uh Ha).below (below_regrown _ _ _)))))
 refine wpQuiet_nil ?_
 intro _ hw'
 obtain ⟨⟨dq,osq⟩,hw''⟩:=hw'
 subst hw''
 go_wp2_with fail
 go_ret
 exact ⟨rfl,((Below.refl _ _).alloc (Nat.le_refl _) _).trans ((below_regrown _ _ _).mono (by simp))⟩
end Go.Proofs.YtaegckehjlkaaaaGreat
