/- Part 24 of what the proof rests on. No condition but those that a theorem names. -/
import Derived.Test.YtffcgajndmhpkaaGreatDoorXt23
set_option maxHeartbeats 8000000
set_option maxRecDepth 100000
namespace Go.Proofs.YtffcgajndmhpkaaGreatDoor
open Go.ChangeShapes Go.WideShapes Go.ChangeAt Go.RowKit Go.Sort Go.Shelf
set_option linter.unusedVariables false
set_option linter.unusedSimpArgs false
set_option maxRecDepth 100000
variable {w w' w0 w1 w2 w3 w₀ wr W W' X A B C : World} {v v0 v1 v2 v3 v4 u u0 u1 u2 u3 u4 : Value} {m : Z6}
theorem Ji (n:Int) (y:Value) (W:World):Calls Tryz.prog 154 #[y,.int .i64 n] W fun e W'=>e= .returned (.bool (inB n 1 20))/\W'=W:=by
 go_enter Tryz.func154,Tryz.ntmps154
 go_wp2_with fail
 refine ck (ZC 1 n 20 W) fun w1 hw=> ?_
 subst hw
 go_wp2_with fail
 go_ret
 exact ⟨rfl,rfl⟩
theorem Nd {F:Nat->TypeId->Array Value->Prop} {R:Nat}  {qs:List (Z2 × Value)} (K:Ny F w W R v0 v1 v2 v3 v4 m qs) {n:Int} (h0:0<=m.now) (h1:m.now<=1000000) (hn:inB n 1 20=true):Calls Tryz.prog 157 #[.pointer (some ⟨R,0,none⟩),.int .i64 n] W fun e W'=>e= .returned (.bool true)/\Ny F w W' R v0 v1 v2 v3 v4 { m with now:=m.now+n } qs:=by
 have hn1:=ZU hn
 have HN:=Z9 (K.onNow (m.now+n))
 obtain ⟨_,_,_,_,_,c5⟩:=K.cells
 have f5:=K.blk.free 5
 clear K
 go_enter Tryz.func157,Tryz.ntmps157
 go_wp2_with fail
 go_ret
 exact ⟨rfl,uh HN⟩
theorem Nj {F:Nat->TypeId->Array Value->Prop} {R:Nat}  {qs:List (Z2 × Value)} (K:Ny F w W R v0 v1 v2 v3 v4 m qs) (y:Value) {q:Bool} (hq:Ze m=q):Calls Tryz.prog 158 #[.pointer (some ⟨R,0,none⟩),y] W fun e W'=>e= .returned (.bool q)/\Ny F w W' R v0 v1 v2 v3 v4 m qs:=by
 obtain ⟨c0,c1,c2,c3,c4,c5⟩:=K.cells
 have HQ:Hid (Xi m=q):=Z9 ((TW m).trans hq)
 clear hq
 go_enter Tryz.func158,Tryz.ntmps158
 go_wp2_with fail
 refine ck (Calls.bool_of (U6 K.full.smy) (uh HQ)) fun w1 hb=> ?_
 replace K:=K.next hb
 clear hb c0 c1 c2 c3 c4 c5
 go_wp2_with fail
 go_ret
 exact ⟨rfl,K⟩
theorem UK {x0 x1 x2 x3 x4 x5 x6 x7 x8 x9 x10 y0 y1 y2 y3 y4 y5 y6 y7 y8 y9 y10 work:Int} {q:Bool} (h:ZH (x0,x1,x2,x3,x4,x5,x6,x7,x8,x9,x10) work=((y0,y1,y2,y3,y4,y5,y6,y7,y8,y9,y10),q)) (w:World):Calls Tryz.prog 208 #[.agg (I11 x0 x1 x2 x3 x4 x5 x6 x7 x8 x9 x10),.int .i64 work] w fun e w'=>e= .returned (.tuple #[.agg (I11 y0 y1 y2 y3 y4 y5 y6 y7 y8 y9 y10),.bool q])/\Below w.heap.size w w':=Nf h w
theorem Rp {F:Nat->TypeId->Array Value->Prop} {R:Nat}  {qs:List (Z2 × Value)} (K:Ny F w W R v0 v1 v2 v3 v4 m qs) (hm:ZO m=true) {n:Int} (hn:inB n 1 20=true):Calls Tryz.prog 155 #[.pointer (some ⟨R,0,none⟩),.int .i64 n] W fun e W'=>Below w.heap.size w W'/\(∀ k t cs,F k t cs->Blk W' k t cs)/\((e= .returned (.bool true)/\ ∃ ss,Ch m n m.desks.length ss/\Ny F w W' R v0 v1 v2 v3 v4 { m with smiths:=ss } qs)\/(e= .returned (.bool false)/\Zs m n m.smiths.length=none)):=by
 have HM:=Z9 hm
 have HLo:=Z9 (ZT hm)
 have hn1:=ZU hn
 obtain ⟨hn10,hn11⟩:=hn1
 clear hn
 obtain ⟨a0,p0,a1,p1,a2,p2,a3,p3,a4,p4,rfl,rfl,rfl,rfl,rfl⟩:=VD K.full
 have hdl:m.desks.length<=8:=Xg (uh HLo)
 obtain ⟨_,_,_,c3,_,_⟩:=K.cells
 have HZ:Hid (Ch m n 0 m.smiths):=Z9 (CK hm n)
 have HK:Hid (Ny F w W R (.slice a0 m.rooms.length p0) (.slice a1 m.guilds.length p1) (.slice a2 m.smiths.length p2) (.slice a3 m.desks.length p3) (.slice a4 m.paces.length p4) { m with smiths:=m.smiths } qs):=Z9 K
 clear K hm
 go_enter Tryz.func155,Tryz.ntmps155
 go_wp2_with fail
 clear c3
 go_loopw [14] (fun i wr=> ∃ (b:Nat) (ss:List Z3),b<=m.desks.length/\i= .int .i64 b/\Ch m n b ss/\Ny F w wr R (.slice a0 m.rooms.length p0) (.slice a1 m.guilds.length p1) (.slice a2 m.smiths.length p2) (.slice a3 m.desks.length p3) (.slice a4 m.paces.length p4) { m with smiths:=ss } qs) (fun i _=>m.desks.length-(intOf i).toNat)
 case atStart=>exact ⟨0,m.smiths,Nat.zero_le _,rfl,uh HZ,uh HK⟩
 case round=>
  clear HZ HK
  obtain ⟨b,ss,hb,rfl,hch,K⟩:=hrel
  have Hch:=Z9 hch
  have hsl:=hch.len
  clear hch
  by_cases hlt:b<m.desks.length
  rotate_left
  ·obtain rfl:b=m.desks.length:=by omega
   go_wp2_with fail
   go_ret
   exact ⟨K.bb,K.fb,.inl ⟨rfl,ss,uh Hch,K⟩⟩
  have hlt1:(b:Int)<(m.desks.length:Int):=by omega
  obtain ⟨g3,rfl,hg3,hg3w,hc3,hz3⟩:=RecAt.view ZF (by omega) K.full.desks rfl (show 0<m.desks.length by omega)
  have d0:=hc3 b hlt 0 _ rfl
  have d1:=hc3 b hlt 1 _ rfl
  have d2:=hc3 b hlt 2 _ rfl
  have hdw:=N6 (uh HM) hlt
  obtain ⟨⟨op,dw,mk⟩,hdk⟩:∃ d,Z8 m.desks b=d:=⟨_,rfl⟩
  have hdk9:Z8 ({ m with smiths:=ss } : Z6).desks b=(op,dw,mk):=hdk
  rw [hdk9] at d0 d1 d2
  rw [hdk] at hdw
  simp only [Nat.add_zero] at d0 d1 d2
  have Hdk:=Z9 hdk
  clear hc3 hz3 hdk hdk9
  go_upto_region 4 with fail
  obtain ⟨W1,hW1,hba,kd⟩:=YN wr 53 #[.bool op,.int .i64 dw,.int .i64 mk]
  replace K:=K.next hba
  clear hba d0 d1 d2
  rw [hW1]
  clear hW1
  generalize wr.heap.size=db at *
  have e1:=(uh kd).cell (i:=1) (v:= .int .i64 dw) rfl
  obtain ⟨hw1,hw2⟩:=hdw
  clear hw1
  rcases hw2 with hw2 | ⟨k,hk,hwk,hbk,hs3⟩
  ·have hw3:dw= -1:=hw2
   clear hw2
   subst hw3
   have Hnx:=Z9 (CI (uh HM) hlt (uh Hch) (by rw [uh Hdk]))
   go_wp2_with fail
   go_roundw
   case rel=>exact ⟨b+1,ss,by omega,by go_num,uh Hnx,K⟩
   case measure=>exact ms
  have hwk2:dw=(k:Int):=hwk
  clear hwk
  subst hwk2
  have hk1:(k:Int)<(m.smiths.length:Int):=by omega
  have hkn:decide ((k:Int)= -1)=false:=decide_eq_false (by omega)
  have hkn2:((k:Int) == -1)=false:=beq_eq_false_iff_ne.mpr (by omega)
  have hat:=Bv (uh Hch) hk hbk
  obtain ⟨g2,rfl,hg2,hg2w,hc2,hz2⟩:=RecAt.view ZW (by omega) K.full.smiths hsl.symm (show 0<ss.length by omega)
  have s0:=hc2 k (show k<ss.length by omega) 0 _ rfl
  have s1:=hc2 k (show k<ss.length by omega) 1 _ rfl
  have s2:=hc2 k (show k<ss.length by omega) 2 _ rfl
  have s3:=hc2 k (show k<ss.length by omega) 3 _ rfl
  have s4:=hc2 k (show k<ss.length by omega) 4 _ rfl
  have s5:=hc2 k (show k<ss.length by omega) 5 _ rfl
  have s6:=hc2 k (show k<ss.length by omega) 6 _ rfl
  have s7:=hc2 k (show k<ss.length by omega) 7 _ rfl
  have s8:=hc2 k (show k<ss.length by omega) 8 _ rfl
  have s9:=hc2 k (show k<ss.length by omega) 9 _ rfl
  have s10:=hc2 k (show k<ss.length by omega) 10 _ rfl
  obtain ⟨⟨st,be,rk,my,gu,lo,hi,hd,ca,ut,wk⟩,hrk⟩:∃ d,Z8 m.smiths k=d:=⟨_,rfl⟩
  have hrk9:Z8 ({ m with smiths:=ss } : Z6).smiths k=(st,be,rk,my,gu,lo,hi,hd,ca,ut,wk):=hat.trans hrk
  rw [hrk9] at s0 s1 s2 s3 s4 s5 s6 s7 s8 s9 s10
  simp only [Nat.add_zero] at s0 s1 s2 s3 s4 s5 s6 s7 s8 s9 s10
  rw [hrk] at hbk hs3
  have hs4:st=3:=hs3
  have hbk2:be=(b:Int):=hbk
  clear hs3 hbk hrk9 hat
  subst hs4 hbk2
  have Hrk:=Z9 hrk
  clear hc2 hz2 hrk
  obtain ⟨fo,hfo⟩:∃ q,ZI m (b:Int)=q:=⟨_,rfl⟩
  have hfb:=LL (uh HLo) hlt
  rw [hfo] at hfb
  have Hfo:=Z9 hfo
  clear hfo
  obtain ⟨hf1,hf2⟩:=hfb
  have hwn1:IntKind.i64.wrap (n*fo)=n*fo:=FV hn10 hn11 hf1 hf2
  have hwn2:IntKind.wrap .i64 (n*fo)=n*fo:=hwn1
  obtain ⟨⟨y,qc⟩,hy⟩:∃ q,ZH (3,(b:Int),rk,my,gu,lo,hi,hd,ca,ut,wk) (n*fo)=q:=⟨_,rfl⟩
  have Hy:=Z9 hy
  clear hy
  obtain ⟨y0,y1,y2,y3,y4,y5,y6,y7,y8,y9,y10⟩:=y
  go_upto_region 5 with fail
  go_cut [7,8] (fun s7 s8 wc=> ∃ cb:Nat,s7= .pointer (some ⟨cb,0,none⟩)/\s8= .bool qc/\Ny F w wc R (.slice a0 m.rooms.length p0) (.slice a1 m.guilds.length p1) (.slice (some ⟨g2,0,none⟩) m.smiths.length p2) (.slice (some ⟨g3,0,none⟩) m.desks.length p3) (.slice a4 m.paces.length p4) { m with smiths:=ss } qs/\Blk wc db 53 #[.bool op,.int .i64 (k:Int),.int .i64 mk]/\Blk wc cb 39 (I11 y0 y1 y2 y3 y4 y5 y6 y7 y8 y9 y10))
  case first=>
   have K0W:=K
   obtain ⟨c0,c1,c2,c3,c4,c5⟩:=K.cells
   clear K0W
   refine wp_region_held_drew (S:=fun w'=>w'.cell? ⟨R,0,none⟩=some (.slice a0 m.rooms.length p0)/\w'.cell? ⟨R,1,none⟩=some (.slice a1 m.guilds.length p1)/\w'.cell? ⟨R,2,none⟩=some (.slice (some ⟨g2,0,none⟩) m.smiths.length p2)/\w'.cell? ⟨R,3,none⟩=some (.slice (some ⟨g3,0,none⟩) m.desks.length p3)/\w'.cell? ⟨R,4,none⟩=some (.slice a4 m.paces.length p4)/\w'.cell? ⟨R,5,none⟩=some (.int .i64 m.now)/\w'.cell? ⟨db,1,none⟩=some (.int .i64 (k:Int))/\w'.cell? ⟨g2,k*11,none⟩=some (.int .i64 3)/\w'.cell? ⟨g2,k*11+1,none⟩=some (.int .i64 (b:Int))/\w'.cell? ⟨g2,k*11+2,none⟩=some (.int .i64 rk)/\w'.cell? ⟨g2,k*11+3,none⟩=some (.int .i64 my)/\w'.cell? ⟨g2,k*11+4,none⟩=some (.int .i64 gu)/\w'.cell? ⟨g2,k*11+5,none⟩=some (.int .i64 lo)/\w'.cell? ⟨g2,k*11+6,none⟩=some (.int .i64 hi)/\w'.cell? ⟨g2,k*11+7,none⟩=some (.int .i64 hd)/\w'.cell? ⟨g2,k*11+8,none⟩=some (.int .i64 ca)/\w'.cell? ⟨g2,k*11+9,none⟩=some (.int .i64 ut)/\w'.cell? ⟨g2,k*11+10,none⟩=some (.int .i64 wk)) (by kernel_rfl) ⟨c0,c1,c2,c3,c4,c5,e1,s0,s1,s2,s3,s4,s5,s6,s7,s8,s9,s10⟩ (fun hHeld=> ?_)
   replace K:=K.next ((Below.refl _ _).drew:Below W1.heap.size W1 W1.drew)
   replace kd:=Z9 ((uh kd).below ((Below.refl _ _).drew:Below W1.heap.size W1 W1.drew) (uh kd).lt)
   have hdr:Below W1.heap.size W1 W1.drew:=(Below.refl _ _).drew
   replace c0:=Z0 hdr c0
   replace c1:=Z0 hdr c1
   replace c2:=Z0 hdr c2
   replace c3:=Z0 hdr c3
   replace c4:=Z0 hdr c4
   replace c5:=Z0 hdr c5
   replace e1:=Z0 hdr e1
   replace s0:=Z0 hdr s0
   replace s1:=Z0 hdr s1
   replace s2:=Z0 hdr s2
   replace s3:=Z0 hdr s3
   replace s4:=Z0 hdr s4
   replace s5:=Z0 hdr s5
   replace s6:=Z0 hdr s6
   replace s7:=Z0 hdr s7
   replace s8:=Z0 hdr s8
   replace s9:=Z0 hdr s9
   replace s10:=Z0 hdr s10
   clear hdr
   generalize W1.drew=W5 at *
   have hS:∀ W',Below W5.heap.size W5 W'->(fun w'=>w'.cell? ⟨R,0,none⟩=some (.slice a0 m.rooms.length p0)/\w'.cell? ⟨R,1,none⟩=some (.slice a1 m.guilds.length p1)/\w'.cell? ⟨R,2,none⟩=some (.slice (some ⟨g2,0,none⟩) m.smiths.length p2)/\w'.cell? ⟨R,3,none⟩=some (.slice (some ⟨g3,0,none⟩) m.desks.length p3)/\w'.cell? ⟨R,4,none⟩=some (.slice a4 m.paces.length p4)/\w'.cell? ⟨R,5,none⟩=some (.int .i64 m.now)/\w'.cell? ⟨db,1,none⟩=some (.int .i64 (k:Int))/\w'.cell? ⟨g2,k*11,none⟩=some (.int .i64 3)/\w'.cell? ⟨g2,k*11+1,none⟩=some (.int .i64 (b:Int))/\w'.cell? ⟨g2,k*11+2,none⟩=some (.int .i64 rk)/\w'.cell? ⟨g2,k*11+3,none⟩=some (.int .i64 my)/\w'.cell? ⟨g2,k*11+4,none⟩=some (.int .i64 gu)/\w'.cell? ⟨g2,k*11+5,none⟩=some (.int .i64 lo)/\w'.cell? ⟨g2,k*11+6,none⟩=some (.int .i64 hi)/\w'.cell? ⟨g2,k*11+7,none⟩=some (.int .i64 hd)/\w'.cell? ⟨g2,k*11+8,none⟩=some (.int .i64 ca)/\w'.cell? ⟨g2,k*11+9,none⟩=some (.int .i64 ut)/\w'.cell? ⟨g2,k*11+10,none⟩=some (.int .i64 wk)) W':=fun W' hb=>⟨Z0 hb c0,Z0 hb c1,Z0 hb c2,Z0 hb c3,Z0 hb c4,Z0 hb c5,Z0 hb e1,Z0 hb s0,Z0 hb s1,Z0 hb s2,Z0 hb s3,Z0 hb s4,Z0 hb s5,Z0 hb s6,Z0 hb s7,Z0 hb s8,Z0 hb s9,Z0 hb s10⟩
   (refine tq 0 ?_;(try simp only [Act.put,sA,sZ,sS]))
   (refine tq 1 ?_;(try simp only [Act.put,sA,sZ,sS]))
   (refine tq 2 ?_;(try simp only [Act.put,sA,sZ,sS]))
   (refine tq 3 ?_;(try simp only [Act.put,sA,sZ,sS]))
   (refine tq 4 ?_;(try simp only [Act.put,sA,sZ,sS]))
   (refine tq 5 ?_;(try simp only [Act.put,sA,sZ,sS]))
   (refine tq 6 ?_;(try simp only [Act.put,sA,sZ,sS]))
   (refine tq 7 ?_;(try simp only [Act.put,sA,sZ,sS]))
   (refine tq 8 ?_;(try simp only [Act.put,sA,sZ,sS]))
   (refine tq 9 ?_;(try simp only [Act.put,sA,sZ,sS]))
   (refine tq 10 ?_;(try simp only [Act.put,sA,sZ,sS]))
   (refine tq 11 ?_;(try simp only [Act.put,sA,sZ,sS]))
   (refine tq 12 ?_;(try simp only [Act.put,sA,sZ,sS]))
   refine wpAnyH_ready (rs:=[13,19]) (by kernel_rfl) (by simp) ?_
   refine AllReadyH.cons rfl (fun K0 hK=> ?_) (AllReadyH.cons rfl (fun K0 hK=> ?_) AllReadyH.nil)
   ·go_simp
    refine ck (TN (m:={ m with smiths:=ss }) (uh Hfo) (K.next ((Below.refl W5.heap.size W5))).full.smy (uh HLo) rfl rfl hlt) fun w6 h9=> ?_
    have hw6:Below W5.heap.size W5 w6:=((Below.refl W5.heap.size W5)).trans (h9.mono ((Below.refl W5.heap.size W5)).size)
    refine hK.out _ _ (hS _ hw6) (fun hHeld=> ?_)
    clear hK K0
    (try simp only [Act.put,sA,sZ,sS])
    (refine tq 14 ?_;(try simp only [Act.put,sA,sZ,sS]))
    refine wpAnyH_ready (rs:=[15,19]) (by kernel_rfl) (by simp) ?_
    refine AllReadyH.cons rfl (fun K0 hK=> ?_) (AllReadyH.cons rfl (fun K0 hK=> ?_) AllReadyH.nil)
    ·go_simp
     refine ck (UK (uh Hy) _) fun w7 h9=> ?_
     have hw7:Below W5.heap.size W5 w7:=(hw6).trans (h9.mono (hw6).size)
     refine hK.out _ _ (hS _ hw7) (fun hHeld=> ?_)
     clear hK K0
     (try simp only [Act.put,sA,sZ,sS])
     (refine tq 16 ?_;(try simp only [Act.put,sA,sZ,sS]))
     (refine tq 17 ?_;(try simp only [Act.put,sA,sZ,sS]))
     (refine tq 18 ?_;(try simp only [Act.put,sA,sZ,sS]))
     refine wpAnyH_ready (rs:=[19]) (by kernel_rfl) (by simp) ?_
     refine AllReadyH.cons rfl (fun K0 hK=> ?_) AllReadyH.nil
     go_simp
     have hal:Below W5.heap.size W5 (w7.alloc (.cells E11 39)):=(hw7).alloc (hw7).size _
     have kc:Hid (Blk (w7.alloc (.cells E11 39)) w7.heap.size 39 E11):=Z9 (Blk.new _ _ _)
     have hcb:W5.heap.size<=w7.heap.size:=(hw7).size
     refine hK.out _ _ (hS _ hal) (fun hHeld=> ?_)
     clear hK K0
     (try simp only [Act.put,sA,sZ,sS])
     generalize w7.alloc (.cells E11 39)=w8 at *
     generalize w7.heap.size=cb at *
     have hw8:=hal
     clear hal
     refine wpAnyH_ready (rs:=[20]) (by kernel_rfl) (by simp) ?_
     refine AllReadyH.cons rfl (fun K0 hK=> ?_) AllReadyH.nil
     have o0:=(uh kc).cell (i:=0) (v:= .int .i64 0) rfl
     have f0:=(uh kc).free 0
     have o1:=(uh kc).cell (i:=1) (v:= .int .i64 0) rfl
     have f1:=(uh kc).free 1
     have o2:=(uh kc).cell (i:=2) (v:= .int .i64 0) rfl
     have f2:=(uh kc).free 2
     have o3:=(uh kc).cell (i:=3) (v:= .int .i64 0) rfl
     have f3:=(uh kc).free 3
     have o4:=(uh kc).cell (i:=4) (v:= .int .i64 0) rfl
     have f4:=(uh kc).free 4
     have o5:=(uh kc).cell (i:=5) (v:= .int .i64 0) rfl
     have f5:=(uh kc).free 5
     have o6:=(uh kc).cell (i:=6) (v:= .int .i64 0) rfl
     have f6:=(uh kc).free 6
     have o7:=(uh kc).cell (i:=7) (v:= .int .i64 0) rfl
     have f7:=(uh kc).free 7
     have o8:=(uh kc).cell (i:=8) (v:= .int .i64 0) rfl
     have f8:=(uh kc).free 8
     have o9:=(uh kc).cell (i:=9) (v:= .int .i64 0) rfl
     have f9:=(uh kc).free 9
     have o10:=(uh kc).cell (i:=10) (v:= .int .i64 0) rfl
     have f10:=(uh kc).free 10
     have hst:Below W5.heap.size W5 (((((((((((w8.setCell ⟨cb,0,none⟩ (.int .i64 y0)).setCell ⟨cb,1,none⟩ (.int .i64 y1)).setCell ⟨cb,2,none⟩ (.int .i64 y2)).setCell ⟨cb,3,none⟩ (.int .i64 y3)).setCell ⟨cb,4,none⟩ (.int .i64 y4)).setCell ⟨cb,5,none⟩ (.int .i64 y5)).setCell ⟨cb,6,none⟩ (.int .i64 y6)).setCell ⟨cb,7,none⟩ (.int .i64 y7)).setCell ⟨cb,8,none⟩ (.int .i64 y8)).setCell ⟨cb,9,none⟩ (.int .i64 y9)).setCell ⟨cb,10,none⟩ (.int .i64 y10)):=((((((((((((hw8).setCell (p:=⟨cb,0,none⟩) hcb (.int .i64 y0)).setCell (p:=⟨cb,1,none⟩) hcb (.int .i64 y1)).setCell (p:=⟨cb,2,none⟩) hcb (.int .i64 y2)).setCell (p:=⟨cb,3,none⟩) hcb (.int .i64 y3)).setCell (p:=⟨cb,4,none⟩) hcb (.int .i64 y4)).setCell (p:=⟨cb,5,none⟩) hcb (.int .i64 y5)).setCell (p:=⟨cb,6,none⟩) hcb (.int .i64 y6)).setCell (p:=⟨cb,7,none⟩) hcb (.int .i64 y7)).setCell (p:=⟨cb,8,none⟩) hcb (.int .i64 y8)).setCell (p:=⟨cb,9,none⟩) hcb (.int .i64 y9)).setCell (p:=⟨cb,10,none⟩) hcb (.int .i64 y10))
     have kcN:Hid (Blk (((((((((((w8.setCell ⟨cb,0,none⟩ (.int .i64 y0)).setCell ⟨cb,1,none⟩ (.int .i64 y1)).setCell ⟨cb,2,none⟩ (.int .i64 y2)).setCell ⟨cb,3,none⟩ (.int .i64 y3)).setCell ⟨cb,4,none⟩ (.int .i64 y4)).setCell ⟨cb,5,none⟩ (.int .i64 y5)).setCell ⟨cb,6,none⟩ (.int .i64 y6)).setCell ⟨cb,7,none⟩ (.int .i64 y7)).setCell ⟨cb,8,none⟩ (.int .i64 y8)).setCell ⟨cb,9,none⟩ (.int .i64 y9)).setCell ⟨cb,10,none⟩ (.int .i64 y10)) cb 39 (I11 y0 y1 y2 y3 y4 y5 y6 y7 y8 y9 y10)):=Z9 ((uh kc).put11T (.int .i64 y0) (.int .i64 y1) (.int .i64 y2) (.int .i64 y3) (.int .i64 y4) (.int .i64 y5) (.int .i64 y6) (.int .i64 y7) (.int .i64 y8) (.int .i64 y9) (.int .i64 y10))
     go_simp
     refine hK.out _ _ (hS _ hst) (fun hHeld=> ?_)
     clear hK K0
     (try simp only [Act.put,sA,sZ,sS])
     clear o0 f0 o1 f1 o2 f2 o3 f3 o4 f4 o5 f5 o6 f6 o7 f7 o8 f8 o9 f9 o10 f10
     (refine tq 21 ?_;(try simp only [Act.put,sA,sZ,sS]))
     refine wpAnyH_done (by kernel_rfl) ?_ _
     go_simp
     go_wp2_with fail
     go_meet
     exact ⟨cb,rfl,rfl,K.next hst,(uh kd).below hst (uh kd).lt,uh kcN⟩
    ·go_simp
     have hal:Below W5.heap.size W5 (w6.alloc (.cells E11 39)):=(hw6).alloc (hw6).size _
     have kc:Hid (Blk (w6.alloc (.cells E11 39)) w6.heap.size 39 E11):=Z9 (Blk.new _ _ _)
     have hcb:W5.heap.size<=w6.heap.size:=(hw6).size
     refine hK.out _ _ (hS _ hal) (fun hHeld=> ?_)
     clear hK K0
     (try simp only [Act.put,sA,sZ,sS])
     generalize w6.alloc (.cells E11 39)=w7 at *
     generalize w6.heap.size=cb at *
     have hw7:=hal
     clear hal
     refine wpAnyH_ready (rs:=[15]) (by kernel_rfl) (by simp) ?_
     refine AllReadyH.cons rfl (fun K0 hK=> ?_) AllReadyH.nil
     go_simp
     refine ck (UK (uh Hy) _) fun w8 h9=> ?_
     have hw8:Below W5.heap.size W5 w8:=(hw7).trans (h9.mono (hw7).size)
     refine hK.out _ _ (hS _ hw8) (fun hHeld=> ?_)
     clear hK K0
     (try simp only [Act.put,sA,sZ,sS])
     replace kc:=Z9 ((uh kc).below h9 (uh kc).lt)
     (refine tq 16 ?_;(try simp only [Act.put,sA,sZ,sS]))
     (refine tq 17 ?_;(try simp only [Act.put,sA,sZ,sS]))
     (refine tq 18 ?_;(try simp only [Act.put,sA,sZ,sS]))
     refine wpAnyH_ready (rs:=[20]) (by kernel_rfl) (by simp) ?_
     refine AllReadyH.cons rfl (fun K0 hK=> ?_) AllReadyH.nil
     have o0:=(uh kc).cell (i:=0) (v:= .int .i64 0) rfl
     have f0:=(uh kc).free 0
     have o1:=(uh kc).cell (i:=1) (v:= .int .i64 0) rfl
     have f1:=(uh kc).free 1
     have o2:=(uh kc).cell (i:=2) (v:= .int .i64 0) rfl
     have f2:=(uh kc).free 2
     have o3:=(uh kc).cell (i:=3) (v:= .int .i64 0) rfl
     have f3:=(uh kc).free 3
     have o4:=(uh kc).cell (i:=4) (v:= .int .i64 0) rfl
     have f4:=(uh kc).free 4
     have o5:=(uh kc).cell (i:=5) (v:= .int .i64 0) rfl
     have f5:=(uh kc).free 5
     have o6:=(uh kc).cell (i:=6) (v:= .int .i64 0) rfl
     have f6:=(uh kc).free 6
     have o7:=(uh kc).cell (i:=7) (v:= .int .i64 0) rfl
     have f7:=(uh kc).free 7
     have o8:=(uh kc).cell (i:=8) (v:= .int .i64 0) rfl
     have f8:=(uh kc).free 8
     have o9:=(uh kc).cell (i:=9) (v:= .int .i64 0) rfl
     have f9:=(uh kc).free 9
     have o10:=(uh kc).cell (i:=10) (v:= .int .i64 0) rfl
     have f10:=(uh kc).free 10
     have hst:Below W5.heap.size W5 (((((((((((w8.setCell ⟨cb,0,none⟩ (.int .i64 y0)).setCell ⟨cb,1,none⟩ (.int .i64 y1)).setCell ⟨cb,2,none⟩ (.int .i64 y2)).setCell ⟨cb,3,none⟩ (.int .i64 y3)).setCell ⟨cb,4,none⟩ (.int .i64 y4)).setCell ⟨cb,5,none⟩ (.int .i64 y5)).setCell ⟨cb,6,none⟩ (.int .i64 y6)).setCell ⟨cb,7,none⟩ (.int .i64 y7)).setCell ⟨cb,8,none⟩ (.int .i64 y8)).setCell ⟨cb,9,none⟩ (.int .i64 y9)).setCell ⟨cb,10,none⟩ (.int .i64 y10)):=((((((((((((hw8).setCell (p:=⟨cb,0,none⟩) hcb (.int .i64 y0)).setCell (p:=⟨cb,1,none⟩) hcb (.int .i64 y1)).setCell (p:=⟨cb,2,none⟩) hcb (.int .i64 y2)).setCell (p:=⟨cb,3,none⟩) hcb (.int .i64 y3)).setCell (p:=⟨cb,4,none⟩) hcb (.int .i64 y4)).setCell (p:=⟨cb,5,none⟩) hcb (.int .i64 y5)).setCell (p:=⟨cb,6,none⟩) hcb (.int .i64 y6)).setCell (p:=⟨cb,7,none⟩) hcb (.int .i64 y7)).setCell (p:=⟨cb,8,none⟩) hcb (.int .i64 y8)).setCell (p:=⟨cb,9,none⟩) hcb (.int .i64 y9)).setCell (p:=⟨cb,10,none⟩) hcb (.int .i64 y10))
     have kcN:Hid (Blk (((((((((((w8.setCell ⟨cb,0,none⟩ (.int .i64 y0)).setCell ⟨cb,1,none⟩ (.int .i64 y1)).setCell ⟨cb,2,none⟩ (.int .i64 y2)).setCell ⟨cb,3,none⟩ (.int .i64 y3)).setCell ⟨cb,4,none⟩ (.int .i64 y4)).setCell ⟨cb,5,none⟩ (.int .i64 y5)).setCell ⟨cb,6,none⟩ (.int .i64 y6)).setCell ⟨cb,7,none⟩ (.int .i64 y7)).setCell ⟨cb,8,none⟩ (.int .i64 y8)).setCell ⟨cb,9,none⟩ (.int .i64 y9)).setCell ⟨cb,10,none⟩ (.int .i64 y10)) cb 39 (I11 y0 y1 y2 y3 y4 y5 y6 y7 y8 y9 y10)):=Z9 ((uh kc).put11T (.int .i64 y0) (.int .i64 y1) (.int .i64 y2) (.int .i64 y3) (.int .i64 y4) (.int .i64 y5) (.int .i64 y6) (.int .i64 y7) (.int .i64 y8) (.int .i64 y9) (.int .i64 y10))
     go_simp
     refine hK.out _ _ (hS _ hst) (fun hHeld=> ?_)
     clear hK K0
     (try simp only [Act.put,sA,sZ,sS])
     clear o0 f0 o1 f1 o2 f2 o3 f3 o4 f4 o5 f5 o6 f6 o7 f7 o8 f8 o9 f9 o10 f10
     (refine tq 21 ?_;(try simp only [Act.put,sA,sZ,sS]))
     refine wpAnyH_done (by kernel_rfl) ?_ _
     go_simp
     go_wp2_with fail
     go_meet
     exact ⟨cb,rfl,rfl,K.next hst,(uh kd).below hst (uh kd).lt,uh kcN⟩
   ·go_simp
    have hal:Below W5.heap.size W5 (W5.alloc (.cells E11 39)):=((Below.refl W5.heap.size W5)).alloc ((Below.refl W5.heap.size W5)).size _
    have kc:Hid (Blk (W5.alloc (.cells E11 39)) W5.heap.size 39 E11):=Z9 (Blk.new _ _ _)
    have hcb:W5.heap.size<=W5.heap.size:=((Below.refl W5.heap.size W5)).size
    refine hK.out _ _ (hS _ hal) (fun hHeld=> ?_)
    clear hK K0
    (try simp only [Act.put,sA,sZ,sS])
    generalize W5.alloc (.cells E11 39)=w6 at *
    obtain ⟨cb,hcbe⟩:∃ c,c=W5.heap.size:=⟨_,rfl⟩
    rw [<-hcbe] at kc ⊢
    replace hcb:W5.heap.size<=cb:=by omega
    clear hcbe
    have hw6:=hal
    clear hal
    refine wpAnyH_ready (rs:=[13]) (by kernel_rfl) (by simp) ?_
    refine AllReadyH.cons rfl (fun K0 hK=> ?_) AllReadyH.nil
    go_simp
    refine ck (TN (m:={ m with smiths:=ss }) (uh Hfo) (K.next (hw6)).full.smy (uh HLo) rfl rfl hlt) fun w7 h9=> ?_
    have hw7:Below W5.heap.size W5 w7:=(hw6).trans (h9.mono (hw6).size)
    refine hK.out _ _ (hS _ hw7) (fun hHeld=> ?_)
    clear hK K0
    (try simp only [Act.put,sA,sZ,sS])
    replace kc:=Z9 ((uh kc).below h9 (uh kc).lt)
    (refine tq 14 ?_;(try simp only [Act.put,sA,sZ,sS]))
    refine wpAnyH_ready (rs:=[15]) (by kernel_rfl) (by simp) ?_
    refine AllReadyH.cons rfl (fun K0 hK=> ?_) AllReadyH.nil
    go_simp
    refine ck (UK (uh Hy) _) fun w8 h9=> ?_
    have hw8:Below W5.heap.size W5 w8:=(hw7).trans (h9.mono (hw7).size)
    refine hK.out _ _ (hS _ hw8) (fun hHeld=> ?_)
    clear hK K0
    (try simp only [Act.put,sA,sZ,sS])
    replace kc:=Z9 ((uh kc).below h9 (uh kc).lt)
    (refine tq 16 ?_;(try simp only [Act.put,sA,sZ,sS]))
    (refine tq 17 ?_;(try simp only [Act.put,sA,sZ,sS]))
    (refine tq 18 ?_;(try simp only [Act.put,sA,sZ,sS]))
    refine wpAnyH_ready (rs:=[20]) (by kernel_rfl) (by simp) ?_
    refine AllReadyH.cons rfl (fun K0 hK=> ?_) AllReadyH.nil
    have o0:=(uh kc).cell (i:=0) (v:= .int .i64 0) rfl
    have f0:=(uh kc).free 0
    have o1:=(uh kc).cell (i:=1) (v:= .int .i64 0) rfl
    have f1:=(uh kc).free 1
    have o2:=(uh kc).cell (i:=2) (v:= .int .i64 0) rfl
    have f2:=(uh kc).free 2
    have o3:=(uh kc).cell (i:=3) (v:= .int .i64 0) rfl
    have f3:=(uh kc).free 3
    have o4:=(uh kc).cell (i:=4) (v:= .int .i64 0) rfl
    have f4:=(uh kc).free 4
    have o5:=(uh kc).cell (i:=5) (v:= .int .i64 0) rfl
    have f5:=(uh kc).free 5
    have o6:=(uh kc).cell (i:=6) (v:= .int .i64 0) rfl
    have f6:=(uh kc).free 6
    have o7:=(uh kc).cell (i:=7) (v:= .int .i64 0) rfl
    have f7:=(uh kc).free 7
    have o8:=(uh kc).cell (i:=8) (v:= .int .i64 0) rfl
    have f8:=(uh kc).free 8
    have o9:=(uh kc).cell (i:=9) (v:= .int .i64 0) rfl
    have f9:=(uh kc).free 9
    have o10:=(uh kc).cell (i:=10) (v:= .int .i64 0) rfl
    have f10:=(uh kc).free 10
    have hst:Below W5.heap.size W5 (((((((((((w8.setCell ⟨cb,0,none⟩ (.int .i64 y0)).setCell ⟨cb,1,none⟩ (.int .i64 y1)).setCell ⟨cb,2,none⟩ (.int .i64 y2)).setCell ⟨cb,3,none⟩ (.int .i64 y3)).setCell ⟨cb,4,none⟩ (.int .i64 y4)).setCell ⟨cb,5,none⟩ (.int .i64 y5)).setCell ⟨cb,6,none⟩ (.int .i64 y6)).setCell ⟨cb,7,none⟩ (.int .i64 y7)).setCell ⟨cb,8,none⟩ (.int .i64 y8)).setCell ⟨cb,9,none⟩ (.int .i64 y9)).setCell ⟨cb,10,none⟩ (.int .i64 y10)):=((((((((((((hw8).setCell (p:=⟨cb,0,none⟩) hcb (.int .i64 y0)).setCell (p:=⟨cb,1,none⟩) hcb (.int .i64 y1)).setCell (p:=⟨cb,2,none⟩) hcb (.int .i64 y2)).setCell (p:=⟨cb,3,none⟩) hcb (.int .i64 y3)).setCell (p:=⟨cb,4,none⟩) hcb (.int .i64 y4)).setCell (p:=⟨cb,5,none⟩) hcb (.int .i64 y5)).setCell (p:=⟨cb,6,none⟩) hcb (.int .i64 y6)).setCell (p:=⟨cb,7,none⟩) hcb (.int .i64 y7)).setCell (p:=⟨cb,8,none⟩) hcb (.int .i64 y8)).setCell (p:=⟨cb,9,none⟩) hcb (.int .i64 y9)).setCell (p:=⟨cb,10,none⟩) hcb (.int .i64 y10))
    have kcN:Hid (Blk (((((((((((w8.setCell ⟨cb,0,none⟩ (.int .i64 y0)).setCell ⟨cb,1,none⟩ (.int .i64 y1)).setCell ⟨cb,2,none⟩ (.int .i64 y2)).setCell ⟨cb,3,none⟩ (.int .i64 y3)).setCell ⟨cb,4,none⟩ (.int .i64 y4)).setCell ⟨cb,5,none⟩ (.int .i64 y5)).setCell ⟨cb,6,none⟩ (.int .i64 y6)).setCell ⟨cb,7,none⟩ (.int .i64 y7)).setCell ⟨cb,8,none⟩ (.int .i64 y8)).setCell ⟨cb,9,none⟩ (.int .i64 y9)).setCell ⟨cb,10,none⟩ (.int .i64 y10)) cb 39 (I11 y0 y1 y2 y3 y4 y5 y6 y7 y8 y9 y10)):=Z9 ((uh kc).put11T (.int .i64 y0) (.int .i64 y1) (.int .i64 y2) (.int .i64 y3) (.int .i64 y4) (.int .i64 y5) (.int .i64 y6) (.int .i64 y7) (.int .i64 y8) (.int .i64 y9) (.int .i64 y10))
    go_simp
    refine hK.out _ _ (hS _ hst) (fun hHeld=> ?_)
    clear hK K0
    (try simp only [Act.put,sA,sZ,sS])
    clear o0 f0 o1 f1 o2 f2 o3 f3 o4 f4 o5 f5 o6 f6 o7 f7 o8 f8 o9 f9 o10 f10
    (refine tq 21 ?_;(try simp only [Act.put,sA,sZ,sS]))
    refine wpAnyH_done (by kernel_rfl) ?_ _
    go_simp
    go_wp2_with fail
    go_meet
    exact ⟨cb,rfl,rfl,K.next hst,(uh kd).below hst (uh kd).lt,uh kcN⟩
  case rest=>
   obtain ⟨cb,rfl,rfl,K,hkd,hkc⟩:=hcut
   have kd9:=Z9 hkd
   have kc:=Z9 hkc
   clear hkd hkc
   cases qc
   ·have Hno:=Z9 (CH (n:=n) hk (by rw [uh Hrk]) (by rw [uh Hrk]) (by rw [uh Hrk,uh Hfo];exact uh Hy))
    go_wp2_with fail
    go_ret
    exact ⟨K.bb,K.fb,.inr ⟨rfl,uh Hno⟩⟩
   have Hnx:=Z9 (CJ (uh HM) hlt (uh Hch) hk (by rw [uh Hdk]) (by rw [uh Hrk]) (by rw [uh Hrk]) (by rw [uh Hrk,uh Hfo];exact uh Hy))
   go_upto_region 8 with fail
   obtain ⟨_,_,c2,_,_,_⟩:=K.cells
   have e1:=(uh kd9).cell (i:=1) (v:= .int .i64 (k:Int)) rfl
   obtain ⟨z0,z1,z2,z3,z4,z5,z6,z7,z8,z9,z10⟩:=(uh kc).c11
   refine ZR (S:=fun w'=>w'.cell? ⟨R,2,none⟩=some (.slice (some ⟨g2,0,none⟩) m.smiths.length p2)/\w'.cell? ⟨db,1,none⟩=some (.int .i64 (k:Int))/\w'.cell? ⟨cb,0,none⟩=some (.int .i64 y0)/\w'.cell? ⟨cb,1,none⟩=some (.int .i64 y1)/\w'.cell? ⟨cb,2,none⟩=some (.int .i64 y2)/\w'.cell? ⟨cb,3,none⟩=some (.int .i64 y3)/\w'.cell? ⟨cb,4,none⟩=some (.int .i64 y4)/\w'.cell? ⟨cb,5,none⟩=some (.int .i64 y5)/\w'.cell? ⟨cb,6,none⟩=some (.int .i64 y6)/\w'.cell? ⟨cb,7,none⟩=some (.int .i64 y7)/\w'.cell? ⟨cb,8,none⟩=some (.int .i64 y8)/\w'.cell? ⟨cb,9,none⟩=some (.int .i64 y9)/\w'.cell? ⟨cb,10,none⟩=some (.int .i64 y10)) (by kernel_rfl) (List.cons_ne_nil _ _) (by kernel_rfl) ⟨c2,e1,z0,z1,z2,z3,z4,z5,z6,z7,z8,z9,z10⟩ (fun hHeld=> ?_)
   simp only [List.dropLast_cons_cons,List.dropLast_singleton,List.length_cons,List.length_nil,Nat.zero_add,Nat.reduceAdd]
   replace K:=K.next ((Below.refl _ _).drew:Below wc.heap.size wc wc.drew)
   clear c2 e1 z0 z1 z2 z3 z4 z5 z6 z7 z8 z9 z10
   generalize wc.drew=W5 at *
   (refine tq 0 ?_;(try simp only [Act.put,sA,sZ,sS]))
   (refine tq 1 ?_;(try simp only [Act.put,sA,sZ,sS]))
   (refine tq 2 ?_;(try simp only [Act.put,sA,sZ,sS]))
   (refine tq 3 ?_;(try simp only [Act.put,sA,sZ,sS]))
   (refine tq 4 ?_;(try simp only [Act.put,sA,sZ,sS]))
   (refine tq 5 ?_;(try simp only [Act.put,sA,sZ,sS]))
   (refine tq 6 ?_;(try simp only [Act.put,sA,sZ,sS]))
   (refine tq 7 ?_;(try simp only [Act.put,sA,sZ,sS]))
   refine wpAnyH_done (by kernel_rfl) ?_ _
   go_simp
   refine ZE rfl rfl ?_
   obtain ⟨_,hga,_,_,hc2,hz2⟩:=RecAt.view ZW (by omega) K.full.smiths hsl.symm (show 0<ss.length by omega)
   cases hga
   have s0:=hc2 k (show k<ss.length by omega) 0 _ rfl
   have s1:=hc2 k (show k<ss.length by omega) 1 _ rfl
   have s2:=hc2 k (show k<ss.length by omega) 2 _ rfl
   have s3:=hc2 k (show k<ss.length by omega) 3 _ rfl
   have s4:=hc2 k (show k<ss.length by omega) 4 _ rfl
   have s5:=hc2 k (show k<ss.length by omega) 5 _ rfl
   have s6:=hc2 k (show k<ss.length by omega) 6 _ rfl
   have s7:=hc2 k (show k<ss.length by omega) 7 _ rfl
   have s8:=hc2 k (show k<ss.length by omega) 8 _ rfl
   have s9:=hc2 k (show k<ss.length by omega) 9 _ rfl
   have s10:=hc2 k (show k<ss.length by omega) 10 _ rfl
   have f0:=hz2 (k*11)
   have f1:=hz2 (k*11+1)
   have f2:=hz2 (k*11+2)
   have f3:=hz2 (k*11+3)
   have f4:=hz2 (k*11+4)
   have f5:=hz2 (k*11+5)
   have f6:=hz2 (k*11+6)
   have f7:=hz2 (k*11+7)
   have f8:=hz2 (k*11+8)
   have f9:=hz2 (k*11+9)
   have f10:=hz2 (k*11+10)
   simp only [Nat.add_zero] at s0 f0
   have K1:=K.putW hsl.symm (j:=k) (show k<ss.length by omega) (y0,y1,y2,y3,y4,y5,y6,y7,y8,y9,y10)
   rw [show ZX (y0,y1,y2,y3,y4,y5,y6,y7,y8,y9,y10)=[.int .i64 y0,.int .i64 y1,.int .i64 y2,.int .i64 y3,.int .i64 y4,.int .i64 y5,.int .i64 y6,.int .i64 y7,.int .i64 y8,.int .i64 y9,.int .i64 y10] from rfl,Sg] at K1
   have HK:=Z9 K1
   clear K1 hc2 hz2 K
   go_simp
   clear hHeld
   go_wp2_with fail
   go_roundw
   case rel=>exact ⟨b+1,_,by omega,by go_num,uh Hnx,uh HK⟩
   case measure=>exact ms
set_option maxRecDepth 100000
theorem Jz {F:Nat->TypeId->Array Value->Prop} {R:Nat}  {qs:List (Z2 × Value)} {ss0:List Z3} (K:Ny F w W R v0 v1 v2 v3 v4 { m with smiths:=ss0 } qs) (hm:ZO m=true) {n:Int} (hn:inB n 1 20=true) (hf:Fd m n 0 ss0):Calls Tryz.prog 156 #[.pointer (some ⟨R,0,none⟩),.int .i64 n] W fun e W'=>e= .returned (.bool true)/\ ∃ ts,Fd m n m.smiths.length ts/\Ny F w W' R v0 v1 v2 v3 v4 { m with smiths:=ts } qs:=by
 have HLo:=Z9 (ZT hm)
 obtain ⟨a0,p0,a1,p1,a2,p2,a3,p3,a4,p4,rfl,rfl,rfl,rfl,rfl⟩:=VD K.full
 simp only [hf.len] at K ⊢
 have hsl9:m.smiths.length<=12:=Za (uh HLo)
 obtain ⟨_,_,c2,_,_,_⟩:=K.cells
 have HZ:=Z9 hf
 have HK:Hid (Ny F w W R (.slice a0 m.rooms.length p0) (.slice a1 m.guilds.length p1) (.slice a2 m.smiths.length p2) (.slice a3 m.desks.length p3) (.slice a4 m.paces.length p4) { m with smiths:=ss0 } qs):=Z9 K
 clear K hm hf hn
 go_enter Tryz.func156,Tryz.ntmps156
 go_wp2_with fail
 clear c2
 go_loopw [13] (fun i wr=> ∃ (k:Nat) (ss:List Z3),k<=m.smiths.length/\i= .int .i64 k/\Fd m n k ss/\Ny F w wr R (.slice a0 m.rooms.length p0) (.slice a1 m.guilds.length p1) (.slice a2 m.smiths.length p2) (.slice a3 m.desks.length p3) (.slice a4 m.paces.length p4) { m with smiths:=ss } qs) (fun i _=>m.smiths.length-(intOf i).toNat)
 case atStart=>exact ⟨0,ss0,Nat.zero_le _,rfl,uh HZ,uh HK⟩
 case round=>
  clear HZ HK
  obtain ⟨k,ss,hk0,rfl,hfd,K⟩:=hrel
  have Hfd:=Z9 hfd
  have hsl:=hfd.len
  have hok:=hfd.ok
  by_cases hk:k<m.smiths.length
  rotate_left
  ·obtain rfl:k=m.smiths.length:=by omega
   clear hfd hok
   go_wp2_with fail
   go_ret
   exact ⟨rfl,ss,uh Hfd,K⟩
  have hk1:(k:Int)<(m.smiths.length:Int):=by omega
  have hat:=Bw hfd hk
  have hst:=EH (hok k hk)
  have Hbn:=Z9 (Py (uh HLo) hk)
  clear hfd hok
  obtain ⟨g2,rfl,hg2,hg2w,hc2,hz2⟩:=RecAt.view ZW (by omega) K.full.smiths hsl.symm (show 0<ss.length by omega)
  have s0:=hc2 k (show k<ss.length by omega) 0 _ rfl
  have s1:=hc2 k (show k<ss.length by omega) 1 _ rfl
  have s2:=hc2 k (show k<ss.length by omega) 2 _ rfl
  have s3:=hc2 k (show k<ss.length by omega) 3 _ rfl
  have s4:=hc2 k (show k<ss.length by omega) 4 _ rfl
  have s5:=hc2 k (show k<ss.length by omega) 5 _ rfl
  have s6:=hc2 k (show k<ss.length by omega) 6 _ rfl
  have s7:=hc2 k (show k<ss.length by omega) 7 _ rfl
  have s8:=hc2 k (show k<ss.length by omega) 8 _ rfl
  have s9:=hc2 k (show k<ss.length by omega) 9 _ rfl
  have s10:=hc2 k (show k<ss.length by omega) 10 _ rfl
  obtain ⟨⟨st,be,rk,my,gu,lo,hi,hd,ca,ut,wk⟩,hrk⟩:∃ d,Z8 ss k=d:=⟨_,rfl⟩
  have hrk9:Z8 ({ m with smiths:=ss } : Z6).smiths k=(st,be,rk,my,gu,lo,hi,hd,ca,ut,wk):=hrk
  rw [hrk9] at s0 s1 s2 s3 s4 s5 s6 s7 s8 s9 s10
  simp only [Nat.add_zero] at s0 s1 s2 s3 s4 s5 s6 s7 s8 s9 s10
  rw [<-hat,hrk] at hst
  obtain ⟨hst0,hbe0⟩:=hst
  simp only at hst0 hbe0
  have Hst:=Z9 hst0
  have Hbe:=Z9 hbe0
  have Hss:=Z9 hrk
  have Hch:=Z9 (hat.symm.trans hrk)
  clear hc2 hz2 hrk hrk9 hat hst0 hbe0
  go_upto_region 4 with fail
  obtain ⟨W1,hW1,hba,ks⟩:=YN wr 39 (I11 st be rk my gu lo hi hd ca ut wk)
  replace K:=K.next hba
  clear hba s0 s1 s2 s3 s4 s5 s6 s7 s8 s9 s10
  rw [hW1]
  clear hW1
  generalize wr.heap.size=sb at *
  obtain ⟨fo,hfo⟩:∃ q,(if (Z8 m.smiths k).1=3 then ZI m (Z8 m.smiths k).2.1 else 0)=q:=⟨_,rfl⟩
  have Hfo:=Z9 hfo
  clear hfo
  have e0:=(uh ks).cell (i:=0) (v:= .int .i64 st) rfl
  go_upto_if 20 with fail
  clear e0
  have HKW:=Z9 K
  go_cut [7] (fun s7 wc=>s7= .int .i64 fo/\Ny F w wc R (.slice a0 m.rooms.length p0) (.slice a1 m.guilds.length p1) (.slice (some ⟨g2,0,none⟩) m.smiths.length p2) (.slice a3 m.desks.length p3) (.slice a4 m.paces.length p4) { m with smiths:=ss } qs/\Blk wc sb 39 (I11 st be rk my gu lo hi hd ca ut wk))
  case first=>
   by_cases h3:st=3
   ·subst h3
    obtain ⟨bn,hbn,hbl⟩:=uh Hbn (by rw [<-uh Hst];decide)
    have hbe:be=(bn:Int):=(uh Hbe).trans hbn
    subst hbe
    have hfo:ZI m (bn:Int)=fo:=by rw [<-uh Hfo,if_pos (uh Hst).symm,hbn]
    have Hfo2:=Z9 hfo
    clear hfo hbn
    obtain ⟨c0,c1,c2,c3,c4,c5⟩:=K.cells
    have e1:=(uh ks).cell (i:=1) (v:= .int .i64 (bn:Int)) rfl
    go_upto_region 6 with fail
    refine wp_region_held_drew (S:=fun w'=>w'.cell? ⟨R,0,none⟩=some (.slice a0 m.rooms.length p0)/\w'.cell? ⟨R,1,none⟩=some (.slice a1 m.guilds.length p1)/\w'.cell? ⟨R,2,none⟩=some (.slice (some ⟨g2,0,none⟩) m.smiths.length p2)/\w'.cell? ⟨R,3,none⟩=some (.slice a3 m.desks.length p3)/\w'.cell? ⟨R,4,none⟩=some (.slice a4 m.paces.length p4)/\w'.cell? ⟨R,5,none⟩=some (.int .i64 m.now)/\w'.cell? ⟨sb,1,none⟩=some (.int .i64 (bn:Int))) (by kernel_rfl) ⟨c0,c1,c2,c3,c4,c5,e1⟩ (fun hHeld=> ?_)
    have hdr:Below W1.heap.size W1 W1.drew:=(Below.refl _ _).drew
    replace K:=K.next hdr
    replace ks:=Z9 ((uh ks).below hdr (uh ks).lt)
    replace c0:=Z0 hdr c0
    replace c1:=Z0 hdr c1
    replace c2:=Z0 hdr c2
    replace c3:=Z0 hdr c3
    replace c4:=Z0 hdr c4
    replace c5:=Z0 hdr c5
    replace e1:=Z0 hdr e1
    clear hdr
    generalize W1.drew=W5 at *
    (refine tq 0 ?_;(try simp only [Act.put,sA,sZ,sS]))
    (refine tq 1 ?_;(try simp only [Act.put,sA,sZ,sS]))
    (refine tq 2 ?_;(try simp only [Act.put,sA,sZ,sS]))
    (refine tq 3 ?_;(try simp only [Act.put,sA,sZ,sS]))
    (refine tq 4 ?_;(try simp only [Act.put,sA,sZ,sS]))
    refine wpAnyH_ready (rs:=[5]) (by kernel_rfl) (by simp) ?_
    refine AllReadyH.cons rfl (fun K0 hK=> ?_) AllReadyH.nil
    go_simp
    refine ck (TN (m:={ m with smiths:=ss }) (uh Hfo2) K.full.smy (uh HLo) rfl rfl hbl) fun w6 h9=> ?_
    replace K:=K.next h9
    replace ks:=Z9 ((uh ks).below h9 (uh ks).lt)
    refine hK.out _ _ ⟨Z0 h9 c0,Z0 h9 c1,Z0 h9 c2,Z0 h9 c3,Z0 h9 c4,Z0 h9 c5,Z0 h9 e1⟩ (fun hHeld=> ?_)
    clear hK K0
    (try simp only [Act.put,sA,sZ,sS])
    (refine tq 6 ?_;(try simp only [Act.put,sA,sZ,sS]))
    refine wpAnyH_done (by kernel_rfl) ?_ _
    go_simp
    go_wp2_with fail
    go_meet
    exact ⟨rfl,K,uh ks⟩
   ·have h30:(st ==3)=false:=by simp [h3]
    have h31:decide (st=3)=false:=by simp [h3]
    have hf0:fo=0:=by rw [<-uh Hfo,if_neg (by rw [<-uh Hst];exact h3)]
    subst hf0
    go_wp2_with fail
    go_meet
    exact ⟨rfl,K,uh ks⟩
  case rest=>
   obtain ⟨rfl,K,hks⟩:=hcut
   have ks9:=Z9 hks
   clear hks ks HKW
   obtain ⟨fu,hfu⟩:∃ q,ZZ ut fo n=q:=⟨_,rfl⟩
   have Hfu:=Z9 hfu
   clear hfu
   have Hnx:Hid (Fd m n (k+1) (ss.set k (st,be,rk,my,gu,lo,hi,hd,ca,fu,wk))):=Z9 (by
    have hx:=CM (uh Hfd) hk
    have he:fdS m n (Z8 m.smiths k)=(st,be,rk,my,gu,lo,hi,hd,ca,fu,wk):=by
     unfold fdS
     rw [uh Hch,uh Hfo]
     show Pl _ (ZZ ut fo n)=_
     rw [uh Hfu]
     rfl
    rw [he] at hx
    exact hx)
   obtain ⟨_,_,c2,_,_,_⟩:=K.cells
   have e9:=(uh ks9).cell (i:=9) (v:= .int .i64 ut) rfl
   go_upto_region 7 with fail
   refine ZR (S:=fun w'=>w'.cell? ⟨R,2,none⟩=some (.slice (some ⟨g2,0,none⟩) m.smiths.length p2)/\w'.cell? ⟨sb,9,none⟩=some (.int .i64 ut)) (by kernel_rfl) (List.cons_ne_nil _ _) (by kernel_rfl) ⟨c2,e9⟩ (fun hHeld=> ?_)
   simp only [List.dropLast_cons_cons,List.dropLast_singleton,List.length_cons,List.length_nil,Nat.zero_add,Nat.reduceAdd]
   have hdr:Below wc.heap.size wc wc.drew:=(Below.refl _ _).drew
   replace K:=K.next hdr
   replace c2:=Z0 hdr c2
   replace e9:=Z0 hdr e9
   clear hdr
   generalize wc.drew=W5 at *
   (refine tq 0 ?_;(try simp only [Act.put,sA,sZ,sS]))
   (refine tq 1 ?_;(try simp only [Act.put,sA,sZ,sS]))
   (refine tq 2 ?_;(try simp only [Act.put,sA,sZ,sS]))
   (refine tq 3 ?_;(try simp only [Act.put,sA,sZ,sS]))
   (refine tq 4 ?_;(try simp only [Act.put,sA,sZ,sS]))
   (refine tq 5 ?_;(try simp only [Act.put,sA,sZ,sS]))
   (refine tq 6 ?_;(try simp only [Act.put,sA,sZ,sS]))
   (refine tq 7 ?_;(try simp only [Act.put,sA,sZ,sS]))
   (refine tq 8 ?_;(try simp only [Act.put,sA,sZ,sS]))
   refine wpAnyH_ready (rs:=[9]) (by kernel_rfl) (by simp) ?_
   refine AllReadyH.cons rfl (fun K0 hK=> ?_) AllReadyH.nil
   go_simp
   refine (Rw ut fo n _).mono ?_
   rw [uh Hfu]
   rintro e8 w6 ⟨rfl,h9⟩
   replace K:=K.next h9
   replace c2:=Z0 h9 c2
   replace e9:=Z0 h9 e9
   refine hK.out _ _ ⟨c2,e9⟩ (fun hHeld=> ?_)
   clear hK K0
   (try simp only [Act.put,sA,sZ,sS])
   (refine tq 10 ?_;(try simp only [Act.put,sA,sZ,sS]))
   (refine tq 11 ?_;(try simp only [Act.put,sA,sZ,sS]))
   refine wpAnyH_done (by kernel_rfl) ?_ _
   refine ZE rfl rfl ?_
   obtain ⟨_,hga,_,_,hc2,hz2⟩:=RecAt.view ZW (by omega) K.full.smiths hsl.symm (show 0<ss.length by omega)
   cases hga
   have s9:=hc2 k (show k<ss.length by omega) 9 _ rfl
   have f9:=hz2 (k*11+9)
   rw [show Z8 ({ m with smiths:=ss } : Z6).smiths k=(st,be,rk,my,gu,lo,hi,hd,ca,ut,wk) from uh Hss] at s9
   have K1:=K.putS hsl.symm (j:=k) (show k<ss.length by omega) (i:=9) (by omega) (.int .i64 fu) (st,be,rk,my,gu,lo,hi,hd,ca,fu,wk) (by rw [show Z8 ({ m with smiths:=ss } : Z6).smiths k=(st,be,rk,my,gu,lo,hi,hd,ca,ut,wk) from uh Hss];rfl)
   have HK:=Z9 K1
   clear K1 hc2 hz2 K
   go_simp
   clear hHeld
   go_wp2_with fail
   go_roundw
   case rel=>exact ⟨k+1,_,by omega,by go_num,uh Hnx,uh HK⟩
   case measure=>exact ms
end Go.Proofs.YtffcgajndmhpkaaGreatDoor
