/- Part 31 of what the proof rests on. No condition but those that a theorem names. -/
import Derived.Test.YtlcpgkakdieeaaaGreatXk22
import Derived.Test.YtlcpgkakdieeaaaGreatXk23
import Derived.Test.YtlcpgkakdieeaaaGreatXk26
set_option maxHeartbeats 8000000
set_option maxRecDepth 100000
namespace Go.Proofs.YtlcpgkakdieeaaaGreat
open Go.ChangeShapes Go.WideShapes Go.ChangeAt Go.RowKit Go.Sort
set_option linter.unusedVariables false
structure E8 (m:Z6):Prop where
 gd:Zl m.gd=true
 each:∀ i,i<m.sm.length->(Z8 m.sm i).1 ≠ 0->isB m.gd (Z8 m.sm i).2.2.2.2.1=true/\Ys (Z8 m.sm i).2.2.2.2.2.1 (Z8 m.sm i).2.2.2.2.2.2.1=true
theorem Loose.wants {m:Z6} (h:Loose m):E8 m:=by
 have hd:=h.head;unfold YO at hd;simp only [ZP,Zc] at hd;refine ⟨hd.2.1,fun i hi hs=> ?_⟩;obtain ⟨hp,hg,_⟩:=h.limits hi hs;have hgs:=hd.2.1;generalize Z8 m.sm i=s at *;obtain ⟨st,be,rk,my,gu,lo,hi,hd,ca,ut,wk⟩:=s;obtain ⟨_,_,_,_,⟨g0,g5⟩,hpair,_⟩:=Zd hp;simp only at hg;exact ⟨by unfold isB;rw [hgs,Zo g0 (by omega)];rfl,hpair⟩
def LV (m:Z6) (b:Int):Bool:=WA m.dk.length b && (Z8 m.dk b.toNat).1
open Go.ChangeShapes Go.WideShapes Go.ChangeAt Go.RowKit Go.Sort Go.Proofs.Tryz
set_option maxRecDepth 100000
theorem DL {m:Z6} {b:Int} {k:Nat} (hk:k<(ZO (atB b) m.sm m.sm.length).length):∃ i:Nat,i<m.sm.length/\Z8 (ZO (atB b) m.sm m.sm.length) k=(i:Int):=by
 obtain ⟨i,hi,e,_⟩:=(Wl (atB b) m.sm _ m.sm.length).1 (RW hk);exact ⟨i,hi,e⟩
theorem GK {w:World} {v0 v1 v2 v3 v4:Value} {m M:Z6} (b:Int) (h:Smy w v0 v1 v2 v3 v4 m) (hL:Loose M) (hM:M.sm=m.sm):Calls prog 104 #[.agg #[v0,v1,v2,v3,v4,.int .i64 m.now],.int .i64 b] w fun e w'=> ∃ v',e= .returned v'/\EntsAt w.heap.size w' v' (atV m.sm b m.sm.length)/\Below w.heap.size w w':=by
 have Hv:=Z9 ((h.alloc (.cells #[v0,v1,v2,v3,v4,.int .i64 m.now] 32)).alloc (.cells #[] 105));have HV0:=Z9 h;obtain ⟨a0,p0,a1,p1,a2,p2,a3,p3,a4,p4,rfl,rfl,rfl,rfl,rfl,_,_,_,_,_,_,_,_,_,_⟩:=h.five;clear h;have hl:m.sm.length<=1000:=by rw [<-hM];have:=(Rl hL).sm;omega
 have HL:Hid (∀ k,Yv (WL m.sm ((ZO (atB b) m.sm m.sm.length).take k))=true):=Z9 (fun k=>by have:=GI hL b k;rw [hM] at this;exact this);clear hL hM;have kb:Hid (Blk ((w.alloc (.cells (S6 a0 p0 a1 p1 a2 p2 a3 p3 a4 p4 m) 32)).alloc (.cells #[] 105)) w.heap.size 32 (S6 a0 p0 a1 p1 a2 p2 a3 p3 a4 p4 m)):=Z9 ((Blk.new w _ _).alloc _);have BB:Hid (Below w.heap.size w ((w.alloc (.cells (S6 a0 p0 a1 p1 a2 p2 a3 p3 a4 p4 m) 32)).alloc (.cells #[] 105))):=Z9 (((ba _ _)).alloc (by simp) _);have HE:Hid (EntsAt w.heap.size ((w.alloc (.cells (S6 a0 p0 a1 p1 a2 p2 a3 p3 a4 p4 m) 32)).alloc (.cells #[] 105)) (.slice (some ⟨w.heap.size+1,0,none⟩) 0 0) []):=Z9 (WV (by simp) (by simp));go_enter func104,ntmps104;go_upto_region 2 with fail;generalize (w.alloc (.cells (S6 a0 p0 a1 p1 a2 p2 a3 p3 a4 p4 m) 32)).alloc (.cells #[] 105)=W at *;obtain ⟨c0,c1,c2,c3,c4,c5⟩:=(uh kb).c6;go_wp2_with fail;refine (SQ b (uh Hv) hl).mono ?_;rintro e w1 ⟨vn,rfl,hn,hb⟩;obtain ⟨na,nc,rfl⟩:=RecAt.shape hn;have HN0:=Z9 (RecAt.mono hn (uh BB).size);have Hv1:=Z9 ((uh Hv).below hb);have kb1:=Z9 ((uh kb).below hb (uh kb).lt);have BB1:=Z9 ((uh BB).trans (hb.mono (uh BB).size));have HE1:=Z9 ((uh HE).later hb);clear hb hn c0 c1 c2 c3 c4 c5 Hv kb BB HE;have Hq:=Z9 (Tq m.sm b m.sm.length);have Hwh:=Z9 (fun k hk=>DL (m:=m) (b:=b) (k:=k) hk);have Hpq:=HL;clear HL;have hwl:=Uy (atB b) m.sm m.sm.length;generalize ZO (atB b) m.sm m.sm.length=ws at *;go_wp2_with fail
 go_loopw [5,13] (fun l i wr=> ∃ k:Nat,k<=ws.length/\i= .int .i64 k/\EntsAt w.heap.size wr l (WL m.sm (ws.take k))/\NumsAt w.heap.size wr (.slice na ws.length nc) ws/\Blk wr w.heap.size 32 (S6 a0 p0 a1 p1 a2 p2 a3 p3 a4 p4 m)/\Smy wr (.slice a0 m.rm.length p0) (.slice a1 m.gd.length p1) (.slice a2 m.sm.length p2) (.slice a3 m.dk.length p3) (.slice a4 m.pc.length p4) m/\Below w.heap.size w wr) (fun _ i _=>ws.length-(intOf i).toNat)
 case atStart=>exact ⟨0,ZC _,rfl,uh HE1,uh HN0,uh kb1,uh Hv1,uh BB1⟩
 case round=>
  obtain ⟨k,hk,rfl,he,hn,hkb,hv,hb0⟩:=hrel;obtain ⟨la,lc,rfl⟩:=EntsAt.shape he;have HE:=Z9 he;have HN:=Z9 hn;have kb:=Z9 hkb;have Hv:=Z9 hv;have BB:=Z9 hb0;clear he hn hkb hv hb0 HE1 HN0 kb1 Hv1 BB1;by_cases hlt:k<ws.length
  ·have hlt1:(k:Int)<(ws.length:Int):=by omega
   obtain ⟨g,hga,_,_,hcl,_⟩:=RecAt.view YP (by omega) (uh HN) rfl (by omega);cases hga;have z0:=hcl k hlt 0 _ rfl;simp only [Nat.mul_one,Nat.add_zero] at z0;obtain ⟨i,hi,hiw⟩:=uh Hwh k hlt;rw [hiw] at z0;have hi1:(i:Int)<(m.sm.length:Int):=by omega
   obtain ⟨_,_,hse,_,_,r2⟩:=(uh Hv).sm;cases hse
   rcases r2 with e0 | ⟨sb,off,rfl,hbw,hcs⟩
   ·rw [e0] at hi;simp at hi
   obtain ⟨_,_,_,_,_,_,_,d7,_⟩:=ZB hcs hi;have HT:Hid (WL m.sm (ws.take (k+1))=UO (WL m.sm (ws.take k)) (XK (Z8 m.sm i),(i:Int))):=Z9 (by rw [Lo hlt,QX,hiw];simp);have hq1:=uh Hpq k;have hq2:=uh Hpq (k+1);rw [uh HT] at hq2;have HQ:=Z9 (PI hq1 hq2);clear hcl hcs hq1 hq2;have e7:(Z8 m.sm i).2.2.2.2.2.2.2.1=XK (Z8 m.sm i):=rfl;rw [e7] at d7;clear e7;generalize XK (Z8 m.sm i)=hd at *;have c2:=(uh kb).cell (i:=2) (v:= .slice (some ⟨sb,off,none⟩) m.sm.length p2) rfl;go_wp2_with fail;refine (NK hd (i:Int) (uh HE).pc).mono ?_;rw [uh HQ];rintro e w2 ⟨⟨v',rfl,he⟩,hb⟩;obtain ⟨ua,uc,rfl⟩:=EntsAt.shape he;have HE2:=Z9 (he.mono (uh BB).size);replace HN:=Z9 (RecAt.later (uh HN) hb);replace kb:=bl kb hb;replace Hv:=Z9 ((uh Hv).below hb);replace BB:=bt BB hb;clear hb he c2 d7 z0;go_wp2_with fail;go_roundw
   case rel=>exact ⟨k+1,by omega,by go_num,by rw [uh HT];exact uh HE2,uh HN,uh kb,uh Hv,uh BB⟩
   case measure=>exact ms
  ·obtain rfl:k=ws.length:=by omega
   have HE3:Hid (EntsAt w.heap.size wr (.slice la (WL m.sm (ws.take ws.length)).length lc) (atV m.sm b m.sm.length)):=Z9 (by
    have h9:=uh HE;have e9:WL m.sm (ws.take ws.length)=atV m.sm b m.sm.length:=by rw [List.take_length,uh Hq]
    rw [<-e9]
    exact h9)
   go_wp2_with fail;go_ret;exact ⟨_,rfl,uh HE3,uh BB⟩
theorem JP {w:World} {v0 v1 v2 v3 v4:Value} {m:Z6} (b:Int) (h:Smy w v0 v1 v2 v3 v4 m) (hL:Loose m):Calls prog 104 #[.agg #[v0,v1,v2,v3,v4,.int .i64 m.now],.int .i64 b] w fun e w'=> ∃ v',e= .returned v'/\EntsAt w.heap.size w' v' (atV m.sm b m.sm.length)/\Below w.heap.size w w':=GK b h hL rfl
theorem DJ {w:World} {v0 v1 v2 v3 v4:Value} {m:Z6} {k:Nat} (h:Smy w v0 v1 v2 v3 v4 m) (hL:E8 m) (hk:k<m.sm.length) (hs:(Z8 m.sm k).1 ≠ 0):cB 115 #[.agg #[v0,v1,v2,v3,v4,.int .i64 m.now],.int .i64 (k:Int)] w (.int .i64 (Y8 m (k:Int))):=by
 have hw:Y8 m (k:Int)=Re m.gd (Z8 m.sm k):=rfl;rw [hw];clear hw;have Hg0:=Z9 h.gd;obtain ⟨a0,p0,rfl,_,_⟩:=IsRooms.shape h.rm;obtain ⟨a1,p1,rfl,_,_⟩:=IsRec.shape h.gd;obtain ⟨a2,p2,rfl,hc2,hm2,r2⟩:=h.sm;obtain ⟨a3,p3,rfl,_,_⟩:=IsRec.shape h.dk;obtain ⟨a4,p4,rfl,_,_⟩:=IsRec.shape h.pc;clear h;obtain ⟨hg1,hpair⟩:=hL.each k hk hs
 rcases r2 with e0 | ⟨sb,off,rfl,hbw,hcl⟩
 ·rw [e0] at hk;simp at hk
 have hk1:(k:Int)<(m.sm.length:Int):=by omega
 obtain ⟨d0,d1,d2,d3,d4,d5,d6,d7,d8,d9,d10⟩:=ZB hcl hk;clear hcl hs hL;generalize Z8 m.sm k=ss at *;obtain ⟨st,be,rk,my,gu,lo,hi,hd,ca,ut,wk⟩:=ss;simp only at d0 d1 d2 d3 d4 d5 d6 d7 d8 d9 d10 hg1 hpair;obtain ⟨nr,hnr⟩:=ZL (U6 (bnd m.gd gu) lo hi);have HW:Hid (TC m.gd gu lo hi=nr):=Z9 (by rw [<-hnr];exact Mw hg1 hpair);have HX:Hid (Re m.gd (st,be,rk,my,gu,lo,hi,hd,ca,ut,wk)=min (max ut nr.1) nr.2):=Z9 (by rw [<-hnr];rfl);rw [uh HX];clear hpair hg1 HX hnr;obtain ⟨nl,nh⟩:=nr;dsimp only;have hne:sb ≠ w.heap.size:=Vj hbw;have hbw2:sb<w.heap.size+1:=by omega
 have BB:Hid (Below w.heap.size w ((w.alloc (.cells #[.slice a0 m.rm.length p0,.slice a1 m.gd.length p1,.slice (some ⟨sb,off,none⟩) m.sm.length p2,.slice a3 m.dk.length p3,.slice a4 m.pc.length p4,.int .i64 m.now] 32)).alloc (.cells (I11 st be rk my gu lo hi hd ca ut wk) 42))):=Z9 (((ba _ _)).alloc (by simp) _)
 have ks:Hid (Blk ((w.alloc (.cells #[.slice a0 m.rm.length p0,.slice a1 m.gd.length p1,.slice (some ⟨sb,off,none⟩) m.sm.length p2,.slice a3 m.dk.length p3,.slice a4 m.pc.length p4,.int .i64 m.now] 32)).alloc (.cells (I11 st be rk my gu lo hi hd ca ut wk) 42)) (w.heap.size+1) 42 (I11 st be rk my gu lo hi hd ca ut wk)):=Z9 (by
  have k9:=Blk.new (w.alloc (.cells #[.slice a0 m.rm.length p0,.slice a1 m.gd.length p1,.slice (some ⟨sb,off,none⟩) m.sm.length p2,.slice a3 m.dk.length p3,.slice a4 m.pc.length p4,.int .i64 m.now] 32)) 42 (I11 st be rk my gu lo hi hd ca ut wk);rw [Yy] at k9
  exact k9)
 have kb:Hid (Blk ((w.alloc (.cells #[.slice a0 m.rm.length p0,.slice a1 m.gd.length p1,.slice (some ⟨sb,off,none⟩) m.sm.length p2,.slice a3 m.dk.length p3,.slice a4 m.pc.length p4,.int .i64 m.now] 32)).alloc (.cells (I11 st be rk my gu lo hi hd ca ut wk) 42)) w.heap.size 32 #[.slice a0 m.rm.length p0,.slice a1 m.gd.length p1,.slice (some ⟨sb,off,none⟩) m.sm.length p2,.slice a3 m.dk.length p3,.slice a4 m.pc.length p4,.int .i64 m.now]):=Z9 ((Blk.new w _ _).alloc _);have Hg2:=Z9 ((uh Hg0).below (uh BB));go_enter func115,ntmps115;go_upto_region 2 with fail;generalize (w.alloc (.cells #[.slice a0 m.rm.length p0,.slice a1 m.gd.length p1,.slice (some ⟨sb,off,none⟩) m.sm.length p2,.slice a3 m.dk.length p3,.slice a4 m.pc.length p4,.int .i64 m.now] 32)).alloc (.cells (I11 st be rk my gu lo hi hd ca ut wk) 42)=W at *;clear d0 d1 d2 d3 d4 d5 d6 d7 d8 d9 d10;have c1:=(uh kb).cell (i:=1) (v:= .slice a1 m.gd.length p1) rfl;have s4:=(uh ks).cell (i:=4) (v:= .int .i64 gu) rfl;have s5:=(uh ks).cell (i:=5) (v:= .int .i64 lo) rfl;have s6:=(uh ks).cell (i:=6) (v:= .int .i64 hi) rfl;go_wp2_with fail;refine (NM gu lo hi (uh Hg2)).mono ?_;rw [uh HW];rintro e w1 ⟨rfl,hb⟩;replace ks:=bl ks hb;replace BB:=bt BB hb;clear hb c1 s4 s5 s6 HW;have s9:=(uh ks).cell (i:=9) (v:= .int .i64 ut) rfl;go_wp2_with (go_at_call 145;refine (Vg _ _ _ _).mono ?_;rintro e w' ⟨rfl,h9⟩;subst w')
 go_ret;exact ⟨rfl,uh BB⟩
def VX (m:Z6) (who b:Int):Bool:=ZI m && (Wr m who && (Yz m b && YA m who b.toNat))
theorem TA {α:Type} [Inhabited α] {l:List α} {k:Nat} (h:k<l.length):l.take (k+1)=l.take k++[Z8 l k]:=by
 rw [List.take_succ_eq_append_getElem h,Qg h]
theorem CQ {m:Z6} (h:Loose m) {k:Nat} (hk:k<m.sm.length) (hs:(Z8 m.sm k).1 ≠ 0):0<=(Z8 m.sm k).2.2.2.1/\(Z8 m.sm k).2.2.2.1<=255:=by
 obtain ⟨hp,_,_⟩:=h.limits hk hs;generalize Z8 m.sm k=s at *;obtain ⟨st,be,rk,my,gu,lo,hi,hd,ca,ut,wk⟩:=s;obtain ⟨_,_,_,⟨y0,y1⟩,_⟩:=Zd hp;show 0<=my/\my<=255;omega
set_option linter.unusedSimpArgs false
def XC (m:Z6):Nat->List Int
 | 0=>[]
 | k+1=>if YD m k then XC m k++[(k:Int)] else XC m k
theorem Gf {m:Z6} {k:Nat} (h:YD m k=true):XC m (k+1)=XC m k++[(k:Int)]:=by show (if _ then _ else _)=_;rw [if_pos h]
theorem D9 {m:Z6} {k:Nat} (h:YD m k=false):XC m (k+1)=XC m k:=by show (if _ then _ else _)=_;rw [h];rfl
theorem Th (m:Z6):∀ k,(XC m k).length<=k
 | 0=>Z0 _
 | k+1=>by
  have:=Th m k;unfold XC
  split
  ·simp;omega
  ·omega
theorem LC {m:Z6} {k:Nat} (h:YD m k=true):(Z8 m.dk k).1=true:=by
 unfold YD at h;simp only [ZP] at h;exact h.1
def Ll (m:Z6) (w:Nat) (b:Int):Bool:=Vo (Z8 m.sm w).2.2.2.1 b && YG (Y8 m (w:Int)) 0 (Zw m.rm b)
def Nz (m:Z6) (w:Nat) (l:List Int):Option (Nat × Int):=(l.find? (Ll m w)).map fun b=>(w,b)
def Qz:Nat × Nat->Nat × Int:=fun p=>(p.1,(p.2:Int))
def TV:Option (Nat × Int)->Value
 | none=> .agg #[.int .i64 0,.int .i64 0,.bool false]
 | some (w,b)=> .agg #[.int .i64 (w:Int),.int .i64 b,.bool true]
theorem BG {l:List Int} {p:Int->Bool} {j:Nat} (hj:j<l.length) (h0:(l.take j).find? p=none) (h:p (Z8 l j)=false):(l.take (j+1)).find? p=none:=by
 rw [TA hj,List.find?_append,h0];simp [h]
theorem Cr {l:List Int} {p:Int->Bool} {j:Nat} (hj:j<l.length) (h0:(l.take j).find? p=none) (h:p (Z8 l j)=true):l.find? p=some (Z8 l j):=by
 have e:l.find? p=(l.take (j+1)++l.drop (j+1)).find? p:=by rw [List.take_append_drop]
 rw [e,List.find?_append,TA hj,List.find?_append,h0];simp [h]
theorem Lw {m:Z6} {w:Nat} (hm:∀ b:Nat,b<m.dk.length->Vo (Z8 m.sm w).2.2.2.1 (b:Int)=Wc (Z8 m.sm w).2.2.2.1 (b:Int)):∀ n,n<=m.dk.length->(XC m n).find? (Ll m w)=(Xz m w n).map (fun b=>(b:Int))
 | 0,_=>rfl
 | n+1,hn=>by
  have ih:=Lw hm n (by omega);unfold XC Xz;cases hi:YD m n
  ·rw [if_neg (by simp),ih]
   cases hg:Xz m w n with
   | some b=>rfl
   | none=>simp [Vc,hi]
  ·rw [if_pos rfl,List.find?_append,ih]
   cases hg:Xz m w n with
   | some b=>rfl
   | none=>
    have e:Ll m w (n:Int)=Vc m w n:=by
     unfold Ll Vc YA;rw [hm n (by omega),hi,LC hi,Zr];rfl
    simp only [Option.map_none,Option.none_or,List.find?_cons,List.find?_nil,e];cases Vc m w n<;>rfl
theorem Cz {m:Z6} {w:Nat} (hm:∀ b:Nat,b<m.dk.length->Vo (Z8 m.sm w).2.2.2.1 (b:Int)=Wc (Z8 m.sm w).2.2.2.1 (b:Int)) (h:VE m w=true):Nz m w (XC m m.dk.length)=(VY m w).map fun b=>(w,(b:Int)):=by
 unfold Nz VY;rw [Lw hm _ (Nat.le_refl _),if_pos h,Option.map_map];rfl
def wtP (m:Z6) (b:Int) (w:Nat):Bool:=(Z8 m.sm w).1 ==2 && Vo (Z8 m.sm w).2.2.2.1 b
def Rg (m:Z6) (b:Int):Nat->Option Nat
 | 0=>none
 | k+1=>match Rg m b k with
  | some w=>some w
  | none=>if wtP m b k then some k else none
def Kp (m:Z6) (b:Int):Option (Nat × Int):=(Rg m b m.sm.length).map fun w=>(w,b)
theorem Cb {m:Z6} {b:Int} {k:Nat} (h0:Rg m b k=none) (h:wtP m b k=false):Rg m b (k+1)=none:=by unfold Rg;rw [h0,h];rfl
theorem Bm {m:Z6} {b:Int} {k n:Nat} (h0:Rg m b k=none) (h:wtP m b k=true) (hn:k<n):Rg m b n=some k:=by
 obtain ⟨d,rfl⟩:∃ d,n=k+1+d:=⟨n-(k+1),by omega⟩
 clear hn
 induction d with
 | zero=>show Rg m b (k+1)=_;unfold Rg;rw [h0,h];rfl
 | succ d ih=>
  show Rg m b (k+1+d+1)=_;unfold Rg;rw [ih]
theorem BP {l:List Int} {f:Int->Option (Nat × Int)} {j:Nat} (hj:j<l.length) (h0:(l.take j).findSome? f=none) (h:f (Z8 l j)=none):(l.take (j+1)).findSome? f=none:=by
 rw [TA hj,List.findSome?_append,h0];simp [h]
theorem Dv {l:List Int} {f:Int->Option (Nat × Int)} {j:Nat} {r:Nat × Int} (hj:j<l.length) (h0:(l.take j).findSome? f=none) (h:f (Z8 l j)=some r):l.findSome? f=some r:=by
 have e:l.findSome? f=(l.take (j+1)++l.drop (j+1)).findSome? f:=by rw [List.take_append_drop]
 rw [e,List.findSome?_append,TA hj,List.findSome?_append,h0];simp [h]
def Cd (m:Z6):Prop:= ∀ w:Nat,w<m.sm.length->(Z8 m.sm w).1 ≠ 0-> ∀ b:Nat,b<m.dk.length->Vo (Z8 m.sm w).2.2.2.1 (b:Int)=Wc (Z8 m.sm w).2.2.2.1 (b:Int)
theorem CR {m:Z6} (h:Loose m):Cd m:=fun w hw hs b hb=>by
 have y:=CQ h hw hs;have h8:=h.sane.eight;unfold Vo;rw [Zo y.1 y.2,Zo (show (0:Int)<=(b:Int) by omega) (show (b:Int)<=7 by omega)];rfl
theorem Bw {m:Z6} (hm:Cd m) {b:Nat} (hb:b<m.dk.length) (hi:YD m b=true):∀ k,k<=m.sm.length->Rg m (b:Int) k=Xh m b k
 | 0,_=>rfl
 | k+1,hk=>by
  unfold Rg Xh;rw [Bw hm hb hi k (by omega)]
  have e:wtP m (b:Int) k=Ux m k b:=by
   unfold wtP Ux YA;rw [Zr,LC hi];by_cases h2:(Z8 m.sm k).1=2
   ·rw [hm k (by omega) (by omega) b hb];rfl
   ·have:((Z8 m.sm k).1 ==2)=false:=beq_eq_false_iff_ne.mpr h2
    rw [this];rfl
  rw [e];rfl
theorem DM {m:Z6} (hm:Cd m):∀ n,n<=m.dk.length->(XC m n).findSome? (Kp m)=(Yp m n).map Qz
 | 0,_=>rfl
 | n+1,hn=>by
  have ih:=DM hm n (by omega);unfold XC Yp;cases hi:YD m n
  ·rw [if_neg (by simp),ih]
   cases hg:Yp m n with
   | some b=>rfl
   | none=>simp [Uk,hi]
  ·rw [if_pos rfl,List.findSome?_append,ih]
   cases hg:Yp m n with
   | some b=>rfl
   | none=>
    unfold Uk;rw [if_pos hi];simp only [Option.map_none,Option.none_or,List.findSome?_cons,List.findSome?_nil];unfold Kp;rw [Bw hm (by omega) hi _ (Nat.le_refl _)];cases Xh m n m.sm.length<;>rfl
theorem CX {m:Z6} {k:Nat} (h0:XY m k=none) (h:VE m k=false):XY m (k+1)=none:=by unfold XY VY;rw [h0,h];rfl
theorem CU {m:Z6} {k:Nat} (h0:XY m k=none) (h:VY m k=none):XY m (k+1)=none:=by unfold XY;rw [h0,h];rfl
theorem CY {m:Z6} {k b n:Nat} (h0:XY m k=none) (h:VY m k=some b) (hn:k<n):XY m n=some (k,b):=Jp (k:=k+1) (by unfold XY;rw [h0,h];rfl) hn
theorem CV {m:Z6} (hr:ZI m=true) {n:Nat} (hn:n=m.sm.length) {q:Option (Nat × Nat)} (h:XY m n=q):Zb m=q:=by unfold Zb;rw [if_pos hr,<-hn,h]
theorem Jq {m:Z6} {r:Nat × Nat} (h:Zb m=some r):Yf m=some r:=by unfold Yf;rw [h]
theorem Eu {m:Z6} (h:Zb m=none):Yf m=YZ m:=by unfold Yf;rw [h]
def Pp (m:Z6) (i:Nat):Prop:=i<m.sm.length/\VE m i=false
def AU (m:Z6) (K:Nat->Prop) (i:Nat):Prop:= ∃ r,Zb m=some r/\(i=r.1\/K i)
theorem Es (m:Z6) (w b:Nat):(XZ m w b).sm.length=m.sm.length:=by
 unfold XZ;rw [show (ZJ (VM m w b)).sm.length=(VM m w b).sm.length from (Zx _ _).2.2.2.2.1,XF]
theorem GS {m:Z6} {w b:Nat} (h:Yf m=some (w,b)) {K:Nat->Prop} (hK:∀ i,K i->Pp m i):∀ i,AU m K i->Pp (XZ m w b) i:=by
 rintro i ⟨r,hr,hi⟩;rw [Jq hr] at h;cases h;have mv:=RS hr;have hwl:=mv.who;unfold Pp;rw [Es]
 rcases hi with hi | hk
 ·have hi:i=w:=hi
  rw [hi];refine ⟨hwl,?_⟩;unfold XZ;rw [OP _ (by rw [XF];exact hwl)]
  rcases mv.why with ⟨_,hf⟩ | h2
  ·exact Oi hwl hf
  ·obtain ⟨_,h5,h6,h7⟩:=SF (show XY m m.sm.length=some (w,b) from by unfold Zb at hr;rw [if_pos mv.right] at hr;exact hr)
   unfold Vc at h7;simp only [ZP] at h7;exact Oi hwl h7.2.2
 ·obtain ⟨hl,hs⟩:=hK i hk
  refine ⟨hl,?_⟩;by_cases e:i=w
  ·subst e
   obtain ⟨_,h5,_⟩:=SF (show XY m m.sm.length=some (i,b) from by unfold Zb at hr;rw [if_pos mv.right] at hr;exact hr);rw [hs] at h5;cases h5
  ·unfold XZ
   rw [OP _ (by rw [XF];exact hl),FE hwl e];exact hs
set_option maxRecDepth 100000
theorem IZ {w:World} {v0 v1 v2 v3 v4:Value} {m:Z6} {b:Int} {q:Bool} (hq:LV m b=q) (h:Smy w v0 v1 v2 v3 v4 m):cB 150 #[.agg #[v0,v1,v2,v3,v4,.int .i64 m.now],.int .i64 b] w (.bool q):=by
 have Hq:=Z9 hq;clear hq;obtain ⟨a0,p0,a1,p1,a2,p2,a3,p3,a4,p4,rfl,rfl,rfl,rfl,rfl,K⟩:=Bx.new h;clear h;go_enter func150,ntmps150;go_wp2_with fail;generalize w.alloc (.cells (S6 a0 p0 a1 p1 a2 p2 a3 p3 a4 p4 m) 32)=W at *;refine ck (Pw _ _ _ _ _ _ _ _ _ _ _ _ _ _ _ _ _) fun w2 hb=> ?_;replace K:=K.next hb;clear hb;obtain ⟨qh,Hh⟩:=Yt (WA m.dk.length b);go_wp2_with fail;refine (Sn _ _ _ b _).mono ?_;rw [uh Hh];rintro e w3 ⟨rfl,h9⟩;subst w3;cases qh
 ·obtain rfl:q=false:=by rw [<-uh Hq];unfold LV;rw [uh Hh];rfl
  go_wp2_with fail;go_ret;exact ⟨rfl,K.bb⟩
 have hbb:0<=b/\b<(m.dk.length:Int):=by have:=uh Hh;unfold WA at this;simpa using this
 obtain ⟨k,rfl⟩:∃ k:Nat,b=k:=⟨b.toNat,by omega⟩
 have hk:k<m.dk.length:=by omega
 have hk1:(k:Int)<(m.dk.length:Int):=by omega
 obtain ⟨_,_,hde,_,_,r3⟩:=K.smy.dk;cases hde
 rcases r3 with e0 | ⟨db,off,rfl,hbw,hcl⟩
 ·rw [e0] at hk;simp at hk
 obtain ⟨d0,d1,d2⟩:=Zg hcl hk;have hq2:(Z8 m.dk k).1=q:=by rw [<-uh Hq];unfold LV;rw [uh Hh,Zr];rfl
 clear hcl Hq;generalize Z8 m.dk k=dd at *;obtain ⟨op,wo,mk⟩:=dd;simp only at d0 d1 d2 hq2;subst hq2;obtain ⟨c0,c1,c2,c3,c4,c5⟩:=K.cells;go_wp2_with fail;refine ck (Rn op wo mk _) fun w4 hb=> ?_;replace K:=K.next hb;clear hb c0 c1 c2 c3 c4 c5 d0 d1 d2;go_wp2_with fail;go_ret;exact ⟨rfl,K.bb⟩
open Go.ChangeShapes Go.WideShapes Go.ChangeAt Go.RowKit Go.Sort Go.Shelf Go.Proofs.Tryz
set_option maxRecDepth 100000
def I5 (m:Z6) (b:Int):Bool:=LV m b && decide ((atV m.sm b m.sm.length).length=0)
theorem Ea {m:Z6} {k:Nat} (hk:k<m.dk.length):I5 m (k:Int)=YD m k:=by
 unfold I5 YD LV WA;rw [Zr];have h1:(0:Int)<=(k:Int):=by omega
 have h2:(k:Int)<(m.dk.length:Int):=by omega
 simp [h1,hk]
theorem K7 (ss:List Z2) (ps:List Int):(WL ss ps).length=ps.length:=by
 have key:∀ (ps:List Int) (q:List Z4),(ps.foldl (fun q i=>UO q (XK (Z8 ss i.toNat),i)) q).length=q.length+ps.length:=by
  intro ps
  induction ps with
  | nil=>intro q;simp
  | cons i ps ih=>intro q;rw [List.foldl_cons,ih,JL];simp;omega
 have:=key ps [];unfold WL;simpa using this
theorem Gh {w:World} {v0 v1 v2 v3 v4:Value} {m:Z6} {b:Int} {q:Bool} (hq:I5 m b=q) (h:Smy w v0 v1 v2 v3 v4 m) (hl:m.sm.length<=1000):cB 113 #[.agg #[v0,v1,v2,v3,v4,.int .i64 m.now],.int .i64 b] w (.bool q):=by
 have Hq:=Z9 hq;clear hq;obtain ⟨a0,p0,a1,p1,a2,p2,a3,p3,a4,p4,rfl,rfl,rfl,rfl,rfl,K⟩:=Bx.new h;clear h;obtain ⟨ob,Hob⟩:=Yt (LV m b);go_enter func113,ntmps113;go_wp2_with fail;generalize w.alloc (.cells (S6 a0 p0 a1 p1 a2 p2 a3 p3 a4 p4 m) 32)=W at *;refine ck (IZ (uh Hob) K.smy) fun w2 hb=> ?_;replace K:=K.next hb;clear hb;cases ob
 ·obtain rfl:q=false:=by rw [<-uh Hq];unfold I5;rw [uh Hob];rfl
  go_wp2_with fail;go_ret;exact ⟨rfl,K.bb⟩
 obtain ⟨c0,c1,c2,c3,c4,c5⟩:=K.cells;go_wp2_with fail;clear c0 c1 c2 c3 c4 c5;refine (SQ b K.smy hl).mono ?_;rintro e w5 ⟨v',rfl,he,hb⟩;obtain ⟨ua,uc,rfl⟩:=RecAt.shape he;clear he;replace K:=K.next hb;clear hb
 have HQ:Hid (q=decide ((ZO (atB b) m.sm m.sm.length).length=0)):=Z9 (by
  rw [<-uh Hq];unfold I5;rw [uh Hob,Bool.true_and,<-Tq,K7])
 generalize ZO (atB b) m.sm m.sm.length=ws at *;go_wp2_with fail;go_ret;exact ⟨Z5 (by rw [uh HQ,Bool.eq_iff_iff];simp only [beq_iff_eq,Zc];omega),K.bb⟩
theorem ND {w:World} {v0 v1 v2 v3 v4:Value} {m:Z6} (h:Smy w v0 v1 v2 v3 v4 m) (hl:m.sm.length<=1000) (hd:m.dk.length<=1000):Calls prog 77 #[.agg #[v0,v1,v2,v3,v4,.int .i64 m.now]] w fun e w'=> ∃ v',e= .returned v'/\NumsAt w.heap.size w' v' (XC m m.dk.length)/\Below w.heap.size w w':=by
 have Hs:=Z9 h;obtain ⟨a0,p0,a1,p1,a2,p2,a3,p3,a4,p4,rfl,rfl,rfl,rfl,rfl,K⟩:=Bx.new h;clear h;go_enter func77,ntmps77;go_wp2_with fail
 go_loopw [3,9] (fun l i wr=> ∃ k:Nat,k<=m.dk.length/\i= .int .i64 k/\NumsAt (w.heap.size+1) wr l (XC m k)/\Bx w wr w.heap.size a0 p0 a1 p1 a2 p2 a3 p3 a4 p4 m) (fun _ i _=>m.dk.length-(intOf i).toNat)
 case atStart=>exact ⟨0,ZC _,rfl,YW (by simp) (Z0 _),K.alloc _⟩
 case round=>
  obtain ⟨k,hk,rfl,hln,hK⟩:=hrel;clear K;have K:=hK;clear hK;obtain ⟨la,lc,rfl⟩:=RecAt.shape hln;have HL:=Z9 hln;have hfl:=Th m k;clear hln;by_cases hlt:k<m.dk.length
  ·have hlt1:(k:Int)<(m.dk.length:Int):=by omega
   obtain ⟨q,hq⟩:=ZL (YD m k);have HY:=Z9 (fun hh:YD m k=true=>Gf hh);have HN:=Z9 (fun hh:YD m k=false=>D9 hh);have HB:=Z9 (fun (X:World) (hX:Smy X (.slice a0 m.rm.length p0) (.slice a1 m.gd.length p1) (.slice a2 m.sm.length p2) (.slice a3 m.dk.length p3) (.slice a4 m.pc.length p4) m)=>Gh (b:=(k:Int)) ((Ea hlt).trans hq) hX hl);have Hq:=Z9 hq;clear hq;obtain ⟨c0,c1,c2,c3,c4,c5⟩:=K.cells;go_wp2_with fail;refine ck (uh HB _ K.smy) fun w1 hb=> ?_;replace K:=K.next hb;replace HL:=Z9 (RecAt.later (uh HL) hb);clear hb c0 c1 c2 c3 c4 c5 HB;cases q
   ·go_wp2_with fail
    go_roundw
    case rel=>exact ⟨k+1,by omega,by go_num,by rw [uh HN (uh Hq)];exact uh HL,K⟩
    case measure=>exact ms
   ·have hsx:=K.blk.lt
    go_wp2_with (at_builtin;refine ZH tyN rfl (.tmp 15) (.tmp 17) 30 underlying30 rfl (w.heap.size+1) _ _ (XC m k) [(k:Int)] rfl rfl (RecAt.later (uh HL) ((ba _ _))) (Vs (k:Int) rfl (Z0 _) (by omega)) (by simp;omega) (by simp;omega) ?_;intro u9 w9 hp9 hg9 hat9;have HP9:=Z9 hp9;have HG9:=Z9 hg9;clear hp9 hg9 hat9)
    have hgo:∀ i,(Value.slice la (XC m k).length lc).ownBlock=some i->w.heap.size<=i/\i ≠ w.heap.size:=fun i e=>by have:=(RecAt.lt (uh HL) e).1;omega
    replace K:=(K.alloc _).grown (uh Hs) (uh HG9) hgo;go_wp2_with fail;go_roundw
    case rel=>exact ⟨k+1,by omega,by go_num,by rw [uh HY (uh Hq)];exact uh HP9,K⟩
    case measure=>exact ms
  ·obtain rfl:k=m.dk.length:=by omega
   go_wp2_with fail;go_ret;exact ⟨_,rfl,RecAt.mono (uh HL) (Nat.le_succ _),K.bb⟩
theorem QJ {w:World} {v0 v1 v2 v3 v4:Value} {m:Z6} {k:Nat} {b:Int} {q:Bool} (hq:YG (Y8 m (k:Int)) 0 (Zw m.rm b)=q) (h:Smy w v0 v1 v2 v3 v4 m) (hL:E8 m) (hk:k<m.sm.length) (hs:(Z8 m.sm k).1 ≠ 0):cB 79 #[.agg #[v0,v1,v2,v3,v4,.int .i64 m.now],.int .i64 (k:Int),.int .i64 b] w (.bool q):=by
 obtain ⟨a0,p0,a1,p1,a2,p2,a3,p3,a4,p4,rfl,rfl,rfl,rfl,rfl,K⟩:=Bx.new h;clear h;go_enter func79,ntmps79;go_upto_region 1 with fail;generalize w.alloc (.cells (S6 a0 p0 a1 p1 a2 p2 a3 p3 a4 p4 m) 32)=W at *;have HN:=Z9 (fun (X:World) (hX:Below W.heap.size W X)=>DJ (k:=k) (K.smy.below hX) hL hk hs);have HF:=Z9 (fun (X:World) (hX:Below W.heap.size W X)=>O9 b (K.smy.below hX).rm);generalize Y8 m (k:Int)=wt at *;generalize Zw m.rm b=fo at *;have HQ:=Z9 (fun (X:World)=>Calls.bool_of (NG wt 0 fo X) hq);clear hq hs hL;obtain ⟨c0,c1,c2,c3,c4,c5⟩:=K.cells;have k0:=ZY c0;have k1:=ZY c1;have k2:=ZY c2;have k3:=ZY c3;have k4:=ZY c4;have k5:=ZY c5;refine wq ?_
 repeat (go_big_quiet_step (first | exact ZX (uh HN _ (Z1 _ _ _)) | exact ZX (uh HF _ (Z1 _ _ _)) | exact ZX (uh HQ _)))
 refine wpQuiet_nil ?_;intro _ hw';obtain ⟨⟨dq,osq⟩,hw''⟩:=hw';subst hw'';go_wp2_with fail;go_ret;exact ⟨rfl,K.bb.trans ((Z1 _ _ _).mono K.bb.size)⟩
theorem Ot (x y:Int) (f:Bool) (w:World):(Op.equalIn 10000 58 (.agg #[.int .i64 x,.int .i64 y,.bool f]) (.agg #[.int .i64 0,.int .i64 0,.bool false])).run prog w= .ok (x ==0 && (y ==0 && !f)) w:=by
 have u:=underlying2;have a:=Tryz.isAgg2;have z:=Tryz.sizeOf2;have u4:=underlying4;have a4:=Tryz.isAgg4;have z4:=Tryz.sizeOf4;have hS:prog.underlying 58=some (.struct (prog.fieldsOf 58)):=by kernel_rfl
 have hp:prog.stoodInHeld 58=false:=by kernel_rfl
 rw [show (10000:Nat)=9999+1 from rfl,run_equalIn_agg w 9999 58 _ _ hS hp];simp only [Program.fieldsOf,underlying58];go_simp;by_cases h0:x=0;rotate_left
 ·simp [h0]
 subst h0;by_cases h1:y=0;rotate_left
 ·simp [h1]
 subst h1;cases f<;>simp
theorem Qj (w:World):(binOp .neq 58 (.agg #[.int .i64 0,.int .i64 0,.bool false]) (.agg #[.int .i64 0,.int .i64 0,.bool false])).run prog w= .ok (.bool false) w:=by
 rw [run_neq_struct,Ot];rfl
theorem Qk (x y:Int) (w:World):(binOp .neq 58 (.agg #[.int .i64 x,.int .i64 y,.bool true]) (.agg #[.int .i64 0,.int .i64 0,.bool false])).run prog w= .ok (.bool true) w:=by
 rw [run_neq_struct,Ot];simp
abbrev Z3:Array Value:=#[.int .i64 0,.int .i64 0,.bool false]
theorem RY {w W:World} {R:Nat} (h:Below w.heap.size w W) (hR:w.heap.size<=R) (a b c:Value):Below w.heap.size w (((W.setCell ⟨R,0,none⟩ a).setCell ⟨R,1,none⟩ b).setCell ⟨R,2,none⟩ c):=((h.setCell (p:=⟨R,0,none⟩) hR a).setCell (p:=⟨R,1,none⟩) hR b).setCell (p:=⟨R,2,none⟩) hR c
theorem TY (x y:Int) (f:Bool) (w:World):cB 36 #[.agg #[.int .i64 x,.int .i64 y,.bool f]] w (.tuple #[.int .i64 x,.int .i64 y,.bool f]):=by
 go_enter func36,ntmps36;go_upto_region 1 with fail;have kb:=Z9 (Blk.new w 58 #[.int .i64 x,.int .i64 y,.bool f]);have BB:Hid (Below w.heap.size w (w.alloc (.cells #[.int .i64 x,.int .i64 y,.bool f] 58))):=Z9 ((ba _ _));generalize w.alloc (.cells #[.int .i64 x,.int .i64 y,.bool f] 58)=W at *;obtain ⟨c0,c1,c2⟩:=(uh kb).c3;have k0:=ZY c0;have k1:=ZY c1;have k2:=ZY c2;refine wq ?_
 repeat (go_big_quiet_step (fail))
 refine wpQuiet_nil ?_;intro _ hw';obtain ⟨⟨dq,osq⟩,hw''⟩:=hw';subst hw'';go_wp2_with fail;refine ZE (v:= .tuple #[.int .i64 x,.int .i64 y,.bool f]) (by simp [results,results36,go_sem]) rfl ⟨rfl,(uh BB).trans ((Z1 _ _ _).mono (uh BB).size)⟩
theorem Ln {w:World} {v0 v1 v2 v3 v4 v:Value} {m:Z6} {k n0:Nat} {bs:List Int} {r:Option (Nat × Int)} (hr:Nz m k bs=r) (h:Smy w v0 v1 v2 v3 v4 m) (hL:E8 m) (hk:k<m.sm.length) (hs:(Z8 m.sm k).1 ≠ 0) (hf:NumsAt n0 w v bs) (hl:bs.length<=1000):cB 80 #[.agg #[v0,v1,v2,v3,v4,.int .i64 m.now],.int .i64 (k:Int),v] w (TV r):=by
 obtain ⟨ua,uc,rfl⟩:=RecAt.shape hf;have Hr:=Z9 hr;clear hr;obtain ⟨a0,p0,a1,p1,a2,p2,a3,p3,a4,p4,rfl,rfl,rfl,rfl,rfl,K⟩:=Bx.new h;clear h;have HW:=Z9 (fun (X:World) (b:Int) (q:Bool) (hq:YG (Y8 m (k:Int)) 0 (Zw m.rm b)=q) (hX:Smy X (.slice a0 m.rm.length p0) (.slice a1 m.gd.length p1) (.slice a2 m.sm.length p2) (.slice a3 m.dk.length p3) (.slice a4 m.pc.length p4) m)=>QJ hq hX hL hk hs);clear hL hs;go_enter func80,ntmps80;go_upto_region 1 with fail;replace K:=K.alloc (.cells Z3 58)
 have kr:Hid (Blk ((w.alloc (.cells (S6 a0 p0 a1 p1 a2 p2 a3 p3 a4 p4 m) 32)).alloc (.cells Z3 58)) (w.heap.size+1) 58 Z3):=Z9 (by
  have k:=Blk.new (w.alloc (.cells (S6 a0 p0 a1 p1 a2 p2 a3 p3 a4 p4 m) 32)) 58 Z3;rw [Yy] at k
  exact k)
 have H0:Hid (NumsAt n0 ((w.alloc (.cells (S6 a0 p0 a1 p1 a2 p2 a3 p3 a4 p4 m) 32)).alloc (.cells Z3 58)) (.slice ua bs.length uc) bs):=Z9 (RecAt.later hf (((ba _ _)).alloc (by simp) _));clear hf;generalize (w.alloc (.cells (S6 a0 p0 a1 p1 a2 p2 a3 p3 a4 p4 m) 32)).alloc (.cells Z3 58)=W at *;go_wp2_with fail
 go_loopw [11] (fun i wr=> ∃ j:Nat,j<=bs.length/\i= .int .i64 j/\(bs.take j).find? (Ll m k)=none/\Bx w wr w.heap.size a0 p0 a1 p1 a2 p2 a3 p3 a4 p4 m/\Blk wr (w.heap.size+1) 58 Z3/\Below W.heap.size W wr) (fun i _=>bs.length-(intOf i).toNat)
 case atStart=>exact ⟨0,ZC _,rfl,rfl,K,uh kr,ZZ _ _⟩
 case round=>
  obtain ⟨j,hj,rfl,hno,hK,hkr,hb⟩:=hrel;clear K kr;have K:=hK;have kr:=Z9 hkr;have HU:=Z9 (RecAt.later (uh H0) hb);have BB:=Z9 hb;have Hno:=Z9 hno;clear hb hK hkr hno;by_cases hlt:j<bs.length;rotate_left
  ·obtain rfl:j=bs.length:=by omega
   obtain rfl:r=none:=by rw [<-uh Hr];unfold Nz;have:=uh Hno;rw [List.take_length] at this;rw [this];rfl
   obtain ⟨o0,o1,o2⟩:=(uh kr).c3;obtain ⟨f0,f1,f2⟩:=(uh kr).f3;go_wp2_with fail;refine ZE (v:= .agg #[.int .i64 0,.int .i64 0,.bool false]) (by simp [results,results80,go_sem, *]) rfl ⟨rfl,RY K.bb (Nat.le_succ _) _ _ _⟩
  have hlt1:(j:Int)<(bs.length:Int):=by omega
  have HNo:=Z9 (fun hh:Ll m k (Z8 bs j)=false=>BG hlt (uh Hno) hh);have HYe:=Z9 (fun hh:Ll m k (Z8 bs j)=true=>Cr hlt (uh Hno) hh);clear Hno;obtain ⟨g,rfl,hgl,hgw,hcl,_⟩:=RecAt.view YP (by omega) (uh HU) rfl (by omega);have z0:=hcl j hlt 0 _ rfl;simp only [Nat.mul_one,Nat.add_zero] at z0;clear hcl;generalize hx:Z8 bs j=bx at *;clear hx;obtain ⟨_,_,hse,_,_,r2⟩:=K.smy.sm;cases hse
  rcases r2 with e0 | ⟨sb,off,rfl,hbw,hcs⟩
  ·rw [e0] at hk;simp at hk
  obtain ⟨d0,d1,d2,d3,d4,d5,d6,d7,d8,d9,d10⟩:=ZB hcs hk;clear hcs d0 d1 d2 d4 d5 d6 d7 d8 d9 d10;have hk1:(k:Int)<(m.sm.length:Int):=by omega
  obtain ⟨mb,hmb⟩:=ZL (Vo (Z8 m.sm k).2.2.2.1 bx);obtain ⟨fb,hfb⟩:=ZL (YG (Y8 m (k:Int)) 0 (Zw m.rm bx));have hst:Ll m k bx=(mb && fb):=by unfold Ll;rw [hmb,hfb]
  rw [hst] at HNo HYe;clear hst;have Hmb:=Z9 hmb;have Hfb:=Z9 hfb;clear hmb hfb;generalize hmy:(Z8 m.sm k).2.2.2.1=my at *;clear hmy;obtain ⟨c0,c1,c2,c3,c4,c5⟩:=K.cells;go_wp2_with fail;refine (WB my bx _).mono ?_;rw [uh Hmb];rintro e w1 ⟨rfl,h9⟩;subst w1;cases mb
  ·go_wp2_with fail
   go_roundw
   case rel=>exact ⟨j+1,by omega,by go_num,uh HNo rfl,K,uh kr,uh BB⟩
   case measure=>exact ms
  go_wp2_with fail;refine ck (uh HW _ bx fb (uh Hfb) K.smy) fun w2 hb=> ?_;replace K:=K.next hb;replace kr:=bl kr hb;replace BB:=bt BB hb;clear hb c0 c1 c2 c3 c4 c5 z0 HU d3;cases fb
  ·go_wp2_with fail
   go_roundw
   case rel=>exact ⟨j+1,by omega,by go_num,uh HNo rfl,K,uh kr,uh BB⟩
   case measure=>exact ms
  obtain rfl:r=some (k,bx):=by rw [<-uh Hr];unfold Nz;rw [uh HYe rfl];rfl
  obtain ⟨o0,o1,o2⟩:=(uh kr).c3;obtain ⟨f0,f1,f2⟩:=(uh kr).f3;go_wp2_with fail;refine ZE (v:= .agg #[.int .i64 (k:Int),.int .i64 bx,.bool true]) (by simp [results,results80,go_sem, *]) rfl ⟨rfl,RY K.bb (Nat.le_succ _) _ _ _⟩
set_option maxRecDepth 100000
theorem AW (st be rk my gu lo hi hd ca ut wk:Int):atB be (st,be,rk,my,gu,lo,hi,hd,ca,ut,wk)=ZQ (st,be,rk,my,gu,lo,hi,hd,ca,ut,wk):=by unfold atB ZQ;simp
attribute [local go_sem ↓] Qj Qk
theorem QR {w:World} {v0 v1 v2 v3 v4 mv:Value} {m:Z6} {S:Nat->Bool} {r:Option (Nat × Nat)} (hr:Zb m=r) (h:Smy w v0 v1 v2 v3 v4 m) (hm:ZI m=true) (hM:Mv w mv S) (hS:∀ i,S i=true->Pp m i):cB 37 #[.agg #[v0,v1,v2,v3,v4,.int .i64 m.now],mv] w (TV (r.map Qz)):=by
 have Hr:=Z9 hr;clear hr;have hlo:=ZM hm;have Hm:=Z9 hm;have HLo:=Z9 hlo;have hmay:=CR hlo;have h12:=Zj hlo;have h8:m.dk.length<=8:=hlo.sane.eight;have HS:=Z9 hS;have hMr:∀ X,Below w.heap.size w X->Mv X mv S:=fun X hX=>hM.below hX;have HMr:=Z9 hMr;clear hS hM hm hMr;obtain ⟨a0,p0,a1,p1,a2,p2,a3,p3,a4,p4,rfl,rfl,rfl,rfl,rfl,K⟩:=Bx.new h;clear h;have HId:=Z9 (fun (X:World) (hX:Smy X (.slice a0 m.rm.length p0) (.slice a1 m.gd.length p1) (.slice a2 m.sm.length p2) (.slice a3 m.dk.length p3) (.slice a4 m.pc.length p4) m)=>ND hX (by omega) (by omega));have HSg:=Z9 (fun (X:World) (k:Nat) (b:Int) (q:Bool) (hq:YG (Y8 m (k:Int)) 0 (Zw m.rm b)=q) (hk:k<m.sm.length) (hs:(Z8 m.sm k).1 ≠ 0) (hX:Smy X (.slice a0 m.rm.length p0) (.slice a1 m.gd.length p1) (.slice a2 m.sm.length p2) (.slice a3 m.dk.length p3) (.slice a4 m.pc.length p4) m)=>QJ hq hX hlo.wants hk hs);have HSt:=Z9 (fun (X:World) (v:Value) (n0 k:Nat) (bs:List Int) (rr:Option (Nat × Int)) (hr:Nz m k bs=rr) (hk:k<m.sm.length) (hs:(Z8 m.sm k).1 ≠ 0) (hf:NumsAt n0 X v bs) (hl:bs.length<=1000) (hX:Smy X (.slice a0 m.rm.length p0) (.slice a1 m.gd.length p1) (.slice a2 m.sm.length p2) (.slice a3 m.dk.length p3) (.slice a4 m.pc.length p4) m)=>Ln hr hX hlo.wants hk hs hf hl);have HMis:=Z9 (fun (k:Nat) (hk:k<m.sm.length) (hp:ZQ (Z8 m.sm k)=true) (hh:VE m k=true)=>Cz (m:=m) (w:=k) (hmay k hk (U7 hp)) hh);clear hlo hmay;go_enter func37,ntmps37;go_upto_region 1 with fail;replace K:=K.alloc (.cells Z3 58)
 have kr:Hid (Blk ((w.alloc (.cells (S6 a0 p0 a1 p1 a2 p2 a3 p3 a4 p4 m) 32)).alloc (.cells Z3 58)) (w.heap.size+1) 58 Z3):=Z9 (by
  have k:=Blk.new (w.alloc (.cells (S6 a0 p0 a1 p1 a2 p2 a3 p3 a4 p4 m) 32)) 58 Z3;rw [Yy] at k
  exact k)
 generalize (w.alloc (.cells (S6 a0 p0 a1 p1 a2 p2 a3 p3 a4 p4 m) 32)).alloc (.cells Z3 58)=W at *;obtain ⟨c0,c1,c2,c3,c4,c5⟩:=K.cells;go_wp2_with fail;refine (uh HId _ K.smy).mono ?_;rintro e w1 ⟨vi,rfl,hidl,hb⟩;obtain ⟨ia,ic,rfl⟩:=RecAt.shape hidl;have hil:=Th m m.dk.length;replace K:=K.next hb;replace kr:=bl kr hb;have HI:=Z9 hidl;clear hb hidl c0 c1 c2 c3 c4 c5 HId;generalize hids:XC m m.dk.length=ids at *;have Hids:=Z9 hids;clear hids;obtain ⟨_,_,hse,_,_,r2⟩:=K.smy.sm;cases hse;clear r2;have c2:=K.blk.cell (i:=2) (v:= .slice a2 m.sm.length p2) rfl;go_wp2_with fail;clear c2
 go_loopw [16] (fun i wr=> ∃ k:Nat,k<=m.sm.length/\i= .int .i64 k/\XY m k=none/\Bx w wr w.heap.size a0 p0 a1 p1 a2 p2 a3 p3 a4 p4 m/\Blk wr (w.heap.size+1) 58 Z3/\Below w1.heap.size w1 wr) (fun i _=>m.sm.length-(intOf i).toNat)
 case atStart=>exact ⟨0,ZC _,rfl,rfl,K,uh kr,ZZ _ _⟩
 case round=>
  obtain ⟨k,hk,rfl,hno,hK,hkr,hb⟩:=hrel;clear K kr;have K:=hK;have kr:=Z9 hkr;have BB:=Z9 hb;have HU:=Z9 (RecAt.later (uh HI) hb);have Hno:=Z9 hno;clear hb hK hkr hno;by_cases hlt:k<m.sm.length;rotate_left
  ·obtain rfl:k=m.sm.length:=by omega
   obtain rfl:r=none:=by rw [<-uh Hr];exact CV (uh Hm) rfl (uh Hno)
   obtain ⟨o0,o1,o2⟩:=(uh kr).c3;obtain ⟨f0,f1,f2⟩:=(uh kr).f3;go_wp2_with fail;refine ZE (v:= .agg #[.int .i64 0,.int .i64 0,.bool false]) (by simp [results,results37,go_sem, *]) rfl ⟨rfl,RY K.bb (Nat.le_succ _) _ _ _⟩
  have hlt1:(k:Int)<(m.sm.length:Int):=by omega
  obtain ⟨sk,Hsk⟩:=Yt (S k);obtain ⟨_,_,hse,_,_,r2⟩:=K.smy.sm;cases hse
  rcases r2 with e0 | ⟨sb,off,rfl,hbw,hcs⟩
  ·rw [e0] at hlt;simp at hlt
  obtain ⟨d0,d1,d2,d3,d4,d5,d6,d7,d8,d9,d10⟩:=ZB hcs hlt;clear hcs;have HSk:=Z9 (fun hh:VE m k=false=>CX (uh Hno) hh);have HNn:=Z9 (fun hh:VY m k=none=>CU (uh Hno) hh);have HYe:=Z9 (fun (b:Nat) (hh:VY m k=some b)=>CV (uh Hm) rfl (CY (uh Hno) hh hlt));have HMk:Hid (VE m k=(ZQ (Z8 m.sm k) && !YG (Y8 m (k:Int)) 0 (Zw m.rm (Z8 m.sm k).2.1))):=Z9 rfl;have HG:=Z9 (fun (X:World) (v:Value) (n0:Nat) (bs:List Int) (rr:Option (Nat × Int)) (hr:Nz m k bs=rr) (hp:ZQ (Z8 m.sm k)=true) (hf:NumsAt n0 X v bs) (hl:bs.length<=1000) (hX:Smy X (.slice a0 m.rm.length p0) (.slice a1 m.gd.length p1) (.slice (some ⟨sb,off,none⟩) m.sm.length p2) (.slice a3 m.dk.length p3) (.slice a4 m.pc.length p4) m)=>uh HSt X v n0 k bs rr hr hlt (U7 hp) hf hl hX);have HE:=Z9 (fun (X:World) (q:Bool) (hq:YG (Y8 m (k:Int)) 0 (Zw m.rm (Z8 m.sm k).2.1)=q) (hp:ZQ (Z8 m.sm k)=true) (hX:Smy X (.slice a0 m.rm.length p0) (.slice a1 m.gd.length p1) (.slice (some ⟨sb,off,none⟩) m.sm.length p2) (.slice a3 m.dk.length p3) (.slice a4 m.pc.length p4) m)=>uh HSg X k _ q hq hlt (U7 hp) hX);have HMi:=Z9 (fun (hp:ZQ (Z8 m.sm k)=true) (hh:VE m k=true)=>(uh HMis k hlt hp hh));clear Hno;generalize Z8 m.sm k=sm at *;obtain ⟨st,be,rk,my,gu,lo,hi,hd,ca,ut,wk⟩:=sm;simp only at d0 d1 d2 d3 d4 d5 d6 d7 d8 d9 d10;go_upto_region 5 with fail;clear d0 d1 d2 d3 d4 d5 d6 d7 d8 d9 d10;have ks:Hid (Blk (wr.alloc (.cells (I11 st be rk my gu lo hi hd ca ut wk) 42)) wr.heap.size 42 (I11 st be rk my gu lo hi hd ca ut wk)):=Z9 (Blk.new _ _ _);have hb:Below wr.heap.size wr (wr.alloc (.cells (I11 st be rk my gu lo hi hd ca ut wk) 42)):=ba _ _;replace K:=K.next hb;replace kr:=bl kr hb;replace BB:=bt BB hb;replace HU:=Z9 (RecAt.later (uh HU) hb);clear hb;generalize wr.alloc (.cells (I11 st be rk my gu lo hi hd ca ut wk) 42)=X at *;generalize wr.heap.size=sx at *;have HMv:=Z9 (uh HMr _ K.bb);have hk1000:k<=1000:=by omega
  cases sk;rotate_left
  ·
   have hs2:=Z9 (uh HS k (uh Hsk)).2;go_wp2_with (at_lookup;refine PS _ rfl _ _ rfl (v:=mv) rfl (uh HMv) k hk1000 rfl ?_;intro lc;rw [uh Hsk])
   go_roundw
   case rel=>exact ⟨k+1,by omega,by go_num,uh HSk (uh hs2),K,uh kr,uh BB⟩
   case measure=>exact ms
  obtain ⟨ps,hps⟩:=ZL (ZQ (st,be,rk,my,gu,lo,hi,hd,ca,ut,wk));obtain ⟨fi,hfi⟩:=ZL (YG (Y8 m (k:Int)) 0 (Zw m.rm be));have Hps:=Z9 hps;have Hfi:=Z9 hfi;clear hps hfi;obtain ⟨s0,s1,s2,s3,s4,s5,s6,s7,s8,s9,s10⟩:=(uh ks).c11;go_wp2_with (at_lookup;refine PS _ rfl _ _ rfl (v:=mv) rfl (uh HMv) k hk1000 rfl ?_;intro lc;rw [uh Hsk])
  refine (I7 st be rk my gu lo hi hd ca ut wk be _).mono ?_;rw [AW,uh Hps];rintro e w2 ⟨rfl,hb⟩;replace K:=K.next hb;replace kr:=bl kr hb;replace BB:=bt BB hb;replace ks:=bl ks hb;replace HU:=Z9 (RecAt.later (uh HU) hb);clear hb s0 s1 s2 s3 s4 s5 s6 s7 s8 s9 s10;cases ps
  ·go_wp2_with fail
   go_roundw
   case rel=>exact ⟨k+1,by omega,by go_num,uh HSk (by rw [uh HMk,uh Hps];rfl),K,uh kr,uh BB⟩
   case measure=>exact ms
  have s1:=(uh ks).cell (i:=1) (v:= .int .i64 be) rfl;obtain ⟨c0,c1,c2,c3,c4,c5⟩:=K.cells;go_wp2_with fail;refine ck (uh HE _ fi (uh Hfi) (uh Hps) K.smy) fun w3 hb=> ?_;replace K:=K.next hb;replace kr:=bl kr hb;replace BB:=bt BB hb;replace HU:=Z9 (RecAt.later (uh HU) hb);clear hb s1 c0 c1 c2 c3 c4 c5;cases fi;rotate_left
  ·go_wp2_with fail
   go_roundw
   case rel=>exact ⟨k+1,by omega,by go_num,uh HSk (by rw [uh HMk];show (_ && !YG (Y8 m (k:Int)) 0 (Zw m.rm be))=false;rw [uh Hfi];simp),K,uh kr,uh BB⟩
   case measure=>exact ms
  have hmk:VE m k=true:=by rw [uh HMk];show (_ && !YG (Y8 m (k:Int)) 0 (Zw m.rm be))=true;rw [uh Hfi,uh Hps];rfl
  obtain ⟨rr,hrr⟩:=ZL (VY m k);have hgz:=uh HMi (uh Hps) hmk;rw [hrr] at hgz;have Hrr:=Z9 hrr;have Hgz:=Z9 hgz;clear hrr hgz hmk;obtain ⟨c0,c1,c2,c3,c4,c5⟩:=K.cells;have hil2:ids.length<=1000:=by omega
  go_wp2_with fail;refine ck (uh HG _ _ _ ids _ (uh Hgz) (uh Hps) (uh HU) hil2 K.smy) fun w4 hb=> ?_;replace K:=K.next hb;replace kr:=bl kr hb;replace BB:=bt BB hb;clear hb c0 c1 c2 c3 c4 c5;cases rr with
  | none=>
   simp only [Option.map_none,TV];go_wp2_with fail;go_roundw
   case rel=>exact ⟨k+1,by omega,by go_num,uh HNn (uh Hrr),K.alloc _,(uh kr).alloc _,(uh BB).alloc (uh BB).size _⟩
   case measure=>exact ms
  | some b=>
   simp only [Option.map_some,TV];obtain rfl:r=some (k,b):=by rw [<-uh Hr];exact uh HYe b (uh Hrr)
   replace K:=K.alloc (.cells #[.int .i64 (k:Int),.int .i64 (b:Int),.bool true] 58);obtain ⟨o0,o1,o2⟩:=((uh kr).alloc (.cells #[.int .i64 (k:Int),.int .i64 (b:Int),.bool true] 58)).c3;obtain ⟨f0,f1,f2⟩:=((uh kr).alloc (.cells #[.int .i64 (k:Int),.int .i64 (b:Int),.bool true] 58)).f3;go_wp2_with fail;refine ZE (v:= .agg #[.int .i64 (k:Int),.int .i64 (b:Int),.bool true]) (by simp [results,results37,go_sem, *]) rfl ⟨rfl,RY K.bb (Nat.le_succ _) _ _ _⟩
theorem Rd {w:World} {v0 v1 v2 v3 v4:Value} {m:Z6} {r:Option (Nat × Nat)} (hr:YZ m=r) (h:Smy w v0 v1 v2 v3 v4 m) (hm:ZI m=true):cB 38 #[.agg #[v0,v1,v2,v3,v4,.int .i64 m.now]] w (TV (r.map Qz)):=by
 have hlo:=ZM hm;have h12:=Zj hlo;have h8:m.dk.length<=8:=hlo.sane.eight
 have Hr:Hid ((XC m m.dk.length).findSome? (Kp m)=r.map Qz):=Z9 (by
  rw [DM (CR hlo) _ (Nat.le_refl _),<-hr];unfold YZ;rw [if_pos hm])
 clear hr hlo;obtain ⟨z,hz⟩:=ZL (r.map Qz);rw [hz] at Hr ⊢;clear hz;obtain ⟨a0,p0,a1,p1,a2,p2,a3,p3,a4,p4,rfl,rfl,rfl,rfl,rfl,K⟩:=Bx.new h;clear h;have HId:=Z9 (fun (X:World) (hX:Smy X (.slice a0 m.rm.length p0) (.slice a1 m.gd.length p1) (.slice a2 m.sm.length p2) (.slice a3 m.dk.length p3) (.slice a4 m.pc.length p4) m)=>ND hX (by omega) (by omega));go_enter func38,ntmps38;go_upto_region 1 with fail;replace K:=K.alloc (.cells Z3 58)
 have kr:Hid (Blk ((w.alloc (.cells (S6 a0 p0 a1 p1 a2 p2 a3 p3 a4 p4 m) 32)).alloc (.cells Z3 58)) (w.heap.size+1) 58 Z3):=Z9 (by
  have k:=Blk.new (w.alloc (.cells (S6 a0 p0 a1 p1 a2 p2 a3 p3 a4 p4 m) 32)) 58 Z3;rw [Yy] at k
  exact k)
 generalize (w.alloc (.cells (S6 a0 p0 a1 p1 a2 p2 a3 p3 a4 p4 m) 32)).alloc (.cells Z3 58)=W at *;obtain ⟨c0,c1,c2,c3,c4,c5⟩:=K.cells;go_wp2_with fail;refine (uh HId _ K.smy).mono ?_;rintro e w1 ⟨vi,rfl,hidl,hb⟩;obtain ⟨ia,ic,rfl⟩:=RecAt.shape hidl;have hil:=Th m m.dk.length;replace K:=K.next hb;replace kr:=bl kr hb;have HI:=Z9 hidl;clear hb hidl c0 c1 c2 c3 c4 c5 HId;generalize XC m m.dk.length=ids at *;go_wp2_with fail
 go_loopw [10] (fun i wr=> ∃ j:Nat,j<=ids.length/\i= .int .i64 j/\(ids.take j).findSome? (Kp m)=none/\Bx w wr w.heap.size a0 p0 a1 p1 a2 p2 a3 p3 a4 p4 m/\Blk wr (w.heap.size+1) 58 Z3/\Below w1.heap.size w1 wr) (fun i _=>ids.length-(intOf i).toNat)
 case atStart=>exact ⟨0,ZC _,rfl,rfl,K,uh kr,ZZ _ _⟩
 case round=>
  obtain ⟨j,hj,rfl,hno,hK,hkr,hb⟩:=hrel;clear K kr;have K:=hK;have kr:=Z9 hkr;have BB:=Z9 hb;have HU:=Z9 (RecAt.later (uh HI) hb);have Hno:=Z9 hno;clear hb hK hkr hno;by_cases hlt:j<ids.length;rotate_left
  ·obtain rfl:j=ids.length:=by omega
   obtain rfl:z=none:=by rw [<-uh Hr];have:=uh Hno;rw [List.take_length] at this;exact this
   obtain ⟨o0,o1,o2⟩:=(uh kr).c3;obtain ⟨f0,f1,f2⟩:=(uh kr).f3;go_wp2_with fail;refine ZE (v:= .agg #[.int .i64 0,.int .i64 0,.bool false]) (by simp [results,results38,go_sem, *]) rfl ⟨rfl,RY K.bb (Nat.le_succ _) _ _ _⟩
  have hlt1:(j:Int)<(ids.length:Int):=by omega
  have HNo:=Z9 (fun hh:Kp m (Z8 ids j)=none=>BP hlt (uh Hno) hh);have HYe:=Z9 (fun (rr:Nat × Int) (hh:Kp m (Z8 ids j)=some rr)=>Dv hlt (uh Hno) hh);clear Hno;obtain ⟨g,rfl,hgl,hgw,hcl,_⟩:=RecAt.view YP (by omega) (uh HU) rfl (by omega);have z0:=hcl j hlt 0 _ rfl;simp only [Nat.mul_one,Nat.add_zero] at z0;clear hcl HU;generalize hx:Z8 ids j=bx at *;clear hx;have c2:=K.blk.cell (i:=2) (v:= .slice a2 m.sm.length p2) rfl;go_wp2_with fail;clear c2 z0
  go_loopw [17] (fun i wr=> ∃ k:Nat,k<=m.sm.length/\i= .int .i64 k/\Rg m bx k=none/\Bx w wr w.heap.size a0 p0 a1 p1 a2 p2 a3 p3 a4 p4 m/\Blk wr (w.heap.size+1) 58 Z3/\Below w1.heap.size w1 wr) (fun i _=>m.sm.length-(intOf i).toNat)
  case atStart=>exact ⟨0,ZC _,rfl,rfl,K,uh kr,uh BB⟩
  case round=>
   obtain ⟨k,hk,rfl,hno,hK,hkr,hb⟩:=hrel;clear K kr BB;have K:=hK;have kr:=Z9 hkr;have BB:=Z9 hb;have Hno:=Z9 hno;clear hb hK hkr hno;by_cases hlk:k<m.sm.length;rotate_left
   ·obtain rfl:k=m.sm.length:=by omega
    go_wp2_with fail;go_roundw
    case rel=>exact ⟨j+1,by omega,by go_num,uh HNo (by unfold Kp;rw [uh Hno];rfl),K,uh kr,uh BB⟩
    case measure=>exact ms
   have hlk1:(k:Int)<(m.sm.length:Int):=by omega
   obtain ⟨_,_,hse,_,_,r2⟩:=K.smy.sm;cases hse
   rcases r2 with e0 | ⟨sb,off,rfl,hbw,hcs⟩
   ·rw [e0] at hlk;simp at hlk
   obtain ⟨d0,d1,d2,d3,d4,d5,d6,d7,d8,d9,d10⟩:=ZB hcs hlk;clear hcs;have HWn:=Z9 (fun hh:wtP m bx k=false=>Cb (uh Hno) hh);have HWy:=Z9 (fun hh:wtP m bx k=true=>uh HYe (k,bx) (by unfold Kp;rw [Bm (uh Hno) hh hlk];rfl));have HWp:Hid (wtP m bx k=((Z8 m.sm k).1 ==2 && Vo (Z8 m.sm k).2.2.2.1 bx)):=Z9 rfl;clear Hno;generalize Z8 m.sm k=sm at *;obtain ⟨st,be,rk,my,gu,lo,hi,hd,ca,ut,wk⟩:=sm;simp only at d0 d1 d2 d3 d4 d5 d6 d7 d8 d9 d10;go_upto_region 7 with fail;clear d0 d1 d2 d3 d4 d5 d6 d7 d8 d9 d10;have ks:Hid (Blk (wr.alloc (.cells (I11 st be rk my gu lo hi hd ca ut wk) 42)) wr.heap.size 42 (I11 st be rk my gu lo hi hd ca ut wk)):=Z9 (Blk.new _ _ _);have hb:Below wr.heap.size wr (wr.alloc (.cells (I11 st be rk my gu lo hi hd ca ut wk) 42)):=ba _ _;replace K:=K.next hb;replace kr:=bl kr hb;replace BB:=bt BB hb;clear hb;generalize wr.alloc (.cells (I11 st be rk my gu lo hi hd ca ut wk) 42)=X at *;generalize wr.heap.size=sx at *;have s0:=(uh ks).cell (i:=0) (v:= .int .i64 st) rfl;have s3:=(uh ks).cell (i:=3) (v:= .int .i64 my) rfl;by_cases h2:st=2;rotate_left
   ·have h2b:(st ==2)=false:=beq_eq_false_iff_ne.mpr h2
    go_wp2_with fail;go_roundw
    case rel=>exact ⟨k+1,by omega,by go_num,uh HWn (by rw [uh HWp];show ((st ==2) && _)=false;rw [h2b];rfl),K,uh kr,uh BB⟩
    case measure=>exact ms
   subst h2;obtain ⟨mb,Hmb⟩:=Yt (Vo my bx);go_wp2_with fail;refine (WB my bx _).mono ?_;rw [uh Hmb];rintro e w2 ⟨rfl,h9⟩;subst w2;clear s0 s3;cases mb
   ·go_wp2_with fail
    go_roundw
    case rel=>exact ⟨k+1,by omega,by go_num,uh HWn (by rw [uh HWp];show (_ && Vo my bx)=false;rw [uh Hmb];simp),K,uh kr,uh BB⟩
    case measure=>exact ms
   obtain rfl:z=some (k,bx):=by rw [<-uh Hr];exact uh HWy (by rw [uh HWp];show (_ && Vo my bx)=true;rw [uh Hmb];rfl)
   obtain ⟨o0,o1,o2⟩:=(uh kr).c3;obtain ⟨f0,f1,f2⟩:=(uh kr).f3;go_wp2_with fail;refine ZE (v:= .agg #[.int .i64 (k:Int),.int .i64 bx,.bool true]) (by simp [results,results38,go_sem, *]) rfl ⟨rfl,RY K.bb (Nat.le_succ _) _ _ _⟩
theorem NJ {w:World} {v0 v1 v2 v3 v4:Value} {m:Z6} (h:Smy w v0 v1 v2 v3 v4 m):cB 10 #[.agg #[v0,v1,v2,v3,v4,.int .i64 m.now]] w (SP (Zb m)):=by
 obtain ⟨r,hr⟩:=ZL (Zb m);rw [hr];have Hr:=Z9 hr;clear hr;obtain ⟨ok,Hok⟩:=Yt (ZI m);obtain ⟨a0,p0,a1,p1,a2,p2,a3,p3,a4,p4,rfl,rfl,rfl,rfl,rfl,K⟩:=Bx.new h;clear h;go_enter func10,ntmps10;go_wp2_with fail;generalize w.alloc (.cells (S6 a0 p0 a1 p1 a2 p2 a3 p3 a4 p4 m) 32)=W at *;refine ck (VT _ _ _ _ _ _ _ _ (uh Hok) K.smy) fun w1 hb=> ?_;replace K:=K.next hb;clear hb;cases ok
 ·obtain rfl:r=none:=by rw [<-uh Hr];unfold Zb;rw [uh Hok];rfl
  go_wp2_with fail;refine ck (TY 0 0 false _) fun w2 hb=> ?_;replace K:=K.next hb;clear hb;go_wp2_with fail;refine ZE (v:= .tuple #[.int .i64 0,.int .i64 0,.bool false]) (by simp [results,results10,go_sem]) rfl ⟨rfl,K.bb⟩
 obtain ⟨c0,c1,c2,c3,c4,c5⟩:=K.cells;go_wp2_with fail;refine ck (QR (mv:= .map none) (S:=fun _=>false) (uh Hr) K.smy (uh Hok) (.inl ⟨rfl,fun _=>rfl⟩) (fun i e=>by cases e)) fun w2 hb=> ?_;replace K:=K.next hb;clear hb c0 c1 c2 c3 c4 c5;cases r with
 | none=>
  simp only [Option.map_none,TV];go_wp2_with fail;refine ck (TY 0 0 false _) fun w3 hb=> ?_;replace K:=K.next hb;clear hb;go_wp2_with fail;refine ZE (v:= .tuple #[.int .i64 0,.int .i64 0,.bool false]) (by simp [results,results10,go_sem]) rfl ⟨rfl,K.bb⟩
 | some x=>
  obtain ⟨wh,bb⟩:=x;simp only [Option.map_some,Qz,TV];go_wp2_with fail;refine ck (TY (wh:Int) (bb:Int) true _) fun w3 hb=> ?_;replace K:=K.next hb;clear hb;go_wp2_with fail;refine ZE (v:= .tuple #[.int .i64 (wh:Int),.int .i64 (bb:Int),.bool true]) (by simp [results,results10,go_sem]) rfl ⟨rfl,K.bb⟩
theorem Pb {w:World} {v0 v1 v2 v3 v4:Value} {m:Z6} (h:Smy w v0 v1 v2 v3 v4 m):cB 11 #[.agg #[v0,v1,v2,v3,v4,.int .i64 m.now]] w (SP (YZ m)):=by
 obtain ⟨r,hr⟩:=ZL (YZ m);rw [hr];have Hr:=Z9 hr;clear hr;obtain ⟨ok,Hok⟩:=Yt (ZI m);obtain ⟨a0,p0,a1,p1,a2,p2,a3,p3,a4,p4,rfl,rfl,rfl,rfl,rfl,K⟩:=Bx.new h;clear h;go_enter func11,ntmps11;go_wp2_with fail;generalize w.alloc (.cells (S6 a0 p0 a1 p1 a2 p2 a3 p3 a4 p4 m) 32)=W at *;refine ck (VT _ _ _ _ _ _ _ _ (uh Hok) K.smy) fun w1 hb=> ?_;replace K:=K.next hb;clear hb;cases ok
 ·obtain rfl:r=none:=by rw [<-uh Hr];unfold YZ;rw [uh Hok];rfl
  go_wp2_with fail;refine ck (TY 0 0 false _) fun w2 hb=> ?_;replace K:=K.next hb;clear hb;go_wp2_with fail;refine ZE (v:= .tuple #[.int .i64 0,.int .i64 0,.bool false]) (by simp [results,results11,go_sem]) rfl ⟨rfl,K.bb⟩
 obtain ⟨c0,c1,c2,c3,c4,c5⟩:=K.cells;go_wp2_with fail;refine ck (Rd (uh Hr) K.smy (uh Hok)) fun w2 hb=> ?_;replace K:=K.next hb;clear hb c0 c1 c2 c3 c4 c5;cases r with
 | none=>
  simp only [Option.map_none,TV];go_wp2_with fail;refine ck (TY 0 0 false _) fun w3 hb=> ?_;replace K:=K.next hb;clear hb;go_wp2_with fail;refine ZE (v:= .tuple #[.int .i64 0,.int .i64 0,.bool false]) (by simp [results,results11,go_sem]) rfl ⟨rfl,K.bb⟩
 | some x=>
  obtain ⟨wh,bb⟩:=x;simp only [Option.map_some,Qz,TV];go_wp2_with fail;refine ck (TY (wh:Int) (bb:Int) true _) fun w3 hb=> ?_;replace K:=K.next hb;clear hb;go_wp2_with fail;refine ZE (v:= .tuple #[.int .i64 (wh:Int),.int .i64 (bb:Int),.bool true]) (by simp [results,results11,go_sem]) rfl ⟨rfl,K.bb⟩
end Go.Proofs.YtlcpgkakdieeaaaGreat
namespace Go.Proofs.YtlcpgkakdieeaaaGreat
open Go.ChangeShapes Go.WideShapes Go.ChangeAt Go.RowKit Go.Sort
set_option linter.unusedVariables false
theorem EW {m:Z6} (h:Loose m):Uu m=ZJ m:=by unfold Uu;rw [h.mk',if_pos rfl]
theorem NZ:∀ (k:Nat) (m:Z6),Wi m<k->Yf (WG k m)=none
 | 0,_,h=>by omega
 | k+1,m,h=>by
  unfold WG;cases hm:Yf m with
  | none=>exact hm
  | some r=>
   obtain ⟨w,b⟩:=r;have hf:=(Vp hm).falls;exact NZ k (XZ m w b) (by omega)
theorem LQ (m:Z6):Yf (XX m)=none:=NZ _ m (Nat.lt_succ_self _)
theorem Jh {m:Z6} (h:ZI m=true):Za (XX m)=XX m:=by
 unfold Za;rw [if_pos (Up h),SC (LQ m)]
theorem LA {m:Z6} {w:Nat} : ∀ {n:Nat},Xz m w n=none-> ∀ b,b<n->Vc m w b=false
 | 0,_,b,hb=>by omega
 | n+1,h,b,hb=>by
  unfold Xz at h;cases hg:Xz m w n with
  | some x=>rw [hg] at h;cases h
  | none=>
   rw [hg] at h;by_cases e:b<n
   ·exact LA hg b e
   ·obtain rfl:b=n:=by omega
    cases hb2:Vc m w b
    ·rfl
    ·rw [hb2] at h;cases h
theorem CT {m:Z6} : ∀ {n:Nat},XY m n=none-> ∀ i,i<n->VY m i=none
 | 0,_,i,hi=>by omega
 | n+1,h,i,hi=>by
  unfold XY at h;cases hg:XY m n with
  | some x=>rw [hg] at h;cases h
  | none=>
   rw [hg] at h;by_cases e:i<n
   ·exact CT hg i e
   ·obtain rfl:i=n:=by omega
    simpa using h
theorem Ms {m:Z6} {b:Nat} : ∀ {n:Nat},Xh m b n=none-> ∀ i,i<n->Ux m i b=false
 | 0,_,i,hi=>by omega
 | n+1,h,i,hi=>by
  unfold Xh at h;cases hg:Xh m b n with
  | some x=>rw [hg] at h;cases h
  | none=>
   rw [hg] at h;by_cases e:i<n
   ·exact Ms hg i e
   ·obtain rfl:i=n:=by omega
    cases hb2:Ux m i b
    ·rfl
    ·rw [hb2] at h;cases h
theorem Kh {m:Z6} : ∀ {n:Nat},Yp m n=none-> ∀ b,b<n->Uk m b=none
 | 0,_,i,hi=>by omega
 | n+1,h,i,hi=>by
  unfold Yp at h;cases hg:Yp m n with
  | some x=>rw [hg] at h;cases h
  | none=>
   rw [hg] at h;by_cases e:i<n
   ·exact Kh hg i e
   ·obtain rfl:i=n:=by omega
    simpa using h
theorem BE {m:Z6} (hr:ZI m=true) (h:Yf m=none) {i d:Nat} (hi:i<m.sm.length) (hp:ZQ (Z8 m.sm i)=true) (hd:d<m.dk.length) (hq:YD m d=true) (ha:YA m (i:Int) d=true) :
  (Z8 m.sm i).1 ≠ 2/\(YG (Y8 m (i:Int)) 0 (Zw m.rm (d:Int))=false\/YG (Y8 m (i:Int)) 0 (Zw m.rm (Z8 m.sm i).2.1)=true):=by
 have hm:Zb m=none:=by
  unfold Yf at h;cases hx:Zb m with
  | some r=>rw [hx] at h;cases h
  | none=>rfl
 have hw:YZ m=none:=by rw [<-h];unfold Yf;rw [hm]
 unfold Zb at hm;unfold YZ at hw;rw [if_pos hr] at hm hw;constructor
 ·intro h2
  have h1:=Kh hw d hd;unfold Uk at h1;rw [if_pos hq] at h1;have h3:=Ms h1 i hi;unfold Ux at h3;rw [h2,ha] at h3;cases h3
 ·cases hf:YG (Y8 m (i:Int)) 0 (Zw m.rm (Z8 m.sm i).2.1)
  ·left
   have h1:=CT hm i hi;unfold VY at h1;rw [if_pos (by unfold VE;rw [hp,hf];rfl)] at h1;have h3:=LA h1 d hd;unfold Vc at h3;rw [hq,ha] at h3;simpa using h3
  ·right;rfl
theorem Cw (rs:List ZW) (n:Int):Zw rs n<=1024:=by
 unfold Zw
 split
 ·rename_i hb
  have hr:=Tt hb;unfold YX at hb;simp only [ZP] at hb;obtain ⟨_,_,r3,_⟩:=Zi hb.1;have hmem:ZR rs (Xc rs n) ∈ rs:=Rt hr;have hrb:=List.all_eq_true.1 r3 _ hmem;unfold Ze at hrb;simp only [ZP] at hrb;have hl:=ZN hrb.2.1;have hst:=Qd hrb.2.2 (j:=(ZR rs (Xc rs n)).2.length-1) (by omega);unfold Xd UN at hst;simp only [ZP] at hst;exact (ZN hst.1.1).2
 ·omega
theorem DX {x f g:Int} (h1:YG x 0 f=true) (h2:YG x 0 g=false) (hg:g<=1024):g<f:=by
 unfold YG at h1 h2;simp only [ZP,Zc] at h1;have hf:=ZN h1.1.2.2;by_cases h0:0<=g
 ·rw [h1.1.1,h1.1.2.1,show amt g=true from Zo h0 (by omega)] at h2
  simp at h2;omega
 ·omega
theorem CW {m:Z6} {w b:Nat} (h:Zb m=some (w,b)) :
  VU m (b:Int)=true/\VX m (w:Int) (b:Int)=true/\w<m.sm.length/\Zw m.rm (Z8 m.sm w).2.1<Zw m.rm (b:Int):=by
 have mv:=RS h;have hl:=mv.who;have hb:=mv.bench;have hin:Yz m (b:Int)=true:=Zo (by omega) (by omega)
 have hwho:Wr m (w:Int)=true:=by
  unfold Wr;rw [Zo (by omega) (by omega),Zr];have:=U7 mv.pres;simp [this]
 refine ⟨?_,?_,hl,?_⟩
 ·unfold VU
  rw [mv.right,hin,Zr];exact mv.idle
 ·unfold VX
  rw [mv.right,hin,hwho,Zr];exact mv.may
 ·have hx:XY m m.sm.length=some (w,b):=by unfold Zb at h;rw [if_pos mv.right] at h;exact h
  obtain ⟨_,h5,_,h7⟩:=SF hx;unfold Vc at h7;unfold VE at h5;simp only [ZP,Bool.not_eq_true'] at h5 h7;exact DX h7.2.2 h5.2 (Cw _ _)
theorem Mt {m:Z6} {w b:Nat} (h:YZ m=some (w,b)):VU m (b:Int)=true/\w<m.sm.length/\(Z8 m.sm w).1=2:=by
 have mv:=N6 h;have hb:=mv.bench;have hin:Yz m (b:Int)=true:=Zo (by omega) (by omega);refine ⟨?_,mv.who,?_⟩
 ·unfold VU
  rw [mv.right,hin,Zr];exact mv.idle
 ·unfold YZ at h
  rw [if_pos mv.right] at h;obtain ⟨_,_,_,h4⟩:=Ry h;unfold Ux at h4;simp only [ZP,beq_iff_eq] at h4;exact h4.1
theorem Bc {m:Z6} (hr:ZI m=true) {i d:Nat} (hi:i<m.sm.length) (hp:ZQ (Z8 m.sm i)=true) (hd:d<m.dk.length):VX m (i:Int) (d:Int)=YA m (i:Int) d:=by
 have hin:Yz m (d:Int)=true:=Zo (by omega) (by omega)
 have hwho:Wr m (i:Int)=true:=by
  unfold Wr;rw [Zo (by omega) (by omega),Zr];have:=U7 hp;simp [this]
 unfold VX;rw [hr,hin,hwho,Zr];rfl
theorem BI {m:Z6} (hr:ZI m=true) {d:Nat} (hd:d<m.dk.length):VU m (d:Int)=YD m d:=by
 have hin:Yz m (d:Int)=true:=Zo (by omega) (by omega);unfold VU;rw [hr,hin,Zr];rfl
theorem Ca {m:Z6} (hr:ZI m=true) {i:Nat} (hi:i<m.sm.length) (hp:ZQ (Z8 m.sm i)=true):R8 m (i:Int)=Y8 m (i:Int):=by
 have hwho:Wr m (i:Int)=true:=by
  unfold Wr;rw [Zo (by omega) (by omega),Zr];have:=U7 hp;simp [this]
 unfold R8;rw [hr,hwho];rfl
structure Kept (A B:Z6):Prop where
 sm:B.sm.length=A.sm.length
 dk:B.dk.length=A.dk.length
 now:B.now=A.now
 each:∀ i,i<A.sm.length->ZQ (Z8 B.sm i)=ZQ (Z8 A.sm i)/\(Z8 B.sm i).2.2.2.1=(Z8 A.sm i).2.2.2.1/\(Z8 B.sm i).2.2.2.2.2.2.2.2.2=(Z8 A.sm i).2.2.2.2.2.2.2.2.2
theorem Kept.refl (A:Z6):Kept A A:=⟨rfl,rfl,rfl,fun _ _=>⟨rfl,rfl,rfl⟩⟩
theorem Kept.trans {A B C:Z6} (h:Kept A B) (k:Kept B C):Kept A C:=⟨k.sm.trans h.sm,k.dk.trans h.dk,k.now.trans h.now,fun i hi=>by
 obtain ⟨a1,a2,a3⟩:=h.each i hi;obtain ⟨b1,b2,b3⟩:=k.each i (by rw [h.sm];exact hi)
 exact ⟨b1.trans a1,b2.trans a2,b3.trans a3⟩⟩
theorem CH {m:Z6} {w b:Nat} (hw:w<m.sm.length):Kept m (VM m w b):=⟨XF m w b,rfl,rfl,fun i hi=>by
 rw [Uq hw];by_cases e:i=w
 ·rw [if_pos e,e];exact ⟨rfl,rfl,rfl⟩
 ·rw [if_neg e];exact ⟨rfl,rfl,rfl⟩⟩
theorem Ej (m:Z6):Kept m (ZJ m):=⟨(Zx m m.dk.length).2.2.2.2.1,(Zx m m.dk.length).2.2.2.2.2,(Zx m m.dk.length).2.2.2.1,fun i hi=>⟨Mn hi,by rw [R6 hi],by rw [R6 hi]⟩⟩
theorem Ei {m:Z6} {w b:Nat} (h:Moves m w b):Kept m (XZ m w b):=(CH h.who).trans (Ej _)
def Xt (m:Z6) (j:Nat):Bool:= !decide ((atV m.sm (j:Int) m.sm.length).length=0)
theorem ES (m:Z6) (j:Nat):Xt (ZJ m) j=Xt m j:=by
 unfold Xt ZJ;rw [R1]
theorem JN {m:Z6} {w b:Nat} (hw:w<m.sm.length) (hp:ZQ (Z8 m.sm w)=true):Xt (VM m w b) b=true:=by
 unfold Xt;rw [Bool.not_eq_true',decide_eq_false_iff_not,PW];intro h;refine h w (by rw [XF];exact hw) ?_;rw [Uq hw,if_pos rfl];exact ⟨rfl,hp⟩
theorem MJ {m:Z6} {w b j:Nat} (hw:w<m.sm.length) (hj:(Z8 m.sm w).2.1 ≠ (j:Int)) (h:Xt m j=true):Xt (VM m w b) j=true:=by
 unfold Xt at h ⊢;rw [Bool.not_eq_true',decide_eq_false_iff_not,PW] at h ⊢;intro hn;refine h (fun i hi hb=> ?_);refine hn i (by rw [XF];exact hi) ?_;have hiw:i ≠ w:=fun e=>hj (by rw [<-e];exact hb.1);rw [Uq hw,if_neg hiw];exact hb
theorem Et {m:Z6} {w b:Nat} (h:Moves m w b):cnt (Xt m) m.dk.length<=cnt (Xt (XZ m w b)) m.dk.length:=by
 have e:cnt (Xt (XZ m w b)) m.dk.length=cnt (Xt (VM m w b)) m.dk.length:=Nl _ (fun i _=>ES _ i);rw [e]
 have hq:Xt m b=false:=by
  have:=h.idle;unfold YD at this;simp only [ZP] at this;unfold Xt;rw [this.2];rfl
 obtain ⟨a0,a1,_⟩:=(ZM h.right).at h.who h.pres;refine ID (x:=b) (y:=(Z8 m.sm w).2.1.toNat) h.bench (JN h.who h.pres) hq (fun i hi hne hb=>MJ h.who (fun e=>hne (by omega)) hb)
theorem PF:∀ (k:Nat) (m:Z6),ZI m=true->Kept m (WG k m)/\cnt (Xt m) m.dk.length<=cnt (Xt (WG k m)) m.dk.length
 | 0,m,_=>⟨Kept.refl m,Z0 _⟩
 | k+1,m,h=>by
  unfold WG;cases hm:Yf m with
  | none=>exact ⟨Kept.refl m,Z0 _⟩
  | some r=>
   obtain ⟨w,b⟩:=r;have mv:=Vp hm;have hk:=Ei mv;obtain ⟨h1,h2⟩:=PF k (XZ m w b) mv.keeps;rw [hk.dk] at h2;exact ⟨hk.trans h1,XN (Et mv) h2⟩
theorem Gv {m:Z6} (h:ZI m=true):Kept m (XX m)/\cnt (Xt m) m.dk.length<=cnt (Xt (XX m)) m.dk.length:=PF _ m h
end Go.Proofs.YtlcpgkakdieeaaaGreat
