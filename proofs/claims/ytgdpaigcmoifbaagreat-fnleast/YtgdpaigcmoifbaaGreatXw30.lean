/- Part 30 of what the proof rests on. No condition but those that a theorem names. -/
import Derived.Test.YtgdpaigcmoifbaaGreatXw22
import Derived.Test.YtgdpaigcmoifbaaGreatXw23
import Derived.Test.YtgdpaigcmoifbaaGreatXw24
import Derived.Test.YtgdpaigcmoifbaaGreatXw25
set_option maxHeartbeats 8000000
set_option maxRecDepth 100000
namespace Go.Proofs.YtgdpaigcmoifbaaGreat
open Go.ChangeShapes Go.WideShapes Go.ChangeAt Go.RowKit Go.Sort
set_option linter.unusedVariables false
def Qi (m:Z6):List Z4->Int
 | []=>0
 | e::q=>ZC m e.2+Qi m q
def Vp (m:Z6):List Int->Int
 | []=>0
 | x::q=>ZC m x+Vp m q
theorem Ir (m:Z6) (a b:List Z4):Qi m (a++b)=Qi m a+Qi m b:=by
 induction a with
 | nil=>show Qi m b=0+Qi m b;omega
 | cons e a ih=>show ZC m e.2+Qi m (a++b)=ZC m e.2+Qi m a+Qi m b;omega
theorem Bi (m:Z6) (a b:List Int):Vp m (a++b)=Vp m a+Vp m b:=by
 induction a with
 | nil=>show Vp m b=0+Vp m b;omega
 | cons e a ih=>show ZC m e+Vp m (a++b)=ZC m e+Vp m a+Vp m b;omega
theorem QS (m:Z6) (a:List Int) (x:Int):Vp m (a++[x])=Vp m a+ZC m x:=by rw [Bi];show _+(ZC m x+0)=_;omega
theorem DF (m:Z6):∀ a:List Int,0<=Vp m a/\Vp m a<=1024*a.length
 | []=>by simp [Vp]
 | x::a=>by
  have ih:=DF m a;have hw:=Wr m x;show 0<=ZC m x+Vp m a/\ZC m x+Vp m a<=1024*((a.length+1:Nat):Int);omega
theorem Bh (m:Z6) (q:List Z4) (e:Z4):Qi m (Vm q e)=Qi m q+ZC m e.2:=by
 have h:=Ir m (q.take (XI e q)) (q.drop (XI e q));rw [List.take_append_drop] at h;unfold Vm;rw [Ir,h];show _+(ZC m e.2+_)=_;omega
theorem Kz (m:Z6) (but:Int):∀ (q:List Z4) (n:Int),(∀ e ∈ q,e.2 ≠ but)->q.foldl (fun n e=>if e.2=but then n else n+ZC m e.2) n=n+Qi m q
 | [],n,_=>by show n=n+0;omega
 | e::q,n,h=>by
  have h0:=h e (by simp);have ih:=Kz m but q (if e.2=but then n else n+ZC m e.2) (fun x hx=>h x (by simp [hx]));rw [List.foldl_cons,ih,if_neg h0];show _=n+(ZC m e.2+Qi m q);omega
theorem CL (m:Z6) (b:Int):Zx m b (-1)=Qi m (atV m.sm b m.sm.length):=by
 have:=Kz m (-1) (atV m.sm b m.sm.length) 0 (fun e he=>by
  obtain ⟨i,_,_,_,rfl⟩:=(XQ m.sm b e m.sm.length).1 he;show (i:Int) ≠ -1
  omega)
 unfold Zx UE;omega
theorem CV (b:Int) (s:Z2):atB b s=decide (s.2.1=b/\ZL s=true):=by
 unfold atB ZL;rw [Bool.eq_iff_iff];simp only [ZO,YZ,beq_iff_eq];exact ⟨fun h=>⟨h.2,h.1⟩,fun h=>⟨h.2,h.1⟩⟩
theorem KC (m:Z6) (ss:List Z2) (b:Int):∀ k,Vp m (ZP (atB b) ss k)=Qi m (atV ss b k)
 | 0=>rfl
 | k+1=>by
  have ih:=KC m ss b k;by_cases hat:(Z8 ss k).2.1=b/\ZL (Z8 ss k)=true
  ·rw [Yy (by rw [CV];exact decide_eq_true hat),QS,U7 hat.1 hat.2,Bh,ih]
  ·rw [XZ (by rw [CV];exact decide_eq_false hat),TJ hat,ih]
theorem Ql (m:Z6) (b:Int):Vp m (ZP (atB b) m.sm m.sm.length)=Zx m b (-1):=by rw [KC,CL]
theorem CC (m:Z6) {ws:List Int} {k:Nat} (h:k<ws.length):Vp m (ws.take (k+1))=Vp m (ws.take k)+ZC m (Z8 ws k):=by rw [PU h,QS]
structure Wants (m:Z6):Prop where
 gd:Za m.gd=true
 each:∀ i,i<m.sm.length->(Z8 m.sm i).1 ≠ 0->isB m.gd (Z8 m.sm i).2.2.2.2.1=true/\Ye (Z8 m.sm i).2.2.2.2.2.1 (Z8 m.sm i).2.2.2.2.2.2.1=true
theorem Loose.wants {m:Z6} (h:Loose m):Wants m:=by
 have hd:=h.head;unfold Yx at hd;simp only [ZO,YZ] at hd;refine ⟨hd.2.1,fun i hi hs=> ?_⟩;obtain ⟨hp,hg,_⟩:=h.limits hi hs;have hgs:=hd.2.1;generalize Z8 m.sm i=s at *;obtain ⟨st,be,rk,my,gu,lo,hi,hd,ca,ut,wk⟩:=s;obtain ⟨_,_,_,_,⟨g0,g5⟩,hpair,_⟩:=Y2 hp;simp only at hg;exact ⟨by unfold isB;rw [hgs,Zn g0 (by omega)];rfl,hpair⟩
theorem II (m:Z6) {k:Nat} (hk:k<m.sm.length) (b:Int) (i:Nat):Z8 (WJ m (k:Int) b).sm i=if i=k then Qy (Z8 m.sm k) b else Z8 m.sm i:=by
 unfold WJ;simp only [Zp];exact ZD hk i
theorem Wants.with {m:Z6} (h:Wants m) {k:Nat} (hk:k<m.sm.length) (hs:(Z8 m.sm k).1 ≠ 0) (b:Int):Wants (WJ m (k:Int) b):=by
 refine ⟨h.gd,fun i hi hne=> ?_⟩;have hi':i<m.sm.length:=by unfold WJ at hi;simpa using hi
 rw [II m hk] at hne ⊢;by_cases e:i=k
 ·rw [if_pos e];exact h.each k hk hs
 ·rw [if_neg e] at hne ⊢;exact h.each i hi' hne
def WG (m:Z6) (b:Int):Bool:=Xa m.dk.length b && (Z8 m.dk b.toNat).1
def UZ (m:Z6) (bs:List Int):Int:=bs.foldl (fun n b=>if WG m b then max n (Zx m b (-1)) else n) 0
def Uj (m:Z6) (bs:List Int):Int:=bs.foldl (fun n b=>n+Zx m b (-1)) 0
theorem Mw (m:Z6) (bs:List Int) (b:Int):UZ m (bs++[b])=if WG m b then max (UZ m bs) (Zx m b (-1)) else UZ m bs:=by unfold UZ;rw [List.foldl_append];rfl
theorem Np (m:Z6) (bs:List Int) (b:Int):Uj m (bs++[b])=Uj m bs+Zx m b (-1):=by unfold Uj;rw [List.foldl_append];rfl
theorem GJ (m:Z6) (hl:m.sm.length<=12):∀ (bs:List Int) (n:Int),0<=n->n<=12288->0<=bs.foldl (fun n b=>if WG m b then max n (Zx m b (-1)) else n) n/\bs.foldl (fun n b=>if WG m b then max n (Zx m b (-1)) else n) n<=12288
 | [],n,h0,h1=>⟨h0,h1⟩
 | b::bs,n,h0,h1=>by
  have hu:=U4 m b (-1);refine GJ m hl bs (if WG m b then max n (Zx m b (-1)) else n) ?_ ?_<;>split<;>omega
theorem AI (m:Z6) (hl:m.sm.length<=12) (bs:List Int):0<=UZ m bs/\UZ m bs<=12288:=GJ m hl bs 0 (by omega) (by omega)
theorem IJ (m:Z6) (hl:m.sm.length<=12):∀ (bs:List Int) (n:Int),0<=n->0<=bs.foldl (fun n b=>n+Zx m b (-1)) n/\bs.foldl (fun n b=>n+Zx m b (-1)) n<=n+12288*bs.length
 | [],n,h0=>⟨h0,by simp⟩
 | b::bs,n,h0=>by
  have hu:=U4 m b (-1);have ih:=IJ m hl bs (n+Zx m b (-1)) (by omega);refine ⟨ih.1,Int.le_trans ih.2 ?_⟩;simp only [YL,Int.natCast_add,Int.natCast_one];omega
theorem Bt (m:Z6) (hl:m.sm.length<=12) (bs:List Int):0<=Uj m bs/\Uj m bs<=12288*bs.length:=by
 have:=IJ m hl bs 0 (by omega);unfold Uj;omega
theorem Ie {m:Z6} (h:Sane m) {r:Nat} (hr:r<m.rm.length) {b:Nat} (hb:b<8):UL (U3 m.rm (r:Int)) (b:Int)=true ↔ b<m.dk.length/\(Xl m.rm b:Int)=(r:Int):=by
 have hR:TU m.rm (r:Int)=true:=by unfold TU;rw [h.hall,Zn (by omega) (by omega)];rfl
 have ha:=(Zj h.hall).2.2.1;have h0:=Xw h.hall r (by omega);have h1:=Xw h.hall (r+1) (by omega);have hm:=U8 ha (i:=r) 1 (by omega);have hm0:=U8 ha (i:=r+1) (m.rm.length-(r+1)) (by omega);rw [show r+1+(m.rm.length-(r+1))=m.rm.length by omega,List.take_length] at hm0;have h8:=h.eight;have hd:=h.dk;rw [A1 hR,Zp,zM h0.1 hm (by omega) (by omega) (by omega),decide_eq_true_iff];constructor
 ·intro hx
  have hbd:b<m.dk.length:=by omega
  exact ⟨hbd,by rw [(DA (h.bench hbd) hr).2 hx]⟩
 ·rintro ⟨hbd,e⟩
  exact (DA (h.bench hbd) hr).1 (by omega)
theorem Kj {m:Z6} (h:Sane m) {r:Nat} (hr:r<m.rm.length):∀ k:Nat,k<=m.dk.length->UZ m (UD (U3 m.rm (r:Int)) k)=(Y3 m r k).1/\Uj m (UD (U3 m.rm (r:Int)) k)=(Y3 m r k).2
 | 0,_=>⟨rfl,rfl⟩
 | k+1,hk=>by
  have ih:=Kj h hr k (by omega);have h8:=h.eight;have hs:=Ie h hr (b:=k) (by omega);by_cases e:(Xl m.rm k:Int)=(r:Int)
  ·rw [RJ (hs.2 ⟨by omega,e⟩),Mw,Np,ih.1,ih.2]
   have ho:WG m (k:Int)=(Z8 m.dk k).1:=by
    unfold WG Xa;rw [Zp,decide_eq_true (show (0:Int)<=(k:Int) by omega),decide_eq_true (show (k:Int)<(m.dk.length:Int) by omega)];simp
   rw [ho];show _=(if _ then _ else _:Int × Int).1/\_=(if _ then _ else _:Int × Int).2;rw [if_pos e];exact ⟨rfl,rfl⟩
  ·have hn:UL (U3 m.rm (r:Int)) (k:Int)=false:=by
    cases hc:UL (U3 m.rm (r:Int)) (k:Int)
    ·rfl
    ·exact absurd (hs.1 hc).2 e
   rw [Ur hn];show _=(if _ then _ else _:Int × Int).1/\_=(if _ then _ else _:Int × Int).2;rw [if_neg e];exact ih
theorem Cr {m:Z6} (h:Sane m) {r:Nat} (hr:r<m.rm.length):UZ m (Sq (U3 m.rm (r:Int)))=(Y3 m r m.dk.length).1/\Uj m (Sq (U3 m.rm (r:Int)))=(Y3 m r m.dk.length).2:=by
 have key:∀ d k:Nat,m.dk.length+d=k->k<=8->UD (U3 m.rm (r:Int)) k=UD (U3 m.rm (r:Int)) m.dk.length:=by
  intro d
  induction d with
  | zero=>intro k hk _;rw [<-hk];rfl
  | succ d ih=>
   intro k hk h8;obtain ⟨j,rfl⟩:∃ j,k=j+1:=⟨k-1,by omega⟩
   have hn:UL (U3 m.rm (r:Int)) (j:Int)=false:=by
    cases hc:UL (U3 m.rm (r:Int)) (j:Int)
    ·rfl
    ·have:=((Ie h hr (b:=j) (by omega)).1 hc).1;omega
   rw [Ur hn];exact ih j (by omega) (by omega)
 have h8:=h.eight;have e:=key (8-m.dk.length) 8 (by omega) (by omega);unfold Sq;rw [e];exact Kj h hr m.dk.length (Z0 _)
def Sb (m:Z6):Int:=if ZM m then WK m else -1
def Zf (m:Z6) (who b:Int):Int:=if ZM m && (Yn m who && WG m b) then ZS m who b else -1
open Go.ChangeShapes Go.WideShapes Go.ChangeAt Go.RowKit Go.Sort Go.Proofs.Tryz
set_option maxRecDepth 100000
theorem IH {m:Z6} {b:Int} {k:Nat} (hk:k<(ZP (atB b) m.sm m.sm.length).length):∃ i:Nat,i<m.sm.length/\Z8 (ZP (atB b) m.sm m.sm.length) k=(i:Int):=by
 obtain ⟨i,hi,e,_⟩:=(Ws (atB b) m.sm _ m.sm.length).1 (Wd hk);exact ⟨i,hi,e⟩
theorem EJ {w:World} {v0 v1 v2 v3 v4:Value} {m M:Z6} (b:Int) (h:Smy w v0 v1 v2 v3 v4 m) (hL:Loose M) (hM:M.sm=m.sm):Calls prog 171 #[.agg #[v0,v1,v2,v3,v4,.int .i64 m.now],.int .i64 b] w fun e w'=> ∃ v',e= .returned v'/\EntsAt w.heap.size w' v' (atV m.sm b m.sm.length)/\Below w.heap.size w w':=by
 have Hv:=Z9 ((h.alloc (.cells #[v0,v1,v2,v3,v4,.int .i64 m.now] 32)).alloc (.cells #[] 78));have HV0:=Z9 h;obtain ⟨a0,p0,a1,p1,a2,p2,a3,p3,a4,p4,rfl,rfl,rfl,rfl,rfl,_,_,_,_,_,_,_,_,_,_⟩:=h.five;clear h;have hl:m.sm.length<=1000:=by rw [<-hM];have:=(Sd hL).sm;omega
 have HL:Hid (∀ k,Yh (Wc m.sm ((ZP (atB b) m.sm m.sm.length).take k))=true):=Z9 (fun k=>by have:=EH hL b k;rw [hM] at this;exact this);clear hL hM;have kb:Hid (Blk ((w.alloc (.cells (S6 a0 p0 a1 p1 a2 p2 a3 p3 a4 p4 m) 32)).alloc (.cells #[] 78)) w.heap.size 32 (S6 a0 p0 a1 p1 a2 p2 a3 p3 a4 p4 m)):=Z9 ((Blk.new w _ _).alloc _);have BB:Hid (Below w.heap.size w ((w.alloc (.cells (S6 a0 p0 a1 p1 a2 p2 a3 p3 a4 p4 m) 32)).alloc (.cells #[] 78))):=Z9 (((ba _ _)).alloc (by simp) _);have HE:Hid (EntsAt w.heap.size ((w.alloc (.cells (S6 a0 p0 a1 p1 a2 p2 a3 p3 a4 p4 m) 32)).alloc (.cells #[] 78)) (.slice (some ⟨w.heap.size+1,0,none⟩) 0 0) []):=Z9 (Wi (by simp) (by simp));go_enter func171,ntmps171;go_upto_region 2 with fail;generalize (w.alloc (.cells (S6 a0 p0 a1 p1 a2 p2 a3 p3 a4 p4 m) 32)).alloc (.cells #[] 78)=W at *;obtain ⟨c0,c1,c2,c3,c4,c5⟩:=(uh kb).c6;go_wp2_with fail;refine (TH b (uh Hv) hl).mono ?_;rintro e w1 ⟨vn,rfl,hn,hb⟩;obtain ⟨na,nc,rfl⟩:=RecAt.shape hn;have HN0:=Z9 (RecAt.mono hn (uh BB).size);have Hv1:=Z9 ((uh Hv).below hb);have kb1:=Z9 ((uh kb).below hb (uh kb).lt);have BB1:=Z9 ((uh BB).trans (hb.mono (uh BB).size));have HE1:=Z9 ((uh HE).later hb);clear hb hn c0 c1 c2 c3 c4 c5 Hv kb BB HE;have Hq:=Z9 (Sx m.sm b m.sm.length);have Hwh:=Z9 (fun k hk=>IH (m:=m) (b:=b) (k:=k) hk);have Hpq:=HL;clear HL;have hwl:=U6 (atB b) m.sm m.sm.length;generalize ZP (atB b) m.sm m.sm.length=ws at *;go_wp2_with fail
 go_loopw [5,13] (fun l i wr=> ∃ k:Nat,k<=ws.length/\i= .int .i64 k/\EntsAt w.heap.size wr l (Wc m.sm (ws.take k))/\NumsAt w.heap.size wr (.slice na ws.length nc) ws/\Blk wr w.heap.size 32 (S6 a0 p0 a1 p1 a2 p2 a3 p3 a4 p4 m)/\Smy wr (.slice a0 m.rm.length p0) (.slice a1 m.gd.length p1) (.slice a2 m.sm.length p2) (.slice a3 m.dk.length p3) (.slice a4 m.pc.length p4) m/\Below w.heap.size w wr) (fun _ i _=>ws.length-(intOf i).toNat)
 case atStart=>exact ⟨0,ZA _,rfl,uh HE1,uh HN0,uh kb1,uh Hv1,uh BB1⟩
 case round=>
  obtain ⟨k,hk,rfl,he,hn,hkb,hv,hb0⟩:=hrel;obtain ⟨la,lc,rfl⟩:=EntsAt.shape he;have HE:=Z9 he;have HN:=Z9 hn;have kb:=Z9 hkb;have Hv:=Z9 hv;have BB:=Z9 hb0;clear he hn hkb hv hb0 HE1 HN0 kb1 Hv1 BB1;by_cases hlt:k<ws.length
  ·have hlt1:(k:Int)<(ws.length:Int):=by omega
   obtain ⟨g,hga,_,_,hcl,_⟩:=RecAt.view Ze (by omega) (uh HN) rfl (by omega);cases hga;have z0:=hcl k hlt 0 _ rfl;simp only [Nat.mul_one,Nat.add_zero] at z0;obtain ⟨i,hi,hiw⟩:=uh Hwh k hlt;rw [hiw] at z0;have hi1:(i:Int)<(m.sm.length:Int):=by omega
   obtain ⟨_,_,hse,_,_,r2⟩:=(uh Hv).sm;cases hse
   rcases r2 with e0 | ⟨sb,off,rfl,hbw,hcs⟩
   ·rw [e0] at hi;simp at hi
   obtain ⟨_,_,_,_,_,_,_,d7,_⟩:=Zu hcs hi;have HT:Hid (Wc m.sm (ws.take (k+1))=Vm (Wc m.sm (ws.take k)) (Xs (Z8 m.sm i),(i:Int))):=Z9 (by rw [PU hlt,PK,hiw];simp);have hq1:=uh Hpq k;have hq2:=uh Hpq (k+1);rw [uh HT] at hq2;have HQ:=Z9 (Ow hq1 hq2);clear hcl hcs hq1 hq2;have e7:(Z8 m.sm i).2.2.2.2.2.2.2.1=Xs (Z8 m.sm i):=rfl;rw [e7] at d7;clear e7;generalize Xs (Z8 m.sm i)=hd at *;have c2:=(uh kb).cell (i:=2) (v:= .slice (some ⟨sb,off,none⟩) m.sm.length p2) rfl;go_wp2_with fail;refine (Mf hd (i:Int) (uh HE).pc).mono ?_;rw [uh HQ];rintro e w2 ⟨⟨v',rfl,he⟩,hb⟩;obtain ⟨ua,uc,rfl⟩:=EntsAt.shape he;have HE2:=Z9 (he.mono (uh BB).size);replace HN:=Z9 (RecAt.later (uh HN) hb);replace kb:=bl kb hb;replace Hv:=Z9 ((uh Hv).below hb);replace BB:=bt BB hb;clear hb he c2 d7 z0;go_wp2_with fail;go_roundw
   case rel=>exact ⟨k+1,by omega,by go_num,by rw [uh HT];exact uh HE2,uh HN,uh kb,uh Hv,uh BB⟩
   case measure=>exact ms
  ·obtain rfl:k=ws.length:=by omega
   have HE3:Hid (EntsAt w.heap.size wr (.slice la (Wc m.sm (ws.take ws.length)).length lc) (atV m.sm b m.sm.length)):=Z9 (by
    have h9:=uh HE;have e9:Wc m.sm (ws.take ws.length)=atV m.sm b m.sm.length:=by rw [List.take_length,uh Hq]
    rw [<-e9]
    exact h9)
   go_wp2_with fail;go_ret;exact ⟨_,rfl,uh HE3,uh BB⟩
theorem G8 {w:World} {v0 v1 v2 v3 v4:Value} {m:Z6} (b:Int) (h:Smy w v0 v1 v2 v3 v4 m) (hL:Loose m):Calls prog 171 #[.agg #[v0,v1,v2,v3,v4,.int .i64 m.now],.int .i64 b] w fun e w'=> ∃ v',e= .returned v'/\EntsAt w.heap.size w' v' (atV m.sm b m.sm.length)/\Below w.heap.size w w':=EJ b h hL rfl
theorem Ni {w:World} {v0 v1 v2 v3 v4:Value} {m:Z6} {k:Nat} (h:Smy w v0 v1 v2 v3 v4 m) (hL:Wants m) (hk:k<m.sm.length) (hs:(Z8 m.sm k).1 ≠ 0):cB 122 #[.agg #[v0,v1,v2,v3,v4,.int .i64 m.now],.int .i64 (k:Int)] w (.int .i64 (ZC m (k:Int))):=by
 have hw:ZC m (k:Int)=TG m.gd (Z8 m.sm k):=rfl;rw [hw];clear hw;have Hg0:=Z9 h.gd;obtain ⟨a0,p0,rfl,_,_⟩:=IsRooms.shape h.rm;obtain ⟨a1,p1,rfl,_,_⟩:=IsRec.shape h.gd;obtain ⟨a2,p2,rfl,hc2,hm2,r2⟩:=h.sm;obtain ⟨a3,p3,rfl,_,_⟩:=IsRec.shape h.dk;obtain ⟨a4,p4,rfl,_,_⟩:=IsRec.shape h.pc;clear h;obtain ⟨hg1,hpair⟩:=hL.each k hk hs
 rcases r2 with e0 | ⟨sb,off,rfl,hbw,hcl⟩
 ·rw [e0] at hk;simp at hk
 have hk1:(k:Int)<(m.sm.length:Int):=by omega
 obtain ⟨d0,d1,d2,d3,d4,d5,d6,d7,d8,d9,d10⟩:=Zu hcl hk;clear hcl hs hL;generalize Z8 m.sm k=ss at *;obtain ⟨st,be,rk,my,gu,lo,hi,hd,ca,ut,wk⟩:=ss;simp only at d0 d1 d2 d3 d4 d5 d6 d7 d8 d9 d10 hg1 hpair;obtain ⟨nr,hnr⟩:=ZJ (Uy (bnd m.gd gu) lo hi);have HW:Hid (SI m.gd gu lo hi=nr):=Z9 (by rw [<-hnr];exact KG hg1 hpair);have HX:Hid (TG m.gd (st,be,rk,my,gu,lo,hi,hd,ca,ut,wk)=min (max ut nr.1) nr.2):=Z9 (by rw [<-hnr];rfl);rw [uh HX];clear hpair hg1 HX hnr;obtain ⟨nl,nh⟩:=nr;dsimp only;have hne:sb ≠ w.heap.size:=VH hbw;have hbw2:sb<w.heap.size+1:=by omega
 have BB:Hid (Below w.heap.size w ((w.alloc (.cells #[.slice a0 m.rm.length p0,.slice a1 m.gd.length p1,.slice (some ⟨sb,off,none⟩) m.sm.length p2,.slice a3 m.dk.length p3,.slice a4 m.pc.length p4,.int .i64 m.now] 32)).alloc (.cells (I11 st be rk my gu lo hi hd ca ut wk) 38))):=Z9 (((ba _ _)).alloc (by simp) _)
 have ks:Hid (Blk ((w.alloc (.cells #[.slice a0 m.rm.length p0,.slice a1 m.gd.length p1,.slice (some ⟨sb,off,none⟩) m.sm.length p2,.slice a3 m.dk.length p3,.slice a4 m.pc.length p4,.int .i64 m.now] 32)).alloc (.cells (I11 st be rk my gu lo hi hd ca ut wk) 38)) (w.heap.size+1) 38 (I11 st be rk my gu lo hi hd ca ut wk)):=Z9 (by
  have k9:=Blk.new (w.alloc (.cells #[.slice a0 m.rm.length p0,.slice a1 m.gd.length p1,.slice (some ⟨sb,off,none⟩) m.sm.length p2,.slice a3 m.dk.length p3,.slice a4 m.pc.length p4,.int .i64 m.now] 32)) 38 (I11 st be rk my gu lo hi hd ca ut wk);rw [XG] at k9
  exact k9)
 have kb:Hid (Blk ((w.alloc (.cells #[.slice a0 m.rm.length p0,.slice a1 m.gd.length p1,.slice (some ⟨sb,off,none⟩) m.sm.length p2,.slice a3 m.dk.length p3,.slice a4 m.pc.length p4,.int .i64 m.now] 32)).alloc (.cells (I11 st be rk my gu lo hi hd ca ut wk) 38)) w.heap.size 32 #[.slice a0 m.rm.length p0,.slice a1 m.gd.length p1,.slice (some ⟨sb,off,none⟩) m.sm.length p2,.slice a3 m.dk.length p3,.slice a4 m.pc.length p4,.int .i64 m.now]):=Z9 ((Blk.new w _ _).alloc _);have Hg2:=Z9 ((uh Hg0).below (uh BB));go_enter func122,ntmps122;go_upto_region 2 with fail;generalize (w.alloc (.cells #[.slice a0 m.rm.length p0,.slice a1 m.gd.length p1,.slice (some ⟨sb,off,none⟩) m.sm.length p2,.slice a3 m.dk.length p3,.slice a4 m.pc.length p4,.int .i64 m.now] 32)).alloc (.cells (I11 st be rk my gu lo hi hd ca ut wk) 38)=W at *;clear d0 d1 d2 d3 d4 d5 d6 d7 d8 d9 d10;have c1:=(uh kb).cell (i:=1) (v:= .slice a1 m.gd.length p1) rfl;have s4:=(uh ks).cell (i:=4) (v:= .int .i64 gu) rfl;have s5:=(uh ks).cell (i:=5) (v:= .int .i64 lo) rfl;have s6:=(uh ks).cell (i:=6) (v:= .int .i64 hi) rfl;go_wp2_with fail;refine (Mh gu lo hi (uh Hg2)).mono ?_;rw [uh HW];rintro e w1 ⟨rfl,hb⟩;replace ks:=bl ks hb;replace BB:=bt BB hb;clear hb c1 s4 s5 s6 HW;have s9:=(uh ks).cell (i:=9) (v:= .int .i64 ut) rfl;go_wp2_with (go_at_call 185;refine (UJ _ _ _ _).mono ?_;rintro e w' ⟨rfl,h9⟩;subst w')
 go_ret;exact ⟨rfl,uh BB⟩
theorem Fp {w:World} {v0 v1 v2 v3 v4:Value} {m:Z6} {k:Nat} (h:Smy w v0 v1 v2 v3 v4 m) (hL:Loose m) (hk:k<m.sm.length) (hs:(Z8 m.sm k).1 ≠ 0):cB 122 #[.agg #[v0,v1,v2,v3,v4,.int .i64 m.now],.int .i64 (k:Int)] w (.int .i64 (ZC m (k:Int))):=Ni h hL.wants hk hs
theorem Bs {m:Z6} (who:Int):Yn m who=(Xa m.sm.length who && !((Z8 m.sm who.toNat).1 ==0)):=by unfold Yn;rw [Jd]
theorem Gq {w:World} {v0 v1 v2 v3 v4:Value} {m:Z6} {who:Int} {q:Bool} (hq:Yn m who=q) (h:Smy w v0 v1 v2 v3 v4 m):cB 121 #[.agg #[v0,v1,v2,v3,v4,.int .i64 m.now],.int .i64 who] w (.bool q):=by
 rw [Bs] at hq;have Hq:=Z9 hq;clear hq;obtain ⟨a0,p0,a1,p1,a2,p2,a3,p3,a4,p4,rfl,rfl,rfl,rfl,rfl,K⟩:=Bx.new h;clear h;go_enter func121,ntmps121;go_wp2_with fail;generalize w.alloc (.cells (S6 a0 p0 a1 p1 a2 p2 a3 p3 a4 p4 m) 32)=W at *;obtain ⟨c0,c1,c2,c3,c4,c5⟩:=K.cells;go_wp2_with fail;refine ck (WS _ _ _ _ _ _ _ _ _ _ _ _ _ _ _ _ _) fun w2 hb=> ?_;replace K:=K.next hb;clear hb c0 c1 c2 c3 c4 c5;obtain ⟨qh,Hh⟩:=YV (Xa m.sm.length who);go_wp2_with fail;refine (Jc _ _ _ who _).mono ?_;rw [uh Hh];rintro e w3 ⟨rfl,h9⟩;subst w3;cases qh
 ·obtain rfl:q=false:=by rw [<-uh Hq,uh Hh];rfl
  go_wp2_with fail;go_ret;exact ⟨rfl,K.bb⟩
 have hwb:0<=who/\who<(m.sm.length:Int):=by have:=uh Hh;unfold Xa at this;simpa using this
 obtain ⟨k,rfl⟩:∃ k:Nat,who=k:=⟨who.toNat,by omega⟩
 have hk:k<m.sm.length:=by omega
 have hk1:(k:Int)<(m.sm.length:Int):=by omega
 obtain ⟨_,_,hse,_,_,r2⟩:=K.smy.sm;cases hse
 rcases r2 with e0 | ⟨sb,off,rfl,hbw,hcl⟩
 ·rw [e0] at hk;simp at hk
 obtain ⟨d0,d1,d2,d3,d4,d5,d6,d7,d8,d9,d10⟩:=Zu hcl hk;obtain ⟨_,_,c2,_,_,_⟩:=K.cells;have HS:Hid (q= !((Z8 m.sm k).1 ==0)):=Z9 (by rw [<-uh Hq,uh Hh,Zp];rfl);clear hcl;generalize Z8 m.sm k=ss at *;obtain ⟨st,be,rk,my,gu,lo,hi,hd,ca,ut,wk⟩:=ss;simp only at d0 d1 d2 d3 d4 d5 d6 d7 d8 d9 d10;go_wp2_with fail;refine ck (VQ st be rk my gu lo hi hd ca ut wk _) fun w4 hb=> ?_;replace K:=K.next hb;clear hb c2 d0 d1 d2 d3 d4 d5 d6 d7 d8 d9 d10;obtain rfl:q= !(st ==0):=uh HS;go_wp2_with fail;go_ret;exact ⟨rfl,K.bb⟩
theorem Re {w:World} {v0 v1 v2 v3 v4:Value} {m:Z6} {who q:Int} (hq:YM m who=q) (h:Smy w v0 v1 v2 v3 v4 m):cB 60 #[.agg #[v0,v1,v2,v3,v4,.int .i64 m.now],.int .i64 who] w (.int .i64 q):=by
 have Hq:=Z9 hq;clear hq;obtain ⟨ok,Hok⟩:=YV (ZM m);obtain ⟨a0,p0,a1,p1,a2,p2,a3,p3,a4,p4,rfl,rfl,rfl,rfl,rfl,K⟩:=Bx.new h;clear h;go_enter func60,ntmps60;go_wp2_with fail;generalize w.alloc (.cells (S6 a0 p0 a1 p1 a2 p2 a3 p3 a4 p4 m) 32)=W at *;refine ck (TS _ _ _ _ _ _ _ _ (uh Hok) K.smy) fun w1 hb=> ?_;replace K:=K.next hb;clear hb;cases ok
 ·obtain rfl:q= -1:=by rw [<-uh Hq];unfold YM;rw [uh Hok];rfl
  go_wp2_with fail;go_ret;exact ⟨rfl,K.bb⟩
 obtain ⟨qh,Hh⟩:=YV (Yn m who);obtain ⟨c0,c1,c2,c3,c4,c5⟩:=K.cells;go_wp2_with fail;refine ck (Gq (uh Hh) K.smy) fun w2 hb=> ?_;replace K:=K.next hb;clear hb c0 c1 c2 c3 c4 c5;cases qh
 ·obtain rfl:q= -1:=by rw [<-uh Hq];unfold YM;rw [uh Hh];simp
  go_wp2_with fail;go_ret;exact ⟨rfl,K.bb⟩
 obtain ⟨k,rfl,hk,hs⟩:=YK (uh Hh);obtain rfl:q=ZC m (k:Int):=by rw [<-uh Hq];unfold YM;rw [uh Hok,uh Hh];rfl
 obtain ⟨c0,c1,c2,c3,c4,c5⟩:=K.cells;go_wp2_with fail;refine ck (Fp K.smy (ZU (uh Hok)) hk hs) fun w3 hb=> ?_;replace K:=K.next hb;clear hb c0 c1 c2 c3 c4 c5;go_wp2_with fail;go_ret;exact ⟨rfl,K.bb⟩
set_option maxRecDepth 100000
theorem Qk {w:World} {v0 v1 v2 v3 v4:Value} {m:Z6} {b q:Int} (hq:Zx m b (-1)=q) (h:Smy w v0 v1 v2 v3 v4 m) (hW:Wants m) (hl:m.sm.length<=12):cB 238 #[.agg #[v0,v1,v2,v3,v4,.int .i64 m.now],.int .i64 b] w (.int .i64 q):=by
 have Hq:=Z9 hq;clear hq;have HW:=Z9 hW;clear hW;obtain ⟨a0,p0,a1,p1,a2,p2,a3,p3,a4,p4,rfl,rfl,rfl,rfl,rfl,K⟩:=Bx.new h;clear h;go_enter func238,ntmps238;go_upto_region 2 with fail;generalize w.alloc (.cells (S6 a0 p0 a1 p1 a2 p2 a3 p3 a4 p4 m) 32)=W at *;obtain ⟨c0,c1,c2,c3,c4,c5⟩:=K.cells;go_wp2_with fail;refine (TH b K.smy (by omega)).mono ?_;rintro e w1 ⟨vn,rfl,hn,hb⟩;obtain ⟨na,nc,rfl⟩:=RecAt.shape hn;have HN:=Z9 hn;replace K:=K.next hb;clear hb hn c0 c1 c2 c3 c4 c5;have Hwh:=Z9 (fun k hk=>IH (m:=m) (b:=b) (k:=k) hk);have Hat:=Z9 (fun x hx=>(Ws (atB b) m.sm x m.sm.length).1 hx);have hwl:=U6 (atB b) m.sm m.sm.length;rw [<-Ql] at Hq;generalize ZP (atB b) m.sm m.sm.length=ws at *;go_wp2_with fail
 go_loopw [5,12] (fun u i wr=> ∃ k:Nat,k<=ws.length/\i= .int .i64 k/\u= .int .i64 (Vp m (ws.take k))/\Bx w wr w.heap.size a0 p0 a1 p1 a2 p2 a3 p3 a4 p4 m/\Below w1.heap.size w1 wr) (fun _ i _=>ws.length-(intOf i).toNat)
 case atStart=>exact ⟨0,ZA _,rfl,rfl,K,Z3 _ _⟩
 case round=>
  obtain ⟨k,hk,rfl,rfl,hK,hb0⟩:=hrel;clear K;have K:=hK;have BB:=Z9 hb0;clear hK hb0;have hub:=DF m (ws.take k);have htl:(ws.take k).length<=ws.length:=by simp;omega
  by_cases hlt:k<ws.length
  ·have hlt1:(k:Int)<(ws.length:Int):=by omega
   obtain ⟨g,hga,_,hgl,hcl,_⟩:=RecAt.view Ze (by omega) (uh HN) rfl (by omega);cases hga;have z0:=hcl k hlt 0 _ rfl;simp only [Nat.mul_one,Nat.add_zero] at z0;have hgw:g<w1.heap.size:=hgl;rw [<-(uh BB).cell (p:=⟨g,k,none⟩) hgw] at z0;obtain ⟨i,hi,hiw⟩:=uh Hwh k hlt;obtain ⟨_,_,hi2,hat⟩:=uh Hat _ (Wd hlt)
   have hpi:(Z8 m.sm i).1 ≠ 0:=by
    rw [hiw] at hi2;obtain rfl:=Int.ofNat.inj hi2;intro e;unfold atB at hat;rw [e] at hat;simp at hat
   clear hcl hi2 hat;have HS:Hid (Vp m (ws.take (k+1))=Vp m (ws.take k)+ZC m (i:Int)):=Z9 (by rw [CC m hlt,hiw]);rw [hiw] at z0;have hwb:=Wr m (i:Int);have HC:=Z9 (fun (X:World) (hX:Smy X (.slice a0 m.rm.length p0) (.slice a1 m.gd.length p1) (.slice a2 m.sm.length p2) (.slice a3 m.dk.length p3) (.slice a4 m.pc.length p4) m)=>Ni hX (uh HW) hi hpi);generalize Vp m (ws.take k)=us at *;generalize ZC m (i:Int)=wa at *;have hgr:g<wr.heap.size:=Y0 hgw (uh BB).size;obtain ⟨c0,c1,c2,c3,c4,c5⟩:=K.cells;go_wp2_with fail;refine ck (uh HC _ K.smy) fun w2 hb=> ?_;replace K:=K.next hb;replace BB:=bt BB hb;clear hb c0 c1 c2 c3 c4 c5 z0;have hlen12:(ws.length:Int)<=12:=by omega
   go_wp2_with fail;go_roundw
   case rel=>exact ⟨k+1,by omega,by go_num,by rw [uh HS],K,uh BB⟩
   case measure=>exact ms
  ·obtain rfl:k=ws.length:=by omega
   rw [List.take_length] at *;obtain rfl:q=Vp m ws:=(uh Hq).symm;go_wp2_with fail;go_ret;exact ⟨rfl,K.bb⟩
theorem Tu {w:World} {v0 v1 v2 v3 v4:Value} {m:Z6} {b:Int} {q:Bool} (hq:WG m b=q) (h:Smy w v0 v1 v2 v3 v4 m):cB 61 #[.agg #[v0,v1,v2,v3,v4,.int .i64 m.now],.int .i64 b] w (.bool q):=by
 have Hq:=Z9 hq;clear hq;obtain ⟨a0,p0,a1,p1,a2,p2,a3,p3,a4,p4,rfl,rfl,rfl,rfl,rfl,K⟩:=Bx.new h;clear h;go_enter func61,ntmps61;go_wp2_with fail;generalize w.alloc (.cells (S6 a0 p0 a1 p1 a2 p2 a3 p3 a4 p4 m) 32)=W at *;refine ck (Oe _ _ _ _ _ _ _ _ _ _ _ _ _ _ _ _ _) fun w2 hb=> ?_;replace K:=K.next hb;clear hb;obtain ⟨qh,Hh⟩:=YV (Xa m.dk.length b);go_wp2_with fail;refine (Rc _ _ _ b _).mono ?_;rw [uh Hh];rintro e w3 ⟨rfl,h9⟩;subst w3;cases qh
 ·obtain rfl:q=false:=by rw [<-uh Hq];unfold WG;rw [uh Hh];rfl
  go_wp2_with fail;go_ret;exact ⟨rfl,K.bb⟩
 have hbb:0<=b/\b<(m.dk.length:Int):=by have:=uh Hh;unfold Xa at this;simpa using this
 obtain ⟨k,rfl⟩:∃ k:Nat,b=k:=⟨b.toNat,by omega⟩
 have hk:k<m.dk.length:=by omega
 have hk1:(k:Int)<(m.dk.length:Int):=by omega
 obtain ⟨_,_,hde,_,_,r3⟩:=K.smy.dk;cases hde
 rcases r3 with e0 | ⟨db,off,rfl,hbw,hcl⟩
 ·rw [e0] at hk;simp at hk
 obtain ⟨d0,d1,d2⟩:=Zh hcl hk;have hq2:(Z8 m.dk k).1=q:=by rw [<-uh Hq];unfold WG;rw [uh Hh,Zp];rfl
 clear hcl Hq;generalize Z8 m.dk k=dd at *;obtain ⟨op,wo,mk⟩:=dd;simp only at d0 d1 d2 hq2;subst hq2;obtain ⟨c0,c1,c2,c3,c4,c5⟩:=K.cells;go_wp2_with fail;refine ck (P8 op wo mk _) fun w4 hb=> ?_;replace K:=K.next hb;clear hb c0 c1 c2 c3 c4 c5 d0 d1 d2;go_wp2_with fail;go_ret;exact ⟨rfl,K.bb⟩
open Go.ChangeShapes Go.WideShapes Go.ChangeAt Go.RowKit Go.Sort Go.Shelf Go.Proofs.Tryz
set_option maxRecDepth 100000
attribute [local go_sem] Oper.semAt_some
theorem Pp {W X:World} (h:Below W.heap.size W X):KeepsOthers W X:=⟨h.size,fun k o hk _=>(h.block k (Array.getElem?_eq_some_iff.1 hk).1).trans hk⟩
theorem FD {W X:World} (h:Below W.heap.size W X) {B:Nat} {t:TypeId} : KeepsBox B t W X:=fun v hv=>(h.block B hv.lt).trans hv
theorem Wf {W X:World} (h:Below W.heap.size W X) {B:Nat} {t:TypeId} {v:Value} (hv:Boxed W B t v):Boxed X B t v:=(h.block B hv.lt).trans hv
def Rnd (w:World) (f:List Int->Int) (a0:Option Addr) (p0:Nat) (a1:Option Addr) (p1:Nat) (a2:Option Addr) (p2:Nat) (a3:Option Addr) (p3:Nat) (a4:Option Addr) (p4:Nat) (m:Z6) (pre:List Int) (W:World):Prop:=Boxed W (w.heap.size+1) 2 (.int .i64 (f pre))/\Bx w W w.heap.size a0 p0 a1 p1 a2 p2 a3 p3 a4 p4 m
theorem Du (w:World) (f:List Int->Int) (a0:Option Addr) (p0:Nat) (a1:Option Addr) (p1:Nat) (a2:Option Addr) (p2:Nat) (a3:Option Addr) (p3:Nat) (a4:Option Addr) (p4:Nat) (m:Z6) (hs:Smy w (.slice a0 m.rm.length p0) (.slice a1 m.gd.length p1) (.slice a2 m.sm.length p2) (.slice a3 m.dk.length p3) (.slice a4 m.pc.length p4) m) {B:Nat} (hB:w.heap.size<=B):OwnFrom B (Rnd w f a0 p0 a1 p1 a2 p2 a3 p3 a4 p4 m):=by
 rintro pre W X row ⟨h1,h2⟩ hg hr;have h4:=h2.bb.grown hg h2.bb.size (fun k e=>Xv hB (hr k e).1);refine ⟨h1.kept hg (fun e=> ?_),hs.below h4,(hg.block _ h2.blk.lt (fun e=> ?_)).trans h2.blk,h4⟩
 ·obtain ⟨_,o,ho,hc⟩:=hr _ e.symm
  rw [show W.heap[w.heap.size+1]?=_ from h1] at ho;cases ho;cases hc
 ·obtain ⟨_,o,ho,hc⟩:=hr _ e.symm
  rw [show W.heap[w.heap.size]?=_ from h2.blk] at ho;cases ho;cases hc
theorem Ib {w W W1 W2:World} {f:List Int->Int} {a0 a1 a2 a3 a4:Option Addr} {p0 p1 p2 p3 p4:Nat} {m:Z6} {pre:List Int} {x v nl:Int} {B S:Nat} (hs:Smy w (.slice a0 m.rm.length p0) (.slice a1 m.gd.length p1) (.slice a2 m.sm.length p2) (.slice a3 m.dk.length p3) (.slice a4 m.pc.length p4) m) (hko:KeepsOthers W W1) (hkb:KeepsBox S 2 W W1) (hb:Below W1.heap.size W1 W2) (hv:Boxed W1 (w.heap.size+1) 2 (.int .i64 nl)) (hK:Bx w W1 w.heap.size a0 p0 a1 p1 a2 p2 a3 p3 a4 p4 m) (hS:w.heap.size+1<S) (e:f (pre++[x])=v) :
  KeepsFrom B W (W2.setCell ⟨w.heap.size+1,0,none⟩ (.int .i64 v))/\KeepsBox S 2 W (W2.setCell ⟨w.heap.size+1,0,none⟩ (.int .i64 v))/\Rnd w f a0 p0 a1 p1 a2 p2 a3 p3 a4 p4 m (pre++[x]) (W2.setCell ⟨w.heap.size+1,0,none⟩ (.int .i64 v)):=by
 have hK2:=hK.next hb;have hbb:Below w.heap.size w (W2.setCell ⟨w.heap.size+1,0,none⟩ (.int .i64 v)):=hK2.bb.setCell (p:=⟨w.heap.size+1,0,none⟩) (Nat.le_succ _) _;refine ⟨((hko.trans (Pp hb)).trans (KeepsOthers.setCell _ _ _)).from _,fun u hu=>(Wf hb (hkb u hu)).other (by omega) _,?_,hs.below hbb,hK2.blk.other (a:=⟨w.heap.size+1,0,none⟩) (by show w.heap.size ≠ w.heap.size+1;omega) _,hbb⟩;rw [e];exact (Wf hb hv).set _
theorem Ce (n:Nat) (hn:3<=n) {w:World} {v0 v1 v2 v3 v4:Value} {m:Z6} {r:Nat} (h:Smy w v0 v1 v2 v3 v4 m) (hS:Sane m) (hW:Wants m) (hr:r<m.rm.length):CallsIn Fence.wide n prog 188 #[.agg #[v0,v1,v2,v3,v4,.int .i64 m.now],.int .i64 (r:Int)] w fun e w'=>e= .returned (.int .i64 (UZ m (Sq (U3 m.rm (r:Int)))))/\Below w.heap.size w w':=by
 have h1:1<=n:=by omega
 have hmo:prog.follows .mixedOrders=true:=by kernel_rfl
 have hl:=hS.few;have HW:=Z9 hW;have Hs:=Z9 h;clear hS hW;obtain ⟨a0,p0,a1,p1,a2,p2,a3,p3,a4,p4,rfl,rfl,rfl,rfl,rfl,K⟩:=Bx.new h;clear h;obtain ⟨st,hst⟩:=ZJ (U3 m.rm (r:Int));rw [hst];have Hst:=Z9 hst;clear hst;refine callsIn_of_wp_marks func188 rfl trivial ?_ rfl;simp only [ntmps188,List.size_toArray,YL,YF,Nat.reduceAdd,Nat.reduceSub,Array.replicate_succ,Array.replicate_zero,List.push_toArray,List.append_toArray,List.nil_append,List.cons_append]
 gi_wp2_with fail
 have bN:=Boxed.new (w.alloc (.cells (S6 a0 p0 a1 p1 a2 p2 a3 p3 a4 p4 m) 32)) 2 (.int .i64 0);rw [XG] at bN;replace K:=K.alloc (.cells #[.int .i64 0] 2);generalize (w.alloc (.cells (S6 a0 p0 a1 p1 a2 p2 a3 p3 a4 p4 m) 32)).alloc (.cells #[.int .i64 0] 2)=W0 at *;refine ⟨trivial,?_⟩;refine (callsIn_wide.2 (SR (r:Int) K.smy.rm)).mono ?_;rw [uh Hst];rintro e w1 ⟨rfl,hb⟩;dsimp only;replace bN:=Wf hb bN;replace K:=K.next hb;clear hb Hst
 gi_wp2_with (refine ⟨trivial,?_⟩;gi_at_call 236;refine (Sp (n-1) _ _).mono ?_;rintro e w' ⟨rfl,rfl⟩)
 have bS:=Boxed.new w1 2 (.int .i64 st);have hsz:=K.bb.size
 refine wpIn_rangeFunc_ownG rfl h1 (gf:=288) (lb:=#[.pointer (some ⟨w1.heap.size,0,none⟩)]) rfl trivial (enters_of func288 (by kernel_rfl) rfl)
  (Tn (n-1) (by omega) w1.heap.size st _ bS) (fun h k=>h.trans k) (KeepsBox.putObj (by simp)) (Z3 _ _) (fun _=>rfl)
  (Rnd w (UZ m) a0 p0 a1 p1 a2 p2 a3 p3 a4 p4 m) (fun _ _ _=>False)
  (Du w (UZ m) a0 p0 a1 p1 a2 p2 a3 p3 a4 p4 m (uh Hs) (by simp;omega))
  (fun _ _ _ _ _ hs _ _=>hs)
  ⟨bN.alloc _,K.alloc _⟩
  (fun x=>{ tmps:=#[.agg (S6 a0 p0 a1 p1 a2 p2 a3 p3 a4 p4 m),.int .i64 (r:Int),.pointer (some ⟨w.heap.size,0,none⟩),undef,.int .i64 0,.pointer (some ⟨w.heap.size+1,0,none⟩),.int .i64 x,.pointer (some ⟨w.heap.size,0,none⟩),.agg #[.slice a0 m.rm.length p0],.int .i64 (r:Int),.int .i64 st,.func (.func 288) #[] #[.pointer (some ⟨w1.heap.size,0,none⟩)],.int .i64 x,undef,undef,undef,undef,undef,undef,undef,undef,undef],defers:=[] }) ?assign ?body ?done ?stop
 case assign=>
  intro l x W K hK
  gi_wp2
  exact hK
 case body=>
  rintro l pre x W ⟨hv,hK⟩ hlt;have hc:=hv.cell;have hf:=hv.frozen;obtain ⟨c0,c1,c2,c3,c4,c5⟩:=hK.cells;obtain ⟨us,hus⟩:=ZJ (Zx m x (-1));have hub:=U4 m x (-1);rw [hus] at hub;have Hus:=Z9 hus;obtain ⟨q,hq⟩:=ZJ (WG m x);have HN:=Z9 (Mw m pre x);have hnb:=AI m hl pre;rw [hq,hus] at HN;clear hus;generalize UZ m pre=nl at *
  gi_wp2_with fail
  refine ⟨trivial,fun _=>(by omega),?_⟩;refine (CallsIn.inRound l (callsIn_wide.2 (Tu hq hK.smy))).mono ?_;rintro e W1 ⟨rfl,hb⟩;dsimp only;have hko:=Pp hb;have hkb:=FD hb (B:=w1.heap.size) (t:=2);replace hv:=Wf hb hv;replace hK:=hK.next hb;clear hb hc hf c0 c1 c2 c3 c4 c5;cases q
  ·gi_wp2_with fail
   exact ⟨hko.from _,hkb,by rw [show Rnd w (UZ m) a0 p0 a1 p1 a2 p2 a3 p3 a4 p4 m (pre++[x]) W1=(Boxed W1 (w.heap.size+1) 2 (.int .i64 (UZ m (pre++[x])))/\Bx w W1 w.heap.size a0 p0 a1 p1 a2 p2 a3 p3 a4 p4 m) from rfl,uh HN];exact ⟨hv,hK⟩⟩
  have hc:=hv.cell;have hf:=hv.frozen;obtain ⟨c0,c1,c2,c3,c4,c5⟩:=hK.cells
  gi_wp2_with fail
  gi_region_with_o (refine ⟨trivial,fun _=>(by omega),?_⟩;gi_at_call 238;refine (CallsIn.inRound l (callsIn_wide.2 (Qk (uh Hus) ?_ (uh HW) hl))).mono ?_;exact hK.smy.below (Z3 _ _).drew;rintro e W2 ⟨rfl,hb2⟩;have Hb2:Hid (Below W1.heap.size W1 W2):=Z9 ⟨hb2.os,hb2.tape,hb2.output,hb2.size,hb2.block⟩;have hv2:=Wf (uh Hb2) hv;have hc2:=hv2.cell;have hf2:=hv2.frozen;clear hb2)
  all_goals
   exact Ib (uh Hs) hko hkb (uh Hb2) hv hK bN.lt (by rw [uh HN];simp only [if_true];omega)
 case done=>
  rintro D ys W hD rfl ⟨hv,hK⟩ hDf;have hc:=hv.cell
  gi_wp2
  refine ⟨by simp,.inl ⟨_,_,rfl,run_takeDeferred hDf,?_⟩⟩;exact ⟨_,results_tmp rfl _ _ _,rfl,hK.bb.trans (belowK_b (w:=w) (Z0 _) W D _ _ (by simp at hD;omega) hDf rfl rfl)⟩
 case stop=>
  rintro D c pre W _ _ h _;exact h.elim
theorem EC {w:World} {v0 v1 v2 v3 v4:Value} {m:Z6} {r:Nat} (h:Smy w v0 v1 v2 v3 v4 m) (hS:Sane m) (hW:Wants m) (hr:r<m.rm.length):cB 188 #[.agg #[v0,v1,v2,v3,v4,.int .i64 m.now],.int .i64 (r:Int)] w (.int .i64 (UZ m (Sq (U3 m.rm (r:Int))))):=callsIn_wide.1 (Ce 3 (Z0 _) h hS hW hr)
theorem CQ (n:Nat) (hn:3<=n) {w:World} {v0 v1 v2 v3 v4:Value} {m:Z6} {r:Nat} (h:Smy w v0 v1 v2 v3 v4 m) (hS:Sane m) (hW:Wants m) (hr:r<m.rm.length):CallsIn Fence.wide n prog 189 #[.agg #[v0,v1,v2,v3,v4,.int .i64 m.now],.int .i64 (r:Int)] w fun e w'=>e= .returned (.int .i64 (Uj m (Sq (U3 m.rm (r:Int)))))/\Below w.heap.size w w':=by
 have h1:1<=n:=by omega
 have hmo:prog.follows .mixedOrders=true:=by kernel_rfl
 have hl:=hS.few;have HW:=Z9 hW;have Hs:=Z9 h;clear hS hW;obtain ⟨a0,p0,a1,p1,a2,p2,a3,p3,a4,p4,rfl,rfl,rfl,rfl,rfl,K⟩:=Bx.new h;clear h;obtain ⟨st,hst⟩:=ZJ (U3 m.rm (r:Int));rw [hst];have Hst:=Z9 hst;clear hst;refine callsIn_of_wp_marks func189 rfl trivial ?_ rfl;simp only [ntmps189,List.size_toArray,YL,YF,Nat.reduceAdd,Nat.reduceSub,Array.replicate_succ,Array.replicate_zero,List.push_toArray,List.append_toArray,List.nil_append,List.cons_append]
 gi_wp2_with fail
 have bN:=Boxed.new (w.alloc (.cells (S6 a0 p0 a1 p1 a2 p2 a3 p3 a4 p4 m) 32)) 2 (.int .i64 0);rw [XG] at bN;replace K:=K.alloc (.cells #[.int .i64 0] 2);generalize (w.alloc (.cells (S6 a0 p0 a1 p1 a2 p2 a3 p3 a4 p4 m) 32)).alloc (.cells #[.int .i64 0] 2)=W0 at *;refine ⟨trivial,?_⟩;refine (callsIn_wide.2 (SR (r:Int) K.smy.rm)).mono ?_;rw [uh Hst];rintro e w1 ⟨rfl,hb⟩;dsimp only;replace bN:=Wf hb bN;replace K:=K.next hb;clear hb Hst
 gi_wp2_with (refine ⟨trivial,?_⟩;gi_at_call 236;refine (Sp (n-1) _ _).mono ?_;rintro e w' ⟨rfl,rfl⟩)
 have bS:=Boxed.new w1 2 (.int .i64 st);have hsz:=K.bb.size
 refine wpIn_rangeFunc_ownG rfl h1 (gf:=288) (lb:=#[.pointer (some ⟨w1.heap.size,0,none⟩)]) rfl trivial (enters_of func288 (by kernel_rfl) rfl)
  (Tn (n-1) (by omega) w1.heap.size st _ bS) (fun h k=>h.trans k) (KeepsBox.putObj (by simp)) (Z3 _ _) (fun _=>rfl)
  (Rnd w (Uj m) a0 p0 a1 p1 a2 p2 a3 p3 a4 p4 m) (fun _ _ _=>False)
  (Du w (Uj m) a0 p0 a1 p1 a2 p2 a3 p3 a4 p4 m (uh Hs) (by simp;omega))
  (fun _ _ _ _ _ hs _ _=>hs)
  ⟨bN.alloc _,K.alloc _⟩
  (fun x=>{ tmps:=#[.agg (S6 a0 p0 a1 p1 a2 p2 a3 p3 a4 p4 m),.int .i64 (r:Int),.pointer (some ⟨w.heap.size,0,none⟩),undef,.int .i64 0,.pointer (some ⟨w.heap.size+1,0,none⟩),.int .i64 x,.pointer (some ⟨w.heap.size,0,none⟩),.agg #[.slice a0 m.rm.length p0],.int .i64 (r:Int),.int .i64 st,.func (.func 288) #[] #[.pointer (some ⟨w1.heap.size,0,none⟩)],.int .i64 x,undef,undef,undef,undef,undef,undef],defers:=[] }) ?assign ?body ?done ?stop
 case assign=>
  intro l x W K hK
  gi_wp2
  exact hK
 case body=>
  rintro l pre x W ⟨hv,hK⟩ hlt;have hc:=hv.cell;have hf:=hv.frozen;obtain ⟨c0,c1,c2,c3,c4,c5⟩:=hK.cells;obtain ⟨us,hus⟩:=ZJ (Zx m x (-1));have hub:=U4 m x (-1);rw [hus] at hub;have Hus:=Z9 hus;have HN:=Z9 (Np m pre x);have hnb:=Bt m hl pre;rw [hus] at HN;clear hus;generalize Uj m pre=nl at *;obtain ⟨W1,hW1⟩:∃ X,X=W:=⟨_,rfl⟩
  subst hW1;have hwr:IntKind.i64.wrap (nl+us)=nl+us:=by rw [IntKind.wrap_i64];omega
  gi_wp2_with fail
  gi_region_with_o (refine ⟨trivial,fun _=>(by omega),?_⟩;gi_at_call 238;refine (CallsIn.inRound l (callsIn_wide.2 (Qk (uh Hus) ?_ (uh HW) hl))).mono ?_;exact hK.smy.below (Z3 _ _).drew;rintro e W2 ⟨rfl,hb2⟩;have Hb2:Hid (Below W1.heap.size W1 W2):=Z9 ⟨hb2.os,hb2.tape,hb2.output,hb2.size,hb2.block⟩;have hv2:=Wf (uh Hb2) hv;have hc2:=hv2.cell;have hf2:=hv2.frozen;clear hb2)
  all_goals
   exact Ib (uh Hs) (KeepsOthers.refl _) (fun _ h=>h) (uh Hb2) hv hK bN.lt (by rw [uh HN])
 case done=>
  rintro D ys W hD rfl ⟨hv,hK⟩ hDf;have hc:=hv.cell
  gi_wp2
  refine ⟨by simp,.inl ⟨_,_,rfl,run_takeDeferred hDf,?_⟩⟩;exact ⟨_,results_tmp rfl _ _ _,rfl,hK.bb.trans (belowK_b (w:=w) (Z0 _) W D _ _ (by simp at hD;omega) hDf rfl rfl)⟩
 case stop=>
  rintro D c pre W _ _ h _;exact h.elim
theorem Fs {w:World} {v0 v1 v2 v3 v4:Value} {m:Z6} {r:Nat} (h:Smy w v0 v1 v2 v3 v4 m) (hS:Sane m) (hW:Wants m) (hr:r<m.rm.length):cB 189 #[.agg #[v0,v1,v2,v3,v4,.int .i64 m.now],.int .i64 (r:Int)] w (.int .i64 (Uj m (Sq (U3 m.rm (r:Int))))):=callsIn_wide.1 (CQ 3 (Z0 _) h hS hW hr)
end Go.Proofs.YtgdpaigcmoifbaaGreat
namespace Go.Proofs.YtgdpaigcmoifbaaGreat
open Go.ChangeShapes Go.WideShapes Go.ChangeAt Go.RowKit Go.Sort Go.Shelf Go.Proofs.Tryz
set_option linter.unusedVariables false
set_option maxRecDepth 100000
theorem Bx.of {w:World} {a0 a1 a2 a3 a4:Option Addr} {p0 p1 p2 p3 p4:Nat} {m:Z6} (h:Smy w (.slice a0 m.rm.length p0) (.slice a1 m.gd.length p1) (.slice a2 m.sm.length p2) (.slice a3 m.dk.length p3) (.slice a4 m.pc.length p4) m):Bx w (w.alloc (.cells (S6 a0 p0 a1 p1 a2 p2 a3 p3 a4 p4 m) 32)) w.heap.size a0 p0 a1 p1 a2 p2 a3 p3 a4 p4 m:=⟨h.alloc _,Blk.new _ _ _,(ba _ _)⟩
theorem FU {w:World} {a0 a1 a2 a3 a4:Option Addr} {p0 p1 p2 p3 p4:Nat} {m:Z6} (h:Smy w (.slice a0 m.rm.length p0) (.slice a1 m.gd.length p1) (.slice a2 m.sm.length p2) (.slice a3 m.dk.length p3) (.slice a4 m.pc.length p4) m):Calls prog 127 #[.agg (S6 a0 p0 a1 p1 a2 p2 a3 p3 a4 p4 m)] w fun e w'=>e= .returned (.func (Fn.func 186) #[] #[.pointer (some ⟨w.heap.size,0,none⟩)])/\Bx w w' w.heap.size a0 p0 a1 p1 a2 p2 a3 p3 a4 p4 m:=by
 have K:=Bx.of h;clear h;go_enter func127,ntmps127;go_wp2_with fail;go_ret;exact ⟨rfl,K⟩
theorem D2 {w0 w:World} {R r:Nat} {a0 a1 a2 a3 a4:Option Addr} {p0 p1 p2 p3 p4:Nat} {m:Z6} (K:Bx w0 w R a0 p0 a1 p1 a2 p2 a3 p3 a4 p4 m) (hS:Sane m) (hW:Wants m) (hr:r<m.rm.length):cB 186 #[.int .i64 (r:Int),.pointer (some ⟨R,0,none⟩)] w (.int .i64 (Wv m r)):=by
 have hr1:(r:Int)<(m.rm.length:Int):=by omega
 have HM:=Z9 (Cr hS hr);have HN:=Z9 (fun (X:World) (hX:Below w.heap.size w X)=>EC (K.smy.below hX) hS hW hr);have HK:=Z9 (fun (X:World) (hX:Below w.heap.size w X)=>Fs (K.smy.below hX) hS hW hr);clear hS hW;have Hc:Hid (Wv m r=Qc (ZQ m.rm r) (UZ m (Sq (U3 m.rm (r:Int)))) (Uj m (Sq (U3 m.rm (r:Int))))):=Z9 (by rw [(uh HM).1,(uh HM).2];rfl);rw [uh Hc];clear Hc HM;obtain ⟨_,_,hre,_,_,r0⟩:=K.smy.rm;cases hre
 rcases r0 with e0 | ⟨rb,off,rfl,hbw,hcl⟩
 ·rw [e0] at hr;simp at hr
 obtain ⟨d0,pv,d1,hpv⟩:=hcl r hr;clear hcl;generalize UZ m (Sq (U3 m.rm (r:Int)))=ne at *;generalize Uj m (Sq (U3 m.rm (r:Int)))=wo at *;obtain ⟨⟨n,ps⟩,hrm⟩:=ZJ (ZQ m.rm r);rw [hrm] at d0 hpv ⊢;clear hrm;simp only at d0 hpv;have Hpv:=Z9 hpv;obtain ⟨pa,pc,rfl,_,_,_⟩:=hpv;obtain ⟨c0,c1,c2,c3,c4,c5⟩:=K.cells;have k0:=ZX c0;have k1:=ZX c1;have k2:=ZX c2;have k3:=ZX c3;have k4:=ZX c4;have k5:=ZX c5;have k6:=ZX d0;have k7:=ZX d1;go_enter func186,ntmps186;go_wp2_with fail;refine wq ?_
 repeat (go_big_quiet_step (first | exact ZZ (uh HN _ (Z1 _ _ _)) | exact ZZ (uh HK _ (Z1 _ _ _)) | exact ZZ (Px _ _ _ ((uh Hpv).below (Z1 _ _ _)))))
 refine wpQuiet_nil ?_;intro _ hw';obtain ⟨⟨dq,osq⟩,hw''⟩:=hw';subst hw'';go_wp2_with fail;go_ret;exact ⟨rfl,Z1 _ _ _⟩
theorem JD {w0 w:World} {R:Nat} {a0 a1 a2 a3 a4 b0:Option Addr} {p0 p1 p2 p3 p4 q0:Nat} {m:Z6} (K:Bx w0 w R a0 p0 a1 p1 a2 p2 a3 p3 a4 p4 m) (hS:Sane m) (hW:Wants m):cB 126 #[.slice b0 m.rm.length q0,.func (Fn.func 186) #[] #[.pointer (some ⟨R,0,none⟩)]] w (.int .i64 (WK m)):=by
 have h3:=(Zj hS.hall).2.1;have Hbd:=Z9 (OO m);have HC:=Z9 (fun (X:World) (hX:Below w.heap.size w X) (k:Nat) (hk:k<m.rm.length)=>D2 (K.next hX) hS hW hk);clear hS hW K;go_enter func126,ntmps126;go_wp2_with fail
 go_loopw [5,9] (fun n i wr=> ∃ k:Nat,k<=m.rm.length/\i= .int .i64 k/\n= .int .i64 (Xg m k)/\Below w.heap.size w wr) (fun _ i _=>m.rm.length-(intOf i).toNat)
 case atStart=>exact ⟨0,ZA _,rfl,rfl,Z3 _ _⟩
 case round=>
  obtain ⟨k,hk,rfl,rfl,hb0⟩:=hrel;obtain ⟨u0,u1⟩:=uh Hbd k;obtain ⟨u2,u3⟩:=uh Hbd (k+1);have hst:Xg m (k+1)=Xg m k+Wv m k:=rfl;rw [hst] at u2 u3;have Hst:=Z9 hst;have BB:=Z9 hb0;clear hb0 hst;by_cases hlt:k<m.rm.length
  ·have hlt1:(k:Int)<(m.rm.length:Int):=by omega
   have HD:=Z9 (uh HC wr (uh BB) k hlt);generalize Wv m k=ci at *;generalize Xg m k=ct at *;go_wp2_with fail;refine ck (uh HD) fun w1 hb=> ?_;replace BB:=bt BB hb;clear hb HD;go_wp2_with fail;go_roundw
   case rel=>exact ⟨k+1,by omega,by go_num,by rw [uh Hst],uh BB⟩
   case measure=>exact ms
  ·obtain rfl:k=m.rm.length:=by omega
   go_wp2_with fail;go_ret;exact ⟨rfl,uh BB⟩
open Go.ChangeShapes Go.WideShapes Go.ChangeAt Go.RowKit Go.Sort
def yP (s:Z2):Z2:=(1,s.2)
def WU (m:Z6) (who:Int):Z6:={ m with sm:=m.sm.set who.toNat (yP (Z8 m.sm who.toNat)) }
theorem Nt (m:Z6) {k:Nat} (hk:k<m.sm.length) (i:Nat):Z8 (WU m (k:Int)).sm i=if i=k then yP (Z8 m.sm k) else Z8 m.sm i:=by
 unfold WU;simp only [Zp];exact ZD hk i
theorem Lr (m:Z6) (who:Int):(WU m who).sm.length=m.sm.length:=by unfold WU;simp
theorem By (m:Z6) {k:Nat} (hk:k<m.sm.length) (x:Int):ZC (WU m (k:Int)) x=ZC m x:=by
 unfold ZC;rw [Nt m hk];by_cases e:x.toNat=k
 ·rw [if_pos e,e];rfl
 ·rw [if_neg e];rfl
def RK (m:Z6) (but:Int):List Z4->Int
 | []=>0
 | e::q=>(if e.2=but then 0 else ZC m e.2)+RK m but q
theorem Iq (m:Z6) (but:Int) (a b:List Z4):RK m but (a++b)=RK m but a+RK m but b:=by
 induction a with
 | nil=>show RK m but b=0+RK m but b;omega
 | cons e a ih=>show _+RK m but (a++b)=_+RK m but a+RK m but b;omega
theorem RD (m:Z6) (but:Int) (q:List Z4) (e:Z4):RK m but (Vm q e)=RK m but q+(if e.2=but then 0 else ZC m e.2):=by
 have h:=Iq m but (q.take (XI e q)) (q.drop (XI e q));rw [List.take_append_drop] at h;unfold Vm;rw [Iq,h];show _+((if e.2=but then 0 else ZC m e.2)+_)=_;omega
theorem DJ (m:Z6) (but:Int):∀ (q:List Z4) (n:Int),q.foldl (fun n e=>if e.2=but then n else n+ZC m e.2) n=n+RK m but q
 | [],n=>by show n=n+0;omega
 | e::q,n=>by
  have ih:=DJ m but q (if e.2=but then n else n+ZC m e.2);rw [List.foldl_cons,ih];show _=n+((if e.2=but then 0 else ZC m e.2)+RK m but q)
  split<;>omega
theorem NA (m:Z6) (b but:Int):Zx m b but=RK m but (atV m.sm b m.sm.length):=by
 have:=DJ m but (atV m.sm b m.sm.length) 0;unfold Zx UE;omega
theorem Is (m:Z6) {k:Nat} (hk:k<m.sm.length) (b:Int):∀ j,RK (WU m (k:Int)) (-1) (atV (WU m (k:Int)).sm b j)=RK m (k:Int) (atV m.sm b j)
 | 0=>rfl
 | j+1=>by
  have ih:=Is m hk b j;by_cases e:j=k
  ·subst e
   rw [TJ (ss:=(WU m (j:Int)).sm) (by rw [Nt m hk,if_pos rfl];rintro ⟨_,h⟩;cases h),ih];by_cases hat:(Z8 m.sm j).2.1=b/\ZL (Z8 m.sm j)=true
   ·rw [U7 hat.1 hat.2,RD,if_pos rfl];omega
   ·rw [TJ hat]
  ·have hr:Z8 (WU m (k:Int)).sm j=Z8 m.sm j:=by rw [Nt m hk,if_neg e]
   by_cases hat:(Z8 m.sm j).2.1=b/\ZL (Z8 m.sm j)=true
   ·rw [U7 (ss:=(WU m (k:Int)).sm) (by rw [hr];exact hat.1) (by rw [hr];exact hat.2),U7 hat.1 hat.2,RD,RD,ih,By m hk]
    show _+(if (j:Int)= -1 then 0 else ZC m (j:Int))=_+(if (j:Int)=(k:Int) then 0 else ZC m (j:Int));rw [if_neg (by omega),if_neg (by omega)]
   ·rw [TJ (ss:=(WU m (k:Int)).sm) (by rw [hr];exact hat),TJ hat,ih]
theorem CM (m:Z6) {k:Nat} (hk:k<m.sm.length) (b:Int):Zx (WU m (k:Int)) b (-1)=Zx m b (k:Int):=by
 rw [NA,NA,Lr];exact Is m hk b _
def Ru (m:Z6) (k:Nat) (b:Int):Int:=if (Z8 m.sm k).2.1=b/\ZL (Z8 m.sm k)=true then ZC m (k:Int) else 0
theorem DG (m:Z6) (k:Nat) (b:Int):∀ j,RK m (k:Int) (atV m.sm b j)=RK m (-1) (atV m.sm b j)-(if k<j then Ru m k b else 0)
 | 0=>by show (0:Int)=0-(if k<0 then _ else 0);rw [if_neg (by omega)];rfl
 | j+1=>by
  have ih:=DG m k b j;by_cases hat:(Z8 m.sm j).2.1=b/\ZL (Z8 m.sm j)=true
  ·rw [U7 hat.1 hat.2,RD,RD,ih]
   show _+(if (j:Int)=(k:Int) then 0 else ZC m (j:Int))=_+(if (j:Int)= -1 then 0 else ZC m (j:Int))-_;rw [if_neg (show ¬ (j:Int)= -1 by omega)];by_cases e:j=k
   ·subst e
    rw [if_pos rfl,if_neg (by omega),if_pos (by omega)];unfold Ru;rw [if_pos hat];omega
   ·rw [if_neg (show ¬ (j:Int)=(k:Int) by omega)]
    by_cases hl:k<j
    ·rw [if_pos hl,if_pos (show k<j+1 by omega)];omega
    ·rw [if_neg hl,if_neg (show ¬ k<j+1 by omega)];omega
  ·rw [TJ hat,ih]
   by_cases e:j=k
   ·subst e
    rw [if_neg (by omega),if_pos (by omega)];unfold Ru;rw [if_neg hat]
   ·by_cases hl:k<j
    ·rw [if_pos hl,if_pos (by omega)]
    ·rw [if_neg hl,if_neg (by omega)]
theorem ID (m:Z6) {k:Nat} (hk:k<m.sm.length) (b:Int):Zx m b (k:Int)=Zx m b (-1)-Ru m k b:=by
 rw [NA,NA,DG,if_pos hk]
theorem Wants.away {m:Z6} (h:Wants m) {k:Nat} (hk:k<m.sm.length) (hs:(Z8 m.sm k).1 ≠ 0):Wants (WU m (k:Int)):=by
 refine ⟨h.gd,fun i hi hne=> ?_⟩;rw [Lr] at hi;rw [Nt m hk] at hne ⊢;by_cases e:i=k
 ·rw [if_pos e];exact h.each k hk hs
 ·rw [if_neg e] at hne ⊢;exact h.each i hi hne
abbrev YI:=Int × Int × Int
def R8 (m:Z6) (k:Nat):YI:=((k:Int),Zx m (k:Int) (-1),Zo m.rm (k:Int))
def XK (m:Z6):Nat->List YI
 | 0=>[]
 | k+1=>if (Z8 m.dk k).1 then XK m k++[R8 m k] else XK m k
theorem Qe {m:Z6} {k:Nat} (h:(Z8 m.dk k).1=true):XK m (k+1)=XK m k++[R8 m k]:=by show (if _ then _ else _)=_;rw [if_pos h]
theorem O4 {m:Z6} {k:Nat} (h:(Z8 m.dk k).1=false):XK m (k+1)=XK m k:=by show (if _ then _ else _)=_;rw [h];rfl
theorem Ss (m:Z6):∀ k,(XK m k).length<=k
 | 0=>Z0 _
 | k+1=>by
  have:=Ss m k;unfold XK
  split
  ·simp;omega
  ·omega
theorem Su (m:Z6) (x:YI):∀ k,x ∈ XK m k ↔ ∃ b:Nat,b<k/\(Z8 m.dk b).1=true/\x=R8 m b
 | 0=>by simp [XK]
 | k+1=>by
  have ih:=Su m x k;cases ho:(Z8 m.dk k).1
  ·rw [O4 ho,ih]
   constructor
   ·rintro ⟨b,hb,h⟩;exact ⟨b,by omega,h⟩
   ·rintro ⟨b,hb,h1,h2⟩
    by_cases e:b=k
    ·subst e;rw [ho] at h1;cases h1
    ·exact ⟨b,by omega,h1,h2⟩
  ·rw [Qe ho,List.mem_append,ih]
   constructor
   ·rintro (⟨b,hb,h⟩ | h)
    ·exact ⟨b,by omega,h⟩
    ·exact ⟨k,by omega,ho,by simpa using h⟩
   ·rintro ⟨b,hb,h1,h2⟩
    by_cases e:b=k
    ·subst e;right;simp [h2]
    ·left;exact ⟨b,by omega,h1,h2⟩
def KJ (m:Z6) (who:Int) (k:Nat):YI:=((k:Int),Zx m (k:Int) who,Zo m.rm (k:Int))
def WE (m:Z6) (who:Int):Nat->List YI
 | 0=>[]
 | k+1=>if Zk m who k then WE m who k++[KJ m who k] else WE m who k
theorem QJ {m:Z6} {who:Int} {k:Nat} (h:Zk m who k=true):WE m who (k+1)=WE m who k++[KJ m who k]:=by show (if _ then _ else _)=_;rw [if_pos h]
theorem Rq {m:Z6} {who:Int} {k:Nat} (h:Zk m who k=false):WE m who (k+1)=WE m who k:=by show (if _ then _ else _)=_;rw [h];rfl
theorem O2 (m:Z6) (who:Int) (x:YI):∀ k,x ∈ WE m who k ↔ ∃ b:Nat,b<k/\Zk m who b=true/\x=KJ m who b
 | 0=>by simp [WE]
 | k+1=>by
  have ih:=O2 m who x k;cases ho:Zk m who k
  ·rw [Rq ho,ih]
   constructor
   ·rintro ⟨b,hb,h⟩;exact ⟨b,by omega,h⟩
   ·rintro ⟨b,hb,h1,h2⟩
    by_cases e:b=k
    ·subst e;rw [ho] at h1;cases h1
    ·exact ⟨b,by omega,h1,h2⟩
  ·rw [QJ ho,List.mem_append,ih]
   constructor
   ·rintro (⟨b,hb,h⟩ | h)
    ·exact ⟨b,by omega,h⟩
    ·exact ⟨k,by omega,ho,by simpa using h⟩
   ·rintro ⟨b,hb,h1,h2⟩
    by_cases e:b=k
    ·subst e;right;simp [h2]
    ·left;exact ⟨b,by omega,h1,h2⟩
theorem O0 (m:Z6) (who:Int):∀ k,(WE m who k).length<=k
 | 0=>Z0 _
 | k+1=>by
  have:=O0 m who k;unfold WE
  split
  ·simp;omega
  ·omega
def Tv (m:Z6) (k:Nat) (x:YI):Bool:=V6 (Z8 m.sm k).2.2.2.1 x.1
theorem GP (m:Z6) {k:Nat} (hk:k<m.sm.length):∀ n,(XK (WU m (k:Int)) n).filter (Tv m k)=WE m (k:Int) n
 | 0=>rfl
 | n+1=>by
  have ih:=GP m hk n;have hd:(WU m (k:Int)).dk=m.dk:=rfl;have hm:Zk m (k:Int) n=((Z8 m.dk n).1 && V6 (Z8 m.sm k).2.2.2.1 (n:Int)):=rfl;have hi:Tv m k (R8 (WU m (k:Int)) n)=V6 (Z8 m.sm k).2.2.2.1 (n:Int):=rfl;cases ho:(Z8 m.dk n).1
  ·rw [O4 (by rw [hd];exact ho),ih,Rq (by rw [hm,ho];rfl)]
  ·rw [Qe (by rw [hd];exact ho),List.filter_append,ih]
   cases hb:V6 (Z8 m.sm k).2.2.2.1 (n:Int)
   ·rw [Rq (by rw [hm,ho,hb];rfl),List.filter_cons_of_neg (by rw [hi,hb];simp)]
    simp
   ·rw [QJ (by rw [hm,ho,hb];rfl),List.filter_cons_of_pos (by rw [hi,hb])]
    have hv:R8 (WU m (k:Int)) n=KJ m (k:Int) n:=by unfold R8 KJ;rw [CM m hk];rfl
    rw [hv];rfl
def LV (m:Z6) (who:Int):List YI:=if ZM m && Yn m who then WE m who m.dk.length else []
def XJ (m:Z6) (who b:Int):Bool:=ZM m && (Yn m who && (Y1 m b && Zk m who b.toNat))
def Zi (m:Z6) (who:Int):List Int:=if ZM m && Yn m who then Zr m who else []
def Xx (m:Z6):Bool:=ZM m && XT m
def X9 (m:Z6) (who:Int):Int:=if ZM m && Yn m who then Zl m who else -1
theorem zk (m:Z6) (who b:Int):(LV m who).any (fun x=>x.1 ==b)=XJ m who b:=by
 unfold LV XJ;cases h1:ZM m
 ·rfl
 cases h2:Yn m who
 ·rfl
 simp only [Bool.and_self,if_true,Bool.true_and];rw [Bool.eq_iff_iff,List.any_eq_true,ZO];unfold Y1 inB;rw [decide_eq_true_iff];constructor
 ·rintro ⟨x,hx,he⟩
  obtain ⟨j,hj,hm,rfl⟩:=(O2 m who x _).1 hx;have he2:(j:Int)=b:=by simpa [KJ] using he
  subst he2;exact ⟨⟨by omega,by omega⟩,by rw [Zp];exact hm⟩
 ·rintro ⟨⟨h3,h4⟩,hm⟩
  exact ⟨KJ m who b.toNat,(O2 m who _ _).2 ⟨b.toNat,by omega,hm,rfl⟩,by simp only [KJ,beq_iff_eq];omega⟩
def Xo (wn:Int) (x:YI):Bool:=WW wn x.2.1 x.2.2
theorem Nx (m:Z6) (who:Int):∀ k,((WE m who k).filter (Xo (ZC m who))).map (·.1)=VI m who k
 | 0=>rfl
 | k+1=>by
  have ih:=Nx m who k;have hf:Pv m who k=(Zk m who k && Xo (ZC m who) (KJ m who k)):=rfl;cases hm:Zk m who k
  ·rw [Rq hm,ih]
   show _=if _ then _ else _
   rw [hf,hm];rfl
  ·rw [QJ hm,List.filter_append,List.map_append,ih]
   show _=if _ then _ else _
   cases ht:Xo (ZC m who) (KJ m who k)
   ·rw [hf,hm,ht,List.filter_cons_of_neg (by rw [ht];simp)];simp
   ·rw [hf,hm,ht,List.filter_cons_of_pos ht];rfl
theorem C4 (m:Z6) (who:Int):((LV m who).filter (Xo (YM m who))).map (·.1)=Zi m who:=by
 unfold LV Zi YM;cases h:(ZM m && Yn m who)
 ·rfl
 ·simp only [if_true];exact Nx m who _
def PL (a:Int × Int) (x:YI):Int × Int:=if a.1= -1\/a.2<XX x.2.1 x.2.2 then (x.1,XX x.2.1 x.2.2) else a
def Ry (l:List YI):Int × Int:=l.foldl PL (-1,0)
theorem MK (l:List YI) (x:YI):Ry (l++[x])=PL (Ry l) x:=by unfold Ry;rw [List.foldl_append];rfl
theorem GG (m:Z6) (who:Int):∀ k,Ry (WE m who k)=YX m who k
 | 0=>rfl
 | k+1=>by
  have ih:=GG m who k;have ho:=Jn m who k
  have hn:((YX m who k).1<0) ↔ (YX m who k).1= -1:=by
   rcases ho with ⟨e,_⟩ | ⟨b,_,e,_⟩
   ·rw [e];omega
   ·rw [e];omega
  have hM:YX m who (k+1)=if Zk m who k && (decide ((YX m who k).1<0) || decide ((YX m who k).2<XX (Zx m k who) (Zo m.rm k))) then ((k:Int),XX (Zx m k who) (Zo m.rm k)) else YX m who k:=rfl
  rw [hM];cases hm:Zk m who k
  ·rw [Rq hm,ih];rfl
  ·rw [QJ hm,MK,ih]
   show (if (YX m who k).1= -1\/(YX m who k).2<XX (Zx m k who) (Zo m.rm k) then _ else _)=_;by_cases hc:(YX m who k).1= -1\/(YX m who k).2<XX (Zx m k who) (Zo m.rm k)
   ·rw [if_pos hc,if_pos (by rw [Bool.true_and,Bool.or_eq_true,decide_eq_true_iff,decide_eq_true_iff,hn];exact hc)];rfl
   ·rw [if_neg hc,if_neg (by rw [Bool.true_and,Bool.or_eq_true,decide_eq_true_iff,decide_eq_true_iff,hn];exact hc)]
def Xe (m:Z6) (who:Int) (a:Int × Int) (b:Int):Int × Int:=if a.1= -1\/ZS m who b<a.2\/(ZS m who b=a.2/\b=(Z8 m.sm who.toNat).2.1) then (b,ZS m who b) else a
def UG (m:Z6) (who:Int) (f:List Int):Int × Int:=f.foldl (Xe m who) (-1,0)
theorem FK (m:Z6) (who:Int) (f:List Int) (b:Int):UG m who (f++[b])=Xe m who (UG m who f) b:=by unfold UG;rw [List.foldl_append];rfl
theorem Lw (m:Z6) (who:Int):∀ (f:List Int) (a:Int × Int),0<=a.1->(∀ x ∈ f,0<=x)->f.foldl (Xe m who) a=f.foldl (YP m who) a
 | [],a,_,_=>rfl
 | b::f,a,h0,hf=>by
  have e:Xe m who a b=YP m who a b:=by
   unfold Xe YP;by_cases hc:ZS m who b<a.2\/(ZS m who b=a.2/\b=(Z8 m.sm who.toNat).2.1)
   ·rw [if_pos hc,if_pos (.inr hc)]
   ·rw [if_neg hc,if_neg (not_or.2 ⟨by omega,hc⟩)]
  rw [List.foldl_cons,List.foldl_cons,e];refine Lw m who f _ ?_ (fun x hx=>hf x (List.mem_cons_of_mem _ hx));unfold YP
  split
  ·exact hf b (by simp)
  ·exact h0
theorem DT (m:Z6) (who:Int) {f:List Int} (h:0<f.length) (hf:∀ x ∈ f,0<=x):UG m who f=XE m who f f.length:=by
 obtain ⟨x,r,rfl⟩:∃ x r,f=x::r:=by
  cases f with
  | nil=>simp at h
  | cons x r=>exact ⟨x,r,rfl⟩
 unfold UG XE;rw [List.take_length,List.foldl_cons];show r.foldl (Xe m who) (Xe m who (-1,0) x)=r.foldl (YP m who) (x,ZS m who x);have e:Xe m who (-1,0) x=(x,ZS m who x):=by unfold Xe;rw [if_pos (.inl rfl)]
 rw [e];exact Lw m who r _ (hf x (by simp)) (fun y hy=>hf y (by simp [hy]))
theorem F4 {m:Z6} {who x:Int} (h:x ∈ Zr m who):∃ b:Nat,b<m.dk.length/\x=(b:Int)/\Zk m who b=true:=by
 obtain ⟨b,hb,e,hf⟩:=(SP m who x m.dk.length).1 h;unfold Pv at hf;simp only [ZO] at hf;exact ⟨b,hb,e,hf.1⟩
theorem OS (m:Z6) (who:Int):∀ k,(VI m who k).Pairwise (· < ·)
 | 0=>List.Pairwise.nil
 | k+1=>by
  have ih:=OS m who k;unfold VI
  split
  ·refine List.pairwise_append.2 ⟨ih,List.pairwise_singleton _ _,fun a ha b hb=> ?_⟩
   obtain ⟨j,hj,rfl,_⟩:=(SP m who a k).1 ha;have:b=(k:Int):=by simpa using hb
   omega
  ·exact ih
theorem zi (m:Z6) (who:Int):(Zi m who).Pairwise (· < ·):=by
 unfold Zi
 split
 ·exact OS m who _
 ·exact List.Pairwise.nil
theorem I0 (m:Z6) (who:Int) (own:Int) (ho:own=(Z8 m.sm who.toNat).2.1):∀ (f:List Int) (a:Int × Int) (seen:List Int),a.2=ZS m who a.1->a.1 ∈ seen->(seen++f).Pairwise (· < ·)->
  (∀ x ∈ seen,a.2<=ZS m who x/\(ZS m who x=a.2->a.1=own\/(x ≠ own/\a.1<=x)))->
  (f.foldl (YP m who) a).2=ZS m who (f.foldl (YP m who) a).1/\(f.foldl (YP m who) a).1 ∈ seen++f/\ ∀ x ∈ seen++f,(f.foldl (YP m who) a).2<=ZS m who x/\(ZS m who x=(f.foldl (YP m who) a).2->(f.foldl (YP m who) a).1=own\/(x ≠ own/\(f.foldl (YP m who) a).1<=x))
 | [],a,seen,h1,h2,h3,h4=>by
  rw [List.append_nil];exact ⟨h1,h2,h4⟩
 | b::f,a,seen,h1,h2,h3,h4=>by
  have hlt:∀ x ∈ seen,x<b:=fun x hx=>(List.pairwise_append.1 h3).2.2 x hx b (by simp);have hs:seen++b::f=(seen++[b])++f:=by simp
  rw [hs] at h3 ⊢;rw [List.foldl_cons];by_cases hc:ZS m who b<a.2\/(ZS m who b=a.2/\b=(Z8 m.sm who.toNat).2.1)
  ·have e:YP m who a b=(b,ZS m who b):=by unfold YP;rw [if_pos hc]
   rw [e];refine I0 m who own ho f _ (seen++[b]) rfl (by simp) h3 (fun x hx=> ?_);rw [List.mem_append] at hx
   rcases hx with hx | hx
   ·obtain ⟨k1,k2⟩:=h4 x hx
    refine ⟨?_,fun e2=> ?_⟩
    ·show ZS m who b<=_
     rcases hc with h | ⟨h,_⟩<;>omega
    ·have e3:ZS m who x=ZS m who b:=e2
     rcases hc with h | ⟨h,h'⟩
     ·omega
     ·left;show b=own;rw [ho];exact h'
   ·have:x=b:=by simpa using hx
    subst this;refine ⟨Int.le_refl _,fun _=> ?_⟩;by_cases e9:x=own
    ·exact .inl e9
    ·exact .inr ⟨e9,Int.le_refl _⟩
  ·have e:YP m who a b=a:=by unfold YP;rw [if_neg hc]
   rw [e];refine I0 m who own ho f a (seen++[b]) h1 (by simp [h2]) h3 (fun x hx=> ?_);rw [List.mem_append] at hx
   rcases hx with hx | hx
   ·exact h4 x hx
   ·have:x=b:=by simpa using hx
    subst this;refine ⟨by omega,fun e2=> ?_⟩;right;refine ⟨fun e9=>hc (.inr ⟨e2,by rw [<-ho];exact e9⟩),?_⟩;have:=hlt a.1 h2;omega
theorem zX {m:Z6} {who:Int} (hc:XT m=false) (hl:0<(Zr m who).length):Zl m who ∈ Zr m who/\ ∀ x ∈ Zr m who,ZS m who (Zl m who)<=ZS m who x/\(ZS m who x=ZS m who (Zl m who)->Zl m who=(Z8 m.sm who.toNat).2.1\/(x ≠ (Z8 m.sm who.toNat).2.1/\Zl m who<=x)):=by
 have hr:=OS m who m.dk.length;have hv:Zl m who=(XE m who (Zr m who) (Zr m who).length).1:=by unfold Zl;rw [hc,if_pos (by simp;omega)]
 rw [hv];have hF:Zr m who=VI m who m.dk.length:=rfl;rw [<-hF] at hr;generalize Zr m who=f at *
 obtain ⟨x,r,rfl⟩:∃ x r,f=x::r:=by
  cases f with
  | nil=>simp at hl
  | cons x r=>exact ⟨x,r,rfl⟩
 unfold XE;rw [List.take_length]
 obtain ⟨h1,h2,h3⟩:=I0 m who _ rfl r (x,ZS m who x) [x] rfl (by simp) hr (fun y hy=>by
  have:y=x:=by simpa using hy
  subst this;refine ⟨Int.le_refl _,fun _=> ?_⟩;by_cases e9:y=(Z8 m.sm who.toNat).2.1
  ·exact .inl e9
  ·exact .inr ⟨e9,Int.le_refl _⟩)
 show (r.foldl (YP m who) (x,ZS m who x)).1 ∈ x::r/\_;refine ⟨h2,fun y hy=> ?_⟩;have:=h3 y hy;rw [h1] at this;exact this
def YE (m:Z6) (who:Int) (b:Nat):Int:=XX (Zx m (b:Int) who) (Zo m.rm (b:Int))
theorem Dq (m:Z6) (who:Int):∀ k,((YX m who k).1= -1/\ ∀ b,b<k->Zk m who b=false)\/ ∃ c:Nat,c<k/\(YX m who k).1=(c:Int)/\Zk m who c=true/\(YX m who k).2=YE m who c/\ ∀ b,b<k->Zk m who b=true->YE m who b<=YE m who c/\(YE m who b=YE m who c->c<=b)
 | 0=> .inl ⟨rfl,fun b hb=>by omega⟩
 | k+1=>by
  have ih:=Dq m who k;have hM:YX m who (k+1)=if Zk m who k && (decide ((YX m who k).1<0) || decide ((YX m who k).2<YE m who k)) then ((k:Int),YE m who k) else YX m who k:=rfl
  rw [hM];cases hm:Zk m who k
  ·rw [if_neg (by simp)]
   rcases ih with ⟨e,hn⟩ | ⟨c,hc,e,h1,h2,h3⟩
   ·refine .inl ⟨e,fun b hb=> ?_⟩
    by_cases eb:b=k
    ·subst eb;exact hm
    ·exact hn b (by omega)
   ·refine .inr ⟨c,by omega,e,h1,h2,fun b hb hmb=> ?_⟩
    by_cases eb:b=k
    ·subst eb;rw [hm] at hmb;cases hmb
    ·exact h3 b (by omega) hmb
  ·rcases ih with ⟨e,hn⟩ | ⟨c,hc,e,h1,h2,h3⟩
   ·rw [if_pos (by rw [e];rfl)]
    refine .inr ⟨k,by omega,rfl,hm,rfl,fun b hb hmb=> ?_⟩;by_cases eb:b=k
    ·subst eb;exact ⟨Int.le_refl _,fun _=>Z0 _⟩
    ·rw [hn b (by omega)] at hmb;cases hmb
   ·by_cases hs:(YX m who k).2<YE m who k
    ·rw [if_pos (by simp [hs])]
     refine .inr ⟨k,by omega,rfl,hm,rfl,fun b hb hmb=> ?_⟩;by_cases eb:b=k
     ·subst eb;exact ⟨Int.le_refl _,fun _=>Z0 _⟩
     ·have:=h3 b (by omega) hmb
      refine ⟨by omega,fun h9=>by omega⟩
    ·rw [if_neg (by rw [e];simp;omega)]
     refine .inr ⟨c,by omega,e,h1,h2,fun b hb hmb=> ?_⟩;by_cases eb:b=k
     ·subst eb;exact ⟨by omega,fun _=>by omega⟩
     ·exact h3 b (by omega) hmb
theorem BG {m:Z6} {who:Int} (h:XT m=true\/(Zr m who).length=0):(Zl m who= -1/\ ∀ b,b<m.dk.length->Zk m who b=false)\/ ∃ c:Nat,c<m.dk.length/\Zl m who=(c:Int)/\Zk m who c=true/\ ∀ b,b<m.dk.length->Zk m who b=true->YE m who b<=YE m who c/\(YE m who b=YE m who c->c<=b):=by
 have hv:Zl m who=(YX m who m.dk.length).1:=by
  unfold Zl;rw [if_neg]
  rcases h with h | h<;>simp [h]
 rw [hv]
 rcases Dq m who m.dk.length with ⟨e,hn⟩ | ⟨c,hc,e,h1,h2,h3⟩
 ·exact .inl ⟨e,hn⟩
 ·exact .inr ⟨c,hc,e,h1,h3⟩
theorem SG {α:Type} [Inhabited α] {l:List α} {k:Nat} (h:k<l.length):l.take (k+1)=l.take k++[Z8 l k]:=by
 rw [List.take_succ_eq_append_getElem h,QO h]
theorem AA {m:Z6} (h:Loose m) {k:Nat} (hk:k<m.sm.length) (hs:(Z8 m.sm k).1 ≠ 0):0<=(Z8 m.sm k).2.2.2.1/\(Z8 m.sm k).2.2.2.1<=255:=by
 obtain ⟨hp,_,_⟩:=h.limits hk hs;generalize Z8 m.sm k=s at *;obtain ⟨st,be,rk,my,gu,lo,hi,hd,ca,ut,wk⟩:=s;obtain ⟨_,_,_,⟨y0,y1⟩,_⟩:=Y2 hp;show 0<=my/\my<=255;omega
theorem Ds {m:Z6} {k:Nat} (hk:k<m.dk.length):WG m (k:Int)=(Z8 m.dk k).1:=by
 unfold WG Xa;rw [Zp,decide_eq_true (show (0:Int)<=(k:Int) by omega),decide_eq_true (show (k:Int)<(m.dk.length:Int) by omega)];simp
theorem Ad {m:Z6} {who:Int} (h:YM m who= -1):LV m who=[]:=by
 unfold LV;unfold YM at h;have hb:=(Wr m who).1;cases hc:(ZM m && Yn m who)
 ·rfl
 ·rw [hc,if_pos rfl] at h;omega
theorem BD (m:Z6):(XK m m.dk.length).any (fun x=>V4 x.2.1 x.2.2)=XT m:=by
 unfold XT;rw [Bool.eq_iff_iff,List.any_eq_true,List.any_eq_true];constructor
 ·rintro ⟨x,hx,hm⟩
  obtain ⟨b,hb,ho,rfl⟩:=(Su m x _).1 hx;exact ⟨b,List.mem_range.2 hb,by unfold Vv;rw [ho];exact hm⟩
 ·rintro ⟨b,hb,hc⟩
  unfold Vv at hc;simp only [ZO] at hc;exact ⟨R8 m b,(Su m _ _).2 ⟨b,List.mem_range.1 hb,hc.1,rfl⟩,hc.2⟩
theorem zJ {α:Type} [Inhabited α] {p:α->Bool} {l:List α} (h:∀ i,i<l.length->p (Z8 l i)=false):l.any p=false:=by
 rw [List.any_eq_false];intro x hx;obtain ⟨i,hi,rfl⟩:=List.getElem_of_mem hx;rw [<-QO hi,h i hi];simp
theorem CU {α:Type} [Inhabited α] {p:α->Bool} {l:List α} {i:Nat} (hi:i<l.length) (h:p (Z8 l i)=true):l.any p=true:=List.any_eq_true.2 ⟨_,Wd hi,h⟩
theorem LR {α:Type} [Inhabited α] {p:α->Bool} {l:List α} {j:Nat} (hj:j<l.length) (h:p (Z8 l j)=true):(l.take (j+1)).filter p=(l.take j).filter p++[Z8 l j]:=by
 rw [SG hj,List.filter_append,List.filter_cons_of_pos h];rfl
theorem JP {α:Type} [Inhabited α] {p:α->Bool} {l:List α} {j:Nat} (hj:j<l.length) (h:p (Z8 l j)=false):(l.take (j+1)).filter p=(l.take j).filter p:=by
 rw [SG hj,List.filter_append,List.filter_cons_of_neg (by rw [h];simp)];simp
theorem Cs {l:List YI} {j:Nat} (hj:j<l.length):Ry (l.take (j+1))=PL (Ry (l.take j)) (Z8 l j):=by rw [SG hj,MK]
theorem DU {m:Z6} {who:Int} {l:List Int} {j:Nat} (hj:j<l.length):UG m who (l.take (j+1))=Xe m who (UG m who (l.take j)) (Z8 l j):=by rw [SG hj,FK]
theorem F5 {m:Z6} {k:Nat} {x:Int} (hx:x ∈ Zi m (k:Int)):Zf m (k:Int) x=ZS m (k:Int) x:=by
 unfold Zi at hx;cases hc:(ZM m && Yn m (k:Int))
 ·rw [hc] at hx;simp at hx
 rw [hc,if_pos rfl] at hx;simp only [ZO] at hc;obtain ⟨b,hb,rfl,hm⟩:=F4 hx;unfold Zk at hm;simp only [ZO] at hm;unfold Zf;rw [hc.1,hc.2,Ds hb,hm.1];rfl
open Go.ChangeShapes Go.WideShapes Go.ChangeAt Go.RowKit Go.Sort Go.Proofs.Tryz
def SO (x:YI):List Value:=[.iface 225 (.agg #[.int .i64 x.1,.int .i64 x.2.1,.int .i64 x.2.2])]
theorem WM (x:YI):(SO x).length=1:=rfl
abbrev Yo (n₀:Nat) (w:World) (v:Value) (xs:List YI):Prop:=RecAt 88 1 SO n₀ w v xs
theorem JS:(prog.info? 88).map (fun i=>(i.zero,i.size,i.bytes))=some (some .nilIface,1,16):=by kernel_rfl
theorem TN {w:World} {g:Nat} {xs:List YI} (h:∀ j,j<xs.length-> ∀ i u,(SO (Z8 xs j))[i]?=some u->w.cell? ⟨g,j*1+i,none⟩=some u) {j:Nat} (hj:j<xs.length):w.cell? ⟨g,j,none⟩=some (.iface 225 (.agg #[.int .i64 (Z8 xs j).1,.int .i64 (Z8 xs j).2.1,.int .i64 (Z8 xs j).2.2])):=by
 have:=h j hj 0 _ rfl;simpa using this
theorem Pb {w:World} {base t ty:Nat} (ht:prog.underlying t=some (.slice 88)) {v x:Value} {ps qs:List YI} (hown:Yo base w v ps) (hx:IsRec 1 SO w x qs) (hb:ps.length+qs.length<=4000) (hbase:base<=w.heap.size) :
  ∃ v' w',(Builtin.append_ #[t,t] ty #[v,x]).run prog w= .ok v' w'/\Yo base w' v' (ps++qs)/\w.grownBy w' v.ownBlock/\(v'.ownBlock=v.ownBlock\/v'.ownBlock=some w.heap.size):=by
 obtain ⟨i0,hi,hz0,hz1,hz2⟩:=PH JS;obtain ⟨a,c,rfl,hc,hm,hr⟩:=hx;by_cases h0:qs=[]
 ·subst h0
  refine ⟨v,w,RQ ht hi hown a c,by simpa using hown,Sg _ _,.inl rfl⟩
 ·rcases hr with hr | ⟨b,off,rfl,hlt,hcl⟩
  ·exact absurd hr h0
  ·obtain ⟨v',w',hr,h2,h3,_,h5⟩:=run_append_own_at (P:=prog) w base t ty 88 i0 .nilIface 1 16 ht hi hz0 hz1 hz2 rfl (by omega) v ps.length _ hown ⟨b,off,none⟩ qs.length c (UR SO qs) (V3 WM qs)
    (Kh WM (by omega) hcl) (F6 (fun x u hu=>by rcases List.mem_singleton.1 hu with rfl;rfl) qs) (by simp only [maxLen];omega) (by omega) hbase
   refine ⟨v',w',hr,?_,h3,h5⟩;unfold Yo RecAt;rw [Og,List.length_append];exact h2
theorem UF {w:World} {ops:Array Oper} {rest:List Oper} {o:Oper} {a:Act} {Q:Exit->Act->World->Prop} (hgd:o.guard=none) (s x:Operand) (t:TypeId) (ht:prog.underlying t=some (.slice 88))
  (ho:o.op= .call { callee:= .builtin .append,args:=#[s,x],argTypes:=#[t,t] }) (base:Nat) (v u:Value) (ps qs:List YI) (hs:a.eval s=v) (hx:a.eval x=u) (hown:Yo base w v ps) (hr:IsRec 1 SO w u qs)
  (hb:ps.length+qs.length<=4000) (hbase:base<=w.heap.size)
  (h:∀ v' w',Yo base w' v' (ps++qs)->w.grownBy w' v.ownBlock->(v'.ownBlock=v.ownBlock\/v'.ownBlock=some w.heap.size)->wpList prog ops Q rest (a.put o.dst v') w') :
  wpList prog ops Q (o::rest) a w:=by
 refine wpList_plain hgd fun K hK=> ?_;obtain ⟨v',w',hrun,h2,h3,h5⟩:=Pb (ty:=o.type) ht hown hr hb hbase;unfold Oper.wp execOp;simp only [ho,resolve,invoke,builtin,Sem.run_bind,Sem.run_pure,Result.andThen_ok,List.map_toArray,List.map_cons,List.map_nil,hs,hx,hrun];exact hK _ _ (h v' w' h2 h3 h5)
set_option maxRecDepth 100000
theorem MS {w:World} {v0 v1 v2 v3 v4:Value} {m:Z6} {q:Int} (hq:Sb m=q) (h:Smy w v0 v1 v2 v3 v4 m):cB 16 #[.agg #[v0,v1,v2,v3,v4,.int .i64 m.now]] w (.int .i64 q):=by
 have Hq:=Z9 hq;clear hq;obtain ⟨ok,Hok⟩:=YV (ZM m);obtain ⟨a0,p0,a1,p1,a2,p2,a3,p3,a4,p4,rfl,rfl,rfl,rfl,rfl,K⟩:=Bx.new h;clear h;go_enter func16,ntmps16;go_wp2_with fail;generalize w.alloc (.cells (S6 a0 p0 a1 p1 a2 p2 a3 p3 a4 p4 m) 32)=W at *;refine ck (Ww (uh Hok) K.smy) fun w1 hb=> ?_;replace K:=K.next hb;clear hb;cases ok
 ·obtain rfl:q= -1:=by rw [<-uh Hq];unfold Sb;rw [uh Hok];simp
  go_wp2_with fail;go_ret;exact ⟨rfl,K.bb⟩
 obtain rfl:q=WK m:=by rw [<-uh Hq];unfold Sb;rw [uh Hok];rfl
 have HS:=Z9 (ZU (uh Hok)).sane;obtain ⟨c0,c1,c2,c3,c4,c5⟩:=K.cells;go_wp2_with fail;refine ck (Mn K.smy (uh HS)) fun w2 hb=> ?_;replace K:=K.next hb;clear hb c0 c1 c2 c3 c4 c5;go_wp2_with fail;go_ret;exact ⟨rfl,K.bb⟩
theorem Vo {w:World} {v0 v1 v2 v3 v4:Value} {m:Z6} {who b q:Int} (hq:Zf m who b=q) (h:Smy w v0 v1 v2 v3 v4 m):cB 15 #[.agg #[v0,v1,v2,v3,v4,.int .i64 m.now],.int .i64 who,.int .i64 b] w (.int .i64 q):=by
 have Hq:=Z9 hq;clear hq;obtain ⟨ok,Hok⟩:=YV (ZM m);obtain ⟨a0,p0,a1,p1,a2,p2,a3,p3,a4,p4,rfl,rfl,rfl,rfl,rfl,K⟩:=Bx.new h;clear h;go_enter func15,ntmps15;go_wp2_with fail;generalize w.alloc (.cells (S6 a0 p0 a1 p1 a2 p2 a3 p3 a4 p4 m) 32)=W at *;refine ck (Ww (uh Hok) K.smy) fun w1 hb=> ?_;replace K:=K.next hb;clear hb;cases ok
 ·obtain rfl:q= -1:=by rw [<-uh Hq];unfold Zf;rw [uh Hok];simp
  go_wp2_with fail;go_ret;exact ⟨rfl,K.bb⟩
 obtain ⟨qw,Hw⟩:=YV (Yn m who);obtain ⟨c0,c1,c2,c3,c4,c5⟩:=K.cells;go_wp2_with fail;refine ck (WD (uh Hw) K.smy) fun w2 hb=> ?_;replace K:=K.next hb;clear hb c0 c1 c2 c3 c4 c5;cases qw
 ·obtain rfl:q= -1:=by rw [<-uh Hq];unfold Zf;rw [uh Hw];simp
  go_wp2_with fail;go_ret;exact ⟨rfl,K.bb⟩
 obtain ⟨qb,Hb⟩:=YV (Y1 m b);obtain ⟨c0,c1,c2,c3,c4,c5⟩:=K.cells;go_wp2_with fail;refine ck (VR (uh Hb) K.smy) fun w3 hb=> ?_;replace K:=K.next hb;clear hb c0 c1 c2 c3 c4 c5;have HO:Hid (WG m b=(Y1 m b && (Z8 m.dk b.toNat).1)):=Z9 (by unfold WG Y1;rw [Jd]);cases qb
 ·obtain rfl:q= -1:=by rw [<-uh Hq];unfold Zf;rw [uh HO,uh Hb];simp
  go_wp2_with fail;go_ret;exact ⟨rfl,K.bb⟩
 obtain ⟨k,rfl,hk,hs⟩:=YK (uh Hw);have hbb:0<=b/\b<(m.dk.length:Int):=by have:=ZN (show inB b 0 ((m.dk.length:Int)-1)=true from uh Hb);omega
 obtain ⟨bn,rfl⟩:∃ bn:Nat,b=bn:=⟨b.toNat,by omega⟩
 have hlt:bn<m.dk.length:=by omega
 have hlt1:(bn:Int)<(m.dk.length:Int):=by omega
 obtain ⟨_,_,hde,_,_,r3⟩:=K.smy.dk;cases hde
 rcases r3 with e0 | ⟨db,off,rfl,hbw,hcl⟩
 ·rw [e0] at hlt;simp at hlt
 obtain ⟨d0,_,_⟩:=Zh hcl hlt;clear hcl;obtain ⟨op,hop⟩:=ZJ ((Z8 m.dk bn).1);have Hop:=Z9 hop;rw [hop] at d0;clear hop;obtain ⟨c0,c1,c2,c3,c4,c5⟩:=K.cells;cases op
 ·obtain rfl:q= -1:=by rw [<-uh Hq];unfold Zf;rw [uh HO,Zp,uh Hop];simp
  go_wp2_with fail;go_ret;exact ⟨rfl,K.bb⟩
 obtain rfl:q=ZS m (k:Int) (bn:Int):=by rw [<-uh Hq];unfold Zf;rw [uh Hok,uh Hw,uh HO,uh Hb,Zp,uh Hop];rfl
 have HS:=Z9 (ZU (uh Hok)).sane;have hp:=(Sd (ZU (uh Hok))).nums;go_wp2_with fail;refine ck (Rj (bn:Int) K.smy (uh HS) hp hk hs) fun w4 hb=> ?_;replace K:=K.next hb;clear hb c0 c1 c2 c3 c4 c5;go_wp2_with fail;go_ret;exact ⟨rfl,K.bb⟩
theorem Aa {m:Z6} {who:Int} (h:YM m who= -1):Zi m who=[]:=by rw [<-C4,Ad h];rfl
theorem FO {m:Z6} {who:Int} (h:YM m who= -1):X9 m who= -1:=by
 unfold X9;unfold YM at h;have hb:=(Wr m who).1;cases hc:(ZM m && Yn m who)
 ·rfl
 ·rw [hc,if_pos rfl] at h;omega
theorem AB {m:Z6} {who:Int} (h:ZM m=true) (hw:Yn m who=true) {b:Nat} (hb:b<m.dk.length):XJ m who (b:Int)=Zk m who b:=by
 unfold XJ Y1;rw [h,hw,Zn (by omega) (by omega),Zp];rfl
theorem zh {m:Z6} {k:Nat} (h:ZM m=true) (hw:Yn m (k:Int)=true) (hk:k<m.sm.length) {b:Nat} (hb:b<m.dk.length):decide ((b:Int) ∈ Zi m (k:Int))=(XJ m (k:Int) (b:Int) && WW (ZC m (k:Int)) (Zx m (b:Int) (-1)-Ru m k (b:Int)) (Zo m.rm (b:Int))):=by
 rw [AB h hw hb,<-ID m hk];show _=Pv m (k:Int) b;unfold Zi;rw [h,hw];show decide ((b:Int) ∈ VI m (k:Int) m.dk.length)=_;rw [Bool.eq_iff_iff,decide_eq_true_iff,SP];constructor
 ·rintro ⟨j,_,e,hf⟩
  obtain rfl:=Int.ofNat.inj e;exact hf
 ·exact fun hf=>⟨b,hb,rfl,hf⟩
theorem JO {m:Z6} {who:Int} (h:ZM m=true) (hw:Yn m who=true):X9 m who=Zl m who:=by unfold X9;rw [h,hw];rfl
theorem zY {m:Z6} {who:Int} (h:ZM m=true) (hw:Yn m who=true):Zi m who=Zr m who:=by unfold Zi;rw [h,hw];rfl
theorem LI {m:Z6} (h:ZM m=true):Xx m=XT m:=by unfold Xx;rw [h];rfl
theorem BE {m:Z6} (h:ZM m=false):Xx m=false:=by unfold Xx;rw [h];rfl
theorem Cz {m:Z6} {k:Nat} (hk:k<m.sm.length) (b:Nat):XX (Zx m (b:Int) (-1)-Ru m k (b:Int)) (Zo m.rm (b:Int))=YE m (k:Int) b:=by unfold YE;rw [ID m hk]
theorem Aq {m:Z6} {k:Nat} (h:ZM m=true) (hw:Yn m (k:Int)=true) (hc:Xx m=false) {fs:List Int} (hf:Zi m (k:Int)=fs) (hl:0<fs.length) {c:Int} (hv:X9 m (k:Int)=c):decide (c ∈ fs)=true/\Zf m (k:Int) c=ZS m (k:Int) c/\ ∀ j,j<fs.length->Zf m (k:Int) (Z8 fs j)=ZS m (k:Int) (Z8 fs j)/\ZS m (k:Int) c<=ZS m (k:Int) (Z8 fs j)/\(ZS m (k:Int) (Z8 fs j)=ZS m (k:Int) c->c=(Z8 m.sm k).2.1\/(Z8 fs j ≠ (Z8 m.sm k).2.1/\c<=Z8 fs j)):=by
 rw [JO h hw] at hv;rw [LI h] at hc;have hF:=hf;rw [zY h hw] at hf;subst hf;obtain ⟨h1,h2⟩:=zX hc hl;rw [hv,Zp] at h2;rw [hv] at h1;refine ⟨V0 h1,F5 (by rw [hF];exact h1),fun j hj=>⟨F5 (by rw [hF];exact Wd hj),h2 _ (Wd hj)⟩⟩
theorem At {m:Z6} {k:Nat} (h:ZM m=true) (hw:Yn m (k:Int)=true) {fs:List Int} (hf:Zi m (k:Int)=fs) (hc:Xx m=true\/fs.length=0) {c:Int} (hv:X9 m (k:Int)=c):(c= -1/\(List.range m.dk.length).any (Zk m (k:Int))=false)\/ ∃ cn:Nat,c=(cn:Int)/\cn<m.dk.length/\Zk m (k:Int) cn=true/\(List.range m.dk.length).any (Zk m (k:Int))=true/\ ∀ b,b<m.dk.length->Zk m (k:Int) b=true->YE m (k:Int) b<=YE m (k:Int) cn/\(YE m (k:Int) b=YE m (k:Int) cn->cn<=b):=by
 rw [JO h hw] at hv;rw [zY h hw] at hf;rw [LI h,<-hf] at hc
 rcases BG hc with ⟨e,hn⟩ | ⟨cn,hcn,e,h1,h2⟩
 ·left
  refine ⟨hv.symm.trans e,?_⟩;rw [List.any_eq_false];intro b hb;rw [hn b (List.mem_range.1 hb)];simp
 ·right
  exact ⟨cn,hv.symm.trans e,hcn,h1,List.any_eq_true.2 ⟨cn,List.mem_range.2 hcn,h1⟩,h2⟩
set_option linter.unusedSimpArgs false
set_option maxRecDepth 100000
def Gm (m:Z6) (b:Int):Bool:=WG m b && decide ((atV m.sm b m.sm.length).length=0)
theorem Jp (ss:List Z2) (ps:List Int):(Wc ss ps).length=ps.length:=by
 have key:∀ (ps:List Int) (q:List Z4),(ps.foldl (fun q i=>Vm q (Xs (Z8 ss i.toNat),i)) q).length=q.length+ps.length:=by
  intro ps
  induction ps with
  | nil=>intro q;simp
  | cons i ps ih=>intro q;rw [List.foldl_cons,ih,G5];simp;omega
 have:=key ps [];unfold Wc;simpa using this
theorem Eg {w:World} {v0 v1 v2 v3 v4:Value} {m:Z6} {b:Int} {q:Bool} (hq:Gm m b=q) (h:Smy w v0 v1 v2 v3 v4 m) (hl:m.sm.length<=1000):cB 108 #[.agg #[v0,v1,v2,v3,v4,.int .i64 m.now],.int .i64 b] w (.bool q):=by
 have Hq:=Z9 hq;clear hq;obtain ⟨a0,p0,a1,p1,a2,p2,a3,p3,a4,p4,rfl,rfl,rfl,rfl,rfl,K⟩:=Bx.new h;clear h;obtain ⟨ob,Hob⟩:=YV (WG m b);go_enter func108,ntmps108;go_wp2_with fail;generalize w.alloc (.cells (S6 a0 p0 a1 p1 a2 p2 a3 p3 a4 p4 m) 32)=W at *;refine ck (Tu (uh Hob) K.smy) fun w2 hb=> ?_;replace K:=K.next hb;clear hb;cases ob
 ·obtain rfl:q=false:=by rw [<-uh Hq];unfold Gm;rw [uh Hob];rfl
  go_wp2_with fail;go_ret;exact ⟨rfl,K.bb⟩
 obtain ⟨c0,c1,c2,c3,c4,c5⟩:=K.cells;go_wp2_with fail;clear c0 c1 c2 c3 c4 c5;refine (TH b K.smy hl).mono ?_;rintro e w5 ⟨v',rfl,he,hb⟩;obtain ⟨ua,uc,rfl⟩:=RecAt.shape he;clear he;replace K:=K.next hb;clear hb
 have HQ:Hid (q=decide ((ZP (atB b) m.sm m.sm.length).length=0)):=Z9 (by
  rw [<-uh Hq];unfold Gm;rw [uh Hob,Bool.true_and,<-Sx,Jp])
 generalize ZP (atB b) m.sm m.sm.length=ws at *;go_wp2_with fail;go_ret;exact ⟨Z5 (by rw [uh HQ,Bool.eq_iff_iff];simp only [beq_iff_eq,YZ];omega),K.bb⟩
set_option maxRecDepth 100000
theorem zm {m:Z6} (h:ZM m=true) (b:Int):Gm m b=VW m b:=by
 unfold Gm VW WG Y1;rw [h,<-Jd,Bool.true_and,Bool.and_assoc]
theorem Mc {w:World} {v0 v1 v2 v3 v4:Value} {m:Z6} {b:Int} {q:Bool} (hq:VW m b=q) (h:Smy w v0 v1 v2 v3 v4 m) :
  cB 51 #[.agg #[v0,v1,v2,v3,v4,.int .i64 m.now],.int .i64 b] w (.bool q):=by
 have Hq:=Z9 hq;clear hq;obtain ⟨a0,p0,a1,p1,a2,p2,a3,p3,a4,p4,rfl,rfl,rfl,rfl,rfl,K⟩:=Bx.new h;clear h;obtain ⟨ok,Hok⟩:=YV (ZM m);go_enter func51,ntmps51;go_wp2_with fail;generalize w.alloc (.cells (S6 a0 p0 a1 p1 a2 p2 a3 p3 a4 p4 m) 32)=W at *;refine ck (TS _ _ _ _ _ _ _ _ (uh Hok) K.smy) fun w1 hb=> ?_;replace K:=K.next hb;clear hb;cases ok
 ·obtain rfl:q=false:=by rw [<-uh Hq];unfold VW;rw [uh Hok];rfl
  go_wp2_with fail;go_ret;exact ⟨rfl,K.bb⟩
 have h12:=YH (ZU (uh Hok));obtain ⟨c0,c1,c2,c3,c4,c5⟩:=K.cells;go_wp2_with fail;refine ck (Eg ((zm (uh Hok) b).trans (uh Hq)) K.smy (by omega)) fun w2 hb=> ?_;replace K:=K.next hb;clear hb c0 c1 c2 c3 c4 c5;go_wp2_with fail;go_ret;exact ⟨rfl,K.bb⟩
end Go.Proofs.YtgdpaigcmoifbaaGreat
