/- Part 28 of what the proof rests on. No condition but those that a theorem names. -/
import Derived.Test.YtamgfpdahadnfaaGreatDoorXf22
import Derived.Test.YtamgfpdahadnfaaGreatDoorXf24
import Derived.Test.YtamgfpdahadnfaaGreatDoorXf25
set_option maxHeartbeats 8000000
set_option maxRecDepth 100000
namespace Go.Proofs.YtamgfpdahadnfaaGreatDoor
open Go.ChangeShapes Go.WideShapes Go.ChangeAt Go.RowKit Go.Sort
set_option linter.unusedVariables false
def Qj (m:Z6):List Z4->Int
 | []=>0
 | e::q=>Zu m e.2+Qj m q
def UW (m:Z6):List Int->Int
 | []=>0
 | x::q=>Zu m x+UW m q
theorem Iq (m:Z6) (a b:List Z4):Qj m (a++b)=Qj m a+Qj m b:=by
 induction a with
 | nil=>show Qj m b=0+Qj m b;omega
 | cons e a ih=>show Zu m e.2+Qj m (a++b)=Zu m e.2+Qj m a+Qj m b;omega
theorem Be (m:Z6) (a b:List Int):UW m (a++b)=UW m a+UW m b:=by
 induction a with
 | nil=>show UW m b=0+UW m b;omega
 | cons e a ih=>show Zu m e+UW m (a++b)=Zu m e+UW m a+UW m b;omega
theorem Kw (m:Z6) (a:List Int) (x:Int):UW m (a++[x])=UW m a+Zu m x:=by rw [Be];show _+(Zu m x+0)=_;omega
theorem DG (m:Z6):∀ a:List Int,0<=UW m a/\UW m a<=1024*a.length
 | []=>by simp [UW]
 | x::a=>by
  have ih:=DG m a;have hw:=PX m x;show 0<=Zu m x+UW m a/\Zu m x+UW m a<=1024*((a.length+1:Nat):Int);omega
theorem Bd (m:Z6) (q:List Z4) (e:Z4):Qj m (Va q e)=Qj m q+Zu m e.2:=by
 have h:=Iq m (q.take (XC e q)) (q.drop (XC e q));rw [List.take_append_drop] at h;unfold Va;rw [Iq,h];show _+(Zu m e.2+_)=_;omega
theorem KF (m:Z6) (but:Int):∀ (q:List Z4) (n:Int),(∀ e ∈ q,e.2 ≠ but)->q.foldl (fun n e=>if e.2=but then n else n+Zu m e.2) n=n+Qj m q
 | [],n,_=>by show n=n+0;omega
 | e::q,n,h=>by
  have h0:=h e (by simp);have ih:=KF m but q (if e.2=but then n else n+Zu m e.2) (fun x hx=>h x (by simp [hx]));rw [List.foldl_cons,ih,if_neg h0];show _=n+(Zu m e.2+Qj m q);omega
theorem CR (m:Z6) (b:Int):Zi m b (-1)=Qj m (atV m.sm b m.sm.length):=by
 have:=KF m (-1) (atV m.sm b m.sm.length) 0 (fun e he=>by
  obtain ⟨i,_,_,_,rfl⟩:=(Yi m.sm b e m.sm.length).1 he;show (i:Int) ≠ -1
  omega)
 unfold Zi Vc;omega
theorem yr (b:Int) (s:Z3):atB b s=decide (s.2.1=b/\ZR s=true):=by
 unfold atB ZR;rw [Bool.eq_iff_iff];simp only [ZL,YZ,beq_iff_eq];exact ⟨fun h=>⟨h.2,h.1⟩,fun h=>⟨h.2,h.1⟩⟩
theorem KH (m:Z6) (ss:List Z3) (b:Int):∀ k,UW m (ZO (atB b) ss k)=Qj m (atV ss b k)
 | 0=>rfl
 | k+1=>by
  have ih:=KH m ss b k;by_cases hat:(Z8 ss k).2.1=b/\ZR (Z8 ss k)=true
  ·rw [Ym (by rw [yr];exact decide_eq_true hat),Kw,UC hat.1 hat.2,Bd,ih]
  ·rw [XG (by rw [yr];exact decide_eq_false hat),TB hat,ih]
theorem Ft (m:Z6) (b:Int):UW m (ZO (atB b) m.sm m.sm.length)=Zi m b (-1):=by rw [KH,CR]
theorem CG (m:Z6) {ws:List Int} {k:Nat} (h:k<ws.length):UW m (ws.take (k+1))=UW m (ws.take k)+Zu m (Z8 ws k):=by rw [PS h,Kw]
structure Wants (m:Z6):Prop where
 gd:Zg m.gd=true
 each:∀ i,i<m.sm.length->(Z8 m.sm i).1 ≠ 0->isB m.gd (Z8 m.sm i).2.2.2.2.1=true/\Ya (Z8 m.sm i).2.2.2.2.2.1 (Z8 m.sm i).2.2.2.2.2.2.1=true
theorem Loose.wants {m:Z6} (h:Loose m):Wants m:=by
 have hd:=h.head;unfold YG at hd;simp only [ZL,YZ] at hd;refine ⟨hd.2.1,fun i hi hs=> ?_⟩;obtain ⟨hp,hg,_⟩:=h.limits hi hs;have hgs:=hd.2.1;generalize Z8 m.sm i=s at *;obtain ⟨st,be,rk,my,gu,lo,hi,hd,ca,ut,wk⟩:=s;obtain ⟨_,_,_,_,⟨g0,g5⟩,hpair,_⟩:=Zj hp;simp only at hg;exact ⟨by unfold isB;rw [hgs,Zp g0 (by omega)];rfl,hpair⟩
theorem Bq (m:Z6) {k:Nat} (hk:k<m.sm.length) (b:Int) (i:Nat):Z8 (Xu m (k:Int) b).sm i=if i=k then UB (Z8 m.sm k) b else Z8 m.sm i:=by
 unfold Xu;simp only [Zy];exact ZI hk i
theorem Wants.with {m:Z6} (h:Wants m) {k:Nat} (hk:k<m.sm.length) (hs:(Z8 m.sm k).1 ≠ 0) (b:Int):Wants (Xu m (k:Int) b):=by
 refine ⟨h.gd,fun i hi hne=> ?_⟩;have hi':i<m.sm.length:=by unfold Xu at hi;simpa using hi
 rw [Bq m hk] at hne ⊢;by_cases e:i=k
 ·rw [if_pos e];exact h.each k hk hs
 ·rw [if_neg e] at hne ⊢;exact h.each i hi' hne
def Um (m:Z6) (b:Int):Bool:=WR m.dk.length b && (Z8 m.dk b.toNat).1
def U8 (m:Z6) (bs:List Int):Int:=bs.foldl (fun n b=>if Um m b then max n (Zi m b (-1)) else n) 0
def Uu (m:Z6) (bs:List Int):Int:=bs.foldl (fun n b=>n+Zi m b (-1)) 0
theorem Mx (m:Z6) (bs:List Int) (b:Int):U8 m (bs++[b])=if Um m b then max (U8 m bs) (Zi m b (-1)) else U8 m bs:=by unfold U8;rw [List.foldl_append];rfl
theorem Nk (m:Z6) (bs:List Int) (b:Int):Uu m (bs++[b])=Uu m bs+Zi m b (-1):=by unfold Uu;rw [List.foldl_append];rfl
theorem GI (m:Z6) (hl:m.sm.length<=12):∀ (bs:List Int) (n:Int),0<=n->n<=12288->0<=bs.foldl (fun n b=>if Um m b then max n (Zi m b (-1)) else n) n/\bs.foldl (fun n b=>if Um m b then max n (Zi m b (-1)) else n) n<=12288
 | [],n,h0,h1=>⟨h0,h1⟩
 | b::bs,n,h0,h1=>by
  have hu:=Tu m b (-1);refine GI m hl bs (if Um m b then max n (Zi m b (-1)) else n) ?_ ?_<;>split<;>omega
theorem Ay (m:Z6) (hl:m.sm.length<=12) (bs:List Int):0<=U8 m bs/\U8 m bs<=12288:=GI m hl bs 0 (by omega) (by omega)
theorem IH (m:Z6) (hl:m.sm.length<=12):∀ (bs:List Int) (n:Int),0<=n->0<=bs.foldl (fun n b=>n+Zi m b (-1)) n/\bs.foldl (fun n b=>n+Zi m b (-1)) n<=n+12288*bs.length
 | [],n,h0=>⟨h0,by simp⟩
 | b::bs,n,h0=>by
  have hu:=Tu m b (-1);have ih:=IH m hl bs (n+Zi m b (-1)) (by omega);refine ⟨ih.1,Int.le_trans ih.2 ?_⟩;simp only [Y4,Int.natCast_add,Int.natCast_one];omega
theorem Br (m:Z6) (hl:m.sm.length<=12) (bs:List Int):0<=Uu m bs/\Uu m bs<=12288*bs.length:=by
 have:=IH m hl bs 0 (by omega);unfold Uu;omega
theorem Ib {m:Z6} (h:Sane m) {r:Nat} (hr:r<m.rm.length) {b:Nat} (hb:b<8):UU (Vv m.rm (r:Int)) (b:Int)=true ↔ b<m.dk.length/\(Xg m.rm b:Int)=(r:Int):=by
 have hR:Vp m.rm (r:Int)=true:=by unfold Vp;rw [h.hall,Zp (by omega) (by omega)];rfl
 have ha:=(Zq h.hall).2.2.1;have h0:=Xo h.hall r (by omega);have h1:=Xo h.hall (r+1) (by omega);have hm:=WM ha (i:=r) 1 (by omega);have hm0:=WM ha (i:=r+1) (m.rm.length-(r+1)) (by omega);rw [show r+1+(m.rm.length-(r+1))=m.rm.length by omega,List.take_length] at hm0;have h8:=h.eight;have hd:=h.dk;rw [EY hR,Zy,zH h0.1 hm (by omega) (by omega) (by omega),decide_eq_true_iff];constructor
 ·intro hx
  have hbd:b<m.dk.length:=by omega
  exact ⟨hbd,by rw [(DC (h.bench hbd) hr).2 hx]⟩
 ·rintro ⟨hbd,e⟩
  exact (DC (h.bench hbd) hr).1 (by omega)
theorem Kk {m:Z6} (h:Sane m) {r:Nat} (hr:r<m.rm.length):∀ k:Nat,k<=m.dk.length->U8 m (UN (Vv m.rm (r:Int)) k)=(usedIn m r k).1/\Uu m (UN (Vv m.rm (r:Int)) k)=(usedIn m r k).2
 | 0,_=>⟨rfl,rfl⟩
 | k+1,hk=>by
  have ih:=Kk h hr k (by omega);have h8:=h.eight;have hs:=Ib h hr (b:=k) (by omega);by_cases e:(Xg m.rm k:Int)=(r:Int)
  ·rw [RS (hs.2 ⟨by omega,e⟩),Mx,Nk,ih.1,ih.2]
   have ho:Um m (k:Int)=(Z8 m.dk k).1:=by
    unfold Um WR;rw [Zy,decide_eq_true (show (0:Int)<=(k:Int) by omega),decide_eq_true (show (k:Int)<(m.dk.length:Int) by omega)];simp
   rw [ho];show _=(if _ then _ else _:Int × Int).1/\_=(if _ then _ else _:Int × Int).2;rw [if_pos e];exact ⟨rfl,rfl⟩
  ·have hn:UU (Vv m.rm (r:Int)) (k:Int)=false:=by
    cases hc:UU (Vv m.rm (r:Int)) (k:Int)
    ·rfl
    ·exact absurd (hs.1 hc).2 e
   rw [Uz hn];show _=(if _ then _ else _:Int × Int).1/\_=(if _ then _ else _:Int × Int).2;rw [if_neg e];exact ih
theorem Cw {m:Z6} (h:Sane m) {r:Nat} (hr:r<m.rm.length):U8 m (SA (Vv m.rm (r:Int)))=(usedIn m r m.dk.length).1/\Uu m (SA (Vv m.rm (r:Int)))=(usedIn m r m.dk.length).2:=by
 have key:∀ d k:Nat,m.dk.length+d=k->k<=8->UN (Vv m.rm (r:Int)) k=UN (Vv m.rm (r:Int)) m.dk.length:=by
  intro d
  induction d with
  | zero=>intro k hk _;rw [<-hk];rfl
  | succ d ih=>
   intro k hk h8;obtain ⟨j,rfl⟩:∃ j,k=j+1:=⟨k-1,by omega⟩
   have hn:UU (Vv m.rm (r:Int)) (j:Int)=false:=by
    cases hc:UU (Vv m.rm (r:Int)) (j:Int)
    ·rfl
    ·have:=((Ib h hr (b:=j) (by omega)).1 hc).1;omega
   rw [Uz hn];exact ih j (by omega) (by omega)
 have h8:=h.eight;have e:=key (8-m.dk.length) 8 (by omega) (by omega);unfold SA;rw [e];exact Kk h hr m.dk.length (Z2 _)
set_option maxRecDepth 100000
theorem IG {m:Z6} {b:Int} {k:Nat} (hk:k<(ZO (atB b) m.sm m.sm.length).length):∃ i:Nat,i<m.sm.length/\Z8 (ZO (atB b) m.sm m.sm.length) k=(i:Int):=by
 obtain ⟨i,hi,e,_⟩:=(Xt (atB b) m.sm _ m.sm.length).1 (Vt hk);exact ⟨i,hi,e⟩
theorem MI {w:World} {v0 v1 v2 v3 v4:Value} {m M:Z6} (b:Int) (h:Smy w v0 v1 v2 v3 v4 m) (hL:Loose M) (hM:M.sm=m.sm):Calls Tryz.prog 144 #[.agg #[v0,v1,v2,v3,v4,.int .i64 m.now],.int .i64 b] w fun e w'=> ∃ v',e= .returned v'/\EntsAt w.heap.size w' v' (atV m.sm b m.sm.length)/\Below w.heap.size w w':=by
 have Hv:=Z9 ((h.alloc (.cells #[v0,v1,v2,v3,v4,.int .i64 m.now] 32)).alloc (.cells #[] 91));have HV0:=Z9 h;obtain ⟨a0,p0,a1,p1,a2,p2,a3,p3,a4,p4,rfl,rfl,rfl,rfl,rfl,_,_,_,_,_,_,_,_,_,_⟩:=h.five;clear h;have hl:m.sm.length<=1000:=by rw [<-hM];have:=(WJ hL).sm;omega
 have HL:Hid (∀ k,Ye (VJ m.sm ((ZO (atB b) m.sm m.sm.length).take k))=true):=Z9 (fun k=>by have:=EM hL b k;rw [hM] at this;exact this);clear hL hM;have kb:Hid (Blk ((w.alloc (.cells (S6 a0 p0 a1 p1 a2 p2 a3 p3 a4 p4 m) 32)).alloc (.cells #[] 91)) w.heap.size 32 (S6 a0 p0 a1 p1 a2 p2 a3 p3 a4 p4 m)):=Z9 ((Blk.new w _ _).alloc _);have BB:Hid (Below w.heap.size w ((w.alloc (.cells (S6 a0 p0 a1 p1 a2 p2 a3 p3 a4 p4 m) 32)).alloc (.cells #[] 91))):=Z9 (((ba _ _)).alloc (by simp) _);have HE:Hid (EntsAt w.heap.size ((w.alloc (.cells (S6 a0 p0 a1 p1 a2 p2 a3 p3 a4 p4 m) 32)).alloc (.cells #[] 91)) (.slice (some ⟨w.heap.size+1,0,none⟩) 0 0) []):=Z9 (Wv (by simp) (by simp));go_enter Tryz.func144,Tryz.ntmps144;go_upto_region 2 with fail;generalize (w.alloc (.cells (S6 a0 p0 a1 p1 a2 p2 a3 p3 a4 p4 m) 32)).alloc (.cells #[] 91)=W at *;obtain ⟨c0,c1,c2,c3,c4,c5⟩:=(uh kb).c6;go_wp2_with fail;refine (RU b (uh Hv) hl).mono ?_;rintro e w1 ⟨vn,rfl,hn,hb⟩;obtain ⟨na,nc,rfl⟩:=RecAt.shape hn;have HN0:=Z9 (RecAt.mono hn (uh BB).size);have Hv1:=Z9 ((uh Hv).below hb);have kb1:=Z9 ((uh kb).below hb (uh kb).lt);have BB1:=Z9 ((uh BB).trans (hb.mono (uh BB).size));have HE1:=Z9 ((uh HE).later hb);clear hb hn c0 c1 c2 c3 c4 c5 Hv kb BB HE;have Hq:=Z9 (Qf m.sm b m.sm.length);have Hwh:=Z9 (fun k hk=>IG (m:=m) (b:=b) (k:=k) hk);have Hpq:=HL;clear HL;have hwl:=VZ (atB b) m.sm m.sm.length;generalize ZO (atB b) m.sm m.sm.length=ws at *;go_wp2_with fail
 go_loopw [5,13] (fun l i wr=> ∃ k:Nat,k<=ws.length/\i= .int .i64 k/\EntsAt w.heap.size wr l (VJ m.sm (ws.take k))/\NumsAt w.heap.size wr (.slice na ws.length nc) ws/\Blk wr w.heap.size 32 (S6 a0 p0 a1 p1 a2 p2 a3 p3 a4 p4 m)/\Smy wr (.slice a0 m.rm.length p0) (.slice a1 m.gd.length p1) (.slice a2 m.sm.length p2) (.slice a3 m.dk.length p3) (.slice a4 m.pc.length p4) m/\Below w.heap.size w wr) (fun _ i _=>ws.length-(intOf i).toNat)
 case atStart=>exact ⟨0,Zz _,rfl,uh HE1,uh HN0,uh kb1,uh Hv1,uh BB1⟩
 case round=>
  obtain ⟨k,hk,rfl,he,hn,hkb,hv,hb0⟩:=hrel;obtain ⟨la,lc,rfl⟩:=EntsAt.shape he;have HE:=Z9 he;have HN:=Z9 hn;have kb:=Z9 hkb;have Hv:=Z9 hv;have BB:=Z9 hb0;clear he hn hkb hv hb0 HE1 HN0 kb1 Hv1 BB1;by_cases hlt:k<ws.length
  ·have hlt1:(k:Int)<(ws.length:Int):=by omega
   obtain ⟨g,hga,_,_,hcl,_⟩:=RecAt.view YC (by omega) (uh HN) rfl (by omega);cases hga;have z0:=hcl k hlt 0 _ rfl;simp only [Nat.mul_one,Nat.add_zero] at z0;obtain ⟨i,hi,hiw⟩:=uh Hwh k hlt;rw [hiw] at z0;have hi1:(i:Int)<(m.sm.length:Int):=by omega
   obtain ⟨_,_,hse,_,_,r2⟩:=(uh Hv).sm;cases hse
   rcases r2 with e0 | ⟨sb,off,rfl,hbw,hcs⟩
   ·rw [e0] at hi;simp at hi
   obtain ⟨_,_,_,_,_,_,_,d7,_⟩:=Zx hcs hi;have HT:Hid (VJ m.sm (ws.take (k+1))=Va (VJ m.sm (ws.take k)) (Yn (Z8 m.sm i),(i:Int))):=Z9 (by rw [PS hlt,PH,hiw];simp);have hq1:=uh Hpq k;have hq2:=uh Hpq (k+1);rw [uh HT] at hq2;have HQ:=Z9 (Ok hq1 hq2);clear hcl hcs hq1 hq2;have e7:(Z8 m.sm i).2.2.2.2.2.2.2.1=Yn (Z8 m.sm i):=rfl;rw [e7] at d7;clear e7;generalize Yn (Z8 m.sm i)=hd at *;have c2:=(uh kb).cell (i:=2) (v:= .slice (some ⟨sb,off,none⟩) m.sm.length p2) rfl;go_wp2_with fail;refine (Mj hd (i:Int) (uh HE).pc).mono ?_;rw [uh HQ];rintro e w2 ⟨⟨v',rfl,he⟩,hb⟩;obtain ⟨ua,uc,rfl⟩:=EntsAt.shape he;have HE2:=Z9 (he.mono (uh BB).size);replace HN:=Z9 (RecAt.later (uh HN) hb);replace kb:=bl kb hb;replace Hv:=Z9 ((uh Hv).below hb);replace BB:=bt BB hb;clear hb he c2 d7 z0;go_wp2_with fail;go_roundw
   case rel=>exact ⟨k+1,by omega,by go_num,by rw [uh HT];exact uh HE2,uh HN,uh kb,uh Hv,uh BB⟩
   case measure=>exact ms
  ·obtain rfl:k=ws.length:=by omega
   have HE3:Hid (EntsAt w.heap.size wr (.slice la (VJ m.sm (ws.take ws.length)).length lc) (atV m.sm b m.sm.length)):=Z9 (by
    have h9:=uh HE;have e9:VJ m.sm (ws.take ws.length)=atV m.sm b m.sm.length:=by rw [List.take_length,uh Hq]
    rw [<-e9]
    exact h9)
   go_wp2_with fail;go_ret;exact ⟨_,rfl,uh HE3,uh BB⟩
theorem G8 {w:World} {v0 v1 v2 v3 v4:Value} {m:Z6} (b:Int) (h:Smy w v0 v1 v2 v3 v4 m) (hL:Loose m):Calls Tryz.prog 144 #[.agg #[v0,v1,v2,v3,v4,.int .i64 m.now],.int .i64 b] w fun e w'=> ∃ v',e= .returned v'/\EntsAt w.heap.size w' v' (atV m.sm b m.sm.length)/\Below w.heap.size w w':=MI b h hL rfl
theorem ID {w:World} {v0 v1 v2 v3 v4:Value} {m:Z6} {k:Nat} (h:Smy w v0 v1 v2 v3 v4 m) (hL:Wants m) (hk:k<m.sm.length) (hs:(Z8 m.sm k).1 ≠ 0):Calls Tryz.prog 239 #[.agg #[v0,v1,v2,v3,v4,.int .i64 m.now],.int .i64 (k:Int)] w fun e w'=>e= .returned (.int .i64 (Zu m (k:Int)))/\Below w.heap.size w w':=by
 have hw:Zu m (k:Int)=Qz m.gd (Z8 m.sm k):=rfl;rw [hw];clear hw;have Hg0:=Z9 h.gd;obtain ⟨a0,p0,rfl,_,_⟩:=IsRooms.shape h.rm;obtain ⟨a1,p1,rfl,_,_⟩:=IsRec.shape h.gd;obtain ⟨a2,p2,rfl,hc2,hm2,r2⟩:=h.sm;obtain ⟨a3,p3,rfl,_,_⟩:=IsRec.shape h.dk;obtain ⟨a4,p4,rfl,_,_⟩:=IsRec.shape h.pc;clear h;obtain ⟨hg1,hpair⟩:=hL.each k hk hs
 rcases r2 with e0 | ⟨sb,off,rfl,hbw,hcl⟩
 ·rw [e0] at hk;simp at hk
 have hk1:(k:Int)<(m.sm.length:Int):=by omega
 obtain ⟨d0,d1,d2,d3,d4,d5,d6,d7,d8,d9,d10⟩:=Zx hcl hk;clear hcl hs hL;generalize Z8 m.sm k=ss at *;obtain ⟨st,be,rk,my,gu,lo,hi,hd,ca,ut,wk⟩:=ss;simp only at d0 d1 d2 d3 d4 d5 d6 d7 d8 d9 d10 hg1 hpair;obtain ⟨nr,hnr⟩:∃ nr,UI (bnd m.gd gu) lo hi=nr:=⟨_,rfl⟩
 have HW:Hid (SS m.gd gu lo hi=nr):=Z9 (by rw [<-hnr];exact KJ hg1 hpair);have HX:Hid (Qz m.gd (st,be,rk,my,gu,lo,hi,hd,ca,ut,wk)=min (max ut nr.1) nr.2):=Z9 (by rw [<-hnr];rfl);rw [uh HX];clear hpair hg1 HX hnr;obtain ⟨nl,nh⟩:=nr;dsimp only;have hne:sb ≠ w.heap.size:=UZ hbw;have hbw2:sb<w.heap.size+1:=by omega
 have BB:Hid (Below w.heap.size w ((w.alloc (.cells #[.slice a0 m.rm.length p0,.slice a1 m.gd.length p1,.slice (some ⟨sb,off,none⟩) m.sm.length p2,.slice a3 m.dk.length p3,.slice a4 m.pc.length p4,.int .i64 m.now] 32)).alloc (.cells (I11 st be rk my gu lo hi hd ca ut wk) 40))):=Z9 (((ba _ _)).alloc (by simp) _)
 have ks:Hid (Blk ((w.alloc (.cells #[.slice a0 m.rm.length p0,.slice a1 m.gd.length p1,.slice (some ⟨sb,off,none⟩) m.sm.length p2,.slice a3 m.dk.length p3,.slice a4 m.pc.length p4,.int .i64 m.now] 32)).alloc (.cells (I11 st be rk my gu lo hi hd ca ut wk) 40)) (w.heap.size+1) 40 (I11 st be rk my gu lo hi hd ca ut wk)):=Z9 (by
  have k9:=Blk.new (w.alloc (.cells #[.slice a0 m.rm.length p0,.slice a1 m.gd.length p1,.slice (some ⟨sb,off,none⟩) m.sm.length p2,.slice a3 m.dk.length p3,.slice a4 m.pc.length p4,.int .i64 m.now] 32)) 40 (I11 st be rk my gu lo hi hd ca ut wk);rw [Y8] at k9
  exact k9)
 have kb:Hid (Blk ((w.alloc (.cells #[.slice a0 m.rm.length p0,.slice a1 m.gd.length p1,.slice (some ⟨sb,off,none⟩) m.sm.length p2,.slice a3 m.dk.length p3,.slice a4 m.pc.length p4,.int .i64 m.now] 32)).alloc (.cells (I11 st be rk my gu lo hi hd ca ut wk) 40)) w.heap.size 32 #[.slice a0 m.rm.length p0,.slice a1 m.gd.length p1,.slice (some ⟨sb,off,none⟩) m.sm.length p2,.slice a3 m.dk.length p3,.slice a4 m.pc.length p4,.int .i64 m.now]):=Z9 ((Blk.new w _ _).alloc _);have Hg2:=Z9 ((uh Hg0).below (uh BB));go_enter Tryz.func239,Tryz.ntmps239;go_upto_region 2 with fail;generalize (w.alloc (.cells #[.slice a0 m.rm.length p0,.slice a1 m.gd.length p1,.slice (some ⟨sb,off,none⟩) m.sm.length p2,.slice a3 m.dk.length p3,.slice a4 m.pc.length p4,.int .i64 m.now] 32)).alloc (.cells (I11 st be rk my gu lo hi hd ca ut wk) 40)=W at *;clear d0 d1 d2 d3 d4 d5 d6 d7 d8 d9 d10;have c1:=(uh kb).cell (i:=1) (v:= .slice a1 m.gd.length p1) rfl;have s4:=(uh ks).cell (i:=4) (v:= .int .i64 gu) rfl;have s5:=(uh ks).cell (i:=5) (v:= .int .i64 lo) rfl;have s6:=(uh ks).cell (i:=6) (v:= .int .i64 hi) rfl;go_wp2_with fail;refine (Ml gu lo hi (uh Hg2)).mono ?_;rw [uh HW];rintro e w1 ⟨rfl,hb⟩;replace ks:=bl ks hb;replace BB:=bt BB hb;clear hb c1 s4 s5 s6 HW;have s9:=(uh ks).cell (i:=9) (v:= .int .i64 ut) rfl;go_wp2_with (go_at_call 259;refine (UT _ _ _ _).mono ?_;rintro e w' ⟨rfl,h9⟩;subst w')
 go_ret;exact ⟨rfl,uh BB⟩
set_option maxRecDepth 100000
theorem Qm {w:World} {v0 v1 v2 v3 v4:Value} {m:Z6} {b q:Int} (hq:Zi m b (-1)=q) (h:Smy w v0 v1 v2 v3 v4 m) (hW:Wants m) (hl:m.sm.length<=12):Calls Tryz.prog 292 #[.agg #[v0,v1,v2,v3,v4,.int .i64 m.now],.int .i64 b] w fun e w'=>e= .returned (.int .i64 q)/\Below w.heap.size w w':=by
 have Hq:=Z9 hq;clear hq;have HW:=Z9 hW;clear hW;obtain ⟨a0,p0,a1,p1,a2,p2,a3,p3,a4,p4,rfl,rfl,rfl,rfl,rfl,K⟩:=Bx.new h;clear h;go_enter Tryz.func292,Tryz.ntmps292;go_upto_region 2 with fail;generalize w.alloc (.cells (S6 a0 p0 a1 p1 a2 p2 a3 p3 a4 p4 m) 32)=W at *;obtain ⟨c0,c1,c2,c3,c4,c5⟩:=K.cells;go_wp2_with fail;refine (RU b K.smy (by omega)).mono ?_;rintro e w1 ⟨vn,rfl,hn,hb⟩;obtain ⟨na,nc,rfl⟩:=RecAt.shape hn;have HN:=Z9 hn;replace K:=K.next hb;clear hb hn c0 c1 c2 c3 c4 c5;have Hwh:=Z9 (fun k hk=>IG (m:=m) (b:=b) (k:=k) hk);have Hat:=Z9 (fun x hx=>(Xt (atB b) m.sm x m.sm.length).1 hx);have hwl:=VZ (atB b) m.sm m.sm.length;rw [<-Ft] at Hq;generalize ZO (atB b) m.sm m.sm.length=ws at *;go_wp2_with fail
 go_loopw [5,12] (fun u i wr=> ∃ k:Nat,k<=ws.length/\i= .int .i64 k/\u= .int .i64 (UW m (ws.take k))/\Bx w wr w.heap.size a0 p0 a1 p1 a2 p2 a3 p3 a4 p4 m/\Below w1.heap.size w1 wr) (fun _ i _=>ws.length-(intOf i).toNat)
 case atStart=>exact ⟨0,Zz _,rfl,rfl,K,Z1 _ _⟩
 case round=>
  obtain ⟨k,hk,rfl,rfl,hK,hb0⟩:=hrel;clear K;have K:=hK;have BB:=Z9 hb0;clear hK hb0;have hub:=DG m (ws.take k);have htl:(ws.take k).length<=ws.length:=by simp;omega
  by_cases hlt:k<ws.length
  ·have hlt1:(k:Int)<(ws.length:Int):=by omega
   obtain ⟨g,hga,_,hgl,hcl,_⟩:=RecAt.view YC (by omega) (uh HN) rfl (by omega);cases hga;have z0:=hcl k hlt 0 _ rfl;simp only [Nat.mul_one,Nat.add_zero] at z0;have hgw:g<w1.heap.size:=hgl;rw [<-(uh BB).cell (p:=⟨g,k,none⟩) hgw] at z0;obtain ⟨i,hi,hiw⟩:=uh Hwh k hlt;obtain ⟨_,_,hi2,hat⟩:=uh Hat _ (Vt hlt)
   have hpi:(Z8 m.sm i).1 ≠ 0:=by
    rw [hiw] at hi2;obtain rfl:=Int.ofNat.inj hi2;intro e;unfold atB at hat;rw [e] at hat;simp at hat
   clear hcl hi2 hat;have HS:Hid (UW m (ws.take (k+1))=UW m (ws.take k)+Zu m (i:Int)):=Z9 (by rw [CG m hlt,hiw]);rw [hiw] at z0;have hwb:=PX m (i:Int);have HC:=Z9 (fun (X:World) (hX:Smy X (.slice a0 m.rm.length p0) (.slice a1 m.gd.length p1) (.slice a2 m.sm.length p2) (.slice a3 m.dk.length p3) (.slice a4 m.pc.length p4) m)=>ID hX (uh HW) hi hpi);generalize UW m (ws.take k)=us at *;generalize Zu m (i:Int)=wa at *;have hgr:g<wr.heap.size:=Zd hgw (uh BB).size;obtain ⟨c0,c1,c2,c3,c4,c5⟩:=K.cells;go_wp2_with fail;refine ck (uh HC _ K.smy) fun w2 hb=> ?_;replace K:=K.next hb;replace BB:=bt BB hb;clear hb c0 c1 c2 c3 c4 c5 z0;have hlen12:(ws.length:Int)<=12:=by omega
   go_wp2_with fail;go_roundw
   case rel=>exact ⟨k+1,by omega,by go_num,by rw [uh HS],K,uh BB⟩
   case measure=>exact ms
  ·obtain rfl:k=ws.length:=by omega
   rw [List.take_length] at *;obtain rfl:q=UW m ws:=(uh Hq).symm;go_wp2_with fail;go_ret;exact ⟨rfl,K.bb⟩
theorem Oa {w:World} {v0 v1 v2 v3 v4:Value} {m:Z6} {b:Int} {q:Bool} (hq:Um m b=q) (h:Smy w v0 v1 v2 v3 v4 m):Calls Tryz.prog 291 #[.agg #[v0,v1,v2,v3,v4,.int .i64 m.now],.int .i64 b] w fun e w'=>e= .returned (.bool q)/\Below w.heap.size w w':=by
 have Hq:=Z9 hq;clear hq;obtain ⟨a0,p0,a1,p1,a2,p2,a3,p3,a4,p4,rfl,rfl,rfl,rfl,rfl,K⟩:=Bx.new h;clear h;go_enter Tryz.func291,Tryz.ntmps291;go_wp2_with fail;generalize w.alloc (.cells (S6 a0 p0 a1 p1 a2 p2 a3 p3 a4 p4 m) 32)=W at *;refine ck (U0 _ _ _ _ _ _ _ _ _ _ _ _ _ _ _ _ _) fun w2 hb=> ?_;replace K:=K.next hb;clear hb;obtain ⟨qh,hqh⟩:∃ q,WR m.dk.length b=q:=⟨_,rfl⟩
 have Hh:=Z9 hqh;clear hqh;go_wp2_with fail;refine (U3 _ _ _ b _).mono ?_;rw [uh Hh];rintro e w3 ⟨rfl,h9⟩;subst w3;cases qh
 ·obtain rfl:q=false:=by rw [<-uh Hq];unfold Um;rw [uh Hh];rfl
  go_wp2_with fail;go_ret;exact ⟨rfl,K.bb⟩
 have hbb:0<=b/\b<(m.dk.length:Int):=by have:=uh Hh;unfold WR at this;simpa using this
 obtain ⟨k,rfl⟩:∃ k:Nat,b=k:=⟨b.toNat,by omega⟩
 have hk:k<m.dk.length:=by omega
 have hk1:(k:Int)<(m.dk.length:Int):=by omega
 obtain ⟨_,_,hde,_,_,r3⟩:=K.smy.dk;cases hde
 rcases r3 with e0 | ⟨db,off,rfl,hbw,hcl⟩
 ·rw [e0] at hk;simp at hk
 obtain ⟨d0,d1,d2⟩:=Y2 hcl hk;have hq2:(Z8 m.dk k).1=q:=by rw [<-uh Hq];unfold Um;rw [uh Hh,Zy];rfl
 clear hcl Hq;generalize Z8 m.dk k=dd at *;obtain ⟨op,wo,mk⟩:=dd;simp only at d0 d1 d2 hq2;subst hq2;obtain ⟨c0,c1,c2,c3,c4,c5⟩:=K.cells;go_wp2_with fail;refine ck (P8 op wo mk _) fun w4 hb=> ?_;replace K:=K.next hb;clear hb c0 c1 c2 c3 c4 c5 d0 d1 d2;go_wp2_with fail;go_ret;exact ⟨rfl,K.bb⟩
open Go.ChangeShapes Go.WideShapes Go.ChangeAt Go.RowKit Go.Sort Go.Shelf
set_option maxRecDepth 100000
attribute [local go_sem] Oper.semAt_some
theorem Pl {W X:World} (h:Below W.heap.size W X):KeepsOthers W X:=⟨h.size,fun k o hk _=>(h.block k (Array.getElem?_eq_some_iff.1 hk).1).trans hk⟩
theorem FI {W X:World} (h:Below W.heap.size W X) {B:Nat} {t:TypeId} : KeepsBox B t W X:=fun v hv=>(h.block B hv.lt).trans hv
theorem Ws {W X:World} (h:Below W.heap.size W X) {B:Nat} {t:TypeId} {v:Value} (hv:Boxed W B t v):Boxed X B t v:=(h.block B hv.lt).trans hv
def Rnd (w:World) (f:List Int->Int) (a0:Option Addr) (p0:Nat) (a1:Option Addr) (p1:Nat) (a2:Option Addr) (p2:Nat) (a3:Option Addr) (p3:Nat) (a4:Option Addr) (p4:Nat) (m:Z6) (pre:List Int) (W:World):Prop:=Boxed W (w.heap.size+1) 2 (.int .i64 (f pre))/\Bx w W w.heap.size a0 p0 a1 p1 a2 p2 a3 p3 a4 p4 m
theorem Dv (w:World) (f:List Int->Int) (a0:Option Addr) (p0:Nat) (a1:Option Addr) (p1:Nat) (a2:Option Addr) (p2:Nat) (a3:Option Addr) (p3:Nat) (a4:Option Addr) (p4:Nat) (m:Z6) (hs:Smy w (.slice a0 m.rm.length p0) (.slice a1 m.gd.length p1) (.slice a2 m.sm.length p2) (.slice a3 m.dk.length p3) (.slice a4 m.pc.length p4) m) {B:Nat} (hB:w.heap.size<=B):OwnFrom B (Rnd w f a0 p0 a1 p1 a2 p2 a3 p3 a4 p4 m):=by
 rintro pre W X row ⟨h1,h2⟩ hg hr;have h4:=h2.bb.grown hg h2.bb.size (fun k e=>XA hB (hr k e).1);refine ⟨h1.kept hg (fun e=> ?_),hs.below h4,(hg.block _ h2.blk.lt (fun e=> ?_)).trans h2.blk,h4⟩
 ·obtain ⟨_,o,ho,hc⟩:=hr _ e.symm
  rw [show W.heap[w.heap.size+1]?=_ from h1] at ho;cases ho;cases hc
 ·obtain ⟨_,o,ho,hc⟩:=hr _ e.symm
  rw [show W.heap[w.heap.size]?=_ from h2.blk] at ho;cases ho;cases hc
theorem H8 {w W W1 W2:World} {f:List Int->Int} {a0 a1 a2 a3 a4:Option Addr} {p0 p1 p2 p3 p4:Nat} {m:Z6} {pre:List Int} {x v nl:Int} {B S:Nat} (hs:Smy w (.slice a0 m.rm.length p0) (.slice a1 m.gd.length p1) (.slice a2 m.sm.length p2) (.slice a3 m.dk.length p3) (.slice a4 m.pc.length p4) m) (hko:KeepsOthers W W1) (hkb:KeepsBox S 2 W W1) (hb:Below W1.heap.size W1 W2) (hv:Boxed W1 (w.heap.size+1) 2 (.int .i64 nl)) (hK:Bx w W1 w.heap.size a0 p0 a1 p1 a2 p2 a3 p3 a4 p4 m) (hS:w.heap.size+1<S) (e:f (pre++[x])=v) :
  KeepsFrom B W (W2.setCell ⟨w.heap.size+1,0,none⟩ (.int .i64 v))/\KeepsBox S 2 W (W2.setCell ⟨w.heap.size+1,0,none⟩ (.int .i64 v))/\Rnd w f a0 p0 a1 p1 a2 p2 a3 p3 a4 p4 m (pre++[x]) (W2.setCell ⟨w.heap.size+1,0,none⟩ (.int .i64 v)):=by
 have hK2:=hK.next hb;have hbb:Below w.heap.size w (W2.setCell ⟨w.heap.size+1,0,none⟩ (.int .i64 v)):=hK2.bb.setCell (p:=⟨w.heap.size+1,0,none⟩) (Nat.le_succ _) _;refine ⟨((hko.trans (Pl hb)).trans (KeepsOthers.setCell _ _ _)).from _,fun u hu=>(Ws hb (hkb u hu)).other (by omega) _,?_,hs.below hbb,hK2.blk.other (a:=⟨w.heap.size+1,0,none⟩) (by show w.heap.size ≠ w.heap.size+1;omega) _,hbb⟩;rw [e];exact (Ws hb hv).set _
theorem Cj (n:Nat) (hn:3<=n) {w:World} {v0 v1 v2 v3 v4:Value} {m:Z6} {r:Nat} (h:Smy w v0 v1 v2 v3 v4 m) (hS:Sane m) (hW:Wants m) (hr:r<m.rm.length):CallsIn Fence.wide n Tryz.prog 296 #[.agg #[v0,v1,v2,v3,v4,.int .i64 m.now],.int .i64 (r:Int)] w fun e w'=>e= .returned (.int .i64 (U8 m (SA (Vv m.rm (r:Int)))))/\Below w.heap.size w w':=by
 have h1:1<=n:=by omega
 have hmo:Tryz.prog.follows .mixedOrders=true:=by kernel_rfl
 have hl:=hS.few;have HW:=Z9 hW;have Hs:=Z9 h;clear hS hW;obtain ⟨a0,p0,a1,p1,a2,p2,a3,p3,a4,p4,rfl,rfl,rfl,rfl,rfl,K⟩:=Bx.new h;clear h;obtain ⟨st,hst⟩:∃ st,Vv m.rm (r:Int)=st:=⟨_,rfl⟩
 rw [hst];have Hst:=Z9 hst;clear hst;refine callsIn_of_wp_marks Tryz.func296 rfl trivial ?_ rfl;simp only [Tryz.ntmps296,List.size_toArray,Y4,YQ,Nat.reduceAdd,Nat.reduceSub,Array.replicate_succ,Array.replicate_zero,List.push_toArray,List.append_toArray,List.nil_append,List.cons_append]
 gi_wp2_with fail
 have bN:=Boxed.new (w.alloc (.cells (S6 a0 p0 a1 p1 a2 p2 a3 p3 a4 p4 m) 32)) 2 (.int .i64 0);rw [Y8] at bN;replace K:=K.alloc (.cells #[.int .i64 0] 2);generalize (w.alloc (.cells (S6 a0 p0 a1 p1 a2 p2 a3 p3 a4 p4 m) 32)).alloc (.cells #[.int .i64 0] 2)=W0 at *;refine ⟨trivial,?_⟩;refine (callsIn_wide.2 (Vm (r:Int) K.smy.rm)).mono ?_;rw [uh Hst];rintro e w1 ⟨rfl,hb⟩;dsimp only;replace bN:=Ws hb bN;replace K:=K.next hb;clear hb Hst
 gi_wp2_with (refine ⟨trivial,?_⟩;gi_at_call 238;refine (Sz (n-1) _ _).mono ?_;rintro e w' ⟨rfl,rfl⟩)
 have bS:=Boxed.new w1 2 (.int .i64 st);have hsz:=K.bb.size
 refine wpIn_rangeFunc_ownG rfl h1 (gf:=267) (lb:=#[.pointer (some ⟨w1.heap.size,0,none⟩)]) rfl trivial (enters_of Tryz.func267 (by kernel_rfl) rfl)
  (TF (n-1) (by omega) w1.heap.size st _ bS) (fun h k=>h.trans k) (KeepsBox.putObj (by simp)) (Z1 _ _) (fun _=>rfl)
  (Rnd w (U8 m) a0 p0 a1 p1 a2 p2 a3 p3 a4 p4 m) (fun _ _ _=>False)
  (Dv w (U8 m) a0 p0 a1 p1 a2 p2 a3 p3 a4 p4 m (uh Hs) (by simp;omega))
  (fun _ _ _ _ _ hs _ _=>hs)
  ⟨bN.alloc _,K.alloc _⟩
  (fun x=>{ tmps:=#[.agg (S6 a0 p0 a1 p1 a2 p2 a3 p3 a4 p4 m),.int .i64 (r:Int),.pointer (some ⟨w.heap.size,0,none⟩),undef,.int .i64 0,.pointer (some ⟨w.heap.size+1,0,none⟩),.int .i64 x,.pointer (some ⟨w.heap.size,0,none⟩),.agg #[.slice a0 m.rm.length p0],.int .i64 (r:Int),.int .i64 st,.func (.func 267) #[] #[.pointer (some ⟨w1.heap.size,0,none⟩)],.int .i64 x,undef,undef,undef,undef,undef,undef,undef,undef,undef],defers:=[] }) ?assign ?body ?done ?stop
 case assign=>
  intro l x W K hK
  gi_wp2
  exact hK
 case body=>
  rintro l pre x W ⟨hv,hK⟩ hlt;have hc:=hv.cell;have hf:=hv.frozen;obtain ⟨c0,c1,c2,c3,c4,c5⟩:=hK.cells;obtain ⟨us,hus⟩:∃ q,Zi m x (-1)=q:=⟨_,rfl⟩
  have hub:=Tu m x (-1);rw [hus] at hub;have Hus:=Z9 hus;obtain ⟨q,hq⟩:∃ q,Um m x=q:=⟨_,rfl⟩
  have HN:=Z9 (Mx m pre x);have hnb:=Ay m hl pre;rw [hq,hus] at HN;clear hus;generalize U8 m pre=nl at *
  gi_wp2_with fail
  refine ⟨trivial,fun _=>(by omega),?_⟩;refine (CallsIn.inRound l (callsIn_wide.2 (Oa hq hK.smy))).mono ?_;rintro e W1 ⟨rfl,hb⟩;dsimp only;have hko:=Pl hb;have hkb:=FI hb (B:=w1.heap.size) (t:=2);replace hv:=Ws hb hv;replace hK:=hK.next hb;clear hb hc hf c0 c1 c2 c3 c4 c5;cases q
  ·gi_wp2_with fail
   exact ⟨hko.from _,hkb,by rw [show Rnd w (U8 m) a0 p0 a1 p1 a2 p2 a3 p3 a4 p4 m (pre++[x]) W1=(Boxed W1 (w.heap.size+1) 2 (.int .i64 (U8 m (pre++[x])))/\Bx w W1 w.heap.size a0 p0 a1 p1 a2 p2 a3 p3 a4 p4 m) from rfl,uh HN];exact ⟨hv,hK⟩⟩
  have hc:=hv.cell;have hf:=hv.frozen;obtain ⟨c0,c1,c2,c3,c4,c5⟩:=hK.cells
  gi_wp2_with fail
  gi_region_with_o (refine ⟨trivial,fun _=>(by omega),?_⟩;gi_at_call 292;refine (CallsIn.inRound l (callsIn_wide.2 (Qm (uh Hus) ?_ (uh HW) hl))).mono ?_;exact hK.smy.below (Z1 _ _).drew;rintro e W2 ⟨rfl,hb2⟩;have Hb2:Hid (Below W1.heap.size W1 W2):=Z9 ⟨hb2.os,hb2.tape,hb2.output,hb2.size,hb2.block⟩;have hv2:=Ws (uh Hb2) hv;have hc2:=hv2.cell;have hf2:=hv2.frozen;clear hb2)
  all_goals
   exact H8 (uh Hs) hko hkb (uh Hb2) hv hK bN.lt (by rw [uh HN];simp only [if_true];omega)
 case done=>
  rintro D ys W hD rfl ⟨hv,hK⟩ hDf;have hc:=hv.cell
  gi_wp2
  refine ⟨by simp,.inl ⟨_,_,rfl,run_takeDeferred hDf,?_⟩⟩;exact ⟨_,results_tmp rfl _ _ _,rfl,hK.bb.trans (belowK_b (w:=w) (Z2 _) W D _ _ (by simp at hD;omega) hDf rfl rfl)⟩
 case stop=>
  rintro D c pre W _ _ h _;exact h.elim
theorem EG {w:World} {v0 v1 v2 v3 v4:Value} {m:Z6} {r:Nat} (h:Smy w v0 v1 v2 v3 v4 m) (hS:Sane m) (hW:Wants m) (hr:r<m.rm.length):Calls Tryz.prog 296 #[.agg #[v0,v1,v2,v3,v4,.int .i64 m.now],.int .i64 (r:Int)] w fun e w'=>e= .returned (.int .i64 (U8 m (SA (Vv m.rm (r:Int)))))/\Below w.heap.size w w':=callsIn_wide.1 (Cj 3 (Z2 _) h hS hW hr)
theorem CW (n:Nat) (hn:3<=n) {w:World} {v0 v1 v2 v3 v4:Value} {m:Z6} {r:Nat} (h:Smy w v0 v1 v2 v3 v4 m) (hS:Sane m) (hW:Wants m) (hr:r<m.rm.length):CallsIn Fence.wide n Tryz.prog 297 #[.agg #[v0,v1,v2,v3,v4,.int .i64 m.now],.int .i64 (r:Int)] w fun e w'=>e= .returned (.int .i64 (Uu m (SA (Vv m.rm (r:Int)))))/\Below w.heap.size w w':=by
 have h1:1<=n:=by omega
 have hmo:Tryz.prog.follows .mixedOrders=true:=by kernel_rfl
 have hl:=hS.few;have HW:=Z9 hW;have Hs:=Z9 h;clear hS hW;obtain ⟨a0,p0,a1,p1,a2,p2,a3,p3,a4,p4,rfl,rfl,rfl,rfl,rfl,K⟩:=Bx.new h;clear h;obtain ⟨st,hst⟩:∃ st,Vv m.rm (r:Int)=st:=⟨_,rfl⟩
 rw [hst];have Hst:=Z9 hst;clear hst;refine callsIn_of_wp_marks Tryz.func297 rfl trivial ?_ rfl;simp only [Tryz.ntmps297,List.size_toArray,Y4,YQ,Nat.reduceAdd,Nat.reduceSub,Array.replicate_succ,Array.replicate_zero,List.push_toArray,List.append_toArray,List.nil_append,List.cons_append]
 gi_wp2_with fail
 have bN:=Boxed.new (w.alloc (.cells (S6 a0 p0 a1 p1 a2 p2 a3 p3 a4 p4 m) 32)) 2 (.int .i64 0);rw [Y8] at bN;replace K:=K.alloc (.cells #[.int .i64 0] 2);generalize (w.alloc (.cells (S6 a0 p0 a1 p1 a2 p2 a3 p3 a4 p4 m) 32)).alloc (.cells #[.int .i64 0] 2)=W0 at *;refine ⟨trivial,?_⟩;refine (callsIn_wide.2 (Vm (r:Int) K.smy.rm)).mono ?_;rw [uh Hst];rintro e w1 ⟨rfl,hb⟩;dsimp only;replace bN:=Ws hb bN;replace K:=K.next hb;clear hb Hst
 gi_wp2_with (refine ⟨trivial,?_⟩;gi_at_call 238;refine (Sz (n-1) _ _).mono ?_;rintro e w' ⟨rfl,rfl⟩)
 have bS:=Boxed.new w1 2 (.int .i64 st);have hsz:=K.bb.size
 refine wpIn_rangeFunc_ownG rfl h1 (gf:=267) (lb:=#[.pointer (some ⟨w1.heap.size,0,none⟩)]) rfl trivial (enters_of Tryz.func267 (by kernel_rfl) rfl)
  (TF (n-1) (by omega) w1.heap.size st _ bS) (fun h k=>h.trans k) (KeepsBox.putObj (by simp)) (Z1 _ _) (fun _=>rfl)
  (Rnd w (Uu m) a0 p0 a1 p1 a2 p2 a3 p3 a4 p4 m) (fun _ _ _=>False)
  (Dv w (Uu m) a0 p0 a1 p1 a2 p2 a3 p3 a4 p4 m (uh Hs) (by simp;omega))
  (fun _ _ _ _ _ hs _ _=>hs)
  ⟨bN.alloc _,K.alloc _⟩
  (fun x=>{ tmps:=#[.agg (S6 a0 p0 a1 p1 a2 p2 a3 p3 a4 p4 m),.int .i64 (r:Int),.pointer (some ⟨w.heap.size,0,none⟩),undef,.int .i64 0,.pointer (some ⟨w.heap.size+1,0,none⟩),.int .i64 x,.pointer (some ⟨w.heap.size,0,none⟩),.agg #[.slice a0 m.rm.length p0],.int .i64 (r:Int),.int .i64 st,.func (.func 267) #[] #[.pointer (some ⟨w1.heap.size,0,none⟩)],.int .i64 x,undef,undef,undef,undef,undef,undef],defers:=[] }) ?assign ?body ?done ?stop
 case assign=>
  intro l x W K hK
  gi_wp2
  exact hK
 case body=>
  rintro l pre x W ⟨hv,hK⟩ hlt;have hc:=hv.cell;have hf:=hv.frozen;obtain ⟨c0,c1,c2,c3,c4,c5⟩:=hK.cells;obtain ⟨us,hus⟩:∃ q,Zi m x (-1)=q:=⟨_,rfl⟩
  have hub:=Tu m x (-1);rw [hus] at hub;have Hus:=Z9 hus;have HN:=Z9 (Nk m pre x);have hnb:=Br m hl pre;rw [hus] at HN;clear hus;generalize Uu m pre=nl at *;obtain ⟨W1,hW1⟩:∃ X,X=W:=⟨_,rfl⟩
  subst hW1;have hwr:IntKind.i64.wrap (nl+us)=nl+us:=by rw [IntKind.wrap_i64];omega
  gi_wp2_with fail
  gi_region_with_o (refine ⟨trivial,fun _=>(by omega),?_⟩;gi_at_call 292;refine (CallsIn.inRound l (callsIn_wide.2 (Qm (uh Hus) ?_ (uh HW) hl))).mono ?_;exact hK.smy.below (Z1 _ _).drew;rintro e W2 ⟨rfl,hb2⟩;have Hb2:Hid (Below W1.heap.size W1 W2):=Z9 ⟨hb2.os,hb2.tape,hb2.output,hb2.size,hb2.block⟩;have hv2:=Ws (uh Hb2) hv;have hc2:=hv2.cell;have hf2:=hv2.frozen;clear hb2)
  all_goals
   exact H8 (uh Hs) (KeepsOthers.refl _) (fun _ h=>h) (uh Hb2) hv hK bN.lt (by rw [uh HN])
 case done=>
  rintro D ys W hD rfl ⟨hv,hK⟩ hDf;have hc:=hv.cell
  gi_wp2
  refine ⟨by simp,.inl ⟨_,_,rfl,run_takeDeferred hDf,?_⟩⟩;exact ⟨_,results_tmp rfl _ _ _,rfl,hK.bb.trans (belowK_b (w:=w) (Z2 _) W D _ _ (by simp at hD;omega) hDf rfl rfl)⟩
 case stop=>
  rintro D c pre W _ _ h _;exact h.elim
theorem Fz {w:World} {v0 v1 v2 v3 v4:Value} {m:Z6} {r:Nat} (h:Smy w v0 v1 v2 v3 v4 m) (hS:Sane m) (hW:Wants m) (hr:r<m.rm.length):Calls Tryz.prog 297 #[.agg #[v0,v1,v2,v3,v4,.int .i64 m.now],.int .i64 (r:Int)] w fun e w'=>e= .returned (.int .i64 (Uu m (SA (Vv m.rm (r:Int)))))/\Below w.heap.size w w':=callsIn_wide.1 (CW 3 (Z2 _) h hS hW hr)
end Go.Proofs.YtamgfpdahadnfaaGreatDoor
namespace Go.Proofs.YtamgfpdahadnfaaGreatDoor
open Go.ChangeShapes Go.WideShapes Go.ChangeAt Go.RowKit Go.Sort Go.Shelf
set_option linter.unusedVariables false
set_option maxRecDepth 100000
theorem Bx.of {w:World} {a0 a1 a2 a3 a4:Option Addr} {p0 p1 p2 p3 p4:Nat} {m:Z6} (h:Smy w (.slice a0 m.rm.length p0) (.slice a1 m.gd.length p1) (.slice a2 m.sm.length p2) (.slice a3 m.dk.length p3) (.slice a4 m.pc.length p4) m):Bx w (w.alloc (.cells (S6 a0 p0 a1 p1 a2 p2 a3 p3 a4 p4 m) 32)) w.heap.size a0 p0 a1 p1 a2 p2 a3 p3 a4 p4 m:=⟨h.alloc _,Blk.new _ _ _,(ba _ _)⟩
theorem FX {w:World} {a0 a1 a2 a3 a4:Option Addr} {p0 p1 p2 p3 p4:Nat} {m:Z6} (h:Smy w (.slice a0 m.rm.length p0) (.slice a1 m.gd.length p1) (.slice a2 m.sm.length p2) (.slice a3 m.dk.length p3) (.slice a4 m.pc.length p4) m):Calls Tryz.prog 271 #[.agg (S6 a0 p0 a1 p1 a2 p2 a3 p3 a4 p4 m)] w fun e w'=>e= .returned (.func (Fn.func 294) #[] #[.pointer (some ⟨w.heap.size,0,none⟩)])/\Bx w w' w.heap.size a0 p0 a1 p1 a2 p2 a3 p3 a4 p4 m:=by
 have K:=Bx.of h;clear h;go_enter Tryz.func271,Tryz.ntmps271;go_wp2_with fail;go_ret;exact ⟨rfl,K⟩
theorem D4 {w0 w:World} {R r:Nat} {a0 a1 a2 a3 a4:Option Addr} {p0 p1 p2 p3 p4:Nat} {m:Z6} (K:Bx w0 w R a0 p0 a1 p1 a2 p2 a3 p3 a4 p4 m) (hS:Sane m) (hW:Wants m) (hr:r<m.rm.length):Calls Tryz.prog 294 #[.int .i64 (r:Int),.pointer (some ⟨R,0,none⟩)] w fun e w'=>e= .returned (.int .i64 (coalIn m r))/\Below w.heap.size w w':=by
 have hr1:(r:Int)<(m.rm.length:Int):=by omega
 have HM:=Z9 (Cw hS hr);have HN:=Z9 (fun (X:World) (hX:Below w.heap.size w X)=>EG (K.smy.below hX) hS hW hr);have HK:=Z9 (fun (X:World) (hX:Below w.heap.size w X)=>Fz (K.smy.below hX) hS hW hr);clear hS hW;have Hc:Hid (coalIn m r=ON (ZN m.rm r) (U8 m (SA (Vv m.rm (r:Int)))) (Uu m (SA (Vv m.rm (r:Int))))):=Z9 (by rw [(uh HM).1,(uh HM).2];rfl);rw [uh Hc];clear Hc HM;obtain ⟨_,_,hre,_,_,r0⟩:=K.smy.rm;cases hre
 rcases r0 with e0 | ⟨rb,off,rfl,hbw,hcl⟩
 ·rw [e0] at hr;simp at hr
 obtain ⟨d0,pv,d1,hpv⟩:=hcl r hr;clear hcl;generalize U8 m (SA (Vv m.rm (r:Int)))=ne at *;generalize Uu m (SA (Vv m.rm (r:Int)))=wo at *;obtain ⟨⟨n,ps⟩,hrm⟩:∃ x,ZN m.rm r=x:=⟨_,rfl⟩
 rw [hrm] at d0 hpv ⊢;clear hrm;simp only at d0 hpv;have Hpv:=Z9 hpv;obtain ⟨pa,pc,rfl,_,_,_⟩:=hpv;obtain ⟨c0,c1,c2,c3,c4,c5⟩:=K.cells;have k0:=ZY c0;have k1:=ZY c1;have k2:=ZY c2;have k3:=ZY c3;have k4:=ZY c4;have k5:=ZY c5;have k6:=ZY d0;have k7:=ZY d1;go_enter Tryz.func294,Tryz.ntmps294;go_wp2_with fail;refine wq ?_
 repeat (go_big_quiet_step (first | exact ZX (uh HN _ (Z0 _ _ _)) | exact ZX (uh HK _ (Z0 _ _ _)) | exact ZX (Pt _ _ _ ((uh Hpv).below (Z0 _ _ _)))))
 refine wpQuiet_nil ?_;intro _ hw';obtain ⟨⟨dq,osq⟩,hw''⟩:=hw';subst hw'';go_wp2_with fail;go_ret;exact ⟨rfl,Z0 _ _ _⟩
theorem JE {w0 w:World} {R:Nat} {a0 a1 a2 a3 a4 b0:Option Addr} {p0 p1 p2 p3 p4 q0:Nat} {m:Z6} (K:Bx w0 w R a0 p0 a1 p1 a2 p2 a3 p3 a4 p4 m) (hS:Sane m) (hW:Wants m):Calls Tryz.prog 270 #[.slice b0 m.rm.length q0,.func (Fn.func 294) #[] #[.pointer (some ⟨R,0,none⟩)]] w fun e w'=>e= .returned (.int .i64 (QO m))/\Below w.heap.size w w':=by
 have h3:=(Zq hS.hall).2.1;have Hbd:=Z9 (OD m);have HC:=Z9 (fun (X:World) (hX:Below w.heap.size w X) (k:Nat) (hk:k<m.rm.length)=>D4 (K.next hX) hS hW hk);clear hS hW K;go_enter Tryz.func270,Tryz.ntmps270;go_wp2_with fail
 go_loopw [5,9] (fun n i wr=> ∃ k:Nat,k<=m.rm.length/\i= .int .i64 k/\n= .int .i64 (coalTo m k)/\Below w.heap.size w wr) (fun _ i _=>m.rm.length-(intOf i).toNat)
 case atStart=>exact ⟨0,Zz _,rfl,rfl,Z1 _ _⟩
 case round=>
  obtain ⟨k,hk,rfl,rfl,hb0⟩:=hrel;obtain ⟨u0,u1⟩:=uh Hbd k;obtain ⟨u2,u3⟩:=uh Hbd (k+1);have hst:coalTo m (k+1)=coalTo m k+coalIn m k:=rfl;rw [hst] at u2 u3;have Hst:=Z9 hst;have BB:=Z9 hb0;clear hb0 hst;by_cases hlt:k<m.rm.length
  ·have hlt1:(k:Int)<(m.rm.length:Int):=by omega
   have HD:=Z9 (uh HC wr (uh BB) k hlt);generalize coalIn m k=ci at *;generalize coalTo m k=ct at *;go_wp2_with fail;refine ck (uh HD) fun w1 hb=> ?_;replace BB:=bt BB hb;clear hb HD;go_wp2_with fail;go_roundw
   case rel=>exact ⟨k+1,by omega,by go_num,by rw [uh Hst],uh BB⟩
   case measure=>exact ms
  ·obtain rfl:k=m.rm.length:=by omega
   go_wp2_with fail;go_ret;exact ⟨rfl,uh BB⟩
open Go.ChangeShapes Go.WideShapes Go.ChangeAt Go.RowKit Go.Sort
def yt (s:Z3):Z3:=(1,s.2)
def WV (m:Z6) (who:Int):Z6:={ m with sm:=m.sm.set who.toNat (yt (Z8 m.sm who.toNat)) }
theorem Np (m:Z6) {k:Nat} (hk:k<m.sm.length) (i:Nat):Z8 (WV m (k:Int)).sm i=if i=k then yt (Z8 m.sm k) else Z8 m.sm i:=by
 unfold WV;simp only [Zy];exact ZI hk i
theorem Lx (m:Z6) (who:Int):(WV m who).sm.length=m.sm.length:=by unfold WV;simp
theorem By (m:Z6) {k:Nat} (hk:k<m.sm.length) (x:Int):Zu (WV m (k:Int)) x=Zu m x:=by
 unfold Zu;rw [Np m hk];by_cases e:x.toNat=k
 ·rw [if_pos e,e];rfl
 ·rw [if_neg e];rfl
def QF (m:Z6) (but:Int):List Z4->Int
 | []=>0
 | e::q=>(if e.2=but then 0 else Zu m e.2)+QF m but q
theorem Ip (m:Z6) (but:Int) (a b:List Z4):QF m but (a++b)=QF m but a+QF m but b:=by
 induction a with
 | nil=>show QF m but b=0+QF m but b;omega
 | cons e a ih=>show _+QF m but (a++b)=_+QF m but a+QF m but b;omega
theorem Nb (m:Z6) (but:Int) (q:List Z4) (e:Z4):QF m but (Va q e)=QF m but q+(if e.2=but then 0 else Zu m e.2):=by
 have h:=Ip m but (q.take (XC e q)) (q.drop (XC e q));rw [List.take_append_drop] at h;unfold Va;rw [Ip,h];show _+((if e.2=but then 0 else Zu m e.2)+_)=_;omega
theorem DJ (m:Z6) (but:Int):∀ (q:List Z4) (n:Int),q.foldl (fun n e=>if e.2=but then n else n+Zu m e.2) n=n+QF m but q
 | [],n=>by show n=n+0;omega
 | e::q,n=>by
  have ih:=DJ m but q (if e.2=but then n else n+Zu m e.2);rw [List.foldl_cons,ih];show _=n+((if e.2=but then 0 else Zu m e.2)+QF m but q)
  split<;>omega
theorem DK (m:Z6) (b but:Int):Zi m b but=QF m but (atV m.sm b m.sm.length):=by
 have:=DJ m but (atV m.sm b m.sm.length) 0;unfold Zi Vc;omega
theorem Ir (m:Z6) {k:Nat} (hk:k<m.sm.length) (b:Int):∀ j,QF (WV m (k:Int)) (-1) (atV (WV m (k:Int)).sm b j)=QF m (k:Int) (atV m.sm b j)
 | 0=>rfl
 | j+1=>by
  have ih:=Ir m hk b j;by_cases e:j=k
  ·subst e
   rw [TB (ss:=(WV m (j:Int)).sm) (by rw [Np m hk,if_pos rfl];rintro ⟨_,h⟩;cases h),ih];by_cases hat:(Z8 m.sm j).2.1=b/\ZR (Z8 m.sm j)=true
   ·rw [UC hat.1 hat.2,Nb,if_pos rfl];omega
   ·rw [TB hat]
  ·have hr:Z8 (WV m (k:Int)).sm j=Z8 m.sm j:=by rw [Np m hk,if_neg e]
   by_cases hat:(Z8 m.sm j).2.1=b/\ZR (Z8 m.sm j)=true
   ·rw [UC (ss:=(WV m (k:Int)).sm) (by rw [hr];exact hat.1) (by rw [hr];exact hat.2),UC hat.1 hat.2,Nb,Nb,ih,By m hk]
    show _+(if (j:Int)= -1 then 0 else Zu m (j:Int))=_+(if (j:Int)=(k:Int) then 0 else Zu m (j:Int));rw [if_neg (by omega),if_neg (by omega)]
   ·rw [TB (ss:=(WV m (k:Int)).sm) (by rw [hr];exact hat),TB hat,ih]
theorem CS (m:Z6) {k:Nat} (hk:k<m.sm.length) (b:Int):Zi (WV m (k:Int)) b (-1)=Zi m b (k:Int):=by
 rw [DK,DK,Lx];exact Ir m hk b _
theorem Wants.away {m:Z6} (h:Wants m) {k:Nat} (hk:k<m.sm.length) (hs:(Z8 m.sm k).1 ≠ 0):Wants (WV m (k:Int)):=by
 refine ⟨h.gd,fun i hi hne=> ?_⟩;rw [Lx] at hi;rw [Np m hk] at hne ⊢;by_cases e:i=k
 ·rw [if_pos e];exact h.each k hk hs
 ·rw [if_neg e] at hne ⊢;exact h.each i hi hne
abbrev Yk:=Int × Int × Int
def Sc (m:Z6) (k:Nat):Yk:=((k:Int),Zi m (k:Int) (-1),Zb m.rm (k:Int))
def XD (m:Z6):Nat->List Yk
 | 0=>[]
 | k+1=>if (Z8 m.dk k).1 then XD m k++[Sc m k] else XD m k
theorem Qe {m:Z6} {k:Nat} (h:(Z8 m.dk k).1=true):XD m (k+1)=XD m k++[Sc m k]:=by show (if _ then _ else _)=_;rw [if_pos h]
theorem OT {m:Z6} {k:Nat} (h:(Z8 m.dk k).1=false):XD m (k+1)=XD m k:=by show (if _ then _ else _)=_;rw [h];rfl
theorem SC (m:Z6):∀ k,(XD m k).length<=k
 | 0=>Z2 _
 | k+1=>by
  have:=SC m k;unfold XD
  split
  ·simp;omega
  ·omega
theorem SD (m:Z6) (x:Yk):∀ k,x ∈ XD m k ↔ ∃ b:Nat,b<k/\(Z8 m.dk b).1=true/\x=Sc m b
 | 0=>by simp [XD]
 | k+1=>by
  have ih:=SD m x k;cases ho:(Z8 m.dk k).1
  ·rw [OT ho,ih]
   constructor
   ·rintro ⟨b,hb,h⟩;exact ⟨b,by omega,h⟩
   ·rintro ⟨b,hb,h1,h2⟩
    by_cases e:b=k
    ·subst e;rw [ho] at h1;cases h1
    ·exact ⟨b,by omega,h1,h2⟩
  ·rw [Qe ho,List.mem_append,ih]
   constructor
   ·rintro (⟨b,hb,h⟩ | h)
    ·exact ⟨b,by omega,h⟩
    ·exact ⟨k,by omega,ho,by simpa using h⟩
   ·rintro ⟨b,hb,h1,h2⟩
    by_cases e:b=k
    ·subst e;right;simp [h2]
    ·left;exact ⟨b,by omega,h1,h2⟩
def BE (m:Z6) (who:Int) (k:Nat):Yk:=((k:Int),Zi m (k:Int) who,Zb m.rm (k:Int))
def VH (m:Z6) (who:Int):Nat->List Yk
 | 0=>[]
 | k+1=>if YK m who k then VH m who k++[BE m who k] else VH m who k
theorem OQ {m:Z6} {who:Int} {k:Nat} (h:YK m who k=true):VH m who (k+1)=VH m who k++[BE m who k]:=by show (if _ then _ else _)=_;rw [if_pos h]
theorem PA {m:Z6} {who:Int} {k:Nat} (h:YK m who k=false):VH m who (k+1)=VH m who k:=by show (if _ then _ else _)=_;rw [h];rfl
theorem J9 (m:Z6) (who:Int):∀ k,(VH m who k).length<=k
 | 0=>Z2 _
 | k+1=>by
  have:=J9 m who k;unfold VH
  split
  ·simp;omega
  ·omega
def TM (m:Z6) (k:Nat) (x:Yk):Bool:=V0 (Z8 m.sm k).2.2.2.1 x.1
theorem GO (m:Z6) {k:Nat} (hk:k<m.sm.length):∀ n,(XD (WV m (k:Int)) n).filter (TM m k)=VH m (k:Int) n
 | 0=>rfl
 | n+1=>by
  have ih:=GO m hk n;have hd:(WV m (k:Int)).dk=m.dk:=rfl;have hm:YK m (k:Int) n=((Z8 m.dk n).1 && V0 (Z8 m.sm k).2.2.2.1 (n:Int)):=rfl;have hi:TM m k (Sc (WV m (k:Int)) n)=V0 (Z8 m.sm k).2.2.2.1 (n:Int):=rfl;cases ho:(Z8 m.dk n).1
  ·rw [OT (by rw [hd];exact ho),ih,PA (by rw [hm,ho];rfl)]
  ·rw [Qe (by rw [hd];exact ho),List.filter_append,ih]
   cases hb:V0 (Z8 m.sm k).2.2.2.1 (n:Int)
   ·rw [PA (by rw [hm,ho,hb];rfl),List.filter_cons_of_neg (by rw [hi,hb];simp)]
    simp
   ·rw [OQ (by rw [hm,ho,hb];rfl),List.filter_cons_of_pos (by rw [hi,hb])]
    have hv:Sc (WV m (k:Int)) n=BE m (k:Int) n:=by unfold Sc BE;rw [CS m hk];rfl
    rw [hv];rfl
def WK (wn:Int) (x:Yk):Bool:=Ww wn x.2.1 x.2.2
theorem Jn (m:Z6) (who:Int):∀ k,((VH m who k).filter (WK (Zu m who))).map (·.1)=VE m who k
 | 0=>rfl
 | k+1=>by
  have ih:=Jn m who k;have hf:Rj m who k=(YK m who k && WK (Zu m who) (BE m who k)):=rfl;cases hm:YK m who k
  ·rw [PA hm,ih]
   show _=if _ then _ else _
   rw [hf,hm];rfl
  ·rw [OQ hm,List.filter_append,List.map_append,ih]
   show _=if _ then _ else _
   cases ht:WK (Zu m who) (BE m who k)
   ·rw [hf,hm,ht,List.filter_cons_of_neg (by rw [ht];simp)];simp
   ·rw [hf,hm,ht,List.filter_cons_of_pos ht];rfl
def PI (a:Int × Int) (x:Yk):Int × Int:=if a.1= -1\/a.2<XE x.2.1 x.2.2 then (x.1,XE x.2.1 x.2.2) else a
def RJ (l:List Yk):Int × Int:=l.foldl PI (-1,0)
theorem MO (l:List Yk) (x:Yk):RJ (l++[x])=PI (RJ l) x:=by unfold RJ;rw [List.foldl_append];rfl
theorem GF (m:Z6) (who:Int):∀ k,RJ (VH m who k)=YN m who k
 | 0=>rfl
 | k+1=>by
  have ih:=GF m who k;have ho:=Jq m who k
  have hn:((YN m who k).1<0) ↔ (YN m who k).1= -1:=by
   rcases ho with ⟨e,_⟩ | ⟨b,_,e,_⟩
   ·rw [e];omega
   ·rw [e];omega
  have hM:YN m who (k+1)=if YK m who k && (decide ((YN m who k).1<0) || decide ((YN m who k).2<XE (Zi m k who) (Zb m.rm k))) then ((k:Int),XE (Zi m k who) (Zb m.rm k)) else YN m who k:=rfl
  rw [hM];cases hm:YK m who k
  ·rw [PA hm,ih];rfl
  ·rw [OQ hm,MO,ih]
   show (if (YN m who k).1= -1\/(YN m who k).2<XE (Zi m k who) (Zb m.rm k) then _ else _)=_;by_cases hc:(YN m who k).1= -1\/(YN m who k).2<XE (Zi m k who) (Zb m.rm k)
   ·rw [if_pos hc,if_pos (by rw [Bool.true_and,Bool.or_eq_true,decide_eq_true_iff,decide_eq_true_iff,hn];exact hc)];rfl
   ·rw [if_neg hc,if_neg (by rw [Bool.true_and,Bool.or_eq_true,decide_eq_true_iff,decide_eq_true_iff,hn];exact hc)]
def Xa (m:Z6) (who:Int) (a:Int × Int) (b:Int):Int × Int:=if a.1= -1\/Zl m who b<a.2\/(Zl m who b=a.2/\b=(Z8 m.sm who.toNat).2.1) then (b,Zl m who b) else a
def UP (m:Z6) (who:Int) (f:List Int):Int × Int:=f.foldl (Xa m who) (-1,0)
theorem FM (m:Z6) (who:Int) (f:List Int) (b:Int):UP m who (f++[b])=Xa m who (UP m who f) b:=by unfold UP;rw [List.foldl_append];rfl
theorem LD (m:Z6) (who:Int):∀ (f:List Int) (a:Int × Int),0<=a.1->(∀ x ∈ f,0<=x)->f.foldl (Xa m who) a=f.foldl (XF m who) a
 | [],a,_,_=>rfl
 | b::f,a,h0,hf=>by
  have e:Xa m who a b=XF m who a b:=by
   unfold Xa XF;by_cases hc:Zl m who b<a.2\/(Zl m who b=a.2/\b=(Z8 m.sm who.toNat).2.1)
   ·rw [if_pos hc,if_pos (.inr hc)]
   ·rw [if_neg hc,if_neg (not_or.2 ⟨by omega,hc⟩)]
  rw [List.foldl_cons,List.foldl_cons,e];refine LD m who f _ ?_ (fun x hx=>hf x (List.mem_cons_of_mem _ hx));unfold XF
  split
  ·exact hf b (by simp)
  ·exact h0
theorem DT (m:Z6) (who:Int) {f:List Int} (h:0<f.length) (hf:∀ x ∈ f,0<=x):UP m who f=Xj m who f f.length:=by
 obtain ⟨x,r,rfl⟩:∃ x r,f=x::r:=by
  cases f with
  | nil=>simp at h
  | cons x r=>exact ⟨x,r,rfl⟩
 unfold UP Xj;rw [List.take_length,List.foldl_cons];show r.foldl (Xa m who) (Xa m who (-1,0) x)=r.foldl (XF m who) (x,Zl m who x);have e:Xa m who (-1,0) x=(x,Zl m who x):=by unfold Xa;rw [if_pos (.inl rfl)]
 rw [e];exact LD m who r _ (hf x (by simp)) (fun y hy=>hf y (by simp [hy]))
theorem zR {m:Z6} {who x:Int} (h:x ∈ YT m who):∃ b:Nat,b<m.dk.length/\x=(b:Int)/\YK m who b=true:=by
 obtain ⟨b,hb,e,hf⟩:=(OG m who x m.dk.length).1 h;unfold Rj at hf;simp only [ZL] at hf;exact ⟨b,hb,e,hf.1⟩
theorem SQ {α:Type} [Inhabited α] {l:List α} {k:Nat} (h:k<l.length):l.take (k+1)=l.take k++[Z8 l k]:=by
 rw [List.take_succ_eq_append_getElem h,Q2 h]
theorem ze {m:Z6} {k:Nat} (hk:k<m.dk.length):Um m (k:Int)=(Z8 m.dk k).1:=by
 unfold Um WR;rw [Zy,decide_eq_true (show (0:Int)<=(k:Int) by omega),decide_eq_true (show (k:Int)<(m.dk.length:Int) by omega)];simp
theorem BH (m:Z6):(XD m m.dk.length).any (fun x=>VI x.2.1 x.2.2)=Xk m:=by
 unfold Xk;rw [Bool.eq_iff_iff,List.any_eq_true,List.any_eq_true];constructor
 ·rintro ⟨x,hx,hm⟩
  obtain ⟨b,hb,ho,rfl⟩:=(SD m x _).1 hx;exact ⟨b,List.mem_range.2 hb,by unfold Ve;rw [ho];exact hm⟩
 ·rintro ⟨b,hb,hc⟩
  unfold Ve at hc;simp only [ZL] at hc;exact ⟨Sc m b,(SD m _ _).2 ⟨b,List.mem_range.1 hb,hc.1,rfl⟩,hc.2⟩
theorem xJ {α:Type} [Inhabited α] {p:α->Bool} {l:List α} (h:∀ i,i<l.length->p (Z8 l i)=false):l.any p=false:=by
 rw [List.any_eq_false];intro x hx;obtain ⟨i,hi,rfl⟩:=List.getElem_of_mem hx;rw [<-Q2 hi,h i hi];simp
theorem yO {α:Type} [Inhabited α] {p:α->Bool} {l:List α} {i:Nat} (hi:i<l.length) (h:p (Z8 l i)=true):l.any p=true:=List.any_eq_true.2 ⟨_,Vt hi,h⟩
theorem LY {α:Type} [Inhabited α] {p:α->Bool} {l:List α} {j:Nat} (hj:j<l.length) (h:p (Z8 l j)=true):(l.take (j+1)).filter p=(l.take j).filter p++[Z8 l j]:=by
 rw [SQ hj,List.filter_append,List.filter_cons_of_pos h];rfl
theorem JP {α:Type} [Inhabited α] {p:α->Bool} {l:List α} {j:Nat} (hj:j<l.length) (h:p (Z8 l j)=false):(l.take (j+1)).filter p=(l.take j).filter p:=by
 rw [SQ hj,List.filter_append,List.filter_cons_of_neg (by rw [h];simp)];simp
theorem Cx {l:List Yk} {j:Nat} (hj:j<l.length):RJ (l.take (j+1))=PI (RJ (l.take j)) (Z8 l j):=by rw [SQ hj,MO]
theorem DU {m:Z6} {who:Int} {l:List Int} {j:Nat} (hj:j<l.length):UP m who (l.take (j+1))=Xa m who (UP m who (l.take j)) (Z8 l j):=by rw [SQ hj,FM]
def S0 (m X:Z6) (c:Int):Z6 × Int:=if ZF m then (if c=0 then (YU X,0) else (m,c)) else (Yc,3)
theorem LQ {m:Z6} (h:ZF m=false) (X:Z6) (c:Int):S0 m X c=(Yc,3):=by unfold S0;rw [h];rfl
theorem LR {m:Z6} (h:ZF m=true) (X:Z6):S0 m X 0=(YU X,0):=by unfold S0;rw [h];rfl
theorem QS {m:Z6} (h:ZF m=true) (X:Z6) {c:Int} (hc:c ≠ 0):S0 m X c=(m,c):=by unfold S0;rw [h,if_pos rfl,if_neg hc]
theorem KC {m:Z6} (h:Loose m):YU m=ZP m:=by unfold YU;rw [h.mk',if_pos rfl]
def S5 (x:Yk):List Value:=[.iface 273 (.agg #[.int .i64 x.1,.int .i64 x.2.1,.int .i64 x.2.2])]
theorem Wg (x:Yk):(S5 x).length=1:=rfl
abbrev Yo (n₀:Nat) (w:World) (v:Value) (xs:List Yk):Prop:=RecAt 227 1 S5 n₀ w v xs
theorem JT:(Tryz.prog.info? 227).map (fun i=>(i.zero,i.size,i.bytes))=some (some .nilIface,1,16):=by kernel_rfl
theorem Sd {w:World} {g:Nat} {xs:List Yk} (h:∀ j,j<xs.length-> ∀ i u,(S5 (Z8 xs j))[i]?=some u->w.cell? ⟨g,j*1+i,none⟩=some u) {j:Nat} (hj:j<xs.length):w.cell? ⟨g,j,none⟩=some (.iface 273 (.agg #[.int .i64 (Z8 xs j).1,.int .i64 (Z8 xs j).2.1,.int .i64 (Z8 xs j).2.2])):=by
 have:=h j hj 0 _ rfl;simpa using this
theorem O3 {w:World} {base t ty:Nat} (ht:Tryz.prog.underlying t=some (.slice 227)) {v x:Value} {ps qs:List Yk} (hown:Yo base w v ps) (hx:IsRec 1 S5 w x qs) (hb:ps.length+qs.length<=4000) (hbase:base<=w.heap.size) :
  ∃ v' w',(Builtin.append_ #[t,t] ty #[v,x]).run Tryz.prog w= .ok v' w'/\Yo base w' v' (ps++qs)/\w.grownBy w' v.ownBlock/\(v'.ownBlock=v.ownBlock\/v'.ownBlock=some w.heap.size):=by
 obtain ⟨i0,hi,hz0,hz1,hz2⟩:=PE JT;obtain ⟨a,c,rfl,hc,hm,hr⟩:=hx;by_cases h0:qs=[]
 ·subst h0
  refine ⟨v,w,RZ ht hi hown a c,by simpa using hown,Sl _ _,.inl rfl⟩
 ·rcases hr with hr | ⟨b,off,rfl,hlt,hcl⟩
  ·exact absurd hr h0
  ·obtain ⟨v',w',hr,h2,h3,_,h5⟩:=run_append_own_at (P:=Tryz.prog) w base t ty 227 i0 .nilIface 1 16 ht hi hz0 hz1 hz2 rfl (by omega) v ps.length _ hown ⟨b,off,none⟩ qs.length c (UF S5 qs) (V7 Wg qs)
    (Ki Wg (by omega) hcl) (F7 (fun x u hu=>by rcases List.mem_singleton.1 hu with rfl;rfl) qs) (by simp only [maxLen];omega) (by omega) hbase
   refine ⟨v',w',hr,?_,h3,h5⟩;unfold Yo RecAt;rw [N7,List.length_append];exact h2
theorem UO {w:World} {ops:Array Oper} {rest:List Oper} {o:Oper} {a:Act} {Q:Exit->Act->World->Prop} (hgd:o.guard=none) (s x:Operand) (t:TypeId) (ht:Tryz.prog.underlying t=some (.slice 227))
  (ho:o.op= .call { callee:= .builtin .append,args:=#[s,x],argTypes:=#[t,t] }) (base:Nat) (v u:Value) (ps qs:List Yk) (hs:a.eval s=v) (hx:a.eval x=u) (hown:Yo base w v ps) (hr:IsRec 1 S5 w u qs)
  (hb:ps.length+qs.length<=4000) (hbase:base<=w.heap.size)
  (h:∀ v' w',Yo base w' v' (ps++qs)->w.grownBy w' v.ownBlock->(v'.ownBlock=v.ownBlock\/v'.ownBlock=some w.heap.size)->wpList Tryz.prog ops Q rest (a.put o.dst v') w') :
  wpList Tryz.prog ops Q (o::rest) a w:=by
 refine wpList_plain hgd fun K hK=> ?_;obtain ⟨v',w',hrun,h2,h3,h5⟩:=O3 (ty:=o.type) ht hown hr hb hbase;unfold Oper.wp execOp;simp only [ho,resolve,invoke,builtin,Sem.run_bind,Sem.run_pure,Result.andThen_ok,List.map_toArray,List.map_cons,List.map_nil,hs,hx,hrun];exact hK _ _ (h v' w' h2 h3 h5)
set_option linter.unusedSimpArgs false
set_option maxRecDepth 100000
theorem Fj {m:Z6} {b:Nat} {e:Z4} {t:List Z4} (h:atV m.sm b m.sm.length=e::t):WY m b={ m with sm:=ZB (m.sm.set e.2.toNat (stS (Z8 m.sm e.2.toNat) 3)) t,dk:=m.dk.set b ((Z8 m.dk b).1,e.2,Zv (Z8 m.dk b).2.2 e.1) }:=by
 rw [Nd h,Bi h]
theorem DS {w:World} {n₀:Nat} {v0 v1 v2 v3 v4:Value} {m:Z6} {qs:List (ZZ × Value)} {b:Nat} (hf:FullSmy n₀ w v0 v1 v2 v3 v4 m qs) (hL:Loose m) (hb:b<m.dk.length) :
  Calls Tryz.prog 162 #[.agg #[v0,v1,v2,v3,v4,.int .i64 m.now],.int .i64 (b:Int)] w fun e w'=>e= .returned (.tuple #[])/\FullSmy n₀ w' v0 v1 v2 v3 v4 (WY m b) qs/\Two v2.ownBlock v3.ownBlock w w':=by
 have h:=hf.smy;obtain ⟨a0,p0,a1,p1,a2,p2,a3,p3,a4,p4,rfl,rfl,rfl,rfl,rfl,_,_,_,_,_,_,_,_,_,_⟩:=h.five;have hl12:=YO hL;have heig:=hL.sane.eight;obtain ⟨g3,hga,hg3,hg3w,_,_⟩:=RecAt.view ZH (by omega) hf.dk rfl (by omega);cases hga;have L2:Hid (∀ i,(Value.slice a2 m.sm.length p2).ownBlock=some i->i<w.heap.size):=Z9 (fun i e=>(RecAt.lt hf.sm e).2);have HQ:=Z9 (FG hL (b:Int) m.sm.length (Z2 _));have HN:Hid (atV m.sm (b:Int) m.sm.length=[]->WY m b={ m with dk:=m.dk.set b ((Z8 m.dk b).1,-1,(Z8 m.dk b).2.2) }):=Z9 (fun h=>Ky h);have HC:Hid (∀ e t,atV m.sm (b:Int) m.sm.length=e::t->WY m b={ m with sm:=ZB (m.sm.set e.2.toNat (stS (Z8 m.sm e.2.toNat) 3)) t,dk:=m.dk.set b ((Z8 m.dk b).1,e.2,Zv (Z8 m.dk b).2.2 e.1) }):=Z9 (fun e t h=>Fj h)
 have Hm:Hid (∀ x ∈ atV m.sm (b:Int) m.sm.length,∃ j:Nat,j<m.sm.length/\x.2=(j:Int)):=Z9 (fun x hx=>by
  obtain ⟨j,hj,_,_,rfl⟩:=(Yi m.sm (b:Int) x m.sm.length).1 hx
  exact ⟨j,hj,rfl⟩)
 have Hql:=Z9 (TK m.sm (b:Int) m.sm.length);have HF:=Z9 hf;have HL:=Z9 hL;have hb1:(b:Int)<(m.dk.length:Int):=by omega
 clear h hf hL hg3;go_enter Tryz.func162,Tryz.ntmps162;go_upto_region 1 with fail;have hba:Below w.heap.size w (w.alloc (.cells (S6 a0 p0 a1 p1 a2 p2 (some ⟨g3,0,none⟩) p3 a4 p4 m) 32)):=ba _ _;have kb:Hid (Blk (w.alloc (.cells (S6 a0 p0 a1 p1 a2 p2 (some ⟨g3,0,none⟩) p3 a4 p4 m) 32)) w.heap.size 32 (S6 a0 p0 a1 p1 a2 p2 (some ⟨g3,0,none⟩) p3 a4 p4 m)):=Z9 (Blk.new _ _ _);replace HF:=Z9 ((uh HF).below hba);have Tw:Hid (Two (Value.slice a2 m.sm.length p2).ownBlock (some g3) w (w.alloc (.cells (S6 a0 p0 a1 p1 a2 p2 (some ⟨g3,0,none⟩) p3 a4 p4 m) 32))):=Z9 (Two.of_below hba);have hgW:g3<(w.alloc (.cells (S6 a0 p0 a1 p1 a2 p2 (some ⟨g3,0,none⟩) p3 a4 p4 m) 32)).heap.size:=Zd hg3w hba.size;have hRW:w.heap.size<(w.alloc (.cells (S6 a0 p0 a1 p1 a2 p2 (some ⟨g3,0,none⟩) p3 a4 p4 m) 32)).heap.size:=(uh kb).lt;clear hba;generalize w.alloc (.cells (S6 a0 p0 a1 p1 a2 p2 (some ⟨g3,0,none⟩) p3 a4 p4 m) 32)=W at *;have H2:Hid ((Value.slice a2 m.sm.length p2).ownBlock ≠ some w.heap.size):=Z9 (fun e=>by have:=uh L2 _ e;omega);have H3:Hid (some g3 ≠ some w.heap.size):=Z9 (fun e=>by cases e;omega);have Low2:Hid (∀ i,(Value.slice a2 m.sm.length p2).ownBlock=some i->i<W.heap.size):=Z9 (fun i e=>by have:=uh L2 i e;omega);obtain ⟨c0,c1,c2,c3,c4,c5⟩:=(uh kb).c6;go_wp2_with fail;refine (G8 (b:Int) (uh HF).smy (uh HL)).mono ?_;rintro e w1 ⟨v',rfl,he,hb⟩;clear c0 c1 c2 c3 c4 c5;generalize atV m.sm (b:Int) m.sm.length=q at *;obtain ⟨qa,qc,rfl⟩:=EntsAt.shape he;have HE:=Z9 he;replace HF:=Z9 ((uh HF).below hb);replace kb:=bl kb hb;replace Tw:=Z9 ((uh Tw).trans (Two.of_below hb));have hgw1:g3<w1.heap.size:=Zd hgW hb.size;have hw1:=hb.size;clear he hb;go_wp2_with fail;refine ck (ND (uh HE).pc) fun w2 hb=> ?_;replace HE:=Z9 ((uh HE).later hb);replace HF:=Z9 ((uh HF).below hb);replace kb:=bl kb hb;replace Tw:=Z9 ((uh Tw).trans (Two.of_below hb));have hgw2:g3<w2.heap.size:=Zd hgw1 hb.size;have hw2:W.heap.size<=w2.heap.size:=XA hw1 hb.size;clear hb hw1 hgw1;obtain ⟨⟨op,wh,mk⟩,hrk⟩:∃ d,Z8 m.dk b=d:=⟨_,rfl⟩
 rw [hrk] at HN HC;simp only at HN HC;have Hrk:=Z9 hrk;clear hrk;have Hset:Hid (∀ d,Z8 (m.dk.set b d) b=d):=Z9 (fun d=>by rw [ZI hb,if_pos rfl]);cases q with
 | nil=>
  have hfv:Si []=((0,0),false):=QT rfl;rw [hfv];clear HC hfv;go_upto_region 4 with fail;have hba:Below w2.heap.size w2 (w2.alloc (.cells #[.int .i64 0,.int .i64 0] 91)):=ba _ _;replace HF:=Z9 ((uh HF).below hba);replace kb:=bl kb hba;replace Tw:=Z9 ((uh Tw).trans (Two.of_below hba));clear hba;generalize w2.alloc (.cells #[.int .i64 0,.int .i64 0] 91)=X at *;obtain ⟨_,hga,_,_,hc3,hz3⟩:=RecAt.view ZH (by omega) (uh HF).dk rfl (by omega);cases hga;have d1:=hc3 b hb 1 _ rfl;rw [uh Hrk] at d1;have f1:=hz3 (b*3+1);have c3:=(uh kb).cell (i:=3) (v:= .slice (some ⟨g3,0,none⟩) m.dk.length p3) rfl;have hput:=(uh HF).putD rfl (j:=b) (i:=1) hb (by omega) (.int .i64 (-1)) (op,-1,mk) (by rw [uh Hrk];rfl);have HP:=Z9 hput;clear hput hc3 hz3;go_wp2_with fail;refine ZQ (results_none rfl _ _ _) rfl ?_;exact ⟨rfl,by rw [uh HN (by first | rfl | trivial)];exact uh HP,(uh Tw).trans (Two.of_set X (.inr rfl) _ _)⟩
 | cons e t=>
  have hfv:Si (e::t)=(e,true):=L5 (uh HQ) (by simp);obtain ⟨i0,hi0,hie⟩:=uh Hm e (by simp);obtain ⟨hd0,ei⟩:=e;simp only at hie;subst hie;rw [hfv];have hcons:=uh HC (hd0,(i0:Int)) t rfl;simp only [show ((i0:Int)).toNat=i0 by simp] at hcons;have Hcons:=Z9 hcons;have hi1:(i0:Int)<(m.sm.length:Int):=by omega
  have htl:t.length<=12:=by have:=uh Hql;simp at this;omega
  have Hmt:Hid (∀ x ∈ t,∃ j:Nat,j<m.sm.length/\x.2=(j:Int)):=Z9 (fun x hx=>uh Hm x (List.mem_cons_of_mem _ hx));clear HN HC hfv hcons Hm HQ Hql;obtain ⟨n1,hn1⟩:∃ n,n=((hd0,(i0:Int))::t).length:=⟨_,rfl⟩
  rw [<-hn1] at HE;rw [<-hn1];clear hn1;dsimp only;go_upto_region 5 with fail;have hba:Below w2.heap.size w2 (w2.alloc (.cells #[.int .i64 hd0,.int .i64 (i0:Int)] 91)):=ba _ _;have ke:Hid (Blk (w2.alloc (.cells #[.int .i64 hd0,.int .i64 (i0:Int)] 91)) w2.heap.size 91 #[.int .i64 hd0,.int .i64 (i0:Int)]):=Z9 (Blk.new _ _ _);replace HE:=Z9 ((uh HE).later hba);replace HF:=Z9 ((uh HF).below hba);replace kb:=bl kb hba;replace Tw:=Z9 ((uh Tw).trans (Two.of_below hba));have hgX:w2.heap.size<(w2.alloc (.cells #[.int .i64 hd0,.int .i64 (i0:Int)] 91)).heap.size:=(uh ke).lt;clear hba;generalize w2.alloc (.cells #[.int .i64 hd0,.int .i64 (i0:Int)] 91)=X at *;obtain ⟨g2,hga,_,_,hc2,hz2⟩:=RecAt.view ZT (by omega) (uh HF).sm rfl (by omega);cases hga;have hg2W:=uh Low2 g2 rfl;have hn23:g2 ≠ g3:=fun e=>(uh HF).a23 g2 rfl (by rw [e];rfl);have s0:=hc2 i0 hi0 0 _ rfl;have f0:=hz2 (i0*11);have hput:=(uh HF).putS rfl (j:=i0) (i:=0) hi0 (by omega) (.int .i64 3) (stS (Z8 m.sm i0) 3) rfl;simp only [Nat.add_zero] at s0 hput;have HF1:=Z9 hput;have c2:=(uh kb).cell (i:=2) (v:= .slice (some ⟨g2,0,none⟩) m.sm.length p2) rfl;have e1:=(uh ke).cell (i:=1) (v:= .int .i64 (i0:Int)) rfl;clear hput hc2 hz2;have ht:Two (some g2) (some g3) X (X.setCell ⟨g2,i0*11,none⟩ (.int .i64 3)):=Two.of_set X (.inl rfl) _ _;have h2R:(some g2:Option Nat) ≠ some w.heap.size:=uh H2;have h3R:(some g3:Option Nat) ≠ some w.heap.size:=uh H3;have h2E:(some g2:Option Nat) ≠ some w2.heap.size:=fun e=>by cases e;omega
  have h3E:(some g3:Option Nat) ≠ some w2.heap.size:=fun e=>by cases e;omega
  replace kb:=Z9 ((uh kb).two ht h2R h3R);replace ke:=Z9 ((uh ke).two ht h2E h3E);replace HE:=Z9 (Two.ents (uh HE) ht (fun i e=>by cases e;omega) (fun i e=>by cases e;omega));have Tw1:Hid (Two (some g2) (some g3) w (X.setCell ⟨g2,i0*11,none⟩ (.int .i64 3))):=Z9 ((uh Tw).trans ht);clear ht Tw HF;go_upto_region 6 with fail;clear s0 f0 c2 e1;generalize X.setCell ⟨g2,i0*11,none⟩ (.int .i64 3)=X1 at *;obtain ⟨ss,hss⟩:∃ q,m.sm.set i0 (stS (Z8 m.sm i0) 3)=q:=⟨_,rfl⟩
  have hsl:ss.length=m.sm.length:=by rw [<-hss];simp
  rw [hss] at Hcons HF1;clear hss;obtain ⟨_,hga,_,_,hc3,hz3⟩:=RecAt.view ZH (by omega) (uh HF1).dk rfl (by show 0<m.dk.length;omega);cases hga;have d1:=hc3 b hb 1 _ rfl;have hrk2:Z8 ({ m with sm:=ss } : Z6).dk b=(op,wh,mk):=uh Hrk;rw [hrk2] at d1;have f1:=hz3 (b*3+1);have c3:=(uh kb).cell (i:=3) (v:= .slice (some ⟨g3,0,none⟩) m.dk.length p3) rfl;have e1:=(uh ke).cell (i:=1) (v:= .int .i64 (i0:Int)) rfl;have hput:=(uh HF1).putD rfl (j:=b) (i:=1) hb (by omega) (.int .i64 (i0:Int)) (op,(i0:Int),mk) (by rw [hrk2];rfl);have HF2:=Z9 hput;clear hput hc3 hz3 hrk2;have ht:Two (some g2) (some g3) X1 (X1.setCell ⟨g3,b*3+1,none⟩ (.int .i64 (i0:Int))):=Two.of_set X1 (.inr rfl) _ _;replace kb:=Z9 ((uh kb).two ht h2R h3R);replace ke:=Z9 ((uh ke).two ht h2E h3E);replace HE:=Z9 (Two.ents (uh HE) ht (fun i e=>by cases e;omega) (fun i e=>by cases e;omega));have Tw2:Hid (Two (some g2) (some g3) w (X1.setCell ⟨g3,b*3+1,none⟩ (.int .i64 (i0:Int)))):=Z9 ((uh Tw1).trans ht);clear ht Tw1 HF1;go_upto_region 7 with fail;clear d1 f1 c3 e1;generalize X1.setCell ⟨g3,b*3+1,none⟩ (.int .i64 (i0:Int))=X2 at *;have hD1:(m.dk.set b (op,(i0:Int),mk)).length=m.dk.length:=by simp
  obtain ⟨_,hga,_,_,hc3,hz3⟩:=RecAt.view ZH (by omega) (uh HF2).dk hD1.symm (by show 0<(m.dk.set b _).length;omega);cases hga;have hrk2:Z8 ({ m with sm:=ss,dk:=m.dk.set b (op,(i0:Int),mk) } : Z6).dk b=(op,(i0:Int),mk):=uh Hset _;have d2:=hc3 b (by show b<(m.dk.set b _).length;omega) 2 _ rfl;rw [hrk2] at d2;simp only at d2;have f2:=hz3 (b*3+2);have c3:=(uh kb).cell (i:=3) (v:= .slice (some ⟨g3,0,none⟩) m.dk.length p3) rfl;have e0:=(uh ke).cell (i:=0) (v:= .int .i64 hd0) rfl;have hput:=(uh HF2).putD hD1.symm (j:=b) (i:=2) (by show b<(m.dk.set b _).length;omega) (by omega) (.int .i64 (Zv mk hd0)) (op,(i0:Int),(Zv mk hd0)) (by rw [hrk2];rfl);simp only [List.set_set] at hput;clear hc3 hz3 hrk2;refine ZS (S:=fun w'=>w'.cell? ⟨w.heap.size,3,none⟩=some (.slice (some ⟨g3,0,none⟩) m.dk.length p3)/\w'.cell? ⟨g3,b*3+2,none⟩=some (.int .i64 mk)/\w'.cell? ⟨w2.heap.size,0,none⟩=some (.int .i64 hd0)/\w'.frozen? ⟨g3,b*3+2,none⟩=false) (by kernel_rfl) (XM _ _) (by kernel_rfl) ⟨c3,d2,e0,f2⟩ (fun hHeld=> ?_);simp only [XN,XO,Y4,YQ,Nat.zero_add,Nat.reduceAdd];have hbd:Below X2.heap.size X2 X2.drew:=(Z1 _ _).drew
  iterate 11 refine tz ?_
  refine rd 11 rfl (fun K hK=> ?_);go_simp;refine (Mg mk hd0 _).mono ?_;rintro e9 w9 ⟨rfl,hb9'⟩;have hb9:Below X2.heap.size X2 w9:=hbd.trans hb9';clear hb9' hbd;replace kb:=Z9 ((uh kb).below hb9 (uh kb).lt);replace ke:=Z9 ((uh ke).below hb9 (uh ke).lt);replace HE:=Z9 ((uh HE).later hb9);replace Tw2:=Z9 ((uh Tw2).trans (Two.of_below hb9));have HF3:Hid (FullSmy n₀ w9 (.slice a0 m.rm.length p0) (.slice a1 m.gd.length p1) (.slice (some ⟨g2,0,none⟩) m.sm.length p2) (.slice (some ⟨g3,0,none⟩) m.dk.length p3) (.slice a4 m.pc.length p4) { m with sm:=ss,dk:=m.dk.set b (op,(i0:Int),mk) } qs):=Z9 ((uh HF2).below hb9);clear hput;obtain ⟨_,hga,_,_,hc3,hz3⟩:=RecAt.view ZH (by omega) (uh HF3).dk hD1.symm (by show 0<(m.dk.set b _).length;omega);cases hga;have hrk2:Z8 ({ m with sm:=ss,dk:=m.dk.set b (op,(i0:Int),mk) } : Z6).dk b=(op,(i0:Int),mk):=uh Hset _;have d3:=hc3 b (by show b<(m.dk.set b _).length;omega) 2 _ rfl;rw [hrk2] at d3;simp only at d3;have f3:=hz3 (b*3+2);have hput:=(uh HF3).putD hD1.symm (j:=b) (i:=2) (by show b<(m.dk.set b _).length;omega) (by omega) (.int .i64 (Zv mk hd0)) (op,(i0:Int),(Zv mk hd0)) (by rw [hrk2];rfl);simp only [List.set_set] at hput;have HF4:=Z9 hput;clear hput hc3 hz3 hrk2;refine hK.out _ _ ⟨(uh kb).cell (i:=3) rfl,d3,(uh ke).cell (i:=0) rfl,f3⟩ (fun hHeld=> ?_);clear hK K c3 e0 d2 f2 hb9
  (try simp only [Act.put,sA,sZ,sS])
  refine tp 12 ?_;refine tp 13 ?_;refine wpAnyH_done (by kernel_rfl) ?_ _;refine ZK rfl rfl ?_;go_simp;clear hHeld d3 f3;have ht:Two (some g2) (some g3) w9 (w9.setCell ⟨g3,b*3+2,none⟩ (.int .i64 (Zv mk hd0))):=Two.of_set w9 (.inr rfl) _ _;replace kb:=Z9 ((uh kb).two ht h2R h3R);replace HE:=Z9 (Two.ents (uh HE) ht (fun i e=>by cases e;omega) (fun i e=>by cases e;omega));have Tw4:Hid (Two (some g2) (some g3) w (w9.setCell ⟨g3,b*3+2,none⟩ (.int .i64 (Zv mk hd0)))):=Z9 ((uh Tw2).trans ht);clear ht Tw2 HF3 HF2 ke;generalize w9.setCell ⟨g3,b*3+2,none⟩ (.int .i64 (Zv mk hd0))=X4 at *;obtain ⟨ds,hds⟩:∃ q,m.dk.set b (op,(i0:Int),(Zv mk hd0))=q:=⟨_,rfl⟩
  rw [hds] at Hcons HF4;clear hds hD1;have h2X:g2<X4.heap.size:=by have h9:=(uh HF4).sm;exact (RecAt.lt h9 rfl).2
  have h3X:g3<X4.heap.size:=by have h9:=(uh HF4).dk;exact (RecAt.lt h9 rfl).2
  go_wp2_with fail;refine (Lq (uh HE).pc (by omega)).mono ?_;rintro e w5 ⟨v5,rfl,he5,hb5⟩;obtain ⟨ya,yc,rfl⟩:=EntsAt.shape he5;have HE5:=Z9 he5;have hX4:w.heap.size<X4.heap.size:=(uh kb).lt;replace kb:=Z9 ((uh kb).below hb5 (uh kb).lt);replace HF4:=Z9 ((uh HF4).below hb5);replace Tw4:=Z9 ((uh Tw4).trans (Two.of_below hb5));clear he5 hb5 HE;go_wp2_with fail
  go_loopw [54] (fun i wi=> ∃ j:Nat,j<=t.length/\i= .int .i64 j/\FullSmy n₀ wi (.slice a0 m.rm.length p0) (.slice a1 m.gd.length p1) (.slice (some ⟨g2,0,none⟩) m.sm.length p2) (.slice (some ⟨g3,0,none⟩) m.dk.length p3) (.slice a4 m.pc.length p4) { m with sm:=ZB ss (t.take j),dk:=ds } qs/\Two (some g2) (some g3) w5 wi) (fun i _=>t.length-(intOf i).toNat)
  case atStart=>exact ⟨0,Zz _,rfl,by simpa [ZB] using uh HF4,Two.refl _ _ _⟩
  case round=>
   obtain ⟨j,hj,rfl,hf3,htw3⟩:=hrel;have HF5:=Z9 hf3;have Tw5:=Z9 htw3;have K5:=Z9 ((uh kb).two htw3 h2R h3R);have HE6:=Z9 (Two.ents (uh HE5) htw3 (fun i e=>by cases e;exact h2X) (fun i e=>by cases e;exact h3X));have hzr:=htw3.size;clear hf3 htw3;by_cases hjl:j<t.length
   ·obtain ⟨_,_,hqe,_,_,hr⟩:=EntsAt.pc (uh HE6)
    cases hqe
    rcases hr with e0 | ⟨eb,eo,rfl,hbw,hcl⟩
    ·rw [e0] at hjl;simp at hjl
    obtain ⟨d0,d1⟩:=hcl j hjl;obtain ⟨i2,hi2,hie⟩:=uh Hmt _ (XV hjl);rw [hie] at d1;have Htk:Hid (ZB ss (t.take (j+1))=(ZB ss (t.take j)).set i2 (stS (Z8 (ZB ss (t.take j)) i2) 2)):=Z9 (by rw [Is hjl,PW,hie];simp);obtain ⟨hh,hhh⟩:∃ q,(Z7 t j).1=q:=⟨_,rfl⟩
    rw [hhh] at d0;have hjl1:(j:Int)<(t.length:Int):=by omega
    clear hcl hie hhh;go_upto_region 11 with fail;clear d0 d1;obtain ⟨Y,hY,hba,ke⟩:=Yz wr 91 #[.int .i64 hh,.int .i64 (i2:Int)];replace K5:=bl K5 hba;replace HF5:=Z9 ((uh HF5).below hba);replace Tw5:=Z9 ((uh Tw5).trans (Two.of_below hba));clear hba;rw [hY];clear hY;have hwl:(ZB ss (t.take j)).length=m.sm.length:=by rw [Xs,hsl]
    obtain ⟨_,hga,_,_,hc2,hz2⟩:=RecAt.view ZT (by omega) (uh HF5).sm hwl.symm (by show 0<(ZB ss (t.take j)).length;omega);cases hga;have s0:=hc2 i2 (by show i2<(ZB ss (t.take j)).length;omega) 0 _ rfl;have f0:=hz2 (i2*11);have hput:=(uh HF5).putS hwl.symm (j:=i2) (i:=0) (by show i2<(ZB ss (t.take j)).length;omega) (by omega) (.int .i64 2) (stS (Z8 (ZB ss (t.take j)) i2) 2) rfl;simp only [Nat.add_zero] at s0 hput;have HF6:=Z9 hput;have c2:=(uh K5).cell (i:=2) (v:= .slice (some ⟨g2,0,none⟩) m.sm.length p2) rfl;have e1:=(uh ke).cell (i:=1) (v:= .int .i64 (i2:Int)) rfl;have hi3:(i2:Int)<(m.sm.length:Int):=by omega
    clear hput hc2 hz2 hwl;go_wp2_with fail;go_roundw
    case rel=>exact ⟨j+1,by omega,by go_num,by rw [uh Htk];exact uh HF6,(uh Tw5).trans (Two.of_set _ (.inl rfl) _ _)⟩
    case measure=>exact ms
   ·obtain rfl:j=t.length:=by omega
    rw [List.take_length] at HF5;go_wp2_with fail
    go_end0
    exact ⟨rfl,by rw [uh Hcons];exact uh HF5,(uh Tw4).trans (uh Tw5)⟩
theorem Mk (w:World) (v0 v1 v2 v3 v4:Value) (m:Z6) (h:Smy w v0 v1 v2 v3 v4 m) :
  Calls Tryz.prog 95 #[.agg #[v0,v1,v2,v3,v4,.int .i64 m.now]] w fun e w'=> ∃ u0 u1 u2 u3 u4 rs,e= .returned (.agg #[u0,u1,u2,u3,u4,.int .i64 (YU m).now])/\FullSmy w.heap.size w' u0 u1 u2 u3 u4 (YU m) rs/\Below w.heap.size w w':=by
 obtain ⟨M,hM⟩:∃ x,YU m=x:=⟨_,rfl⟩
 rw [hM];have HM:=Z9 hM;clear hM;have Hv0:=Z9 h;obtain ⟨a0,p0,a1,p1,a2,p2,a3,p3,a4,p4,rfl,rfl,rfl,rfl,rfl,_,_,_,_,_,_,_,_,_,_⟩:=h.five;clear h;obtain ⟨ok,hok⟩:∃ q,Yy m=q:=⟨_,rfl⟩
 have Hok:=Z9 hok;have Hok2:Hid (VT m=ok):=Z9 (by rw [Qc];exact hok);clear hok;go_enter Tryz.func95,Tryz.ntmps95;go_wp2_with fail;obtain ⟨W,hW,kb,kr,BB⟩:=YB w 32 (S6 a0 p0 a1 p1 a2 p2 a3 p3 a4 p4 m) 32 E6;have Hv:=Z9 ((uh Hv0).below (uh BB));rw [hW];clear hW;refine (Q7 (uh Hv)).mono ?_;rw [uh Hok2];rintro e w1 ⟨rfl,hb⟩;replace Hv:=Z9 ((uh Hv).below hb);replace kb:=bl kb hb;replace kr:=bl kr hb;replace BB:=bt BB hb;clear hb;cases ok
 ·
  obtain rfl:M=Yc:=by rw [<-uh HM];unfold YU;rw [uh Hok];rfl
  obtain ⟨o0,o1,o2,o3,o4,o5⟩:=(uh kr).c6;obtain ⟨f0,f1,f2,f3,f4,f5⟩:=(uh kr).f6;go_wp2_with fail;refine ZQ (v:= .agg E6) (by simp [results,Tryz.results95,go_sem, *]) rfl ⟨_,_,_,_,_,[],rfl,Yq _ _,?_⟩
  iterate 6 (refine YF ?_ (by show _<=w.heap.size+1;omega) _)
  exact uh BB
 obtain rfl:M=ZP m:=by rw [<-uh HM];unfold YU;rw [uh Hok];rfl
 have hlo:=Py (uh Hok);have HLo:=Z9 hlo;have HFew:=Z9 (WJ hlo);clear hlo;obtain ⟨c0,c1,c2,c3,c4,c5⟩:=(uh kb).c6;go_wp2_with fail;clear c0 c1 c2 c3 c4 c5;have hWs:w.heap.size+2<=w1.heap.size:=by have:=(uh kr).lt;omega
 refine (Vj (uh Hv) (uh HFew)).mono ?_;rintro e w2 ⟨y0,y1,y2,y3,y4,oq,rfl,ho,hb⟩;have k9:=ho.smy;obtain ⟨b0,q0,b1,q1,b2,q2,b3,q3,b4,q4,rfl,rfl,rfl,rfl,rfl,_,_,_,_,_,_,_,_,_,_⟩:=k9.five;replace Hv:=Z9 ((uh Hv).below hb);replace kb:=bl kb hb;replace kr:=bl kr hb;replace BB:=bt BB hb;have HO:=Z9 (ho.mono hWs);have LO:Hid (∀ k,We (.slice b0 m.rm.length q0) (.slice b1 m.gd.length q1) (.slice b2 m.sm.length q2) (.slice b3 m.dk.length q3) (.slice b4 m.pc.length q4) oq k->w.heap.size+2<=k/\k<w2.heap.size):=Z9 (fun k e=>(uh HO).own e);have hsz9:=hb.size;clear ho hb k9;go_upto_region 4 with fail;obtain ⟨W2,hW2,hb,ko⟩:=Yz w2 32 (S6 b0 q0 b1 q1 b2 q2 b3 q3 b4 q4 m);replace Hv:=Z9 ((uh Hv).below hb);replace kb:=bl kb hb;replace kr:=bl kr hb;replace BB:=bt BB hb;replace HO:=Z9 ((uh HO).below hb);have hob:w.heap.size+2<=w2.heap.size:=XA hWs hsz9;clear hb hsz9 hWs;rw [hW2];clear hW2;generalize w2.heap.size=ob at *;have x3:=(uh ko).cell (i:=3) (v:= .slice b3 m.dk.length q3) rfl;go_wp2_with fail;clear x3
 go_loopw [4,14] (fun u i wr=> ∃ k:Nat,k<=m.dk.length/\i= .int .i64 k/\FullSmy (w.heap.size+2) wr (.slice b0 m.rm.length q0) (.slice b1 m.gd.length q1) (.slice b2 m.sm.length q2) (.slice b3 m.dk.length q3) (.slice b4 m.pc.length q4) (Zf m k) oq/\Two (Value.slice b2 m.sm.length q2).ownBlock (Value.slice b3 m.dk.length q3).ownBlock W2 wr) (fun _ i _=>m.dk.length-(intOf i).toNat)
 case atStart=>exact ⟨0,Zz _,rfl,uh HO,Two.refl _ _ _⟩
 case round=>
  obtain ⟨k,hk,rfl,hf1,htw⟩:=hrel;have H2:(Value.slice b2 m.sm.length q2).ownBlock ≠ some ob:=fun e=>by have:=(uh LO _ (.inr (.inr (.inr (.inl e))))).2;omega
  have H3:(Value.slice b3 m.dk.length q3).ownBlock ≠ some ob:=fun e=>by have:=(uh LO _ (.inr (.inr (.inr (.inr (.inl e)))))).2;omega
  have ko1:=Z9 ((uh ko).two htw H2 H3);have HF1:=Z9 hf1;have Tw:=Z9 htw;clear hf1 htw H2 H3;have hnow:(Zf m k).now=m.now:=(ZG m k).2.2.2.1;have hdl:(Zf m k).dk.length=m.dk.length:=(ZG m k).2.2.2.2.2;by_cases hlt:k<m.dk.length
  ·have hlt1:(k:Int)<(m.dk.length:Int):=by omega
   have hc:=DS (b:=k) (uh HF1) (Iw (uh HLo) k hk) (by omega);rw [hnow] at hc;have Hc:=Z9 hc;clear hc hnow hdl;obtain ⟨x0,x1,x2,x3,x4,x5⟩:=(uh ko1).c6;go_wp2_with fail;clear x0 x1 x2 x3 x4 x5;refine (uh Hc).mono ?_;rintro e w5 ⟨rfl,hf5,ht5⟩;have HF5:=Z9 hf5;have T5:=Z9 ((uh Tw).trans ht5);clear hf5 ht5;go_wp2_with fail;go_roundw
   case rel=>exact ⟨k+1,by omega,by go_num,uh HF5,uh T5⟩
   case measure=>exact ms
  ·
   obtain rfl:k=m.dk.length:=by omega
   replace kr:=Z9 ((uh kr).two (uh Tw) (fun e=>by have:=(uh LO _ (.inr (.inr (.inr (.inl e))))).1;omega) (fun e=>by have:=(uh LO _ (.inr (.inr (.inr (.inr (.inl e)))))).1;omega));replace BB:=Z9 ((uh BB).trans ((uh Tw).below (uh BB).size (fun k e=>by have:=(uh LO k (.inr (.inr (.inr (.inl e))))).1;omega) (fun k e=>by have:=(uh LO k (.inr (.inr (.inr (.inr (.inl e)))))).1;omega)));obtain ⟨x0,x1,x2,x3,x4,x5⟩:=(uh ko1).c6;obtain ⟨o0,o1,o2,o3,o4,o5⟩:=(uh kr).c6;obtain ⟨f0,f1,f2,f3,f4,f5⟩:=(uh kr).f6;have Hnow:Hid ((ZP m).now=m.now):=Z9 hnow;clear hnow hdl;go_wp2_with fail;refine ZQ (v:= .agg (S6 b0 q0 b1 q1 b2 q2 b3 q3 b4 q4 m)) (by simp [results,Tryz.results95,go_sem, *]) rfl ⟨_,_,_,_,_,oq,by rw [uh Hnow],?_,?_⟩
   ·iterate 6 (refine FullSmy.set_off ?_ (fun k e=>by have:=(uh LO k e).1;omega) _ _)
    exact (uh HF1).mono (by omega)
   ·iterate 6 (refine YF ?_ (by show _<=w.heap.size+1;omega) _)
    exact uh BB
end Go.Proofs.YtamgfpdahadnfaaGreatDoor
