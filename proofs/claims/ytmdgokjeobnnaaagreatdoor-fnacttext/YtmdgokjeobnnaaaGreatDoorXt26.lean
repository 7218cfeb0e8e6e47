/- Part 26 of what the proof rests on. No condition but those that a theorem names. -/
import Derived.Test.YtmdgokjeobnnaaaGreatDoorXt21
import Derived.Test.YtmdgokjeobnnaaaGreatDoorXt23
namespace Go.Proofs.YtmdgokjeobnnaaaGreatDoor
open Go.ChangeShapes Go.WideShapes Go.ChangeAt Go.RowKit Go.Sort Go.Proofs.Tryz
set_option linter.unusedVariables false
set_option maxRecDepth 100000
set_option maxHeartbeats 8000000 in
theorem RH {w:World} {v0 v1 v2 v3 v4:Value} {m:Z7} (h:Smy w v0 v1 v2 v3 v4 m) :
  cB 146 #[.agg #[v0,v1,v2,v3,v4,.int .i64 m.now]] w (KC (Wm m)):=by
 have Hv0:=Z9 (h.alloc (.cells #[v0,v1,v2,v3,v4,.int .i64 m.now] 40));obtain ⟨a0,p0,a1,p1,a2,p2,a3,p3,a4,p4,rfl,rfl,rfl,rfl,rfl,_,_,_,_,_,_,_,_,_,_⟩:=h.five;clear h;obtain ⟨BB0,kb0⟩:=Xr w 40 (S6 a0 p0 a1 p1 a2 p2 a3 p3 a4 p4 m);obtain ⟨tv,htv⟩:=ZE (KC (Wm m));rw [htv];obtain ⟨ok,hok⟩:=ZE (ZJ m);have Hok:=Z9 hok;have HT:=Z9 htv;clear hok htv;cases ok
 ·obtain rfl:tv= .tuple #[.int .i64 0,.int .i64 0,.bool false]:=by rw [<-uh HT];unfold Wm;rw [uh Hok];rfl
  go_enter func146,ntmps146;go_wp2_with fail
  go_loopw [5] (fun i wr=>i= .int .i64 0/\Blk wr w.heap.size 40 (S6 a0 p0 a1 p1 a2 p2 a3 p3 a4 p4 m)/\Smy wr (.slice a0 m.rm.length p0) (.slice a1 m.gd.length p1) (.slice a2 m.sm.length p2) (.slice a3 m.dk.length p3) (.slice a4 m.pc.length p4) m/\Below w.heap.size w wr) (fun _ _=>1)
  case atStart=>exact ⟨rfl,uh kb0,uh Hv0,uh BB0⟩
  case round=>
   obtain ⟨rfl,hkb,hv,hb0⟩:=hrel;have kb:=Z9 hkb;have Hv:=Z9 hv;have BB:=Z9 hb0;clear hkb hv hb0 kb0 Hv0 BB0;obtain ⟨c0,c1,c2,c3,c4,c5⟩:=(uh kb).c6;by_cases hlt:0<m.dk.length
   ·have hlt1:(0:Int)<(m.dk.length:Int):=by omega
    go_wp2_with fail;refine ck (Tv (uh Hok) (uh Hv)) fun w1 hb=> ?_;replace BB:=bt BB hb;clear hb;go_wp2_with fail;refine Zz (v:= .tuple #[.int .i64 0,.int .i64 0,.bool false]) (by simp [results,results146,go_sem]) rfl ⟨rfl,uh BB⟩
   ·have hlt1:¬ ((0:Int)<(m.dk.length:Int)):=by omega
    go_wp2_with fail;refine Zz (v:= .tuple #[.int .i64 0,.int .i64 0,.bool false]) (by simp [results,results146,go_sem]) rfl ⟨rfl,uh BB⟩
 have hlo:=ZI (uh Hok);have HLo:=Z9 hlo;have h12:=YF hlo;have h8:=WY hlo;clear hlo;have HW:Hid (tv=KC (Xy m m.dk.length)):=Z9 (by rw [<-uh HT];unfold Wm;rw [uh Hok];rfl);clear HT;go_enter func146,ntmps146;go_wp2_with fail
 go_loopw [5] (fun i wr=> ∃ k:Nat,k<=m.dk.length/\i= .int .i64 k/\Xy m k=none/\Blk wr w.heap.size 40 (S6 a0 p0 a1 p1 a2 p2 a3 p3 a4 p4 m)/\Smy wr (.slice a0 m.rm.length p0) (.slice a1 m.gd.length p1) (.slice a2 m.sm.length p2) (.slice a3 m.dk.length p3) (.slice a4 m.pc.length p4) m/\Below w.heap.size w wr) (fun i _=>m.dk.length-(intOf i).toNat)
 case atStart=>exact ⟨0,Zi _,rfl,rfl,uh kb0,uh Hv0,uh BB0⟩
 case round=>
  obtain ⟨k,hk,rfl,hno,hkb,hv,hb0⟩:=hrel;have Hno:=Z9 hno;clear hno;have kb:=Z9 hkb;have Hv:=Z9 hv;have BB:=Z9 hb0;clear hkb hv hb0;clear kb0 Hv0 BB0;obtain ⟨c0,c1,c2,c3,c4,c5⟩:=(uh kb).c6;by_cases hlt:k<m.dk.length;rotate_left
  ·have hlt1:¬ ((k:Int)<(m.dk.length:Int)):=by omega
   obtain rfl:k=m.dk.length:=by omega
   obtain rfl:tv= .tuple #[.int .i64 0,.int .i64 0,.bool false]:=by rw [uh HW,uh Hno];rfl
   go_wp2_with fail;refine Zz (v:= .tuple #[.int .i64 0,.int .i64 0,.bool false]) (by simp [results,results146,go_sem]) rfl ⟨rfl,uh BB⟩
  have hlt1:(k:Int)<(m.dk.length:Int):=by omega
  go_wp2_with fail;refine ck (Tv (uh Hok) (uh Hv)) fun w1 hb=> ?_;replace Hv:=Z9 ((uh Hv).below hb);replace kb:=bl kb hb;replace BB:=bt BB hb;clear hb c0 c1 c2 c3 c4 c5;obtain ⟨qi,Hqi⟩:=WG (WO m k);have HN:Hid (∀ w9,SJ m k=w9->Xy m (k+1)=w9.map fun x=>(x,k)):=Z9 (fun w9 e=>by unfold Xy;rw [uh Hno,e]);obtain ⟨c0,c1,c2,c3,c4,c5⟩:=(uh kb).c6;go_wp2_with fail;refine (RV (uh Hv) hlt (by omega)).mono ?_;rw [uh Hqi];rintro e w2 ⟨rfl,hb⟩;replace Hv:=Z9 ((uh Hv).below hb);replace kb:=bl kb hb;replace BB:=bt BB hb;clear hb c0 c1 c2 c3 c4 c5;cases qi
  ·go_wp2_with fail
   go_roundw
   case rel=>exact ⟨k+1,by omega,by go_num,by rw [uh HN none (by unfold SJ;rw [uh Hqi];rfl)];rfl,uh kb,uh Hv,uh BB⟩
   case measure=>exact ms
  go_wp2_with fail
  go_loopw [6] (fun i wr=> ∃ j:Nat,j<=m.sm.length/\i= .int .i64 j/\Wh m k j=none/\Blk wr w.heap.size 40 (S6 a0 p0 a1 p1 a2 p2 a3 p3 a4 p4 m)/\Smy wr (.slice a0 m.rm.length p0) (.slice a1 m.gd.length p1) (.slice a2 m.sm.length p2) (.slice a3 m.dk.length p3) (.slice a4 m.pc.length p4) m/\Below w.heap.size w wr) (fun i _=>m.sm.length-(intOf i).toNat)
  case atStart=>exact ⟨0,Zi _,rfl,rfl,uh kb,uh Hv,uh BB⟩
  case round=>
   obtain ⟨j,hj,rfl,hno2,hkb,hv,hb0⟩:=hrel;have Hno2:=Z9 hno2;clear hno2 kb Hv BB;have kb:=Z9 hkb;have Hv:=Z9 hv;have BB:=Z9 hb0;clear hkb hv hb0;obtain ⟨c0,c1,c2,c3,c4,c5⟩:=(uh kb).c6;by_cases hlj:j<m.sm.length;rotate_left
   ·have hlj1:¬ ((j:Int)<(m.sm.length:Int)):=by omega
    obtain rfl:j=m.sm.length:=by omega
    go_wp2_with fail;go_roundw
    case rel=>exact ⟨k+1,by omega,by go_num,by rw [uh HN none (by unfold SJ;rw [uh Hqi];exact uh Hno2)];rfl,uh kb,uh Hv,uh BB⟩
    case measure=>exact ms
   have hlj1:(j:Int)<(m.sm.length:Int):=by omega
   have HS:Hid (∀ q,Sd m j k=q->Wh m k (j+1)=if q then some j else none):=Z9 (fun q e=>by unfold Wh;rw [uh Hno2,e]);have HB:Hid (Sd m j k=((Z8 m.sm j).1 ==2 && Yi m (j:Int) k)):=Z9 rfl;obtain ⟨_,_,hse,_,_,r2⟩:=(uh Hv).sm;cases hse
   rcases r2 with e0 | ⟨sb,off,rfl,hbw,hcl⟩
   ·rw [e0] at hlj;simp at hlj
   obtain ⟨d0,_⟩:=YM hcl hlj;clear hcl;obtain ⟨st,hst⟩:=ZE ((Z8 m.sm j).1);rw [hst] at d0;by_cases h2:st=2;rotate_left
   ·have hn2:(st ==2)=false:=by simpa using h2
    have HB2:Hid (Sd m j k=false):=Z9 (by rw [uh HB,hst,hn2];rfl);clear hst;go_wp2_with fail;go_roundw
    case rel=>exact ⟨j+1,by omega,by go_num,by rw [uh HS _ (uh HB2)];rfl,uh kb,uh Hv,uh BB⟩
    case measure=>exact ms
   subst h2;have hlim:=(uh HLo).limits hlj (by rw [hst];omega)
   have hmy:0<=(Z8 m.sm j).2.2.2.1/\(Z8 m.sm j).2.2.2.1<=255:=by
    have hp:=hlim.1;generalize Z8 m.sm j=s at *;obtain ⟨st,be,rk,my,gu,lo',hi',hd,ca,ut,wk⟩:=s;have:=(Zj hp).2.2.2.1;exact ⟨by show 0<=my;omega,this.2⟩
   obtain ⟨qm,hqm⟩:=ZE (Yi m (j:Int) k);have Hqm:=Z9 hqm;have HB2:Hid (Sd m j k=qm):=Z9 (by rw [uh HB,hst,hqm];rfl);have HM:=Z9 (fun (X:World) (hX:Smy X (.slice a0 m.rm.length p0) (.slice a1 m.gd.length p1) (.slice (some ⟨sb,off,none⟩) m.sm.length p2) (.slice a3 m.dk.length p3) (.slice a4 m.pc.length p4) m)=>UM hX hlj hlt (by omega) hmy.1 hmy.2);clear hst hlim hmy hqm;go_wp2_with fail;refine (uh HM _ (uh Hv)).mono ?_;rw [uh Hqm];rintro e w3 ⟨rfl,hb⟩;replace Hv:=Z9 ((uh Hv).below hb);replace kb:=bl kb hb;replace BB:=bt BB hb;clear hb c0 c1 c2 c3 c4 c5 d0 HM;cases qm
   ·go_wp2_with fail
    go_roundw
    case rel=>exact ⟨j+1,by omega,by go_num,by rw [uh HS _ (uh HB2)];rfl,uh kb,uh Hv,uh BB⟩
    case measure=>exact ms
   have HR:Hid (tv= .tuple #[.int .i64 (j:Int),.int .i64 (k:Int),.bool true]):=Z9 (by
    rw [uh HW,MJ (k:=k+1) (w:=j) (b:=k) (by rw [uh HN (some j) (by unfold SJ;rw [uh Hqi];exact KJ (k:=j+1) (by rw [uh HS _ (uh HB2)];rfl) (by omega))];rfl) (by omega)]
    rfl)
   obtain rfl:=uh HR;go_wp2_with fail;refine Zz (v:= .tuple #[.int .i64 (j:Int),.int .i64 (k:Int),.bool true]) (by simp [results,results146,go_sem]) rfl ⟨rfl,uh BB⟩
end Go.Proofs.YtmdgokjeobnnaaaGreatDoor
