/- Part 21 of what the proof rests on. No condition but those that a theorem names. -/
import Derived.Test.YtlcpgkakdieeaaaGreatXk12
import Derived.Test.YtlcpgkakdieeaaaGreatXk13
set_option maxHeartbeats 8000000
set_option maxRecDepth 100000
namespace Go.Proofs.YtlcpgkakdieeaaaGreat
open Go.ChangeShapes Go.WideShapes Go.ChangeAt Go.RowKit Go.Sort Go.Proofs.Tryz
set_option linter.unusedVariables false
set_option maxRecDepth 100000
variable {w w' w0 w1 w2 w3 w₀ wr W W' X A B C : World} {v v0 v1 v2 v3 v4 u u0 u1 u2 u3 u4 : Value} {m : Z6}
theorem IQ (a b c:Int) (w:World):(Op.equalIn 10000 70 (.agg #[.int .i64 a,.int .i64 b,.int .i64 c]) (.agg #[.int .i64 a,.int .i64 b,.int .i64 c])).run prog w= .ok true w:=by
 have u:=underlying2;have g:=Tryz.isAgg2;have z:=Tryz.sizeOf2;have hS:prog.underlying 70=some (.struct (prog.fieldsOf 70)):=by kernel_rfl
 have hp:prog.stoodInHeld 70=false:=by kernel_rfl
 rw [show (10000:Nat)=9999+1 from rfl,run_equalIn_agg w 9999 70 _ _ hS hp];simp only [Program.fieldsOf,underlying70];go_simp
theorem D8 (a b c:Int) (w:World):(binOp .neq 70 (.agg #[.int .i64 a,.int .i64 b,.int .i64 c]) (.agg #[.int .i64 a,.int .i64 b,.int .i64 c])).run prog w= .ok (.bool false) w:=by
 rw [run_neq_struct,IQ];rfl
theorem F6 (o:Bool) (b c:Int) (w:World):(Op.equalIn 10000 54 (.agg #[.bool o,.int .i64 b,.int .i64 c]) (.agg #[.bool o,.int .i64 b,.int .i64 c])).run prog w= .ok true w:=by
 have u:=underlying2;have g:=Tryz.isAgg2;have z:=Tryz.sizeOf2;have u2:=underlying4;have g2:=Tryz.isAgg4;have z2:=Tryz.sizeOf4;have hS:prog.underlying 54=some (.struct (prog.fieldsOf 54)):=by kernel_rfl
 have hp:prog.stoodInHeld 54=false:=by kernel_rfl
 rw [show (10000:Nat)=9999+1 from rfl,run_equalIn_agg w 9999 54 _ _ hS hp];simp only [Program.fieldsOf,underlying54];go_simp
theorem Cl (o:Bool) (b c:Int) (w:World):(binOp .neq 54 (.agg #[.bool o,.int .i64 b,.int .i64 c]) (.agg #[.bool o,.int .i64 b,.int .i64 c])).run prog w= .ok (.bool false) w:=by
 rw [run_neq_struct,F6];rfl
theorem Ow (st be rk my gu lo hi hd ca ut wk:Int) (w:World):(binOp .neq 42 (.agg (I11 st be rk my gu lo hi hd ca ut wk)) (.agg (I11 st be rk my gu lo hi hd ca ut wk))).run prog w= .ok (.bool false) w:=by
 rw [Qo,Oq];rfl
theorem KW  {zs:List Int} (hv:PT w v zs) (hu:PT w u zs) :
  cB 40 #[v,u] w (.bool true):=by
 obtain ⟨a,cap,rfl,hc,hm,hr⟩:=hv;obtain ⟨a',cap',rfl,hc',hm',hr'⟩:=hu;have Hr:=Z9 hr;have Hr':=Z9 hr';clear hr hr';go_enter func40,ntmps40;go_wp2_with fail
 go_loopw [5] (fun i wr=> ∃ k:Nat,k<=zs.length/\i= .int .i64 k/\Below w.heap.size w wr) (fun i _=>zs.length-(intOf i).toNat)
 case atStart=>exact ⟨0,ZC _,rfl,ZZ _ _⟩
 case round=>
  obtain ⟨k,hk,rfl,hb⟩:=hrel;have Hb:=Z9 hb;by_cases hlt:k<zs.length
  ·rcases uh Hr with h0 | ⟨b,off,rfl,hbw,hcl⟩
   ·rw [h0] at hlt;simp at hlt
   rcases uh Hr' with h0 | ⟨b',off',rfl,hbw',hcl'⟩
   ·rw [h0] at hlt;simp at hlt
   have c0:=N9 hcl hlt;have d0:=N9 hcl' hlt;rw [<-hb.cell (p:=⟨b,off+k,none⟩) hbw] at c0;rw [<-hb.cell (p:=⟨b',off'+k,none⟩) hbw'] at d0;generalize Z8 zs k=z at *;clear hcl hcl' hb;go_wp2_with fail;go_quiet (fail);go_wp2_with fail;go_roundw
   case rel=>exact ⟨k+1,by omega,by go_num,⟨(uh Hb).os,(uh Hb).tape,(uh Hb).output,(uh Hb).size,(uh Hb).block⟩⟩
   case measure=>exact ms
  ·go_wp2_with fail
   go_ret;exact ⟨rfl,hb⟩
attribute [local go_sem ↓] D8 Cl Ow
theorem VW  (h:Smy w v0 v1 v2 v3 v4 m) (g:Smy w u0 u1 u2 u3 u4 m) :
  cB 12 #[.agg #[v0,v1,v2,v3,v4,.int .i64 m.now],.agg #[u0,u1,u2,u3,u4,.int .i64 m.now]] w (.bool true):=by
 have Hv:=Z9 h;have Hu:=Z9 g;obtain ⟨a0,p0,rfl,_,_⟩:=IsRooms.shape h.rm;obtain ⟨b0,q0,rfl,_,_⟩:=IsRooms.shape g.rm;obtain ⟨a1,p1,rfl,_,_⟩:=IsRec.shape h.gd;obtain ⟨b1,q1,rfl,_,_⟩:=IsRec.shape g.gd;obtain ⟨a2,p2,rfl,_,_⟩:=IsRec.shape h.sm;obtain ⟨b2,q2,rfl,_,_⟩:=IsRec.shape g.sm;obtain ⟨a3,p3,rfl,_,_⟩:=IsRec.shape h.dk;obtain ⟨b3,q3,rfl,_,_⟩:=IsRec.shape g.dk;obtain ⟨a4,p4,rfl,_,_⟩:=IsRec.shape h.pc;obtain ⟨b4,q4,rfl,_,_⟩:=IsRec.shape g.pc;clear h g;have ka:Hid (Blk ((w.alloc (.cells (S6 a0 p0 a1 p1 a2 p2 a3 p3 a4 p4 m) 32)).alloc (.cells (S6 b0 q0 b1 q1 b2 q2 b3 q3 b4 q4 m) 32)) w.heap.size 32 (S6 a0 p0 a1 p1 a2 p2 a3 p3 a4 p4 m)):=Z9 ((Blk.new w _ _).alloc _)
 have kb:Hid (Blk ((w.alloc (.cells (S6 a0 p0 a1 p1 a2 p2 a3 p3 a4 p4 m) 32)).alloc (.cells (S6 b0 q0 b1 q1 b2 q2 b3 q3 b4 q4 m) 32)) (w.heap.size+1) 32 (S6 b0 q0 b1 q1 b2 q2 b3 q3 b4 q4 m)):=Z9 (by
  have k:=Blk.new (w.alloc (.cells (S6 a0 p0 a1 p1 a2 p2 a3 p3 a4 p4 m) 32)) 32 (S6 b0 q0 b1 q1 b2 q2 b3 q3 b4 q4 m);rw [Yy] at k
  exact k)
 have BB:Hid (Below w.heap.size w ((w.alloc (.cells (S6 a0 p0 a1 p1 a2 p2 a3 p3 a4 p4 m) 32)).alloc (.cells (S6 b0 q0 b1 q1 b2 q2 b3 q3 b4 q4 m) 32))):=Z9 (((ba _ _)).alloc (by simp) _);go_enter func12,ntmps12;go_wp2_with fail;generalize ((w.alloc (.cells (S6 a0 p0 a1 p1 a2 p2 a3 p3 a4 p4 m) 32)).alloc (.cells (S6 b0 q0 b1 q1 b2 q2 b3 q3 b4 q4 m) 32))=W at *;refine ck (KV ((uh Hv).below (uh BB)).rm ((uh Hu).below (uh BB)).rm) fun w1 hb=> ?_;replace ka:=bl ka hb;replace kb:=bl kb hb;replace BB:=bt BB hb;clear hb;obtain ⟨c0,c1,c2,c3,c4,c5⟩:=(uh ka).c6;obtain ⟨d0,d1,d2,d3,d4,d5⟩:=(uh kb).c6;go_wp2_with fail;refine ck (KW ((uh Hv).below (uh BB)).pc ((uh Hu).below (uh BB)).pc) fun w2 hb=> ?_;replace ka:=bl ka hb;replace kb:=bl kb hb;replace BB:=bt BB hb;clear hb c0 c1 c2 c3 c4 c5 d0 d1 d2 d3 d4 d5;obtain ⟨c0,c1,c2,c3,c4,c5⟩:=(uh ka).c6;obtain ⟨d0,d1,d2,d3,d4,d5⟩:=(uh kb).c6;go_wp2_with fail;clear c0 c1 c2 c3 c4 c5 d0 d1 d2 d3 d4 d5
 go_loopw [5] (fun i wr=> ∃ k:Nat,k<=m.gd.length/\i= .int .i64 k/\Blk wr w.heap.size 32 (S6 a0 p0 a1 p1 a2 p2 a3 p3 a4 p4 m)/\Blk wr (w.heap.size+1) 32 (S6 b0 q0 b1 q1 b2 q2 b3 q3 b4 q4 m)/\Below w.heap.size w wr) (fun i _=>m.gd.length-(intOf i).toNat)
 case atStart=>exact ⟨0,ZC _,rfl,uh ka,uh kb,uh BB⟩
 case round=>
  obtain ⟨k,hk,rfl,hka,hkb,hb⟩:=hrel;have c1:=hka.cell (i:=1) rfl;have d1:=hkb.cell (i:=1) rfl;by_cases hlt:k<m.gd.length
  ·have hlt1:(k:Int)<(m.gd.length:Int):=by omega
   obtain ⟨_,_,he,_,hmx,r1⟩:=(uh Hv).gd;cases he;obtain ⟨_,_,he,_,hmy,r2⟩:=(uh Hu).gd;cases he
   rcases r1 with e0 | ⟨b,off,rfl,hbw,hcl⟩
   ·rw [e0] at hlt;simp at hlt
   rcases r2 with e0 | ⟨b',off',rfl,hbw',hcl'⟩
   ·rw [e0] at hlt;simp at hlt
   obtain ⟨x0,x1,x2⟩:=Wf hcl hlt;obtain ⟨y0,y1,y2⟩:=Wf hcl' hlt;rw [<-hb.cell (p:=⟨b,off+k*3,none⟩) hbw] at x0;rw [<-hb.cell (p:=⟨b',off'+k*3,none⟩) hbw'] at y0;rw [<-hb.cell (p:=⟨b,off+k*3+1,none⟩) hbw] at x1;rw [<-hb.cell (p:=⟨b',off'+k*3+1,none⟩) hbw'] at y1;rw [<-hb.cell (p:=⟨b,off+k*3+2,none⟩) hbw] at x2;rw [<-hb.cell (p:=⟨b',off'+k*3+2,none⟩) hbw'] at y2;generalize Z8 m.gd k=rr at *;obtain ⟨ga,gb,gc⟩:=rr;simp only at x0 x1 x2 y0 y1 y2;have Ka:=Z9 hka;have Kb:=Z9 hkb;have Hb:=Z9 hb;clear hcl hcl' hka hkb hb;go_wp2_with fail;go_quiet (fail);go_wp2_with fail;go_roundw
   case rel=>exact ⟨k+1,by omega,by go_num,(uh Ka).same rfl,(uh Kb).same rfl,⟨(uh Hb).os,(uh Hb).tape,(uh Hb).output,(uh Hb).size,(uh Hb).block⟩⟩
   case measure=>exact ms
  ·obtain rfl:k=m.gd.length:=by omega
   replace ka:=Z9 hka;replace kb:=Z9 hkb;replace BB:=Z9 hb;clear hka hkb hb;go_wp2_with fail
   go_loopw [6] (fun i wr=> ∃ k:Nat,k<=m.sm.length/\i= .int .i64 k/\Blk wr w.heap.size 32 (S6 a0 p0 a1 p1 a2 p2 a3 p3 a4 p4 m)/\Blk wr (w.heap.size+1) 32 (S6 b0 q0 b1 q1 b2 q2 b3 q3 b4 q4 m)/\Below w.heap.size w wr) (fun i _=>m.sm.length-(intOf i).toNat)
   case atStart=>exact ⟨0,ZC _,rfl,uh ka,uh kb,uh BB⟩
   case round=>
    obtain ⟨k,hk,rfl,hka,hkb,hb⟩:=hrel;have c2:=hka.cell (i:=2) rfl;have d2:=hkb.cell (i:=2) rfl;by_cases hlt:k<m.sm.length
    ·have hlt1:(k:Int)<(m.sm.length:Int):=by omega
     obtain ⟨_,_,he,_,hmx,r1⟩:=(uh Hv).sm;cases he;obtain ⟨_,_,he,_,hmy,r2⟩:=(uh Hu).sm;cases he
     rcases r1 with e0 | ⟨b,off,rfl,hbw,hcl⟩
     ·rw [e0] at hlt;simp at hlt
     rcases r2 with e0 | ⟨b',off',rfl,hbw',hcl'⟩
     ·rw [e0] at hlt;simp at hlt
     obtain ⟨x0,x1,x2,x3,x4,x5,x6,x7,x8,x9,x10⟩:=ZB hcl hlt;obtain ⟨y0,y1,y2,y3,y4,y5,y6,y7,y8,y9,y10⟩:=ZB hcl' hlt;rw [<-hb.cell (p:=⟨b,off+k*11,none⟩) hbw] at x0;rw [<-hb.cell (p:=⟨b',off'+k*11,none⟩) hbw'] at y0;rw [<-hb.cell (p:=⟨b,off+k*11+1,none⟩) hbw] at x1;rw [<-hb.cell (p:=⟨b',off'+k*11+1,none⟩) hbw'] at y1;rw [<-hb.cell (p:=⟨b,off+k*11+2,none⟩) hbw] at x2;rw [<-hb.cell (p:=⟨b',off'+k*11+2,none⟩) hbw'] at y2;rw [<-hb.cell (p:=⟨b,off+k*11+3,none⟩) hbw] at x3;rw [<-hb.cell (p:=⟨b',off'+k*11+3,none⟩) hbw'] at y3;rw [<-hb.cell (p:=⟨b,off+k*11+4,none⟩) hbw] at x4;rw [<-hb.cell (p:=⟨b',off'+k*11+4,none⟩) hbw'] at y4;rw [<-hb.cell (p:=⟨b,off+k*11+5,none⟩) hbw] at x5;rw [<-hb.cell (p:=⟨b',off'+k*11+5,none⟩) hbw'] at y5;rw [<-hb.cell (p:=⟨b,off+k*11+6,none⟩) hbw] at x6;rw [<-hb.cell (p:=⟨b',off'+k*11+6,none⟩) hbw'] at y6;rw [<-hb.cell (p:=⟨b,off+k*11+7,none⟩) hbw] at x7;rw [<-hb.cell (p:=⟨b',off'+k*11+7,none⟩) hbw'] at y7;rw [<-hb.cell (p:=⟨b,off+k*11+8,none⟩) hbw] at x8;rw [<-hb.cell (p:=⟨b',off'+k*11+8,none⟩) hbw'] at y8;rw [<-hb.cell (p:=⟨b,off+k*11+9,none⟩) hbw] at x9;rw [<-hb.cell (p:=⟨b',off'+k*11+9,none⟩) hbw'] at y9;rw [<-hb.cell (p:=⟨b,off+k*11+10,none⟩) hbw] at x10;rw [<-hb.cell (p:=⟨b',off'+k*11+10,none⟩) hbw'] at y10;generalize Z8 m.sm k=rr at *;obtain ⟨st,be,rk,my,gu,lo,hi,hd,ca,ut,wk⟩:=rr;simp only at x0 x1 x2 x3 x4 x5 x6 x7 x8 x9 x10 y0 y1 y2 y3 y4 y5 y6 y7 y8 y9 y10;have Ka:=Z9 hka;have Kb:=Z9 hkb;have Hb:=Z9 hb;clear hcl hcl' hka hkb hb;go_wp2_with fail;go_quiet (fail);go_wp2_with fail;go_roundw
     case rel=>exact ⟨k+1,by omega,by go_num,(uh Ka).same rfl,(uh Kb).same rfl,⟨(uh Hb).os,(uh Hb).tape,(uh Hb).output,(uh Hb).size,(uh Hb).block⟩⟩
     case measure=>exact ms
    ·obtain rfl:k=m.sm.length:=by omega
     replace ka:=Z9 hka;replace kb:=Z9 hkb;replace BB:=Z9 hb;clear hka hkb hb;go_wp2_with fail
     go_loopw [7] (fun i wr=> ∃ k:Nat,k<=m.dk.length/\i= .int .i64 k/\Blk wr w.heap.size 32 (S6 a0 p0 a1 p1 a2 p2 a3 p3 a4 p4 m)/\Blk wr (w.heap.size+1) 32 (S6 b0 q0 b1 q1 b2 q2 b3 q3 b4 q4 m)/\Below w.heap.size w wr) (fun i _=>m.dk.length-(intOf i).toNat)
     case atStart=>exact ⟨0,ZC _,rfl,uh ka,uh kb,uh BB⟩
     case round=>
      obtain ⟨k,hk,rfl,hka,hkb,hb⟩:=hrel;have c3:=hka.cell (i:=3) rfl;have d3:=hkb.cell (i:=3) rfl;by_cases hlt:k<m.dk.length
      ·have hlt1:(k:Int)<(m.dk.length:Int):=by omega
       obtain ⟨_,_,he,_,hmx,r1⟩:=(uh Hv).dk;cases he;obtain ⟨_,_,he,_,hmy,r2⟩:=(uh Hu).dk;cases he
       rcases r1 with e0 | ⟨b,off,rfl,hbw,hcl⟩
       ·rw [e0] at hlt;simp at hlt
       rcases r2 with e0 | ⟨b',off',rfl,hbw',hcl'⟩
       ·rw [e0] at hlt;simp at hlt
       obtain ⟨x0,x1,x2⟩:=Zg hcl hlt;obtain ⟨y0,y1,y2⟩:=Zg hcl' hlt;rw [<-hb.cell (p:=⟨b,off+k*3,none⟩) hbw] at x0;rw [<-hb.cell (p:=⟨b',off'+k*3,none⟩) hbw'] at y0;rw [<-hb.cell (p:=⟨b,off+k*3+1,none⟩) hbw] at x1;rw [<-hb.cell (p:=⟨b',off'+k*3+1,none⟩) hbw'] at y1;rw [<-hb.cell (p:=⟨b,off+k*3+2,none⟩) hbw] at x2;rw [<-hb.cell (p:=⟨b',off'+k*3+2,none⟩) hbw'] at y2;generalize Z8 m.dk k=rr at *;obtain ⟨op,who,mk⟩:=rr;simp only at x0 x1 x2 y0 y1 y2;have Ka:=Z9 hka;have Kb:=Z9 hkb;have Hb:=Z9 hb;clear hcl hcl' hka hkb hb;go_wp2_with fail;go_quiet (fail);go_wp2_with fail;go_roundw
       case rel=>exact ⟨k+1,by omega,by go_num,(uh Ka).same rfl,(uh Kb).same rfl,⟨(uh Hb).os,(uh Hb).tape,(uh Hb).output,(uh Hb).size,(uh Hb).block⟩⟩
       case measure=>exact ms
      ·obtain rfl:k=m.dk.length:=by omega
       replace ka:=Z9 hka;replace kb:=Z9 hkb;replace BB:=Z9 hb;clear hka hkb hb;go_wp2_with fail;go_ret;exact ⟨rfl,uh BB⟩
end Go.Proofs.YtlcpgkakdieeaaaGreat
