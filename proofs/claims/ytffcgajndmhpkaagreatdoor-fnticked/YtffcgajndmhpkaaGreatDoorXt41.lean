/- Part 41 of what the proof rests on. No condition but those that a theorem names. -/
import Derived.Test.YtffcgajndmhpkaaGreatDoorXt27
import Derived.Test.YtffcgajndmhpkaaGreatDoorXt40
import Derived.LaidMore
import Derived.Stop.Joined
import Derived.Stop.LaidErr
import Derived.Stop.LaidTwo
import Derived.LaidSub
import Derived.LaidHandle
set_option maxHeartbeats 8000000
set_option maxRecDepth 100000
namespace Go.Proofs.YtffcgajndmhpkaaGreatDoor
open Go.ChangeShapes Go.WideShapes Go.ChangeAt Go.RowKit Go.Sort
set_option linter.unusedVariables false
set_option maxRecDepth 100000
theorem JE (a b c:Int) (w:World):(Op.equalIn 10000 88 (.agg #[.int .i64 a,.int .i64 b,.int .i64 c]) (.agg #[.int .i64 a,.int .i64 b,.int .i64 c])).run Tryz.prog w= .ok true w:=by
 have u:=Tryz.underlying2
 have g:=Tryz.isAgg2
 have z:=Tryz.sizeOf2
 have hS:Tryz.prog.underlying 88=some (.struct (Tryz.prog.fieldsOf 88)):=by kernel_rfl
 have hp:Tryz.prog.stoodInHeld 88=false:=by kernel_rfl
 rw [show (10000:Nat)=9999+1 from rfl,run_equalIn_agg w 9999 88 _ _ hS hp]
 simp only [Program.fieldsOf,Tryz.underlying88]
 go_simp
theorem ES (a b c:Int) (w:World):(binOp .neq 88 (.agg #[.int .i64 a,.int .i64 b,.int .i64 c]) (.agg #[.int .i64 a,.int .i64 b,.int .i64 c])).run Tryz.prog w= .ok (.bool false) w:=by
 rw [run_neq_struct,JE];rfl
theorem GQ (o:Bool) (b c:Int) (w:World):(Op.equalIn 10000 53 (.agg #[.bool o,.int .i64 b,.int .i64 c]) (.agg #[.bool o,.int .i64 b,.int .i64 c])).run Tryz.prog w= .ok true w:=by
 have u:=Tryz.underlying2
 have g:=Tryz.isAgg2
 have z:=Tryz.sizeOf2
 have u2:=Tryz.underlying4
 have g2:=Tryz.isAgg4
 have z2:=Tryz.sizeOf4
 have hS:Tryz.prog.underlying 53=some (.struct (Tryz.prog.fieldsOf 53)):=by kernel_rfl
 have hp:Tryz.prog.stoodInHeld 53=false:=by kernel_rfl
 rw [show (10000:Nat)=9999+1 from rfl,run_equalIn_agg w 9999 53 _ _ hS hp]
 simp only [Program.fieldsOf,Tryz.underlying53]
 go_simp
theorem Dq (o:Bool) (b c:Int) (w:World):(binOp .neq 53 (.agg #[.bool o,.int .i64 b,.int .i64 c]) (.agg #[.bool o,.int .i64 b,.int .i64 c])).run Tryz.prog w= .ok (.bool false) w:=by
 rw [run_neq_struct,GQ];rfl
theorem O2 (st be rk my gu lo hi hd ca ut wk:Int) (w:World):(binOp .neq 39 (.agg (I11 st be rk my gu lo hi hd ca ut wk)) (.agg (I11 st be rk my gu lo hi hd ca ut wk))).run Tryz.prog w= .ok (.bool false) w:=by
 rw [Q2,OW];rfl
theorem LY {w:World} {v u:Value} {zs:List Int} (hv:Qu w v zs) (hu:Qu w u zs) :
  Calls Tryz.prog 46 #[v,u] w fun e w'=>e= .returned (.bool true)/\Below w.heap.size w w':=by
 obtain ⟨a,cap,rfl,hc,hm,hr⟩:=hv
 obtain ⟨a',cap',rfl,hc',hm',hr'⟩:=hu
 have Hr:=Z9 hr
 have Hr':=Z9 hr'
 clear hr hr'
 go_enter Tryz.func46,Tryz.ntmps46
 go_wp2_with fail
 go_loopw [5] (fun i wr=> ∃ k:Nat,k<=zs.length/\i= .int .i64 k/\Below w.heap.size w wr) (fun i _=>zs.length-(intOf i).toNat)
 case atStart=>exact ⟨0,Nat.zero_le _,rfl,Below.refl _ _⟩
 case round=>
  obtain ⟨k,hk,rfl,hb⟩:=hrel
  have Hb:=Z9 hb
  by_cases hlt:k<zs.length
  ·rcases uh Hr with h0 | ⟨b,off,rfl,hbw,hcl⟩
   ·rw [h0] at hlt;simp at hlt
   rcases uh Hr' with h0 | ⟨b',off',rfl,hbw',hcl'⟩
   ·rw [h0] at hlt;simp at hlt
   have c0:=OH hcl hlt
   have d0:=OH hcl' hlt
   rw [<-hb.cell (p:=⟨b,off+k,none⟩) hbw] at c0
   rw [<-hb.cell (p:=⟨b',off'+k,none⟩) hbw'] at d0
   generalize Z8 zs k=z at *
   clear hcl hcl' hb
   go_wp2_with fail
   go_quiet (fail)
   go_wp2_with fail
   go_roundw
   case rel=>exact ⟨k+1,by omega,by go_num,⟨(uh Hb).os,(uh Hb).tape,(uh Hb).output,(uh Hb).size,(uh Hb).block⟩⟩
   case measure=>exact ms
  ·go_wp2_with fail
   go_ret
   exact ⟨rfl,hb⟩
attribute [local go_sem ↓] ES Dq O2
theorem Tg {w:World} {v0 v1 v2 v3 v4 u0 u1 u2 u3 u4:Value} {m:Z6} (h:Smy w v0 v1 v2 v3 v4 m) (g:Smy w u0 u1 u2 u3 u4 m) :
  Calls Tryz.prog 11 #[.agg #[v0,v1,v2,v3,v4,.int .i64 m.now],.agg #[u0,u1,u2,u3,u4,.int .i64 m.now]] w fun e w'=>e= .returned (.bool true)/\Below w.heap.size w w':=by
 have Hv:=Z9 h
 have Hu:=Z9 g
 obtain ⟨a0,p0,rfl,_,_⟩:=IsRooms.shape h.rooms
 obtain ⟨b0,q0,rfl,_,_⟩:=IsRooms.shape g.rooms
 obtain ⟨a1,p1,rfl,_,_⟩:=IsRec.shape h.guilds
 obtain ⟨b1,q1,rfl,_,_⟩:=IsRec.shape g.guilds
 obtain ⟨a2,p2,rfl,_,_⟩:=IsRec.shape h.smiths
 obtain ⟨b2,q2,rfl,_,_⟩:=IsRec.shape g.smiths
 obtain ⟨a3,p3,rfl,_,_⟩:=IsRec.shape h.desks
 obtain ⟨b3,q3,rfl,_,_⟩:=IsRec.shape g.desks
 obtain ⟨a4,p4,rfl,_,_⟩:=IsRec.shape h.paces
 obtain ⟨b4,q4,rfl,_,_⟩:=IsRec.shape g.paces
 clear h g
 have ka:Hid (Blk ((w.alloc (.cells (S6 a0 p0 a1 p1 a2 p2 a3 p3 a4 p4 m) 32)).alloc (.cells (S6 b0 q0 b1 q1 b2 q2 b3 q3 b4 q4 m) 32)) w.heap.size 32 (S6 a0 p0 a1 p1 a2 p2 a3 p3 a4 p4 m)):=Z9 ((Blk.new w _ _).alloc _)
 have kb:Hid (Blk ((w.alloc (.cells (S6 a0 p0 a1 p1 a2 p2 a3 p3 a4 p4 m) 32)).alloc (.cells (S6 b0 q0 b1 q1 b2 q2 b3 q3 b4 q4 m) 32)) (w.heap.size+1) 32 (S6 b0 q0 b1 q1 b2 q2 b3 q3 b4 q4 m)):=Z9 (by
  have k:=Blk.new (w.alloc (.cells (S6 a0 p0 a1 p1 a2 p2 a3 p3 a4 p4 m) 32)) 32 (S6 b0 q0 b1 q1 b2 q2 b3 q3 b4 q4 m)
  rw [World.size_alloc] at k
  exact k)
 have BB:Hid (Below w.heap.size w ((w.alloc (.cells (S6 a0 p0 a1 p1 a2 p2 a3 p3 a4 p4 m) 32)).alloc (.cells (S6 b0 q0 b1 q1 b2 q2 b3 q3 b4 q4 m) 32))):=Z9 (((ba _ _)).alloc (by simp) _)
 go_enter Tryz.func11,Tryz.ntmps11
 go_wp2_with fail
 generalize ((w.alloc (.cells (S6 a0 p0 a1 p1 a2 p2 a3 p3 a4 p4 m) 32)).alloc (.cells (S6 b0 q0 b1 q1 b2 q2 b3 q3 b4 q4 m) 32))=W at *
 refine ck (LW ((uh Hv).below (uh BB)).rooms ((uh Hu).below (uh BB)).rooms) fun w1 hb=> ?_
 replace ka:=bl ka hb
 replace kb:=bl kb hb
 replace BB:=bt BB hb
 clear hb
 obtain ⟨c0,c1,c2,c3,c4,c5⟩:=(uh ka).c6
 obtain ⟨d0,d1,d2,d3,d4,d5⟩:=(uh kb).c6
 go_wp2_with fail
 refine ck (LY ((uh Hv).below (uh BB)).paces ((uh Hu).below (uh BB)).paces) fun w2 hb=> ?_
 replace ka:=bl ka hb
 replace kb:=bl kb hb
 replace BB:=bt BB hb
 clear hb c0 c1 c2 c3 c4 c5 d0 d1 d2 d3 d4 d5
 obtain ⟨c0,c1,c2,c3,c4,c5⟩:=(uh ka).c6
 obtain ⟨d0,d1,d2,d3,d4,d5⟩:=(uh kb).c6
 go_wp2_with fail
 clear c0 c1 c2 c3 c4 c5 d0 d1 d2 d3 d4 d5
 go_loopw [5] (fun i wr=> ∃ k:Nat,k<=m.guilds.length/\i= .int .i64 k/\Blk wr w.heap.size 32 (S6 a0 p0 a1 p1 a2 p2 a3 p3 a4 p4 m)/\Blk wr (w.heap.size+1) 32 (S6 b0 q0 b1 q1 b2 q2 b3 q3 b4 q4 m)/\Below w.heap.size w wr) (fun i _=>m.guilds.length-(intOf i).toNat)
 case atStart=>exact ⟨0,Nat.zero_le _,rfl,uh ka,uh kb,uh BB⟩
 case round=>
  obtain ⟨k,hk,rfl,hka,hkb,hb⟩:=hrel
  have c1:=hka.cell (i:=1) rfl
  have d1:=hkb.cell (i:=1) rfl
  by_cases hlt:k<m.guilds.length
  ·have hlt1:(k:Int)<(m.guilds.length:Int):=by omega
   obtain ⟨_,_,he,_,hmx,r1⟩:=(uh Hv).guilds
   cases he
   obtain ⟨_,_,he,_,hmy,r2⟩:=(uh Hu).guilds
   cases he
   rcases r1 with e0 | ⟨b,off,rfl,hbw,hcl⟩
   ·rw [e0] at hlt;simp at hlt
   rcases r2 with e0 | ⟨b',off',rfl,hbw',hcl'⟩
   ·rw [e0] at hlt;simp at hlt
   obtain ⟨x0,x1,x2⟩:=V1 hcl hlt
   obtain ⟨y0,y1,y2⟩:=V1 hcl' hlt
   rw [<-hb.cell (p:=⟨b,off+k*3,none⟩) hbw] at x0
   rw [<-hb.cell (p:=⟨b',off'+k*3,none⟩) hbw'] at y0
   rw [<-hb.cell (p:=⟨b,off+k*3+1,none⟩) hbw] at x1
   rw [<-hb.cell (p:=⟨b',off'+k*3+1,none⟩) hbw'] at y1
   rw [<-hb.cell (p:=⟨b,off+k*3+2,none⟩) hbw] at x2
   rw [<-hb.cell (p:=⟨b',off'+k*3+2,none⟩) hbw'] at y2
   generalize Z8 m.guilds k=rr at *
   obtain ⟨ga,gb,gc⟩:=rr
   simp only at x0 x1 x2 y0 y1 y2
   have Ka:=Z9 hka
   have Kb:=Z9 hkb
   have Hb:=Z9 hb
   clear hcl hcl' hka hkb hb
   go_wp2_with fail
   go_quiet (fail)
   go_wp2_with fail
   go_roundw
   case rel=>exact ⟨k+1,by omega,by go_num,(uh Ka).same rfl,(uh Kb).same rfl,⟨(uh Hb).os,(uh Hb).tape,(uh Hb).output,(uh Hb).size,(uh Hb).block⟩⟩
   case measure=>exact ms
  ·obtain rfl:k=m.guilds.length:=by omega
   replace ka:=Z9 hka
   replace kb:=Z9 hkb
   replace BB:=Z9 hb
   clear hka hkb hb
   go_wp2_with fail
   go_loopw [6] (fun i wr=> ∃ k:Nat,k<=m.smiths.length/\i= .int .i64 k/\Blk wr w.heap.size 32 (S6 a0 p0 a1 p1 a2 p2 a3 p3 a4 p4 m)/\Blk wr (w.heap.size+1) 32 (S6 b0 q0 b1 q1 b2 q2 b3 q3 b4 q4 m)/\Below w.heap.size w wr) (fun i _=>m.smiths.length-(intOf i).toNat)
   case atStart=>exact ⟨0,Nat.zero_le _,rfl,uh ka,uh kb,uh BB⟩
   case round=>
    obtain ⟨k,hk,rfl,hka,hkb,hb⟩:=hrel
    have c2:=hka.cell (i:=2) rfl
    have d2:=hkb.cell (i:=2) rfl
    by_cases hlt:k<m.smiths.length
    ·have hlt1:(k:Int)<(m.smiths.length:Int):=by omega
     obtain ⟨_,_,he,_,hmx,r1⟩:=(uh Hv).smiths
     cases he
     obtain ⟨_,_,he,_,hmy,r2⟩:=(uh Hu).smiths
     cases he
     rcases r1 with e0 | ⟨b,off,rfl,hbw,hcl⟩
     ·rw [e0] at hlt;simp at hlt
     rcases r2 with e0 | ⟨b',off',rfl,hbw',hcl'⟩
     ·rw [e0] at hlt;simp at hlt
     obtain ⟨x0,x1,x2,x3,x4,x5,x6,x7,x8,x9,x10⟩:=ZB hcl hlt
     obtain ⟨y0,y1,y2,y3,y4,y5,y6,y7,y8,y9,y10⟩:=ZB hcl' hlt
     rw [<-hb.cell (p:=⟨b,off+k*11,none⟩) hbw] at x0
     rw [<-hb.cell (p:=⟨b',off'+k*11,none⟩) hbw'] at y0
     rw [<-hb.cell (p:=⟨b,off+k*11+1,none⟩) hbw] at x1
     rw [<-hb.cell (p:=⟨b',off'+k*11+1,none⟩) hbw'] at y1
     rw [<-hb.cell (p:=⟨b,off+k*11+2,none⟩) hbw] at x2
     rw [<-hb.cell (p:=⟨b',off'+k*11+2,none⟩) hbw'] at y2
     rw [<-hb.cell (p:=⟨b,off+k*11+3,none⟩) hbw] at x3
     rw [<-hb.cell (p:=⟨b',off'+k*11+3,none⟩) hbw'] at y3
     rw [<-hb.cell (p:=⟨b,off+k*11+4,none⟩) hbw] at x4
     rw [<-hb.cell (p:=⟨b',off'+k*11+4,none⟩) hbw'] at y4
     rw [<-hb.cell (p:=⟨b,off+k*11+5,none⟩) hbw] at x5
     rw [<-hb.cell (p:=⟨b',off'+k*11+5,none⟩) hbw'] at y5
     rw [<-hb.cell (p:=⟨b,off+k*11+6,none⟩) hbw] at x6
     rw [<-hb.cell (p:=⟨b',off'+k*11+6,none⟩) hbw'] at y6
     rw [<-hb.cell (p:=⟨b,off+k*11+7,none⟩) hbw] at x7
     rw [<-hb.cell (p:=⟨b',off'+k*11+7,none⟩) hbw'] at y7
     rw [<-hb.cell (p:=⟨b,off+k*11+8,none⟩) hbw] at x8
     rw [<-hb.cell (p:=⟨b',off'+k*11+8,none⟩) hbw'] at y8
     rw [<-hb.cell (p:=⟨b,off+k*11+9,none⟩) hbw] at x9
     rw [<-hb.cell (p:=⟨b',off'+k*11+9,none⟩) hbw'] at y9
     rw [<-hb.cell (p:=⟨b,off+k*11+10,none⟩) hbw] at x10
     rw [<-hb.cell (p:=⟨b',off'+k*11+10,none⟩) hbw'] at y10
     generalize Z8 m.smiths k=rr at *
     obtain ⟨st,be,rk,my,gu,lo,hi,hd,ca,ut,wk⟩:=rr
     simp only at x0 x1 x2 x3 x4 x5 x6 x7 x8 x9 x10 y0 y1 y2 y3 y4 y5 y6 y7 y8 y9 y10
     have Ka:=Z9 hka
     have Kb:=Z9 hkb
     have Hb:=Z9 hb
     clear hcl hcl' hka hkb hb
     go_wp2_with fail
     go_quiet (fail)
     go_wp2_with fail
     go_roundw
     case rel=>exact ⟨k+1,by omega,by go_num,(uh Ka).same rfl,(uh Kb).same rfl,⟨(uh Hb).os,(uh Hb).tape,(uh Hb).output,(uh Hb).size,(uh Hb).block⟩⟩
     case measure=>exact ms
    ·obtain rfl:k=m.smiths.length:=by omega
     replace ka:=Z9 hka
     replace kb:=Z9 hkb
     replace BB:=Z9 hb
     clear hka hkb hb
     go_wp2_with fail
     go_loopw [7] (fun i wr=> ∃ k:Nat,k<=m.desks.length/\i= .int .i64 k/\Blk wr w.heap.size 32 (S6 a0 p0 a1 p1 a2 p2 a3 p3 a4 p4 m)/\Blk wr (w.heap.size+1) 32 (S6 b0 q0 b1 q1 b2 q2 b3 q3 b4 q4 m)/\Below w.heap.size w wr) (fun i _=>m.desks.length-(intOf i).toNat)
     case atStart=>exact ⟨0,Nat.zero_le _,rfl,uh ka,uh kb,uh BB⟩
     case round=>
      obtain ⟨k,hk,rfl,hka,hkb,hb⟩:=hrel
      have c3:=hka.cell (i:=3) rfl
      have d3:=hkb.cell (i:=3) rfl
      by_cases hlt:k<m.desks.length
      ·have hlt1:(k:Int)<(m.desks.length:Int):=by omega
       obtain ⟨_,_,he,_,hmx,r1⟩:=(uh Hv).desks
       cases he
       obtain ⟨_,_,he,_,hmy,r2⟩:=(uh Hu).desks
       cases he
       rcases r1 with e0 | ⟨b,off,rfl,hbw,hcl⟩
       ·rw [e0] at hlt;simp at hlt
       rcases r2 with e0 | ⟨b',off',rfl,hbw',hcl'⟩
       ·rw [e0] at hlt;simp at hlt
       obtain ⟨x0,x1,x2⟩:=Zi hcl hlt
       obtain ⟨y0,y1,y2⟩:=Zi hcl' hlt
       rw [<-hb.cell (p:=⟨b,off+k*3,none⟩) hbw] at x0
       rw [<-hb.cell (p:=⟨b',off'+k*3,none⟩) hbw'] at y0
       rw [<-hb.cell (p:=⟨b,off+k*3+1,none⟩) hbw] at x1
       rw [<-hb.cell (p:=⟨b',off'+k*3+1,none⟩) hbw'] at y1
       rw [<-hb.cell (p:=⟨b,off+k*3+2,none⟩) hbw] at x2
       rw [<-hb.cell (p:=⟨b',off'+k*3+2,none⟩) hbw'] at y2
       generalize Z8 m.desks k=rr at *
       obtain ⟨op,who,mk⟩:=rr
       simp only at x0 x1 x2 y0 y1 y2
       have Ka:=Z9 hka
       have Kb:=Z9 hkb
       have Hb:=Z9 hb
       clear hcl hcl' hka hkb hb
       go_wp2_with fail
       go_quiet (fail)
       go_wp2_with fail
       go_roundw
       case rel=>exact ⟨k+1,by omega,by go_num,(uh Ka).same rfl,(uh Kb).same rfl,⟨(uh Hb).os,(uh Hb).tape,(uh Hb).output,(uh Hb).size,(uh Hb).block⟩⟩
       case measure=>exact ms
      ·obtain rfl:k=m.desks.length:=by omega
       replace ka:=Z9 hka
       replace kb:=Z9 hkb
       replace BB:=Z9 hb
       clear hka hkb hb
       go_wp2_with fail
       go_ret
       exact ⟨rfl,uh BB⟩
end Go.Proofs.YtffcgajndmhpkaaGreatDoor
namespace Go.Proofs.YtffcgajndmhpkaaGreatDoor
open Go.ChangeShapes Go.WideShapes Go.ChangeAt Go.RowKit Go.Sort Go.Shelf
open Draw (Row IsRow Eb row_later FX Di)
set_option linter.unusedVariables false
set_option linter.unusedSimpArgs false
set_option maxRecDepth 100000
theorem Mk (a0:Option Addr) (len0 cap0:Nat) (z0:List Int) (w:World) (w0:IsRow .u8 w a0 len0 cap0 z0) (her:∃ q,Errs w q) :
  Calls Tryz.prog 3 #[.slice a0 len0 cap0] w fun e w'=>e= .returned (.bool true)/\Below w.heap.size w w':=by
 obtain ⟨qe,her⟩:=her
 have HEr:=Z9 her
 clear her
 by_cases hbig:4096<len0
 ·go_enter Tryz.func3,Tryz.ntmps3
  go_wp2_with fail
  refine (FX _ _ _ _ hbig).mono ?_
  rintro e w' ⟨rfl,rfl⟩
  go_wp2_with fail
  go_ret
  exact ⟨rfl,Below.refl _ _⟩
 have Hr:=Z9 (Eb w0 (by omega))
 clear w0
 go_enter Tryz.func3,Tryz.ntmps3
 go_wp2_with fail
 refine (Di _ _ _ _ (by omega)).mono ?_
 rintro e w' ⟨rfl,hw'⟩
 subst w'
 go_wp2_with fail
 refine (N8 _ _ _ _ (uh Hr)).mono ?_
 rintro e w1 ⟨M,u0,u1,u2,u3,u4,x,rq,rfl,hf,hb⟩
 obtain ⟨b0,q0,b1,q1,b2,q2,b3,q3,b4,q4,rfl,rfl,rfl,rfl,rfl,K⟩:=Bx.put hf.smy hb
 clear hf hb Hr
 go_upto_region 4 with fail
 generalize w1.alloc (.cells (S6 b0 q0 b1 q1 b2 q2 b3 q3 b4 q4 M) 32)=W1 at *
 generalize w1.heap.size=mb at *
 obtain ⟨⟨X,c⟩,hV⟩:∃ v,Xw M x=v:=⟨_,rfl⟩
 have hI:=Oq x ((uh HEr).below K.bb) K.smy
 rw [hV] at hI
 have HI:=Z9 hI
 have HV:=Z9 hV
 clear hV hI
 obtain ⟨c0,c1,c2,c3,c4,c5⟩:=K.cells
 go_wp2_with fail
 clear c0 c1 c2 c3 c4 c5
 refine (uh HI).mono ?_
 rintro e w2 ⟨⟨y0,y1,y2,y3,y4,rs,rfl,ho⟩,hb⟩
 obtain ⟨d0,r0,d1,r1,d2,r2,d3,r3,d4,r4,rfl,rfl,rfl,rfl,rfl,KX⟩:=Bx.put ho.smy (K.bb.trans (hb.mono K.bb.size))
 replace K:=(K.next hb).alloc (.cells (S6 d0 r0 d1 r1 d2 r2 d3 r3 d4 r4 X) 32)
 clear ho hb HI
 go_upto_region 5 with fail
 generalize w2.alloc (.cells (S6 d0 r0 d1 r1 d2 r2 d3 r3 d4 r4 X) 32)=W2 at *
 generalize w2.heap.size=xb at *
 have hS:=Ts x K.smy
 rw [uh HV] at hS
 have HS:=Z9 hS
 clear hS
 obtain ⟨c0,c1,c2,c3,c4,c5⟩:=K.cells
 go_wp2_with fail
 clear c0 c1 c2 c3 c4 c5
 refine (uh HS).mono ?_
 rintro e w3 ⟨⟨y0,y1,y2,y3,y4,rs2,rfl,ho⟩,hb⟩
 obtain ⟨f0,j0,f1,j1,f2,j2,f3,j3,f4,j4,rfl,rfl,rfl,rfl,rfl,KY⟩:=Bx.put ho.smy (K.bb.trans (hb.mono K.bb.size))
 replace K:=(K.next hb).alloc (.cells (S6 f0 j0 f1 j1 f2 j2 f3 j3 f4 j4 X) 32)
 replace KX:=(KX.next hb).alloc (.cells (S6 f0 j0 f1 j1 f2 j2 f3 j3 f4 j4 X) 32)
 clear ho hb HS
 go_upto_region 6 with fail
 generalize w3.alloc (.cells (S6 f0 j0 f1 j1 f2 j2 f3 j3 f4 j4 X) 32)=W3 at *
 generalize w3.heap.size=yb at *
 obtain ⟨x0,x1,x2,x3,x4,x5⟩:=KX.cells
 obtain ⟨yy0,yy1,yy2,yy3,yy4,yy5⟩:=KY.cells
 go_wp2_with fail
 clear x0 x1 x2 x3 x4 x5 yy0 yy1 yy2 yy3 yy4 yy5
 refine ck (Tg KX.smy KY.smy) fun w4 hb=> ?_
 replace K:=K.next hb
 replace KX:=KX.next hb
 clear hb KY
 obtain ⟨ok,hok⟩:∃ o,ZO M=o:=⟨_,rfl⟩
 have Hok:=Z9 hok
 clear hok
 obtain ⟨c0,c1,c2,c3,c4,c5⟩:=K.cells
 go_wp2_with fail
 clear c0 c1 c2 c3 c4 c5
 refine ck (XF (uh Hok) K.smy) fun w5 hb=> ?_
 replace K:=K.next hb
 replace KX:=KX.next hb
 clear hb
 rcases IP M x with ⟨hk0,hv⟩ | ⟨hk0,c',hc,hv⟩ | ⟨hk0,X',hv,hr,hl,hnow,hn,hall⟩
 ·
  obtain rfl:ok=false:=(uh Hok).symm.trans hk0
  obtain ⟨rfl,rfl⟩:=Prod.mk.inj ((uh HV).symm.trans hv)
  clear HV hv hk0
  go_wp2_with fail
  go_ret
  exact ⟨rfl,K.bb⟩
 ·
  obtain rfl:ok=true:=(uh Hok).symm.trans hk0
  obtain ⟨hX,hcc⟩:=Prod.mk.inj ((uh HV).symm.trans hv)
  subst hX hcc
  clear HV hv hk0
  have hcd:decide (c=0)=false:=decide_eq_false hc
  obtain ⟨x0,x1,x2,x3,x4,x5⟩:=KX.cells
  obtain ⟨c0,c1,c2,c3,c4,c5⟩:=K.cells
  go_wp2_with fail
  clear x0 x1 x2 x3 x4 x5 c0 c1 c2 c3 c4 c5
  refine ck (Tg KX.smy K.smy) fun w6 hb=> ?_
  replace K:=K.next hb
  clear hb
  go_wp2_with fail
  go_ret
  exact ⟨rfl,K.bb⟩
 ·
  obtain rfl:ok=true:=(uh Hok).symm.trans hk0
  obtain ⟨hX,hcc⟩:=Prod.mk.inj ((uh HV).symm.trans hv)
  subst hX hcc
  clear HV hv hk0
  have hlo:=ZT (uh Hok)
  have HLo:=Z9 hlo
  have HLx:=Z9 (ZT hr)
  have HR:=Z9 hr
  have HA:=Z9 hall
  have hl9:=Za hlo
  have hn1:=ZU hn
  obtain ⟨hn10,hn11⟩:=hn1
  have hnow9:0<=M.now/\M.now<=1000000:=by
   have hd:=hlo.head
   unfold YY at hd
   simp only [Bool.and_eq_true,decide_eq_true_eq] at hd
   exact ZU hd.2.2.2.2.2
  obtain ⟨hnow0,hnow1⟩:=hnow9
  have Hnow:=Z9 hnow
  have Hl:=Z9 hl
  clear hr hall hlo hn hnow hl
  have HK:=Z9 K
  have HKX:=Z9 KX
  clear K KX
  go_wp2_with fail
  go_loopw [9] (fun i wr=> ∃ k:Nat,k<=M.smiths.length/\i= .int .i64 k/\Below w5.heap.size w5 wr) (fun i _=>M.smiths.length-(intOf i).toNat)
  case atStart=>exact ⟨0,Nat.zero_le _,rfl,Below.refl _ _⟩
  case round=>
   obtain ⟨k,hk0,rfl,hR0⟩:=hrel
   have K:=(uh HK).next hR0
   have KX:=(uh HKX).next hR0
   obtain ⟨_,_,c2,_,_,_⟩:=K.cells
   by_cases hk:k<M.smiths.length
   rotate_left
   ·obtain rfl:k=M.smiths.length:=by omega
    have hX5:X.now=M.now+x:=uh Hnow
    obtain ⟨_,_,_,_,_,c5⟩:=K.cells
    obtain ⟨x0,x1,x2,x3,x4,x5⟩:=KX.cells
    rw [hX5] at x5
    have KX5:Smy wr _ _ _ _ _ X:=KX.smy
    have hin:=S5 _ _ _ _ _ _ _ _ (uh HR) KX.smy
    rw [hX5] at hin
    have HIn:=Z9 hin
    clear hin KX5
    go_wp2_with fail
    refine ck (uh HIn) fun w7 hb=> ?_
    replace K:=K.next hb
    replace c5:=Z0 hb c5
    replace x5:=Z0 hb x5
    clear hb c2 x0 x1 x2 x3 x4
    go_wp2_with fail
    go_ret
    exact ⟨rfl,K.bb⟩
   have hk1:(k:Int)<(M.smiths.length:Int):=by omega
   have hlk:k<X.smiths.length:=by have:=uh Hl;omega
   have hlk1:(k:Int)<(X.smiths.length:Int):=by omega
   obtain ⟨t9,ht9,htl⟩:=uh HA k hk
   have hwa:=GD (uh HLo) hk
   have hwb:=GD (uh HLx) hlk
   have hbn9:=Py (uh HLo) hk
   have hst9:=BC (uh HLo) hk
   obtain ⟨_,_,hse,_,_,r2p⟩:=K.smy.smiths
   cases hse
   rcases r2p with e0 | ⟨sbp,ofp,rfl,hbwp,hclp⟩
   ·exfalso;have h9:=hk;rw [e0] at h9;simp at h9
   obtain ⟨p0,p1,p2,p3,p4,p5,p6,p7,p8,p9,p10⟩:=ZB hclp hk
   clear hclp
   obtain ⟨_,_,hse,_,_,r2s⟩:=KX.smy.smiths
   cases hse
   rcases r2s with e0 | ⟨sbs,ofs,rfl,hbws,hcls⟩
   ·exfalso;have h9:=hlk;rw [e0] at h9;simp at h9
   obtain ⟨s0,s1,s2,s3,s4,s5,s6,s7,s8,s9,s10⟩:=ZB hcls hlk
   clear hcls
   generalize Z8 X.smiths k=ss2 at *
   generalize Z8 M.smiths k=ss1 at *
   obtain ⟨st,be,rk,my,gu,lo,hi,hd,ca,ut,wk⟩:=ss1
   obtain ⟨st2,be2,rk2,my2,gu2,lo2,hi2,hd2,ca2,ut2,wk2⟩:=ss2
   have hpt:=KT ht9
   rw [<-htl] at hpt
   obtain ⟨hp1,hp2,hp3⟩:=hpt
   clear ht9 htl t9
   replace hp1:wk2=wk+x*(if st=3 then ZI M be else 0):=hp1
   replace hp2:st ≠ 0->ut2=ZZ ut (if st=3 then ZI M be else 0) x:=hp2
   replace hp3:st ≠ 3->hd2=hd:=hp3
   obtain ⟨fo,hfo⟩:∃ q,(if st=3 then ZI M be else 0)=q:=⟨_,rfl⟩
   rw [hfo] at hp1 hp2
   have Hfo:=Z9 hfo
   have Hp2:=Z9 hp2
   have Hp3:=Z9 hp3
   have Hbn:=Z9 hbn9
   have Hst:=Z9 hst9
   obtain ⟨hwa0,hwa1⟩:0<=wk/\wk<=1000000000000:=hwa
   obtain ⟨hwb0,hwb1⟩:0<=wk2/\wk2<=1000000000000:=hwb
   obtain ⟨pr,hpr⟩:∃ q,x*fo=q:=⟨_,rfl⟩
   have hwr1:IntKind.i64.wrap (x*fo)=pr:=by rw [hpr,IntKind.wrap_i64];omega
   have hwr2:IntKind.i64.wrap (wk2-wk)=pr:=by rw [IntKind.wrap_i64];omega
   have hwr3:IntKind.wrap .i64 (x*fo)=pr:=hwr1
   have hwr4:IntKind.wrap .i64 (wk2-wk)=pr:=hwr2
   have HW:=Z9 (And.intro hwr1 hwr2)
   clear hwr1 hwr2 hwr3 hwr4 hp1 hp2 hp3 hfo hbn9 hpr hst9
   simp only at p0 p1 p2 p3 p4 p5 p6 p7 p8 p9 p10 s0 s1 s2 s3 s4 s5 s6 s7 s8 s9 s10
   go_upto_region 16 with fail
   have hba:Below wr.heap.size wr (wr.alloc (.cells (I11 st be rk my gu lo hi hd ca ut wk) 39)):=ba _ _
   have ka:Hid (Blk (wr.alloc (.cells (I11 st be rk my gu lo hi hd ca ut wk) 39)) wr.heap.size 39 (I11 st be rk my gu lo hi hd ca ut wk)):=Z9 (Blk.new _ _ _)
   replace K:=K.next hba
   replace KX:=KX.next hba
   replace hR0:=hR0.trans (hba.mono hR0.size)
   replace s0:=(hba.cell (World.block_lt_of_cell? _ _ s0)).trans s0
   replace s1:=(hba.cell (World.block_lt_of_cell? _ _ s1)).trans s1
   replace s2:=(hba.cell (World.block_lt_of_cell? _ _ s2)).trans s2
   replace s3:=(hba.cell (World.block_lt_of_cell? _ _ s3)).trans s3
   replace s4:=(hba.cell (World.block_lt_of_cell? _ _ s4)).trans s4
   replace s5:=(hba.cell (World.block_lt_of_cell? _ _ s5)).trans s5
   replace s6:=(hba.cell (World.block_lt_of_cell? _ _ s6)).trans s6
   replace s7:=(hba.cell (World.block_lt_of_cell? _ _ s7)).trans s7
   replace s8:=(hba.cell (World.block_lt_of_cell? _ _ s8)).trans s8
   replace s9:=(hba.cell (World.block_lt_of_cell? _ _ s9)).trans s9
   replace s10:=(hba.cell (World.block_lt_of_cell? _ _ s10)).trans s10
   clear hba c2 p0 p1 p2 p3 p4 p5 p6 p7 p8 p9 p10
   generalize wr.alloc (.cells (I11 st be rk my gu lo hi hd ca ut wk) 39)=W6 at *
   generalize wr.heap.size=ab at *
   obtain ⟨_,_,x2,_,_,_⟩:=KX.cells
   go_upto_region 17 with fail
   obtain ⟨W7,hW7,hba,kb⟩:=YN W6 39 (I11 st2 be2 rk2 my2 gu2 lo2 hi2 hd2 ca2 ut2 wk2)
   replace K:=K.next hba
   replace KX:=KX.next hba
   replace ka:=bl ka hba
   replace hR0:=hR0.trans (hba.mono hR0.size)
   clear hba x2 s0 s1 s2 s3 s4 s5 s6 s7 s8 s9 s10
   rw [hW7]
   clear hW7
   generalize W6.heap.size=bb2 at *
   have e0:=(uh ka).cell (i:=0) (v:= .int .i64 st) rfl
   go_upto_if 71 with fail
   clear e0
   have hW7:=K.bb.size
   go_cut [12] (fun s12 wc=>s12= .int .i64 fo/\Below W7.heap.size W7 wc)
   case first=>
    by_cases h3:st=3
    ·subst h3
     obtain ⟨bn,hbe,hbl⟩:=uh Hbn (show (3:Int) ≠ 0 by decide)
     replace hbe:be=(bn:Int):=hbe
     subst hbe
     have hfo:ZI M (bn:Int)=fo:=by rw [<-uh Hfo,if_pos rfl]
     have hbn:Zb M.rooms (bn:Int)=true:=(uh HLo).sane.bench hbl
     have hrl:=Vu hbn
     have hrv:=Px hbn
     obtain ⟨pp,hpp,hppl,_,_⟩:=Rv (uh HLo) hrl
     have hfo2:(Z7 (ZV M.rooms (XN M.rooms (bn:Int))).2 pp).1=fo:=by rw [<-hfo];unfold ZI;rw [hpp];simp
     have hpl:=XH (uh HLo)
     obtain ⟨r,hr⟩:∃ r,XN M.rooms (bn:Int)=r:=⟨_,rfl⟩
     rw [hr] at hrl hrv hppl hfo2 hpp
     have Hrv:=Z9 hrv
     have hr1:(r:Int)<(M.rooms.length:Int):=by omega
     have hr2:r<M.paces.length:=by omega
     have hr3:(r:Int)<(M.paces.length:Int):=by omega
     have hpp1:(pp:Int)<((ZV M.rooms r).2.length:Int):=by omega
     have Hpp:=Z9 hpp
     have Hfo2:=Z9 hfo2
     clear hbn hfo hpp hfo2 hr hrv hpl
     obtain ⟨c0,_,_,_,_,_⟩:=K.cells
     have e1:=(uh ka).cell (i:=1) (v:= .int .i64 (bn:Int)) rfl
     go_wp2_with fail
     refine (Pe (bn:Int) K.smy.rooms).mono ?_
     rw [uh Hrv]
     rintro e w8 ⟨rfl,hb⟩
     replace K:=K.next hb
     have HB:=Z9 hb
     clear hb c0 e1
     obtain ⟨_,_,hre,_,_,r0⟩:=K.smy.rooms
     cases hre
     rcases r0 with e0 | ⟨rb,off,rfl,hbw,hcl⟩
     ·rw [e0] at hrl;simp at hrl
     obtain ⟨_,pv,d1,hpv⟩:=hcl r hrl
     obtain ⟨pa,pc,rfl,_,_,hpr⟩:=hpv
     rcases hpr with e0 | ⟨pbk,po,rfl,hpw,hpc⟩
     ·rw [e0] at hppl;simp at hppl
     obtain ⟨d2,_⟩:=hpc pp hppl
     rw [uh Hfo2] at d2
     obtain ⟨_,_,hpe,_,_,r4⟩:=K.smy.paces
     cases hpe
     rcases r4 with e0 | ⟨nb,no,rfl,hnw,hnc⟩
     ·rw [e0] at hr2;simp at hr2
     have d3:=hnc r hr2 0 (.int .i64 (pp:Int)) (by rw [<-uh Hpp];rfl)
     simp only [Nat.mul_one,Nat.add_zero] at d3
     clear hcl hpc hnc
     obtain ⟨c0,_,_,_,c4,_⟩:=K.cells
     clear Hpp Hfo2 Hrv
     go_upto_region 20 with fail
     go_quiet (fail)
     go_wp2_with fail
     go_meet
     exact ⟨rfl,Yd (uh HB) _⟩
    ·have h30:(st ==3)=false:=by simp [h3]
     have h31:decide (st=3)=false:=by simp [h3]
     have hf0:fo=0:=by rw [<-uh Hfo,if_neg h3]
     subst hf0
     go_wp2_with fail
     go_meet
     exact ⟨rfl,Below.refl _ _⟩
   case rest=>
    obtain ⟨rfl,hb⟩:=hcut
    replace K:=K.next hb
    replace KX:=KX.next hb
    replace ka:=bl ka hb
    replace kb:=bl kb hb
    replace hR0:=hR0.trans (hb.mono hR0.size)
    clear hb hW7
    obtain ⟨hwr1,hwr2⟩:=uh HW
    have hwr3:IntKind.wrap .i64 (x*fo)=pr:=hwr1
    have hwr4:IntKind.wrap .i64 (wk2-wk)=pr:=hwr2
    have e0:=(uh ka).cell (i:=0) (v:= .int .i64 st) rfl
    have e7:=(uh ka).cell (i:=7) (v:= .int .i64 hd) rfl
    have e9:=(uh ka).cell (i:=9) (v:= .int .i64 ut) rfl
    have e10:=(uh ka).cell (i:=10) (v:= .int .i64 wk) rfl
    have f7:=(uh kb).cell (i:=7) (v:= .int .i64 hd2) rfl
    have f9:=(uh kb).cell (i:=9) (v:= .int .i64 ut2) rfl
    have f10:=(uh kb).cell (i:=10) (v:= .int .i64 wk2) rfl
    have g0:=cell_regrown e0
    have g1:=cell_regrown e7
    have g2:=cell_regrown e9
    have g3:=cell_regrown e10
    have g4:=cell_regrown f7
    have g5:=cell_regrown f9
    have g6:=cell_regrown f10
    clear Hfo Hbn
    go_upto_region 21 with fail
    by_cases h0:st=0
    ·subst h0
     have h9:hd2=hd:=uh Hp3 (by decide)
     subst h9
     refine wq ?_
     repeat (go_big_quiet_step (fail))
     refine wqn fun wq hbq=> ?_
     go_wp2_with fail
     go_roundw
     case rel=>exact ⟨k+1,by omega,by go_num,hR0.trans (hbq.mono hR0.size)⟩
     case measure=>exact ms
    have hut:=uh Hp2 h0
    have HF:=Z9 (fun (Y:World)=>Calls.int_of (Calls.same_below' (WI ut fo x Y)) hut.symm)
    have h00:(st ==0)=false:=by simp [h0]
    have h01:decide (st=0)=false:=by simp [h0]
    clear Hp2 hut
    by_cases h3:st=3
    ·subst h3
     refine wq ?_
     repeat (go_big_quiet_step (exact Calls.regrown_of (uh HF _)))
     refine wqn fun wq hbq=> ?_
     go_wp2_with fail
     go_roundw
     case rel=>exact ⟨k+1,by omega,by go_num,hR0.trans (hbq.mono hR0.size)⟩
     case measure=>exact ms
    have h9:hd2=hd:=uh Hp3 h3
    subst h9
    obtain ⟨hs1,hs2⟩:1<=st/\st<=3:=uh Hst h0
    clear h00 h01 Hst
    rcases (show st=1\/st=2 by omega) with rfl | rfl
    all_goals
     refine wq ?_
     repeat (go_big_quiet_step (exact Calls.regrown_of (uh HF _)))
     refine wqn fun wq hbq=> ?_
     go_wp2_with fail
     go_roundw
     case rel=>exact ⟨k+1,by omega,by go_num,hR0.trans (hbq.mono hR0.size)⟩
     case measure=>exact ms
open Go.ChangeShapes Go.WideShapes Go.ChangeAt Go.RowKit
set_option maxRecDepth 100000
theorem BD : "*" ++ "errors.errorString" = "*errors.errorString" := by decide
theorem Ea (u : TypeId) (h : Tryz.prog.typeName? 3 u = some "*errors.errorString") : u = 320 :=
 typeName_ptr_named (nm := "errors.errorString") (by rw [BD]; kernel_rfl) (by kernel_rfl) (by decide) u (by rw [BD]; exact h)
theorem Bp : (Tryz.prog.cutTypes.find? (·.1 == "internal/reflectlite.rtype")).map (·.2) = some 222 := by kernel_rfl
theorem Cj:((List.range Tryz.prog.types.size).filter fun t=>Tryz.prog.rowNamed t [101,114,114,111,114])=[74]:=by kernel_rfl
theorem By : Tryz.prog.globalNamed "errors.errorType" = some 2 := by kernel_rfl
theorem KH {a b:Addr} {x:Option (Array Value)} (h:x=some #[Zv a]) (k:x=some #[Zv b]):a=b:=by
 rw [h] at k
 simpa using k
theorem Tl {n : String} {g : Nat} {text : List UInt8} {r : List (String × DataW Unit)} {W : World} (h : laidMet Tryz.prog ((n, .iface "*errors.errorString" (.ptr (.agg [.lit (.string text)]))) :: r) W)
  (hg:Tryz.prog.globalNamed n=some g) (ht:(Tryz.prog.globals[g]?).map (·.type)=some 74):∃ a,W.var? Tryz.prog n=some #[Zv a]/\W.cell? ⟨g,0,none⟩=some (Zv a):=by
 obtain ⟨a,s,hv,_⟩:=laid_sentinel h hg ht Tryz.underlying74 Ea Tryz.underlying320 Tryz.underlying351 rfl rfl Tryz.underlying9 (by kernel_rfl) (by kernel_rfl)
 exact ⟨a,hv,by rw [World.var?_cell hg hv 0];rfl⟩
theorem Xf {n0 n1 : String} {g0 g1 : Nat} {text0 text1 : List UInt8} {r : List (String × DataW Unit)} {W : World} {a0 a1 : Addr} (h : laidMet Tryz.prog ((n0, .iface "*errors.errorString" (.ptr (.agg [.lit (.string text0)]))) :: (n1, .iface "*errors.errorString" (.ptr (.agg [.lit (.string text1)]))) :: r) W)
  (hg0:Tryz.prog.globalNamed n0=some g0) (ht0:(Tryz.prog.globals[g0]?).map (·.type)=some 74) (hg1:Tryz.prog.globalNamed n1=some g1) (ht1:(Tryz.prog.globals[g1]?).map (·.type)=some 74)
  (v0:W.var? Tryz.prog n0=some #[Zv a0]) (v1:W.var? Tryz.prog n1=some #[Zv a1]):a0 ≠ a1/\(∃ c t,W.heap[a0.block]?=some (.cells c t (0,0)))/\(∃ c t,W.heap[a1.block]?=some (.cells c t (0,0))):=by
 obtain ⟨b0,b1,s0,s1,c0,c1,t0,t1,hv0,hv1,_,_,_,_,_,_,hne,hb0,hb1⟩:=laid_sentinels2 h hg0 ht0 hg1 ht1 Tryz.underlying74 Ea Tryz.underlying320 Tryz.underlying351 rfl rfl Tryz.underlying9 (by kernel_rfl) (by kernel_rfl)
 obtain rfl:=KH hv0 v0
 obtain rfl:=KH hv1 v1
 exact ⟨hne,⟨c0,t0,hb0⟩,⟨c1,t1,hb1⟩⟩
theorem Uo : Tryz.prog.globalNamed "loop.example/g00553/impl.errNone" = some 1 := by kernel_rfl
theorem UD:(Tryz.prog.globals[1]?).map (·.type)=some 74:=by kernel_rfl
theorem Vf : Tryz.prog.globalNamed "loop.example/g00553/impl.errState" = some 3 := by kernel_rfl
theorem VA:(Tryz.prog.globals[3]?).map (·.type)=some 74:=by kernel_rfl
theorem Ve : Tryz.prog.globalNamed "loop.example/g00553/impl.errRange" = some 0 := by kernel_rfl
theorem Vz:(Tryz.prog.globals[0]?).map (·.type)=some 74:=by kernel_rfl
theorem Um : Tryz.prog.globalNamed "loop.example/g00553/impl.errFull" = some 4 := by kernel_rfl
theorem UB:(Tryz.prog.globals[4]?).map (·.type)=some 74:=by kernel_rfl
theorem Un : Tryz.prog.globalNamed "loop.example/g00553/impl.errLast" = some 5 := by kernel_rfl
theorem UC:(Tryz.prog.globals[5]?).map (·.type)=some 74:=by kernel_rfl
theorem Cd {W : World} (h : laidMetH Tryz.prog (("errors.errorType", Rows.laid_errors_errorType) :: [("loop.example/g00553/impl.errNone", Rows.laid_loop_example_g00553_impl_errNone), ("loop.example/g00553/impl.errState", Rows.laid_loop_example_g00553_impl_errState), ("loop.example/g00553/impl.errRange", Rows.laid_loop_example_g00553_impl_errRange), ("loop.example/g00553/impl.errFull", Rows.laid_loop_example_g00553_impl_errFull), ("loop.example/g00553/impl.errLast", Rows.laid_loop_example_g00553_impl_errLast)]) W) : ∃ q, Errs W q := by
 have h' : laidMet Tryz.prog [("loop.example/g00553/impl.errNone", Rows.laid_loop_example_g00553_impl_errNone), ("loop.example/g00553/impl.errState", Rows.laid_loop_example_g00553_impl_errState), ("loop.example/g00553/impl.errRange", Rows.laid_loop_example_g00553_impl_errRange), ("loop.example/g00553/impl.errFull", Rows.laid_loop_example_g00553_impl_errFull), ("loop.example/g00553/impl.errLast", Rows.laid_loop_example_g00553_impl_errLast)] W ∧ handlesMet Tryz.prog [("errors.errorType", Rows.laid_errors_errorType)] W := h
 obtain ⟨h0,hh⟩:=h'
 have ct:W.cell? ⟨2,0,none⟩=some (rty 74):=by
  obtain ⟨name,u,ty,e1,e2,e3,e4,e5⟩:=hh _ (List.mem_singleton.2 rfl)
  have en:name=[101,114,114,111,114]:=(Option.some.inj e1).symm
  subst en
  obtain rfl:=Option.some.inj (Bp.symm.trans e2)
  have hm:ty ∈ (List.range Tryz.prog.types.size).filter fun t=>Tryz.prog.rowNamed t [101,114,114,111,114]:=List.mem_filter.2 ⟨List.mem_range.2 e3,e4⟩
  rw [Cj] at hm
  obtain rfl:=List.mem_singleton.1 hm
  have h9:typeHandle Tryz.prog 74= .pointer (some ⟨6,74,none⟩):=by kernel_rfl
  rw [h9] at e5
  rw [World.var?_cell By e5 0]
  rfl
 have h13 : laidMet Tryz.prog [("loop.example/g00553/impl.errNone", Rows.laid_loop_example_g00553_impl_errNone), ("loop.example/g00553/impl.errRange", Rows.laid_loop_example_g00553_impl_errRange)] W := by
  have k := h0.filter (fun x => x.1 != "loop.example/g00553/impl.errState" && x.1 != "loop.example/g00553/impl.errFull" && x.1 != "loop.example/g00553/impl.errLast")
  rwa [show List.filter (fun x => x.1 != "loop.example/g00553/impl.errState" && x.1 != "loop.example/g00553/impl.errFull" && x.1 != "loop.example/g00553/impl.errLast") [("loop.example/g00553/impl.errNone", Rows.laid_loop_example_g00553_impl_errNone), ("loop.example/g00553/impl.errState", Rows.laid_loop_example_g00553_impl_errState), ("loop.example/g00553/impl.errRange", Rows.laid_loop_example_g00553_impl_errRange), ("loop.example/g00553/impl.errFull", Rows.laid_loop_example_g00553_impl_errFull), ("loop.example/g00553/impl.errLast", Rows.laid_loop_example_g00553_impl_errLast)] = [("loop.example/g00553/impl.errNone", Rows.laid_loop_example_g00553_impl_errNone), ("loop.example/g00553/impl.errRange", Rows.laid_loop_example_g00553_impl_errRange)] from by kernel_rfl] at k
 have h14 : laidMet Tryz.prog [("loop.example/g00553/impl.errNone", Rows.laid_loop_example_g00553_impl_errNone), ("loop.example/g00553/impl.errFull", Rows.laid_loop_example_g00553_impl_errFull)] W := by
  have k := h0.filter (fun x => x.1 != "loop.example/g00553/impl.errState" && x.1 != "loop.example/g00553/impl.errRange" && x.1 != "loop.example/g00553/impl.errLast")
  rwa [show List.filter (fun x => x.1 != "loop.example/g00553/impl.errState" && x.1 != "loop.example/g00553/impl.errRange" && x.1 != "loop.example/g00553/impl.errLast") [("loop.example/g00553/impl.errNone", Rows.laid_loop_example_g00553_impl_errNone), ("loop.example/g00553/impl.errState", Rows.laid_loop_example_g00553_impl_errState), ("loop.example/g00553/impl.errRange", Rows.laid_loop_example_g00553_impl_errRange), ("loop.example/g00553/impl.errFull", Rows.laid_loop_example_g00553_impl_errFull), ("loop.example/g00553/impl.errLast", Rows.laid_loop_example_g00553_impl_errLast)] = [("loop.example/g00553/impl.errNone", Rows.laid_loop_example_g00553_impl_errNone), ("loop.example/g00553/impl.errFull", Rows.laid_loop_example_g00553_impl_errFull)] from by kernel_rfl] at k
 have h15 : laidMet Tryz.prog [("loop.example/g00553/impl.errNone", Rows.laid_loop_example_g00553_impl_errNone), ("loop.example/g00553/impl.errLast", Rows.laid_loop_example_g00553_impl_errLast)] W := by
  have k := h0.filter (fun x => x.1 != "loop.example/g00553/impl.errState" && x.1 != "loop.example/g00553/impl.errRange" && x.1 != "loop.example/g00553/impl.errFull")
  rwa [show List.filter (fun x => x.1 != "loop.example/g00553/impl.errState" && x.1 != "loop.example/g00553/impl.errRange" && x.1 != "loop.example/g00553/impl.errFull") [("loop.example/g00553/impl.errNone", Rows.laid_loop_example_g00553_impl_errNone), ("loop.example/g00553/impl.errState", Rows.laid_loop_example_g00553_impl_errState), ("loop.example/g00553/impl.errRange", Rows.laid_loop_example_g00553_impl_errRange), ("loop.example/g00553/impl.errFull", Rows.laid_loop_example_g00553_impl_errFull), ("loop.example/g00553/impl.errLast", Rows.laid_loop_example_g00553_impl_errLast)] = [("loop.example/g00553/impl.errNone", Rows.laid_loop_example_g00553_impl_errNone), ("loop.example/g00553/impl.errLast", Rows.laid_loop_example_g00553_impl_errLast)] from by kernel_rfl] at k
 have h24 : laidMet Tryz.prog [("loop.example/g00553/impl.errState", Rows.laid_loop_example_g00553_impl_errState), ("loop.example/g00553/impl.errFull", Rows.laid_loop_example_g00553_impl_errFull)] W := by
  have k := h0.filter (fun x => x.1 != "loop.example/g00553/impl.errNone" && x.1 != "loop.example/g00553/impl.errRange" && x.1 != "loop.example/g00553/impl.errLast")
  rwa [show List.filter (fun x => x.1 != "loop.example/g00553/impl.errNone" && x.1 != "loop.example/g00553/impl.errRange" && x.1 != "loop.example/g00553/impl.errLast") [("loop.example/g00553/impl.errNone", Rows.laid_loop_example_g00553_impl_errNone), ("loop.example/g00553/impl.errState", Rows.laid_loop_example_g00553_impl_errState), ("loop.example/g00553/impl.errRange", Rows.laid_loop_example_g00553_impl_errRange), ("loop.example/g00553/impl.errFull", Rows.laid_loop_example_g00553_impl_errFull), ("loop.example/g00553/impl.errLast", Rows.laid_loop_example_g00553_impl_errLast)] = [("loop.example/g00553/impl.errState", Rows.laid_loop_example_g00553_impl_errState), ("loop.example/g00553/impl.errFull", Rows.laid_loop_example_g00553_impl_errFull)] from by kernel_rfl] at k
 have h25 : laidMet Tryz.prog [("loop.example/g00553/impl.errState", Rows.laid_loop_example_g00553_impl_errState), ("loop.example/g00553/impl.errLast", Rows.laid_loop_example_g00553_impl_errLast)] W := by
  have k := h0.filter (fun x => x.1 != "loop.example/g00553/impl.errNone" && x.1 != "loop.example/g00553/impl.errRange" && x.1 != "loop.example/g00553/impl.errFull")
  rwa [show List.filter (fun x => x.1 != "loop.example/g00553/impl.errNone" && x.1 != "loop.example/g00553/impl.errRange" && x.1 != "loop.example/g00553/impl.errFull") [("loop.example/g00553/impl.errNone", Rows.laid_loop_example_g00553_impl_errNone), ("loop.example/g00553/impl.errState", Rows.laid_loop_example_g00553_impl_errState), ("loop.example/g00553/impl.errRange", Rows.laid_loop_example_g00553_impl_errRange), ("loop.example/g00553/impl.errFull", Rows.laid_loop_example_g00553_impl_errFull), ("loop.example/g00553/impl.errLast", Rows.laid_loop_example_g00553_impl_errLast)] = [("loop.example/g00553/impl.errState", Rows.laid_loop_example_g00553_impl_errState), ("loop.example/g00553/impl.errLast", Rows.laid_loop_example_g00553_impl_errLast)] from by kernel_rfl] at k
 have h35 : laidMet Tryz.prog [("loop.example/g00553/impl.errRange", Rows.laid_loop_example_g00553_impl_errRange), ("loop.example/g00553/impl.errLast", Rows.laid_loop_example_g00553_impl_errLast)] W := by
  have k := h0.filter (fun x => x.1 != "loop.example/g00553/impl.errNone" && x.1 != "loop.example/g00553/impl.errState" && x.1 != "loop.example/g00553/impl.errFull")
  rwa [show List.filter (fun x => x.1 != "loop.example/g00553/impl.errNone" && x.1 != "loop.example/g00553/impl.errState" && x.1 != "loop.example/g00553/impl.errFull") [("loop.example/g00553/impl.errNone", Rows.laid_loop_example_g00553_impl_errNone), ("loop.example/g00553/impl.errState", Rows.laid_loop_example_g00553_impl_errState), ("loop.example/g00553/impl.errRange", Rows.laid_loop_example_g00553_impl_errRange), ("loop.example/g00553/impl.errFull", Rows.laid_loop_example_g00553_impl_errFull), ("loop.example/g00553/impl.errLast", Rows.laid_loop_example_g00553_impl_errLast)] = [("loop.example/g00553/impl.errRange", Rows.laid_loop_example_g00553_impl_errRange), ("loop.example/g00553/impl.errLast", Rows.laid_loop_example_g00553_impl_errLast)] from by kernel_rfl] at k
 obtain ⟨a1,v1,c1⟩:=Tl h0 Uo UD
 obtain ⟨a2,v2,c2⟩:=Tl h0.tail Vf VA
 obtain ⟨a3,v3,c3⟩:=Tl h0.tail.tail Ve Vz
 obtain ⟨a4,v4,c4⟩:=Tl h0.tail.tail.tail Um UB
 obtain ⟨a5,v5,c5⟩:=Tl h0.tail.tail.tail.tail Un UC
 obtain ⟨n12,b12a,b12b⟩:=Xf h0 Uo UD Vf VA v1 v2
 obtain ⟨n13,b13a,b13b⟩:=Xf h13 Uo UD Ve Vz v1 v3
 obtain ⟨n14,b14a,b14b⟩:=Xf h14 Uo UD Um UB v1 v4
 obtain ⟨n15,b15a,b15b⟩:=Xf h15 Uo UD Un UC v1 v5
 obtain ⟨n23,b23a,b23b⟩:=Xf h0.tail Vf VA Ve Vz v2 v3
 obtain ⟨n24,b24a,b24b⟩:=Xf h24 Vf VA Um UB v2 v4
 obtain ⟨n25,b25a,b25b⟩:=Xf h25 Vf VA Un UC v2 v5
 obtain ⟨n34,b34a,b34b⟩:=Xf h0.tail.tail Ve Vz Um UB v3 v4
 obtain ⟨n35,b35a,b35b⟩:=Xf h35 Ve Vz Un UC v3 v5
 obtain ⟨n45,b45a,b45b⟩:=Xf h0.tail.tail.tail Um UB Un UC v4 v5
 exact ⟨fun i=>if i=1 then a1 else if i=2 then a2 else if i=3 then a3 else if i=4 then a4 else a5,c1,c2,c3,c4,c5,ct,b12a,b12b,b23b,b34b,b45b,n12,n13,n14,n15,n23,n24,n25,n34,n35,n45⟩
end Go.Proofs.YtffcgajndmhpkaaGreatDoor
