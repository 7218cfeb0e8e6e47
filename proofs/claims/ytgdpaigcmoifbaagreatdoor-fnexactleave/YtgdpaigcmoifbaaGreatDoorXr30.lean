/- Part 30 of what the proof rests on. No condition but those that a theorem names. -/
import Derived.Test.YtgdpaigcmoifbaaGreatDoorXr24
import Derived.Test.YtgdpaigcmoifbaaGreatDoorXr26
import Derived.Test.YtgdpaigcmoifbaaGreatDoorXr27
set_option maxHeartbeats 8000000
set_option maxRecDepth 100000
namespace Go.Proofs.YtgdpaigcmoifbaaGreatDoor
open Go.ChangeShapes Go.WideShapes Go.ChangeAt Go.RowKit Go.Sort Go.Proofs.Tryz
set_option linter.unusedVariables false
theorem DW {w W:World} {X:Z3 × Int} {M:Z3} {c nw:Int} {v0 v1 v2 v3 v4 u0 u1 u2 u3 u4 u5:Value} {oq:List (Z4 × Value)} (hX:X=(M,c)) (hn:M.now=nw) (hF:FullSmy (w.heap.size+2) W v0 v1 v2 v3 v4 M oq) (hB:Below w.heap.size w W):TR w.heap.size X.1 X.2 (.returned (.tuple #[.agg #[v0,v1,v2,v3,v4,.int .i64 nw],.int .i64 c])) ((((((W.setCell ⟨w.heap.size+1,0,none⟩ u0).setCell ⟨w.heap.size+1,1,none⟩ u1).setCell ⟨w.heap.size+1,2,none⟩ u2).setCell ⟨w.heap.size+1,3,none⟩ u3).setCell ⟨w.heap.size+1,4,none⟩ u4).setCell ⟨w.heap.size+1,5,none⟩ u5)/\Below w.heap.size w ((((((W.setCell ⟨w.heap.size+1,0,none⟩ u0).setCell ⟨w.heap.size+1,1,none⟩ u1).setCell ⟨w.heap.size+1,2,none⟩ u2).setCell ⟨w.heap.size+1,3,none⟩ u3).setCell ⟨w.heap.size+1,4,none⟩ u4).setCell ⟨w.heap.size+1,5,none⟩ u5):=by
 constructor
 ·rw [hX];refine ⟨_,_,_,_,_,oq,by rw [hn],?_⟩
  refine FullSmy.mono (n₀:=w.heap.size+2) ?_ (by omega)
  iterate 6 (refine FullSmy.set_off ?_ (fun k e=>by have:=(hF.own e).1;omega) _ _)
  exact hF
 ·iterate 6 (refine VZ ?_ (by show _<=w.heap.size+1;omega) _)
  exact hB
theorem Cx {w W:World} {ob:Nat} {v0 v1 v2 v3 v4:Value} {m:Z3} {oq:List (Z4 × Value)} (ko:Blk W ob 39 #[v0,v1,v2,v3,v4,.int .i64 m.now]) (hF:FullSmy (w.heap.size+2) W v0 v1 v2 v3 v4 m oq) (lo:∀ k,WX v0 v1 v2 v3 v4 oq k->k ≠ ob) (kr:Blk W (w.heap.size+1) 39 E6) (BB:Below w.heap.size w W) (hl:m.sm.length<=800) (hd:m.dk.length<=1000):Calls prog 30 #[.pointer (some ⟨ob,0,none⟩)] W fun e w'=>e= .returned (.tuple #[.agg #[v0,v1,v2,v3,v4,.int .i64 m.now],.int .i64 0])/\Hid (FullSmy (w.heap.size+2) w' v0 v1 v2 v3 v4 (Zs m) oq)/\Hid (Blk w' (w.heap.size+1) 39 E6)/\Hid (Below w.heap.size w w'):=by
 refine (J4 ko hF (fun e=>lo _ (.inr (.inr (.inr (.inl e)))) rfl) (fun e=>lo _ (.inr (.inr (.inr (.inr (.inl e))))) rfl) hl hd).mono ?_;rintro e w' ⟨rfl,h1,h2⟩;have g2:∀ k,v2.ownBlock=some k->w.heap.size+2<=k:=fun k e=>(hF.own (.inr (.inr (.inr (.inl e))))).1;have g3:∀ k,v3.ownBlock=some k->w.heap.size+2<=k:=fun k e=>(hF.own (.inr (.inr (.inr (.inr (.inl e)))))).1;exact ⟨rfl,Z9 h1,Z9 (kr.two h2 (fun e=>by have:=g2 _ e;omega) (fun e=>by have:=g3 _ e;omega)),Z9 (BB.trans (h2.below BB.size (fun k e=>by have:=g2 k e;omega) (fun k e=>by have:=g3 k e;omega)))⟩
theorem Cw {w W:World} {a0 a1 a2 a3 a4:Option Addr} {p0 p1 p2 p3 p4:Nat} {m:Z3} (h:Smy W (.slice a0 m.rm.length p0) (.slice a1 m.gd.length p1) (.slice a2 m.sm.length p2) (.slice a3 m.dk.length p3) (.slice a4 m.pc.length p4) m) (hf:Few m) (kb:Blk W w.heap.size 39 (S6 a0 p0 a1 p1 a2 p2 a3 p3 a4 p4 m)) (kr:Blk W (w.heap.size+1) 39 E6) (BB:Below w.heap.size w W):Calls prog 27 #[.agg (S6 a0 p0 a1 p1 a2 p2 a3 p3 a4 p4 m)] W fun e w'=> ∃ b0 q0 b1 q1 b2 q2 b3 q3 b4 q4 oq,e= .returned (.agg (S6 b0 q0 b1 q1 b2 q2 b3 q3 b4 q4 m))/\ ∃ W2 ob,w'.alloc (.cells (S6 b0 q0 b1 q1 b2 q2 b3 q3 b4 q4 m) 39)=W2/\w'.heap.size=ob/\Hid (Blk W2 w.heap.size 39 (S6 a0 p0 a1 p1 a2 p2 a3 p3 a4 p4 m))/\Hid (Blk W2 (w.heap.size+1) 39 E6)/\Hid (Smy W2 (.slice a0 m.rm.length p0) (.slice a1 m.gd.length p1) (.slice a2 m.sm.length p2) (.slice a3 m.dk.length p3) (.slice a4 m.pc.length p4) m)/\Hid (FullSmy (w.heap.size+2) W2 (.slice b0 m.rm.length q0) (.slice b1 m.gd.length q1) (.slice b2 m.sm.length q2) (.slice b3 m.dk.length q3) (.slice b4 m.pc.length q4) m oq)/\Hid (Blk W2 ob 39 (S6 b0 q0 b1 q1 b2 q2 b3 q3 b4 q4 m))/\Hid (∀ k,WX (.slice b0 m.rm.length q0) (.slice b1 m.gd.length q1) (.slice b2 m.sm.length q2) (.slice b3 m.dk.length q3) (.slice b4 m.pc.length q4) oq k->w.heap.size+2<=k/\k<ob)/\w.heap.size+2<=ob/\Hid (Below w.heap.size w W2):=by
 have hs:w.heap.size+2<=W.heap.size:=by have:=kr.lt;omega
 refine (U4 h hf).mono ?_;rintro e w2 ⟨y0,y1,y2,y3,y4,oq,rfl,ho,hb⟩;obtain ⟨b0,q0,b1,q1,b2,q2,b3,q3,b4,q4,rfl,rfl,rfl,rfl,rfl,_⟩:=ho.smy.five;have hba:Below w2.heap.size w2 (w2.alloc (.cells (S6 b0 q0 b1 q1 b2 q2 b3 q3 b4 q4 m) 39)):=ba _ _;have h2:Below W.heap.size W (w2.alloc (.cells (S6 b0 q0 b1 q1 b2 q2 b3 q3 b4 q4 m) 39)):=hb.trans (hba.mono hb.size);have hO:=ho.mono hs;exact ⟨b0,q0,b1,q1,b2,q2,b3,q3,b4,q4,oq,rfl,_,_,rfl,rfl,Z9 (kb.below h2 kb.lt),Z9 (kr.below h2 kr.lt),Z9 (h.below h2),Z9 (hO.below hba),Z9 (Blk.new _ _ _),Z9 (fun k e=>hO.own e),YV hs hb.size,Z9 (BB.trans (h2.mono BB.size))⟩
structure OpA (w W:World) (a0:Option Addr) (p0:Nat) (a1:Option Addr) (p1:Nat) (a2:Option Addr) (p2:Nat) (a3:Option Addr) (p3:Nat) (a4:Option Addr) (p4:Nat) (m:Z3):Prop where
 kb:Blk W w.heap.size 39 (S6 a0 p0 a1 p1 a2 p2 a3 p3 a4 p4 m)
 kr:Blk W (w.heap.size+1) 39 E6
 Hv:Smy W (.slice a0 m.rm.length p0) (.slice a1 m.gd.length p1) (.slice a2 m.sm.length p2) (.slice a3 m.dk.length p3) (.slice a4 m.pc.length p4) m
 BB:Below w.heap.size w W
structure OpC (w W:World) (v0 v1 v2 v3 v4:Value) (nw:Int) (oq:List (Z4 × Value)) (ob:Nat):Prop where
 ko:Blk W ob 39 #[v0,v1,v2,v3,v4,.int .i64 nw]
 kr:Blk W (w.heap.size+1) 39 E6
 LO:∀ k,WX v0 v1 v2 v3 v4 oq k->w.heap.size+2<=k/\k ≠ ob
 hob:w.heap.size+2<=ob
 BB:Below w.heap.size w W
structure OpB (w W:World) (a0:Option Addr) (p0:Nat) (a1:Option Addr) (p1:Nat) (a2:Option Addr) (p2:Nat) (a3:Option Addr) (p3:Nat) (a4:Option Addr) (p4:Nat) (m:Z3) (v0 v1 v2 v3 v4:Value) (oq:List (Z4 × Value)) (ob:Nat):Prop where
 c:OpC w W v0 v1 v2 v3 v4 m.now oq ob
 kb:Blk W w.heap.size 39 (S6 a0 p0 a1 p1 a2 p2 a3 p3 a4 p4 m)
 Hv:Smy W (.slice a0 m.rm.length p0) (.slice a1 m.gd.length p1) (.slice a2 m.sm.length p2) (.slice a3 m.dk.length p3) (.slice a4 m.pc.length p4) m
 HO:FullSmy (w.heap.size+2) W v0 v1 v2 v3 v4 m oq
 lt:∀ k,WX v0 v1 v2 v3 v4 oq k->k<ob
section
variable {w W W' : World} {a0 : Option Addr} {p0 : Nat} {a1 : Option Addr} {p1 : Nat} {a2 : Option Addr} {p2 : Nat} {a3 : Option Addr} {p3 : Nat} {a4 : Option Addr} {p4 : Nat} {m : Z3} {v0 v1 v2 v3 v4 : Value} {nw : Int} {oq : List (Z4 × Value)} {ob : Nat}
theorem OpA.next (h:OpA w W a0 p0 a1 p1 a2 p2 a3 p3 a4 p4 m) (hb:Below W.heap.size W W'):OpA w W' a0 p0 a1 p1 a2 p2 a3 p3 a4 p4 m:=⟨h.kb.below hb h.kb.lt,h.kr.below hb h.kr.lt,h.Hv.below hb,h.BB.trans (hb.mono h.BB.size)⟩
theorem OpC.next (h:OpC w W v0 v1 v2 v3 v4 nw oq ob) (hb:Below W.heap.size W W'):OpC w W' v0 v1 v2 v3 v4 nw oq ob:=⟨h.ko.below hb h.ko.lt,h.kr.below hb h.kr.lt,h.LO,h.hob,h.BB.trans (hb.mono h.BB.size)⟩
theorem OpB.next (h:OpB w W a0 p0 a1 p1 a2 p2 a3 p3 a4 p4 m v0 v1 v2 v3 v4 oq ob) (hb:Below W.heap.size W W'):OpB w W' a0 p0 a1 p1 a2 p2 a3 p3 a4 p4 m v0 v1 v2 v3 v4 oq ob:=⟨h.c.next hb,h.kb.below hb h.kb.lt,h.Hv.below hb,h.HO.below hb,h.lt⟩
theorem OpC.set (h:OpC w W v0 v1 v2 v3 v4 nw oq ob) {g:Nat} (hg:w.heap.size+2<=g/\g ≠ ob) (o:Nat) (u:Value):OpC w (W.setCell ⟨g,o,none⟩ u) v0 v1 v2 v3 v4 nw oq ob:=⟨h.ko.other (a:=⟨g,o,none⟩) (by show ob ≠ g;omega) _,h.kr.other (a:=⟨g,o,none⟩) (by show w.heap.size+1 ≠ g;omega) _,h.LO,h.hob,h.BB.setCell (p:=⟨g,o,none⟩) (by show w.heap.size<=g;omega) _⟩
theorem OpC.setw {g:Nat} (hg:w.heap.size+2<=g/\g ≠ ob):∀ (l:List Value) {W:World} {o:Nat},OpC w W v0 v1 v2 v3 v4 nw oq ob->OpC w (Sm W g o l) v0 v1 v2 v3 v4 nw oq ob
 | [],_,_,h=>h
 | u::l,W,o,h=>OpC.setw hg l (h.set hg o u)
theorem OpB.out (h:OpB w W a0 p0 a1 p1 a2 p2 a3 p3 a4 p4 m v0 v1 v2 v3 v4 oq ob):Hid (Blk W w.heap.size 39 (S6 a0 p0 a1 p1 a2 p2 a3 p3 a4 p4 m))/\Hid (Blk W (w.heap.size+1) 39 E6)/\Hid (Smy W (.slice a0 m.rm.length p0) (.slice a1 m.gd.length p1) (.slice a2 m.sm.length p2) (.slice a3 m.dk.length p3) (.slice a4 m.pc.length p4) m)/\Hid (FullSmy (w.heap.size+2) W v0 v1 v2 v3 v4 m oq)/\Hid (Blk W ob 39 #[v0,v1,v2,v3,v4,.int .i64 m.now])/\Hid (∀ k,WX v0 v1 v2 v3 v4 oq k->w.heap.size+2<=k/\k<ob)/\w.heap.size+2<=ob/\Hid (Below w.heap.size w W):=⟨Z9 h.kb,Z9 h.c.kr,Z9 h.Hv,Z9 h.HO,Z9 h.c.ko,Z9 (fun k e=>⟨(h.c.LO k e).1,h.lt k e⟩),h.c.hob,Z9 h.c.BB⟩
theorem Ci (h:Smy w (.slice a0 m.rm.length p0) (.slice a1 m.gd.length p1) (.slice a2 m.sm.length p2) (.slice a3 m.dk.length p3) (.slice a4 m.pc.length p4) m):∃ W,(w.alloc (.cells (S6 a0 p0 a1 p1 a2 p2 a3 p3 a4 p4 m) 39)).alloc (.cells E6 39)=W/\OpA w W a0 p0 a1 p1 a2 p2 a3 p3 a4 p4 m:=by
 obtain ⟨W,hW,kb,kr,BB⟩:=Vx w 39 (S6 a0 p0 a1 p1 a2 p2 a3 p3 a4 p4 m) 39 E6;exact ⟨W,hW,uh kb,uh kr,h.below (uh BB),uh BB⟩
theorem bq {P:Program} {fn:Func} {R:Ending->World->Prop} {a:Act} {w:World} {v:Value} {x:Array ResultVar} (e:fn.results=x) (hR:R (.returned v) w) (hr:fn.results=x->(results fn a.tmps).run P w= .ok v w:=by intro hres;simp [results,hres,go_sem,setS,pushS, *]) (hd:a.defers=[]:=by rfl):bodyPost P fn R .ret a w:=Y7 (hr e) hd hR
def B9 (w W:World) (X:Z3 × Int) (v0 v1 v2 v3 v4:Value) (nw c:Int):Prop:= ∀ u0 u1 u2 u3 u4 u5,TR w.heap.size X.1 X.2 (.returned (.tuple #[.agg #[v0,v1,v2,v3,v4,.int .i64 nw],.int .i64 c])) ((((((W.setCell ⟨w.heap.size+1,0,none⟩ u0).setCell ⟨w.heap.size+1,1,none⟩ u1).setCell ⟨w.heap.size+1,2,none⟩ u2).setCell ⟨w.heap.size+1,3,none⟩ u3).setCell ⟨w.heap.size+1,4,none⟩ u4).setCell ⟨w.heap.size+1,5,none⟩ u5)/\Below w.heap.size w ((((((W.setCell ⟨w.heap.size+1,0,none⟩ u0).setCell ⟨w.heap.size+1,1,none⟩ u1).setCell ⟨w.heap.size+1,2,none⟩ u2).setCell ⟨w.heap.size+1,3,none⟩ u3).setCell ⟨w.heap.size+1,4,none⟩ u4).setCell ⟨w.heap.size+1,5,none⟩ u5)
theorem OpC.fin (h:OpC w W v0 v1 v2 v3 v4 nw oq ob) (X:Z3 × Int) (c:Int) {fn:Func} {x:Array ResultVar} (e:fn.results=x) {M:Z3} (hX:X=(M,c)) (hn:M.now=nw) (hF:FullSmy (w.heap.size+2) W v0 v1 v2 v3 v4 M oq) {G:Prop} (s:Hid (fn.results=x)->B9 w W X v0 v1 v2 v3 v4 nw c->W.cell? ⟨w.heap.size+1,0,none⟩=some (.slice none 0 0)->W.cell? ⟨w.heap.size+1,1,none⟩=some (.slice none 0 0)->W.cell? ⟨w.heap.size+1,2,none⟩=some (.slice none 0 0)->W.cell? ⟨w.heap.size+1,3,none⟩=some (.slice none 0 0)->W.cell? ⟨w.heap.size+1,4,none⟩=some (.slice none 0 0)->W.cell? ⟨w.heap.size+1,5,none⟩=some (.int .i64 0)->W.frozen? ⟨w.heap.size+1,0,none⟩=false->W.frozen? ⟨w.heap.size+1,1,none⟩=false->W.frozen? ⟨w.heap.size+1,2,none⟩=false->W.frozen? ⟨w.heap.size+1,3,none⟩=false->W.frozen? ⟨w.heap.size+1,4,none⟩=false->W.frozen? ⟨w.heap.size+1,5,none⟩=false->W.cell? ⟨ob,0,none⟩=some v0->W.cell? ⟨ob,1,none⟩=some v1->W.cell? ⟨ob,2,none⟩=some v2->W.cell? ⟨ob,3,none⟩=some v3->W.cell? ⟨ob,4,none⟩=some v4->W.cell? ⟨ob,5,none⟩=some (.int .i64 nw)->G:=by intro hres hE o0 o1 o2 o3 o4 o5 f0 f1 f2 f3 f4 f5 x0 x1 x2 x3 x4 x5;go_wp2_with fail;exact bq (uh hres) (hE _ _ _ _ _ _)):G:=by
 obtain ⟨o0,o1,o2,o3,o4,o5⟩:=h.kr.c6;obtain ⟨f0,f1,f2,f3,f4,f5⟩:=h.kr.f6;obtain ⟨x0,x1,x2,x3,x4,x5⟩:=h.ko.c6;exact s (Z9 e) (fun _ _ _ _ _ _=>DW hX hn hF h.BB) o0 o1 o2 o3 o4 o5 f0 f1 f2 f3 f4 f5 x0 x1 x2 x3 x4 x5
theorem OpA.bad (h:OpA w W a0 p0 a1 p1 a2 p2 a3 p3 a4 p4 m) (X:Z3 × Int) {fn:Func} {x:Array ResultVar} (e:fn.results=x) (hX:X=(Xa,3)) {G:Prop} (s:OpA w W a0 p0 a1 p1 a2 p2 a3 p3 a4 p4 m->Hid (fn.results=x)->Hid (X=(Xa,3))->G:=by
  intro H hres hX;obtain ⟨c0,c1,c2,c3,c4,c5⟩:=H.kb.c6;go_wp2_with fail;clear c0 c1 c2 c3 c4 c5;refine ck (In H.Hv) fun w2 hb=> ?_;replace H:=H.next hb;clear hb;obtain ⟨o0,o1,o2,o3,o4,o5⟩:=H.kr.c6;obtain ⟨f0,f1,f2,f3,f4,f5⟩:=H.kr.f6;go_wp2_with fail
  exact bq (uh hres) (DW (nw:=0) (uh hX) rfl (QG _ _) H.BB)):G:=s h (Z9 e) (Z9 hX)
theorem OpA.copy (h:OpA w W a0 p0 a1 p1 a2 p2 a3 p3 a4 p4 m) (hf:Few m):Calls prog 27 #[.agg (S6 a0 p0 a1 p1 a2 p2 a3 p3 a4 p4 m)] W fun e w'=> ∃ b0 q0 b1 q1 b2 q2 b3 q3 b4 q4 oq,e= .returned (.agg (S6 b0 q0 b1 q1 b2 q2 b3 q3 b4 q4 m))/\ ∃ W2 ob,w'.alloc (.cells (S6 b0 q0 b1 q1 b2 q2 b3 q3 b4 q4 m) 39)=W2/\w'.heap.size=ob/\OpB w W2 a0 p0 a1 p1 a2 p2 a3 p3 a4 p4 m (.slice b0 m.rm.length q0) (.slice b1 m.gd.length q1) (.slice b2 m.sm.length q2) (.slice b3 m.dk.length q3) (.slice b4 m.pc.length q4) oq ob:=by
 refine (Cw h.Hv hf h.kb h.kr h.BB).mono ?_;rintro e w2 ⟨b0,q0,b1,q1,b2,q2,b3,q3,b4,q4,oq,rfl,W2,ob,hW2,hob2,kb,kr,Hv,HO,ko,LO,hob,BB⟩;exact ⟨b0,q0,b1,q1,b2,q2,b3,q3,b4,q4,oq,rfl,W2,ob,hW2,hob2,⟨uh ko,uh kr,fun k e=>by have:=uh LO k e;omega,hob,uh BB⟩,uh kb,uh Hv,uh HO,fun k e=>(uh LO k e).2⟩
theorem OpC.done (h:OpC w W v0 v1 v2 v3 v4 nw oq ob) {M:Z3} (hn:M.now=nw) (hF:FullSmy (w.heap.size+2) W v0 v1 v2 v3 v4 M oq) (hl:M.sm.length<=800) (hd:M.dk.length<=1000):Calls prog 30 #[.pointer (some ⟨ob,0,none⟩)] W fun e w'=>e= .returned (.tuple #[.agg #[v0,v1,v2,v3,v4,.int .i64 nw],.int .i64 0])/\FullSmy (w.heap.size+2) w' v0 v1 v2 v3 v4 (Zs M) oq/\Blk w' (w.heap.size+1) 39 E6/\Below w.heap.size w w':=by
 subst hn;refine (Cx h.ko hF (fun k e=>(h.LO k e).2) h.kr h.BB hl hd).mono ?_;rintro e w' ⟨rfl,h1,h2,h3⟩;exact ⟨rfl,uh h1,uh h2,uh h3⟩
theorem Gq (X:Z3 × Int) {fn:Func} {x:Array ResultVar} (e:fn.results=x) {M:Z3} (hF:FullSmy (w.heap.size+2) W v0 v1 v2 v3 v4 (Zs M) oq) (kr:Blk W (w.heap.size+1) 39 E6) (BB:Below w.heap.size w W) (hX:X=(Zs M,0)) (hn:M.now=nw) {G:Prop} (s:Hid (fn.results=x)->B9 w W X v0 v1 v2 v3 v4 nw 0->W.cell? ⟨w.heap.size+1,0,none⟩=some (.slice none 0 0)->W.cell? ⟨w.heap.size+1,1,none⟩=some (.slice none 0 0)->W.cell? ⟨w.heap.size+1,2,none⟩=some (.slice none 0 0)->W.cell? ⟨w.heap.size+1,3,none⟩=some (.slice none 0 0)->W.cell? ⟨w.heap.size+1,4,none⟩=some (.slice none 0 0)->W.cell? ⟨w.heap.size+1,5,none⟩=some (.int .i64 0)->W.frozen? ⟨w.heap.size+1,0,none⟩=false->W.frozen? ⟨w.heap.size+1,1,none⟩=false->W.frozen? ⟨w.heap.size+1,2,none⟩=false->W.frozen? ⟨w.heap.size+1,3,none⟩=false->W.frozen? ⟨w.heap.size+1,4,none⟩=false->W.frozen? ⟨w.heap.size+1,5,none⟩=false->G:=by intro hres hE o0 o1 o2 o3 o4 o5 f0 f1 f2 f3 f4 f5;go_wp2_with fail;exact bq (uh hres) (hE _ _ _ _ _ _)):G:=by
 obtain ⟨o0,o1,o2,o3,o4,o5⟩:=kr.c6;obtain ⟨f0,f1,f2,f3,f4,f5⟩:=kr.f6;exact s (Z9 e) (fun _ _ _ _ _ _=>DW hX ((YB _ _).2.2.2.1.trans hn) hF BB) o0 o1 o2 o3 o4 o5 f0 f1 f2 f3 f4 f5
end
theorem op0 {w:World} {a0:Option Addr} {p0:Nat} {a1:Option Addr} {p1:Nat} {a2:Option Addr} {p2:Nat} {a3:Option Addr} {p3:Nat} {a4:Option Addr} {p4:Nat} {m:Z3} (h:Smy w (.slice a0 m.rm.length p0) (.slice a1 m.gd.length p1) (.slice a2 m.sm.length p2) (.slice a3 m.dk.length p3) (.slice a4 m.pc.length p4) m) (X:Z3 × Int) {f:FuncId} {fn:Func} {x:Array ResultVar} {n:Nat} (hf:prog.funcs[f]?=some fn) (hn:fn.ntmps=n) (hr:fn.results=x) (hb:Zl m=false->X=(Xa,3)) {G K:Prop} (k:K) (s:Hid K->Smy w (.slice a0 m.rm.length p0) (.slice a1 m.gd.length p1) (.slice a2 m.sm.length p2) (.slice a3 m.dk.length p3) (.slice a4 m.pc.length p4) m->prog.funcs[f]?=some fn->fn.ntmps=n->Hid (fn.results=x)->Hid (Zl m=false->X=(Xa,3))->G:=by
  intro k h hf hn hr hb;have Hv0:=Z9 h;clear h;obtain ⟨ok,Hok⟩:=WH (Zl m);go_enter hf,hn;clear hf hn;go_wp2_with fail;obtain ⟨W,hW,H⟩:=Ci (uh Hv0);clear Hv0;rw [hW];clear hW;refine ck (CO (uh Hok) H.Hv) fun w1 hb=> ?_;replace H:=H.next hb;clear hb;cases ok
  ·exact H.bad X (uh hr) (uh hb (uh Hok))
  have hlo:=Za (uh Hok);have HLo:=Z9 hlo;have HFew:=Z9 (Ol hlo);clear hlo hr hb;obtain ⟨c0,c1,c2,c3,c4,c5⟩:=H.kb.c6;go_wp2_with fail;clear c0 c1 c2 c3 c4 c5;refine (H.copy (uh HFew)).mono ?_;clear H;rintro e w2 ⟨b0,q0,b1,q1,b2,q2,b3,q3,b4,q4,oq,rfl,W2,ob,hW2,hob2,H⟩;go_upto_region 4 with fail
  (try rw [hW2])
  (try rw [hob2])
  clear hW2 hob2
  revert Hok HLo HFew b0 q0 b1 q1 b2 q2 b3 q3 b4 q4 oq W2 ob H
  clear w2 w1 W
  repeat (rename_i y;revert y)
  exact uh k):G:=s (Z9 k) h hf hn (Z9 hr) (Z9 hb)
end Go.Proofs.YtgdpaigcmoifbaaGreatDoor
namespace Go.Proofs.YtgdpaigcmoifbaaGreatDoor
open Go.ChangeShapes Go.WideShapes Go.ChangeAt Go.RowKit Go.Sort
set_option linter.unusedVariables false
set_option linter.unusedSimpArgs false
theorem FK {m:Z3} (h:Loose m):m.pc.length=m.rm.length:=by
 have hd:=h.head;unfold XT at hd;simp only [ZJ,Yg] at hd;exact hd.2.2.2.2.1
open Go.ChangeShapes Go.WideShapes Go.ChangeAt Go.RowKit Go.Sort Go.Proofs.Tryz
theorem M5 {m:Z3} (h:Loose m):m.pc.length<=1000:=by
 rw [FK h];have hd:=h.head;unfold XT at hd;simp only [ZJ,Yg] at hd;have:=(Zd hd.1).2.1;omega
theorem RM {m:Z3} (h:Loose m) {k:Nat} (hk:k<m.sm.length) (hs:(Z8 m.sm k).1 ≠ 0):PC m k/\ ∃ bn:Nat,(Z8 m.sm k).2.1=(bn:Int)/\bn<m.dk.length:=by
 obtain ⟨p,_,hb⟩:=h.limits hk hs;obtain ⟨⟨st,be,rk,my,gu,lo,hi,hd,ca,ut,wk⟩,hrk⟩:=ZI (Z8 m.sm k);rw [hrk] at p hb;obtain ⟨_,x1,_,x3,_⟩:=Xu p;simp only at hb;refine ⟨⟨hk,hs,?_,?_⟩,be.toNat,?_,by omega⟩
 ·rw [hrk];show (0:Int)<=my;omega
 ·rw [hrk];show my<=255;omega
 ·rw [hrk];show be=_;omega
theorem Mv {w:World} {v0 v1 v2 v3 v4:Value} {m:Z3} (who:Int) (h:Smy w v0 v1 v2 v3 v4 m) :
  Calls prog 16 #[.agg #[v0,v1,v2,v3,v4,.int .i64 m.now],.int .i64 who] w fun e w'=>TR w.heap.size (Xz m who).1 (Xz m who).2 e w'/\Below w.heap.size w w':=by
 obtain ⟨X,hX⟩:=ZI (Xz m who);rw [hX];have HX:=Z9 hX;clear hX;obtain ⟨a0,p0,a1,p1,a2,p2,a3,p3,a4,p4,rfl,rfl,rfl,rfl,rfl,-⟩:=h.five;refine op0 h X func16 ntmps16 results16 (fun h=>by rw [<-uh HX];unfold Xz;rw [h];rfl) ?_;clear h
 intros
 rename_i Hok HLo HFew b0 q0 b1 q1 b2 q2 b3 q3 b4 q4 oq W2 ob H
 obtain ⟨kb,kr,Hv,HO,ko,LO,hob,BB⟩:=H.out;clear H;obtain ⟨qw,Hqw⟩:=WH (Xd m who);obtain ⟨c0,c1,c2,c3,c4,c5⟩:=(uh kb).c6;go_wp2_with fail;clear c0 c1 c2 c3 c4 c5;refine ck (OL (uh Hqw) (uh Hv)) fun w3 hb=> ?_;replace kb:=bl kb hb;replace kr:=bl kr hb;replace Hv:=Z9 ((uh Hv).below hb);replace HO:=Z9 ((uh HO).below hb);replace ko:=bl ko hb;replace BB:=bt BB hb;clear hb;cases qw
 ·
  exact OpC.fin (OpC.mk (uh ko) (uh kr) (fun k e=>by have:=uh LO k e;omega) hob (uh BB)) X 1 results16 (by rw [<-uh HX];unfold Xz;rw [uh Hok,uh Hqw];rfl) rfl (uh HO)
 obtain ⟨k,rfl,hk,hs0⟩:=Xn (uh Hqw);have hk1:(k:Int)<(m.sm.length:Int):=by omega
 obtain ⟨hA,bn,hbn,hbnl⟩:=RM (uh HLo) hk hs0;have HA:=Z9 hA;clear hA;obtain ⟨_,_,hse,_,_,r2⟩:=(uh Hv).sm;cases hse
 rcases r2 with e0 | ⟨sb,off,rfl,hbw,hcl⟩
 ·rw [e0] at hk;simp at hk
 obtain ⟨d0,d1,d2,d3,d4,d5,d6,d7,d8,d9,d10⟩:=ZB hcl hk;clear hcl;obtain ⟨⟨st,be,rk,my,gu,lo,hi,hd,ca,ut,wk⟩,hrk⟩:=ZI (Z8 m.sm k);rw [hrk] at d0 d1 d2 d3 d4 d5 d6 d7 d8 d9 d10 hbn hs0;simp only at d0 d1 d2 d3 d4 d5 d6 d7 d8 d9 d10 hbn hs0;subst hbn;have Hrk:=Z9 hrk;clear hrk;have c2:=(uh kb).cell (i:=2) (v:= .slice (some ⟨sb,off,none⟩) m.sm.length p2) rfl;go_upto_region 7 with fail;clear d0 d1 d2 d3 d4 d5 d6 d7 d8 d9 d10 c2;obtain ⟨W3,hW3,hba,ks⟩:=U7 w3 59 (I11 st (bn:Int) rk my gu lo hi hd ca ut wk);replace kb:=bl kb hba;replace kr:=bl kr hba;replace Hv:=Z9 ((uh Hv).below hba);replace HO:=Z9 ((uh HO).below hba);replace ko:=bl ko hba;replace BB:=bt BB hba;clear hba;rw [hW3];clear hW3;generalize w3.heap.size=sv at *;by_cases hst:st=1;rotate_left
 ·
  have e0:=(uh ks).cell (i:=0) (v:= .int .i64 st) rfl;have hst1:(st ==1)=false:=by simp [hst]
  have hst2:decide (st=1)=false:=by simp [hst]
  exact OpC.fin (OpC.mk (uh ko) (uh kr) (fun k e=>by have:=uh LO k e;omega) hob (uh BB)) X 2 results16 (by rw [<-uh HX];unfold Xz;rw [uh Hok,uh Hqw];simp only [if_true,Zm];rw [if_neg (show ¬ (Z8 m.sm k).1=1 by rw [uh Hrk];exact hst)]) rfl (uh HO)
 subst hst;have Hst:Hid ((Z8 m.sm k).1=1):=Z9 (by rw [uh Hrk]);have e0:=(uh ks).cell (i:=0) (v:= .int .i64 1) rfl;obtain ⟨b,Hb⟩:=WH (YL m (k:Int));obtain ⟨c0,c1,c2,c3,c4,c5⟩:=(uh kb).c6;go_wp2_with fail;clear c0 c1 c2 c3 c4 c5;clear e0;refine (Si (who:=k) (uh Hv) (uh HLo).sane (M5 (uh HLo)) (uh HA)).mono ?_;rw [uh Hb];rintro e w4 ⟨rfl,hb⟩;replace kb:=bl kb hb;replace kr:=bl kr hb;replace Hv:=Z9 ((uh Hv).below hb);replace HO:=Z9 ((uh HO).below hb);replace ko:=bl ko hb;replace ks:=bl ks hb;replace BB:=bt BB hb;clear hb;by_cases hbn:b<0
 ·
  exact OpC.fin (OpC.mk (uh ko) (uh kr) (fun k e=>by have:=uh LO k e;omega) hob (uh BB)) X 2 results16 (by rw [<-uh HX];unfold Xz;rw [uh Hok,uh Hqw];simp only [if_true,Zm];rw [if_pos (uh Hst),uh Hb,if_pos hbn]) rfl (uh HO)
 obtain ⟨bb,hbb,rfl⟩:∃ bb:Nat,bb<m.dk.length/\b=(bb:Int):=by
  rcases Wj m (k:Int) with ⟨e,_⟩ | ⟨bb,hbl,e,_⟩
  ·rw [uh Hb] at e;omega
  ·exact ⟨bb,hbl,(uh Hb).symm.trans e⟩
 obtain ⟨c0,c1,c2,c3,c4,c5⟩:=(uh kb).c6;go_wp2_with fail;clear c0 c1 c2 c3 c4 c5;have hobw:=(uh ko).lt;refine (U4 (uh Hv) (uh HFew)).mono ?_;rintro e w5 ⟨y0,y1,y2,y3,y4,xq,rfl,ho,hb⟩;have k9:=ho.smy;obtain ⟨xa0,xp0,xa1,xp1,xa2,xp2,xa3,xp3,xa4,xp4,rfl,rfl,rfl,rfl,rfl,_,_,_,_,_,_,_,_,_,_⟩:=k9.five;clear k9;replace kb:=bl kb hb;replace kr:=bl kr hb;replace Hv:=Z9 ((uh Hv).below hb);replace HO:=Z9 ((uh HO).below hb);replace ko:=bl ko hb;replace ks:=bl ks hb;replace BB:=bt BB hb;have hszx:=hb.size;have HY:=Z9 (ho.mono (n₁:=w.heap.size+2) (by omega));have LX:Hid (∀ k,WX (.slice xa0 m.rm.length xp0) (.slice xa1 m.gd.length xp1) (.slice xa2 m.sm.length xp2) (.slice xa3 m.dk.length xp3) (.slice xa4 m.pc.length xp4) xq k->ob+1<=k/\k<w5.heap.size):=Z9 (fun k e=>by have:=ho.own e;omega);have hxb:ob+1<=w5.heap.size:=by omega
 clear ho hb hobw hszx;go_upto_region 13 with fail;obtain ⟨W4,hW4,hba,kx⟩:=U7 w5 39 (S6 xa0 xp0 xa1 xp1 xa2 xp2 xa3 xp3 xa4 xp4 m);replace kb:=bl kb hba;replace kr:=bl kr hba;replace Hv:=Z9 ((uh Hv).below hba);replace HO:=Z9 ((uh HO).below hba);replace ko:=bl ko hba;replace ks:=bl ks hba;replace HY:=Z9 ((uh HY).below hba);replace BB:=bt BB hba;clear hba;rw [hW4];clear hW4;generalize w5.heap.size=xb at *;obtain ⟨_,_,hde,_,_,r3⟩:=(uh Hv).dk;cases hde
 rcases r3 with e0 | ⟨db,doff,rfl,hdw,hcl⟩
 ·rw [e0] at hbb;simp at hbb
 obtain ⟨_,_,m1⟩:=Zg hcl hbnl;obtain ⟨_,_,m2⟩:=Zg hcl hbb;clear hcl;obtain ⟨mk1,hmk1⟩:=ZI ((Z8 m.dk bn).2.2);obtain ⟨mk2,hmk2⟩:=ZI ((Z8 m.dk bb).2.2);rw [hmk1] at m1;rw [hmk2] at m2
 have hwk:W7 m k (bb:Int)=setS m k (2,(bb:Int),rk,my,gu,lo,hi,(Zx (Zr hd mk1 mk2) mk2),ca,ut,wk):=by
  unfold W7 WG R1 XX Wy;rw [uh Hrk];simp only [Zm];rw [hmk1,hmk2]
 have Hwk:=Z9 hwk;clear hmk1 hmk2 hwk;have c3:=(uh kb).cell (i:=3) (v:= .slice (some ⟨db,doff,none⟩) m.dk.length p3) rfl;have e1:=(uh ks).cell (i:=1) (v:= .int .i64 (bn:Int)) rfl;have e7:=(uh ks).cell (i:=7) (v:= .int .i64 hd) rfl;obtain ⟨g2,hga,_,_,hc2,hz2⟩:=RecAt.view ZV (by omega) (uh HY).sm rfl (by omega);cases hga;have hg2o:=(uh LX g2 (.inr (.inr (.inr (.inl rfl)))))
 have x2:=(uh kx).cell (i:=2) (v:= .slice (some ⟨g2,0,none⟩) m.sm.length xp2) rfl;have s7:=hc2 k hk 7 _ rfl;have f7:=hz2 (k*11+7);have hput:=(uh HY).putS rfl (j:=k) (i:=7) hk (by omega) (.int .i64 (Zx (Zr hd mk1 mk2) mk2)) (1,(bn:Int),rk,my,gu,lo,hi,(Zx (Zr hd mk1 mk2) mk2),ca,ut,wk) (by rw [uh Hrk];rfl);have HP:=Z9 hput;clear hput hc2 hz2;have hbn2:(bn:Int)<(m.dk.length:Int):=by omega
 have hbb2:(bb:Int)<(m.dk.length:Int):=by omega
 go_wp2_with fail;refine ZH (S:=fun w'=>w'.cell? ⟨xb,2,none⟩=some (.slice (some ⟨g2,0,none⟩) m.sm.length xp2)/\w'.cell? ⟨sv,7,none⟩=some (.int .i64 hd)/\w'.cell? ⟨w.heap.size,3,none⟩=some (.slice (some ⟨db,doff,none⟩) m.dk.length p3)/\w'.cell? ⟨sv,1,none⟩=some (.int .i64 (bn:Int))/\w'.cell? ⟨db,doff+bn*3+2,none⟩=some (.int .i64 mk1)/\w'.cell? ⟨db,doff+bb*3+2,none⟩=some (.int .i64 mk2)) (by kernel_rfl) (Va _ _) (by kernel_rfl) ⟨x2,e7,c3,e1,m1,m2⟩ (fun hHeld=> ?_);simp only [Vb,Vc,XY,Xo,Nat.zero_add,Nat.reduceAdd]
 iterate 18 refine tz ?_
 refine tp 19 ?_;refine tp 20 ?_;refine tp 21 ?_;refine tp 22 ?_;refine tp 23 ?_;refine tp 24 ?_;refine rd 18 rfl (fun K hK=> ?_);go_simp;refine ck (NV hd mk1 mk2 _) fun w9 hw9=> ?_;subst w9;refine hK.out _ _ hHeld (fun hHeld=> ?_);clear hK K
 (try simp only [Act.put,sA,sZ,sS])
 refine rd 25 rfl (fun K hK=> ?_);go_simp;refine ck (Pm (Zr hd mk1 mk2) mk2 _) fun w9 hw9=> ?_;subst w9;refine hK.out _ _ hHeld (fun hHeld=> ?_);clear hK K
 (try simp only [Act.put,sA,sZ,sS])
 refine tp 26 ?_;refine tp 27 ?_;refine wpAnyH_done (by kernel_rfl) ?_ _;refine YQ rfl rfl ?_;go_simp;clear hHeld x2 e7 c3 e1 m1 m2 s7 f7;go_wp2_with fail;replace kx:Hid (Blk ((W4.setCell ⟨g2,k*11+7,none⟩ (.int .i64 (Zx (Zr hd mk1 mk2) mk2))).drew) xb 39 (S6 xa0 xp0 xa1 xp1 (some ⟨g2,0,none⟩) xp2 xa3 xp3 xa4 xp4 m)):=Z9 ((((uh kx).other (a:=⟨g2,k*11+7,none⟩) (by show xb ≠ g2;omega) (.int .i64 (Zx (Zr hd mk1 mk2) mk2)))).below (Z0 _ _).drew ((uh kx).other (a:=⟨g2,k*11+7,none⟩) (by show xb ≠ g2;omega) (.int .i64 (Zx (Zr hd mk1 mk2) mk2))).lt);replace ko:Hid (Blk ((W4.setCell ⟨g2,k*11+7,none⟩ (.int .i64 (Zx (Zr hd mk1 mk2) mk2))).drew) ob 39 (S6 b0 q0 b1 q1 b2 q2 b3 q3 b4 q4 m)):=Z9 ((((uh ko).other (a:=⟨g2,k*11+7,none⟩) (by show ob ≠ g2;omega) (.int .i64 (Zx (Zr hd mk1 mk2) mk2)))).below (Z0 _ _).drew ((uh ko).other (a:=⟨g2,k*11+7,none⟩) (by show ob ≠ g2;omega) (.int .i64 (Zx (Zr hd mk1 mk2) mk2))).lt);replace kr:Hid (Blk ((W4.setCell ⟨g2,k*11+7,none⟩ (.int .i64 (Zx (Zr hd mk1 mk2) mk2))).drew) (w.heap.size+1) 39 E6):=Z9 ((((uh kr).other (a:=⟨g2,k*11+7,none⟩) (by show (w.heap.size+1) ≠ g2;omega) (.int .i64 (Zx (Zr hd mk1 mk2) mk2)))).below (Z0 _ _).drew ((uh kr).other (a:=⟨g2,k*11+7,none⟩) (by show (w.heap.size+1) ≠ g2;omega) (.int .i64 (Zx (Zr hd mk1 mk2) mk2))).lt);replace HO:Hid (FullSmy (w.heap.size+2) ((W4.setCell ⟨g2,k*11+7,none⟩ (.int .i64 (Zx (Zr hd mk1 mk2) mk2))).drew) (.slice b0 m.rm.length q0) (.slice b1 m.gd.length q1) (.slice b2 m.sm.length q2) (.slice b3 m.dk.length q3) (.slice b4 m.pc.length q4) m oq):=Z9 (((uh HO).set_off (fun k e=>by have:=(uh LO k e).2;omega) _ _).below (Z0 _ _).drew);replace HP:=Z9 ((uh HP).below (Z0 _ _).drew);replace BB:Hid (Below w.heap.size w ((W4.setCell ⟨g2,k*11+7,none⟩ (.int .i64 (Zx (Zr hd mk1 mk2) mk2))).drew)):=Z9 ((uh BB).setCell (p:=⟨g2,k*11+7,none⟩) (by show w.heap.size<=g2;omega) (.int .i64 (Zx (Zr hd mk1 mk2) mk2))).drew;clear kb Hv ks HY;generalize (W4.setCell ⟨g2,k*11+7,none⟩ (.int .i64 (Zx (Zr hd mk1 mk2) mk2))).drew=W5 at *;have hofX:∀ k,WX (.slice xa0 m.rm.length xp0) (.slice xa1 m.gd.length xp1) (.slice (some ⟨g2,0,none⟩) m.sm.length xp2) (.slice xa3 m.dk.length xp3) (.slice xa4 m.pc.length xp4) xq k->k ≠ xb:=fun k e=>by have:=(uh LX k e).2;omega
 refine (ON (m:=setS m k (1,(bn:Int),rk,my,gu,lo,hi,(Zx (Zr hd mk1 mk2) mk2),ca,ut,wk)) (k:=k) (uh kx) (uh HP) (fun e=>hofX _ (.inr (.inr (.inr (.inl e)))) rfl) (fun e=>hofX _ (.inr (.inr (.inr (.inr (.inl e))))) rfl) (by show k<(m.sm.set k _).length;simp;omega) (bb:Int)).mono ?_;rintro e w7 ⟨rfl,hf7,ht7⟩
 have hW:setS (setS m k (1,(bn:Int),rk,my,gu,lo,hi,(Zx (Zr hd mk1 mk2) mk2),ca,ut,wk)) k (2,(bb:Int),(Z8 (setS m k (1,(bn:Int),rk,my,gu,lo,hi,(Zx (Zr hd mk1 mk2) mk2),ca,ut,wk)).sm k).2.2)=W7 m k (bb:Int):=by
  rw [FZ,uh Hwk];show setS m k (2,(bb:Int),(Z8 (m.sm.set k _) k).2.2)=_;rw [ZC hk,if_pos rfl]
 rw [hW] at hf7;replace kx:=Z9 ((uh kx).two ht7 (fun e=>hofX _ (.inr (.inr (.inr (.inl e)))) rfl) (fun e=>hofX _ (.inr (.inr (.inr (.inr (.inl e))))) rfl));replace ko:=Z9 ((uh ko).two ht7 (fun e=>by have:=(uh LX _ (.inr (.inr (.inr (.inl e))))).1;omega) (fun e=>by have:=(uh LX _ (.inr (.inr (.inr (.inr (.inl e)))))).1;omega));replace kr:=Z9 ((uh kr).two ht7 (fun e=>by have:=(uh LX _ (.inr (.inr (.inr (.inl e))))).1;omega) (fun e=>by have:=(uh LX _ (.inr (.inr (.inr (.inr (.inl e)))))).1;omega));replace HO:=Z9 ((uh HO).keep (fun k e0=>ht7.block k ((uh HO).own e0).2 (fun e=>by have:=(uh LX _ (.inr (.inr (.inr (.inl e))))).1;have:=(uh LO k e0).2;omega) (fun e=>by have:=(uh LX _ (.inr (.inr (.inr (.inr (.inl e)))))).1;have:=(uh LO k e0).2;omega)));replace BB:=Z9 ((uh BB).trans (ht7.below (uh BB).size (fun k e=>by have:=(uh LX k (.inr (.inr (.inr (.inl e))))).1;omega) (fun k e=>by have:=(uh LX k (.inr (.inr (.inr (.inr (.inl e)))))).1;omega)));replace HP:=Z9 hf7;clear hf7 ht7 hW hofX;obtain ⟨lb,Hlb⟩:=WH (Y2 (W7 m k (bb:Int)));obtain ⟨z0,z1,z2,z3,z4,z5⟩:=(uh kx).c6;go_wp2_with fail;clear z0 z1 z2 z3 z4 z5;refine (Ro (m:=W7 m k (bb:Int)) (uh HP).smy).mono ?_;rw [uh Hlb];rintro e w8 ⟨rfl,hb⟩;replace kx:=bl kx hb;replace ko:=bl ko hb;replace kr:=bl kr hb;replace HO:=Z9 ((uh HO).below hb);replace HP:=Z9 ((uh HP).below hb);replace BB:=bt BB hb;clear hb;cases lb
 ·
  exact OpC.fin (OpC.mk (uh ko) (uh kr) (fun k e=>by have:=uh LO k e;omega) hob (uh BB)) X 4 results16 (by rw [<-uh HX];unfold Xz;rw [uh Hok,uh Hqw];simp only [if_true,Zm];rw [if_pos (uh Hst),uh Hb,if_neg (by omega),uh Hlb];rfl) rfl (uh HO)
 have hfw:=uh HFew;go_wp2_with fail;refine (OpC.done (M:=W7 m k (bb:Int)) (OpC.mk (uh kx) (uh kr) (fun k e=>by have:=uh LX k e;omega) (by omega) (uh BB)) rfl (uh HP) (by show (m.sm.set k _).length<=800;have:=hfw.sm;simp;omega) hfw.dk).mono ?_;clear kr BB;rintro e w9 ⟨rfl,HF9,kr,BB⟩;exact Gq (nw:=m.now) X results16 HF9 kr BB (by rw [<-uh HX];unfold Xz;rw [uh Hok,uh Hqw];simp only [if_true,Zm];rw [if_pos (uh Hst),uh Hb,if_neg (by omega),uh Hlb];rfl) rfl
theorem FullSmy.pushS {n₀:Nat} {w w1 w':World} {v0 v1 v2 v3 v4 u:Value} {m:Z3} {qs:List (Z4 × Value)} {s:ZZ} (h:FullSmy n₀ w v0 v1 v2 v3 v4 m qs) (hb:Below w.heap.size w w1) (hg:w1.grownBy w' v2.ownBlock) (hat:u.ownBlock=v2.ownBlock\/u.ownBlock=some w1.heap.size) (hr:SmithsAt n₀ w' u (m.sm++[s])):FullSmy n₀ w' v0 v1 u v3 v4 (pushS m s) qs:=by
 have hsz:=hb.size;have hk:∀ k,k<w.heap.size->v2.ownBlock ≠ some k->w'.heap[k]?=w.heap[k]?:=fun k hk hn=>(hg.block k (by omega) (Ne.symm hn)).trans (hb.block k hk)
 have hu:∀ {b:Nat},u.ownBlock=some b->v2.ownBlock=some b\/w.heap.size<=b:=fun {b} e=>by
  rcases hat with e' | e'
  ·exact .inl (e'.symm.trans e)
  ·right;rw [e'] at e;cases e;exact hsz
 refine ⟨h.hall.same2 fun k e=>hk k ?_ fun e'=> ?_,h.rm,RecAt.same h.gd fun k e=>hk k (RecAt.lt h.gd e).2 fun e'=>h.a12 k e e',hr,RecAt.same h.dk fun k e=>hk k (RecAt.lt h.dk e).2 fun e'=>h.a23 k e' e,RecAt.same h.pc fun k e=>hk k (RecAt.lt h.pc e).2 fun e'=>h.a24 k e' e,h.h1,⟨fun b e e'=> ?_,fun q hq b e e'=> ?_⟩,h.h3,h.h4,fun b e e'=> ?_,h.a13,h.a14,fun b e e'=> ?_,fun b e e'=> ?_,h.a34⟩
 ·exact (h.hall.lt e).2
 ·rcases e with e | ⟨q,hq,e⟩
  ·exact h.h2.1 k e' e
  ·exact h.h2.2 q hq k e' e
 ·rcases hu e with e2 | e2
  ·exact h.h2.1 b e2 e'
  ·have:=(h.hall.lt (.inl e')).2;omega
 ·rcases hu e with e2 | e2
  ·exact h.h2.2 q hq b e2 e'
  ·have:=(h.hall.lt (.inr ⟨q,hq,e'⟩)).2;omega
 ·rcases hu e' with e2 | e2
  ·exact h.a12 b e e2
  ·have:=(RecAt.lt h.gd e).2;omega
 ·rcases hu e with e2 | e2
  ·exact h.a23 b e2 e'
  ·have:=(RecAt.lt h.dk e').2;omega
 ·rcases hu e with e2 | e2
  ·exact h.a24 b e2 e'
  ·have:=(RecAt.lt h.pc e').2;omega
theorem Mt {w:World} {v0 v1 v2 v3 v4:Value} {m:Z3} (rank:Int) (may:Int) (guild:Int) (h:Smy w v0 v1 v2 v3 v4 m) :
  Calls prog 18 #[.agg #[v0,v1,v2,v3,v4,.int .i64 m.now],.int .i64 rank,.int .i64 may,.int .i64 guild] w fun e w'=>TR w.heap.size (Xy m rank may guild).1 (Xy m rank may guild).2 e w'/\Below w.heap.size w w':=by
 obtain ⟨X,hX⟩:=ZI (Xy m rank may guild);rw [hX];have HX:=Z9 hX;clear hX;obtain ⟨a0,p0,a1,p1,a2,p2,a3,p3,a4,p4,rfl,rfl,rfl,rfl,rfl,-⟩:=h.five;refine op0 h X func18 ntmps18 results18 (fun h=>by rw [<-uh HX];unfold Xy;rw [h];rfl) ?_;clear h
 intros
 rename_i Hok HLo HFew b0 q0 b1 q1 b2 q2 b3 q3 b4 q4 oq W2 ob H
 obtain ⟨kb,kr,Hv,HO,ko,LO,hob,BB⟩:=H.out;clear H;go_upto_region 5 with fail;obtain ⟨W3,hW3,hba,ks⟩:=U7 W2 59 #[.int .i64 1,.int .i64 0,.int .i64 rank,.int .i64 may,.int .i64 guild,.int .i64 0,.int .i64 1024,.int .i64 0,.int .i64 0,.int .i64 0,.int .i64 0];replace kb:=bl kb hba;replace kr:=bl kr hba;replace Hv:=Z9 ((uh Hv).below hba);replace HO:=Z9 ((uh HO).below hba);replace ko:=bl ko hba;replace BB:=bt BB hba;clear hba;rw [hW3];clear hW3;generalize W2.heap.size=sv at *;obtain ⟨sk,hsk⟩:=ZI (Zi (ZE rank may guild));have Hsk:=Z9 hsk;have Hsk2:Hid (Zi (1,0,rank,may,guild,0,1024,0,0,0,0)=sk):=Z9 hsk;clear hsk;obtain ⟨e0,e1,e2,e3,e4,e5,e6,e7,e8,e9,e10⟩:=(uh ks).c11;go_wp2_with fail;clear e0 e1 e2 e3 e4 e5 e6 e7 e8 e9 e10;refine (TO 1 0 rank may guild 0 1024 0 0 0 0 _).mono ?_;rw [uh Hsk2];rintro e w3 ⟨rfl,hb⟩;replace kb:=bl kb hb;replace kr:=bl kr hb;replace Hv:=Z9 ((uh Hv).below hb);replace HO:=Z9 ((uh HO).below hb);replace ko:=bl ko hb;replace ks:=bl ks hb;replace BB:=bt BB hb;clear hb;cases sk
 ·
  exact OpC.fin (OpC.mk (uh ko) (uh kr) (fun k e=>by have:=uh LO k e;omega) hob (uh BB)) X 3 results18 (by rw [<-uh HX];unfold Xy;rw [uh Hok,uh Hsk];rfl) rfl (uh HO)
 have hgl:=(uh HFew).gd;have c1:=(uh kb).cell (i:=1) (v:= .slice a1 m.gd.length p1) rfl;by_cases hg:guild<(m.gd.length:Int);rotate_left
 ·
  exact OpC.fin (OpC.mk (uh ko) (uh kr) (fun k e=>by have:=uh LO k e;omega) hob (uh BB)) X 3 results18 (by rw [<-uh HX];unfold Xy;rw [uh Hok,uh Hsk];simp only [if_true,Bool.true_and];rw [show decide (guild<(m.gd.length:Int))=false by simp;omega];rfl) rfl (uh HO)
 have Hg:=Z9 hg;have c2:=(uh kb).cell (i:=2) (v:= .slice a2 m.sm.length p2) rfl;by_cases hl:m.sm.length=12
 ·
  have Hl:=Z9 hl;have hl1:((m.sm.length:Int) ==12)=true:=by rw [hl];rfl
  have hl2:decide ((m.sm.length:Int)=12)=true:=by rw [hl];rfl
  clear hl;exact OpC.fin (OpC.mk (uh ko) (uh kr) (fun k e=>by have:=uh LO k e;omega) hob (uh BB)) X 4 results18 (by rw [<-uh HX];unfold Xy;rw [uh Hok,uh Hsk];simp only [if_true,Bool.true_and];rw [show decide (guild<(m.gd.length:Int))=true from decide_eq_true (uh Hg)];simp only [if_true];rw [if_pos (uh Hl)]) rfl (uh HO)
 have Hl:=Z9 hl;have hl0:¬ (m.sm.length:Int)=12:=by omega
 have hl1:((m.sm.length:Int) ==12)=false:=by simp [hl0]
 have hl2:decide ((m.sm.length:Int)=12)=false:=by simp [hl0]
 clear hl;obtain ⟨c0,c1,c2,c3,c4,c5⟩:=(uh kb).c6;go_wp2_with fail;clear c0 c1 c2 c3 c4 c5;have hobw:=(uh ko).lt;refine (U4 (uh Hv) (uh HFew)).mono ?_;rintro e w4 ⟨y0,y1,y2,y3,y4,xq,rfl,ho,hb⟩;have k9:=ho.smy;obtain ⟨xa0,xp0,xa1,xp1,xa2,xp2,xa3,xp3,xa4,xp4,rfl,rfl,rfl,rfl,rfl,_,_,_,_,_,_,_,_,_,_⟩:=k9.five;clear k9;replace kb:=bl kb hb;replace kr:=bl kr hb;replace Hv:=Z9 ((uh Hv).below hb);replace HO:=Z9 ((uh HO).below hb);replace ko:=bl ko hb;replace ks:=bl ks hb;replace BB:=bt BB hb;have hszx:=hb.size;have HY:=Z9 (ho.mono (n₁:=w.heap.size+2) (by omega));have LX:Hid (∀ k,WX (.slice xa0 m.rm.length xp0) (.slice xa1 m.gd.length xp1) (.slice xa2 m.sm.length xp2) (.slice xa3 m.dk.length xp3) (.slice xa4 m.pc.length xp4) xq k->ob+1<=k/\k<w4.heap.size):=Z9 (fun k e=>by have:=ho.own e;omega);have hxb:ob+1<=w4.heap.size:=by omega
 clear ho hb hobw hszx;go_upto_region 11 with fail;obtain ⟨W4,hW4,hba,kx⟩:=U7 w4 39 (S6 xa0 xp0 xa1 xp1 xa2 xp2 xa3 xp3 xa4 xp4 m);replace kb:=bl kb hba;replace kr:=bl kr hba;replace Hv:=Z9 ((uh Hv).below hba);replace HO:=Z9 ((uh HO).below hba);replace ko:=bl ko hba;replace ks:=bl ks hba;replace HY:=Z9 ((uh HY).below hba);replace BB:=bt BB hba;clear hba;rw [hW4];clear hW4;generalize w4.heap.size=xb at *;clear hl0 hl1 hl2 hg c1 c2
 have hx:Loose (pushS m (ZE rank may guild)):=by
  have h12:=Wq (uh HLo)
  rcases O0 (uh HLo) (uh Hsk) (uh Hg) with e | e
  ·exact e
  ·exact absurd (Nat.le_antisymm h12 e) (uh Hl)
 have hrn:Z8 (m.sm++[ZE rank may guild]) m.sm.length=ZE rank may guild:=by rw [XL,if_pos rfl]
 have HAx:Hid (PC (pushS m (ZE rank may guild)) m.sm.length):=Z9 (RM hx (by unfold pushS;simp) (by show (Z8 (m.sm++_) _).1 ≠ 0;rw [hrn];show (1:Int) ≠ 0;omega)).1;have HLx:=Z9 hx;obtain ⟨n1,hn1⟩:∃ n,n=m.sm.length+1:=⟨_,rfl⟩
 have Hn1:=Z9 hn1;have hn1n:m.sm.length<n1:=by omega
 have hnn:(m.sm.length:Int)<(n1:Int):=by omega
 clear hn1;have hsz4:w.heap.size+2<=W4.heap.size:=by have:=(uh kx).lt;omega
 clear hx;have x2:=(uh kx).cell (i:=2) (v:= .slice xa2 m.sm.length xp2) rfl;have fx:=(uh kx).free 2;obtain ⟨e0,e1,e2,e3,e4,e5,e6,e7,e8,e9,e10⟩:=(uh ks).c11;have hsl:=(uh HFew).sm;have hx2:∀ k,(Value.slice xa2 m.sm.length xp2).ownBlock=some k->k<xb:=fun k e=>(uh LX k (.inr (.inr (.inr (.inl e))))).2;go_upto_region 12 with (at_builtin;refine ZN tyS rfl (.tmp 50) (.tmp 52) 36 underlying36 rfl (w.heap.size+2) _ _ m.sm [ZE rank may guild] rfl rfl (RecAt.later (uh HY).sm ((ba _ _))) (Wa (ZE rank may guild) rfl (ZY _) (by omega)) (by simp;omega) (by simp;omega) ?_;intro u9 w9 hp9 hg9 hat9;obtain ⟨a9,c9,hu9⟩:=RecAt.shape hp9;rw [show (m.sm++[ZE rank may guild]).length=n1 by rw [uh Hn1];simp] at hu9;subst hu9;have k9:=((uh kx).below ((Z0 _ _).alloc (ZY _) (.cells #[.int .i64 1,.int .i64 0,.int .i64 rank,.int .i64 may,.int .i64 guild,.int .i64 0,.int .i64 1024,.int .i64 0,.int .i64 0,.int .i64 0,.int .i64 0] 59)) (uh kx).lt).same (hg9.block xb (by have:=(uh kx).lt;simp;omega) (fun e=>by have:=hx2 _ e.symm;omega));have o9:=k9.cell (i:=2) (v:= .slice xa2 m.sm.length xp2) rfl;have f9:=k9.free 2;have HP9:=Z9 hp9;have HG9:=Z9 hg9;have HT9:=Z9 hat9;clear hp9 hg9 hat9 k9)
 clear x2 fx o9 f9 e0 e1 e2 e3 e4 e5 e6 e7 e8 e9 e10;have hba:Below W4.heap.size W4 (W4.alloc (.cells #[.int .i64 1,.int .i64 0,.int .i64 rank,.int .i64 may,.int .i64 guild,.int .i64 0,.int .i64 1024,.int .i64 0,.int .i64 0,.int .i64 0,.int .i64 0] 59)):=ba _ _;have hP:=(uh HY).pushS hba (uh HG9) (uh HT9) (uh HP9);have hown:∀ k,k<W4.heap.size->(Value.slice xa2 m.sm.length xp2).ownBlock ≠ some k->w9.heap[k]?=W4.heap[k]?:=fun k hk hn=>((uh HG9).block k (by have:=hba.size;omega) (Ne.symm hn)).trans (hba.block k hk);have hx2o:∀ k,(Value.slice xa2 m.sm.length xp2).ownBlock=some k->ob+1<=k:=fun k e=>(uh LX k (.inr (.inr (.inr (.inl e))))).1;have hxbl:=(uh kx).lt
 have LX9:Hid (∀ k,WX (.slice xa0 m.rm.length xp0) (.slice xa1 m.gd.length xp1) (.slice a9 n1 c9) (.slice xa3 m.dk.length xp3) (.slice xa4 m.pc.length xp4) xq k->ob+1<=k/\k ≠ xb):=Z9 (fun k e=>by
  rcases e with e | e | e | e | e | e
  ·have:=uh LX k (.inl e);omega
  ·have:=uh LX k (.inr (.inl e));omega
  ·have:=uh LX k (.inr (.inr (.inl e)));omega
  ·rcases uh HT9 with e' | e'
   ·have:=uh LX k (.inr (.inr (.inr (.inl (e'.symm.trans e)))));omega
   ·rw [e'] at e
    have e8:=Option.some.inj e;have:=hba.size;omega
  ·have:=uh LX k (.inr (.inr (.inr (.inr (.inl e)))));omega
  ·have:=uh LX k (.inr (.inr (.inr (.inr (.inr e)))));omega)
 replace kx:Hid (Blk (w9.setCell ⟨xb,2,none⟩ (.slice a9 n1 c9)) xb 39 #[.slice xa0 m.rm.length xp0,.slice xa1 m.gd.length xp1,.slice a9 n1 c9,.slice xa3 m.dk.length xp3,.slice xa4 m.pc.length xp4,.int .i64 m.now]):=Z9 (((uh kx).same (hown xb hxbl (fun e=>by have:=hx2 _ e;omega))).set 2 _);replace ko:Hid (Blk (w9.setCell ⟨xb,2,none⟩ (.slice a9 n1 c9)) ob 39 #[.slice b0 m.rm.length q0,.slice b1 m.gd.length q1,.slice b2 m.sm.length q2,.slice b3 m.dk.length q3,.slice b4 m.pc.length q4,.int .i64 m.now]):=Z9 (((uh ko).same (hown ob (uh ko).lt (fun e=>by have:=hx2o _ e;omega))).other (a:=⟨xb,2,none⟩) (by show ob ≠ xb;omega) _);replace kr:Hid (Blk (w9.setCell ⟨xb,2,none⟩ (.slice a9 n1 c9)) (w.heap.size+1) 39 #[.slice none 0 0,.slice none 0 0,.slice none 0 0,.slice none 0 0,.slice none 0 0,.int .i64 0]):=Z9 (((uh kr).same (hown (w.heap.size+1) (uh kr).lt (fun e=>by have:=hx2o _ e;omega))).other (a:=⟨xb,2,none⟩) (by show (w.heap.size+1) ≠ xb;omega) _);replace HO:Hid (FullSmy (w.heap.size+2) (w9.setCell ⟨xb,2,none⟩ (.slice a9 n1 c9)) (.slice b0 m.rm.length q0) (.slice b1 m.gd.length q1) (.slice b2 m.sm.length q2) (.slice b3 m.dk.length q3) (.slice b4 m.pc.length q4) m oq):=Z9 (((uh HO).keep (fun k e0=>hown k ((uh HO).own e0).2 (fun e=>by have:=hx2o k e;have:=(uh LO k e0).2;omega))).set_off (fun k e=>by have:=(uh LO k e).2;omega) _ _);have HP:Hid (FullSmy (w.heap.size+2) (w9.setCell ⟨xb,2,none⟩ (.slice a9 n1 c9)) (.slice xa0 m.rm.length xp0) (.slice xa1 m.gd.length xp1) (.slice a9 n1 c9) (.slice xa3 m.dk.length xp3) (.slice xa4 m.pc.length xp4) (pushS m (ZE rank may guild)) xq):=Z9 (hP.set_off (fun k e=>(uh LX9 k e).2) _ _);replace BB:Hid (Below w.heap.size w (w9.setCell ⟨xb,2,none⟩ (.slice a9 n1 c9))):=Z9 (((((uh BB).trans (hba.mono (uh BB).size)).trans ((Z0 _ _).grown (uh HG9) (by have:=hba.size;omega) (fun k e=>by have:=hx2o k e;omega)))).setCell (p:=⟨xb,2,none⟩) (by show w.heap.size<=xb;omega) _);clear LX HY HG9 HT9 HP9 hP hown hx2o hx2 hba hxbl kb Hv ks hsz4;have LX:=LX9;clear LX9;generalize w9.setCell ⟨xb,2,none⟩ (.slice a9 n1 c9)=W5 at *;have hl1:(m.sm++[ZE rank may guild]).length=n1:=by rw [uh Hn1];simp
 obtain ⟨g2,hga,_,_,_,_⟩:=RecAt.view ZV (by omega) (uh HP).sm hl1.symm (by show 0<(m.sm++[ZE rank may guild]).length;omega);cases hga;have hg2o:=(uh LX g2 (.inr (.inr (.inr (.inl rfl)))))
 obtain ⟨b,hb⟩:=ZI (TH m (ZE rank may guild));have Hb:=Z9 hb;have Hb2:Hid (YL (pushS m (ZE rank may guild)) (m.sm.length:Int)=b):=Z9 hb;clear hb;obtain ⟨z0,z1,z2,z3,z4,z5⟩:=(uh kx).c6;go_wp2_with fail;clear z0 z1 z2 z3 z4 z5;refine (Si (m:=pushS m (ZE rank may guild)) (who:=m.sm.length) (uh HP).smy (uh HLx).sane (M5 (uh HLx)) (uh HAx)).mono ?_;rw [uh Hb2];rintro e w5 ⟨rfl,hb⟩;replace kx:=bl kx hb;replace ko:=bl ko hb;replace kr:=bl kr hb;replace HO:=Z9 ((uh HO).below hb);replace HP:=Z9 ((uh HP).below hb);replace BB:=bt BB hb;clear hb;by_cases hbn:b<0
 ·
  exact OpC.fin (OpC.mk (uh ko) (uh kr) (fun k e=>by have:=uh LO k e;omega) hob (uh BB)) X 2 results18 (by rw [<-uh HX];unfold Xy;rw [uh Hok,uh Hsk];simp only [if_true,Bool.true_and];rw [show decide (guild<(m.gd.length:Int))=true from decide_eq_true (uh Hg)];simp only [if_true];rw [if_neg (uh Hl),uh Hb,if_pos hbn]) rfl (uh HO)
 obtain ⟨bb,hbb,rfl⟩:∃ bb:Nat,bb<m.dk.length/\b=(bb:Int):=by
  rcases Wj (pushS m (ZE rank may guild)) (m.sm.length:Int) with ⟨e,_⟩ | ⟨bb,hbl,e,_⟩
  ·rw [uh Hb2] at e;omega
  ·exact ⟨bb,hbl,(uh Hb2).symm.trans e⟩
 go_wp2_with fail;have hofX:∀ k,WX (.slice xa0 m.rm.length xp0) (.slice xa1 m.gd.length xp1) (.slice (some ⟨g2,0,none⟩) n1 c9) (.slice xa3 m.dk.length xp3) (.slice xa4 m.pc.length xp4) xq k->k ≠ xb:=fun k e=>by have:=(uh LX k e).2;omega
 refine (ON (m:=pushS m (ZE rank may guild)) (k:=m.sm.length) (uh kx) (uh HP) (fun e=>hofX _ (.inr (.inr (.inr (.inl e)))) rfl) (fun e=>hofX _ (.inr (.inr (.inr (.inr (.inl e))))) rfl) (by show m.sm.length<(m.sm++[ZE rank may guild]).length;omega) (bb:Int)).mono ?_;rintro e w7 ⟨rfl,hf7,ht7⟩
 have hW:((2,(bb:Int),(Z8 (pushS m (ZE rank may guild)).sm m.sm.length).2.2):ZZ)=(2,(bb:Int),rank,may,guild,0,1024,0,0,0,0):=by
  show ((2,(bb:Int),(Z8 (m.sm++[ZE rank may guild]) m.sm.length).2.2):ZZ)=_;rw [hrn];rfl
 rw [hW] at hf7;replace kx:=Z9 ((uh kx).two ht7 (fun e=>hofX _ (.inr (.inr (.inr (.inl e)))) rfl) (fun e=>hofX _ (.inr (.inr (.inr (.inr (.inl e))))) rfl));replace kr:=Z9 ((uh kr).two ht7 (fun e=>by have:=(uh LX _ (.inr (.inr (.inr (.inl e))))).1;omega) (fun e=>by have:=(uh LX _ (.inr (.inr (.inr (.inr (.inl e)))))).1;omega));replace BB:=Z9 ((uh BB).trans (ht7.below (uh BB).size (fun k e=>by have:=(uh LX k (.inr (.inr (.inr (.inl e))))).1;omega) (fun k e=>by have:=(uh LX k (.inr (.inr (.inr (.inr (.inl e)))))).1;omega)));replace HP:=Z9 hf7;clear hf7 ht7 hW hofX HO ko;obtain ⟨mk,hmk⟩:=ZI ((Z8 m.dk bb).2.2);have Hmk:Hid (XX m (bb:Int)=mk):=Z9 (by unfold XX;simpa using hmk);obtain ⟨g3,hga,_,_,hc3,_⟩:=RecAt.view ZF (by omega) (uh HP).dk rfl (by show 0<m.dk.length;omega);cases hga;have d2:=hc3 bb hbb 2 (.int .i64 mk) (by rw [<-hmk];rfl);clear hc3 hmk;have hl2:((m.sm++[ZE rank may guild]).set m.sm.length ((2:Int),(bb:Int),rank,may,guild,(0:Int),(1024:Int),(0:Int),(0:Int),(0:Int),(0:Int))).length=n1:=by rw [UX];exact hl1
 obtain ⟨_,hga,_,_,hc2,hz2⟩:=RecAt.view ZV (by omega) (uh HP).sm hl2.symm (by show 0<((m.sm++[ZE rank may guild]).set m.sm.length _).length;omega);cases hga;have hr2:Z8 ((m.sm++[ZE rank may guild]).set m.sm.length ((2:Int),(bb:Int),rank,may,guild,(0:Int),(1024:Int),(0:Int),(0:Int),(0:Int),(0:Int))) m.sm.length=((2:Int),(bb:Int),rank,may,guild,(0:Int),(1024:Int),(0:Int),(0:Int),(0:Int),(0:Int)):=by rw [ZC (by omega),if_pos rfl]
 have s7:=hc2 m.sm.length (by show m.sm.length<((m.sm++[ZE rank may guild]).set m.sm.length _).length;omega) 7 (.int .i64 0) (by show (Zz (Z8 ((m.sm++[ZE rank may guild]).set m.sm.length ((2:Int),(bb:Int),rank,may,guild,(0:Int),(1024:Int),(0:Int),(0:Int),(0:Int),(0:Int))) m.sm.length))[7]?=_;rw [hr2];rfl);have f7:=hz2 (m.sm.length*11+7);have hput:=(uh HP).putS hl2.symm (j:=m.sm.length) (i:=7) (by show m.sm.length<((m.sm++[ZE rank may guild]).set m.sm.length _).length;omega) (by omega) (.int .i64 mk) (R1 (ZE rank may guild) (bb:Int) mk) (by show Zz _=(Zz (Z8 ((m.sm++[ZE rank may guild]).set m.sm.length ((2:Int),(bb:Int),rank,may,guild,(0:Int),(1024:Int),(0:Int),(0:Int),(0:Int),(0:Int))) m.sm.length)).set 7 _;rw [hr2];rfl);simp only [setS,List.set_set] at hput;have HQ:Hid (FullSmy (w.heap.size+2) (w7.setCell ⟨g2,m.sm.length*11+7,none⟩ (.int .i64 mk)) (.slice xa0 m.rm.length xp0) (.slice xa1 m.gd.length xp1) (.slice (some ⟨g2,0,none⟩) n1 c9) (.slice (some ⟨g3,0,none⟩) m.dk.length xp3) (.slice xa4 m.pc.length xp4) (setS (pushS m (ZE rank may guild)) m.sm.length (R1 (ZE rank may guild) (bb:Int) mk)) xq):=Z9 hput;clear hput hc2 hz2 hr2 hl2;have x2:=(uh kx).cell (i:=2) (v:= .slice (some ⟨g2,0,none⟩) n1 c9) rfl;have x3:=(uh kx).cell (i:=3) (v:= .slice (some ⟨g3,0,none⟩) m.dk.length xp3) rfl;have hbb2:(bb:Int)<(m.dk.length:Int):=by omega
 go_wp2_with fail;refine ZH (S:=fun w'=>w'.cell? ⟨xb,2,none⟩=some (.slice (some ⟨g2,0,none⟩) n1 c9)/\w'.cell? ⟨xb,3,none⟩=some (.slice (some ⟨g3,0,none⟩) m.dk.length xp3)/\w'.cell? ⟨g3,bb*3+2,none⟩=some (.int .i64 mk)) (by kernel_rfl) (Va _ _) (by kernel_rfl) ⟨x2,x3,d2⟩ (fun hHeld=> ?_);simp only [Vb,Vc,XY,Xo,Nat.zero_add,Nat.reduceAdd]
 iterate 11 refine tz ?_
 refine wpAnyH_done (by kernel_rfl) ?_ _;refine YQ rfl rfl ?_;go_simp;clear hHeld x2 x3 d2 s7 f7;go_wp2_with fail;replace kx:Hid (Blk ((w7.setCell ⟨g2,m.sm.length*11+7,none⟩ (.int .i64 mk)).drew) xb 39 #[.slice xa0 m.rm.length xp0,.slice xa1 m.gd.length xp1,.slice (some ⟨g2,0,none⟩) n1 c9,.slice (some ⟨g3,0,none⟩) m.dk.length xp3,.slice xa4 m.pc.length xp4,.int .i64 m.now]):=Z9 (((uh kx).other (a:=⟨g2,m.sm.length*11+7,none⟩) (by show xb ≠ g2;omega) (.int .i64 mk)).below (Z0 _ _).drew ((uh kx).other (a:=⟨g2,m.sm.length*11+7,none⟩) (by show xb ≠ g2;omega) (.int .i64 mk)).lt);replace kr:Hid (Blk ((w7.setCell ⟨g2,m.sm.length*11+7,none⟩ (.int .i64 mk)).drew) (w.heap.size+1) 39 #[.slice none 0 0,.slice none 0 0,.slice none 0 0,.slice none 0 0,.slice none 0 0,.int .i64 0]):=Z9 (((uh kr).other (a:=⟨g2,m.sm.length*11+7,none⟩) (by show (w.heap.size+1) ≠ g2;omega) (.int .i64 mk)).below (Z0 _ _).drew ((uh kr).other (a:=⟨g2,m.sm.length*11+7,none⟩) (by show (w.heap.size+1) ≠ g2;omega) (.int .i64 mk)).lt);replace BB:Hid (Below w.heap.size w ((w7.setCell ⟨g2,m.sm.length*11+7,none⟩ (.int .i64 mk)).drew)):=Z9 ((uh BB).setCell (p:=⟨g2,m.sm.length*11+7,none⟩) (by show w.heap.size<=g2;omega) (.int .i64 mk)).drew;replace HP:=Z9 ((uh HQ).below (Z0 _ _).drew);clear HQ;generalize (w7.setCell ⟨g2,m.sm.length*11+7,none⟩ (.int .i64 mk)).drew=W8 at *;have hfw:=uh HFew;refine (OpC.done (M:=setS (pushS m (ZE rank may guild)) m.sm.length (R1 (ZE rank may guild) (bb:Int) mk)) (OpC.mk (uh kx) (uh kr) (fun k e=>by have:=uh LX k e;omega) (by omega) (uh BB)) rfl (uh HP) (by show ((m.sm++[ZE rank may guild]).set m.sm.length _).length<=800;have:=Wq (uh HLo);simp;omega) hfw.dk).mono ?_;clear kr BB;rintro e w9 ⟨rfl,HF9,kr,BB⟩;exact Gq (nw:=m.now) X results18 HF9 kr BB (by rw [<-uh HX];unfold Xy;rw [uh Hok,uh Hsk];simp only [if_true,Bool.true_and];rw [show decide (guild<(m.gd.length:Int))=true from decide_eq_true (uh Hg)];simp only [if_true];rw [if_neg (uh Hl),uh Hb,if_neg (by omega),uh Hmk]) rfl
theorem Mu {w:World} {v0 v1 v2 v3 v4:Value} {m:Z3} (who:Int) (h:Smy w v0 v1 v2 v3 v4 m) :
  Calls prog 8 #[.agg #[v0,v1,v2,v3,v4,.int .i64 m.now],.int .i64 who] w fun e w'=>TR w.heap.size (Xf m who).1 (Xf m who).2 e w'/\Below w.heap.size w w':=by
 obtain ⟨X,hX⟩:=ZI (Xf m who);rw [hX];have HX:=Z9 hX;clear hX;obtain ⟨a0,p0,a1,p1,a2,p2,a3,p3,a4,p4,rfl,rfl,rfl,rfl,rfl,-⟩:=h.five;refine op0 h X func8 ntmps8 results8 (fun h=>by rw [<-uh HX];unfold Xf;rw [h];rfl) ?_;clear h
 intros
 rename_i Hok HLo HFew b0 q0 b1 q1 b2 q2 b3 q3 b4 q4 oq W2 ob H
 obtain ⟨qw,Hqw⟩:=WH (Xd m who);obtain ⟨c0,c1,c2,c3,c4,c5⟩:=H.kb.c6;go_wp2_with fail;clear c0 c1 c2 c3 c4 c5;refine ck (OL (uh Hqw) H.Hv) fun w3 hb=> ?_;replace H:=H.next hb;clear hb;cases qw
 ·
  exact H.c.fin X 1 results8 (by rw [<-uh HX];unfold Xf;rw [uh Hok,uh Hqw];rfl) rfl H.HO
 obtain ⟨k,rfl,hk,hs0⟩:=Xn (uh Hqw);have hk1:(k:Int)<(m.sm.length:Int):=by omega
 obtain ⟨_,_,hse,_,_,r2⟩:=H.Hv.sm;cases hse
 rcases r2 with e0 | ⟨sb,off,rfl,hbw,hcl⟩
 ·rw [e0] at hk;simp at hk
 obtain ⟨d0,d1,d2,d3,d4,d5,d6,d7,d8,d9,d10⟩:=ZB hcl hk;clear hcl;obtain ⟨ps,hps⟩:=ZI (ZM (Z8 m.sm k));have Hps:=Z9 hps;obtain ⟨⟨st,be,rk,my,gu,lo,hi,hd,ca,ut,wk⟩,hrk⟩:=ZI (Z8 m.sm k);rw [hrk] at d0 d1 d2 d3 d4 d5 d6 d7 d8 d9 d10 hps;simp only at d0 d1 d2 d3 d4 d5 d6 d7 d8 d9 d10;have c2:=H.kb.cell (i:=2) (v:= .slice (some ⟨sb,off,none⟩) m.sm.length p2) rfl;have Hpt:=Z9 hps;clear hps;go_wp2_with fail;refine ck (Yx (uh Hpt) _) fun w4 hb=> ?_;replace H:=H.next hb;clear hb d0 d1 d2 d3 d4 d5 d6 d7 d8 d9 d10 c2;cases ps
 ·
  exact H.c.fin X 2 results8 (by rw [<-uh HX];unfold Xf;rw [uh Hok,uh Hqw];simp only [if_true,Zm];rw [uh Hps];rfl) rfl H.HO
 obtain ⟨g2,hga,_,_,hc2,hz2⟩:=RecAt.view ZV (by omega) H.HO.sm rfl (by omega);cases hga;have s0:=hc2 k hk 0 _ rfl;have f0:=hz2 (k*11);have x2:=H.c.ko.cell (i:=2) (v:= .slice (some ⟨g2,0,none⟩) m.sm.length q2) rfl;have hput:=H.HO.putS rfl (j:=k) (i:=0) hk (by omega) (.int .i64 1) (stS (Z8 m.sm k) 1) rfl;simp only [Nat.add_zero] at s0 hput;have hg2o:=(H.c.LO g2 (.inr (.inr (.inr (.inl rfl)))))
 clear hc2 hz2;go_upto_region 9 with fail;clear s0 f0 x2;have HP:=hput;have HC:=H.c.set hg2o (k*11) (.int .i64 1);clear H hput;generalize w4.setCell ⟨g2,k*11,none⟩ (.int .i64 1)=W3 at *;have hfw:=uh HFew;go_wp2_with fail;refine (HC.done (M:=setS m k (stS (Z8 m.sm k) 1)) rfl (HP) (by show (m.sm.set k _).length<=800;have:=hfw.sm;simp;omega) hfw.dk).mono ?_;clear HC;rintro e w5 ⟨rfl,HF9,kr,BB⟩;exact Gq X results8 HF9 kr BB (by rw [<-uh HX];unfold Xf;rw [uh Hok,uh Hqw];simp only [if_true,Zm];rw [uh Hps];rfl) rfl
theorem NU {w:World} {v0 v1 v2 v3 v4:Value} {m:Z3} (who:Int) (h:Smy w v0 v1 v2 v3 v4 m) :
  Calls prog 14 #[.agg #[v0,v1,v2,v3,v4,.int .i64 m.now],.int .i64 who] w fun e w'=>TR w.heap.size (Ye m who).1 (Ye m who).2 e w'/\Below w.heap.size w w':=by
 obtain ⟨X,hX⟩:=ZI (Ye m who);rw [hX];have HX:=Z9 hX;clear hX;obtain ⟨a0,p0,a1,p1,a2,p2,a3,p3,a4,p4,rfl,rfl,rfl,rfl,rfl,-⟩:=h.five;refine op0 h X func14 ntmps14 results14 (fun h=>by rw [<-uh HX];unfold Ye;rw [h];rfl) ?_;clear h
 intros
 rename_i Hok HLo HFew b0 q0 b1 q1 b2 q2 b3 q3 b4 q4 oq W2 ob H
 obtain ⟨qw,Hqw⟩:=WH (Xd m who);obtain ⟨c0,c1,c2,c3,c4,c5⟩:=H.kb.c6;go_wp2_with fail;clear c0 c1 c2 c3 c4 c5;refine ck (OL (uh Hqw) H.Hv) fun w3 hb=> ?_;replace H:=H.next hb;clear hb;cases qw
 ·
  exact H.c.fin X 1 results14 (by rw [<-uh HX];unfold Ye;rw [uh Hok,uh Hqw];rfl) rfl H.HO
 obtain ⟨k,rfl,hk,hs0⟩:=Xn (uh Hqw);have hk1:(k:Int)<(m.sm.length:Int):=by omega
 obtain ⟨g2,hga,_,_,hc2,hz2⟩:=RecAt.view ZV (by omega) H.HO.sm rfl (by omega);cases hga;have hg2o:=(H.c.LO g2 (.inr (.inr (.inr (.inl rfl)))))
 have x2:=H.c.ko.cell (i:=2) (v:= .slice (some ⟨g2,0,none⟩) m.sm.length q2) rfl;obtain ⟨s0,s1,s2,s3,s4,s5,s6,s7,s8,s9,s10⟩:=EF (hc2 k hk);obtain ⟨g0,g1,g2,g3,g4,g5,g6,g7,g8,g9,g10⟩:=Ce hz2 (k*11);simp only [Nat.add_zero] at s0 g0;have HP:=H.HO.putW rfl hk (0,0,0,0,0,0,0,0,0,0,0);clear hc2 hz2;go_upto_region 7 with fail;clear x2 s0 g0 s1 g1 s2 g2 s3 g3 s4 g4 s5 g5 s6 g6 s7 g7 s8 g8 s9 g9 s10 g10;rw [CN];have HC:=OpC.setw hg2o (Zz (0,0,0,0,0,0,0,0,0,0,0)) (o:=k*11) H.c;clear H;generalize Sm w3 g2 (k*11) (Zz (0,0,0,0,0,0,0,0,0,0,0))=W3 at *;have hfw:=uh HFew;go_wp2_with fail;refine (HC.done (M:=setS m k TF) rfl (HP) (by show (m.sm.set k _).length<=800;have:=hfw.sm;simp;omega) hfw.dk).mono ?_;clear HC;rintro e w4 ⟨rfl,HF9,kr,BB⟩;exact Gq X results14 HF9 kr BB (by rw [<-uh HX];unfold Ye;rw [uh Hok,uh Hqw];simp only [if_true,Zm]) rfl
end Go.Proofs.YtgdpaigcmoifbaaGreatDoor
