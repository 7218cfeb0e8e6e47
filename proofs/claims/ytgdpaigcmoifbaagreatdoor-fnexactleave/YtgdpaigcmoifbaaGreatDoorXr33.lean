/- Part 33 of what the proof rests on. No condition but those that a theorem names. -/
import Derived.Test.YtgdpaigcmoifbaaGreatDoorXr28
import Derived.Test.YtgdpaigcmoifbaaGreatDoorXr29
set_option maxHeartbeats 8000000
set_option maxRecDepth 100000
namespace Go.Proofs.YtgdpaigcmoifbaaGreatDoor
open Go.ChangeShapes Go.WideShapes Go.ChangeAt Go.RowKit Go.Sort Go.Proofs.Tryz
set_option linter.unusedVariables false
set_option linter.unusedSimpArgs false
set_option maxRecDepth 100000
variable {w w' w0 w1 w2 w3 w₀ wr W W' X A B C : World} {v v0 v1 v2 v3 v4 u u0 u1 u2 u3 u4 : Value} {m : Z3}
theorem N5 {a0 a1 a2 a3 a4:Option Addr} {p0 p1 p2 p3 p4:Nat} {k:Nat} (b:Int) (h:Smy w (.slice a0 m.rm.length p0) (.slice a1 m.gd.length p1) (.slice a2 m.sm.length p2) (.slice a3 m.dk.length p3) (.slice a4 m.pc.length p4) m) (hl:m.sm.length<=1000) (hk:k<m.sm.length):Calls prog 243 #[.agg (S6 a0 p0 a1 p1 a2 p2 a3 p3 a4 p4 m),.int .i64 (k:Int),.int .i64 b] w fun e w'=> ∃ g gc,e= .returned (.agg (S6 a0 p0 a1 p1 (some ⟨g,0,none⟩) gc a3 p3 a4 p4 m))/\Smy w' (.slice a0 m.rm.length p0) (.slice a1 m.gd.length p1) (.slice (some ⟨g,0,none⟩) m.sm.length gc) (.slice a3 m.dk.length p3) (.slice a4 m.pc.length p4) (Xw m (k:Int) b)/\Below w.heap.size w w':=by
 have Hv0:=Z9 h;have hk1:(k:Int)<(m.sm.length:Int):=by omega
 clear h;go_enter func243,ntmps243;go_upto_region 1 with fail;obtain ⟨W,hW,kb,kr,BB⟩:=Vx w 39 (S6 a0 p0 a1 p1 a2 p2 a3 p3 a4 p4 m) 39 E6;have Hv:=Z9 ((uh Hv0).below (uh BB));rw [hW];clear hW;obtain ⟨c0,c1,c2,c3,c4,c5⟩:=(uh kb).c6;go_wp2_with fail;refine ck (XM _ _ _ _ _ _ _ _ _ _ _ _ _ _ _ _ _) fun w1 hb=> ?_;replace kb:=bl kb hb;replace kr:=bl kr hb;replace Hv:=Z9 ((uh Hv).below hb);replace BB:=bt BB hb;clear hb c0 c1 c2 c3 c4 c5;go_wp2_with fail;refine (VR (uh Hv).sm hl).mono ?_;rintro e w2 ⟨v2,rfl,hs,hb⟩;have hlb:=(uh kb).lt;have hlr:=(uh kr).lt;have hlo:=(uh BB).size;replace kb:=bl kb hb;replace kr:=bl kr hb;replace BB:=bt BB hb;clear hb Hv;obtain ⟨ga,gc,rfl⟩:=RecAt.shape hs;obtain ⟨g,rfl,hg1,hg2,hcl,hfr⟩:=RecAt.view ZV (by omega) hs rfl (by omega);have hgb:g ≠ w.heap.size:=by omega
 have hgr:g ≠ w.heap.size+1:=by omega
 have hbg:w.heap.size ≠ g:=by omega
 have hrg:w.heap.size+1 ≠ g:=by omega
 have hwg:w.heap.size<=g:=by omega
 have HS:Hid (SmithsAt (w.heap.size+1) w2 (.slice (some ⟨g,0,none⟩) m.sm.length gc) (m.sm.set k (Z8 m.sm k))):=Z9 (by rw [KL hk];exact RecAt.mono hs (by omega));have s0:=hcl k hk 0 _ rfl;have s1:=hcl k hk 1 _ rfl;have f0:=hfr (k*11);have f1:=hfr (k*11+1);simp only [Nat.add_zero] at s0;clear hcl hfr hs hg1;obtain ⟨c0,c1,c2,c3,c4,c5⟩:=(uh kb).c6;obtain ⟨q0,q1,q2,q3,q4,q5⟩:=(uh kb).f6;obtain ⟨o0,o1,o2,o3,o4,o5⟩:=(uh kr).c6;obtain ⟨t0,t1,t2,t3,t4,t5⟩:=(uh kr).f6;go_wp2_with fail;refine Y7 (v:= .agg (S6 a0 p0 a1 p1 (some ⟨g,0,none⟩) gc a3 p3 a4 p4 m)) (by simp [results,results243,go_sem, *]) rfl ⟨g,gc,rfl,?_,?_⟩
 ·have h1:SmithsAt (w.heap.size+1) (w2.setCell ⟨w.heap.size,2,none⟩ (.slice (some ⟨g,0,none⟩) m.sm.length gc)) (.slice (some ⟨g,0,none⟩) m.sm.length gc) (m.sm.set k (Z8 m.sm k)):=RecAt.same (uh HS) (fun i e=>by cases e;exact heap_setCell_other _ _ _ _ hgb)
  have h2:=h1.put rfl hk (i:=0) (by omega) (.int .i64 2) (2,(Z8 m.sm k).2) rfl;have h3:=h2.put rfl hk (i:=1) (by omega) (.int .i64 b) (2,b,(Z8 m.sm k).2.2) rfl;exact (uh Hv0).other (Below.put6 _ _ _ _ _ _ ((((uh BB).setCell (ZY _) _).setCell (by show w.heap.size<=g;omega) _).setCell (by show w.heap.size<=g;omega) _) (Nat.le_succ _)) (RecAt.off6 (.slice a0 m.rm.length p0) (.slice a1 m.gd.length p1) (.slice (some ⟨g,0,none⟩) m.sm.length gc) (.slice a3 m.dk.length p3) (.slice a4 m.pc.length p4) (.int .i64 m.now) h3 (fun i e=>by cases e;exact hgr))
 ·exact Below.put6 _ _ _ _ _ _ ((((uh BB).setCell (ZY _) _).setCell (by show w.heap.size<=g;omega) _).setCell (by show w.heap.size<=g;omega) _) (Nat.le_succ _)
theorem GZ  {k:Nat} {b q:Int} (hq2:Zt m (k:Int) b=q) (h:Smy w v0 v1 v2 v3 v4 m) (hS:Sane m) (hT:Wants m) (hk:k<m.sm.length) (hs:(Z8 m.sm k).1 ≠ 0):cB 208 #[.agg #[v0,v1,v2,v3,v4,.int .i64 m.now],.int .i64 (k:Int),.int .i64 b] w (.int .i64 q):=by
 replace hq2:Re (Xw m (k:Int) b)=q:=hq2;have HS:=Z9 (hS.with hk hs b);have HT:=Z9 (hT.with hk hs b);have hl:=hS.few;clear hS hT;obtain ⟨a0,p0,a1,p1,a2,p2,a3,p3,a4,p4,rfl,rfl,rfl,rfl,rfl,K⟩:=Bx.new h;clear h;go_enter func208,ntmps208;go_wp2_with fail;generalize w.alloc (.cells (S6 a0 p0 a1 p1 a2 p2 a3 p3 a4 p4 m) 39)=W at *;have HR:Hid (∀ {X:World} {R:Nat} {c0:Option Addr} {g gc r0:Nat} {W:World},Bx X W R a0 p0 a1 p1 (some ⟨g,0,none⟩) gc a3 p3 a4 p4 (Xw m (k:Int) b)->cB 241 #[.slice c0 m.rm.length r0,.func (Fn.func 258) #[] #[.pointer (some ⟨R,0,none⟩)]] W (.int .i64 q)):=Z9 (fun hK=>by rw [<-hq2];exact MB hK (uh HS) (uh HT))
 have HC:Hid (∀ (g gc:Nat) (W:World),Smy W (.slice a0 m.rm.length p0) (.slice a1 m.gd.length p1) (.slice (some ⟨g,0,none⟩) m.sm.length gc) (.slice a3 m.dk.length p3) (.slice a4 m.pc.length p4) (Xw m (k:Int) b)->Calls prog 242 #[.agg (S6 a0 p0 a1 p1 (some ⟨g,0,none⟩) gc a3 p3 a4 p4 m)] W fun e w'=>e= .returned (.func (Fn.func 258) #[] #[.pointer (some ⟨W.heap.size,0,none⟩)])/\Bx W w' W.heap.size a0 p0 a1 p1 (some ⟨g,0,none⟩) gc a3 p3 a4 p4 (Xw m (k:Int) b)):=Z9 (fun g gc W hs=>by
  have hwl:(Xw m (k:Int) b).sm.length=m.sm.length:=by unfold Xw;simp
  have h9:=JD (w:=W) (m:=Xw m (k:Int) b) (a0:=a0) (a1:=a1) (a2:=some ⟨g,0,none⟩) (a3:=a3) (a4:=a4) (p0:=p0) (p1:=p1) (p2:=gc) (p3:=p3) (p4:=p4) (by rw [hwl];exact hs)
  (try unfold S6 at h9)
  rw [hwl] at h9
  exact h9)
 clear HS HT hq2;have KD:=K.drew;obtain ⟨c0,c1,c2,c3,c4,c5⟩:=K.cells;go_wp2_with fail
 go_region_with (first
  | (go_at_call 243;refine (N5 b KD.smy (by omega) hk).mono ?_;rintro e w3 ⟨g,gc,rfl,hsm,hb3⟩;have K3:=KD.next hb3;have z0:=K3.blk.cell (i:=0) (v:= .slice a0 m.rm.length p0) rfl;have HS3:=Z9 hsm;clear hsm hb3)
  | (go_at_call 242;refine (uh HC _ _ _ (uh HS3)).mono ?_;rintro e w4 ⟨rfl,KX⟩;have K4:=K3.next KX.bb;have y0:=K4.blk.cell (i:=0) (v:= .slice a0 m.rm.length p0) rfl)
  | (go_at_call 241;refine (uh HR KX).mono ?_;rintro e w5 ⟨rfl,hb5⟩;have K5:=K4.next hb5;clear hb5))
 all_goals
  go_wp2_with fail;go_ret;exact ⟨rfl,K5.bb⟩
open Go.ChangeShapes Go.WideShapes Go.ChangeAt Go.RowKit Go.Sort Go.Shelf Go.Proofs.Tryz
set_option maxRecDepth 100000
theorem Mc (x u f : Int) (w : World) : (method 430 274 (.agg #[.int .i64 x, .int .i64 u, .int .i64 f]) "loop.example/g00553/impl.place").run prog w = .ok (334, .agg #[.int .i64 x, .int .i64 u, .int .i64 f]) w := by kernel_rfl
theorem SJ (x u f:Int) (w:World):cB 334 #[.agg #[.int .i64 x,.int .i64 u,.int .i64 f]] w (.int .i64 x):=by
 go_enter func334,ntmps334;go_wp2_with fail;go_ret;exact ⟨rfl,(ba _ _)⟩
theorem Dn (x u f : Int) (w : World) : (method 430 274 (.agg #[.int .i64 x, .int .i64 u, .int .i64 f]) "loop.example/g00553/impl.takes").run prog w = .ok (336, .agg #[.int .i64 x, .int .i64 u, .int .i64 f]) w := by kernel_rfl
theorem F7 (n x u f:Int) (w:World):cB 336 #[.agg #[.int .i64 x,.int .i64 u,.int .i64 f],.int .i64 n] w (.bool (Vg n u f)):=by
 go_enter func336,ntmps336;go_wp2_with fail;have BB:Hid (Below w.heap.size w (w.alloc (.cells #[.int .i64 x,.int .i64 u,.int .i64 f] 274))):=Z9 ((ba _ _));refine ck (Oy _ _ _ _) fun w1 hb=> ?_;replace BB:=bt BB hb;clear hb;go_wp2_with fail;go_ret;exact ⟨rfl,uh BB⟩
theorem Mb (x u f : Int) (w : World) : (method 430 274 (.agg #[.int .i64 x, .int .i64 u, .int .i64 f]) "loop.example/g00553/impl.hasTooMuch").run prog w = .ok (333, .agg #[.int .i64 x, .int .i64 u, .int .i64 f]) w := by kernel_rfl
theorem Oq (x u f:Int) (w:World):cB 333 #[.agg #[.int .i64 x,.int .i64 u,.int .i64 f]] w (.bool (WB u f)):=by
 go_enter func333,ntmps333;go_wp2_with fail;have BB:Hid (Below w.heap.size w (w.alloc (.cells #[.int .i64 x,.int .i64 u,.int .i64 f] 274))):=Z9 ((ba _ _));refine ck (PU _ _ _) fun w1 hb=> ?_;replace BB:=bt BB hb;clear hb;go_wp2_with fail;go_ret;exact ⟨rfl,uh BB⟩
theorem Dm (x u f : Int) (w : World) : (method 430 274 (.agg #[.int .i64 x, .int .i64 u, .int .i64 f]) "loop.example/g00553/impl.spare").run prog w = .ok (335, .agg #[.int .i64 x, .int .i64 u, .int .i64 f]) w := by kernel_rfl
theorem Ni (x u f:Int) (w:World):cB 335 #[.agg #[.int .i64 x,.int .i64 u,.int .i64 f]] w (.int .i64 (Yr u f)):=by
 go_enter func335,ntmps335;go_wp2_with fail;have BB:Hid (Below w.heap.size w (w.alloc (.cells #[.int .i64 x,.int .i64 u,.int .i64 f] 274))):=Z9 ((ba _ _));refine ck (PT _ _ _) fun w1 hb=> ?_;replace BB:=bt BB hb;clear hb;go_wp2_with fail;go_ret;exact ⟨rfl,uh BB⟩
theorem Dh (v:Value) (w:World):(Instr.typeAssert (.iface 274 v) 256 235 true).run prog w= .ok (.tuple #[.iface 274 v,.bool true]) w:=by kernel_rfl
theorem OQ {l:List String} (h:l ≠ []):∃ s,Instr.least l=some s:=by
 cases l with
 | nil=>exact absurd rfl h
 | cons s r=>exact ⟨_,rfl⟩
theorem FL (p:String->Bool) (f:String->String) {ms:List String} (h:ms ≠ []):∃ s,(match ms.partition p with | (u,e)=>Instr.least e <|> Instr.least (u.map f))=some s:=by
 rw [List.partition_eq_filter_filter];dsimp only;by_cases he:ms.filter (not ∘ p)=[]
 ·have hu:ms.filter p ≠ []:=by
   intro e;apply h;have h1:=List.filter_eq_nil_iff.1 he;have h2:=List.filter_eq_nil_iff.1 e;refine List.eq_nil_iff_forall_not_mem.2 (fun x hx=> ?_);have k1:=h1 x hx;have k2:=h2 x hx;simp only [Function.comp_apply] at k1;cases hp:p x
   ·rw [hp] at k1;exact k1 rfl
   ·exact k2 hp
  obtain ⟨s,hs⟩:=OQ (l:=(ms.filter p).map f) (by simpa using hu);rw [he,hs];exact ⟨s,rfl⟩
 ·obtain ⟨s,hs⟩:=OQ he
  rw [hs];exact ⟨s,rfl⟩
theorem Mk {want:Array (String × TypeId)} {got:Array Method} (h:(want.toList.filter fun x=> !got.any fun m=>m.name ==x.1 && m.sig ==x.2).isEmpty=false):∃ s,Instr.missingMethod want got=some s:=by
 refine FL _ _ (ms:=(want.toList.filter fun x=> !got.any fun m=>m.name ==x.1 && m.sig ==x.2).map (·.1)) ?_;intro e;rw [List.map_eq_nil_iff] at e;rw [e] at h;cases h
theorem Jo {P:Program} {t xt asserted:TypeId} {v z:Value} {want:Array (String × TypeId)} {i j:TypeInfo} (hu:P.underlying asserted=some (.interface want)) (hi:P.info? t=some i) (hm:(want.toList.filter fun x=> !i.methods.any fun m=>m.name ==x.1 && m.sig ==x.2).isEmpty=false) (hj:P.info? asserted=some j) (hz:j.zero=some z):(Instr.typeAssert (.iface t v) xt asserted true).run P w= .ok (.tuple #[z,.bool false]) w:=by
 obtain ⟨s,hs⟩:=Mk hm;simp [Instr.typeAssert,run_underlying hu,typeInfo,hi,hs,zeroValue,hj,hz]
theorem Fl:((prog.info? 272).bind fun i=>(prog.underlying 235).map fun d=>match d with | .interface want=>(want.toList.filter fun x=> !i.methods.any fun m=>m.name ==x.1 && m.sig ==x.2).isEmpty | _=>true)=some false:=by kernel_rfl
theorem Ff (v:Value) (w:World):(Instr.typeAssert (.iface 272 v) 256 235 true).run prog w= .ok (.tuple #[.nilIface,.bool false]) w:=by
 obtain ⟨j,hj,hz,_,_⟩:=Rv ML;have h:=Fl;cases hi:prog.info? 272 with
 | none=>rw [hi] at h;cases h
 | some i=>
  cases hu:prog.underlying 235 with
  | none=>rw [hi,hu] at h;cases h
  | some d=>
   rw [hi,hu] at h;cases d with
   | interface want=>exact Jo hu hi (by simpa using h) hj hz
   | _=>cases h
def Ly (m:Z3) (b:Int):Value:=if Vo m b then .iface 274 (.agg #[.int .i64 b,.int .i64 (Zu m b (-1)),.int .i64 (YO m.rm b)]) else .iface 272 (.agg #[.int .i64 b])
theorem Js  {b:Int} (h:Smy w v0 v1 v2 v3 v4 m) (hW:Wants m) (hl:m.sm.length<=12):cB 240 #[.agg #[v0,v1,v2,v3,v4,.int .i64 m.now],.int .i64 b] w (Ly m b):=by
 have HW:=Z9 hW;clear hW;obtain ⟨op,hop⟩:=ZI (Vo m b);have Hop:=Z9 hop;unfold Ly;rw [hop];clear hop;obtain ⟨us,hus⟩:=ZI (Zu m b (-1));have Hus:=Z9 hus;rw [hus];clear hus;obtain ⟨a0,p0,a1,p1,a2,p2,a3,p3,a4,p4,rfl,rfl,rfl,rfl,rfl,K⟩:=Bx.new h;clear h;go_enter func240,ntmps240;go_wp2_with fail;generalize w.alloc (.cells (S6 a0 p0 a1 p1 a2 p2 a3 p3 a4 p4 m) 39)=W at *;refine ck (Qf (uh Hop) K.smy) fun w1 hb=> ?_;replace K:=K.next hb;clear hb;cases op
 ·go_wp2_with fail
  go_ret;exact ⟨rfl,K.bb⟩
 clear Hop;have HN:=Z9 (fun (X:World) (hX:Below w1.heap.size w1 X)=>R8 (uh Hus) (K.smy.below hX) (uh HW) hl);have HF:=Z9 (fun (X:World) (hX:Below w1.heap.size w1 X)=>PR b (K.smy.below hX).rm);obtain ⟨c0,c1,c2,c3,c4,c5⟩:=K.cells;have k0:=Z1 c0;have k1:=Z1 c1;have k2:=Z1 c2;have k3:=Z1 c3;have k4:=Z1 c4;have k5:=Z1 c5;go_wp2_with fail;refine wq ?_
 repeat (go_big_quiet_step (first | exact ZX (uh HN _ (Z2 _ _ _)) | exact ZX (uh HF _ (Z2 _ _ _))))
 refine wpQuiet_nil ?_;intro _ hw';obtain ⟨⟨dq,osq⟩,hw''⟩:=hw';subst hw'';go_wp2_with fail;go_ret;exact ⟨rfl,K.bb.trans ((Z2 _ _ _).mono K.bb.size)⟩
attribute [local go_sem] Dh Ff
theorem RH  (h:Smy w v0 v1 v2 v3 v4 m) (hW:Wants m) (hl:m.sm.length<=12) (hd:m.dk.length<=1000):Calls prog 206 #[.agg #[v0,v1,v2,v3,v4,.int .i64 m.now]] w fun e w'=> ∃ v',e= .returned v'/\YX w.heap.size w' v' (Yp m m.dk.length)/\Below w.heap.size w w':=by
 have HW:=Z9 hW;clear hW;have Hs:=Z9 h;obtain ⟨a0,p0,a1,p1,a2,p2,a3,p3,a4,p4,rfl,rfl,rfl,rfl,rfl,K⟩:=Bx.new h;clear h;go_enter func206,ntmps206;go_wp2_with fail
 go_loopw [3,11] (fun l i wr=> ∃ k:Nat,k<=m.dk.length/\i= .int .i64 k/\YX (w.heap.size+1) wr l (Yp m k)/\Bx w wr w.heap.size a0 p0 a1 p1 a2 p2 a3 p3 a4 p4 m) (fun _ i _=>m.dk.length-(intOf i).toNat)
 case atStart=>exact ⟨0,ZR _,rfl,Zh (by simp) (ZY _),K.alloc _⟩
 case round=>
  obtain ⟨k,hk,rfl,hln,hK⟩:=hrel;clear K;have K:=hK;clear hK;obtain ⟨la,lc,rfl⟩:=RecAt.shape hln;have HL:=Z9 hln;have hfl:=Uh m k;clear hln;by_cases hlt:k<m.dk.length
  ·have hlt1:(k:Int)<(m.dk.length:Int):=by omega
   have HY:=Z9 (fun hh=>RX (m:=m) (k:=k) hh);have HN:=Z9 (fun hh=>QT (m:=m) (k:=k) hh);have hop:=Ds hlt;obtain ⟨op,hq⟩:=ZI ((Z8 m.dk k).1);rw [hq] at hop HY HN;obtain ⟨bv,hbv⟩:=ZI (Ly m (k:Int));have HB:=Z9 (fun (X:World) (hX:Smy X (.slice a0 m.rm.length p0) (.slice a1 m.gd.length p1) (.slice a2 m.sm.length p2) (.slice a3 m.dk.length p3) (.slice a4 m.pc.length p4) m)=>Js (b:=(k:Int)) hX (uh HW) hl);rw [hbv] at HB;unfold Ly at hbv;rw [hop] at hbv;unfold TW at HY;generalize Zu m (k:Int) (-1)=us at *;generalize YO m.rm (k:Int)=fo at *;subst hbv;clear hq hop;obtain ⟨c0,c1,c2,c3,c4,c5⟩:=K.cells;go_wp2_with fail;refine ck (uh HB _ K.smy) fun w1 hb=> ?_;replace K:=K.next hb;replace HL:=Z9 (RecAt.later (uh HL) hb);clear hb c0 c1 c2 c3 c4 c5 HB;cases op
   ·rw [if_neg (by simp)]
    go_wp2_with fail;go_roundw
    case rel=>exact ⟨k+1,by omega,by go_num,by rw [uh HN (by trivial)];exact uh HL,K⟩
    case measure=>exact ms
   ·rw [if_pos rfl]
    have hsx:=K.blk.lt;go_wp2_with (at_builtin;refine VP rfl (.tmp 22) (.tmp 24) 209 underlying209 rfl (w.heap.size+1) _ _ (Yp m k) [((k:Int),us,fo)] rfl rfl (RecAt.later (uh HL) ((ba _ _))) (Wa ((k:Int),us,fo) rfl (ZY _) (by omega)) (by simp;omega) (by simp;omega) ?_;intro u9 w9 hp9 hg9 hat9;have HP9:=Z9 hp9;have HG9:=Z9 hg9;clear hp9 hg9 hat9)
    have hgo:∀ i,(Value.slice la (Yp m k).length lc).ownBlock=some i->w.heap.size<=i/\i ≠ w.heap.size:=fun i e=>by have:=(RecAt.lt (uh HL) e).1;omega
    replace K:=(K.alloc _).grown (uh Hs) (uh HG9) hgo;go_wp2_with fail;go_roundw
    case rel=>exact ⟨k+1,by omega,by go_num,by rw [uh HY (by trivial)];exact uh HP9,K⟩
    case measure=>exact ms
  ·obtain rfl:k=m.dk.length:=by omega
   go_wp2_with fail;go_ret;exact ⟨_,rfl,RecAt.mono (uh HL) (Nat.le_succ _),K.bb⟩
theorem Pz {a0 a1 a2 a3 a4:Option Addr} {p0 p1 p2 p3 p4:Nat} {k:Nat} (h:Smy w (.slice a0 m.rm.length p0) (.slice a1 m.gd.length p1) (.slice a2 m.sm.length p2) (.slice a3 m.dk.length p3) (.slice a4 m.pc.length p4) m) (hl:m.sm.length<=1000) (hk:k<m.sm.length):Calls prog 207 #[.agg (S6 a0 p0 a1 p1 a2 p2 a3 p3 a4 p4 m),.int .i64 (k:Int)] w fun e w'=> ∃ g gc,e= .returned (.agg (S6 a0 p0 a1 p1 (some ⟨g,0,none⟩) gc a3 p3 a4 p4 m))/\Smy w' (.slice a0 m.rm.length p0) (.slice a1 m.gd.length p1) (.slice (some ⟨g,0,none⟩) m.sm.length gc) (.slice a3 m.dk.length p3) (.slice a4 m.pc.length p4) (XP m (k:Int))/\Below w.heap.size w w':=by
 have Hv0:=Z9 h;have hk1:(k:Int)<(m.sm.length:Int):=by omega
 clear h;go_enter func207,ntmps207;go_upto_region 1 with fail;obtain ⟨W,hW,kb,kr,BB⟩:=Vx w 39 (S6 a0 p0 a1 p1 a2 p2 a3 p3 a4 p4 m) 39 E6;have Hv:=Z9 ((uh Hv0).below (uh BB));rw [hW];clear hW;obtain ⟨c0,c1,c2,c3,c4,c5⟩:=(uh kb).c6;go_wp2_with fail;refine ck (XM _ _ _ _ _ _ _ _ _ _ _ _ _ _ _ _ _) fun w1 hb=> ?_;replace kb:=bl kb hb;replace kr:=bl kr hb;replace Hv:=Z9 ((uh Hv).below hb);replace BB:=bt BB hb;clear hb c0 c1 c2 c3 c4 c5;go_wp2_with fail;refine (VR (uh Hv).sm hl).mono ?_;rintro e w2 ⟨v2,rfl,hs,hb⟩;have hlb:=(uh kb).lt;have hlr:=(uh kr).lt;have hlo:=(uh BB).size;replace kb:=bl kb hb;replace kr:=bl kr hb;replace BB:=bt BB hb;clear hb Hv;obtain ⟨ga,gc,rfl⟩:=RecAt.shape hs;obtain ⟨g,rfl,hg1,hg2,hcl,hfr⟩:=RecAt.view ZV (by omega) hs rfl (by omega);have hgb:g ≠ w.heap.size:=by omega
 have hgr:g ≠ w.heap.size+1:=by omega
 have hbg:w.heap.size ≠ g:=by omega
 have hrg:w.heap.size+1 ≠ g:=by omega
 have hwg:w.heap.size<=g:=by omega
 have HS:Hid (SmithsAt (w.heap.size+1) w2 (.slice (some ⟨g,0,none⟩) m.sm.length gc) (m.sm.set k (Z8 m.sm k))):=Z9 (by rw [KL hk];exact RecAt.mono hs (by omega));have s0:=hcl k hk 0 _ rfl;have f0:=hfr (k*11);simp only [Nat.add_zero] at s0;clear hcl hfr hs hg1;obtain ⟨c0,c1,c2,c3,c4,c5⟩:=(uh kb).c6;obtain ⟨q0,q1,q2,q3,q4,q5⟩:=(uh kb).f6;obtain ⟨o0,o1,o2,o3,o4,o5⟩:=(uh kr).c6;obtain ⟨t0,t1,t2,t3,t4,t5⟩:=(uh kr).f6;go_wp2_with fail;refine Y7 (v:= .agg (S6 a0 p0 a1 p1 (some ⟨g,0,none⟩) gc a3 p3 a4 p4 m)) (by simp [results,results207,go_sem, *]) rfl ⟨g,gc,rfl,?_,?_⟩
 ·have h1:SmithsAt (w.heap.size+1) (w2.setCell ⟨w.heap.size,2,none⟩ (.slice (some ⟨g,0,none⟩) m.sm.length gc)) (.slice (some ⟨g,0,none⟩) m.sm.length gc) (m.sm.set k (Z8 m.sm k)):=RecAt.same (uh HS) (fun i e=>by cases e;exact heap_setCell_other _ _ _ _ hgb)
  have h2:=h1.put rfl hk (i:=0) (by omega) (.int .i64 1) (1,(Z8 m.sm k).2) rfl;exact (uh Hv0).other (Below.put6 _ _ _ _ _ _ (((uh BB).setCell (ZY _) _).setCell (by show w.heap.size<=g;omega) _) (Nat.le_succ _)) (RecAt.off6 (.slice a0 m.rm.length p0) (.slice a1 m.gd.length p1) (.slice (some ⟨g,0,none⟩) m.sm.length gc) (.slice a3 m.dk.length p3) (.slice a4 m.pc.length p4) (.int .i64 m.now) h2 (fun i e=>by cases e;exact hgr))
 ·exact Below.put6 _ _ _ _ _ _ (((uh BB).setCell (ZY _) _).setCell (by show w.heap.size<=g;omega) _) (Nat.le_succ _)
structure Asks (m:Z3) (k:Nat):Prop where
 sane:Sane m
 wants:Wants m
 hk:k<m.sm.length
 hs:(Z8 m.sm k).1 ≠ 0
 may:0<=(Z8 m.sm k).2.2.2.1/\(Z8 m.sm k).2.2.2.1<=255
theorem Loose.asks (h:Loose m) {k:Nat} (hk:k<m.sm.length) (hs:(Z8 m.sm k).1 ≠ 0):Asks m k:=⟨h.sane,h.wants,hk,hs,CH h hk hs⟩
theorem Asks.mem {k:Nat} (h:Asks m k) {x:YU} (hx:x ∈ Yp (XP m (k:Int)) m.dk.length):VW (Z8 m.sm k).2.2.2.1 x.1=U2 m k x:=by
 obtain ⟨b,hb,_,rfl⟩:=(Ui _ x _).1 hx;obtain ⟨y0,y1⟩:=h.may;have h8:=h.sane.eight;unfold VW U2 TW;rw [Zf y0 y1,Zf (show (0:Int)<=(b:Int) by omega) (show (b:Int)<=7 by omega)];rfl
theorem Asks.few {k:Nat} (h:Asks m k):(WA m (k:Int) m.dk.length).length<=8:=by
 have:=h.sane.eight;have:=MZ m (k:Int) m.dk.length;omega
theorem GY (m:Z3) (who:Int):YL m who=if XA m || decide ((Zc m who).length=0) then (Tu (WA m who m.dk.length)).1 else (VQ m who (Zc m who)).1:=by
 unfold YL;rw [Kg];cases hc:XA m
 ·by_cases hl:(Zc m who).length=0
  ·rw [if_neg (by simp [hl]),if_pos (by simp [hl])]
  ·rw [if_pos (by simp;omega),if_neg (by simp;intro e;rw [e] at hl;simp at hl)]
   rw [GW m who (by omega) (fun x hx=>by obtain ⟨b,_,rfl,_⟩:=D2 hx;omega)]
 ·rfl
attribute [local go_sem] Mc
theorem Lz  {k:Nat} {q:List YU} (hq:(Yp (XP m (k:Int)) m.dk.length).filter (U2 m k)=q) (h:Smy w v0 v1 v2 v3 v4 m) (hS:Sane m) (hT:Wants m) (hk:k<m.sm.length) (hs:(Z8 m.sm k).1 ≠ 0) (hM:∀ x:YU,x ∈ Yp (XP m (k:Int)) m.dk.length->VW (Z8 m.sm k).2.2.2.1 x.1=U2 m k x):Calls prog 179 #[.agg #[v0,v1,v2,v3,v4,.int .i64 m.now],.int .i64 (k:Int)] w fun e w'=> ∃ v',e= .returned v'/\YX w.heap.size w' v' q/\Below w.heap.size w w':=by
 have HF:=Z9 hq;clear hq;have Hs:=Z9 h;obtain ⟨a0,p0,a1,p1,a2,p2,a3,p3,a4,p4,rfl,rfl,rfl,rfl,rfl,K⟩:=Bx.new h;clear h;have hl:=hS.few;have h8:=hS.eight;have HM:=Z9 hM;have HU:=Z9 (fun (g gc:Nat) (X:World) (hX:Smy X (.slice a0 m.rm.length p0) (.slice a1 m.gd.length p1) (.slice (some ⟨g,0,none⟩) m.sm.length gc) (.slice a3 m.dk.length p3) (.slice a4 m.pc.length p4) (XP m (k:Int)))=>RH (m:=XP m (k:Int)) hX (hT.away hk hs) (by rw [Ob];exact hl) (show m.dk.length<=1000 by omega));have hlen:=Uh (XP m (k:Int)) m.dk.length;clear hS hT hM hs;go_enter func179,ntmps179;go_upto_region 2 with fail;have HL:Hid (YX (w.heap.size+1) ((w.alloc (.cells (S6 a0 p0 a1 p1 a2 p2 a3 p3 a4 p4 m) 39)).alloc (.cells #[] 235)) (.slice (some ⟨w.heap.size+1,0,none⟩) 0 0) []):=Z9 (Zh (by simp) (ZY _));replace K:=K.alloc (.cells #[] 235);generalize (w.alloc (.cells (S6 a0 p0 a1 p1 a2 p2 a3 p3 a4 p4 m) 39)).alloc (.cells #[] 235)=W at *;obtain ⟨c0,c1,c2,c3,c4,c5⟩:=K.cells;go_wp2_with fail;refine (Pz K.smy (by omega) hk).mono ?_;rintro e w2 ⟨g,gc,rfl,hsm,hb⟩;replace K:=K.next hb;replace HL:=Z9 (RecAt.later (uh HL) hb);have HA:=Z9 hsm;clear hb c0 c1 c2 c3 c4 c5 hsm;go_wp2_with fail;refine (uh HU g gc _ (uh HA)).mono ?_;rintro e w3 ⟨v3,rfl,hu,hb⟩;have hu2:YX w2.heap.size w3 v3 (Yp (XP m (k:Int)) m.dk.length):=hu;have hlo2:∀ i,v3.ownBlock=some i->w2.heap.size<=i:=fun i e=>(RecAt.lt hu2 e).1;have hsp:∀ i,v3.ownBlock=some i->(Value.slice (some ⟨w.heap.size+1,0,none⟩) 0 0).ownBlock ≠ some i:=fun i e e2=>by have:=hlo2 i e;have:=(RecAt.lt (uh HL) e2).2;omega
 replace K:=K.next hb;replace HL:=Z9 (RecAt.later (uh HL) hb);clear hb HU HA hu hlo2;generalize Yp (XP m (k:Int)) m.dk.length=us at *;obtain ⟨ua,uc,rfl⟩:=RecAt.shape hu2;have HU:=Z9 hu2;have Hsp:=Z9 hsp;clear hu2 hsp;have hus:us.length<=8:=by omega
 go_wp2_with fail
 go_loopw [5,14] (fun l i wr=> ∃ j:Nat,j<=us.length/\i= .int .i64 j/\YX (w.heap.size+1) wr l ((us.take j).filter (U2 m k))/\YX w2.heap.size wr (.slice ua us.length uc) us/\(∀ i,(Value.slice ua us.length uc).ownBlock=some i->l.ownBlock ≠ some i)/\Bx w wr w.heap.size a0 p0 a1 p1 a2 p2 a3 p3 a4 p4 m) (fun _ i _=>us.length-(intOf i).toNat)
 case atStart=>exact ⟨0,ZR _,rfl,uh HL,uh HU,uh Hsp,K⟩
 case round=>
  obtain ⟨j,hj,rfl,hln,hun,hsp,hK⟩:=hrel;clear K HL HU Hsp;have K:=hK;clear hK;obtain ⟨la,lc,rfl⟩:=RecAt.shape hln;have HL:=Z9 hln;have HU:=Z9 hun;have Hsp:=Z9 hsp;have hfl:((us.take j).filter (U2 m k)).length<=8:=by have e1:=List.length_filter_le (U2 m k) (us.take j);have e2:(us.take j).length<=us.length:=(by simp;omega);omega
  clear hln hun hsp;by_cases hlt:j<us.length
  ·have hlt1:(j:Int)<(us.length:Int):=by omega
   have HY:=Z9 (fun hh=>Om (p:=U2 m k) hlt hh);have HN:=Z9 (fun hh=>MJ (p:=U2 m k) hlt hh);obtain ⟨q,hq⟩:=ZI (U2 m k (Z8 us j));have hmm:=uh HM _ (Vv hlt);rw [hq] at HY HN hmm;generalize (us.take j).filter (U2 m k)=ls at *;obtain ⟨g,rfl,hgl,hgw,hcl,_⟩:=RecAt.view Xj (by omega) (uh HU) rfl (by omega);have z0:=TX hcl hlt;clear hcl hq;generalize hx:Z8 us j=x at *;clear hx;obtain ⟨bx,ux,fx⟩:=x;simp only at z0 hmm;obtain ⟨_,_,hse,_,_,r2⟩:=K.smy.sm;cases hse
   rcases r2 with e0 | ⟨sb,off,rfl,hbw,hcs⟩
   ·rw [e0] at hk;simp at hk
   obtain ⟨d0,d1,d2,d3,d4,d5,d6,d7,d8,d9,d10⟩:=ZB hcs hk;clear hcs d0 d1 d2 d4 d5 d6 d7 d8 d9 d10;have hk1:(k:Int)<(m.sm.length:Int):=by omega
   have HI:=Z9 (fun X=>Calls.bool_of (Calls.same_below' (Wf (Z8 m.sm k).2.2.2.1 bx X)) hmm);clear hmm;generalize hmy:(Z8 m.sm k).2.2.2.1=my at *;clear hmy;go_upto_region 5 with fail;have c2:=K.blk.cell (i:=2) (v:= .slice (some ⟨sb,off,none⟩) m.sm.length p2) rfl;have k2:=Z1 c2;have k3:=Z1 d3;refine wq ?_
   repeat (go_big_quiet_step (first | exact ZX (SJ _ _ _ _) | exact ZX (uh HI _)))
   refine wqn fun wq hb=> ?_;replace K:=K.next hb;replace HL:=Z9 (RecAt.later (uh HL) hb);replace HU:=Z9 (RecAt.later (uh HU) hb);clear hb c2 k2 k3 d3 z0;cases q
   ·go_wp2_with fail
    go_roundw
    case rel=>exact ⟨j+1,by omega,by go_num,by rw [uh HN (by trivial)];exact uh HL,uh HU,uh Hsp,K⟩
    case measure=>exact ms
   ·have hsx:=K.blk.lt
    go_wp2_with (at_builtin;refine VP rfl (.tmp 27) (.tmp 29) 209 underlying209 rfl (w.heap.size+1) _ _ ls [(bx,ux,fx)] rfl rfl (RecAt.later (uh HL) ((ba _ _))) (Wa (bx,ux,fx) rfl (ZY _) (by omega)) (by simp;omega) (by simp;omega) ?_;intro u9 w9 hp9 hg9 hat9;have HP9:=Z9 hp9;have HG9:=Z9 hg9;have HA9:=Z9 hat9;clear hp9 hg9 hat9)
    have hgo:∀ i,(Value.slice la ls.length lc).ownBlock=some i->w.heap.size<=i/\i ≠ w.heap.size:=fun i e=>by have:=(RecAt.lt (uh HL) e).1;omega
    replace K:=(K.alloc _).grown (uh Hs) (uh HG9) hgo;have hul:=fun i e=>(RecAt.lt (uh HU) (i:=i) e).2
    have hsp9:∀ i,(Value.slice (some ⟨g,0,none⟩) us.length uc).ownBlock=some i->u9.ownBlock ≠ some i:=by
     intro i e e2
     rcases uh HA9 with h9 | h9
     ·rw [h9] at e2;exact uh Hsp i e e2
     ·rw [h9] at e2
      have:=hul i e;simp at e2;omega
    replace HU:=Z9 (RecAt.grown (RecAt.later (uh HU) ((ba _ _))) (uh HG9) (uh Hsp));go_wp2_with fail;go_roundw
    case rel=>exact ⟨j+1,by omega,by go_num,by rw [uh HY (by trivial)];exact uh HP9,uh HU,hsp9,K⟩
    case measure=>exact ms
  ·obtain rfl:j=us.length:=by omega
   have e9:(us.take us.length).filter (U2 m k)=q:=by rw [List.take_length];exact uh HF
   have E9:=Z9 e9;clear e9;go_wp2_with fail;go_ret;exact ⟨_,rfl,by rw [<-uh E9];exact RecAt.mono (uh HL) (Nat.le_succ _),K.bb⟩
theorem SU  {k:Nat} (h:Smy w v0 v1 v2 v3 v4 m) (A:Asks m k):Calls prog 179 #[.agg #[v0,v1,v2,v3,v4,.int .i64 m.now],.int .i64 (k:Int)] w fun e w'=> ∃ v',e= .returned v'/\YX w.heap.size w' v' (WA m (k:Int) m.dk.length)/\Below w.heap.size w w':=Lz (Kk m A.hk _) h A.sane A.wants A.hk A.hs (fun x hx=>A.mem hx)
end Go.Proofs.YtgdpaigcmoifbaaGreatDoor
