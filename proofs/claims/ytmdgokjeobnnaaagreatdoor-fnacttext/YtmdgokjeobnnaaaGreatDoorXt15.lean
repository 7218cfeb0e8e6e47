/- Part 15 of what the proof rests on. No condition but those that a theorem names. -/
import Derived.Test.YtmdgokjeobnnaaaGreatDoorShelf
import Derived.Test.YtmdgokjeobnnaaaGreatDoorXt09
import Derived.Test.YtmdgokjeobnnaaaGreatDoorXt11
import Derived.Lib.AtoiErrMem
import Derived.HandedShaped
import Derived.BigRegion
import Derived.Laws.IdiomStrings
import Derived.Deep.RegionLawGrows
import Derived.Test.YtmdgokjeobnnaaaGreatDoorRows
import Derived.LaidMore
import Derived.Stop.Joined
import Derived.Stop.LaidErr
import Derived.Lib.LaidTab
import Derived.MakeChecks
import Derived.Shelf.Vars
import Derived.Lay
import Derived.Deep.DeepCutAuto
set_option maxHeartbeats 8000000
set_option maxRecDepth 100000
namespace Go.Proofs.YtmdgokjeobnnaaaGreatDoor
open Go.ChangeShapes Go.WideShapes Go.ChangeAt Go.RowKit Go.Sort
open Draw (St Off Row Cur)
set_option linter.unusedVariables false
theorem FullSmy.away {n₀ bc:Nat} {w w':World} {v0 v1 v2 v3 v4:Value} {m:Z7} {qs:List (Z5 × Value)} (h:FullSmy n₀ w v0 v1 v2 v3 v4 m qs) (ho:Off bc w w') (hb:bc<n₀):FullSmy n₀ w' v0 v1 v2 v3 v4 m qs:=
 h.keep fun k e=>ho.block k (h.own e).2 (by have:=(h.own e).1;omega)
theorem Blk.away {bc R:Nat} {w w':World} {t:TypeId} {cs:Array Value} (h:Blk w R t cs) (ho:Off bc w w') (hb:R ≠ bc):Blk w' R t cs:=h.same (ho.block R h.lt hb)
theorem TK {bc:Nat} {w w':World} (h:Below w.heap.size w w'):Off bc w w':=⟨h.os,h.tape,h.output,h.size,fun k hk _=>h.block k hk⟩
theorem Off.newer {bc tb:Nat} {w0 w:World} (h:Off bc w0 w) (ht:w0.heap.size<=tb) (o:Nat) (v:Value):Off bc w0 (w.setCell ⟨tb,o,none⟩ v):=
 ⟨h.os,h.tape,h.output,by simpa using h.size,fun k hk hn=>(heap_setCell_other _ _ _ _ (by show k ≠ tb;omega)).trans (h.block k hk hn)⟩
theorem St.newer {a:Option Addr} {len cap bc tb:Nat} {w:World} (h:St a len cap bc w) (ht:bc<tb) (o:Nat) (v:Value):St a len cap bc (w.setCell ⟨tb,o,none⟩ v):=
 YY h ((Z2 _ _).setCell (p:=⟨tb,o,none⟩) (by show bc+1<=tb;omega) _)
open Go.ChangeShapes Go.WideShapes Go.ChangeAt Go.RowKit Go.Sort Go.Proofs.Tryz
def Iz (l:Txt):Bool:=decide (l.length<=1048576) && (YR l).isSome
def IC:Value->Bool
 | .string s=>Iz s.data.toList
 | _=>false
theorem Kh (cs:Array Value) (j:Nat) (hj:j<cs.size) (h:cs.toList.all IC=true):∃ l,cs[j]?=some (.string (bs l))/\Iz l=true:=by
 rw [Array.all_toList,Array.all_eq_true] at h;have:=h j hj;rw [Array.getElem?_eq_getElem hj];generalize cs[j]=c at *;unfold IC at this
 split at this
 ·rename_i s;exact ⟨s.data.toList,by rw [Rn],this⟩
 ·cases this
theorem Ny (w:World):Calls prog 77 #[] w fun e w'=>e= .returned (.slice (some ⟨w.heap.size,0,none⟩) 6 6)/\(∀ j,j<6-> ∃ l,w'.cell? ⟨w.heap.size,j,none⟩=some (.string (bs l))/\Iz l=true)/\Below w.heap.size w w'/\w.heap.size<w'.heap.size:=by
 go_enter func77,ntmps77;go_wp2_with fail;go_ret;refine ⟨rfl,fun j hj=> ?_,(ba _ _),by simp⟩;rw [World.cell?_alloc_new];exact Kh _ j hj (by decide +kernel)
theorem KZ {l:Txt} (h:Iz l=true):l.length<=1048576/\(YR l).isSome=true:=by
 unfold Iz at h;simpa using h
theorem LQ (a:Option Addr) (len cap bc:Nat) (w:World) (hs:St a len cap bc w) :
  Calls prog 55 #[.pointer (some ⟨bc,0,none⟩)] w fun e w'=> ∃ v qs,e= .returned (.agg #[v])/\YB (qs.map (·.1))=true/\OwnHall w.heap.size w' v qs/\St a len cap bc w'/\Off bc w w':=by
 have Hs:=Z9 hs;have hbc:=Xs hs;clear hs;go_enter func55,ntmps55;go_wp2_with fail;refine (Ny _).mono ?_;rintro e w1 ⟨rfl,htx,hb1,hz1⟩;have hz1':w.heap.size+2<=w1.heap.size:=by simp at hz1;omega
 have B1:Hid (Below w.heap.size w w1):=Z9 (((ba _ _)).trans (hb1.mono (by simp)));have x0:w1.cell? ⟨w.heap.size,0,none⟩=some (.slice none 0 0):=(hb1.cell (p:=⟨w.heap.size,0,none⟩) (by simp)).trans (by simp);have x1:w1.frozen? ⟨w.heap.size,0,none⟩=false:=(hb1.frozen (p:=⟨w.heap.size,0,none⟩) (by simp)).trans (by rw [frozen?_alloc_cells];exact UI (Z3 _));have Htx:=Z9 htx;clear htx hb1;go_wp2_with fail;refine (Draw.below_any a len cap bc 6 (by omega) (by omega) _ (YY (uh Hs) ((uh B1).mono (by omega)))).mono ?_;rintro e w2 ⟨x,rfl,hx0,hx1,hs2,ho2⟩;obtain ⟨j,rfl⟩:=Int.eq_ofNat_of_zero_le hx0;obtain ⟨l,hcl,hgd⟩:=uh Htx j (by omega);simp only [XX] at hcl;have hcl2:=(ho2.cell (p:=⟨w.heap.size+1,j,none⟩) (by show w.heap.size+1<_;omega) (by show w.heap.size+1 ≠ _;omega)).trans hcl;have y0:=(ho2.cell (p:=⟨w.heap.size,0,none⟩) (by show w.heap.size<_;omega) (by show w.heap.size ≠ _;omega)).trans x0;have y1:w2.frozen? ⟨w.heap.size,0,none⟩=false:=(World.frozen?_of_block (w:=w1) (w':=w2) (ho2.block w.heap.size (by omega) (by omega))).trans x1;have Hs2:=Z9 hs2;have Ho2:=Z9 ho2;have hz2:=ho2.size;have hll:=(KZ hgd).1;have Hgd:=Z9 (KZ hgd).2;clear hcl hs2 ho2 x0 x1 hgd;go_wp2_with fail;refine (SC l _ hll).mono ?_;rintro e w3 ⟨hgot,hb3⟩
 rcases hgot with ⟨v,qs,rfl,hrd,hown⟩ | ⟨rfl,hrd⟩
 ·obtain ⟨va,vcap,rfl⟩:=hown.shape
  have hz3:=hb3.size;have z0:=(hb3.cell (p:=⟨w.heap.size,0,none⟩) (by show w.heap.size<_;omega)).trans y0;have z1:=(hb3.frozen (p:=⟨w.heap.size,0,none⟩) (by show w.heap.size<_;omega)).trans y1;have Hown:=Z9 hown;have Hb3:=Z9 hb3;have Hrd:=Z9 (PS hrd).1;have hlt3:w.heap.size<w3.heap.size:=by omega
  clear hown hb3 hrd y0 y1;go_wp2_with fail;have HB:Below w.heap.size w2 ((w3.setCell ⟨w.heap.size,0,none⟩ (.slice va qs.length vcap)).alloc (.cells #[.slice va qs.length vcap] 34)):=(((uh Hb3).mono (by omega)).setCell (Z3 w.heap.size) _).alloc (by simp;omega) _;refine Zz (v:= .agg #[.slice va qs.length vcap]) (by simp [results,results55,go_sem, *]) rfl ⟨_,qs,rfl,uh Hrd,?_,YY (uh Hs2) (HB.mono (by omega)),X7 ((X7 (Off.refl bc w) (uh B1)).trans (uh Ho2)) HB⟩;exact ((((uh Hown).but ((But.refl w.heap.size w3).setCell 0 _) (.inl (by omega))).later ((ba _ _))).mono (by omega))
 ·exfalso;rw [hrd] at Hgd;exact absurd (uh Hgd) (by simp)
set_option linter.unusedSimpArgs false
set_option maxRecDepth 100000
def PartsAt (w:World) (v:Value) (t:List Nat):Prop:= ∃ a cap,v= .slice a t.length cap/\ ∀ i,i<t.length-> ∃ b,a=some ⟨b,0,none⟩/\b<w.heap.size/\w.cell? ⟨b,i,none⟩=some (.int .i64 ((t.getD i 0:Nat):Int))
theorem PartsAt.below {w w':World} {v:Value} {t:List Nat} (h:PartsAt w v t) (hb:Below w.heap.size w w'):PartsAt w' v t:=by
 obtain ⟨a,cap,rfl,h⟩:=h;refine ⟨a,cap,rfl,fun i hi=> ?_⟩;obtain ⟨b,e,hl,hc⟩:=h i hi;exact ⟨b,e,YH hl hb.size,(hb.cell (p:=⟨b,i,none⟩) hl).trans hc⟩
structure FormsAt (w:World) (g:Nat):Prop where
 lt:g<w.heap.size
 kind:∀ j,j<14->w.cell? ⟨g,j*3,none⟩=some (.int .i64 ((j:Int)+1))
 word:∀ j,j<14->w.cell? ⟨g,j*3+1,none⟩=some (.string (bs (Zt.getD j [])))
 part:∀ j,j<14-> ∃ v,w.cell? ⟨g,j*3+2,none⟩=some v/\PartsAt w v (Y0.getD j [])
theorem FormsAt.below {w w':World} {g:Nat} (h:FormsAt w g) (hb:Below w.heap.size w w'):FormsAt w' g:=
 ⟨YH h.lt hb.size,fun j hj=>(hb.cell (p:=⟨g,j*3,none⟩) h.lt).trans (h.kind j hj),fun j hj=>(hb.cell (p:=⟨g,j*3+1,none⟩) h.lt).trans (h.word j hj),fun j hj=>by
  obtain ⟨v,h1,h2⟩:=h.part j hj
  exact ⟨v,(hb.cell (p:=⟨g,j*3+2,none⟩) h.lt).trans h1,h2.below hb⟩⟩
theorem TS {w:World} {a:Option Addr} {cap:Nat} : PartsAt w (.slice a 0 cap) []:=⟨a,cap,rfl,fun i hi=>by simp at hi⟩
theorem Xm {w:World} {b cap x:Nat} (hl:b<w.heap.size) (h0:w.cell? ⟨b,0,none⟩=some (.int .i64 (x:Int))):PartsAt w (.slice (some ⟨b,0,none⟩) 1 cap) [x]:=by
 refine ⟨_,cap,rfl,fun i hi=>⟨b,rfl,hl,?_⟩⟩;have:i=0:=by simp at hi;omega
 subst this;exact h0
theorem Ws {w:World} {b cap x y:Nat} (hl:b<w.heap.size) (h0:w.cell? ⟨b,0,none⟩=some (.int .i64 (x:Int))) (h1:w.cell? ⟨b,1,none⟩=some (.int .i64 (y:Int))):PartsAt w (.slice (some ⟨b,0,none⟩) 2 cap) [x,y]:=by
 refine ⟨_,cap,rfl,fun i hi=>⟨b,rfl,hl,?_⟩⟩;simp only [Zn,Y2] at hi
 rcases (show i=0\/i=1 by omega) with rfl | rfl
 ·exact h0
 ·exact h1
theorem Li {w:World} {b cap x y z:Nat} (hl:b<w.heap.size) (h0:w.cell? ⟨b,0,none⟩=some (.int .i64 (x:Int))) (h1:w.cell? ⟨b,1,none⟩=some (.int .i64 (y:Int))) (h2:w.cell? ⟨b,2,none⟩=some (.int .i64 (z:Int))):PartsAt w (.slice (some ⟨b,0,none⟩) 3 cap) [x,y,z]:=by
 refine ⟨_,cap,rfl,fun i hi=>⟨b,rfl,hl,?_⟩⟩;simp only [Zn,Y2] at hi
 rcases (show i=0\/i=1\/i=2 by omega) with rfl | rfl | rfl
 ·exact h0
 ·exact h1
 ·exact h2
theorem OC {P:Nat->Prop} (h0:P 0) (h1:P 1) (h2:P 2) (h3:P 3) (h4:P 4) (h5:P 5) (h6:P 6) (h7:P 7) (h8:P 8) (h9:P 9) (h10:P 10) (h11:P 11) (h12:P 12) (h13:P 13):∀ j,j<14->P j:=by
 intro j hj
 rcases (show j=0\/j=1\/j=2\/j=3\/j=4\/j=5\/j=6\/j=7\/j=8\/j=9\/j=10\/j=11\/j=12\/j=13 by omega) with rfl | rfl | rfl | rfl | rfl | rfl | rfl | rfl | rfl | rfl | rfl | rfl | rfl | rfl<;>assumption
theorem ZF (w:World) (t:TypeId) (cs:Array Value):∃ W,w.alloc (.cells cs t)=W/\Blk W w.heap.size t cs/\W.heap.size=w.heap.size+1/\ ∀ {R:Nat} {t2:TypeId} {c2:Array Value},Blk w R t2 c2->Blk W R t2 c2:=⟨_,rfl,Blk.new _ _ _,by simp,fun h=>h.alloc _⟩
theorem Pf (w:World):Calls prog 13 #[] w fun e w'=> ∃ g,e= .returned (.slice (some ⟨g,0,none⟩) 14 14)/\FormsAt w' g/\Below w.heap.size w w':=by
 go_enter func13,ntmps13;go_wp2_with fail;go_ret;have B0:Below w.heap.size w w:=Z2 _ _;have s0:w.heap.size=w.heap.size:=rfl;obtain ⟨W1,e1,b1,s1,f1⟩:=ZF w 69 #[.int .i64 1,.int .i64 2];rw [e1];have B1:Below w.heap.size w W1:=by rw [<-e1];exact B0.alloc B0.size _
 clear e1 B0;obtain ⟨W2,e2,b2,s2,f2⟩:=ZF W1 69 #[.int .i64 0];rw [e2];have B2:Below w.heap.size w W2:=by rw [<-e2];exact B1.alloc B1.size _
 clear e2 B1;obtain ⟨W3,e3,b3,s3,f3⟩:=ZF W2 69 #[.int .i64 0];rw [e3];have B3:Below w.heap.size w W3:=by rw [<-e3];exact B2.alloc B2.size _
 clear e3 B2;obtain ⟨W4,e4,b4,s4,f4⟩:=ZF W3 69 #[.int .i64 0];rw [e4];have B4:Below w.heap.size w W4:=by rw [<-e4];exact B3.alloc B3.size _
 clear e4 B3;obtain ⟨W5,e5,b5,s5,f5⟩:=ZF W4 69 #[.int .i64 0,.int .i64 1];rw [e5];have B5:Below w.heap.size w W5:=by rw [<-e5];exact B4.alloc B4.size _
 clear e5 B4;obtain ⟨W6,e6,b6,s6,f6⟩:=ZF W5 69 #[.int .i64 0,.int .i64 1];rw [e6];have B6:Below w.heap.size w W6:=by rw [<-e6];exact B5.alloc B5.size _
 clear e6 B5;obtain ⟨W7,e7,b7,s7,f7⟩:=ZF W6 69 #[.int .i64 0,.int .i64 1,.int .i64 2];rw [e7];have B7:Below w.heap.size w W7:=by rw [<-e7];exact B6.alloc B6.size _
 clear e7 B6;obtain ⟨W8,e8,b8,s8,f8⟩:=ZF W7 69 #[.int .i64 1];rw [e8];have B8:Below w.heap.size w W8:=by rw [<-e8];exact B7.alloc B7.size _
 clear e8 B7;obtain ⟨W9,e9,b9,s9,f9⟩:=ZF W8 69 #[.int .i64 1];rw [e9];have B9:Below w.heap.size w W9:=by rw [<-e9];exact B8.alloc B8.size _
 clear e9 B8;obtain ⟨W10,e10,b10,s10,f10⟩:=ZF W9 69 #[.int .i64 1];rw [e10];have B10:Below w.heap.size w W10:=by rw [<-e10];exact B9.alloc B9.size _
 clear e10 B9;obtain ⟨W11,e11,b11,s11,f11⟩:=ZF W10 69 #[.int .i64 1,.int .i64 2];rw [e11];have B11:Below w.heap.size w W11:=by rw [<-e11];exact B10.alloc B10.size _
 clear e11 B10;obtain ⟨W12,e12,b12,s12,f12⟩:=ZF W11 69 #[.int .i64 0,.int .i64 1];rw [e12];have B12:Below w.heap.size w W12:=by rw [<-e12];exact B11.alloc B11.size _
 clear e12 B11;obtain ⟨W,e,b,s,f⟩:=ZF W12 47 #[.int .i64 1,.string ⟨#[99,111,109,101]⟩,.slice (some ⟨w.heap.size,0,none⟩) 2 2,.int .i64 2,.string ⟨#[114,101,115,116]⟩,.slice (some ⟨w.heap.size+1,0,none⟩) 1 1,.int .i64 3,.string ⟨#[119,97,107,101]⟩,.slice (some ⟨w.heap.size+1+1,0,none⟩) 1 1,.int .i64 4,.string ⟨#[108,101,97,118,101]⟩,.slice (some ⟨w.heap.size+1+1+1,0,none⟩) 1 1,.int .i64 5,.string ⟨#[114,97,110,107]⟩,.slice (some ⟨w.heap.size+1+1+1+1,0,none⟩) 2 2,.int .i64 6,.string ⟨#[97,108,108,111,119]⟩,.slice (some ⟨w.heap.size+1+1+1+1+1,0,none⟩) 2 2,.int .i64 7,.string ⟨#[108,105,109,105,116]⟩,.slice (some ⟨w.heap.size+1+1+1+1+1+1,0,none⟩) 3 3,.int .i64 8,.string ⟨#[99,108,111,115,101]⟩,.slice (some ⟨w.heap.size+1+1+1+1+1+1+1,0,none⟩) 1 1,.int .i64 9,.string ⟨#[111,112,101,110]⟩,.slice (some ⟨w.heap.size+1+1+1+1+1+1+1+1,0,none⟩) 1 1,.int .i64 10,.string ⟨#[116,105,99,107]⟩,.slice (some ⟨w.heap.size+1+1+1+1+1+1+1+1+1,0,none⟩) 1 1,.int .i64 11,.string ⟨#[103,114,97,110,116]⟩,.slice (some ⟨w.heap.size+1+1+1+1+1+1+1+1+1+1,0,none⟩) 2 2,.int .i64 12,.string ⟨#[97,115,107]⟩,.slice none 0 0,.int .i64 13,.string ⟨#[108,101,118,101,108]⟩,.slice none 0 0,.int .i64 14,.string ⟨#[106,111,105,110]⟩,.slice (some ⟨w.heap.size+1+1+1+1+1+1+1+1+1+1+1,0,none⟩) 2 2];rw [e];have B:Below w.heap.size w W:=by rw [<-e];exact B12.alloc B12.size _
 clear e;have k1:=f (f12 (f11 (f10 (f9 (f8 (f7 (f6 (f5 (f4 (f3 (f2 (b1))))))))))));have k2:=f (f12 (f11 (f10 (f9 (f8 (f7 (f6 (f5 (f4 (f3 (b2)))))))))));have k3:=f (f12 (f11 (f10 (f9 (f8 (f7 (f6 (f5 (f4 (b3))))))))));have k4:=f (f12 (f11 (f10 (f9 (f8 (f7 (f6 (f5 (b4)))))))));have k5:=f (f12 (f11 (f10 (f9 (f8 (f7 (f6 (b5))))))));have k6:=f (f12 (f11 (f10 (f9 (f8 (f7 (b6)))))));have k7:=f (f12 (f11 (f10 (f9 (f8 (b7))))));have k8:=f (f12 (f11 (f10 (f9 (b8)))));have k9:=f (f12 (f11 (f10 (b9))));have k10:=f (f12 (f11 (b10)));have k11:=f (f12 (b11));have k12:=f (b12);rw [s12,s11,s10,s9,s8,s7,s6,s5,s4,s3,s2,s1] at b;rw [s1] at k2;rw [s2,s1] at k3;rw [s3,s2,s1] at k4;rw [s4,s3,s2,s1] at k5;rw [s5,s4,s3,s2,s1] at k6;rw [s6,s5,s4,s3,s2,s1] at k7;rw [s7,s6,s5,s4,s3,s2,s1] at k8;rw [s8,s7,s6,s5,s4,s3,s2,s1] at k9;rw [s9,s8,s7,s6,s5,s4,s3,s2,s1] at k10;rw [s10,s9,s8,s7,s6,s5,s4,s3,s2,s1] at k11;rw [s11,s10,s9,s8,s7,s6,s5,s4,s3,s2,s1] at k12;exact ⟨_,rfl,⟨b.lt,OC (b.cell (i:=0) rfl) (b.cell (i:=3) rfl) (b.cell (i:=6) rfl) (b.cell (i:=9) rfl) (b.cell (i:=12) rfl) (b.cell (i:=15) rfl) (b.cell (i:=18) rfl) (b.cell (i:=21) rfl) (b.cell (i:=24) rfl) (b.cell (i:=27) rfl) (b.cell (i:=30) rfl) (b.cell (i:=33) rfl) (b.cell (i:=36) rfl) (b.cell (i:=39) rfl),OC (b.cell (i:=1) rfl) (b.cell (i:=4) rfl) (b.cell (i:=7) rfl) (b.cell (i:=10) rfl) (b.cell (i:=13) rfl) (b.cell (i:=16) rfl) (b.cell (i:=19) rfl) (b.cell (i:=22) rfl) (b.cell (i:=25) rfl) (b.cell (i:=28) rfl) (b.cell (i:=31) rfl) (b.cell (i:=34) rfl) (b.cell (i:=37) rfl) (b.cell (i:=40) rfl),OC (⟨_,b.cell (i:=2) rfl,Ws k1.lt (k1.cell (i:=0) rfl) (k1.cell (i:=1) rfl)⟩) (⟨_,b.cell (i:=5) rfl,Xm k2.lt (k2.cell (i:=0) rfl)⟩) (⟨_,b.cell (i:=8) rfl,Xm k3.lt (k3.cell (i:=0) rfl)⟩) (⟨_,b.cell (i:=11) rfl,Xm k4.lt (k4.cell (i:=0) rfl)⟩) (⟨_,b.cell (i:=14) rfl,Ws k5.lt (k5.cell (i:=0) rfl) (k5.cell (i:=1) rfl)⟩) (⟨_,b.cell (i:=17) rfl,Ws k6.lt (k6.cell (i:=0) rfl) (k6.cell (i:=1) rfl)⟩) (⟨_,b.cell (i:=20) rfl,Li k7.lt (k7.cell (i:=0) rfl) (k7.cell (i:=1) rfl) (k7.cell (i:=2) rfl)⟩) (⟨_,b.cell (i:=23) rfl,Xm k8.lt (k8.cell (i:=0) rfl)⟩) (⟨_,b.cell (i:=26) rfl,Xm k9.lt (k9.cell (i:=0) rfl)⟩) (⟨_,b.cell (i:=29) rfl,Xm k10.lt (k10.cell (i:=0) rfl)⟩) (⟨_,b.cell (i:=32) rfl,Ws k11.lt (k11.cell (i:=0) rfl) (k11.cell (i:=1) rfl)⟩) (⟨_,b.cell (i:=35) rfl,TS⟩) (⟨_,b.cell (i:=38) rfl,TS⟩) (⟨_,b.cell (i:=41) rfl,Ws k12.lt (k12.cell (i:=0) rfl) (k12.cell (i:=1) rfl)⟩)⟩,B⟩
theorem OV (a:Yp) (i:Nat) (hi:i<=2) (w:World):cB 33 #[.agg #[.int .i64 a.1,.int .i64 a.2.1,.int .i64 a.2.2.1,.int .i64 a.2.2.2],.int .i64 (i:Int)] w (.int .i64 (Xw a i)):=by
 obtain ⟨a0,a1,a2,a3⟩:=a
 rcases (show i=0\/i=1\/i=2 by omega) with rfl | rfl | rfl
 all_goals
  go_enter func33,ntmps33;go_wp2_with fail;go_ret;exact ⟨rfl,(ba _ _)⟩
theorem Rj (a:Yp) (i:Nat) (hi:i<=2) (n:Int) (w:World):cB 38 #[.agg #[.int .i64 a.1,.int .i64 a.2.1,.int .i64 a.2.2.1,.int .i64 a.2.2.2],.int .i64 (i:Int),.int .i64 n] w (.agg #[.int .i64 (VG a i n).1,.int .i64 (VG a i n).2.1,.int .i64 (VG a i n).2.2.1,.int .i64 (VG a i n).2.2.2]):=by
 obtain ⟨a0,a1,a2,a3⟩:=a;have hb:∀ o1 o2,Below w.heap.size w ((w.alloc o1).alloc o2):=fun o1 o2=>((ba _ _)).alloc (by simp) _
 rcases (show i=0\/i=1\/i=2 by omega) with rfl | rfl | rfl
 all_goals
  go_enter func38,ntmps38;go_wp2_with fail;refine Zz (v:= .agg #[_,_,_,_]) (by simp [results,results38,go_sem, *];exact ⟨rfl,rfl,rfl,rfl⟩) rfl ⟨rfl,hb _ _⟩
open Go.Lib (decDigits itoa join joinTail IsBuilder BuilderAt byteCells strCells)
attribute [local go_sem ↓] Go.wp_at_zero Go.wp_at_succ
theorem Nt (n:Int) (h0 : -9223372036854775808<=n) (h1:n<=9223372036854775807):(itoa n).length<=21:=Go.Lib.itoa_length_le n h0 h1
theorem Jf (a b:ByteArray):(a++b).size=a.size+b.size:=by simp
end Go.Proofs.YtmdgokjeobnnaaaGreatDoor
namespace Go.Proofs.YtmdgokjeobnnaaaGreatDoor
open Go.ChangeShapes Go.WideShapes Go.ChangeAt Go.RowKit Go.Sort
open Go.Lib (decDigits itoa join joinTail)
set_option linter.unusedVariables false
theorem Ij {w wr w1:World} {v v':Value} {P:List Txt} {z:Txt} {o:Obj} (hown:StrsAt w.heap.size wr v P) (hb:Below w.heap.size w wr)
  (hown':w1.ownsRow w.heap.size 9 1 v' (P.length+1) ((P.map fun z=>Value.string (bs z))++[.string (bs z)])) (hg:(wr.alloc o).grownBy w1 v.ownBlock) :
  StrsAt w.heap.size w1 v' (P++[z])/\Below w.heap.size w w1:=by
 refine ⟨?_,?_⟩
 ·unfold StrsAt;simpa using hown'
 ·exact (hb.alloc hb.size o).grown hg (by have:=hb.size;simp;omega) (fun j ej=>(hown.lt ej).1)
theorem KV (zs:List Txt):(zs.map bs).map (fun x=>x.data.toList)=zs:=by
 rw [List.map_map]
 conv=>rhs;rw [<-List.map_id zs]
 exact List.map_congr_left (fun z _=>Y3 z)
theorem ID {n₀:Nat} {w:World} {v:Value} {zs:List Txt} (sep:Txt) (h:StrsAt n₀ w v zs) (h1:1<=zs.length) (h2:zs.length<=1000) (hl:(join zs sep).length<=1000000) :
  cB 34 #[v,.string (bs sep)] w (.string (bs (join zs sep))):=by
 obtain ⟨a,cap,rfl,hc,hcm,hrow⟩:=h.view
 rcases hrow with h0 | ⟨g,rfl,_,hg,hcl⟩
 ·rw [h0] at h1;simp at h1
 have hj:=Tryz.strings_Join g 0 cap (zs.map bs) (bs sep) w (fun j x hx=>by
  have hj:j<zs.length:=by have:=(List.getElem?_eq_some_iff.1 hx).1;simpa using this
  rw [Nat.zero_add,hcl j hj];simp [List.getElem?_eq_getElem hj] at hx
  rw [<-hx];simp [List.getD,hj]) hg (by simp;omega) (by simpa using hc) (by rw [KV,Y3];omega)
 rw [KV,Y3,List.length_map] at hj;exact hj
open Go.ChangeShapes Go.WideShapes Go.ChangeAt Go.RowKit Go.Sort Go.Proofs.Tryz
set_option linter.unusedSimpArgs false
set_option maxRecDepth 100000
def S5 (a:Yp):Prop:= ∀ i,i<=2-> -9223372036854775808<=Xw a i/\Xw a i<=9223372036854775807
theorem TV {w:Txt} {t:List Nat} {a:Yp} (ha:S5 a) (ht:∀ i ∈ t,i<=2) (hw:w.length<=21):∀ z ∈ Zw w t a,z.length<=21:=by
 intro z hz;unfold Zw at hz
 rcases List.mem_cons.1 hz with rfl | hz
 ·exact hw
 ·obtain ⟨i,hi,rfl⟩:=List.mem_map.1 hz
  have:=ha i (ht i hi);exact Nt _ this.1 this.2
theorem Kt {w:World} {v:Value} {t:List Nat} (k:Int) (wd:Txt) (a:Yp) (h:PartsAt w v t) (ht:∀ i ∈ t,i<=2) (hn:t.length<=3) (hw:wd.length<=21) (ha:S5 a) (he:Tab w) :
  cB 14 #[.agg #[.int .i64 k,.string (bs wd),v],.agg #[.int .i64 a.1,.int .i64 a.2.1,.int .i64 a.2.2.1,.int .i64 a.2.2.2]] w (.string (bs (join (Zw wd t a) [32]))):=by
 obtain ⟨b,cap,rfl,hp⟩:=h;have Hp:=Z9 hp;have He:=Z9 he;have Ht:=Z9 ht;have Ha:=Z9 ha;have Hw:=Z9 hw;obtain ⟨i0,hi,hz0,hz1,hz2⟩:=info_parts OP;have hjl:=S7 [32] 21 (Zw wd t a) (TV ha ht hw);have Hjl:Hid ((join (Zw wd t a) [32]).length<=1000000):=Z9 (by rw [Yy] at hjl;simp only [Zn,Y2] at hjl;omega);obtain ⟨Z,hZ⟩:=ZE (join (Zw wd t a) [32]);rw [hZ];have HZ:=Z9 hZ;obtain ⟨a0,a1,a2,a3⟩:=a;clear hp he ht ha hw hjl hZ;go_enter func14,ntmps14;go_upto_region 1 with fail;have W1:Hid (Below w.heap.size w ((w.alloc (.cells #[.int .i64 k,.string (bs wd),.slice b t.length cap] 47)).alloc (.cells #[.int .i64 a0,.int .i64 a1,.int .i64 a2,.int .i64 a3] 25))):=Z9 (((ba _ _)).alloc (by simp) _);have k1:Hid (Blk ((w.alloc (.cells #[.int .i64 k,.string (bs wd),.slice b t.length cap] 47)).alloc (.cells #[.int .i64 a0,.int .i64 a1,.int .i64 a2,.int .i64 a3] 25)) w.heap.size 47 #[.int .i64 k,.string (bs wd),.slice b t.length cap]):=Z9 ((Blk.new w _ _).alloc _)
 have k2:Hid (Blk ((w.alloc (.cells #[.int .i64 k,.string (bs wd),.slice b t.length cap] 47)).alloc (.cells #[.int .i64 a0,.int .i64 a1,.int .i64 a2,.int .i64 a3] 25)) (w.heap.size+1) 25 #[.int .i64 a0,.int .i64 a1,.int .i64 a2,.int .i64 a3]):=Z9 (by
  have:=Blk.new (w.alloc (.cells #[.int .i64 k,.string (bs wd),.slice b t.length cap] 47)) 25 #[.int .i64 a0,.int .i64 a1,.int .i64 a2,.int .i64 a3];rw [XX] at this
  exact this)
 generalize (w.alloc (.cells #[.int .i64 k,.string (bs wd),.slice b t.length cap] 47)).alloc (.cells #[.int .i64 a0,.int .i64 a1,.int .i64 a2,.int .i64 a3] 25)=W at *;have x1:=(uh k1).cell (i:=1) (v:= .string (bs wd)) rfl;have x2:=(uh k1).cell (i:=2) (v:= .slice b t.length cap) rfl;have hzW:=(uh W1).size;have hl0:w.heap.size<W.heap.size:=(uh k1).lt;go_wp2_with fail;clear x1 x2
 go_loopw [5,14] (fun s i wr=> ∃ j:Nat,j<=t.length/\i= .int .i64 j/\StrsAt W.heap.size wr s ((Zw wd t (a0,a1,a2,a3)).take (j+1))/\Below W.heap.size W wr) (fun _ i _=>t.length-(intOf i).toNat)
 case atStart=>exact ⟨0,Zi _,rfl,World.ownsRow_lit W #[.string (bs wd)] 1 (Z3 _) (by simp [maxLen]) rfl,(ba _ _)⟩
 case round=>
  obtain ⟨j,hj,rfl,hst,hb⟩:=hrel;have Hst:=Z9 hst;have Hb:=Z9 hb;have hzr:=hb.size;have hlenj:((Zw wd t (a0,a1,a2,a3)).take (j+1)).length=j+1:=by rw [List.length_take,Yy];omega
  clear hst hb;by_cases hlt:j<t.length
  ·obtain ⟨g,rfl,hg,hc⟩:=uh Hp j hlt
   have hc':=((uh W1).trans ((uh Hb).mono hzW)).cell (p:=⟨g,j,none⟩) hg |>.trans hc
   have HS:=Z9 (Mj (w:=wd) (t:=t) (a:=(a0,a1,a2,a3)) hlt);have Hti:Hid (t.getD j 0<=2):=Z9 (uh Ht _ (by simp [List.getD,hlt]));have hlt1:(j:Int)<(t.length:Int):=by omega
   have k3:=bl k2 (uh Hb);obtain ⟨y0,y1,y2,y3⟩:wr.cell? ⟨w.heap.size+1,0,none⟩=some (.int .i64 a0)/\wr.cell? ⟨w.heap.size+1,1,none⟩=some (.int .i64 a1)/\wr.cell? ⟨w.heap.size+1,2,none⟩=some (.int .i64 a2)/\wr.cell? ⟨w.heap.size+1,3,none⟩=some (.int .i64 a3):=⟨(uh k3).cell (i:=0) rfl,(uh k3).cell (i:=1) rfl,(uh k3).cell (i:=2) rfl,(uh k3).cell (i:=3) rfl⟩
   clear hc;generalize t.getD j 0=ti at *;generalize (Zw wd t (a0,a1,a2,a3)).take (j+1)=P at *;go_wp2_with fail;refine ck (OV (a0,a1,a2,a3) ti (uh Hti) wr) fun w2 hb2=> ?_;have Hb2:Hid (Below W.heap.size W w2):=Z9 ((uh Hb).trans (hb2.mono hzr));have Hst2:=Z9 ((uh Hst).later hb2);have hf:=uh Ha ti (uh Hti);generalize Xw (a0,a1,a2,a3) ti=x at *;clear hb2 Hst Hb y0 y1 y2 y3 hc' k3;go_wp2_with fail;refine ck (VY x hf.1 hf.2 w2 ((uh He).below ((uh W1).trans ((uh Hb2).mono hzW)))) fun w3 hb3=> ?_;have HW2:Hid (Below W.heap.size W w3):=Z9 ((uh Hb2).trans (hb3.mono (uh Hb2).size));have Hst3:=Z9 ((uh Hst2).later hb3);clear hb3 Hst2 Hb2;go_wp2_with (at_builtin;refine wpList_append_own _ rfl _ _ 54 rfl W.heap.size 9 i0 (.string ByteArray.empty) 1 16 underlying54 hi hz0 hz1 hz2 rfl (by decide) _ _ _ rfl (World.ownsRow.alloc (uh Hst3) _) ⟨_,0,none⟩ 1 1 [.string (bs (itoa x))] rfl rfl (cell_one_new _ _ _) (by simp [Value.oneCell']) (by simp only [maxLen];omega) (by omega) (by have:=(uh HW2).size;simp;omega) ?_;intro v' w4 hown' hgrow _;have R:=Ij (uh Hst3) (uh HW2) hown' hgrow;have HR:=Z9 R;clear hown' hgrow R)
   go_roundw
   case rel=>exact ⟨j+1,by omega,by go_num,by rw [uh HS];exact (uh HR).1,(uh HR).2⟩
   case measure=>exact ms
  ·obtain rfl:j=t.length:=by omega
   have hall:(Zw wd t (a0,a1,a2,a3)).take (t.length+1)=Zw wd t (a0,a1,a2,a3):=List.take_of_length_le (by rw [Yy];omega);rw [hall] at Hst;clear hall;have hl1:1<=(Zw wd t (a0,a1,a2,a3)).length:=by rw [Yy];omega
   have hl2:(Zw wd t (a0,a1,a2,a3)).length<=1000:=by rw [Yy];omega
   have hl3:(Zw wd t (a0,a1,a2,a3)).length=t.length+1:=Yy _ _ _;have Hl3:=Z9 hl3;clear hl3;generalize Zw wd t (a0,a1,a2,a3)=P at *;go_wp2_with fail;refine ck (ID [32] (uh Hst) hl1 hl2 (uh Hjl)) fun w2 hb2=> ?_;have Hb2:Hid (Below w.heap.size w w2):=Z9 ((uh W1).trans (((uh Hb).trans (hb2.mono hzr)).mono hzW));clear hb2;go_wp2_with fail;go_ret;exact ⟨by rw [<-uh HZ];rfl,uh Hb2⟩
theorem SL:∀ j,j<14->(Zt.getD j []).length<=21:=by decide
theorem Vf:∀ j,j<14->(Y0.getD j []).length<=3:=by decide
theorem We {w:World} (a:Yp) (ha:S5 a) (he:Tab w) :
  cB 6 #[.agg #[.int .i64 a.1,.int .i64 a.2.1,.int .i64 a.2.2.1,.int .i64 a.2.2.2]] w (.string (bs (Zk a))):=by
 have He:=Z9 he;have Ha:=Z9 ha;obtain ⟨Z,hZ⟩:=ZE (Zk a);rw [hZ];have HZ:=Z9 hZ;obtain ⟨a0,a1,a2,a3⟩:=a;clear he ha hZ;have W1:Hid (Below w.heap.size w (w.alloc (.cells #[.int .i64 a0,.int .i64 a1,.int .i64 a2,.int .i64 a3] 25))):=Z9 ((ba _ _));have k1:Hid (Blk (w.alloc (.cells #[.int .i64 a0,.int .i64 a1,.int .i64 a2,.int .i64 a3] 25)) w.heap.size 25 #[.int .i64 a0,.int .i64 a1,.int .i64 a2,.int .i64 a3]):=Z9 (Blk.new w _ _);go_enter func6,ntmps6;go_wp2_with fail;generalize w.alloc (.cells #[.int .i64 a0,.int .i64 a1,.int .i64 a2,.int .i64 a3] 25)=W at *;refine (Pf W).mono ?_;rintro e w1 ⟨g,rfl,hF,hb⟩;replace k1:=bl k1 hb;have W2:Hid (Below w.heap.size w w1):=Z9 ((uh W1).trans (hb.mono (uh W1).size));have HF:=Z9 hF;clear hF hb W1;go_wp2_with fail
 go_loopw [7] (fun i wr=> ∃ j:Nat,j<=14/\i= .int .i64 j/\(∀ q:Nat,q<j->a0 ≠ (q:Int)+1)/\Below w1.heap.size w1 wr) (fun i _=>14-(intOf i).toNat)
 case atStart=>exact ⟨0,by omega,rfl,fun q h=>by omega,Z2 _ _⟩
 case round=>
  obtain ⟨j,hj,rfl,hno,hb⟩:=hrel;have Hno:=Z9 hno;have Hb:=Z9 hb;clear hno hb;have hzW:=(uh W2).size;by_cases hlt:j<14
  ·have hlt1:(j:Int)<14:=by omega
   have F:=(uh HF).below (uh Hb);have q0:=F.kind j hlt;have q1:=F.word j hlt;obtain ⟨pv,q2,hpv⟩:=F.part j hlt;obtain ⟨pa,pcap,rfl,hpp⟩:=hpv;have Hpv:Hid (PartsAt wr (.slice pa (Y0.getD j []).length pcap) (Y0.getD j [])):=Z9 ⟨pa,pcap,rfl,hpp⟩;have HT:=Z9 (Vg j hlt).1;have HL:=Z9 (Vf j hlt);have HWl:=Z9 (SL j hlt);have hwd:Hid (a0=(j:Int)+1->Zk (a0,a1,a2,a3)=TD j (a0,a1,a2,a3)):=Z9 (fun h=>V6 h hlt);unfold TD at hwd;generalize Zt.getD j []=wd at *;generalize Y0.getD j []=t at *;clear F hpp;have k3:=bl k1 (uh Hb);obtain ⟨y0,y1,y2,y3⟩:wr.cell? ⟨w.heap.size,0,none⟩=some (.int .i64 a0)/\wr.cell? ⟨w.heap.size,1,none⟩=some (.int .i64 a1)/\wr.cell? ⟨w.heap.size,2,none⟩=some (.int .i64 a2)/\wr.cell? ⟨w.heap.size,3,none⟩=some (.int .i64 a3):=⟨(uh k3).cell (i:=0) rfl,(uh k3).cell (i:=1) rfl,(uh k3).cell (i:=2) rfl,(uh k3).cell (i:=3) rfl⟩
   have hne:w.heap.size ≠ wr.heap.size:=by have:=(uh k3).lt;omega
   by_cases hk:a0=(j:Int)+1
   ·have e1:=Z9 ((uh HZ).symm.trans (uh hwd hk))
    have Hk:=Z9 hk;have n1:((j:Int)+1 ==a0)=true:=by rw [hk];simp
    have n2:decide ((j:Int)+1=a0)=true:=by rw [hk];simp
    clear hk;have hl0:w.heap.size<wr.heap.size:=(uh k3).lt;have hb0:Below wr.heap.size wr (wr.alloc (.cells #[.int .i64 ((j:Int)+1),.string (bs wd),.slice pa t.length pcap] 47)):=ba _ _;have Hb0:=Z9 hb0;clear hb0;go_wp2_with fail;refine ck (Kt ((j:Int)+1) wd (a0,a1,a2,a3) ((uh Hpv).below (uh Hb0)) (uh HT) (uh HL) (uh HWl) (uh Ha) ((uh He).below ((uh W2).trans (((uh Hb).trans ((uh Hb0).mono (uh Hb).size)).mono hzW)))) fun w3 hb3=> ?_;have HB:Hid (Below w.heap.size w w3):=Z9 ((uh W2).trans (((uh Hb).trans (((uh Hb0).trans (hb3.mono (uh Hb0).size)).mono (uh Hb).size)).mono hzW));clear hb3;go_wp2_with fail;go_ret;exact ⟨by rw [uh e1];rfl,uh HB⟩
   ·have n1:((j:Int)+1 ==a0)=false:=by simpa using fun h=>hk h.symm
    have n2:decide ((j:Int)+1=a0)=false:=by simpa using fun h=>hk h.symm
    have Hk:=Z9 hk;clear hk;have hl0:w.heap.size<wr.heap.size:=(uh k3).lt;go_wp2_with fail;go_roundw
    case rel=>exact ⟨j+1,by omega,by go_num,fun q hq=>by
     by_cases e:q=j
     ·rw [e];exact uh Hk
     ·exact uh Hno q (by omega),(uh Hb).alloc (uh Hb).size _⟩
    case measure=>exact ms
  ·obtain rfl:j=14:=by omega
   have e1:Zk (a0,a1,a2,a3)=[]:=UW (by
    show a0<1\/14<a0;by_cases h:a0<1\/14<a0
    ·exact h
    ·exact absurd (by omega) (uh Hno (a0.toNat-1) (by omega)))
   have E1:=Z9 ((uh HZ).symm.trans e1);clear e1;have hB:Below w.heap.size w wr:=(uh W2).trans ((uh Hb).mono hzW);have HB:=Z9 hB;clear hB;go_wp2_with fail;go_ret;exact ⟨by rw [uh E1];rfl,uh HB⟩
open Go.Lib (decDigits itoa join joinTail parseIntB cut index)
def IB (v:Value):Prop:=v= .nilIface\/ ∃ te pe,v= .iface te pe
structure Env (w:World):Prop where
 tab:Tab w
 big:∃ m,w.cell? ⟨0,0,none⟩=some (.int .i64 m)
 syn:∃ ev,w.cell? ⟨4,0,none⟩=some ev/\IB ev
 rng:∃ ev,w.cell? ⟨5,0,none⟩=some ev/\IB ev
theorem Env.below {w w':World} (h:Env w) (hb:Below w.heap.size w w'):Env w':=by
 obtain ⟨h1,⟨m,h2⟩,⟨e3,h3,k3⟩,e4,h4,k4⟩:=h;exact ⟨h1.below hb,⟨m,(hb.cell (World.block_lt_of_cell? _ _ h2)).trans h2⟩,⟨e3,(hb.cell (World.block_lt_of_cell? _ _ h3)).trans h3,k3⟩,e4,(hb.cell (World.block_lt_of_cell? _ _ h4)).trans h4,k4⟩
theorem TB {l:Txt} {v:Int} (h:Zv l=some v):parseIntB 64 l= .ok v:=by
 obtain ⟨h1,h2,h3⟩:=XR h;rw [h1];exact L9 h2 h3
theorem Pw {l:Txt} (h:∀ v,parseIntB 64 l ≠ .ok v):Zv l=none:=by
 cases hx:Zv l with
 | none=>rfl
 | some v=>exact absurd (TB hx) (h v)
theorem Px {l:Txt} {v v':Int} (h:parseIntB 64 l= .ok v) (hx:Zv l=some v'):v'=v:=by
 have:=TB hx;rw [h] at this;cases this;rfl
theorem I6 {l:Txt} {v:Int} (h:parseIntB 64 l= .ok v) (hr:inB v (-999999999) 999999999=false):Zv l=none:=by
 cases hx:Zv l with
 | none=>rfl
 | some v'=>
  obtain rfl:=Px h hx;obtain ⟨_,h2,h3⟩:=XR hx;rw [YJ h2 h3] at hr;cases hr
theorem Mc {l:Txt} {v:Int} (h:parseIntB 64 l= .ok v) (hn:itoa v ≠ l):Zv l=none:=by
 cases hx:Zv l with
 | none=>rfl
 | some v'=>
  obtain rfl:=Px h hx;exact absurd (XR hx).1.symm hn
theorem QQ (l:Txt) (w:World) (he:Env w) (hl:l.length<=1048576) :
  cB 37 #[.string (bs l)] w (XO l):=by
 have hsz:=WI l;have He:=Z9 he;obtain ⟨_,_,⟨e3,h3,k3⟩,e4,h4,k4⟩:=he;cases hp:parseIntB 64 l with
 | ok v=>
  have HP:=Z9 hp;clear hp h3 h4 k3 k4;go_enter func37,ntmps37;go_wp2_with fail;refine ck (Tryz.strconv_ParseInt_10_at64_ok (bs l) (by omega) v (by rw [Y3];exact uh HP) _) fun w1 hw1=> ?_
  have hb1:Below w.heap.size w w1:=by
   rcases hw1 with rfl | ⟨t,rfl⟩
   ·exact Z2 _ _
   ·exact Go.Lib.bytesWorld_below _ _ _
  have Hb1:=Z9 hb1;clear hw1 hb1;cases hr:inB v (-999999999) 999999999
  ·have HN:=Z9 (Zh (I6 (uh HP) hr))
   go_wp2_with (go_at_call 53;refine (UQ _ _ _ _).mono ?_;rintro e w' ⟨rfl,rfl⟩)
   go_ret2
   exact ⟨Uu (uh HN).symm,uh Hb1⟩
  obtain ⟨v0,v1⟩:=ZS hr;by_cases hs:itoa v=l
  ·have HN:Hid (XO l= .tuple #[.int .i64 v,.bool true]):=Z9 (Wy (by rw [<-hs];exact US v0 v1))
   have Hs:Hid (bs (itoa v)=bs l):=Z9 (by rw [hs]);clear hs;go_wp2_with (go_at_call 53;refine (UQ _ _ _ _).mono ?_;rintro e w' ⟨rfl,rfl⟩)
   refine (VY v (by omega) (by omega) _ ((uh He).below (uh Hb1)).tab).mono ?_;rw [uh Hs];rintro e w2 ⟨rfl,hb2⟩;have Hb2:=Z9 hb2;clear hb2;go_wp2_with fail
   go_ret2
   exact ⟨Uu (uh HN).symm,(uh Hb1).trans ((uh Hb2).mono (uh Hb1).size)⟩
  ·have HN:=Z9 (Zh (Mc (uh HP) hs))
   have hne1:((bs (itoa v)).toList ==(bs l).toList)=false:=by rw [ByteArray.toList_eq,ByteArray.toList_eq,Y3,Y3];exact beq_eq_false_iff_ne.2 hs
   clear hs;go_wp2_with (go_at_call 53;refine (UQ _ _ _ _).mono ?_;rintro e w' ⟨rfl,rfl⟩)
   refine ck (VY v (by omega) (by omega) _ ((uh He).below (uh Hb1)).tab) fun w2 hb2=> ?_;have Hb2:=Z9 hb2;clear hb2;go_wp2_with fail
   go_ret2
   exact ⟨Uu (uh HN).symm,(uh Hb1).trans ((uh Hb2).mono (uh Hb1).size)⟩
 | «syntax» =>
  have HN:=Z9 (Zh (Pw (l:=l) (fun v e=>by rw [hp] at e;cases e)));have HP:=Z9 hp;have H3:=Z9 h3;have K3:=Z9 k3;clear hp h3 h4 k3 k4;go_enter func37,ntmps37;go_wp2_with fail;refine (Tryz.strconv_ParseInt_10_at64_syntax (bs l) (by omega) (by rw [Y3];exact uh HP) e3 _ (uh H3) (uh K3)).mono ?_;rintro e w1 ⟨nn,rfl,_,_,hb1⟩;have Hb1:=Z9 hb1;clear hb1;go_wp2_with fail
  go_ret2
  exact ⟨Uu (uh HN).symm,uh Hb1⟩
 | range=>
  have HN:=Z9 (Zh (Pw (l:=l) (fun v e=>by rw [hp] at e;cases e)));have HP:=Z9 hp;have H4:=Z9 h4;have K4:=Z9 k4;clear hp h3 h4 k3 k4;go_enter func37,ntmps37;go_wp2_with fail;refine (Tryz.strconv_ParseInt_10_at64_range (bs l) (by omega) (by rw [Y3];exact uh HP) e4 _ (uh H4) (uh K4)).mono ?_;rintro e w1 ⟨nn,rfl,_,_,hb1⟩;have Hb1:=Z9 hb1;clear hb1;go_wp2_with fail
  go_ret2
  exact ⟨Uu (uh HN).symm,uh Hb1⟩
open Go.Lib (decDigits itoa join joinTail splitB countB)
theorem PF (l:Txt) (c:UInt8):splitB (bs [c]) 0 (countB (bs l) (bs [c])) (bs l)=(ZM c l).map bs:=by
 have h:=Go.Lib.splitB_data (bs [c]) 0 (countB (bs l) (bs [c])) (bs l);rw [Y3,Y3,Rd c _ l (by show _=Go.Lib.count _ _;rw [Y3,Y3])] at h;rw [<-h,List.map_map]
 conv=>lhs;rw [<-List.map_id (splitB _ _ _ _)]
 exact List.map_congr_left (fun x _=>(Rn x).symm)
theorem Mt (l:Txt) (c:UInt8):countB (bs l) (bs [c])+1=(ZM c l).length:=by
 rw [<-Go.Lib.splitB_all (bs [c]) (by rw [WI];simp) 0 _ (bs l) rfl,PF,List.length_map]
theorem KA (l:Txt) (c:UInt8) (w:World) (he:Env w) (hl:l.length<=1048576) :
  Calls prog 20 #[.string (bs l),.string (bs [c])] w fun e w'=> ∃ v,e= .returned v/\StrsAt w.heap.size w' v (ZM c l)/\Below w.heap.size w w':=by
 obtain ⟨m,hm⟩:=he.big;refine (Tryz.strings_Split (bs l) (bs [c]) m w (by rw [WI];omega) hm (by rw [WI];simp)).mono ?_
 rintro e w1 ⟨rfl,rfl⟩;refine ⟨_,rfl,?_,(ba _ _)⟩;rw [PF,Mt];have hlen:=(YE c l []).2;have:=World.ownsRow_lit (base:=w.heap.size) (e:=9) (size:=1) w (((ZM c l).map bs).map Value.string).toArray (ZM c l).length (Z3 _) (by unfold ZM maxLen;omega) (by simp);unfold StrsAt;rw [List.map_map] at this ⊢;simpa [Function.comp_def] using this
set_option maxRecDepth 100000
def P4:Option Yp->Value
 | none=> .tuple #[.agg #[.int .i64 0,.int .i64 0,.int .i64 0,.int .i64 0],.bool false]
 | some a=> .tuple #[.agg #[.int .i64 a.1,.int .i64 a.2.1,.int .i64 a.2.2.1,.int .i64 a.2.2.2],.bool true]
def Ie (w:World) (v:Value) (r:List Txt):Prop:= ∃ a cap,v= .slice a r.length cap/\ ∀ i,i<r.length-> ∃ b off,a=some ⟨b,off,none⟩/\b<w.heap.size/\w.cell? ⟨b,off+i,none⟩=some (.string (bs (r.getD i [])))
theorem NN:∀ (r:List Txt) (t:List Nat) (a x:Yp),ZK r t a=some x->r.length=t.length
 | [],[],_,_,_=>rfl
 | [],_::_,_,_,h=>by cases h
 | _::_,[],_,_,h=>by cases h
 | y::r,i::t,a,x,h=>by
  simp only [ZK] at h;cases hy:Zv y with
  | none=>rw [hy] at h;cases h
  | some n=>rw [hy] at h;simp only [Zn];rw [NN r t _ x h]
theorem R6 {r:List Txt} {t:List Nat} {a:Yp} (h:r.length ≠ t.length):ZK r t a=none:=by
 cases hx:ZK r t a with
 | none=>rfl
 | some x=>exact absurd (NN r t a x hx) h
theorem Pq {r:List Txt} {t:List Nat} {a:Yp} {j:Nat} (hr:j<r.length) (ht:j<t.length):ZK (r.drop j) (t.drop j) a=(Zv (r.getD j [])).bind fun n=>ZK (r.drop (j+1)) (t.drop (j+1)) (VG a (t.getD j 0) n):=by
 rw [List.drop_eq_getElem_cons hr,List.drop_eq_getElem_cons ht];simp [ZK,List.getD,hr,ht]
theorem Ty {w:Txt} : ∀ (l:List Txt) (k j:Nat),(∀ q,q<j->l.getD q [] ≠ w)->j<l.length->l.getD j []=w->Ze w l k=some (k+j)
 | [],k,j,_,h,_=>by simp at h
 | x::r,k,0,_,_,h=>by
  have:x=w:=by simpa using h
  unfold Ze;rw [if_pos this];rfl
 | x::r,k,j+1,hn,hl,h=>by
  have h0:x ≠ w:=by simpa using hn 0 (by omega)
  unfold Ze;rw [if_neg h0,Ty r (k+1) j (fun q hq=>by simpa using hn (q+1) (by omega)) (by simpa using hl) (by simpa using h)]
  congr 1;omega
theorem SK {w:Txt} : ∀ (l:List Txt) (k:Nat),(∀ q,q<l.length->l.getD q [] ≠ w)->Ze w l k=none
 | [],_,_=>rfl
 | x::r,k,hn=>by
  have h0:x ≠ w:=by simpa using hn 0 (by simp)
  unfold Ze;rw [if_neg h0];exact SK r (k+1) (fun q hq=>by simpa using hn (q+1) (by simpa using hq))
theorem GC {a b:Txt} (h:a ≠ b):((bs a).toList ==(bs b).toList)=false:=by
 rw [ByteArray.toList_eq,ByteArray.toList_eq,Y3,Y3];exact beq_eq_false_iff_ne.2 h
theorem Gd {a b:Txt} (h:a=b):((bs a).toList ==(bs b).toList)=true:=by rw [h];simp
theorem I5 {w:World} {v rv:Value} {t:List Nat} {r:List Txt} (k:Int) (wd:Txt) (h:PartsAt w v t) (hr:Ie w rv r) (ht:∀ i ∈ t,i<=2) (hn:t.length<=3) (hs:∀ p ∈ r,p.length<=1048576) (he:Env w) :
  cB 21 #[.agg #[.int .i64 k,.string (bs wd),v],rv] w (P4 (ZK r t (k,0,0,0))):=by
 obtain ⟨Q,hQ⟩:=ZE (ZK r t (k,0,0,0));rw [hQ];have HQ:=Z9 hQ;obtain ⟨b,cap,rfl,hp⟩:=h;obtain ⟨c,rcap,rfl,hq⟩:=hr;have Hp:=Z9 hp;have Hq:=Z9 hq;have He:=Z9 he;have Ht:=Z9 ht;have Hs:=Z9 hs;clear hp hq he ht hs hQ;go_enter func21,ntmps21;go_upto_region 1 with fail;have W1:Hid (Below w.heap.size w ((w.alloc (.cells #[.int .i64 k,.string (bs wd),.slice b t.length cap] 47)).alloc (.cells #[.int .i64 0,.int .i64 0,.int .i64 0,.int .i64 0] 25))):=Z9 (((ba _ _)).alloc (by simp) _);have k1:Hid (Blk ((w.alloc (.cells #[.int .i64 k,.string (bs wd),.slice b t.length cap] 47)).alloc (.cells #[.int .i64 0,.int .i64 0,.int .i64 0,.int .i64 0] 25)) w.heap.size 47 #[.int .i64 k,.string (bs wd),.slice b t.length cap]):=Z9 ((Blk.new w _ _).alloc _)
 have k2:Hid (Blk ((w.alloc (.cells #[.int .i64 k,.string (bs wd),.slice b t.length cap] 47)).alloc (.cells #[.int .i64 0,.int .i64 0,.int .i64 0,.int .i64 0] 25)) (w.heap.size+1) 25 #[.int .i64 0,.int .i64 0,.int .i64 0,.int .i64 0]):=Z9 (by
  have:=Blk.new (w.alloc (.cells #[.int .i64 k,.string (bs wd),.slice b t.length cap] 47)) 25 #[.int .i64 0,.int .i64 0,.int .i64 0,.int .i64 0];rw [XX] at this
  exact this)
 generalize (w.alloc (.cells #[.int .i64 k,.string (bs wd),.slice b t.length cap] 47)).alloc (.cells #[.int .i64 0,.int .i64 0,.int .i64 0,.int .i64 0] 25)=W at *;have hzW:=(uh W1).size;have x0:=(uh k1).cell (i:=0) (v:= .int .i64 k) rfl;have x1:=(uh k1).cell (i:=1) (v:= .string (bs wd)) rfl;have x2:=(uh k1).cell (i:=2) (v:= .slice b t.length cap) rfl;by_cases hl:r.length=t.length
 ·have n1:((r.length:Int) !=(t.length:Int))=false:=by simp [hl]
  have n2:decide ((r.length:Int)=(t.length:Int))=true:=by simp [hl]
  have Hl:=Z9 hl;clear hl;go_upto_region 4 with fail;obtain ⟨W3,hW3,hba,k3⟩:=YW W 25 #[.int .i64 k,.int .i64 0,.int .i64 0,.int .i64 0];have hl2:w.heap.size+1<W.heap.size:=(uh k2).lt;replace k1:=bl k1 hba;replace k2:=bl k2 hba;replace W1:=Z9 ((uh W1).trans (hba.mono hzW));clear hba x0 x1 x2 n1 n2;rw [hW3];clear hW3;generalize W.heap.size=ab at *;have x2:=(uh k1).cell (i:=2) (v:= .slice b t.length cap) rfl;go_wp2_with fail;clear x2
  go_loopw [24] (fun i wr=> ∃ (j:Nat) (a:Yp),j<=t.length/\i= .int .i64 j/\ZK (r.drop j) (t.drop j) a=Q/\Hid (Blk wr ab 25 #[.int .i64 a.1,.int .i64 a.2.1,.int .i64 a.2.2.1,.int .i64 a.2.2.2])/\Hid (Blk wr (w.heap.size+1) 25 #[.int .i64 0,.int .i64 0,.int .i64 0,.int .i64 0])/\Hid (Below w.heap.size w wr)) (fun i _=>t.length-(intOf i).toNat)
  case atStart=>exact ⟨0,(k,0,0,0),Zi _,rfl,uh HQ,k3,k2,W1⟩
  case round=>
   obtain ⟨j,a,hj,rfl,hr,k3,k2,W1⟩:=hrel;have HR:=Z9 hr;clear hr HQ;by_cases hlt:j<t.length
   ·have hltr:j<r.length:=by rw [uh Hl];exact hlt
    have hlt1:(j:Int)<(t.length:Int):=by omega
    have hlt2:(j:Int)<(r.length:Int):=by omega
    obtain ⟨g,rfl,hg,hc⟩:=uh Hp j hlt;obtain ⟨g2,of,rfl,hg2,hc2⟩:=uh Hq j hltr;have y1:=((uh W1).cell (p:=⟨g,j,none⟩) hg).trans hc;have y2:=((uh W1).cell (p:=⟨g2,of+j,none⟩) hg2).trans hc2;have hti:=uh Ht _ (show t.getD j 0 ∈ t by simp [List.getD,hlt]);have hsl:=uh Hs (r.getD j []) (by simp [List.getD,hltr]);have hstep:=Pq (a:=a) hltr hlt;rw [uh HR] at hstep;have HN:=Z9 hstep;have hE:=(uh He).below (uh W1);clear hc hc2 hstep HR;generalize t.getD j 0=ti at *;generalize r.getD j []=lj at *;have hcall:=QQ lj wr hE hsl;cases hx:Zv lj with
    | none=>
     rw [Zh hx] at hcall;have hQn:Q=none:=by rw [uh HN,hx];rfl
     have HQn:=Z9 hQn;have HC:=Z9 hcall;clear hcall hQn hx;go_wp2_with fail;refine ck (uh HC) fun w2 hb=> ?_;replace k2:=bl k2 hb;replace W1:=Z9 ((uh W1).trans (hb.mono (uh W1).size));clear hb y1 y2 HC;have z0:=(uh k2).cell (i:=0) (v:= .int .i64 0) rfl;have z1:=(uh k2).cell (i:=1) (v:= .int .i64 0) rfl;have z2:=(uh k2).cell (i:=2) (v:= .int .i64 0) rfl;have z3:=(uh k2).cell (i:=3) (v:= .int .i64 0) rfl;obtain ⟨f0,f1,f2,f3⟩:=(uh k2).f4;go_wp2_with fail;refine Zz (v:= .tuple #[.agg #[.int .i64 0,.int .i64 0,.int .i64 0,.int .i64 0],.bool false]) (by simp [results,results21,go_sem, *]) rfl ⟨by rw [uh HQn];rfl,?_⟩
     iterate 4 (refine YU ?_ (by show _<=w.heap.size+1;omega) _)
     exact uh W1
    | some n=>
     rw [Wy hx] at hcall;have hQs:ZK (r.drop (j+1)) (t.drop (j+1)) (VG a ti n)=Q:=by rw [uh HN,hx];rfl
     have HQs:=Z9 hQs;have HC:=Z9 hcall;clear hcall hQs hx;go_wp2_with fail;refine ck (uh HC) fun w2 hb=> ?_;replace k2:=bl k2 hb;replace k3:=bl k3 hb;replace W1:=Z9 ((uh W1).trans (hb.mono (uh W1).size));clear hb y1 y2 HC;obtain ⟨a0,a1,a2,a3⟩:=a;have HQt:=HQs;generalize hpa:VG (a0,a1,a2,a3) ti n=pa at *;have Hpa:=Z9 hpa;clear hpa HQs;have z0:=(uh k3).cell (i:=0) (v:= .int .i64 a0) rfl;have z1:=(uh k3).cell (i:=1) (v:= .int .i64 a1) rfl;have z2:=(uh k3).cell (i:=2) (v:= .int .i64 a2) rfl;have z3:=(uh k3).cell (i:=3) (v:= .int .i64 a3) rfl;go_wp2_with fail;refine (Rj (a0,a1,a2,a3) ti hti n w2).mono ?_;rw [uh Hpa];rintro e w3 ⟨rfl,hb⟩;replace k2:=bl k2 hb;replace k3:=bl k3 hb;replace W1:=Z9 ((uh W1).trans (hb.mono (uh W1).size));clear hb z0 z1 z2 z3;obtain ⟨b0,b1,b2,b3⟩:=pa;have z0:=(uh k3).cell (i:=0) (v:= .int .i64 a0) rfl;have z1:=(uh k3).cell (i:=1) (v:= .int .i64 a1) rfl;have z2:=(uh k3).cell (i:=2) (v:= .int .i64 a2) rfl;have z3:=(uh k3).cell (i:=3) (v:= .int .i64 a3) rfl;obtain ⟨f0,f1,f2,f3⟩:=(uh k3).f4;have hk4:=((((uh k3).set 0 (.int .i64 b0)).set 1 (.int .i64 b1)).set 2 (.int .i64 b2)).set 3 (.int .i64 b3);have hk2:=((((uh k2).other (a:=⟨ab,0,none⟩) (show w.heap.size+1 ≠ ab by omega) (.int .i64 b0)).other (a:=⟨ab,1,none⟩) (show w.heap.size+1 ≠ ab by omega) (.int .i64 b1)).other (a:=⟨ab,2,none⟩) (show w.heap.size+1 ≠ ab by omega) (.int .i64 b2)).other (a:=⟨ab,3,none⟩) (show w.heap.size+1 ≠ ab by omega) (.int .i64 b3)
     have hwb:Below w.heap.size w ((((w3.setCell ⟨ab,0,none⟩ (.int .i64 b0)).setCell ⟨ab,1,none⟩ (.int .i64 b1)).setCell ⟨ab,2,none⟩ (.int .i64 b2)).setCell ⟨ab,3,none⟩ (.int .i64 b3)):=by
      iterate 4 (refine YU ?_ (by show _<=ab;omega) _)
      exact uh W1
     have HK4:=Z9 hk4;have HK2:=Z9 hk2;have HWb:=Z9 hwb;clear hk4 hk2 hwb k2 k3 W1;go_wp2_with fail;go_roundw
     case rel=>exact ⟨j+1,(b0,b1,b2,b3),by omega,by go_num,uh HQt,HK4,HK2,HWb⟩
     case measure=>exact ms
   ·obtain rfl:j=t.length:=by omega
    have hQs:Q=some a:=by
     rw [<-uh HR,List.drop_length,<-uh Hl,List.drop_length];rfl
    have HQs:=Z9 hQs;clear hQs HR;obtain ⟨a0,a1,a2,a3⟩:=a;have z0:=(uh k3).cell (i:=0) (v:= .int .i64 a0) rfl;have z1:=(uh k3).cell (i:=1) (v:= .int .i64 a1) rfl;have z2:=(uh k3).cell (i:=2) (v:= .int .i64 a2) rfl;have z3:=(uh k3).cell (i:=3) (v:= .int .i64 a3) rfl;have y0:=(uh k2).cell (i:=0) (v:= .int .i64 0) rfl;have y1:=(uh k2).cell (i:=1) (v:= .int .i64 0) rfl;have y2:=(uh k2).cell (i:=2) (v:= .int .i64 0) rfl;have y3:=(uh k2).cell (i:=3) (v:= .int .i64 0) rfl;obtain ⟨f0,f1,f2,f3⟩:=(uh k2).f4;go_wp2_with fail;refine Zz (v:= .tuple #[.agg #[.int .i64 a0,.int .i64 a1,.int .i64 a2,.int .i64 a3],.bool true]) (by simp [results,results21,go_sem, *]) rfl ⟨by rw [uh HQs];rfl,?_⟩
    iterate 4 (refine YU ?_ (by show _<=w.heap.size+1;omega) _)
    exact uh W1
 ·have hn:Q=none:=by rw [<-uh HQ];exact R6 hl
  subst hn;have n1:((r.length:Int) !=(t.length:Int))=true:=by rw [bne_iff_ne];omega
  have n2:decide ((r.length:Int)=(t.length:Int))=false:=Ya (by omega);have z0:=(uh k2).cell (i:=0) (v:= .int .i64 0) rfl;have z1:=(uh k2).cell (i:=1) (v:= .int .i64 0) rfl;have z2:=(uh k2).cell (i:=2) (v:= .int .i64 0) rfl;have z3:=(uh k2).cell (i:=3) (v:= .int .i64 0) rfl;obtain ⟨f0,f1,f2,f3⟩:=(uh k2).f4;clear hl;go_wp2_with fail;refine Zz (v:= .tuple #[.agg #[.int .i64 0,.int .i64 0,.int .i64 0,.int .i64 0],.bool false]) (by simp [results,results21,go_sem, *]) rfl ⟨rfl,?_⟩
  iterate 4 (refine YU ?_ (by show _<=w.heap.size+1;omega) _)
  exact uh W1
open Draw (St Off)
structure BysAt (B:Nat) (w:World) (g n:Nat) (xs:List Int):Prop where
  lo:B<=g
  lt:g<w.heap.size
  len:xs.length=n
  cell:∀ j,j<n->w.cell? ⟨g,j,none⟩=some (.int .u8 (xs.getD j 0))
  free:∀ j,j<n->w.frozen? ⟨g,j,none⟩=false
theorem BysAt.off {B bc g n:Nat} {w w':World} {xs:List Int} (h:BysAt B w g n xs) (ho:Off bc w w') (hbc:bc<B):BysAt B w' g n xs:=by
  have hne:g ≠ bc:=by have:=h.lo;omega
  exact ⟨h.lo,YH h.lt ho.size,h.len,fun j hj=>(ho.cell (p:=⟨g,j,none⟩) h.lt hne).trans (h.cell j hj),fun j hj=>(World.frozen?_of_block (w:=w) (w':=w') (ho.block g h.lt hne)).trans (h.free j hj)⟩
theorem BysAt.cut {B g n:Nat} {w:World} {xs:List Int} (h:BysAt B w g n xs) {k:Nat} (hk:k<=n):BysAt B w g k (xs.take k):=
  ⟨h.lo,h.lt,by rw [List.length_take,h.len];omega,fun j hj=>by rw [h.cell j (by omega)];congr 2;simp [List.getD,hj],fun j hj=>h.free j (by omega)⟩
theorem BysAt.set {B g n:Nat} {w:World} {xs:List Int} (h:BysAt B w g n xs) {k:Nat} (hk:k<n) (x:Int):BysAt B (w.setCell ⟨g,k,none⟩ (.int .u8 x)) g n (xs.set k x):=by
  refine ⟨h.lo,by simpa using h.lt,by simpa using h.len,fun j hj=> ?_,fun j hj=>by rw [World.frozen?_setCell];exact h.free j hj⟩;have hl:=h.len;by_cases e:j=k
  · subst e
    rw [World.cell?_setCell_same _ _ _ (h.cell j hj)];simp [List.getD,hl,hj]
  · rw [World.cell?_setCell_other _ _ _ _ (by intro e2;cases e2;exact e rfl),h.cell j hj]
    simp [List.getD,Ne.symm e]
def Bys (B:Nat) (w:World) (a:Option Addr) (n:Nat):Prop:=n=0\/ ∃ g xs,a=some ⟨g,0,none⟩/\BysAt B w g n xs
theorem Bys.off {B bc n:Nat} {w w':World} {a:Option Addr} (h:Bys B w a n) (ho:Off bc w w') (hbc:bc<B):Bys B w' a n:=by
  rcases h with h | ⟨g,xs,e,h⟩
  · exact .inl h
  · exact .inr ⟨g,xs,e,h.off ho hbc⟩
theorem Lu (w : World) (l : Txt) (c : Nat) : Bys w.heap.size (w.drew.alloc (.cells (bytesRow (bs l) c) 5 ((bytesRow (bs l) c).size, (bytesRow (bs l) c).size + 1))) (some ⟨w.heap.size, 0, none⟩) l.length := by
  have hsz := WI l
  have hrow : ∀ j, j < l.length → (bytesRow (bs l) c)[j]? = some (.int .u8 ((l.map fun b => (b.toNat : Int)).getD j 0)) := fun j hj => by
    rw [bytesRow_at _ _ _ (by simpa [bs] using hj)];simp [bs, List.getD, List.getElem?_eq_getElem hj]
  refine .inr ⟨_, l.map fun b => (b.toNat : Int), rfl, Z3 _, by simp, by simp, fun j hj => ?_, fun j hj => ?_⟩
  · have : (w.drew.alloc (.cells (bytesRow (bs l) c) 5 ((bytesRow (bs l) c).size, (bytesRow (bs l) c).size + 1))).heap[w.heap.size]? = some (.cells (bytesRow (bs l) c) 5 ((bytesRow (bs l) c).size, (bytesRow (bs l) c).size + 1)) := heap_alloc_new w.drew _
    rw [cell_of_row _ _ _ _ _ _ this];exact hrow j hj
  · have hz : l.length ≤ (bytesRow (bs l) c).size := by
      rcases Nat.lt_or_ge (bytesRow (bs l) c).size l.length with h | h
      · have := hrow _ h; simp at this
      · exact h
    have := World.frozen?_alloc_mark w.drew (bytesRow (bs l) c) 5 (bytesRow (bs l) c).size ((bytesRow (bs l) c).size + 1) j;simp only [World.size_drew] at this;rw [this];simp; omega
theorem Oe (w:World) (a:Option Addr) (c:Nat):(convert 22 9 (.slice a 0 c)).run prog w= .ok (.string (bs [])) w:=by
  rw [run_convert_bytes_string w _ _ 5 _ 0 c underlying22 underlying5 underlying9];cases a<;>simp [Conv.bytesToString,loadCells]
  all_goals rfl
theorem Gy {B:Nat} {w:World} {a:Option Addr} {n:Nat} (h:Bys B w a n) (c:Nat):∃ l:Txt,l.length=n/\(convert 22 9 (.slice a n c)).run prog w= .ok (.string (bs l)) w:=by
  rcases h with rfl | ⟨g,xs,rfl,h⟩
  · exact ⟨[],rfl,Oe w a c⟩
  · refine ⟨xs.map fun n=>UInt8.ofNat n.toNat,by rw [List.length_map,h.len],?_⟩
    have:=run_convert_bytes_arg (P:=prog) w 22 5 underlying22 underlying5 g 0 n c xs h.len (fun i hi=>by rw [Nat.zero_add];exact h.cell i hi) 9 underlying9;exact this
theorem Gu {B e size n:Nat} {w:World} {v:Value} {xs:List Value} (h:w.ownsRow B e size v n xs):∀ k,v.ownBlock=some k->B<=k:=fun k e=>by
  rcases h.2 with ⟨rfl,_⟩ | ⟨g,cap,cur,rfl,hb,_⟩
  · cases e
  · simp only [Value.ownBlock,Option.some.injEq] at e;omega
theorem Pr {B e size g:Nat} {w:World} (hg:g=w.heap.size) (hB:B<=g):(w.alloc (.cells #[] e)).ownsRow B e size (.slice (some ⟨g,0,none⟩) 0 0) 0 []:=by
  subst hg;exact ⟨by simp,.inr ⟨_,0,#[],rfl,hB,heap_alloc_new w _,Z3 _,Zi _,by simp,by simp⟩⟩
theorem Ii (g o i:Nat):(⟨g,o,none⟩:Addr).add i=⟨g,o+i,none⟩:=by unfold Addr.add;split<;>simp_all
theorem Re {B g n N j:Nat} {w w':World} {xs:List Int} (h:BysAt B w g n xs) (hb:Below N w w') (hg:g<N) (hj:j<=n):∀ i,i<j->w'.cell? ((⟨g,0,none⟩:Addr).add i)=some (.int .u8 ((xs.take j).getD i 0)):=fun i hi=>by
  rw [Ii,Nat.zero_add,hb.cell (p:=⟨g,i,none⟩) hg,h.cell i (by omega)];simp [List.getD,hi]
theorem Od {B g n N o m:Nat} {w w':World} {xs:List Int} (h:BysAt B w g n xs) (hb:Below N w w') (hg:g<N) (hm:o+m<=n):∀ i,i<m->w'.cell? ((⟨g,o,none⟩:Addr).add i)=some (.int .u8 ((xs.drop o).getD i 0)):=fun i hi=>by
  rw [Ii,hb.cell (p:=⟨g,o+i,none⟩) hg,h.cell (o+i) (by omega)];simp [List.getD]
theorem Xf {N:Nat} {a w:World} (h:Below N a w):Below N a w.drew:=⟨h.os,h.tape,h.output,h.size,h.block⟩
theorem Qm:(prog.info? 5).map (fun i=>(i.zero,i.size,i.bytes))=some (some (.int .u8 0),1,1):=by kernel_rfl
theorem Yl {ops : Array Oper} {o : Oper} {a : Act} {w : World} {K : Act → World → Prop} {Q : Exit → Act → World → Prop} {E : Prop} (hgd : o.guard = none) (s x : Operand)
    (ho : o.op = .call { callee := .builtin .append, args := #[s, x], argTypes := #[22, 22] }) (base : Nat)
    (v : Value) (n : Nat) (ys : List Int) (hs : a.eval s = v) (hown : w.ownsRow base 5 1 v n (ys.map (Value.int .u8)))
    (ad : Addr) (m c : Nat) (zs : List Int) (hx : a.eval x = .slice (some ad) m c) (hl : zs.length = m) (hnews : ∀ j, j < m → w.cell? (ad.add j) = some (.int .u8 (zs.getD j 0)))
    (hb : n + m ≤ 4000) (hbase : base ≤ w.heap.size)
    (h : ∀ v' w', w'.ownsRow base 5 1 v' (n + m) ((ys ++ zs).map (Value.int .u8)) → Below base w w' → K (a.put o.dst v') w') :
    if Region.wanted o (yielded ops a.tmps) = true then Oper.wp prog o a w K Q else E := by
  have hw : Region.wanted o (yielded ops a.tmps) = true := by simp [Region.wanted, hgd]
  rw [if_pos hw];obtain ⟨i0, hi, hz0, hz1, hz2⟩ := info_parts Qm
  obtain ⟨v', w', hr, h2, h3, _, _⟩ := run_append_own_at (P := prog) w base 22 o.type 5 i0 (.int .u8 0) 1 1 underlying22 hi hz0 hz1 hz2 rfl (by decide) v n _ hown ad m c (zs.map (Value.int .u8)) (by simp [hl])
    (fun j u hu => by
      have hj : j < m := by
        rcases Nat.lt_or_ge j m with h | h
        · exact h
        · rw [List.getElem?_eq_none (by simpa [hl] using h)] at hu; cases hu
      rw [hnews j hj];rw [List.getElem?_map, List.getElem?_eq_getElem (by omega)] at hu;simp only [Option.map_some, Option.some.injEq] at hu
      rw [← hu, List.getD, List.getElem?_eq_getElem (by omega)]; rfl)
    (fun u hu => by obtain ⟨_, _, rfl⟩ := List.mem_map.1 hu; rfl) (by simp only [maxLen]; omega) (by omega) hbase
  rw [← List.map_append] at h2;unfold Oper.wp execOp;simp only [ho, resolve, invoke, builtin, Sem.run_bind, Sem.run_pure, Result.andThen_ok, List.map_toArray, List.map_cons, List.map_nil, hs, hx, hr];exact h v' w' h2 ((Z2 base w).grown h3 hbase (Gu hown))
theorem IT {bc N:Nat} {a w w':World} (h:Off bc a w) (hb:Below N w w') (hN:a.heap.size<=N):Off bc a w':=X7 h (hb.mono hN)
def Ow (N:Nat) (w:World) (v:Value) (n:Nat) (ys:List Int):Prop:=(n=0/\ys=[]/\ ∃ ad,v= .slice (some ad) 0 0)\/w.ownsRow N 5 1 v n (ys.map (Value.int .u8))
theorem Ow.off {N n bc : Nat} {w w' : World} {v : Value} {ys : List Int} (h : Ow N w v n ys) (ho : Off bc w w') (hN : bc < N) : Ow N w' v n ys := by
  rcases h with h | ⟨h1, h2⟩
  · exact .inl h
  · refine .inr ⟨h1, ?_⟩
    rcases h2 with h2 | ⟨g, cap, cur, h2, h3, h4, h5⟩
    · exact .inl h2
    · refine .inr ⟨g, cap, cur, h2, h3, ?_, h5⟩
      rw [ho.block g (by rcases Nat.lt_or_ge g w.heap.size with h | h; · exact h
                         · rw [Array.getElem?_eq_none h] at h4; cases h4) (by omega)]
      exact h4
theorem Tr {B N n : Nat} {w : World} {v : Value} {ys : List Int} (h : w.ownsRow N 5 1 v n (ys.map (Value.int .u8))) (hB : B ≤ N) : ∃ a c, v = .slice a n c ∧ n ≤ c ∧ Bys B w a n := by
  obtain ⟨h1, h2⟩ := h
  rcases h2 with ⟨rfl, rfl⟩ | ⟨g, cap, cur, rfl, hb, hg, hc, _, hs, ht⟩
  · exact ⟨_, _, rfl, Z3 _, .inl rfl⟩
  · have hlt : g < w.heap.size := by
      rcases Nat.lt_or_ge g w.heap.size with h | h
      · exact h
      · rw [Array.getElem?_eq_none h] at hg; cases hg
    have hl : ys.length = n := by simpa using h1
    refine ⟨_, _, rfl, hc, .inr ⟨g, ys, rfl, by omega, hlt, hl, fun j hj => ?_, fun j hj => by simp [World.frozen?, hg]⟩⟩;rw [cell_of_row _ _ _ _ _ _ hg];have h3 : (cur.toList.take (n * 1))[j]? = (ys.map (Value.int .u8))[j]? := by rw [ht]
    rw [List.getElem?_take_of_lt (by omega), List.getElem?_map, List.getElem?_eq_getElem (by omega : j < ys.length)] at h3;simp only [List.getD, List.getElem?_eq_getElem (by omega : j < ys.length)];simpa using h3
theorem NL {w:World} {ad:Addr} {m:Nat} {zs:List Int} (hl:zs.length=m) (hnews:∀ j,j<m->w.cell? (ad.add j)=some (.int .u8 (zs.getD j 0))):∀ j u,(zs.map (Value.int .u8))[j]?=some u->w.cell? (ad.add j)=some u:=fun j u hu=>by
  have hj:j<m:=by
    rcases Nat.lt_or_ge j m with h | h
    · exact h
    · rw [List.getElem?_eq_none (by simpa [hl] using h)] at hu;cases hu
  rw [hnews j hj];rw [List.getElem?_map,List.getElem?_eq_getElem (by omega)] at hu;simp only [Option.map_some,Option.some.injEq] at hu;rw [<-hu,List.getD,List.getElem?_eq_getElem (by omega)];rfl
theorem Tn {ops : Array Oper} {o : Oper} {a : Act} {w : World} {K : Act → World → Prop} {Q : Exit → Act → World → Prop} {E : Prop} (hgd : o.guard = none) (s x : Operand)
    (ho : o.op = .call { callee := .builtin .append, args := #[s, x], argTypes := #[22, 22] }) (N b0 o0 : Nat) (hs : a.eval s = .slice (some ⟨b0, o0, none⟩) 0 0)
    (ad : Addr) (m c : Nat) (zs : List Int) (hx : a.eval x = .slice (some ad) m c) (hl : zs.length = m) (hnews : ∀ j, j < m → w.cell? (ad.add j) = some (.int .u8 (zs.getD j 0)))
    (hb : m ≤ 4000) (hN : N ≤ w.heap.size)
    (h : ∀ v' w', Ow N w' v' m zs → Below w.heap.size w w' → K (a.put o.dst v') w') :
    if Region.wanted o (yielded ops a.tmps) = true then Oper.wp prog o a w K Q else E := by
  obtain ⟨i0, hi, hz0, hz1, hz2⟩ := info_parts Qm;by_cases hm : m = 0
  · subst hm
    obtain rfl : zs = [] := List.eq_nil_of_length_eq_zero hl;refine step_append_room hgd s x 22 ho 5 i0 1 underlying22 hi hz1 b0 o0 0 0 hs ad 0 c [] hx rfl (fun j u hu => by cases hu) (fun u hu => by cases hu) (Z3 _) (fun j hj => absurd hj (by simp)) ?_;exact h _ _ (.inl ⟨rfl, rfl, _, rfl⟩) (Z2 _ _)
  · refine step_append_grows hgd s x 22 ho 5 i0 (.int .u8 0) 1 1 underlying22 hi hz0 hz1 hz2 rfl (by decide) (some ⟨b0, o0, none⟩) 0 0 [] hs (fun h => by cases h) rfl (fun b hb j u hu => by cases hu) ad m c (zs.map (Value.int .u8)) hx (by simp [hl]) (NL hl hnews) (fun u hu => by obtain ⟨_, _, rfl⟩ := List.mem_map.1 hu; rfl) (by omega) (by simp only [maxLen]; omega) (by omega) ?_
    intro v' w' h1 h2;have h3 : w'.ownsRow w.heap.size 5 1 v' m (zs.map (Value.int .u8)) := by simpa using h1
    refine h v' w' (.inr ⟨h3.1, ?_⟩) ((Z2 _ w).grown h2 (Z3 _) (fun k e => by cases e))
    rcases h3.2 with h3 | ⟨g, cap, cur, e1, e2, e3⟩
    · exact .inl h3
    · exact .inr ⟨g, cap, cur, e1, by omega, e3⟩
theorem SE {ops : Array Oper} {o : Oper} {a : Act} {w : World} {K : Act → World → Prop} {Q : Exit → Act → World → Prop} {E : Prop} (hgd : o.guard = none) (s x : Operand)
    (ho : o.op = .call { callee := .builtin .append, args := #[s, x], argTypes := #[22, 22] }) (N : Nat) (v : Value) (n : Nat) (ys : List Int) (hs : a.eval s = v) (how : Ow N w v n ys)
    (ad : Addr) (z : Int) (c : Nat) (hx : a.eval x = .slice (some ad) 1 c) (hnews : w.cell? (ad.add 0) = some (.int .u8 z))
    (hb : n + 1 ≤ 4000) (hN : N ≤ w.heap.size)
    (h : ∀ v' w', w'.ownsRow N 5 1 v' (n + 1) ((ys ++ [z]).map (Value.int .u8)) → Below N w w' → K (a.put o.dst v') w') :
    if Region.wanted o (yielded ops a.tmps) = true then Oper.wp prog o a w K Q else E := by
  have hnw : ∀ j, j < 1 → w.cell? (ad.add j) = some (.int .u8 ([z].getD j 0)) := fun j hj => by
    obtain rfl : j = 0 := by omega
    exact hnews
  rcases how with ⟨rfl, rfl, ⟨b0, o0, p0⟩, rfl⟩ | how
  · obtain ⟨i0, hi, hz0, hz1, hz2⟩ := info_parts Qm
    refine step_append_grows hgd s x 22 ho 5 i0 (.int .u8 0) 1 1 underlying22 hi hz0 hz1 hz2 rfl (by decide) (some ⟨b0, o0, p0⟩) 0 0 [] hs (fun h => by cases h) rfl (fun b hb j u hu => by cases hu) ad 1 c ([z].map (Value.int .u8)) hx rfl (NL rfl hnw) (fun u hu => by obtain ⟨_, _, rfl⟩ := List.mem_map.1 hu; rfl) (by omega) (by simp only [maxLen]; omega) (by omega) ?_;intro v' w' h1 h2;have h3 : w'.ownsRow w.heap.size 5 1 v' (0 + 1) (([] ++ [z]).map (Value.int .u8)) := h1;refine h v' w' ⟨h3.1, ?_⟩ (((Z2 _ w).grown h2 (Z3 _) (fun k e => by cases e)).mono hN)
    rcases h3.2 with h3 | ⟨g, cap, cur, e1, e2, e3⟩
    · exact .inl h3
    · exact .inr ⟨g, cap, cur, e1, by omega, e3⟩
  · exact Yl hgd s x ho N v n ys hs how ad 1 c [z] hx rfl hnw hb hN h
theorem JB (a : Option Addr) (len cap bc : Nat) (l : Txt) (sg : ByteArray) (sn : Nat) (hsg : sg.size = sn) (hsn1 : 1 ≤ sn) (hsn6 : sn ≤ 6) (hl : l.length ≤ 1000) (w : World) (hs : St a len cap bc w) :
    Calls prog 19 #[.pointer (some ⟨bc, 0, none⟩), .string (bs l), .string sg] w fun e w' => ∃ l', e = .returned (.string (bs l')) ∧ l'.length ≤ l.length + 2 ∧ St a len cap bc w' ∧ Off bc w w' := by
  have hbc := Xs hs;have Hs := Z9 hs;clear hs;have kc := fun (w : World) (s : ByteArray) => run_bytes_of_string (P := prog) w 9 22 5 s underlying9 underlying22 underlying5;have hsz := WI l;go_enter func19, ntmps19;go_wp2_with fail;have HBy := Z9 (Lu w l (grownCap w l.length 0 5));have hgc := grownCap_ge w l.length 0 5;generalize grownCap w l.length 0 5 = gc at *;have Ho1 : Hid (Off bc w (w.drew.alloc (.cells (bytesRow (bs l) gc) 5 ((bytesRow (bs l) gc).size, (bytesRow (bs l) gc).size + 1)))) := Z9 (((Off.refl bc w).drewN 1).alloc _);have Hs1 : Hid (St a len cap bc (w.drew.alloc (.cells (bytesRow (bs l) gc) 5 ((bytesRow (bs l) gc).size, (bytesRow (bs l) gc).size + 1)))) := Z9 (((uh Hs).drewN 1).alloc _);refine (Draw.below_any a len cap bc 3 (by omega) (by omega) _ (uh Hs1)).mono ?_;rintro e w1 ⟨x, rfl, hx0, hx1, hs1, ho1⟩;obtain ⟨k0, rfl⟩ := Int.eq_ofNat_of_zero_le hx0;have Hs2 := Z9 hs1;have Ho2 := Z9 ((uh Ho1).trans ho1);have HB2 := Z9 ((uh HBy).off ho1 hbc);clear hs1 ho1 HBy Ho1 Hs1 hx0;go_wp2_with fail
  go_loopw [7, 8] (fun b n wr => ∃ (aa : Option Addr) (m cp k : Nat), b = .slice aa m cp ∧ n = .int .i64 k ∧ m ≤ cp ∧ k ≤ 2 ∧ m + k ≤ l.length + 2 ∧ Bys w.heap.size wr aa m ∧ St a len cap bc wr ∧ Off bc w wr) (fun _ n _ => (intOf n).toNat)
  case atStart => exact ⟨_, l.length, gc, k0, rfl, rfl, hgc, by omega, by omega, uh HB2, uh Hs2, uh Ho2⟩
  case round =>
    obtain ⟨aa, m, cp, k, rfl, rfl, hmc, hk, hmk, hby, hst, hof⟩ := hrel;have hzr := hof.size;have Hof := Z9 hof;have Hst := Z9 hst;have Hby := Z9 hby;clear hof hst;by_cases hk0 : k = 0
    · subst hk0
      obtain ⟨l', hl', kd⟩ := Gy hby cp;go_wp2_with fail;go_ret;exact ⟨l', rfl, by omega, uh Hst, uh Hof⟩
    · by_cases hm0 : m = 0
      · subst hm0
        have kd := Oe wr aa cp;go_wp2_with fail;go_ret;exact ⟨[], rfl, by simp, uh Hst, uh Hof⟩
      · rcases hby with h | ⟨g, xs, rfl, hat⟩
        · exact absurd h hm0
        have Hat := Z9 hat;clear hat;go_wp2_with fail;refine (Draw.below_any a len cap bc (m : Int) (by omega) (by omega) _ (uh Hst)).mono ?_;rintro e w2 ⟨x, rfl, hx0, hx1, hs2, ho2⟩;obtain ⟨j, rfl⟩ := Int.eq_ofNat_of_zero_le hx0;have Hs3 := Z9 hs2;have Ho3 := Z9 ((uh Hof).trans ho2);have Ha3 := Z9 ((uh Hat).off ho2 hbc);clear hs2 ho2;go_wp2_with fail;refine (Draw.below_any a len cap bc 4 (by omega) (by omega) _ (uh Hs3)).mono ?_;rintro e w3 ⟨y, rfl, hy0, hy1, hs3, ho3⟩;have Hs4 := Z9 hs3;have Ho4 := Z9 ((uh Ho3).trans ho3);have Ha4 := Z9 ((uh Ha3).off ho3 hbc);have hz4 := (uh Ho4).size;clear hs3 ho3 Hs3 Ho3 Ha3 Hat Hby Hof Hst HB2 Hs2 Ho2 kc;have hjm : j < m := by omega
        obtain rfl | rfl | rfl | rfl : y = 0 ∨ y = 1 ∨ y = 2 ∨ y = 3 := by omega
        · go_wp2_with fail
          refine (Draw.below_any a len cap bc (sn : Int) (by omega) (by omega) _ (uh Hs4)).mono ?_;rintro e w4 ⟨z, rfl, hz0, hz1, hs5, ho5⟩;have Hs5 := Z9 hs5;have Ho5 := Z9 ((uh Ho4).trans ho5);have Ha5 := Z9 ((uh Ha4).off ho5 hbc);have c1 := (uh Ha5).cell j hjm;have c2 := (uh Ha5).free j hjm;clear hs5 ho5;have hzz : 0 ≤ z ∧ z < sg.size := by omega
          go_wp2_with fail;go_roundw
          case rel => exact ⟨_, m, cp, k - 1, rfl, by go_num, by omega, by omega, by omega, .inr ⟨g, _, rfl, (uh Ha5).set hjm _⟩, YY (uh Hs5) ((Z2 _ _).setCell (p := ⟨g, j, none⟩) (by have := (uh Ha5).lo; show bc + 1 ≤ g; omega) _), X7 (uh Ho5) ((Z2 _ _).setCell (p := ⟨g, j, none⟩) (uh Ha5).lo _)⟩
          case measure => exact ms
        · go_wp2_with fail
          go_roundw
          case rel => exact ⟨_, j, cp, k - 1, rfl, by go_num, by omega, by omega, by omega, .inr ⟨g, _, rfl, (uh Ha4).cut (by omega)⟩, uh Hs4, uh Ho4⟩
          case measure => exact ms
        · have hj1 : j ≤ cp := by omega
          have hj2 : (j : Int) + 1 ≤ m := by omega
          have hj3 : (0 : Int) ≤ (j : Int) + 1 := by omega
          have hwj : IntKind.i64.wrap ((j : Int) + 1) = (j : Int) + 1 := by rw [IntKind.wrap_i64]; omega
          have htn : ((j : Int) + 1).toNat = j + 1 := by omega
          have hjc : (j : Int) ≤ (j : Int) + 1 := by omega
          have gz := (uh Ha4).lt;have xl := (uh Ha4).len;by_cases hcp : cp = j + 1
          · have hmj : m = j + 1 := by omega
            subst hcp;subst hmj;go_wp2_with fail
            go_region_law (first
              | (refine Yl rfl (.tmp 47) (.tmp 50) rfl w3.heap.size _ 0 [] rfl (Pr (by simp) (Z3 _)) ⟨g, 0, none⟩ _ _ (xs.take j) rfl (by rw [List.length_take, xl]; omega) (Re (uh Ha4) (Xf ((Z2 _ w3).alloc (Z3 _) _)) gz (by omega)) (by omega) (by simp) ?_; intro v1 w4 hown1 hb4)
              | (refine Yl rfl (.tmp 51) (.tmp 55) rfl w3.heap.size _ _ (xs.take j) rfl hown1 ⟨g, _, none⟩ 0 _ [] rfl rfl (fun i hi => absurd hi (by omega)) (by omega) (by have := hb4.size; simp at this; omega) ?_; intro v2 w5 hown2 hb5))
            all_goals
              have hB5 : Below w3.heap.size w3 w5 := ((Xf ((Z2 _ w3).alloc (Z3 _) _)).trans hb4).trans hb5;simp only [Nat.zero_add, Nat.add_zero] at hown2;obtain ⟨a2, c2, rfl, hc2, hby2⟩ := Tr hown2 hz4;have Hby2 := Z9 hby2;have HB5 := Z9 hB5;clear hown1 hown2 hb4 hb5 hB5 hby2;go_wp2_with fail;go_roundw
              case rel => exact ⟨_, _, c2, k - 1, rfl, by go_num, hc2, by omega, by omega, uh Hby2, YY (uh Hs4) ((uh HB5).mono (by omega)), X7 (uh Ho4) ((uh HB5).mono hz4)⟩
              case measure => exact ms
          · go_wp2_with fail
            go_region_law (first
              | (refine Yl rfl (.tmp 47) (.tmp 50) rfl w3.heap.size _ 0 [] rfl (Pr (by simp) (Z3 _)) ⟨g, 0, none⟩ _ _ (xs.take j) rfl (by rw [List.length_take, xl]; omega) (Re (uh Ha4) (Xf ((Z2 _ w3).alloc (Z3 _) _)) gz (by omega)) (by omega) (by simp) ?_; intro v1 w4 hown1 hb4)
              | (refine Yl rfl (.tmp 51) (.tmp 55) rfl w3.heap.size _ _ (xs.take j) rfl hown1 ⟨g, j + 1, none⟩ (m - (j + 1)) _ (xs.drop (j + 1)) rfl (by rw [List.length_drop, xl]) (Od (uh Ha4) ((Xf ((Z2 _ w3).alloc (Z3 _) _)).trans hb4) gz (by omega)) (by omega) (by have := hb4.size; simp at this; omega) ?_; intro v2 w5 hown2 hb5))
            all_goals
              have hB5 : Below w3.heap.size w3 w5 := ((Xf ((Z2 _ w3).alloc (Z3 _) _)).trans hb4).trans hb5;simp only [Nat.zero_add] at hown2;obtain ⟨a2, c2, rfl, hc2, hby2⟩ := Tr hown2 hz4;have Hby2 := Z9 hby2;have HB5 := Z9 hB5;clear hown1 hown2 hb4 hb5 hB5 hby2;go_wp2_with fail;go_roundw
              case rel => exact ⟨_, _, c2, k - 1, rfl, by go_num, hc2, by omega, by omega, uh Hby2, YY (uh Hs4) ((uh HB5).mono (by omega)), X7 (uh Ho4) ((uh HB5).mono hz4)⟩
              case measure => exact ms
        · have hj1 : j ≤ cp := by omega
          have hj2 : (j : Int) ≤ m := by omega
          have hcpj : ¬ cp = j := by omega
          have gz := (uh Ha4).lt;have gl := (uh Ha4).lo;have xl := (uh Ha4).len;have hbg : bc < w3.heap.size := by omega
          go_wp2_with fail
          go_region_law (first
            | (refine Tn rfl (.tmp 59) (.tmp 62) rfl w3.heap.size _ _ rfl ⟨g, 0, none⟩ _ _ (xs.take j) rfl (by rw [List.length_take, xl]; omega) (Re (uh Ha4) (Xf ((Z2 _ w3).alloc (Z3 _) _)) gz (by omega)) (by omega) (by simp) ?_; intro v1 w5 how hb5; have hB5 : Below w3.heap.size w3 w5 := (Xf ((Z2 _ w3).alloc (Z3 _) _)).trans (hb5.mono (by simp)))
            | (refine SE rfl (.tmp 63) (.tmp 70) rfl w3.heap.size _ _ _ rfl (how6.off ((Off.refl bc w6).alloc _) hbg) ⟨_, 0, none⟩ _ _ rfl (cell_one_new _ _ _ 0 _ rfl) (by omega) (by simp; omega) ?_; intro v2 w7 hown2 hb7)
            | (refine Yl rfl (.tmp 71) (.tmp 74) rfl w3.heap.size _ _ _ rfl hown2 ⟨g, j, none⟩ (m - j) _ (xs.drop j) rfl (by rw [List.length_drop, xl]) (Od (((uh Ha4).off (IT (Off.refl bc w3) hB5 (Z3 _)) hbc).off (ho6.alloc _) hbc) hb7 gz (by omega)) (by omega) (by have := hb7.size; simp at this; omega) ?_; intro v3 w8 hown3 hb8)
            | (go_simp; go_at_call 16; refine (Draw.below_any a len cap bc (sn : Int) (by omega) (by omega) _ (YY (uh Hs4) (hB5.mono (by omega)))).mono ?_; rintro e w6 ⟨z, rfl, hz0, hz1, hs6, ho6⟩; have hzz : 0 ≤ z ∧ z < sg.size := (by omega); have how6 := how.off ho6 hbg; have hs6z := ho6.size; have hB5z := hB5.size))
          all_goals
            have hB8 : Below w3.heap.size w6 w8 := (((Z2 _ w6).alloc (by omega) _).trans hb7).trans hb8;obtain ⟨a2, c2, rfl, hc2, hby2⟩ := Tr hown3 hz4;have Hby2 := Z9 hby2;have Hst8 := Z9 (YY hs6 (hB8.mono (by omega)));have Hof8 := Z9 (X7 (X7 (uh Ho4) (hB5.mono hz4) |>.trans ho6) (hB8.mono hz4));clear how how6 hown2 hown3 hb5 hb7 hb8 hB8 hby2 hs6 ho6 hB5;go_wp2_with fail;go_roundw
            case rel => exact ⟨_, _, c2, k - 1, rfl, by go_num, hc2, by omega, by omega, uh Hby2, uh Hst8, uh Hof8⟩
            case measure => exact ms
set_option maxRecDepth 100000
theorem Mb {l w0:Txt} {r:List Txt} {j:Nat} (hs:ZM 32 l=w0::r) (hj:j<14) (hn:∀ q:Nat,q<j->Zt.getD q [] ≠ w0) (he:Zt.getD j []=w0):Yj l=ZK r (Y0.getD j []) ((j:Int)+1,0,0,0):=by
 unfold Yj;rw [hs];show (Ze w0 Zt 0).bind _=_;rw [Ty Zt 0 j hn hj he,Nat.zero_add];rfl
theorem Kk {l w0:Txt} {r:List Txt} (hs:ZM 32 l=w0::r) (hn:∀ q:Nat,q<14->Zt.getD q [] ≠ w0):Yj l=none:=by
 unfold Yj;rw [hs];show (Ze w0 Zt 0).bind _=_;rw [SK Zt 0 hn];rfl
theorem Jp (g n cap:Nat) (W:World):(Instr.slice 54 (.slice (some ⟨g,0,none⟩) (n+1) cap) (some (.int .i64 1)) none none).run prog W= .ok (.slice (if cap=1 then some ⟨g,0,none⟩ else some ⟨g,1,none⟩) n (cap-1)) W:=by
 obtain ⟨i0,hi,hz0,hz1,hz2⟩:=info_parts OP;have hs:∀ W,(sizeOf 9).run prog W= .ok 1 W:=fun W=>by simp [sizeOf,typeInfo,hi,hz1]
 have hb:∀ W,(Instr.sliceBounds true (n+1) cap (some (.int .i64 1)) none none).run prog W= .ok (1,n+1,cap) W:=fun W=>by
  simp [Instr.sliceBounds,Instr.sliceBound,asIntOf]
  try omega
 simp only [Instr.slice,Sem.run_bind,run_underlying underlying54,Result.andThen,hb,hs,Sem.run_pure];rfl
theorem Gv (Q:Option Yp):∃ (b0 b1 b2 b3:Int) (bb:Bool),P4 Q= .tuple #[.agg #[.int .i64 b0,.int .i64 b1,.int .i64 b2,.int .i64 b3],.bool bb]:=by
 cases Q with
 | none=>exact ⟨_,_,_,_,_,rfl⟩
 | some a=>exact ⟨_,_,_,_,_,rfl⟩
theorem Ux (l:Txt) (w:World) (he:Env w) (hl:l.length<=1048576) :
  cB 8 #[.string (bs l)] w (P4 (Yj l)):=by
 obtain ⟨Q,hQ⟩:=ZE (Yj l);rw [hQ];have HQ:=Z9 hQ
 obtain ⟨w0,r,hsp⟩:∃ w0 r,ZM 32 l=w0::r:=by
  cases h:ZM 32 l with
  | nil=>exact absurd h (TW _ _)
  | cons a b=>exact ⟨a,b,rfl⟩
 have Hsz:Hid (∀ p ∈ w0::r,p.length<=1048576):=Z9 (fun p hp=>by rw [<-hsp] at hp;have:=XF 32 l [] p hp;simp only [Y2,Nat.zero_add] at this;omega);have hpl:=(YE 32 l []).2;have hrl:r.length<=1048576:=by have:(ZM 32 l).length<=l.length+1:=hpl;rw [hsp] at this;simp at this;omega
 have Hsp:=Z9 hsp;have He:=Z9 he;have Hsplit:=Z9 (fun w h=>KA l 32 w h hl);clear hQ he hpl hsp;have W1:Hid (Below w.heap.size w (w.alloc (.cells #[.int .i64 0,.int .i64 0,.int .i64 0,.int .i64 0] 25))):=Z9 ((ba _ _));have k1:Hid (Blk (w.alloc (.cells #[.int .i64 0,.int .i64 0,.int .i64 0,.int .i64 0] 25)) w.heap.size 25 #[.int .i64 0,.int .i64 0,.int .i64 0,.int .i64 0]):=Z9 (Blk.new w _ _);go_enter func8,ntmps8;go_wp2_with fail;generalize w.alloc (.cells #[.int .i64 0,.int .i64 0,.int .i64 0,.int .i64 0] 25)=W at *;refine (uh Hsplit W ((uh He).below (uh W1))).mono ?_;rintro e w1 ⟨v,rfl,hst,hb⟩;rw [uh Hsp] at hst;obtain ⟨va,vcap,rfl,hc,hcm,hrow⟩:=hst.view
 rcases hrow with h0 | ⟨g,rfl,hg0,hg,hcl⟩
 ·cases h0
 replace k1:=bl k1 hb;replace W1:=Z9 ((uh W1).trans (hb.mono (uh W1).size));have Hcl:=Z9 hcl;simp only [Zn] at hc;clear hb hst hcl hg0 Hsplit;go_wp2_with fail;refine (Pf w1).mono ?_;rintro e w2 ⟨g2,rfl,hF,hb⟩;replace k1:=bl k1 hb;replace W1:=Z9 ((uh W1).trans (hb.mono (uh W1).size));have Hcl2:Hid (∀ j,j<(w0::r).length->w2.cell? ⟨g,j,none⟩=some (.string (bs ((w0::r).getD j [])))):=Z9 (fun j hj=>(hb.cell (p:=⟨g,j,none⟩) hg).trans (uh Hcl j hj));have hg2:g<w2.heap.size:=YH hg hb.size;have HF:=Z9 hF;clear hb hF Hcl hg;go_wp2_with fail
 go_loopw [11] (fun i wr=> ∃ j:Nat,j<=14/\i= .int .i64 j/\(∀ q:Nat,q<j->Zt.getD q [] ≠ w0)/\Below w2.heap.size w2 wr) (fun i _=>14-(intOf i).toNat)
 case atStart=>exact ⟨0,by omega,rfl,fun q h=>by omega,Z2 _ _⟩
 case round=>
  obtain ⟨j,hj,rfl,hno,hb⟩:=hrel;have Hno:=Z9 hno;have Hb:=Z9 hb;clear hno hb;have hzW:=(uh W1).size;have hzr:=(uh Hb).size;by_cases hlt:j<14
  ·have hlt1:(j:Int)<14:=by omega
   have F:=(uh HF).below (uh Hb);have q0:=F.kind j hlt;have q1:=F.word j hlt;obtain ⟨pv,q2,hpv⟩:=F.part j hlt;obtain ⟨pa,pcap,rfl,hpp⟩:=hpv;have Hpv:Hid (PartsAt wr (.slice pa (Y0.getD j []).length pcap) (Y0.getD j [])):=Z9 ⟨pa,pcap,rfl,hpp⟩;have HT:=Z9 (Vg j hlt).1;have HL:=Z9 (Vf j hlt);have hfound:Hid (Zt.getD j []=w0->Yj l=ZK r (Y0.getD j []) ((j:Int)+1,0,0,0)):=Z9 (fun h=>Mb (uh Hsp) hlt (uh Hno) h);obtain ⟨wd,hwd⟩:=ZE (Zt.getD j []);rw [hwd] at q1 hfound;have Hwd:=Z9 hwd;generalize Y0.getD j []=t at *;clear F hpp hwd;have hl0:g<wr.heap.size:=by omega
   have hw0:=((uh Hb).cell (p:=⟨g,0,none⟩) hg2).trans (uh Hcl2 0 (by simp));simp only [List.getD_cons_zero] at hw0;obtain ⟨W3,hW3,hba,kf⟩:=YW wr 47 #[.int .i64 ((j:Int)+1),.string (bs wd),.slice pa t.length pcap];have Hpv2:=Z9 ((uh Hpv).below hba);have Hb2:=Z9 ((uh Hb).trans (hba.mono hzr));have hw1:=(hba.cell (p:=⟨g,0,none⟩) hl0).trans hw0;go_upto_region 5 with fail;clear hba q0 q1 q2 hw0 Hb Hpv;(try rw [hW3]);clear hW3;generalize wr.heap.size=fb at *;have f1:=(uh kf).cell (i:=1) (v:= .string (bs wd)) rfl;have r0:=ZX f1;have r1:=ZX hw1;refine wq ?_
   repeat (go_big_quiet_step (fail))
   refine wqn fun wq hb=> ?_;replace kf:=bl kf hb;have Hpv3:=Z9 ((uh Hpv2).below hb);have Hb3:=Z9 ((uh Hb2).trans (hb.mono (uh Hb2).size));clear hb f1 hw1 r0 r1 Hpv2 Hb2;by_cases hk:wd=w0
   ·subst hk
    have hQ2:Q=ZK r t ((j:Int)+1,0,0,0):=(uh HQ).symm.trans (uh hfound rfl);have HQ2:=Z9 hQ2;have hst:((bs wd).toList ==(bs wd).toList)=true:=by simp
    have HT2:Hid (∀ w9,Below w2.heap.size w2 w9->Ie w9 (.slice (if vcap=1 then some ⟨g,0,none⟩ else some ⟨g,1,none⟩) r.length (vcap-1)) r):=Z9 (fun w9 h=>⟨_,_,rfl,fun i hi=>⟨g,1,if_neg (by omega),YH hg2 h.size,by
     have:=(h.cell (p:=⟨g,i+1,none⟩) hg2).trans (uh Hcl2 (i+1) (by simp;omega));rw [Nat.add_comm 1 i]
     simpa using this⟩⟩)
    replace k1:=bl k1 (uh Hb3);replace W1:=Z9 ((uh W1).trans ((uh Hb3).mono hzW));have HR:=Z9 (fun w9 (hb9:Below wq.heap.size wq w9)=>I5 (w:=w9) ((j:Int)+1) wd ((uh Hpv3).below hb9) (uh HT2 w9 ((uh Hb3).trans (hb9.mono (uh Hb3).size))) (uh HT) (uh HL) (fun p hp=>uh Hsz p (by simp [hp])) ((uh He).below ((uh W1).trans (hb9.mono (uh W1).size))));rw [<-hQ2] at HR;have hfr:=Jp g r.length vcap;generalize (if vcap=1 then some (⟨g,0,none⟩:Addr) else some ⟨g,1,none⟩)=sa at *;clear hQ2 hfound Hno HQ;rw [hst];go_upto_region 6 with fail;clear hst;have c0:=(uh kf).cell (i:=0) (v:= .int .i64 ((j:Int)+1)) rfl;have c1:=(uh kf).cell (i:=1) (v:= .string (bs wd)) rfl;have c2:=(uh kf).cell (i:=2) (v:= .slice pa t.length pcap) rfl;obtain ⟨b0,b1,b2,b3,bb,hres⟩:=Gv Q;rw [hres] at HR;have HRes:=Z9 hres;clear hres;have kd:=bl k1 (Z2 _ _).drew
    go_region_with (go_at_call 21;refine (uh HR _ (Z2 _ _).drew).mono ?_;rintro e w9 ⟨rfl,hb9⟩;have k9:=bl kd hb9;have z0:=(uh k9).cell (i:=0) (v:= .int .i64 0) rfl;have z1:=(uh k9).cell (i:=1) (v:= .int .i64 0) rfl;have z2:=(uh k9).cell (i:=2) (v:= .int .i64 0) rfl;have z3:=(uh k9).cell (i:=3) (v:= .int .i64 0) rfl;have f0:=(uh k9).free 0;have f1:=(uh k9).free 1;have f2:=(uh k9).free 2;have f3:=(uh k9).free 3;have HB9:Hid (Below w.heap.size w w9):=Z9 ((uh W1).trans (((Z2 _ _).drew.trans hb9).mono (uh W1).size));clear hb9)
    all_goals
     go_wp2_with fail;refine Zz (v:= .tuple #[.agg #[.int .i64 b0,.int .i64 b1,.int .i64 b2,.int .i64 b3],.bool bb]) (by simp [results,results8,go_sem, *]) rfl ⟨by rw [uh HRes],?_⟩
     iterate 4 (refine YU ?_ (by show _<=w.heap.size;omega) _)
     exact uh HB9
   ·have hst:=GC hk
    have Hk:Hid (Zt.getD j [] ≠ w0):=Z9 (by rw [uh Hwd];exact hk);clear hk;rw [hst];go_wp2_with fail;go_roundw
    case rel=>exact ⟨j+1,by omega,by go_num,fun q hq=>by
     by_cases e:q=j
     ·rw [e];exact uh Hk
     ·exact uh Hno q (by omega),uh Hb3⟩
    case measure=>exact ms
  ·obtain rfl:j=14:=by omega
   have e1:Q=none:=(uh HQ).symm.trans (Kk (uh Hsp) (uh Hno));have E1:=Z9 e1;replace k1:=bl k1 (uh Hb);have hB:Below w.heap.size w wr:=(uh W1).trans ((uh Hb).mono hzW);have HB:=Z9 hB;have z0:=(uh k1).cell (i:=0) (v:= .int .i64 0) rfl;have z1:=(uh k1).cell (i:=1) (v:= .int .i64 0) rfl;have z2:=(uh k1).cell (i:=2) (v:= .int .i64 0) rfl;have z3:=(uh k1).cell (i:=3) (v:= .int .i64 0) rfl;obtain ⟨f0,f1,f2,f3⟩:=(uh k1).f4;clear hB e1;go_wp2_with fail;refine Zz (v:= .tuple #[.agg #[.int .i64 0,.int .i64 0,.int .i64 0,.int .i64 0],.bool false]) (by simp [results,results8,go_sem, *]) rfl ⟨by rw [uh E1];rfl,?_⟩
   iterate 4 (refine YU ?_ (by show _<=w.heap.size;omega) _)
   exact uh HB
open Go.ChangeShapes Go.WideShapes Go.ChangeAt Go.RowKit Go.Proofs.Tryz
theorem Gf : "*" ++ "errors.errorString" = "*errors.errorString" := by decide
theorem Gw (u : TypeId) (h : prog.typeName? 3 u = some "*errors.errorString") : u = 190 :=
 typeName_ptr_named (nm := "errors.errorString") (by rw [Gf]; kernel_rfl) (by kernel_rfl) (by decide) u (by rw [Gf]; exact h)
theorem sentinel {n : String} {g : Nat} {text : List UInt8} {r : List (String × DataW Unit)} {W : World} (h : laidMet prog ((n, .iface "*errors.errorString" (.ptr (.agg [.lit (.string text)]))) :: r) W)
  (hg:prog.globalNamed n=some g) (ht:(prog.globals[g]?).map (·.type)=some 91):∃ ev,W.cell? ⟨g,0,none⟩=some ev/\IB ev:=by
 obtain ⟨a,s,hv,_⟩:=laid_sentinel h hg ht underlying91 Gw underlying190 underlying192 rfl rfl underlying9 (by kernel_rfl) (by kernel_rfl);exact ⟨_,by rw [World.var?_cell hg hv 0];rfl,.inr ⟨_,_,rfl⟩⟩
theorem PQ {W:World} (h:laidMetH prog Rows.fnActTextRow.laid W) (hsh:W.ShapedOpen prog):Env W:=by
 rw [MakeChecks.laidMetH_plain _ _ _ (by kernel_rfl)] at h;have h2:=laidMet.tail (laidMet.tail h);have h4:=laidMet.tail (laidMet.tail h2)
 exact ⟨Go.Lib.tabIs_of_head (t:=154) (e:=129) (n:=20) (zs:=Go.Lib.pow10Tab) Gp (by kernel_rfl) underlying154 underlying129 (by kernel_rfl) (by kernel_rfl) h2,
  cell_of_shapedOpen_int (zero:=#[.int .i64 0]) hsh (by decide +kernel) (by kernel_rfl) rfl (by kernel_rfl) (by kernel_rfl) underlying3,
  sentinel (laidMet.tail h4) (by kernel_rfl) (by kernel_rfl),sentinel h4 (by kernel_rfl) (by kernel_rfl)⟩
theorem Xt {H:Type} {enc:TypeId × Value->H} {a:Assume} {C:Checked} {os:Os} {f:FuncId} {fn:Func} {s:ChangeSpec} {conds:List PathCond} {apart fresh handsOn again:Bool} {X:World->Array Value->Prop}
  (hX:∀ (w w':World) (args:Array Value),w.heap=w'.heap->X w args->X w' args)
  (own:ownKnob C.prog.godebug=none) (started:os.Started) (noInit:C.prog.inits.idxOf? f=none) (hfn:C.prog.funcs[f]?=some fn)
  (witness:∃ (w:World) (tape:Tape) (i:Input),w.os=os/\(w.forCall tape i).Shaped C.prog/\i.vars=[]/\Input.okWide C.prog (w.forCall tape i) .any w.heap.size f i/\
   ((s.pre enc C.prog fn conds apart (w.forCall tape i).memory i.args/\X (w.forCall tape i).memory i.args)/\sizedMet enc C.prog fn (OpenSpec.ofChange s) apart (w.forCall tape i).memory i.args)/\a.holds C.prog (lone (Frame.enter C.prog f i.args .normal) [] (w.forCall tape i)))
  (contract:∀ (W:World) (base:Nat) (args:Array Value) (ds gs:List (DataW H)) (before:List MemPlace),
   (∀ (j:Nat) t v,fn.params[j]?=some t->args[j]?=some v->Value.okWide C.prog W .any base t v)->
   DataW.Whole enc C.prog fn.params.toList s.vars apart W args.toList ds gs before->
   conds.all (PathCond.test C.prog ⟨fn.params.toList,ds,s.plain.varTypes C.prog,gs⟩)=true->
   X W args->W.ShapedOpen C.prog->
   Calls C.prog f args W fun e W'=> ∃ v,e= .returned v/\s.post enc C.prog fn apart fresh handsOn again W args v W') :
  ReturnsInHanded a C os f .any (fun w args=>(s.pre enc C.prog fn conds apart w args/\X w args)/\sizedMet enc C.prog fn (OpenSpec.ofChange s) apart w args) (s.post enc C.prog fn apart fresh handsOn again):=by
 refine returnsInHanded_of_calls own started noInit witness ?_;intro w tape i _ hsh _ hok hpre hholds;obtain ⟨_,_,_,fn',hfn',_,_,_,_,hval⟩:=hok;have e:fn'=fn:=Option.some.inj (hfn'.symm.trans hfn);subst e;obtain ⟨⟨⟨ds,gs,before,hw,hc⟩,hx⟩,hz⟩:=hpre;have hw':=DataW.Whole.of_heap (w':=w.forCall tape i) (by rfl) hw;refine (contract (w.forCall tape i) w.heap.size i.args ds gs before hval hw' hc (hX _ _ _ (by rfl) hx) hsh).mono fun e W' ⟨v,he,hp⟩=> ?_;subst he;exact ChangeSpec.post_blind hp
end Go.Proofs.YtmdgokjeobnnaaaGreatDoor
