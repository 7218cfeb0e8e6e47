/- Part 4 of what the proof rests on. No condition but those that a theorem names. -/
import Derived.Test.YtamgfpdahadnfaaGreatDoorXf01
import Derived.Deep.QuietTactic
import Derived.BigQuiet
import Derived.WalkMore
import Derived.Below
import Derived.LaidEql
import Derived.Stop.Asserts
import Derived.RowKitTokens
set_option maxHeartbeats 8000000
set_option maxRecDepth 100000
namespace Go.Proofs.YtamgfpdahadnfaaGreatDoor
open Go.ChangeShapes Go.WideShapes Go.ChangeAt Go.RowKit
set_option linter.unusedVariables false
def Wl (work weight carry:Int):Bool:=inB work 0 1000000000 && (inB weight 1 100000 && inB carry 0 (weight-1))
def SJ (work weight carry:Int):Int:=if Wl work weight carry then (1024*work+carry) / weight else -1
def SI (work weight carry:Int):Int:=if Wl work weight carry then (1024*work+carry)%weight else 0
theorem Cm {a b c:Int} (ha:inB a 0 1000000000=true) (hb:inB b 1 100000=true) (hc:inB c 0 (b-1)=true):Wl a b c=true:=by unfold Wl;simp [ha,hb,hc]
theorem EI {a b c:Int} (h:Wl a b c=true):0<=a/\a<=1000000000/\1<=b/\b<=100000/\0<=c/\c<b:=by
 unfold Wl at h;simp only [ZL] at h;obtain ⟨h1,h2,h3⟩:=h;have:=ZJ h1;have:=ZJ h2;have:=ZJ h3;omega
theorem EH {a b c:Int} (a0:0<=a) (a1:a<=1000000000) (b0:1<=b) (b1:b<=100000) (c0:0<=c) (c1:c<b):Wl a b c=true:=Cm (Zp a0 a1) (Zp b0 b1) (Zp c0 (by omega))
theorem Kq {a b c:Int} (h:Wl a b c=true):SJ a b c=(1024*a+c) / b/\SI a b c=(1024*a+c)%b:=by unfold SJ SI;simp [h]
def Wi (x:Int):Bool:=inB x (-1000000000000) 1000000000000
def Vg (h m:Int):Bool:=(Wi h && Wi m) && inB (h-m) (-20000) 63000
def YH (h m:Int):Int:=if Wi m then max h (m-20000) else h
def Zr (h f t:Int):Int:=if Wi h && (Wi f && Wi t) then h-f+t else h
def Zv (m f:Int):Int:=if Wi m && Wi f then min (max m f) 900000000000 else m
theorem Rn {x:Int} (h:Wi x=true) : -1000000000000<=x/\x<=1000000000000:=ZJ h
theorem Dc (x y:Int):([x,y].all fun z=>inB z (-1000000000000) 1000000000000)=(Wi x && Wi y):=by simp [Wi]
theorem yw (x y z:Int):([x,y,z].all fun z=>inB z (-1000000000000) 1000000000000)=(Wi x && (Wi y && Wi z)):=by simp [Wi]
theorem yS (h m:Int):([h].all fun z=>inB z (m-20000) (m+63000))=inB (h-m) (-20000) 63000:=by
 simp only [List.all_cons,List.all_nil,Bool.and_true];unfold inB
 congr 1
 exact propext ⟨fun h=>by omega,fun h=>by omega⟩
theorem L8 {x:Int} (h0 : -1000000000000<=x) (h1:x<=1000000000000):Wi x=true:=Zp h0 h1
theorem Av {h f t:Int} (h0 : -1000000000000<=h) (h1:h<=1000000000000) (f0 : -1000000000000<=f) (f1:f<=1000000000000) (t0 : -1000000000000<=t) (t1:t<=1000000000000):Zr h f t=h-f+t:=by
 unfold Zr;rw [L8 h0 h1,L8 f0 f1,L8 t0 t1];rfl
theorem J8 {m f:Int} (m0 : -1000000000000<=m) (m1:m<=1000000000000) (f0 : -1000000000000<=f) (f1:f<=1000000000000):Zv m f=min (max m f) 900000000000:=by
 unfold Zv;rw [L8 m0 m1,L8 f0 f1];rfl
def Ag (J:Nat->Act->World->Prop) (Q:Exit->Act->World->Prop):Exit->Act->World->Prop
 | .goto l,a,w=>J l a w
 | e,a,w=>Q e a w
theorem J0 {J:Nat->Act->World->Prop} {Q:Exit->Act->World->Prop} {a:Act} {w:World} : Ag J Q .ret a w=Q .ret a w:=rfl
theorem JI {P:Program} {a:Act} {w:World} {Q:Exit->Act->World->Prop} {c:Code} (J:Nat->Act->World->Prop) (μ:Nat->Act->World->Nat)
  (first:c.wp P (Ag J Q) a w)
  (pass:∀ l a w,J l a w-> ∃ rest,findLabel c l=some rest/\rest.wp P (Ag (fun l' a' w'=>J l' a' w'/\μ l' a' w'<μ l a w) Q) a w):(Code.scope c).wp P Q a w:=by
 intro b k cs
 have key:∀ n l a w,μ l a w=n->J l a w-> ∃ rest,findLabel c l=some rest/\ ∃ e a' w',Q e a' w'/\Arrives P (lone (b.at a (.code rest:: .inScope c::k)) cs w) b k cs e a' w':=by
  intro n
  induction n using Nat.strongRecOn with
  | _ n ih=>
   intro l a w hn hJ;obtain ⟨rest,hf,hp⟩:=pass l a w hJ;refine ⟨rest,hf,?_⟩;obtain ⟨e,a₁,w₁,hq,harr⟩:=hp b (.inScope c::k) cs;cases e with
   | normal=>exact ⟨.normal,a₁,w₁,hq,Steps.trans harr (.one step_inScope)⟩
   | exit id=>exact ⟨.exit id,a₁,w₁,hq,fun k' hk=>harr k' (by simp [exitTo,hk])⟩
   | goto l'=>
    obtain ⟨hJ',hlt⟩:=hq;obtain ⟨rest',hf',e₂,a₂,w₂,hq₂,harr₂⟩:=ih _ (by omega) l' a₁ w₁ rfl hJ';exact ⟨e₂,a₂,w₂,hq₂,.of_steps (harr _ (by simp [gotoIn,hf'])) harr₂⟩
   | ret=>exact ⟨_,a₁,w₁,hq,harr⟩
   | panic ch=>exact ⟨_,a₁,w₁,hq,harr⟩
   | outgrown=>exact ⟨_,a₁,w₁,hq,harr⟩
 obtain ⟨e,a₁,w₁,hq,harr⟩:=first b (.inScope c::k) cs
 cases e with
 | normal=>exact ⟨.normal,a₁,w₁,hq,.head step_scope (Steps.trans harr (.one step_inScope))⟩
 | exit id=>exact ⟨.exit id,a₁,w₁,hq,fun k' hk=> .head step_scope (harr k' (by simp [exitTo,hk]))⟩
 | goto l'=>
  obtain ⟨rest',hf',e₂,a₂,w₂,hq₂,harr₂⟩:=key _ l' a₁ w₁ rfl hq;exact ⟨e₂,a₂,w₂,hq₂,.of_steps (.head step_scope (harr _ (by simp [gotoIn,hf']))) harr₂⟩
 | ret=>exact ⟨_,a₁,w₁,hq,.of_steps (.one step_scope) harr⟩
 | panic ch=>exact ⟨_,a₁,w₁,hq,.of_steps (.one step_scope) harr⟩
 | outgrown=>exact ⟨_,a₁,w₁,hq,.of_steps (.one step_scope) harr⟩
theorem QI (lo n hi:Int) (w:World):Calls Tryz.prog 181 #[.int .i64 lo,.int .i64 n,.int .i64 hi] w fun e w'=>e= .returned (.bool (inB n lo hi))/\w'=w:=by
 by_cases h1:lo<=n
 ·by_cases h2:n<=hi
  all_goals
   go_enter Tryz.func181,Tryz.ntmps181
   go_wp2
   go_ret;exact ⟨Z5 (by unfold inB;simp [h1,h2]),rfl⟩
 ·go_enter Tryz.func181,Tryz.ntmps181
  go_wp2
  go_ret;exact ⟨Z5 (Wy (by omega)).symm,rfl⟩
theorem So (f need:Int) (w:World) (f0:0<=f) (f1:f<=1000000) (n0:0<=need) (n1:need<=2000000) :
  Calls Tryz.prog 315 #[.int .i64 f,.int .i64 need] w fun e w'=>e= .returned (.bool (decide (5*need<=4*f)))/\w'=w:=by
 go_enter Tryz.func315,Tryz.ntmps315;go_wp2_with fail;go_ret;exact ⟨Z5 rfl,rfl⟩
theorem XJ (x:Int) (w:World):Calls Tryz.prog 171 #[.int .i64 x] w fun e w'=>e= .returned (.bool (inB x 0 1000000))/\w'=w:=by
 go_enter Tryz.func171,Tryz.ntmps171;go_wp2_with (go_at_call 59;refine (ZU _ _ _ _).mono ?_;rintro e w' ⟨rfl,rfl⟩)
 go_ret;exact ⟨rfl,rfl⟩
theorem WZ (b cap:Nat) (zs:List Int) (w:World) (hl:zs.length<=1000) (hc:∀ k,k<zs.length->w.cell? ⟨b,k,none⟩=some (.int .i64 (zs.getD k 0))) :
  Calls Tryz.prog 374 #[.slice (some ⟨b,0,none⟩) zs.length cap] w fun e w'=>e= .returned (.bool (zs.all fun z=>inB z 0 1000000))/\w'=w:=by
 have Hc:=Z9 hc;clear hc;go_enter Tryz.func374,Tryz.ntmps374;go_wp2_with fail
 refine JI (fun l a' w'=>w'=w/\ ∃ (r:Bool) (k:Nat) (u4 u5 u6 u7 u8 u9 u10 u11 u12 u13 u14 u15:Value),k<=zs.length/\a'={ tmps:=#[.slice (some ⟨b,0,none⟩) zs.length cap,undef,.bool r,.int .i64 k,u4,u5,u6,u7,u8,u9,u10,u11,u12,u13,u14,u15],defers:=[] }/\
   ((l=0/\(zs.all fun z=>inB z 0 1000000)=true)\/(l=1/\((zs.take k).all fun z=>inB z 0 1000000)=true)\/(l=2/\(zs.all fun z=>inB z 0 1000000)=false))) (fun l a' _=>if l=1 then zs.length+1-(intOf (a'.tmps.getD 3 undef)).toNat else 0) ?_ ?_
 ·by_cases hlt:0<zs.length
  ·have hcell:=uh Hc 0 hlt
   generalize hz:zs.getD 0 0=z at hcell;have Hz:=Z9 hz;clear hz;cases hp:inB z 0 1000000
   ·go_wp2_with fail
    go_step3
    go_wp2_with (go_at_call 181;refine (QI _ _ _ _).mono ?_;rintro e w' ⟨rfl,rfl⟩)
    go_step3
    exact ⟨rfl,false,0,_,_,_,_,_,_,_,_,_,_,_,_,Zz _,rfl,.inr (.inr ⟨rfl,Sb hlt (uh Hz) hp⟩)⟩
   ·go_wp2_with fail
    go_step3
    go_wp2_with (go_at_call 181;refine (QI _ _ _ _).mono ?_;rintro e w' ⟨rfl,rfl⟩)
    go_step3
    exact ⟨rfl,false,1,_,_,_,_,_,_,_,_,_,_,_,_,hlt,rfl,.inr (.inl ⟨rfl,Ph (k:=0) hlt (uh Hz) (by simp) hp⟩)⟩
  ·obtain rfl:zs=[]:=List.eq_nil_of_length_eq_zero (by omega)
   go_wp2_with fail
   go_step3
   go_wp2_with fail
   go_step3
   exact ⟨rfl,false,0,_,_,_,_,_,_,_,_,_,_,_,_,Zz _,rfl,.inl ⟨rfl,rfl⟩⟩
 ·rintro l a' w' ⟨rfl,r,k,u4,u5,u6,u7,u8,u9,u10,u11,u12,u13,u14,u15,hk,rfl,⟨rfl,ha⟩ | ⟨rfl,ha⟩ | ⟨rfl,ha⟩⟩
  ·refine ⟨_,rfl,?_⟩
   go_wp2_with fail;rw [J0];go_ret;exact ⟨Z5 ha.symm,rfl⟩
  ·refine ⟨_,rfl,?_⟩
   have Ha:=Z9 ha;clear ha;by_cases hlt:k<zs.length
   ·have hcell:=uh Hc k hlt
    have hne:((k:Int) ==(zs.length:Int))=false:=by simp;omega
    generalize hz:zs.getD k 0=z at hcell;have Hz:=Z9 hz;clear hz;cases hp:inB z 0 1000000
    ·go_wp2_with (go_at_call 181;refine (QI _ _ _ _).mono ?_;rintro e w' ⟨rfl,rfl⟩)
     go_step3
     refine ⟨⟨rfl,r,k,_,_,_,_,_,_,_,_,_,_,_,_,hk,rfl,.inr (.inr ⟨rfl,Sb hlt (uh Hz) hp⟩)⟩,?_⟩;simp [intOf];omega
    ·go_wp2_with (go_at_call 181;refine (QI _ _ _ _).mono ?_;rintro e w' ⟨rfl,rfl⟩)
     go_step3
     refine ⟨⟨rfl,r,k+1,_,_,_,_,_,_,_,_,_,_,_,_,hlt,by go_num,.inr (.inl ⟨rfl,Ph hlt (uh Hz) (uh Ha) hp⟩)⟩,?_⟩;simp [intOf];omega
   ·obtain rfl:k=zs.length:=by omega
    go_wp2_with fail
    go_step3
    refine ⟨⟨rfl,r,zs.length,_,_,_,_,_,_,_,_,_,_,_,_,hk,rfl,.inl ⟨rfl,?_⟩⟩,?_⟩
    ·rw [<-uh Ha,List.take_of_length_le (by omega)]
    ·simp [intOf]
  ·refine ⟨_,rfl,?_⟩
   go_wp2_with fail;rw [J0];go_ret;exact ⟨Z5 ha.symm,rfl⟩
def amt (x:Int):Bool:=inB x 0 1000000
def Ww (w u f:Int):Bool:=(amt w && (amt u && amt f)) && decide (5*(w+u)<=4*f)
def VI (u f:Int):Bool:=(amt u && amt f) && !decide (5*u<=4*f)
def XE (u f:Int):Int:=if amt u && amt f then f-u else -1000001
theorem Aw (u f:Int):decide (4*f<5*u)= !decide (5*u<=4*f):=by
 by_cases h:5*u<=4*f
 ·rw [decide_eq_true h,decide_eq_false (by omega)];rfl
 ·rw [decide_eq_false h,decide_eq_true (by omega)];rfl
theorem P4 {x:Int} (h:amt x=true):0<=x/\x<=1000000:=ZJ h
theorem CZ (x y:Int):([x,y].all fun z=>inB z 0 1000000)=(amt x && amt y):=by simp [amt]
theorem yq (x y z:Int):([x,y,z].all fun z=>inB z 0 1000000)=(amt x && (amt y && amt z)):=by simp [amt]
theorem NJ (u f:Int) (w:World):Calls Tryz.prog 372 #[.int .i64 u,.int .i64 f] w fun e w'=>e= .returned (.int .i64 (XE u f))/\Below w.heap.size w w':=by
 cases h:amt u && amt f
 ·have hs:XE u f= -1000001:=by unfold XE;rw [h];rfl
  have Hs:=Z9 hs;go_enter Tryz.func372,Tryz.ntmps372;go_wp2_with fail;refine (WZ _ _ [u,f] _ (by simp) ?_).mono ?_
  ·intro k hk
   simp at hk
   match k,hk with
   | 0,_=>simp
   | 1,_=>simp
  rintro e w' ⟨rfl,rfl⟩;rw [CZ,h];go_wp2_with fail;go_ret;exact ⟨ZA (uh Hs).symm,(ba _ _)⟩
 ·have hs:XE u f=f-u:=by unfold XE;rw [h];rfl
  have Hs:=Z9 hs;have h':=h;simp only [ZL] at h';obtain ⟨u0,u1⟩:=P4 h'.1;obtain ⟨f0,f1⟩:=P4 h'.2;go_enter Tryz.func372,Tryz.ntmps372;go_wp2_with fail;refine (WZ _ _ [u,f] _ (by simp) ?_).mono ?_
  ·intro k hk
   simp at hk
   match k,hk with
   | 0,_=>simp
   | 1,_=>simp
  rintro e w' ⟨rfl,rfl⟩;rw [CZ,h];go_wp2_with fail;go_ret;exact ⟨ZA (uh Hs).symm,(ba _ _)⟩
theorem NK (u f:Int) (w:World):Calls Tryz.prog 371 #[.int .i64 u,.int .i64 f] w fun e w'=>e= .returned (.bool (VI u f))/\Below w.heap.size w w':=by
 cases h:amt u && amt f
 ·have hs:VI u f=false:=by unfold VI;rw [h];rfl
  have Hs:=Z9 hs;go_enter Tryz.func371,Tryz.ntmps371;go_wp2_with fail;refine (WZ _ _ [u,f] _ (by simp) ?_).mono ?_
  ·intro k hk
   simp at hk
   match k,hk with
   | 0,_=>simp
   | 1,_=>simp
  rintro e w' ⟨rfl,rfl⟩;rw [CZ,h];go_wp2_with fail;go_ret;exact ⟨Z5 (uh Hs).symm,(ba _ _)⟩
 ·have hs:VI u f= !decide (5*u<=4*f):=by unfold VI;rw [h];rfl
  have Hs:=Z9 hs;have h':=h;simp only [ZL] at h';obtain ⟨u0,u1⟩:=P4 h'.1;obtain ⟨f0,f1⟩:=P4 h'.2;go_enter Tryz.func371,Tryz.ntmps371;go_wp2_with fail;refine (WZ _ _ [u,f] _ (by simp) ?_).mono ?_
  ·intro k hk
   simp at hk
   match k,hk with
   | 0,_=>simp
   | 1,_=>simp
  rintro e w' ⟨rfl,rfl⟩;rw [CZ,h];go_wp2_with (go_at_call 315;refine (So f u _ f0 f1 u0 (by omega)).mono ?_;rintro e w' ⟨rfl,rfl⟩)
  go_ret;exact ⟨Z5 (uh Hs).symm,(ba _ _)⟩
theorem Me (x u f:Int) (w:World):Calls Tryz.prog 373 #[.int .i64 x,.int .i64 u,.int .i64 f] w fun e w'=>e= .returned (.bool (Ww x u f))/\Below w.heap.size w w':=by
 cases h:amt x && (amt u && amt f)
 ·have hs:Ww x u f=false:=by unfold Ww;rw [h];rfl
  have Hs:=Z9 hs;go_enter Tryz.func373,Tryz.ntmps373;go_wp2_with fail;refine (WZ _ _ [x,u,f] _ (by simp) ?_).mono ?_
  ·intro k hk
   simp at hk
   match k,hk with
   | 0,_=>simp
   | 1,_=>simp
   | 2,_=>simp
  rintro e w' ⟨rfl,rfl⟩;rw [yq,h];go_wp2_with fail;go_ret;exact ⟨Z5 (uh Hs).symm,(ba _ _)⟩
 ·have hs:Ww x u f=decide (5*(x+u)<=4*f):=by unfold Ww;rw [h];rfl
  have Hs:=Z9 hs;have h':=h;simp only [ZL] at h';obtain ⟨x0,x1⟩:=P4 h'.1;obtain ⟨u0,u1⟩:=P4 h'.2.1;obtain ⟨f0,f1⟩:=P4 h'.2.2;go_enter Tryz.func373,Tryz.ntmps373;go_wp2_with fail;refine (WZ _ _ [x,u,f] _ (by simp) ?_).mono ?_
  ·intro k hk
   simp at hk
   match k,hk with
   | 0,_=>simp
   | 1,_=>simp
   | 2,_=>simp
  rintro e w' ⟨rfl,rfl⟩;rw [yq,h];go_wp2_with (go_at_call 315;refine (So f (x+u) _ f0 f1 (by omega) (by omega)).mono ?_;rintro e w' ⟨rfl,rfl⟩)
  go_ret;exact ⟨Z5 (uh Hs).symm,(ba _ _)⟩
theorem Up (x u f:Int) (w:World):Calls Tryz.prog 167 #[.int .i64 x,.int .i64 u,.int .i64 f] w fun e w'=>e= .returned (.bool (Ww x u f))/\w'=w:=by
 cases hx:inB x 0 1000000
 ·go_enter Tryz.func167,Tryz.ntmps167
  go_wp2_with (go_at_call 171;refine (XJ _ _).mono ?_;rintro e w' ⟨rfl,rfl⟩)
  go_ret;exact ⟨Z5 (by simp [Ww,amt,hx]),rfl⟩
 ·cases hu:inB u 0 1000000
  ·go_enter Tryz.func167,Tryz.ntmps167
   go_wp2_with (go_at_call 171;refine (XJ _ _).mono ?_;rintro e w' ⟨rfl,rfl⟩)
   go_ret;exact ⟨Z5 (by simp [Ww,amt,hx,hu]),rfl⟩
  ·cases hf:inB f 0 1000000
   ·go_enter Tryz.func167,Tryz.ntmps167
    go_wp2_with (go_at_call 171;refine (XJ _ _).mono ?_;rintro e w' ⟨rfl,rfl⟩)
    go_ret;exact ⟨Z5 (by simp [Ww,amt,hx,hu,hf]),rfl⟩
   ·obtain ⟨x0,x1⟩:=ZJ hx
    obtain ⟨u0,u1⟩:=ZJ hu;obtain ⟨f0,f1⟩:=ZJ hf;go_enter Tryz.func167,Tryz.ntmps167;go_wp2_with (go_at_call 171;refine (XJ _ _).mono ?_;rintro e w' ⟨rfl,rfl⟩)
    go_ret;exact ⟨Z5 (by simp [Ww,amt,hx,hu,hf]),rfl⟩
theorem NS (u f:Int) (w:World):Calls Tryz.prog 169 #[.int .i64 u,.int .i64 f] w fun e w'=>e= .returned (.bool (VI u f))/\w'=w:=by
 cases hu:inB u 0 1000000
 ·go_enter Tryz.func169,Tryz.ntmps169
  go_wp2_with (go_at_call 171;refine (XJ _ _).mono ?_;rintro e w' ⟨rfl,rfl⟩)
  go_ret;exact ⟨Z5 (by simp [VI,amt,hu]),rfl⟩
 ·cases hf:inB f 0 1000000
  ·go_enter Tryz.func169,Tryz.ntmps169
   go_wp2_with (go_at_call 171;refine (XJ _ _).mono ?_;rintro e w' ⟨rfl,rfl⟩)
   go_ret;exact ⟨Z5 (by simp [VI,amt,hu,hf]),rfl⟩
  ·obtain ⟨u0,u1⟩:=ZJ hu
   obtain ⟨f0,f1⟩:=ZJ hf;go_enter Tryz.func169,Tryz.ntmps169;go_wp2_with (go_at_call 171;refine (XJ _ _).mono ?_;rintro e w' ⟨rfl,rfl⟩)
   go_ret;exact ⟨Z5 (by simp [VI,amt,hu,hf,Aw]),rfl⟩
theorem NR (u f:Int) (w:World):Calls Tryz.prog 109 #[.int .i64 u,.int .i64 f] w fun e w'=>e= .returned (.int .i64 (XE u f))/\w'=w:=by
 cases hu:inB u 0 1000000
 ·go_enter Tryz.func109,Tryz.ntmps109
  go_wp2_with (go_at_call 171;refine (XJ _ _).mono ?_;rintro e w' ⟨rfl,rfl⟩)
  go_ret;exact ⟨ZA (by simp [XE,amt,hu]),rfl⟩
 ·cases hf:inB f 0 1000000
  ·go_enter Tryz.func109,Tryz.ntmps109
   go_wp2_with (go_at_call 171;refine (XJ _ _).mono ?_;rintro e w' ⟨rfl,rfl⟩)
   go_ret;exact ⟨ZA (by simp [XE,amt,hu,hf]),rfl⟩
  ·obtain ⟨u0,u1⟩:=ZJ hu
   obtain ⟨f0,f1⟩:=ZJ hf;go_enter Tryz.func109,Tryz.ntmps109;go_wp2_with (go_at_call 171;refine (XJ _ _).mono ?_;rintro e w' ⟨rfl,rfl⟩)
   go_ret;exact ⟨ZA (by simp [XE,amt,hu,hf]),rfl⟩
set_option linter.unusedSimpArgs false
abbrev YA (a:Addr):Value:= .iface 288 (.pointer (some a))
abbrev OY (b:Nat):Value:= .iface 96 (.pointer (some ⟨b,0,none⟩))
abbrev rty (t:Nat):Value:= .iface 193 (.agg #[.pointer (some ⟨6,t,none⟩)])
theorem tyE (v:Value) (w:World):(callFunc 209 #[.iface 288 v]).run Tryz.prog w= .ok (.value (rty 288)) w:=by
 rw [@run_callFunc_extern Tryz.prog 209 _ Extern.ReflectliteType.typeOf Tryz.func209 (by kernel_rfl) (by kernel_rfl) (by kernel_rfl) (by kernel_rfl)]
 kernel_rfl
theorem tyR (v:Value) (w:World):(callFunc 209 #[.iface 96 v]).run Tryz.prog w= .ok (.value (rty 96)) w:=by
 rw [@run_callFunc_extern Tryz.prog 209 _ Extern.ReflectliteType.typeOf Tryz.func209 (by kernel_rfl) (by kernel_rfl) (by kernel_rfl) (by kernel_rfl)]
 kernel_rfl
theorem yb (v : Value) (w : World) : (method 428 193 v "Comparable").run Tryz.prog w = .ok (347, v) w := by kernel_rfl
theorem xP (w:World):(callFunc 347 #[.agg #[.pointer (some ⟨6,288,none⟩)]]).run Tryz.prog w= .ok (.value (.bool true)) w:=by
 rw [@run_callFunc_extern Tryz.prog 347 _ (Extern.ReflectliteType.method fun t => do Extern.Rtype.noPackHeld "Comparable" t; pure (.bool (← typeInfo t).comparable)) Tryz.func347 (by kernel_rfl) (by kernel_rfl) (by kernel_rfl) (by kernel_rfl)]
 kernel_rfl
theorem Ej:(Tryz.prog.info? 288).map (·.comparable)=some true:=by kernel_rfl
theorem Ek:(Tryz.prog.info? 315).map (·.size)=some 1:=by kernel_rfl
theorem yG (v:Value) (xT:TypeId) (w:World):(Instr.typeAssert (.iface 288 v) xT 240 true).run Tryz.prog w= .ok (.tuple #[.nilIface,.bool false]) w:=run_typeAssert_lacksB Tryz.underlying240 (by kernel_rfl) (by kernel_rfl) v xT w
theorem OR (v:Value) (xT:TypeId) (w:World):(Instr.typeAssert (.iface 288 v) xT 201 true).run Tryz.prog w= .ok (.tuple #[.nilIface,.bool false]) w:=run_typeAssert_lacksB Tryz.underlying201 (by kernel_rfl) (by kernel_rfl) v xT w
theorem Qd (v:Value) (xT:TypeId) (w:World):(Instr.typeAssert (.iface 288 v) xT 203 true).run Tryz.prog w= .ok (.tuple #[.nilIface,.bool false]) w:=run_typeAssert_lacksB Tryz.underlying203 (by kernel_rfl) (by kernel_rfl) v xT w
theorem yH (v:Value) (xT:TypeId) (w:World):(Instr.typeAssert (.iface 96 v) xT 240 true).run Tryz.prog w= .ok (.tuple #[.nilIface,.bool false]) w:=run_typeAssert_lacksB Tryz.underlying240 (by kernel_rfl) (by kernel_rfl) v xT w
theorem Ma (v:Value) (xT:TypeId) (w:World):(Instr.typeAssert (.iface 96 v) xT 201 true).run Tryz.prog w= .ok (.tuple #[.iface 96 v,.bool true]) w:=run_typeAssert_hasB Tryz.underlying201 (by kernel_rfl) v xT w
theorem Ds (v : Value) (w : World) : (method 428 96 v "Unwrap").run Tryz.prog w = .ok (335, v) w := by kernel_rfl
theorem Pu {a b:Addr} {ca cb:Array Value} {ta tb:TypeId} (w:World) (hne:a ≠ b) (ha:w.heap[a.block]?=some (.cells ca ta (0,0))) (hb:w.heap[b.block]?=some (.cells cb tb (0,0))):Calls Tryz.prog 156 #[YA a,YA b] w fun e w'=>e= .returned (.bool false)/\w'=w:=by
 obtain ⟨i,hi,hcmp⟩:=Option.map_eq_some_iff.1 Ej;obtain ⟨j,hj,hjs⟩:=Option.map_eq_some_iff.1 Ek;have tT:=tyE;have cT:=xP;have mR:=yb;have nE:=yG;have uE:=OR;have vE:=Qd;have heq:=run_eql_iface_ptr_other (P:=Tryz.prog) w Tryz.underlying62 Tryz.underlying288 hi hcmp hj (by rw [hjs];decide) hne ha hb;go_enter Tryz.func156,Tryz.ntmps156
 go_wp2
 refine wp_loop_rounds 1 ?_;rw [rounds_succ]
 go_wp2
 go_ret;exact ⟨rfl,rfl⟩
theorem UG (pb:Nat) (b:Addr) (w:World) (h1:w.cell? ⟨pb,6,none⟩=some (YA b)):Calls Tryz.prog 156 #[OY pb,YA b] w fun e w'=>e= .returned (.bool true)/\w'=w:=by
 obtain ⟨i,hi,hcmp⟩:=Option.map_eq_some_iff.1 Ej;obtain ⟨j,hj,hjs⟩:=Option.map_eq_some_iff.1 Ek;have tT:=tyE;have cT:=xP;have mR:=yb;have nW:=yH;have uW:=Ma;have mU:=Ds;have heq:=run_eql_iface_ptr_same (P:=Tryz.prog) w b Tryz.underlying62 Tryz.underlying288 hi hcmp hj;have hty:=run_eql_iface_types (P:=Tryz.prog) 96 288 (.pointer (some ⟨pb,0,none⟩)) (.pointer (some b)) Tryz.underlying62 (by decide) w;go_enter Tryz.func156,Tryz.ntmps156
 go_wp2
 refine wp_loop_rounds 2 ?_;rw [rounds_succ]
 go_wp2
 rw [rounds_succ]
 go_wp2
 go_ret;exact ⟨rfl,rfl⟩
theorem Yx (pb:Nat) {a b:Addr} {ca cb:Array Value} {ta tb:TypeId} (w:World) (h1:w.cell? ⟨pb,6,none⟩=some (YA a)) (hne:a ≠ b) (ha:w.heap[a.block]?=some (.cells ca ta (0,0))) (hb:w.heap[b.block]?=some (.cells cb tb (0,0))):Calls Tryz.prog 156 #[OY pb,YA b] w fun e w'=>e= .returned (.bool false)/\w'=w:=by
 obtain ⟨i,hi,hcmp⟩:=Option.map_eq_some_iff.1 Ej;obtain ⟨j,hj,hjs⟩:=Option.map_eq_some_iff.1 Ek;have tT:=tyE;have cT:=xP;have mR:=yb;have nE:=yG;have uE:=OR;have vE:=Qd;have nW:=yH;have uW:=Ma;have mU:=Ds;have heq:=run_eql_iface_ptr_other (P:=Tryz.prog) w Tryz.underlying62 Tryz.underlying288 hi hcmp hj (by rw [hjs];decide) hne ha hb;have hty:=run_eql_iface_types (P:=Tryz.prog) 96 288 (.pointer (some ⟨pb,0,none⟩)) (.pointer (some b)) Tryz.underlying62 (by decide) w;go_enter Tryz.func156,Tryz.ntmps156
 go_wp2
 refine wp_loop_rounds 2 ?_;rw [rounds_succ]
 go_wp2
 rw [rounds_succ]
 go_wp2
 go_ret;exact ⟨rfl,rfl⟩
end Go.Proofs.YtamgfpdahadnfaaGreatDoor
