/- Part 5 of what the proof rests on. No condition but those that a theorem names. -/
import Derived.Test.YtgdpaigcmoifbaaGreatDoorXr01
import Derived.Deep.QuietTactic
import Derived.BigQuiet
import Derived.Laws.OwnMore
import Derived.WalkMore
import Derived.Below
set_option maxHeartbeats 8000000
set_option maxRecDepth 100000
namespace Go.Proofs.YtgdpaigcmoifbaaGreatDoor
open Go.ChangeShapes Go.WideShapes Go.ChangeAt Go.RowKit Go.Proofs.Tryz
set_option linter.unusedVariables false
variable {w w' w0 w1 w2 w3 w₀ wr W W' X A B C : World} {v v0 v1 v2 v3 v4 u u0 u1 u2 u3 u4 : Value}
def IntsAt (n₀:Nat) (w:World) (v:Value) (zs:List Int):Prop:=w.ownsRow n₀ 2 1 v zs.length (zs.map (Value.int .i64))
theorem IntsAt.view {n₀:Nat}  {zs:List Int} (h:IntsAt n₀ w v zs) :
  ∃ (a:Option Addr) (cap:Nat),v= .slice a zs.length cap/\zs.length<=9223372036854775807/\(zs=[]\/ ∃ g,a=some ⟨g,0,none⟩/\n₀<=g/\g<w.heap.size/\
   (∀ k,k<zs.length->w.cell? ⟨g,k,none⟩=some (.int .i64 (zs.getD k 0)))/\(∀ k,w.frozen? ⟨g,k,none⟩=false)):=by
 have h':=h
 rcases h.2 with ⟨rfl,hz⟩ | ⟨g,cap,cur,rfl,hb,hg,hnc,hcm,r⟩
 ·exact ⟨none,0,by rw [hz],by omega,.inl (List.eq_nil_of_length_eq_zero hz)⟩
 ·refine ⟨_,cap,rfl,by unfold maxLen at hcm;omega,.inr ⟨g,rfl,hb,(Array.getElem?_eq_some_iff.1 hg).1,fun k hk=> ?_,fun k=>World.ownsRow.frozenAt h' k⟩⟩
  rw [World.ownsRow.cellAt h' k (by omega)];simp [List.getElem?_eq_getElem hk]
theorem NC {a b c:World} {row:Option Nat} (h:a.grownBy b row) (k:b.grownBy c row):a.grownBy c row:=
 ⟨k.os.trans h.os,k.tape.trans h.tape,k.output.trans h.output,YV h.size k.size,fun i hi hn=>(k.block i (ZD hi h.size) hn).trans (h.block i hi hn)⟩
theorem LL (a:World) (row:Option Nat):a.grownBy a row:=⟨rfl,rfl,rfl,ZY _,fun _ _ _=>rfl⟩
theorem IntsAt.stored {n₀:Nat} {g n cap:Nat} {zs:List Int} (h:IntsAt n₀ w (.slice (some ⟨g,0,none⟩) n cap) zs) (hn:zs.length=n) (j:Nat) (u:Int) :
  IntsAt n₀ (w.setCell ⟨g,j,none⟩ (.int .i64 u)) (.slice (some ⟨g,0,none⟩) n cap) (zs.set j u)/\w.grownBy (w.setCell ⟨g,j,none⟩ (.int .i64 u)) (some g):=by
 subst hn;have:=World.ownsRow.stored h j (.int .i64 u);refine ⟨?_,this.2⟩;unfold IntsAt;rw [UX,List.map_set];exact this.1
def UA (k:Int) (n:Nat):List Int:=(List.range n).map fun i:Nat=>k+(i:Int)
theorem Vu (k:Int) (n:Nat):(UA k n).length=n:=by simp [UA]
theorem FD (k:Int) (n i:Nat) (h:i<n):(UA k n).getD i 0=k+i:=by simp [UA,h]
def marked (zs:List Int) (k:Int) (j:Nat):List Int:=UA k j++zs.drop j
theorem Vm {zs:List Int} {k:Int} {j:Nat} (h:j<=zs.length):(marked zs k j).length=zs.length:=by simp [marked,Vu];omega
theorem Kf {zs:List Int} {k:Int} {j:Nat} (h:j<zs.length):(marked zs k j).set j (k+j)=marked zs k (j+1):=by
 unfold marked;rw [List.set_append_right _ _ (by simp [Vu]),Vu,Nat.sub_self,List.drop_eq_getElem_cons h,List.set_cons_zero];simp [UA,List.range_succ]
theorem Iw (zs:List Int) (k:Int):marked zs k zs.length=UA k zs.length:=by simp [marked]
theorem Me {n₀:Nat}  {zs:List Int} (k:Int) (hv:IntsAt n₀ w v zs) (hk0:0<=k) (hk1:k<=1000000000000000) (hl:zs.length<=1000000000) :
  Calls prog 49 #[v,.int .i64 k] w fun e w'=>e= .returned (.int .i64 (k+zs.length))/\IntsAt n₀ w' v (UA k zs.length)/\w.grownBy w' v.ownBlock:=by
 have hv0:=Z9 hv;obtain ⟨a,cap,rfl,hlen,hca⟩:=hv.view;clear hv;go_enter func49,ntmps49;go_wp2_with fail
 go_loopw [5,1] (fun i q wr=> ∃ j:Nat,j<=zs.length/\i= .int .i64 j/\q= .int .i64 (k+j)/\IntsAt n₀ wr (.slice a zs.length cap) (marked zs k j)/\w.grownBy wr (Value.ownBlock (.slice a zs.length cap))) (fun i _ _=>zs.length-(intOf i).toNat)
 case atStart=>exact ⟨0,ZR _,rfl,by simp,uh hv0,LL _ _⟩
 case round=>
  obtain ⟨j,hj,rfl,rfl,hin,hgr⟩:=hrel;by_cases hlt:j<zs.length
  ·rcases hca with rfl | ⟨g,rfl,_,_,_,_⟩
   ·simp at hlt
   obtain ⟨hs1,hs2⟩:=hin.stored (Vm hj) j (k+j);rw [Kf hlt] at hs1;have H1:=Z9 hs1;have H2:=Z9 (NC hgr hs2);have hfz:=World.ownsRow.frozenAt (show wr.ownsRow n₀ 2 1 (.slice (some ⟨g,0,none⟩) (marked zs k j).length cap) (marked zs k j).length _ by rw [Vm hj];have h9:=hin;unfold IntsAt at h9;rwa [Vm hj] at h9) j
   have hcl:∃ c,wr.cell? ⟨g,j,none⟩=some c:=by
    have h9:=hin;unfold IntsAt at h9;rw [Vm hj] at h9;have:=World.ownsRow.cellAt h9 j (by omega);rw [List.getElem?_eq_getElem (by simp [Vm hj];omega)] at this;exact ⟨_,this⟩
   obtain ⟨c,hcl⟩:=hcl;clear hin hgr hs1 hs2;go_wp2_with fail;go_roundw
   case rel=>exact ⟨j+1,by omega,by go_num,by go_num,uh H1,uh H2⟩
   case measure=>exact ms
  ·obtain rfl:j=zs.length:=by omega
   rw [Iw] at hin;go_wp2_with fail;go_ret;exact ⟨rfl,hin,hgr⟩
theorem LS {n₀:Nat}  (k:Int) (n:Nat) (hv:IntsAt n₀ w v (UA k n)) (hk0:0<=k) (hk1:k<=1000000000000000) (hl:n<=1000000000) :
  cE 54 #[v,.int .i64 k] w (.int .i64 (k+n)):=by
 obtain ⟨a,cap,rfl,hlen,hca⟩:=hv.view;clear hv;rw [Vu] at *;go_enter func54,ntmps54;go_wp2_with fail
 go_loop [5,1] (fun i q=> ∃ j:Nat,j<=n/\i= .int .i64 j/\q= .int .i64 (k+j)) (fun i _=>n-(intOf i).toNat)
 case atStart=>exact ⟨0,ZR _,rfl,by simp⟩
 case round=>
  obtain ⟨j,hj,rfl,rfl⟩:=hrel;by_cases hlt:j<n
  ·rcases hca with hz | ⟨g,rfl,_,_,hc,_⟩
   ·have:=congrArg List.length hz;rw [Vu] at this;simp at this;omega
   have h1:=hc j hlt;rw [FD k n j hlt] at h1;clear hc;go_wp2_with fail
   go_round
   case rel=>exact ⟨j+1,by omega,by go_num,by go_num⟩
   case measure=>exact ms
  ·obtain rfl:j=n:=by omega
   go_wp2_with fail;go_ret;exact ⟨rfl,rfl⟩
def Ef (J:Nat->Act->World->Prop) (Q:Exit->Act->World->Prop):Exit->Act->World->Prop
 | .goto l,a,w=>J l a w
 | e,a,w=>Q e a w
theorem MR {J:Nat->Act->World->Prop} {Q:Exit->Act->World->Prop} {a:Act} : Ef J Q .ret a w=Q .ret a w:=rfl
theorem MF {P:Program} {a:Act} {Q:Exit->Act->World->Prop} {c:Code} (J:Nat->Act->World->Prop) (μ:Nat->Act->World->Nat)
  (first:c.wp P (Ef J Q) a w)
  (pass:∀ l a w,J l a w-> ∃ rest,findLabel c l=some rest/\rest.wp P (Ef (fun l' a' w'=>J l' a' w'/\μ l' a' w'<μ l a w) Q) a w):(Code.scope c).wp P Q a w:=by
 intro b k cs
 have key:∀ n l a w,μ l a w=n->J l a w-> ∃ rest,findLabel c l=some rest/\ ∃ e a' w',Q e a' w'/\Arrives P (lone (b.at a (.code rest:: .inScope c::k)) cs w) b k cs e a' w':=by
  intro n
  induction n using Nat.strongRecOn with
  | _ n ih=>
   intro l a w hn hJ;obtain ⟨rest,hf,hp⟩:=pass l a w hJ;refine ⟨rest,hf,?_⟩;obtain ⟨e,a₁,w₁,hq,harr⟩:=hp b (.inScope c::k) cs;cases e with
   | normal=>exact ⟨.normal,a₁,w₁,hq,Steps.trans harr (.one step_inScope)⟩
   | exit id=>exact ⟨.exit id,a₁,w₁,hq,fun k' hk=>harr k' (by simp [exitTo,hk])⟩
   | goto l'=>
    obtain ⟨hJ',hlt⟩:=hq;obtain ⟨rest',hf',e₂,a₂,w₂,hq₂,harr₂⟩:=ih _ (by omega) l' a₁ w₁ rfl hJ';exact ⟨e₂,a₂,w₂,hq₂,.of_steps (harr _ (by simp [gotoIn,hf'])) harr₂⟩
   | ret=>exact ⟨_,a₁,w₁,hq,harr⟩
   | panic ch=>exact ⟨_,a₁,w₁,hq,harr⟩
   | outgrown=>exact ⟨_,a₁,w₁,hq,harr⟩
 obtain ⟨e,a₁,w₁,hq,harr⟩:=first b (.inScope c::k) cs
 cases e with
 | normal=>exact ⟨.normal,a₁,w₁,hq,.head step_scope (Steps.trans harr (.one step_inScope))⟩
 | exit id=>exact ⟨.exit id,a₁,w₁,hq,fun k' hk=> .head step_scope (harr k' (by simp [exitTo,hk]))⟩
 | goto l'=>
  obtain ⟨rest',hf',e₂,a₂,w₂,hq₂,harr₂⟩:=key _ l' a₁ w₁ rfl hq;exact ⟨e₂,a₂,w₂,hq₂,.of_steps (.head step_scope (harr _ (by simp [gotoIn,hf']))) harr₂⟩
 | ret=>exact ⟨_,a₁,w₁,hq,.of_steps (.one step_scope) harr⟩
 | panic ch=>exact ⟨_,a₁,w₁,hq,.of_steps (.one step_scope) harr⟩
 | outgrown=>exact ⟨_,a₁,w₁,hq,.of_steps (.one step_scope) harr⟩
theorem Sr (lo n hi:Int) (w:World):cE 192 #[.int .i64 lo,.int .i64 n,.int .i64 hi] w (.bool (inB n lo hi)):=by
 by_cases h1:lo<=n
 ·by_cases h2:n<=hi
  all_goals
   go_enter func192,ntmps192
   go_wp2
   go_ret;exact ⟨Z5 (by unfold inB;simp [h1,h2]),rfl⟩
 ·go_enter func192,ntmps192
  go_wp2
  go_ret;exact ⟨Z5 (Xt (by omega)).symm,rfl⟩
theorem Ua (f need:Int) (w:World) (f0:0<=f) (f1:f<=1000000) (n0:0<=need) (n1:need<=2000000) :
  cE 281 #[.int .i64 f,.int .i64 need] w (.bool (decide (5*need<=4*f))):=by
 go_enter func281,ntmps281;go_wp2_with fail;go_ret;exact ⟨Z5 rfl,rfl⟩
theorem Yu (x:Int) (w:World):cE 142 #[.int .i64 x] w (.bool (inB x 0 1000000)):=by
 go_enter func142,ntmps142;go_wp2_with (go_at_call 70;refine (ZT _ _ _ _).mono ?_;rintro e w' ⟨rfl,rfl⟩)
 go_ret;exact ⟨rfl,rfl⟩
theorem XZ (b cap:Nat) (zs:List Int) (w:World) (hl:zs.length<=1000) (hc:∀ k,k<zs.length->w.cell? ⟨b,k,none⟩=some (.int .i64 (zs.getD k 0))) :
  cE 340 #[.slice (some ⟨b,0,none⟩) zs.length cap] w (.bool (zs.all fun z=>inB z 0 1000000)):=by
 have Hc:=Z9 hc;clear hc;go_enter func340,ntmps340;go_wp2_with fail
 refine MF (fun l a' w'=>w'=w/\ ∃ (r:Bool) (k:Nat) (u4 u5 u6 u7 u8 u9 u10 u11 u12 u13 u14 u15:Value),k<=zs.length/\a'={ tmps:=#[.slice (some ⟨b,0,none⟩) zs.length cap,undef,.bool r,.int .i64 k,u4,u5,u6,u7,u8,u9,u10,u11,u12,u13,u14,u15],defers:=[] }/\
   ((l=0/\(zs.all fun z=>inB z 0 1000000)=true)\/(l=1/\((zs.take k).all fun z=>inB z 0 1000000)=true)\/(l=2/\(zs.all fun z=>inB z 0 1000000)=false))) (fun l a' _=>if l=1 then zs.length+1-(intOf (a'.tmps.getD 3 undef)).toNat else 0) ?_ ?_
 ·by_cases hlt:0<zs.length
  ·have hcell:=uh Hc 0 hlt
   generalize hz:zs.getD 0 0=z at hcell;have Hz:=Z9 hz;clear hz;cases hp:inB z 0 1000000
   ·go_wp2_with fail
    go_step3
    go_wp2_with (go_at_call 192;refine (Sr _ _ _ _).mono ?_;rintro e w' ⟨rfl,rfl⟩)
    go_step3
    exact ⟨rfl,false,0,_,_,_,_,_,_,_,_,_,_,_,_,ZR _,rfl,.inr (.inr ⟨rfl,TS hlt (uh Hz) hp⟩)⟩
   ·go_wp2_with fail
    go_step3
    go_wp2_with (go_at_call 192;refine (Sr _ _ _ _).mono ?_;rintro e w' ⟨rfl,rfl⟩)
    go_step3
    exact ⟨rfl,false,1,_,_,_,_,_,_,_,_,_,_,_,_,hlt,rfl,.inr (.inl ⟨rfl,Q9 (k:=0) hlt (uh Hz) (by simp) hp⟩)⟩
  ·obtain rfl:zs=[]:=List.eq_nil_of_length_eq_zero (by omega)
   go_wp2_with fail
   go_step3
   go_wp2_with fail
   go_step3
   exact ⟨rfl,false,0,_,_,_,_,_,_,_,_,_,_,_,_,ZR _,rfl,.inl ⟨rfl,rfl⟩⟩
 ·rintro l a' w' ⟨rfl,r,k,u4,u5,u6,u7,u8,u9,u10,u11,u12,u13,u14,u15,hk,rfl,⟨rfl,ha⟩ | ⟨rfl,ha⟩ | ⟨rfl,ha⟩⟩
  ·refine ⟨_,rfl,?_⟩
   go_wp2_with fail;rw [MR];go_ret;exact ⟨Z5 ha.symm,rfl⟩
  ·refine ⟨_,rfl,?_⟩
   have Ha:=Z9 ha;clear ha;by_cases hlt:k<zs.length
   ·have hcell:=uh Hc k hlt
    have hne:((k:Int) ==(zs.length:Int))=false:=by simp;omega
    generalize hz:zs.getD k 0=z at hcell;have Hz:=Z9 hz;clear hz;cases hp:inB z 0 1000000
    ·go_wp2_with (go_at_call 192;refine (Sr _ _ _ _).mono ?_;rintro e w' ⟨rfl,rfl⟩)
     go_step3
     refine ⟨⟨rfl,r,k,_,_,_,_,_,_,_,_,_,_,_,_,hk,rfl,.inr (.inr ⟨rfl,TS hlt (uh Hz) hp⟩)⟩,?_⟩;simp [intOf];omega
    ·go_wp2_with (go_at_call 192;refine (Sr _ _ _ _).mono ?_;rintro e w' ⟨rfl,rfl⟩)
     go_step3
     refine ⟨⟨rfl,r,k+1,_,_,_,_,_,_,_,_,_,_,_,_,hlt,by go_num,.inr (.inl ⟨rfl,Q9 hlt (uh Hz) (uh Ha) hp⟩)⟩,?_⟩;simp [intOf];omega
   ·obtain rfl:k=zs.length:=by omega
    go_wp2_with fail
    go_step3
    refine ⟨⟨rfl,r,zs.length,_,_,_,_,_,_,_,_,_,_,_,_,hk,rfl,.inl ⟨rfl,?_⟩⟩,?_⟩
    ·rw [<-uh Ha,List.take_of_length_le (by omega)]
    ·simp [intOf]
  ·refine ⟨_,rfl,?_⟩
   go_wp2_with fail;rw [MR];go_ret;exact ⟨Z5 ha.symm,rfl⟩
def amt (x:Int):Bool:=inB x 0 1000000
def Vg (w u f:Int):Bool:=(amt w && (amt u && amt f)) && decide (5*(w+u)<=4*f)
def WB (u f:Int):Bool:=(amt u && amt f) && !decide (5*u<=4*f)
def Yr (u f:Int):Int:=if amt u && amt f then f-u else -1000001
theorem Er (u f:Int):decide (4*f<5*u)= !decide (5*u<=4*f):=by
 by_cases h:5*u<=4*f
 ·rw [decide_eq_true h,decide_eq_false (by omega)];rfl
 ·rw [decide_eq_false h,decide_eq_true (by omega)];rfl
theorem RL {x:Int} (h:amt x=true):0<=x/\x<=1000000:=ZO h
theorem Gl (x y:Int):([x,y].all fun z=>inB z 0 1000000)=(amt x && amt y):=by simp [amt]
theorem CR (x y z:Int):([x,y,z].all fun z=>inB z 0 1000000)=(amt x && (amt y && amt z)):=by simp [amt]
theorem PT (u f:Int) (w:World):cB 338 #[.int .i64 u,.int .i64 f] w (.int .i64 (Yr u f)):=by
 cases h:amt u && amt f
 ·have hs:Yr u f= -1000001:=by unfold Yr;rw [h];rfl
  have Hs:=Z9 hs;go_enter func338,ntmps338;go_wp2_with fail;refine (XZ _ _ [u,f] _ (by simp) ?_).mono ?_
  ·intro k hk
   simp at hk
   match k,hk with
   | 0,_=>simp
   | 1,_=>simp
  rintro e w' ⟨rfl,rfl⟩;rw [Gl,h];go_wp2_with fail;go_ret;exact ⟨ZQ (uh Hs).symm,(ba _ _)⟩
 ·have hs:Yr u f=f-u:=by unfold Yr;rw [h];rfl
  have Hs:=Z9 hs;have h':=h;simp only [ZJ] at h';obtain ⟨u0,u1⟩:=RL h'.1;obtain ⟨f0,f1⟩:=RL h'.2;go_enter func338,ntmps338;go_wp2_with fail;refine (XZ _ _ [u,f] _ (by simp) ?_).mono ?_
  ·intro k hk
   simp at hk
   match k,hk with
   | 0,_=>simp
   | 1,_=>simp
  rintro e w' ⟨rfl,rfl⟩;rw [Gl,h];go_wp2_with fail;go_ret;exact ⟨ZQ (uh Hs).symm,(ba _ _)⟩
theorem PU (u f:Int) (w:World):cB 337 #[.int .i64 u,.int .i64 f] w (.bool (WB u f)):=by
 cases h:amt u && amt f
 ·have hs:WB u f=false:=by unfold WB;rw [h];rfl
  have Hs:=Z9 hs;go_enter func337,ntmps337;go_wp2_with fail;refine (XZ _ _ [u,f] _ (by simp) ?_).mono ?_
  ·intro k hk
   simp at hk
   match k,hk with
   | 0,_=>simp
   | 1,_=>simp
  rintro e w' ⟨rfl,rfl⟩;rw [Gl,h];go_wp2_with fail;go_ret;exact ⟨Z5 (uh Hs).symm,(ba _ _)⟩
 ·have hs:WB u f= !decide (5*u<=4*f):=by unfold WB;rw [h];rfl
  have Hs:=Z9 hs;have h':=h;simp only [ZJ] at h';obtain ⟨u0,u1⟩:=RL h'.1;obtain ⟨f0,f1⟩:=RL h'.2;go_enter func337,ntmps337;go_wp2_with fail;refine (XZ _ _ [u,f] _ (by simp) ?_).mono ?_
  ·intro k hk
   simp at hk
   match k,hk with
   | 0,_=>simp
   | 1,_=>simp
  rintro e w' ⟨rfl,rfl⟩;rw [Gl,h];go_wp2_with (go_at_call 281;refine (Ua f u _ f0 f1 u0 (by omega)).mono ?_;rintro e w' ⟨rfl,rfl⟩)
  go_ret;exact ⟨Z5 (uh Hs).symm,(ba _ _)⟩
theorem Oy (x u f:Int) (w:World):cB 339 #[.int .i64 x,.int .i64 u,.int .i64 f] w (.bool (Vg x u f)):=by
 cases h:amt x && (amt u && amt f)
 ·have hs:Vg x u f=false:=by unfold Vg;rw [h];rfl
  have Hs:=Z9 hs;go_enter func339,ntmps339;go_wp2_with fail;refine (XZ _ _ [x,u,f] _ (by simp) ?_).mono ?_
  ·intro k hk
   simp at hk
   match k,hk with
   | 0,_=>simp
   | 1,_=>simp
   | 2,_=>simp
  rintro e w' ⟨rfl,rfl⟩;rw [CR,h];go_wp2_with fail;go_ret;exact ⟨Z5 (uh Hs).symm,(ba _ _)⟩
 ·have hs:Vg x u f=decide (5*(x+u)<=4*f):=by unfold Vg;rw [h];rfl
  have Hs:=Z9 hs;have h':=h;simp only [ZJ] at h';obtain ⟨x0,x1⟩:=RL h'.1;obtain ⟨u0,u1⟩:=RL h'.2.1;obtain ⟨f0,f1⟩:=RL h'.2.2;go_enter func339,ntmps339;go_wp2_with fail;refine (XZ _ _ [x,u,f] _ (by simp) ?_).mono ?_
  ·intro k hk
   simp at hk
   match k,hk with
   | 0,_=>simp
   | 1,_=>simp
   | 2,_=>simp
  rintro e w' ⟨rfl,rfl⟩;rw [CR,h];go_wp2_with (go_at_call 281;refine (Ua f (x+u) _ f0 f1 (by omega) (by omega)).mono ?_;rintro e w' ⟨rfl,rfl⟩)
  go_ret;exact ⟨Z5 (uh Hs).symm,(ba _ _)⟩
theorem Pf (x u f:Int) (w:World):cE 138 #[.int .i64 x,.int .i64 u,.int .i64 f] w (.bool (Vg x u f)):=by
 cases hx:inB x 0 1000000
 ·go_enter func138,ntmps138
  go_wp2_with (go_at_call 142;refine (Yu _ _).mono ?_;rintro e w' ⟨rfl,rfl⟩)
  go_ret;exact ⟨Z5 (by simp [Vg,amt,hx]),rfl⟩
 ·cases hu:inB u 0 1000000
  ·go_enter func138,ntmps138
   go_wp2_with (go_at_call 142;refine (Yu _ _).mono ?_;rintro e w' ⟨rfl,rfl⟩)
   go_ret;exact ⟨Z5 (by simp [Vg,amt,hx,hu]),rfl⟩
  ·cases hf:inB f 0 1000000
   ·go_enter func138,ntmps138
    go_wp2_with (go_at_call 142;refine (Yu _ _).mono ?_;rintro e w' ⟨rfl,rfl⟩)
    go_ret;exact ⟨Z5 (by simp [Vg,amt,hx,hu,hf]),rfl⟩
   ·obtain ⟨x0,x1⟩:=ZO hx
    obtain ⟨u0,u1⟩:=ZO hu;obtain ⟨f0,f1⟩:=ZO hf;go_enter func138,ntmps138;go_wp2_with (go_at_call 142;refine (Yu _ _).mono ?_;rintro e w' ⟨rfl,rfl⟩)
    go_ret;exact ⟨Z5 (by simp [Vg,amt,hx,hu,hf]),rfl⟩
theorem PZ (u f:Int) (w:World):cE 140 #[.int .i64 u,.int .i64 f] w (.bool (WB u f)):=by
 cases hu:inB u 0 1000000
 ·go_enter func140,ntmps140
  go_wp2_with (go_at_call 142;refine (Yu _ _).mono ?_;rintro e w' ⟨rfl,rfl⟩)
  go_ret;exact ⟨Z5 (by simp [WB,amt,hu]),rfl⟩
 ·cases hf:inB f 0 1000000
  ·go_enter func140,ntmps140
   go_wp2_with (go_at_call 142;refine (Yu _ _).mono ?_;rintro e w' ⟨rfl,rfl⟩)
   go_ret;exact ⟨Z5 (by simp [WB,amt,hu,hf]),rfl⟩
  ·obtain ⟨u0,u1⟩:=ZO hu
   obtain ⟨f0,f1⟩:=ZO hf;go_enter func140,ntmps140;go_wp2_with (go_at_call 142;refine (Yu _ _).mono ?_;rintro e w' ⟨rfl,rfl⟩)
   go_ret;exact ⟨Z5 (by simp [WB,amt,hu,hf,Er]),rfl⟩
theorem PY (u f:Int) (w:World):cE 92 #[.int .i64 u,.int .i64 f] w (.int .i64 (Yr u f)):=by
 cases hu:inB u 0 1000000
 ·go_enter func92,ntmps92
  go_wp2_with (go_at_call 142;refine (Yu _ _).mono ?_;rintro e w' ⟨rfl,rfl⟩)
  go_ret;exact ⟨ZQ (by simp [Yr,amt,hu]),rfl⟩
 ·cases hf:inB f 0 1000000
  ·go_enter func92,ntmps92
   go_wp2_with (go_at_call 142;refine (Yu _ _).mono ?_;rintro e w' ⟨rfl,rfl⟩)
   go_ret;exact ⟨ZQ (by simp [Yr,amt,hu,hf]),rfl⟩
  ·obtain ⟨u0,u1⟩:=ZO hu
   obtain ⟨f0,f1⟩:=ZO hf;go_enter func92,ntmps92;go_wp2_with (go_at_call 142;refine (Yu _ _).mono ?_;rintro e w' ⟨rfl,rfl⟩)
   go_ret;exact ⟨ZQ (by simp [Yr,amt,hu,hf]),rfl⟩
end Go.Proofs.YtgdpaigcmoifbaaGreatDoor
