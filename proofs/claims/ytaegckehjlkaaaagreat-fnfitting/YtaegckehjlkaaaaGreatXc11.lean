/- Part 11 of what the proof rests on. No condition but those that a theorem names. -/
import Derived.Test.YtaegckehjlkaaaaGreatXc10
set_option maxHeartbeats 8000000
set_option maxRecDepth 100000
namespace Go.Proofs.YtaegckehjlkaaaaGreat
open Go.ChangeShapes Go.WideShapes Go.ChangeAt Go.RowKit Go.Sort
set_option linter.unusedVariables false
variable {w w' w0 w1 w2 w3 w₀ wr W W' X A B C : World} {v v0 v1 v2 v3 v4 u u0 u1 u2 u3 u4 : Value} {m : Z6}
theorem RV  {rs:List Z3} (n:Int) (h:IsRooms w v rs) (hbn:YX rs n=true) :
  Calls Tryz.prog 142 #[.agg #[v],.int .i64 n] w fun e w'=>e= .returned (.int .i64 (XJ rs n))/\Below w.heap.size w w':=by
 obtain ⟨a,cap,rfl,hc,hm,hr⟩:=h
 have Hr:=Z9 hr
 have H:=Z9 hbn
 have hh:=(Xv hbn).1
 have hn0:=(Xv hbn).2.1
 have hn1:n<12:=by have h1:=(Xv hbn).2.2;have:=(Zs hh).2.2.2;omega
 have Hh:=Z9 hh
 have hl3:rs.length<=3:=(Zs hh).2.1
 clear hr hbn hh
 go_enter Tryz.func142,Tryz.ntmps142
 go_wp2_with fail
 go_loop [1,5] (fun q i=> ∃ r:Nat,r<=rs.length/\i= .int .i64 r/\q= .int .i64 (n-Z4 (rs.take r))/\(∀ j,j<r->Z4 (rs.take (j+1))<=n)) (fun _ i=>rs.length-(intOf i).toNat)
 case atStart=>exact ⟨0,Nat.zero_le _,rfl,by simp [Z4],fun j hj=>by omega⟩
 case round=>
  obtain ⟨r,hr,rfl,rfl,hl⟩:=hrel
  have hlt:=Ve (uh H) hr hl
  rcases uh Hr with e0 | ⟨b,off,rfl,hbw,hcl⟩
  ·rw [e0] at hlt;simp at hlt
  obtain ⟨c0,pv,c1,hip⟩:=hcl r hlt
  have hne:b ≠ w.heap.size:=Nat.ne_of_lt hbw
  have Hl:=Z9 hl
  have hb0:=XQ (uh Hh) r hr
  have hb1:=XQ (uh Hh) (r+1) hlt
  have Hs:=Z9 (Yd rs hlt)
  have HN:Hid (n<Z4 (rs.take (r+1))->XJ rs n=r):=Z9 (fun hx=>SY hlt hx (uh Hl))
  have HM:Hid (Z4 (rs.take (r+1))<=n-> ∀ j,j<r+1->Z4 (rs.take (j+1))<=n):=Z9 (fun hx=>X8 (uh Hl) hx)
  rw [Yd rs hlt] at hb1 HN HM
  generalize Z4 (rs.take r)=s at *
  generalize (ZU rs r).1=rb at *
  clear hcl hip hl
  by_cases hq:rb<=n-s
  ·go_wp2_with fail
   go_round
   case rel=>exact ⟨r+1,by omega,by go_num,by rw [uh Hs];congr 1;omega,uh HM (by omega)⟩
   case measure=>simp [intOf];omega
  ·go_wp2_with fail
   go_ret
   exact ⟨ZJ (by rw [uh HN (by omega)]),(Below.refl _ _).alloc (Nat.le_refl _) _⟩
theorem Ky  {rs:List Z3} (n:Int) (h:IsRooms w v rs) :
  Calls Tryz.prog 84 #[.agg #[v],.int .i64 n] w fun e w'=>e= .returned (.bool (YX rs n))/\Below w.heap.size w w':=by
 have Hv:=Z9 h
 obtain ⟨a,cap,rfl,hc,hm⟩:∃ a cap,v= .slice a rs.length cap/\rs.length<=cap/\cap<=9223372036854775807:=by obtain ⟨a,cap,rfl,hc,hm,_⟩:=h;exact ⟨a,cap,rfl,hc,hm⟩
 clear h
 cases h1:Ze rs
 ·have H2:=Z9 (OC (n:=n) h1)
  go_enter Tryz.func84,Tryz.ntmps84
  go_wp2_with fail
  refine (Xe ((uh Hv).alloc _)).mono ?_
  rintro e w1 ⟨rfl,hb⟩
  have Hb:=Z9 hb
  clear hb
  go_wp2_with fail
  go_ret
  exact ⟨Z7 (uh H2).symm,((Below.refl _ _).alloc (Nat.le_refl _) _).trans ((uh Hb).mono (by simp))⟩
 ·have H2:Hid (YX rs n=inB n 0 (Z4 rs-1)):=Z9 (by unfold YX;rw [h1];rfl)
  have hbs:=XQ h1 rs.length (Nat.le_refl _)
  rw [Vi] at hbs
  have H1:=Z9 h1
  go_enter Tryz.func84,Tryz.ntmps84
  go_wp2_with fail
  refine (Xe ((uh Hv).alloc _)).mono ?_
  rintro e w1 ⟨rfl,hb⟩
  have hz:w.heap.size+1<=w1.heap.size:=by have:=hb.size;simpa using this
  have hbox:w1.cell? ⟨w.heap.size,0,none⟩=some (.slice a rs.length cap):=by rw [hb.cell (p:=⟨w.heap.size,0,none⟩) (by simp)];simp
  have hw1:=Z9 (((uh Hv).alloc _).below hb)
  have Hb:=Z9 hb
  clear hb
  go_wp2_with fail
  refine (UE (uh hw1) (Vc (uh H1))).mono ?_
  rintro e w2 ⟨rfl,hb2⟩
  have Hb2:=Z9 hb2
  clear hb2
  generalize Z4 rs=s at *
  go_wp2_with fail
  refine (Z0 _ _ _ _).mono ?_
  rintro e w' ⟨rfl,rfl⟩
  go_wp2_with fail
  go_ret
  exact ⟨Z7 (uh H2).symm,((Below.refl _ _).alloc (Nat.le_refl _) _).trans (((uh Hb).trans ((uh Hb2).mono (uh Hb).size)).mono (by simp))⟩
theorem G7 {a:Option Addr} {cap:Nat} {rs:List Z3} {r:Nat} (h:IsRooms w (.slice a rs.length cap) rs) (hr:r<rs.length) (hh:Ze rs=true) :
  ∃ b off a' cap',a=some ⟨b,off,none⟩/\b<w.heap.size/\w.cell? ⟨b,off+r*2+1,none⟩=some (.slice (some a') (ZU rs r).2.length cap')/\1<=(ZU rs r).2.length/\(ZU rs r).2.length<=4/\a'.spot=none/\a'.block<w.heap.size/\w.cell? ⟨a'.block,a'.off+((ZU rs r).2.length-1)*2,none⟩=some (.int .i64 (V1 (ZU rs r).2)):=by
 obtain ⟨a0,cap0,he,hc,hm,hr'⟩:=h
 cases he
 rcases hr' with e0 | ⟨b,off,rfl,hbw,hcl⟩
 ·rw [e0] at hr;simp at hr
 obtain ⟨_,pv,c1,hip⟩:=hcl r hr
 have hb:=Rz (Sx (Zs hh).2.2.1 hr)
 obtain ⟨pa,pcap,rfl,_,_,hp⟩:=hip
 rcases hp with e1 | ⟨b',off',rfl,hbw',hcl'⟩
 ·rw [e1] at hb;simp at hb
 ·exact ⟨b,off,⟨b',off',none⟩,pcap,rfl,hbw,c1,hb.2.2.1,hb.2.2.2,rfl,hbw',(hcl' _ (by omega)).1⟩
theorem PH  {rs:List Z3} (n:Int) (h:IsRooms w v rs) :
  Calls Tryz.prog 199 #[.agg #[v],.int .i64 n] w fun e w'=>e= .returned (.int .i64 (Zx rs n))/\Below w.heap.size w w':=by
 have Hv:=Z9 h
 obtain ⟨a,cap,rfl,hc,hm⟩:∃ a cap,v= .slice a rs.length cap/\rs.length<=cap/\cap<=9223372036854775807:=by obtain ⟨a,cap,rfl,hc,hm,_⟩:=h;exact ⟨a,cap,rfl,hc,hm⟩
 clear h
 cases h1:YX rs n
 ·have H2:=Z9 (Kc h1)
  have H3:=Ms h1
  have H3':=Z9 H3
  clear H3 h1
  go_enter Tryz.func199,Tryz.ntmps199
  go_wp2_with fail
  refine (SK n ((uh Hv).alloc _)).mono ?_
  rw [uh H3']
  rintro e w1 ⟨rfl,hb⟩
  have Hb:=Z9 hb
  clear hb
  go_wp2_with fail
  go_ret
  exact ⟨ZJ (uh H2).symm,((Below.refl _ _).alloc (Nat.le_refl _) _).trans ((uh Hb).mono (by simp))⟩
 ·have H2:=Z9 (UQ h1)
  have H3:=Z9 (G6 h1)
  have hlt:=RZ h1
  have Hh:=Z9 (Xv h1).1
  have hl3:rs.length<=3:=(Zs (Xv h1).1).2.1
  clear h1
  go_enter Tryz.func199,Tryz.ntmps199
  go_wp2_with fail
  refine (SK n ((uh Hv).alloc _)).mono ?_
  rw [uh H3]
  rintro e w1 ⟨rfl,hb⟩
  have hz:w.heap.size+1<=w1.heap.size:=by have:=hb.size;simpa using this
  have hbox:w1.cell? ⟨w.heap.size,0,none⟩=some (.slice a rs.length cap):=by rw [hb.cell (p:=⟨w.heap.size,0,none⟩) (by simp)];simp
  have hw1:=((uh Hv).alloc _).below hb
  have Hb:=Z9 hb
  obtain ⟨b,off,a',cap',rfl,hbw,d1,p1,p4,sp,hbw',d2⟩:=G7 hw1 hlt (uh Hh)
  obtain ⟨b',off',sp'⟩:=a'
  simp only at sp hbw' d2
  subst sp
  clear hb hw1 H3
  generalize XJ rs n=r at *
  generalize V1 (ZU rs r).2=fo at *
  generalize (ZU rs r).2.length=m at *
  have hr0:((r:Int) == -1)=false:=beq_eq_false_iff_ne.2 (by omega)
  go_wp2_with fail
  go_ret
  exact ⟨ZJ (uh H2).symm,((Below.refl _ _).alloc (Nat.le_refl _) _).trans ((uh Hb).mono (by simp))⟩
def US (rs:List Z3) (n:Int):Bool:=Ze rs && inB n 0 ((rs.length:Int)-1)
def Gu (lo hi:Int):Int:=(2:Int) ^ hi.toNat-2 ^ lo.toNat
def VM (rs:List Z3) (n:Int):Int:=if US rs n=true then Gu (Z4 (rs.take n.toNat)) (Z4 (rs.take (n.toNat+1))) else -1
theorem Eu {rs:List Z3} {n:Int} (h:US rs n=true):VM rs n=Gu (Z4 (rs.take n.toNat)) (Z4 (rs.take (n.toNat+1))):=by unfold VM;rw [if_pos h]
theorem Jd {rs:List Z3} {n:Int} (h:US rs n=false):VM rs n= -1:=by unfold VM;rw [h];rfl
theorem Fy {rs:List Z3} {n:Int} (h:Ze rs=false):US rs n=false:=by unfold US;rw [h];rfl
theorem MX {rs:List Z3} {n:Int} (h:n<0\/rs.length<=n):US rs n=false:=by unfold US;rw [W7 (by omega)];simp
theorem QK {s:Int} (h0:0<=s) (h1:s<=12):1<=(2:Int) ^ s.toNat/\(2:Int) ^ s.toNat<=4096:=by
 have key:∀ k:Fin 13,1<=(2:Int) ^ k.val/\(2:Int) ^ k.val<=4096:=by decide
 exact key ⟨s.toNat,by omega⟩
theorem TW {x:Int} (h0 : -100000<=x) (h1:x<=100000):wrap64 x=x:=by unfold wrap64;omega
theorem TZ  {rs:List Z3} (n:Int) (h:IsRooms w v rs) :
  Calls Tryz.prog 273 #[.agg #[v],.int .i64 n] w fun e w'=>e= .returned (.int .i64 (VM rs n))/\Below w.heap.size w w':=by
 have Hv:=Z9 h
 obtain ⟨a,cap,rfl,hc,hm⟩:∃ a cap,v= .slice a rs.length cap/\rs.length<=cap/\cap<=9223372036854775807:=by obtain ⟨a,cap,rfl,hc,hm,_⟩:=h;exact ⟨a,cap,rfl,hc,hm⟩
 clear h
 have Hb0:Hid (Below w.heap.size w (w.alloc (.cells #[.slice a rs.length cap] 26))):=Z9 ((Below.refl _ _).alloc (Nat.le_refl _) _)
 cases h1:Ze rs
 ·have H2:=Z9 (Jd (Fy (n:=n) h1))
  go_enter Tryz.func273,Tryz.ntmps273
  go_wp2_with fail
  refine (X6 ((uh Hv).alloc _)).mono ?_
  rintro e w1 ⟨rfl,hb⟩
  have Hb:=Z9 hb
  clear hb
  go_wp2_with fail
  go_ret
  exact ⟨ZJ (uh H2).symm,(uh Hb0).trans ((uh Hb).mono (by simp))⟩
 by_cases h2:n<0
 ·have H2:=Z9 (Jd (MX (rs:=rs) (.inl h2)))
  go_enter Tryz.func273,Tryz.ntmps273
  go_wp2_with fail
  refine (X6 ((uh Hv).alloc _)).mono ?_
  rintro e w1 ⟨rfl,hb⟩
  have Hb:=Z9 hb
  clear hb
  go_wp2_with fail
  go_ret
  exact ⟨ZJ (uh H2).symm,(uh Hb0).trans ((uh Hb).mono (by simp))⟩
 by_cases h3:(rs.length:Int)<=n
 ·have H2:=Z9 (Jd (MX (rs:=rs) (.inr h3)))
  go_enter Tryz.func273,Tryz.ntmps273
  go_wp2_with fail
  refine (X6 ((uh Hv).alloc _)).mono ?_
  rintro e w1 ⟨rfl,hb⟩
  have hbox:w1.cell? ⟨w.heap.size,0,none⟩=some (.slice a rs.length cap):=by rw [hb.cell (p:=⟨w.heap.size,0,none⟩) (by simp)];simp
  have Hb:=Z9 hb
  clear hb
  go_wp2_with fail
  go_ret
  exact ⟨ZJ (uh H2).symm,(uh Hb0).trans ((uh Hb).mono (by simp))⟩
 have h4:US rs n=true:=by unfold US;rw [h1,Zq (by omega) (by omega)];rfl
 have H2:=Z9 (Eu h4)
 obtain ⟨r,rfl⟩:=Int.eq_ofNat_of_zero_le (show 0<=n by omega)
 have H1:=Z9 h1
 have Ha:=Z9 (Vc h1)
 have hl3:rs.length<=3:=(Zs h1).2.1
 have hb0:=XQ h1 r (by omega)
 have hb1:=XQ h1 (r+1) (by omega)
 go_enter Tryz.func273,Tryz.ntmps273
 go_wp2_with fail
 refine (X6 ((uh Hv).alloc _)).mono ?_
 rintro e w1 ⟨rfl,hb⟩
 have hbox:w1.cell? ⟨w.heap.size,0,none⟩=some (.slice a rs.length cap):=by rw [hb.cell (p:=⟨w.heap.size,0,none⟩) (by simp)];simp
 have k0:=cell_regrown hbox
 have Hb:=Z9 hb
 have Hw:=Z9 (((uh Hv).alloc _).below hb)
 clear hb h4
 go_wp2_with fail
 refine wp_region_quiet_below (by kernel_rfl) (by kernel_rfl) ?_
 repeat (go_big_quiet_step (first | exact Calls.regrown_of (WI (((uh Hw).below (below_regrown _ _ _)).taken (n:=r) (by omega)) ((uh Ha).taken _)) | exact Calls.regrown_of (WI (((uh Hw).below (below_regrown _ _ _)).taken (n:=r+1) (by omega)) ((uh Ha).taken _))))
 refine wpQuiet_nil ?_
 intro _ hw'
 obtain ⟨⟨dq,osq⟩,hw''⟩:=hw'
 subst hw''
 rw [Int.toNat_natCast] at H2
 generalize Z4 (rs.take r)=s0 at *
 generalize Z4 (rs.take (r+1))=s1 at *
 obtain ⟨x0,x1⟩:=hb0
 obtain ⟨y0,y1⟩:=hb1
 go_wp2_with fail
 go_quiet (fail)
 go_wp2_with fail
 go_ret
 refine ⟨ZJ ?_,(uh Hb0).trans (((uh Hb).trans (Xz ((below_regrown _ _ _).mono (uh Hb).size) _)).mono (by simp))⟩
 have p0:=QK x0 x1
 have p1:=QK y0 y1
 rw [uh H2,TW (x:=2 ^ s1.toNat) (by omega) (by omega),TW (x:=2 ^ s0.toNat) (by omega) (by omega),TW (x:=2 ^ s1.toNat-2 ^ s0.toNat) (by omega) (by omega)]
 rfl
theorem VR {rs:List Z3} (h:rs.all Zj=true) {i:Nat} : ∀ d,i+d<=rs.length->Z4 (rs.take i)<=Z4 (rs.take (i+d))
 | 0,_=>Int.le_refl _
 | d+1,hd=>by
  have ih:=VR h (i:=i) d (by omega)
  have hb:=Rz (Sx h (j:=i+d) (by omega))
  rw [<-Nat.add_assoc,Yd rs (by omega)];omega
theorem G8 {rs:List Z3} {n:Int} (h:YX rs n=true) {r:Nat} (hr:r<rs.length):XJ rs n=r ↔ Z4 (rs.take r)<=n/\n<Z4 (rs.take (r+1)):=by
 have hb:=Xv h
 have ha:=(Zs hb.1).2.2.1
 have key:∀ d q:Nat,q+d=rs.length->(∀ j,j<q->Z4 (rs.take (j+1))<=n)->Z4 (rs.take (XJ rs n))<=n/\n<Z4 (rs.take (XJ rs n+1)):=by
  intro d
  induction d with
  | zero=>intro q hq hl;have:=Ve h (by omega) hl;omega
  | succ d ih=>
   intro q hq hl
   have hlt:=Ve h (r:=q) (by omega) hl
   by_cases hc:n<Z4 (rs.take (q+1))
   ·rw [SY hlt hc hl]
    refine ⟨?_,hc⟩
    cases q with
    | zero=>simp [Z4];omega
    | succ q=>exact hl q (by omega)
   ·exact ih (q+1) (by omega) (X8 hl (by omega))
 constructor
 ·intro e;have:=key rs.length 0 (by omega) (fun j hj=>by omega);rwa [e] at this
 ·intro hx
  refine SY hr hx.2 (fun j hj=> ?_)
  have:=VR ha (i:=j+1) (r-(j+1)) (by omega)
  rw [show j+1+(r-(j+1))=r by omega] at this
  omega
theorem SS (b:Int) (h0:0<=b) (h1:b<=12) (w:World):Calls Tryz.prog 261 #[.int .i64 b] w fun e w'=>e= .returned (.int .i64 (2 ^ b.toNat))/\w'=w:=by
 go_enter Tryz.func261,Tryz.ntmps261
 go_wp2
 all_goals
  go_ret
  refine ⟨ZJ ?_,rfl⟩
  have:=QK h0 h1
  exact TW (by omega) (by omega)
open Go.ChangeShapes Go.WideShapes Go.ChangeAt Go.RowKit
def IntsAt (n₀:Nat) (w:World) (v:Value) (zs:List Int):Prop:=w.ownsRow n₀ 2 1 v zs.length (zs.map (Value.int .i64))
theorem IntsAt.view {n₀:Nat}  {zs:List Int} (h:IntsAt n₀ w v zs) :
  ∃ (a:Option Addr) (cap:Nat),v= .slice a zs.length cap/\zs.length<=9223372036854775807/\(zs=[]\/ ∃ g,a=some ⟨g,0,none⟩/\n₀<=g/\g<w.heap.size/\
   (∀ k,k<zs.length->w.cell? ⟨g,k,none⟩=some (.int .i64 (zs.getD k 0)))/\(∀ k,w.frozen? ⟨g,k,none⟩=false)):=by
 have h':=h
 rcases h.2 with ⟨rfl,hz⟩ | ⟨g,cap,cur,rfl,hb,hg,hnc,hcm,r⟩
 ·exact ⟨none,0,by rw [hz],by omega,.inl (List.eq_nil_of_length_eq_zero hz)⟩
 ·refine ⟨_,cap,rfl,by unfold maxLen at hcm;omega,.inr ⟨g,rfl,hb,(Array.getElem?_eq_some_iff.1 hg).1,fun k hk=> ?_,fun k=>World.ownsRow.frozenAt h' k⟩⟩
  rw [World.ownsRow.cellAt h' k (by omega)]
  simp [List.getElem?_eq_getElem hk]
theorem Da {n₀:Nat}  {zs:List Int} (x:Int) (hv:IntsAt n₀ w v zs) :
  Calls Tryz.prog 33 #[v,.int .i64 x] w fun e w'=>e= .returned (.bool (decide (x ∈ zs)))/\w'=w:=by
 obtain ⟨a,cap,rfl,hlen,hca⟩:=hv.view
 clear hv
 go_enter Tryz.func33,Tryz.ntmps33
 go_wp2_with fail
 go_loop [5] (fun i=> ∃ k:Nat,k<=zs.length/\i= .int .i64 k/\Hid (x ∉ zs.take k)) (fun i=>zs.length-(intOf i).toNat)
 case atStart=>exact ⟨0,Nat.zero_le _,rfl,Z9 (by simp)⟩
 case round=>
  obtain ⟨k,hk,rfl,hno⟩:=hrel
  by_cases hlt:k<zs.length
  ·rcases hca with rfl | ⟨g,rfl,_,_,hc,_⟩
   ·simp at hlt
   have h1:=hc k hlt
   have Hg:Hid (zs.getD k 0=zs[k]):=Z9 (by simp [hlt])
   clear hc
   generalize hz:zs.getD k 0=z at *
   have Hz:=Z9 hz
   clear hz
   by_cases hx:z=x
   ·subst hx
    go_wp2_with fail
    go_ret
    exact ⟨Z7 (decide_eq_true (by rw [uh Hg];exact List.getElem_mem hlt)).symm,rfl⟩
   ·have hx':(z ==x)=false:=by simpa using hx
    have Hx:=Z9 hx
    clear hx
    go_wp2_with fail
    go_round
    case rel=>exact ⟨k+1,by omega,by go_num,Z9 (by rw [List.take_succ_eq_append_getElem hlt,<-uh Hg];simp only [List.mem_append,List.mem_singleton,not_or];exact ⟨uh hno,fun e=>uh Hx e.symm⟩)⟩
    case measure=>simp [intOf];omega
  ·go_wp2_with fail
   go_ret
   exact ⟨Z7 (decide_eq_false (by have:=uh hno;rwa [List.take_of_length_le (by omega)] at this)).symm,rfl⟩
def Vt (s:Int):Nat->List Int
 | 0=>[]
 | k+1=>if Vm s k=true then Vt s k++[(k:Int)] else Vt s k
def TF (s:Int):List Int:=Vt s 8
def Wb (s:Int):Int:=(TF s).headD (-1)
theorem S8 {s:Int} {k:Nat} (h:Vm s k=true):Vt s (k+1)=Vt s k++[(k:Int)]:=by simp [Vt,h]
theorem Vg {s:Int} {k:Nat} (h:Vm s k=false):Vt s (k+1)=Vt s k:=by simp [Vt,h]
theorem LA (s:Int):∀ k,(Vt s k).length<=k
 | 0=>by simp [Vt]
 | k+1=>by
  have:=LA s k
  cases h:Vm s k
  ·rw [Vg h];omega
  ·rw [S8 h];simp;omega
theorem Nw {s:Int} (h:inB s 0 255=false):∀ k,Vt s k=[]
 | 0=>rfl
 | k+1=>by rw [Vg (IZ (.inl h))];exact Nw h k
theorem EM (s:Int):∀ k,k<=8->Vt s k <+: TF s:=by
 have step:∀ k,Vt s k <+: Vt s (k+1):=fun k=>by
  cases h:Vm s k
  ·rw [Vg h];exact List.prefix_refl _
  ·rw [S8 h];exact List.prefix_append _ _
 have go:∀ d k,Vt s k <+: Vt s (k+d):=by
  intro d
  induction d with
  | zero=>intro k;exact List.prefix_refl _
  | succ d ih=>intro k;exact (ih k).trans (step (k+d))
 intro k hk
 have:=go (8-k) k
 rwa [show k+(8-k)=8 by omega] at this
theorem Du {lo hi b:Int} (h0:0<=lo) (h1:lo<=hi) (h2:hi<=8) (hb0 : -1<=b) (hb1:b<=8):Vm (Gu lo hi) b=decide (lo<=b/\b<hi):=by
 have key:∀ b:Fin 10,∀ hi:Fin 9,∀ lo:Fin 9,lo.val<=hi.val->Vm (Gu lo.val hi.val) ((b.val:Int)-1)=decide ((lo.val:Int)<=(b.val:Int)-1/\(b.val:Int)-1<hi.val):=by decide +kernel
 have:=key ⟨(b+1).toNat,by omega⟩ ⟨hi.toNat,by omega⟩ ⟨lo.toNat,by omega⟩ (by show lo.toNat<=hi.toNat;omega)
 simp only [show ((lo.toNat:Nat):Int)=lo by omega,show ((hi.toNat:Nat):Int)=hi by omega,show (((b+1).toNat:Nat):Int)-1=b by omega] at this
 exact this
def ZQ {α:Type} [Inhabited α] (p:α->Bool) (xs:List α):Nat->List Int
 | 0=>[]
 | k+1=>if p (Z8 xs k) then ZQ p xs k++[(k:Int)] else ZQ p xs k
theorem XT {α:Type} [Inhabited α] {p:α->Bool} {xs:List α} {k:Nat} (h:p (Z8 xs k)=true):ZQ p xs (k+1)=ZQ p xs k++[(k:Int)]:=by rw [ZQ,if_pos h]
theorem Xy {α:Type} [Inhabited α] {p:α->Bool} {xs:List α} {k:Nat} (h:p (Z8 xs k)=false):ZQ p xs (k+1)=ZQ p xs k:=by rw [ZQ,if_neg (by simp [h])]
theorem VP {α:Type} [Inhabited α] (p:α->Bool) (xs:List α):∀ k,(ZQ p xs k).length<=k
 | 0=>Nat.le_refl _
 | k+1=>by
  have:=VP p xs k
  unfold ZQ
  split
  ·simp;omega
  ·omega
theorem Xh {α:Type} [Inhabited α] (p:α->Bool) (xs:List α) (x:Int):∀ k,x ∈ ZQ p xs k ↔ ∃ i:Nat,i<k/\x=(i:Int)/\p (Z8 xs i)=true
 | 0=>by simp [ZQ]
 | k+1=>by
  have ih:=Xh p xs x k
  cases h:p (Z8 xs k)
  ·rw [Xy h,ih]
   constructor
   ·rintro ⟨i,hi,h1,h2⟩
    exact ⟨i,by omega,h1,h2⟩
   ·rintro ⟨i,hi,h1,h2⟩
    by_cases hik:i=k
    ·subst hik;rw [h] at h2;cases h2
    ·exact ⟨i,by omega,h1,h2⟩
  ·rw [XT h,List.mem_append,ih]
   constructor
   ·rintro (⟨i,hi,h1,h2⟩ | h1)
    ·exact ⟨i,by omega,h1,h2⟩
    ·exact ⟨k,by omega,by simpa using h1,h⟩
   ·rintro ⟨i,hi,h1,h2⟩
    by_cases hik:i=k
    ·subst hik;right;simp [h1]
    ·exact .inl ⟨i,by omega,h1,h2⟩
theorem Qj {α:Type} [Inhabited α] (p:α->Bool) (xs:List α):∀ k,decide (0<(ZQ p xs k).length)=(List.range k).any fun j=>p (Z8 xs j)
 | 0=>rfl
 | k+1=>by
  have ih:=Qj p xs k
  rw [LV,<-ih]
  cases h:p (Z8 xs k)
  ·rw [Xy h];simp
  ·rw [XT h];simp
def Yj {α:Type} [Inhabited α] (p:α->Bool) (xs:List α) (k:Nat):Bool:=(List.range k).all fun j=>p (Z8 xs j)
theorem Q7 {α:Type} [Inhabited α] {p:α->Bool} {xs:List α} {k n:Nat} (hk:k<n) (h:p (Z8 xs k)=false):Yj p xs n=false:=RM (p:=fun j=>p (Z8 xs j)) hk h
theorem Q8 {α:Type} [Inhabited α] {p:α->Bool} {xs:List α} {k:Nat} (h:Yj p xs k=true) (h2:p (Z8 xs k)=true):Yj p xs (k+1)=true:=by unfold Yj at h ⊢;rw [Up,h,h2];rfl
theorem Qm {α:Type} [Inhabited α] (p q:α->Bool) (xs:List α):∀ k,(Yj p xs k && Yj q xs k)=Yj (fun x=>p x && q x) xs k
 | 0=>rfl
 | k+1=>by
  have ih:=Qm p q xs k
  unfold Yj at ih ⊢
  rw [Up,Up,Up,<-ih]
  generalize ((List.range k).all fun j=>p (Z8 xs j))=a
  generalize ((List.range k).all fun j=>q (Z8 xs j))=b
  cases a<;>cases b<;>cases hp:p (Z8 xs k)<;>cases hq:q (Z8 xs k)<;>simp [hp,hq]
theorem JI {α:Type} [Inhabited α] {p q:α->Bool} (xs:List α) (h:∀ x,p x=q x) (k:Nat):Yj p xs k=Yj q xs k:=by unfold Yj;congr 1;funext j;exact h _
def Xu (n:Nat) (i:Int):Bool:=decide (0<=i) && decide (i<n)
def atB (b:Int) (s:Z5):Bool:=(s.1 ==2 || s.1 ==3) && s.2.1 ==b
def Y8 (b:Int) (s:Z5):Bool:=s.1 ==3 && s.2.1 ==b
def Xl (n:Nat) (s:Z5):Bool:=s.1 ==0 || (s.2.2.2.2.1 == -1 || Xu n s.2.2.2.2.1)
def Xb (ds:List XZ) (s:Z5):Bool:=s.1 ==0 || (Xu ds.length s.2.1 && (s.1 ==1 || ((Z8 ds s.2.1.toNat).1 && (Vm s.2.2.2.1 s.2.1 && VT s.2.2.2.2.2.2.2.1 (Z8 ds s.2.1.toNat).2.2))))
def Ul (ss:List Z5) (n:Nat):Bool:=decide (ss.length<=12) && (Yj ZD ss ss.length && Yj (Xl n) ss ss.length)
def Sm (ds:List XZ) (n:Int):Bool:=decide ((ds.length:Int)=n) && (Yj V6 ds ds.length && decide (0<(ZQ (fun d:XZ=>d.1) ds ds.length).length))
def VU (ps:List Int) (rs:List Z3):Bool:=decide (ps.length=rs.length) && (List.range ps.length).all fun j=>Xu (ZU rs j).2.length (Z8 ps j)
def Ru (m:Z6):Bool:=Ze m.rooms && (Zk m.guilds && (Ul m.smiths m.guilds.length && (Sm m.desks (Z4 m.rooms) && (VU m.paces m.rooms && inB m.now 0 1000000))))
def VZ (m:Z6):Bool:=Ru m && Yj (Xb m.desks) m.smiths m.smiths.length
def VD (m:Z6) (b:Nat):Bool:=if (Z8 m.desks b).2.1= -1 then decide ((ZQ (atB b) m.smiths m.smiths.length).length=0) else decide ((ZQ (Y8 b) m.smiths m.smiths.length).length=1) && decide (Z8 (ZQ (Y8 b) m.smiths m.smiths.length) 0=(Z8 m.desks b).2.1)
def RH (m:Z6):Bool:=(List.range m.desks.length).all (VD m)
def Ez (m:Z6):Bool:=VZ m && RH m
theorem EZ (h m:Int):VT h m=WV h m:=by
 unfold VT WV Vl
 rw [Bool.and_assoc]
theorem Ed (m:Z6) (s:Z5):(ZD s && (Xl m.guilds.length s && Xb m.desks s))=(Yf m s && XX m s):=by
 cases hs:ZD s
 ·unfold Yf;rw [hs];rfl
 ·have hh:Yf m s=(s.1 ==0 || (decide (s.2.2.2.2.1<m.guilds.length) && decide (s.2.1<m.desks.length))):=by unfold Yf;rw [hs];rfl
  rw [hh,Bool.true_and]
  unfold ZD at hs
  simp only [Bool.or_eq_true] at hs
  rcases hs with hg | hp
  ·have e:=VH hg
   subst e
   rfl
  ·obtain ⟨st,be,rk,my,gu,lo,hi,hd,ca,ut,wk⟩:=s
   obtain ⟨⟨s1,s2⟩,⟨b1,b2⟩,_,⟨m1,m2⟩,⟨g1,g2⟩,_⟩:=Zc hp
   have hmem:Vm my be=Wu my be:=D5 (Zq (by omega) (by omega)) (Zq (by omega) (by omega))
   have hst0:(st ==0)=false:=by simp;omega
   have hgu:(gu == -1 || Xu m.guilds.length gu)=decide (gu<m.guilds.length):=by
    unfold Xu
    by_cases e:gu= -1
    ·subst e;simp;omega
    ·have:(gu == -1)=false:=by simpa using e
     rw [this,Bool.false_or,show decide (0<=gu)=true from decide_eq_true (by omega),Bool.true_and]
   have hbe:Xu m.desks.length be=decide (be<m.desks.length):=by
    unfold Xu
    rw [show decide (0<=be)=true from decide_eq_true (by omega),Bool.true_and]
   have hpr:ZP (st,be,rk,my,gu,lo,hi,hd,ca,ut,wk)= !(st ==1):=by
    unfold ZP
    rcases (by omega:st=1\/st=2\/st=3) with e | e | e<;>subst e<;>rfl
   unfold Xl Xb XX
   simp only
   rw [hst0,hgu,hbe,hpr,hmem,EZ,Bool.not_not]
   simp only [Bool.false_or,Bool.and_assoc]
theorem Nj (ss:List Z5) (b:Int):∀ k:Nat,
  (match XS ss b k with
   | none=>2<=(ZQ (Y8 b) ss k).length
   | some (wk,wt)=>((wk= -1/\ZQ (Y8 b) ss k=[])\/(0<=wk/\ZQ (Y8 b) ss k=[wk]))/\((ZQ (atB b) ss k=[]) ↔ (ZQ (Y8 b) ss k=[]/\wt=false)))
 | 0=>by simp [XS,ZQ]
 | k+1=>by
  have ih:=Nj ss b k
  unfold XS
  cases hsc:XS ss b k with
  | none=>
   rw [hsc] at ih
   simp only at ih ⊢
   unfold ZQ
   split
   ·simp;omega
   ·exact ih
  | some r=>
   obtain ⟨wk,wt⟩:=r
   rw [hsc] at ih
   simp only at ih ⊢
   by_cases hat:(Z8 ss k).2.1=b/\ZP (Z8 ss k)=true
   ·rw [if_pos hat]
    have hA:atB b (Z8 ss k)=true:=by
     have h2:=hat.2
     unfold ZP at h2
     unfold atB
     rw [h2,hat.1];simp
    by_cases h2:(Z8 ss k).1=2
    ·rw [if_pos h2]
     have hW:Y8 b (Z8 ss k)=false:=by unfold Y8;rw [h2];rfl
     rw [Xy hW,XT hA]
     exact ⟨ih.1,by simp⟩
    ·rw [if_neg h2]
     have h3:(Z8 ss k).1=3:=by
      have:=hat.2
      unfold ZP at this
      simp only [Bool.or_eq_true,beq_iff_eq] at this
      omega
     have hW:Y8 b (Z8 ss k)=true:=by unfold Y8;rw [h3,hat.1];simp
     rw [XT hW,XT hA]
     by_cases hwk:0<=wk
     ·rw [if_pos hwk]
      rcases ih.1 with ⟨e,_⟩ | ⟨_,e⟩
      ·omega
      ·simp only
       rw [e];simp
     ·rw [if_neg hwk]
      rcases ih.1 with ⟨_,e⟩ | ⟨e,_⟩
      ·simp only
       rw [e];simp
      ·omega
   ·rw [if_neg hat]
    have hA:atB b (Z8 ss k)=false:=by
     cases hc:atB b (Z8 ss k)
     ·rfl
     ·exfalso
      apply hat
      unfold atB at hc
      simp only [Bool.and_eq_true,beq_iff_eq] at hc
      exact ⟨hc.2,by unfold ZP;exact hc.1⟩
    have hW:Y8 b (Z8 ss k)=false:=by
     cases hc:Y8 b (Z8 ss k)
     ·rfl
     ·exfalso
      apply hat
      unfold Y8 at hc
      simp only [Bool.and_eq_true,beq_iff_eq] at hc
      exact ⟨hc.2,by unfold ZP;rw [hc.1];rfl⟩
    rw [Xy hW,Xy hA]
    exact ih
theorem Nu (m:Z6) (b:Nat):VD m b=Yn m b:=by
 have h:=Nj m.smiths b m.smiths.length
 unfold VD Yn
 cases hsc:XS m.smiths b m.smiths.length with
 | none=>
  rw [hsc] at h
  simp only at h ⊢
  split
  ·have:ZQ (atB b) m.smiths m.smiths.length ≠ []:=by
    intro e
    have hx:Z8 (ZQ (Y8 b) m.smiths m.smiths.length) 0 ∈ ZQ (Y8 b) m.smiths m.smiths.length:=Xn (by omega)
    obtain ⟨i,hi,_,hw⟩:=(Xh _ _ _ _).1 hx
    have:(i:Int) ∈ ZQ (atB b) m.smiths m.smiths.length:=(Xh _ _ _ _).2 ⟨i,hi,rfl,by
     unfold Y8 at hw
     simp only [Bool.and_eq_true,beq_iff_eq] at hw
     unfold atB
     rw [hw.1,hw.2];simp⟩
    rw [e] at this
    cases this
   simp only [List.length_eq_zero_iff,this,decide_false]
  ·rw [show decide ((ZQ (Y8 b) m.smiths m.smiths.length).length=1)=false from decide_eq_false (by omega),Bool.false_and]
 | some r=>
  obtain ⟨wk,wt⟩:=r
  rw [hsc] at h
  simp only at h ⊢
  obtain ⟨h1,h2⟩:=h
  generalize ZQ (Y8 b) m.smiths m.smiths.length=ws at *
  generalize ZQ (atB b) m.smiths m.smiths.length=az at *
  generalize (Z8 m.desks b).2.1=who at *
  by_cases hw:who= -1
  ·subst hw
   simp only [if_true,List.length_eq_zero_iff]
   rcases h1 with ⟨rfl,rfl⟩ | ⟨hk,rfl⟩
   ·cases wt
    ·simp at h2;simp [h2]
    ·simp at h2;simp [h2]
   ·have hne:az ≠ []:=by
     intro e
     have:=(h2.1 e).1
     cases this
    have:((-1:Int) ==wk)=false:=by simp;omega
    rw [this]
    simp [hne]
  ·rw [if_neg hw]
   rcases h1 with ⟨rfl,rfl⟩ | ⟨hk,rfl⟩
   ·have:(who == -1)=false:=by simpa using hw
    rw [this];simp
   ·have h0:decide (wk<0)=false:=decide_eq_false (by omega)
    rw [h0,Bool.and_false,Bool.not_false,Bool.and_true]
    simp only [List.length_cons,List.length_nil,decide_true,Bool.true_and]
    show decide (wk=who)=(who ==wk)
    by_cases e:wk=who
    ·subst e;simp
    ·rw [decide_eq_false e];symm;simp;omega
theorem IE (n:Nat) (i:Int):Xu n i=inB i 0 ((n:Int)-1):=by
 unfold Xu inB
 by_cases h0:0<=i<;>by_cases h1:i<n
 ·rw [decide_eq_true h0,decide_eq_true h1,decide_eq_true (show 0<=i/\i<=(n:Int)-1 by omega)];rfl
 ·rw [decide_eq_true h0,decide_eq_false h1,decide_eq_false (show ¬ (0<=i/\i<=(n:Int)-1) by omega)];rfl
 ·rw [decide_eq_false h0,decide_eq_false (show ¬ (0<=i/\i<=(n:Int)-1) by omega)];rfl
 ·rw [decide_eq_false h0,decide_eq_false (show ¬ (0<=i/\i<=(n:Int)-1) by omega)];rfl
theorem ON (m:Z6):VZ m=YB m:=by
 have e1:Wo m m.smiths.length=(Yj ZD m.smiths m.smiths.length && (Yj (Xl m.guilds.length) m.smiths m.smiths.length && Yj (Xb m.desks) m.smiths m.smiths.length)):=by
  rw [Qm,Qm]
  exact (JI m.smiths (Ed m) m.smiths.length).symm
 have e2:VU m.paces m.rooms=(decide (m.paces.length=m.rooms.length) && Wn m m.paces.length):=by
  unfold VU Wn
  congr 2
  funext j
  unfold Wj
  exact IE _ _
 have e3:decide (0<(ZQ (fun d:XZ=>d.1) m.desks m.desks.length).length)=Uy m m.desks.length:=Qj _ _ _
 unfold VZ Ru YB YG Ul Sm
 rw [e1,e2,e3]
 have e4:Yj V6 m.desks m.desks.length=VV m m.desks.length:=rfl
 rw [e4]
 generalize Ze m.rooms=x1
 generalize Zk m.guilds=x2
 generalize decide (m.smiths.length<=12)=x3
 generalize Yj ZD m.smiths m.smiths.length=x4
 generalize Yj (Xl m.guilds.length) m.smiths m.smiths.length=x5
 generalize decide ((m.desks.length:Int)=Z4 m.rooms)=x6
 generalize VV m m.desks.length=x7
 generalize Uy m m.desks.length=x8
 generalize decide (m.paces.length=m.rooms.length)=x9
 generalize Wn m m.paces.length=x10
 generalize inB m.now 0 1000000=x11
 generalize Yj (Xb m.desks) m.smiths m.smiths.length=x12
 rw [Bool.eq_iff_iff]
 simp only [Bool.and_eq_true]
 constructor
 ·rintro ⟨⟨a1,a2,⟨a3,a4,a5⟩,⟨a6,a7,a8⟩,⟨a9,a10⟩,a11⟩,a12⟩
  exact ⟨⟨a1,a2,a3,a6,a9,a11⟩,a7,a10,⟨a4,a5,a12⟩,a8⟩
 ·rintro ⟨⟨a1,a2,a3,a6,a9,a11⟩,a7,a10,⟨a4,a5,a12⟩,a8⟩
  exact ⟨⟨a1,a2,⟨a3,a4,a5⟩,⟨a6,a7,a8⟩,⟨a9,a10⟩,a11⟩,a12⟩
theorem EA (m:Z6):Ez m=ZS m:=by
 unfold Ez ZS RH
 rw [ON,show VD m=Yn m from funext (Nu m)]
theorem MD {ps:List Int} {k:Nat} (h:k<ps.length):ps.take (k+1)=ps.take k++[Z8 ps k]:=by
 unfold Z8
 rw [List.take_add_one,List.getD,List.getElem?_eq_getElem h];rfl
def YV (m:Z6) (who:Int):Int:=if ZS m && Yg m who then ZI m who else -1
def UM (m:Z6) (b:Int):Int:=if ZS m && Yq m b then ZA m b (-1) else -1
theorem Zd  {q:Bool} (hq:ZS m=q) (h:Smy w v0 v1 v2 v3 v4 m):Calls Tryz.prog 21 #[.agg #[v0,v1,v2,v3,v4,.int .i64 m.now]] w fun e w'=>e= .returned (.bool q)/\Below w.heap.size w w':=by
 have:=Un h;rw [hq] at this;exact this
theorem UU  {b:Int} {q:Bool} (hq:Yq m b=q) (h:Smy w v0 v1 v2 v3 v4 m) :
  Calls Tryz.prog 64 #[.agg #[v0,v1,v2,v3,v4,.int .i64 m.now],.int .i64 b] w fun e w'=>e= .returned (.bool q)/\Below w.heap.size w w':=by
 have hq2:inB b 0 ((m.desks.length:Int)-1)=q:=hq
 clear hq
 obtain ⟨a0,p0,rfl,_,_⟩:=IsRooms.shape h.rooms
 obtain ⟨a1,p1,rfl,_,_⟩:=IsRec.shape h.guilds
 obtain ⟨a2,p2,rfl,_,_⟩:=IsRec.shape h.smiths
 obtain ⟨a3,p3,rfl,hc3,hm3⟩:=IsRec.shape h.desks
 obtain ⟨a4,p4,rfl,_,_⟩:=IsRec.shape h.paces
 clear h
 go_enter Tryz.func64,Tryz.ntmps64
 go_wp2_with (go_at_call 123;refine (Z0 _ _ _ _).mono ?_;rw [hq2];rintro e w' ⟨rfl,h9⟩;subst w')
 go_ret
 exact ⟨rfl,(Below.refl _ _).alloc (Nat.le_refl _) _⟩
def Pt (m:Z6) (r:Int):Bool:=inB r 0 ((m.rooms.length:Int)-1)
theorem G9 {b:Int} (h:Pt m b=true):∃ k:Nat,b=(k:Int)/\k<m.rooms.length:=by
 have:=ZV (show inB b 0 ((m.rooms.length:Int)-1)=true from h)
 exact ⟨b.toNat,by omega,by omega⟩
theorem FD  {b:Int} {q:Bool} (hq:Pt m b=q) (h:Smy w v0 v1 v2 v3 v4 m) :
  Calls Tryz.prog 286 #[.agg #[v0,v1,v2,v3,v4,.int .i64 m.now],.int .i64 b] w fun e w'=>e= .returned (.bool q)/\Below w.heap.size w w':=by
 have hq2:inB b 0 ((m.rooms.length:Int)-1)=q:=hq
 clear hq
 obtain ⟨a0,p0,rfl,hc3,hm3⟩:=IsRooms.shape h.rooms
 obtain ⟨a1,p1,rfl,_,_⟩:=IsRec.shape h.guilds
 obtain ⟨a2,p2,rfl,_,_⟩:=IsRec.shape h.smiths
 obtain ⟨a3,p3,rfl,_,_⟩:=IsRec.shape h.desks
 obtain ⟨a4,p4,rfl,_,_⟩:=IsRec.shape h.paces
 clear h
 go_enter Tryz.func286,Tryz.ntmps286
 go_wp2_with (go_at_call 123;refine (Z0 _ _ _ _).mono ?_;rw [hq2];rintro e w' ⟨rfl,h9⟩;subst w')
 go_ret
 exact ⟨rfl,(Below.refl _ _).alloc (Nat.le_refl _) _⟩
end Go.Proofs.YtaegckehjlkaaaaGreat
