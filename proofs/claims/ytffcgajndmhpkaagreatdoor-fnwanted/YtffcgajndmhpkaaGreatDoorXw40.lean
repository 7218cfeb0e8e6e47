/- Part 40 of what the proof rests on. No condition but those that a theorem names. -/
import Derived.Test.YtffcgajndmhpkaaGreatDoorXw27
import Derived.Test.YtffcgajndmhpkaaGreatDoorXw39
import Derived.Deep.DeepMust
set_option maxHeartbeats 8000000
set_option maxRecDepth 100000
namespace Go.Proofs.YtffcgajndmhpkaaGreatDoor
open Go.ChangeShapes Go.WideShapes Go.ChangeAt Go.RowKit Go.Sort
open Go.Lib (digitVal decFrom)
set_option linter.unusedVariables false
variable {w w' w0 w1 w2 w3 w₀ wr W W' X A B C : World} {v v0 v1 v2 v3 v4 u u0 u1 u2 u3 u4 : Value}
def Cl (l:Txt) (n₀:Nat) (e:Ending) (w':World):Prop:=
 (∃ v qs,e= .returned (.tuple #[.agg #[v],.bool true])/\YW l=some (qs.map (·.1))/\OwnHall n₀ w' v qs)\/(e= .returned (.tuple #[.agg #[.slice none 0 0],.bool false])/\YW l=none)
theorem QU (l:Txt) (w:World) (hl:l.length<=1048576) :
  Calls Tryz.prog 195 #[.string (bs l)] w fun e w'=>Cl l w.heap.size e w'/\Below w.heap.size w w':=by
 obtain ⟨i1,hi1,hp0,hp1,hp2⟩:=info_parts EE
 obtain ⟨i2,hi2,hr0,hr1,hr2⟩:=info_parts Ml
 go_enter Tryz.func195,Tryz.ntmps195
 go_wp2_with fail
 refine (SZ (bs l) 47 _ (Mf hl)).mono ?_
 rw [Sm]
 rintro e w2 ⟨rv,rfl,hst,hb⟩
 have hsz:w.heap.size+2<=w2.heap.size:=by have:=hb.size;simp at this;omega
 obtain ⟨cc,ff⟩:=NG hb
 have x0:=cc w.heap.size 0 (by simp;omega)
 have x1:=cc (w.heap.size+1) 0 (by simp)
 have f0:=ff w.heap.size 0 (by simp;omega)
 have f1:=ff (w.heap.size+1) 0 (by simp)
 simp at x0 x1
 have g0:w2.frozen? ⟨w.heap.size,0,none⟩=false:=by rw [f0,frozen?_alloc_cells,frozen?_alloc_cells];exact TI (Nat.le_refl _)
 have g1:w2.frozen? ⟨w.heap.size+1,0,none⟩=false:=by rw [f1,frozen?_alloc_cells,frozen?_alloc_cells];exact TI (by omega)
 have B2:Hid (Below w.heap.size w w2):=Z9 ((((ba _ _)).alloc (by simp) _).trans (hb.mono (by simp;omega)))
 have hpl:=XD 47 l []
 have Hsm:Hid (∀ p ∈ Zl 47 l,p.length<=1048576):=Z9 (fun p hp=>UW hp hl)
 obtain ⟨ra,rcap,rfl,hrc,hrm,hrr⟩:=hst.view
 rcases hrr with h0 | ⟨g,rfl,hg1,hg2,hcl⟩
 ·exact absurd h0 (MK _ _)
 have hg1':w.heap.size+2<=g:=by simp at hg1;omega
 have Hcl:=Z9 hcl
 have hpl':(Zl 47 l).length<=1048577:=by unfold Zl;omega
 clear hst hb cc ff hcl hg1 f0 f1 hpl
 have HN:Hid (YW l=((Zl 47 l).mapM Za).bind fun rs=>if Zh rs=true then some rs else none):=Z9 rfl
 have Hnone:Hid ((Zl 47 l).mapM Za=none->YW l=none):=Z9 Nh
 have Hsome:Hid (∀ rs,(Zl 47 l).mapM Za=some rs->Zh rs=true->YW l=some rs):=Z9 (fun rs=>Ni)
 have Hbad:Hid (∀ rs,(Zl 47 l).mapM Za=some rs->Zh rs=false->YW l=none):=Z9 (fun rs=>LR)
 generalize Zl 47 l=pc at *
 go_wp2_with fail
 go_loopw [6] (fun i wr=> ∃ (k:Nat) (v:Value) (qs:List (Z2 × Value)),k<=pc.length/\i= .int .i64 k/\wr.cell? ⟨w.heap.size+1,0,none⟩=some v/\wr.frozen? ⟨w.heap.size+1,0,none⟩=false/\OwnHall w2.heap.size wr v qs/\qs.length=k/\(pc.take k).mapM Za=some (qs.map (·.1))/\But (w.heap.size+1) w2 wr) (fun i _=>pc.length-(intOf i).toNat)
 case atStart=>exact ⟨0,_,[],Nat.zero_le _,rfl,x1,g1,OwnHall.nil _ _,rfl,rfl,But.refl _ _⟩
 case round=>
  obtain ⟨wo,rfl⟩:∃ wo,wo=wr:=⟨wr,rfl⟩
  obtain ⟨k,v,qs,hk,rfl,hv,hfv,hoh,hql,hmap,hbut⟩:=hrel
  have Hoh:=Z9 hoh
  have Hmap:=Z9 hmap
  have Hbut:=Z9 hbut
  have hz2:=hbut.size
  have Hql:=Z9 hql
  have Hv:=Z9 hv
  have Hfv:=Z9 hfv
  have y0:wo.cell? ⟨w.heap.size,0,none⟩=some (.slice none 0 0):=(hbut.cell (p:=⟨w.heap.size,0,none⟩) (by show w.heap.size<_;omega) (by show w.heap.size ≠ _;omega)).trans x0
  have Hy0:=Z9 y0
  obtain ⟨va,vcap,rfl⟩:=hoh.shape
  by_cases hlt:k<pc.length
  ·have hck:=(hbut.cell (p:=⟨g,k,none⟩) hg2 (by show g ≠ _;omega)).trans (uh Hcl k hlt)
   have hget:pc.getD k []=pc[k]:=by simp [List.getD,hlt]
   rw [hget] at hck
   have hpk:=uh Hsm pc[k] (List.getElem_mem hlt)
   have HX:Hid (Za pc[k]=none->pc.mapM Za=none):=Z9 (fun h=>Qz hlt h)
   have HY:Hid (∀ y,Za pc[k]=some y->(pc.take (k+1)).mapM Za=some (qs.map (·.1)++[y])):=Z9 (fun y h=>Mu hlt (uh Hmap) h)
   generalize pc[k]=pk at *
   clear hoh hmap hbut hql y0 hget
   go_wp2_with fail
   refine (SZ (bs pk) 32 _ (Mf hpk)).mono ?_
   rw [Sm]
   rintro e w3 ⟨wv,rfl,hst3,hb3⟩
   have hz3:=hb3.size
   have Hb3:=Z9 hb3
   have hwl:=XD 32 pk []
   obtain ⟨wd,ws,hww⟩:∃ wd ws,Zl 32 pk=wd::ws:=by
    cases hx:Zl 32 pk with
    | nil=>exact absurd hx (MK _ _)
    | cons a b=>exact ⟨a,b,rfl⟩
   have Hsm2:Hid (∀ p ∈ wd::ws,p.length<=1048576):=Z9 (fun p hp=>UW (c:=32) (by rw [hww];exact hp) hpk)
   have hwl':ws.length<=1048576:=by have h9:=hwl.2;unfold Zl at hww;rw [hww] at h9;simp at h9;omega
   have HRR:=Z9 (Ks hww)
   rw [hww] at hst3
   obtain ⟨wa,wcap,rfl,hwc,hwm,hwr⟩:=hst3.view
   rcases hwr with h0 | ⟨g3,rfl,hg31,hg32,hcl3⟩
   ·cases h0
   have Hcl3:=Z9 hcl3
   have hc30:=hcl3 0 (by simp)
   simp only [List.getD_cons_zero] at hc30
   have hlen3:(wd::ws).length=ws.length+1:=rfl
   have hwdl:=uh Hsm2 wd (by simp)
   clear hst3 hcl3 hb3 hwl hww hpk
   rw [hlen3] at *
   go_wp2_with fail
   refine (RS (bs wd) _ (by have:=Mf hwdl;omega)).mono ?_
   rw [Sm]
   rintro e w' ⟨rfl,hw'⟩
   subst w'
   unfold Xp
   have hnb:=Kq (l:=wd)
   have HisT:Hid ((YB wd).isSome=true->YB wd=some ((YB wd).getD 0)):=Z9 (fun h=>by cases hx:YB wd with | none=>rw [hx] at h;cases h | some y=>rfl)
   have HisF:Hid ((YB wd).isSome=false->Za pk=none):=Z9 (fun h=>by rw [uh HRR];cases hx:YB wd with | none=>rfl | some y=>rw [hx] at h;cases h)
   generalize (YB wd).getD 0=n at *
   generalize hib:(YB wd).isSome=ib at *
   have Hib:=Z9 hib
   clear hib
   go_wp2_with fail
   have hRB:(w3.alloc (.cells #[.int .i64 n,.slice none 0 0] 45)).frozen? ⟨w3.heap.size,1,none⟩=false:=by rw [frozen?_alloc_cells];exact TI (Nat.le_refl _)
   go_loopw [9,11] (fun q i wi=> ∃ (m:Nat) (b:Bool) (pv:Value) (ps:List Z6),m<=ws.length/\i= .int .i64 (m+1)/\q= .bool b/\wi.cell? ⟨w3.heap.size,0,none⟩=some (.int .i64 n)/\wi.cell? ⟨w3.heap.size,1,none⟩=some pv/\wi.frozen? ⟨w3.heap.size,1,none⟩=false/\PacesAt (w3.heap.size+1) wi pv ps/\ps.length=m/\Below w3.heap.size w3 wi/\w3.heap.size+1<=wi.heap.size/\(b=true->ib=true/\(ws.take m).mapM YM=some ps)/\(b=false->Za pk=none)) (fun _ i _=>ws.length+1-(intOf i).toNat)
   case atStart=>exact ⟨0,ib,_,[],Nat.zero_le _,rfl,rfl,by simp,by simp,hRB,World.ownsRow_nil _ _ _ _,rfl,(ba _ _),by simp,fun h=>⟨h,rfl⟩,fun h=>uh HisF h⟩
   case round=>
    obtain ⟨wi,rfl⟩:∃ wi,wi=wr:=⟨wr,rfl⟩
    obtain ⟨m,b,pv,ps,hm1,rfl,rfl,z0,z1,z2,hpa,hpl1,hbi,hzi,hbt,hbf⟩:=hrel
    have Hpa:=Z9 hpa
    have Hpl1:=Z9 hpl1
    have Hbi:=Z9 hbi
    have Hbt:=Z9 hbt
    have Hbf:=Z9 hbf
    have Hz1:=Z9 z1
    have Hz0:=Z9 z0
    have Hz2:=Z9 z2
    obtain ⟨pva,pvcap,rfl⟩:=hpa.shape
    by_cases hlt2:m<ws.length
    ·have hck2:=(hbi.cell (p:=⟨g3,m+1,none⟩) hg32).trans (uh Hcl3 (m+1) (by first | omega | (simp;omega)))
     have hget2:(wd::ws).getD (m+1) []=ws[m]:=by simp [List.getD,hlt2]
     rw [hget2] at hck2
     have hpm:=uh Hsm2 ws[m] (List.mem_cons_of_mem _ (List.getElem_mem hlt2))
     have HXm:Hid (YM ws[m]=none->Za pk=none):=Z9 (fun h=>by rw [uh HRR,Qz hlt2 h];cases YB wd<;>rfl)
     have HYm:Hid (∀ y,YM ws[m]=some y->(ws.take m).mapM YM=some ps->(ws.take (m+1)).mapM YM=some (ps++[y])):=Z9 (fun y h h'=>Mu hlt2 h' h)
     generalize ws[m]=pm at *
     clear hpa hpl1 hbi hbt hbf hget2
     go_wp2_with fail
     refine (GZ pm _ hpm).mono ?_
     rintro e w5 ⟨f,kk,fb,rfl,hft,hff,hb5⟩
     have hz5:=hb5.size
     have Hft:=Z9 hft
     have Hff:=Z9 hff
     have Hb5:=Z9 hb5
     have c50:=(hb5.cell (p:=⟨w3.heap.size,0,none⟩) (by show w3.heap.size<_;omega)).trans (uh Hz0)
     have c51:=(hb5.cell (p:=⟨w3.heap.size,1,none⟩) (by show w3.heap.size<_;omega)).trans (uh Hz1)
     have c52:=(hb5.frozen (p:=⟨w3.heap.size,1,none⟩) (by show w3.heap.size<_;omega)).trans (uh Hz2)
     have Hp5:Hid (PacesAt (w3.heap.size+1) w5 (.slice pva ps.length pvcap) ps):=Z9 (XS (uh Hpa) (fun q e=>hb5.block q ((uh Hpa).lt e).2))
     clear hft hff hb5 z0 z1 z2
     have hne5:w3.heap.size ≠ w5.heap.size:=by omega
     have q51:(w5.alloc (.cells #[.int .i64 f,.int .i64 kk] 42)).cell? ⟨w3.heap.size,1,none⟩=some (.slice pva ps.length pvcap):=by rw [World.cell?_alloc_old _ _ _ hne5];exact c51
     have Hp6:Hid (PacesAt (w3.heap.size+1) (w5.alloc (.cells #[.int .i64 f,.int .i64 kk] 42)) (.slice pva ps.length pvcap) ps):=Z9 (XS (uh Hp5) (fun q e=>Below.heap_alloc w5 _ q ((uh Hp5).lt e).2))
     have q50:(w5.alloc (.cells #[.int .i64 f,.int .i64 kk] 42)).cell? ⟨w3.heap.size,0,none⟩=some (.int .i64 n):=by rw [World.cell?_alloc_old _ _ _ hne5];exact c50
     have q52:(w5.alloc (.cells #[.int .i64 f,.int .i64 kk] 42)).frozen? ⟨w3.heap.size,1,none⟩=false:=by rw [frozen?_alloc_cells];exact c52
     have hpsm:ps.length<=1048576:=by rw [uh Hpl1];omega
     have HB5:Hid (Below w3.heap.size w3 (w5.alloc (.cells #[.int .i64 f,.int .i64 kk] 42))):=Z9 (((uh Hbi).trans ((uh Hb5).mono (by omega))).alloc (by omega) _)
     clear c50 c51 c52
     cases b
     ·go_wp2_with (at_builtin;go_must (refine wpList_append_own_at _ rfl _ _ 43 rfl (w3.heap.size+1) 42 i1 (.agg #[.int .i64 0,.int .i64 0]) 2 16 Tryz.underlying43 hi1 hp0 hp1 hp2 rfl (by decide) _ _ _ rfl (World.ownsRow.alloc (uh Hp6) _) ⟨_,0,none⟩ 1 1 [.int .i64 f,.int .i64 kk] rfl rfl (SG _ _ _ _ _ (by simp)) (by simp [Value.oneCell']) (by simp only [maxLen];omega) (by omega) (by simp;omega) ?_);go_must (intro v' w6 hown' hgrow _ _);go_must (obtain ⟨a6,cap6,rfl,e1,e2,HE⟩:=Kp (uh Hp6) (by simp;omega) hown' hgrow q50 q51 q52);clear hown' hgrow)
      go_roundw
      case rel=>exact ⟨m+1,false,_,ps++[(f,kk)],by omega,by go_num,rfl,(uh HE).1,(uh HE).2.1,(uh HE).2.2.1,(uh HE).2.2.2.1,by simp [uh Hpl1],(uh HB5).trans (uh HE).2.2.2.2.1,(uh HE).2.2.2.2.2,fun h=>(by cases h),fun _=>uh Hbf (by simp)⟩
      case measure=>exact ms
     ·go_wp2_with (at_builtin;go_must (refine wpList_append_own_at _ rfl _ _ 43 rfl (w3.heap.size+1) 42 i1 (.agg #[.int .i64 0,.int .i64 0]) 2 16 Tryz.underlying43 hi1 hp0 hp1 hp2 rfl (by decide) _ _ _ rfl (World.ownsRow.alloc (uh Hp6) _) ⟨_,0,none⟩ 1 1 [.int .i64 f,.int .i64 kk] rfl rfl (SG _ _ _ _ _ (by simp)) (by simp [Value.oneCell']) (by simp only [maxLen];omega) (by omega) (by simp;omega) ?_);go_must (intro v' w6 hown' hgrow _ _);go_must (obtain ⟨a6,cap6,rfl,e1,e2,HE⟩:=Kp (uh Hp6) (by simp;omega) hown' hgrow q50 q51 q52);clear hown' hgrow)
      go_roundw
      case rel=>exact ⟨m+1,fb,_,ps++[(f,kk)],by omega,by go_num,rfl,(uh HE).1,(uh HE).2.1,(uh HE).2.2.1,(uh HE).2.2.2.1,by simp [uh Hpl1],(uh HB5).trans (uh HE).2.2.2.2.1,(uh HE).2.2.2.2.2,fun h=>⟨(uh Hbt (by simp)).1,uh HYm _ (uh Hft h) (uh Hbt (by simp)).2⟩,fun h=>uh HXm (uh Hff h)⟩
      case measure=>exact ms
    ·obtain rfl:m=ws.length:=by omega
     have HBi:Hid (Below wo.heap.size wo wi):=Z9 ((uh Hb3).trans (hbi.mono hz3))
     have HbutI:Hid (But (w.heap.size+1) w2 wi):=Z9 ((uh Hbut).later (uh HBi))
     have HB2:Hid (Below (w.heap.size+1) w2 wi):=Z9 ((uh HbutI).below (Nat.le_refl _) (by omega))
     have d0:wi.cell? ⟨w.heap.size,0,none⟩=some (.slice none 0 0):=((uh HB2).cell (p:=⟨w.heap.size,0,none⟩) (by show w.heap.size<_;omega)).trans x0
     have df0:wi.frozen? ⟨w.heap.size,0,none⟩=false:=((uh HB2).frozen (p:=⟨w.heap.size,0,none⟩) (by show w.heap.size<_;omega)).trans g0
     have d1:wi.cell? ⟨w.heap.size+1,0,none⟩=some (.slice va qs.length vcap):=((uh HBi).cell (p:=⟨w.heap.size+1,0,none⟩) (by show w.heap.size+1<_;omega)).trans (uh Hv)
     have df1:wi.frozen? ⟨w.heap.size+1,0,none⟩=false:=((uh HBi).frozen (p:=⟨w.heap.size+1,0,none⟩) (by show w.heap.size+1<_;omega)).trans (uh Hfv)
     have HohI:Hid (OwnHall w2.heap.size wi (.slice va qs.length vcap) qs):=Z9 ((uh Hoh).later (uh HBi))
     have hzwi:=(uh HBi).size
     clear hpa hpl1 hbi hbt hbf
     cases b
     ·have HZ:Hid (YW l=none):=Z9 (uh Hnone (uh HX (uh Hbf (by simp))))
      go_wp2_with fail
      exact bodyPost_ret (v:= .tuple #[.agg #[.slice none 0 0],.bool false]) (by simp [results,Tryz.results195,go_sem, *]) rfl ⟨.inr ⟨rfl,uh HZ⟩,(((uh B2).trans ((uh HB2).mono (by omega))).setCell (Nat.le_refl w.heap.size) _)⟩
     ·have HRm:Hid (Za pk=some (n,ps)):=Z9 (by
       obtain ⟨h1,h2⟩:=uh Hbt (by simp)
       rw [List.take_length] at h2
       rw [uh HRR,uh HisT h1,h2];rfl)
      have hqsm:qs.length<=1048577:=by rw [uh Hql];omega
      have HpI:Hid (PacesAt w2.heap.size wi (.slice pva ps.length pvcap) ps):=Z9 (Up (uh Hpa) (by omega))
      have Hoff:Hid (∀ b,(Value.slice pva ps.length pvcap).ownBlock=some b->(Value.slice va qs.length vcap).ownBlock ≠ some b):=Z9 (fun b e e'=>by have h1:=((uh Hpa).lt e).1;have h2:=((uh Hoh).lt (.inl e')).2;omega)
      have Hap:Hid (∀ q ∈ qs,∀ b,q.2.ownBlock=some b->(Value.slice pva ps.length pvcap).ownBlock ≠ some b):=Z9 (fun q hq b e e'=>by have h1:=((uh Hpa).lt e').1;have h2:=((uh Hoh).lt (.inr ⟨q,hq,e⟩)).2;omega)
      go_wp2_with (at_builtin;go_must (refine wpList_append_own_at _ rfl _ _ 24 rfl w2.heap.size 45 i2 (.agg #[.int .i64 0,.slice none 0 0]) 2 32 Tryz.underlying24 hi2 hr0 hr1 hr2 rfl (by decide) _ _ _ rfl (World.ownsRow.alloc (uh HohI).row _) ⟨_,0,none⟩ 1 1 [.int .i64 n,.slice pva ps.length pvcap] rfl rfl (SG _ _ _ _ _ (by simp)) (by simp [Value.oneCell']) (by simp only [maxLen];omega) (by omega) (by simp;omega) ?_);go_must (intro v' w6 hown' hgrow _ hat);go_must (obtain ⟨a6,cap6,rfl,e1,e2,HE⟩:=DL (b:=w.heap.size+1) (uh HohI) (uh HpI) (uh Hoff) (uh Hap) hown' hgrow hat (by omega) (by omega) d1 df1);clear hown' hgrow hat)
      go_roundw
      case rel=>exact ⟨k+1,_,qs++[((n,ps),.slice pva ps.length pvcap)],by omega,by go_num,(uh HE).1,(uh HE).2.1,(uh HE).2.2.1,by simp [uh Hql],by rw [List.map_append];exact uh HY _ (uh HRm),((uh HbutI).within (uh HE).2.2.2).setCell 0 _⟩
      case measure=>exact ms
  ·obtain rfl:k=pc.length:=by omega
   have HB2:Hid (Below (w.heap.size+1) w2 wo):=Z9 (hbut.below (Nat.le_refl _) (by omega))
   have df0:wo.frozen? ⟨w.heap.size,0,none⟩=false:=((uh HB2).frozen (p:=⟨w.heap.size,0,none⟩) (by show w.heap.size<_;omega)).trans g0
   rw [List.take_length] at hmap
   have Hmap2:=Z9 hmap
   have HBo:Hid (Below w.heap.size w wo):=Z9 ((uh B2).trans ((uh HB2).mono (by omega)))
   clear hoh hmap hbut hql
   go_wp2_with fail
   refine ck (Xr (uh Hoh).rooms) fun w7 hb7=> ?_
   have c70:=(hb7.cell (p:=⟨w.heap.size,0,none⟩) (by show w.heap.size<_;omega)).trans y0
   have c71:=(hb7.cell (p:=⟨w.heap.size+1,0,none⟩) (by show w.heap.size+1<_;omega)).trans hv
   have c72:=(hb7.frozen (p:=⟨w.heap.size,0,none⟩) (by show w.heap.size<_;omega)).trans df0
   have Hb7:=Z9 hb7
   have hz7:=hb7.size
   clear hb7 y0 hv hfv
   cases hh:Zh (qs.map (·.1))
   ·have HZ:Hid (YW l=none):=Z9 (uh Hbad _ (uh Hmap2) hh)
    clear hh
    go_wp2_with fail
    exact bodyPost_ret (v:= .tuple #[.agg #[.slice none 0 0],.bool false]) (by simp [results,Tryz.results195,go_sem, *]) rfl ⟨.inr ⟨rfl,uh HZ⟩,((uh HBo).trans ((uh Hb7).mono (by omega))).setCell (Nat.le_refl w.heap.size) _⟩
   ·have HZ:Hid (YW l=some (qs.map (·.1))):=Z9 (uh Hsome _ (uh Hmap2) hh)
    clear hh
    go_wp2_with fail
    exact bodyPost_ret (v:= .tuple #[.agg #[.slice va qs.length vcap],.bool true]) (by simp [results,Tryz.results195,go_sem, *]) rfl ⟨.inl ⟨_,qs,rfl,uh HZ,(((uh Hoh).later (uh Hb7)).but ((But.refl w.heap.size w7).setCell 0 _) (.inl (by omega))).mono (by omega)⟩,((uh HBo).trans ((uh Hb7).mono (by omega))).setCell (Nat.le_refl w.heap.size) _⟩
open Draw (St Off Row Cur)
def Dd (l:Txt):Bool:=decide (l.length<=1048576) && (YW l).isSome
def Dj:Value->Bool
 | .string s=>Dd s.data.toList
 | _=>false
theorem E8 (cs:Array Value) (j:Nat) (hj:j<cs.size) (h:cs.toList.all Dj=true):∃ l,cs[j]?=some (.string (bs l))/\Dd l=true:=by
 rw [Array.all_toList,Array.all_eq_true] at h
 have:=h j hj
 rw [Array.getElem?_eq_getElem hj]
 generalize cs[j]=c at *
 unfold Dj at this
 split at this
 ·rename_i s;exact ⟨s.data.toList,by rw [FH],this⟩
 ·cases this
theorem JO (w:World):Calls Tryz.prog 196 #[] w fun e w'=>e= .returned (.slice (some ⟨w.heap.size,0,none⟩) 6 6)/\(∀ j,j<6-> ∃ l,w'.cell? ⟨w.heap.size,j,none⟩=some (.string (bs l))/\Dd l=true)/\Below w.heap.size w w'/\w.heap.size<w'.heap.size:=by
 go_enter Tryz.func196,Tryz.ntmps196
 go_wp2_with fail
 go_ret
 refine ⟨rfl,fun j hj=> ?_,(ba _ _),by simp⟩
 rw [World.cell?_alloc_new]
 exact E8 _ j hj (by decide +kernel)
theorem FN {l:Txt} (h:Dd l=true):l.length<=1048576/\(YW l).isSome=true:=by
 unfold Dd at h;simpa using h
theorem GY (a:Option Addr) (len cap bc:Nat) (w:World) (hs:St a len cap bc w) :
  Calls Tryz.prog 137 #[.pointer (some ⟨bc,0,none⟩)] w fun e w'=> ∃ v qs,e= .returned (.agg #[v])/\Zh (qs.map (·.1))=true/\OwnHall w.heap.size w' v qs/\St a len cap bc w'/\Off bc w w':=by
 have Hs:=Z9 hs
 have hbc:=Xc hs
 clear hs
 go_enter Tryz.func137,Tryz.ntmps137
 go_wp2_with fail
 refine (JO _).mono ?_
 rintro e w1 ⟨rfl,htx,hb1,hz1⟩
 have hz1':w.heap.size+2<=w1.heap.size:=by simp at hz1;omega
 have B1:Hid (Below w.heap.size w w1):=Z9 (((ba _ _)).trans (hb1.mono (by simp)))
 have x0:w1.cell? ⟨w.heap.size,0,none⟩=some (.slice none 0 0):=(hb1.cell (p:=⟨w.heap.size,0,none⟩) (by simp)).trans (by simp)
 have x1:w1.frozen? ⟨w.heap.size,0,none⟩=false:=(hb1.frozen (p:=⟨w.heap.size,0,none⟩) (by simp)).trans (by rw [frozen?_alloc_cells];exact TI (Nat.le_refl _))
 have Htx:=Z9 htx
 clear htx hb1
 go_wp2_with fail
 refine (Draw.below_any a len cap bc 6 (by omega) (by omega) _ (Yd (uh Hs) ((uh B1).mono (by omega)))).mono ?_
 rintro e w2 ⟨x,rfl,hx0,hx1,hs2,ho2⟩
 obtain ⟨j,rfl⟩:=Int.eq_ofNat_of_zero_le hx0
 obtain ⟨l,hcl,hgd⟩:=uh Htx j (by omega)
 simp only [World.size_alloc] at hcl
 have hcl2:=(ho2.cell (p:=⟨w.heap.size+1,j,none⟩) (by show w.heap.size+1<_;omega) (by show w.heap.size+1 ≠ _;omega)).trans hcl
 have y0:=(ho2.cell (p:=⟨w.heap.size,0,none⟩) (by show w.heap.size<_;omega) (by show w.heap.size ≠ _;omega)).trans x0
 have y1:w2.frozen? ⟨w.heap.size,0,none⟩=false:=(World.frozen?_of_block (w:=w1) (w':=w2) (ho2.block w.heap.size (by omega) (by omega))).trans x1
 have Hs2:=Z9 hs2
 have Ho2:=Z9 ho2
 have hz2:=ho2.size
 have hll:=(FN hgd).1
 have Hgd:=Z9 (FN hgd).2
 clear hcl hs2 ho2 x0 x1 hgd
 go_wp2_with fail
 refine (QU l _ hll).mono ?_
 rintro e w3 ⟨hgot,hb3⟩
 rcases hgot with ⟨v,qs,rfl,hrd,hown⟩ | ⟨rfl,hrd⟩
 ·obtain ⟨va,vcap,rfl⟩:=hown.shape
  have hz3:=hb3.size
  have z0:=(hb3.cell (p:=⟨w.heap.size,0,none⟩) (by show w.heap.size<_;omega)).trans y0
  have z1:=(hb3.frozen (p:=⟨w.heap.size,0,none⟩) (by show w.heap.size<_;omega)).trans y1
  have Hown:=Z9 hown
  have Hb3:=Z9 hb3
  have Hrd:=Z9 (Ng hrd).1
  have hlt3:w.heap.size<w3.heap.size:=by omega
  clear hown hb3 hrd y0 y1
  go_wp2_with fail
  have HB:Below w.heap.size w2 ((w3.setCell ⟨w.heap.size,0,none⟩ (.slice va qs.length vcap)).alloc (.cells #[.slice va qs.length vcap] 26)):=(((uh Hb3).mono (by omega)).setCell (Nat.le_refl w.heap.size) _).alloc (by simp;omega) _
  refine bodyPost_ret (v:= .agg #[.slice va qs.length vcap]) (by simp [results,Tryz.results137,go_sem, *]) rfl ⟨_,qs,rfl,uh Hrd,?_,Yd (uh Hs2) (HB.mono (by omega)),Uo ((Uo (Off.refl bc w) (uh B1)).trans (uh Ho2)) HB⟩
  exact ((((uh Hown).but ((But.refl w.heap.size w3).setCell 0 _) (.inl (by omega))).later ((ba _ _))).mono (by omega))
 ·exfalso;rw [hrd] at Hgd;exact absurd (uh Hgd) (by simp)
def EW (rs:List Z2):Z4:=if Zh rs then U0 rs else YJ
def A9 (n₀:Nat) (M:Z4) (q:Bool) (e:Ending) (w':World):Prop:=
 ∃ u0 u1 u2 u3 u4 qs,e= .returned (.tuple #[.agg #[u0,u1,u2,u3,u4,.int .i64 M.now],.bool q])/\FullSmy n₀ w' u0 u1 u2 u3 u4 M qs
theorem Gk:∀ rs:List Z2,rs.all Zt=true->0<=Z1 rs
 | [],_=>by simp [Z1]
 | r::rs,h=>by
  simp only [List.all_cons,Bool.and_eq_true] at h
  have ih:=Gk rs h.2
  have h1:=h.1
  unfold Zt at h1
  simp only [Bool.and_eq_true] at h1
  have:=ZU h1.1
  simp only [Z1,List.map_cons,List.sum_cons] at ih ⊢
  omega
theorem Qk {rs:List Z2} (h:Zh rs=true):1<=Z1 rs:=by
 obtain ⟨r1,r2,r3,r4⟩:=Zy h
 match rs,r1,r3 with
 | r::rs,_,h3=>
  simp only [List.all_cons,Bool.and_eq_true] at h3
  have ih:=Gk rs h3.2
  have h1:=h3.1
  unfold Zt at h1
  simp only [Bool.and_eq_true] at h1
  have:=ZU h1.1
  simp only [Z1,List.map_cons,List.sum_cons] at ih ⊢
  omega
theorem EO {B n:Nat} (hg:B<=w.heap.size) (hn:n<=1000):NumsAt B (w.alloc (.cells (madeCells #[.int .i64 0] n) 2)) (.slice (some ⟨w.heap.size,0,none⟩) n n) (List.replicate n 0):=by
 have hl:(madeCells #[Value.int .i64 0] n).toList=U4 TE (List.replicate n 0):=by
  have:=EN Zb (by omega) (0:Int) #[Value.int .i64 0] rfl n
  rw [Nat.mul_one] at this
  exact this
 have hsz:(madeCells #[Value.int .i64 0] n).size=n:=by simp [madeCells]
 show (w.alloc _).ownsRow B 2 1 _ (List.replicate n (0:Int)).length _
 rw [List.length_replicate]
 refine ⟨by rw [Wz Zb,List.length_replicate],.inr ⟨_,n,madeCells #[.int .i64 0] n,rfl,hg,heap_alloc_new w _,Nat.le_refl _,(by unfold maxLen;omega),(by simp [hsz]),?_⟩⟩
 rw [<-hl,Nat.mul_one]
 exact List.take_of_length_le (by rw [Array.length_toList,hsz];exact Nat.le_refl _)
theorem DN (B:Nat) (w:World):DesksAt B w (.slice none 0 0) []:=World.ownsRow_nil _ _ _ _
structure NewOff (n₀:Nat) (rs:List Z2) (w:World) (R:Nat) (v0 v4 v3:Value) (qs:List (Z2 × Value)):Prop where
 hall:OwnHall (n₀+2) w v0 qs
 rooms:qs.map (·.1)=rs
 nums:NumsAt (n₀+2) w v4 (List.replicate rs.length 0)
 rlo:n₀+2<=R
 rh:∀ k,(v0.ownBlock=some k\/ ∃ q ∈ qs,q.2.ownBlock=some k)->k ≠ R
 rp:v4.ownBlock ≠ some R
 rd:v3.ownBlock ≠ some R
 hp:∀ k,(v0.ownBlock=some k\/ ∃ q ∈ qs,q.2.ownBlock=some k)->v4.ownBlock ≠ some k
 hd:∀ k,(v0.ownBlock=some k\/ ∃ q ∈ qs,q.2.ownBlock=some k)->v3.ownBlock ≠ some k
 pd:∀ k,v4.ownBlock=some k->v3.ownBlock ≠ some k
 rlt:R<w.heap.size
structure NewCut (n₀:Nat) (w:World) (a:Option Addr) (rs:List Z2) (cap:Nat) (wc:World) (R:Nat) (hv pv:Value) (qs:List (Z2 × Value)):Prop where
 off:NewOff n₀ rs wc R hv pv (.slice none 0 0) qs
 km:Blk wc R 32 #[hv,.slice none 0 0,.slice none 0 0,.slice none 0 0,pv,.int .i64 0]
 kb:Blk wc n₀ 26 #[.slice a rs.length cap]
 kr:Blk wc (n₀+1) 32 E6
 bel:Below w.heap.size w wc
 hshape:∃ ua uc,hv= .slice ua rs.length uc
 pshape:∃ pa pc,pv= .slice pa rs.length pc
theorem NewOff.below {n₀:Nat} {rs:List Z2} {R:Nat} {qs:List (Z2 × Value)} (h:NewOff n₀ rs w R v0 v4 v3 qs) (hb:Below w.heap.size w w'):NewOff n₀ rs w' R v0 v4 v3 qs:=
 ⟨h.hall.later hb,h.rooms,RecAt.later h.nums hb,h.rlo,h.rh,h.rp,h.rd,h.hp,h.hd,h.pd,Nat.lt_of_lt_of_le h.rlt hb.size⟩
theorem NewCut.below {n₀:Nat} {a:Option Addr} {rs:List Z2} {cap:Nat} {wc w':World} {R:Nat} {hv pv:Value} {qs:List (Z2 × Value)} (h:NewCut n₀ w a rs cap wc R hv pv qs) (hb:Below wc.heap.size wc w'):NewCut n₀ w a rs cap w' R hv pv qs:=
 ⟨h.off.below hb,h.km.below hb h.km.lt,h.kb.below hb h.kb.lt,h.kr.below hb h.kr.lt,h.bel.trans (hb.mono h.bel.size),h.hshape,h.pshape⟩
theorem NewOff.set_R {n₀:Nat} {rs:List Z2} {R:Nat} {qs:List (Z2 × Value)} (h:NewOff n₀ rs w R v0 v4 v3 qs) (o:Nat) (u:Value):NewOff n₀ rs (w.setCell ⟨R,o,none⟩ u) R v0 v4 v3 qs:=
 ⟨h.hall.same2 fun k e=>heap_setCell_other _ _ _ _ (h.rh k e),h.rooms,RecAt.same h.nums fun k e=>heap_setCell_other _ _ _ _ (fun e'=>h.rp (by rw [e];exact congrArg some e')),h.rlo,h.rh,h.rp,h.rd,h.hp,h.hd,h.pd,by simpa using h.rlt⟩
theorem NewOff.grow {n₀:Nat} {rs:List Z2} {R:Nat} {v0 v4 v3 v':Value} {qs:List (Z2 × Value)} {o:Obj} (h:NewOff n₀ rs w R v0 v4 v3 qs) (hg:(w.alloc o).grownBy w' v3.ownBlock) (hat:v'.ownBlock=v3.ownBlock\/v'.ownBlock=some (w.alloc o).heap.size):NewOff n₀ rs w' R v0 v4 v' qs:=by
 have hk:∀ k,k<w.heap.size->v3.ownBlock ≠ some k->w'.heap[k]?=w.heap[k]?:=fun k hk hn=>(hg.block k (by simp;omega) (fun e=>hn e.symm)).trans (Below.heap_alloc w o k hk)
 have hv:∀ k,k<w.heap.size->v3.ownBlock ≠ some k->v'.ownBlock ≠ some k:=fun k hlt hn e=>by
  rcases hat with e' | e'
  ·exact hn (by rw [<-e'];exact e)
  ·rw [e'] at e
   simp at e
   omega
 have hs:w.heap.size<=w'.heap.size:=by have:=hg.size;simp at this;omega
 refine ⟨h.hall.same2 fun k e=>hk k (h.hall.lt e).2 (h.hd k e),h.rooms,RecAt.same h.nums fun k e=>hk k (RecAt.lt h.nums e).2 (h.pd k e),h.rlo,h.rh,h.rp,hv R h.rlt h.rd,h.hp,fun k e=>hv k (h.hall.lt e).2 (h.hd k e),fun k e=>hv k (RecAt.lt h.nums e).2 (h.pd k e),by have:=h.rlt;omega⟩
theorem NewOff.full {n₀:Nat} {rs:List Z2} {R:Nat} {qs:List (Z2 × Value)} {ds:List Yq} (h:NewOff n₀ rs w R v0 v4 v3 qs) (hd:DesksAt (n₀+2) w v3 ds):FullSmy (n₀+2) w v0 (.slice none 0 0) (.slice none 0 0) v3 v4 ⟨rs,[],[],ds,List.replicate rs.length 0,0⟩ qs:=by
 have hz:∀ u:Value,NA (.slice none 0 0) u:=fun u b e=>by cases e
 have hz2:∀ u:Value,NA u (.slice none 0 0):=fun u b e e'=>by cases e'
 exact ⟨h.hall,h.rooms,World.ownsRow_nil _ _ _ _,World.ownsRow_nil _ _ _ _,hd,h.nums,⟨hz _,fun q hq=>hz _⟩,⟨hz _,fun q hq=>hz _⟩,⟨fun b e e'=>h.hd b (.inl e') e,fun q hq b e e'=>h.hd b (.inr ⟨q,hq,e'⟩) e⟩,⟨fun b e e'=>h.hp b (.inl e') e,fun q hq b e e'=>h.hp b (.inr ⟨q,hq,e'⟩) e⟩,hz _,hz _,hz _,hz _,hz _,fun b e e'=>h.pd b e' e⟩
theorem Cx {a:Option Addr} {rs:List Z2} {cap R g uc:Nat} {ua:Option Addr} {qs:List (Z2 × Value)} (hlo:w.heap.size+2<=R) (bel:Below w.heap.size w X) (kb:Blk X w.heap.size 26 #[.slice a rs.length cap]) (kr:Blk X (w.heap.size+1) 32 E6)
  (hh:OwnHall (w.heap.size+2) X (.slice ua rs.length uc) qs) (hn:NumsAt (w.heap.size+2) X (.slice (some ⟨g,0,none⟩) rs.length rs.length) (List.replicate rs.length 0)) (km:Blk X R 32 E6) (hgl:w.heap.size+2<=g)
  (h15:∀ k,((Value.slice ua rs.length uc).ownBlock=some k\/ ∃ q ∈ qs,q.2.ownBlock=some k)->k ≠ g) (h17:∀ k,((Value.slice ua rs.length uc).ownBlock=some k\/ ∃ q ∈ qs,q.2.ownBlock=some k)->k ≠ R) (h57:R ≠ g) (hq:qs.map (·.1)=rs) :
  ∃ R' hv pv qs',Value.pointer (some ⟨R,0,none⟩)= .pointer (some ⟨R',0,none⟩)/\NewCut w.heap.size w a rs cap ((((((X.setCell ⟨R,0,none⟩ (.slice ua rs.length uc)).setCell ⟨R,1,none⟩ (.slice none 0 0)).setCell ⟨R,2,none⟩ (.slice none 0 0)).setCell ⟨R,3,none⟩ (.slice none 0 0)).setCell ⟨R,4,none⟩ (.slice (some ⟨g,0,none⟩) rs.length rs.length)).setCell ⟨R,5,none⟩ (.int .i64 0)) R' hv pv qs':=by
 refine ⟨R,.slice ua rs.length uc,.slice (some ⟨g,0,none⟩) rs.length rs.length,qs,rfl,?_⟩
 have ho:NewOff w.heap.size rs X R (.slice ua rs.length uc) (.slice (some ⟨g,0,none⟩) rs.length rs.length) (.slice none 0 0) qs:=⟨hh,hq,hn,hlo,h17,fun e=>(by cases e;exact h57 rfl),fun e=>(by cases e),fun k e e'=>(by cases e';exact h15 _ e rfl),fun k e e'=>(by cases e'),fun k e e'=>(by cases e'),km.lt⟩
 have k1:=((((((km.set 0 (.slice ua rs.length uc)).set 1 (.slice none 0 0)).set 2 (.slice none 0 0)).set 3 (.slice none 0 0)).set 4 (.slice (some ⟨g,0,none⟩) rs.length rs.length)).set 5 (.int .i64 0))
 refine ⟨(((((ho.set_R _ _).set_R _ _).set_R _ _).set_R _ _).set_R _ _).set_R _ _,k1,?_,?_,?_,⟨_,_,rfl⟩,⟨_,_,rfl⟩⟩
 ·iterate 6 (refine Blk.other ?_ (by show w.heap.size ≠ R;omega) _)
  exact kb
 ·iterate 6 (refine Blk.other ?_ (by show w.heap.size+1 ≠ R;omega) _)
  exact kr
 ·iterate 6 (refine Below.setCell ?_ (by show _<=R;omega) _)
  exact bel
theorem RJ {ops:Array Oper} {rest:List Oper} {o:Oper} {a:Act} {Q:Exit->Act->World->Prop} (hgd:o.guard=none) (s x:Operand) (t:TypeId)
  (ho:o.op= .call { callee:= .builtin .append,args:=#[s,x],argTypes:=#[t,t] }) {v u v':Value} {w':World} (hs:a.eval s=v) (hx:a.eval x=u) (hrun:(Builtin.append_ #[t,t] o.type #[v,u]).run Tryz.prog w= .ok v' w')
  (h:wpList Tryz.prog ops Q rest (a.put o.dst v') w'):wpList Tryz.prog ops Q (o::rest) a w:=by
 refine wpList_plain hgd fun K hK=> ?_
 unfold Oper.wp execOp
 simp only [ho,resolve,invoke,builtin,Sem.run_bind,Sem.run_pure,Result.andThen_ok,List.map_toArray,List.map_cons,List.map_nil,hs,hx,hrun]
 exact hK _ _ h
end Go.Proofs.YtffcgajndmhpkaaGreatDoor
