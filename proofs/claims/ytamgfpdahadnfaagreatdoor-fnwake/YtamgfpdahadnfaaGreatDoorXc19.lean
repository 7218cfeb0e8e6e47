/- Part 19 of what the proof rests on. No condition but those that a theorem names. -/
import Derived.Test.YtamgfpdahadnfaaGreatDoorXc22
import Derived.Test.YtamgfpdahadnfaaGreatDoorXc18
import Derived.Deep.DeepMust
import Derived.Deep.OwnRows
set_option maxHeartbeats 8000000
set_option maxRecDepth 100000
namespace Go.Proofs.YtamgfpdahadnfaaGreatDoor
open Go.ChangeShapes Go.WideShapes Go.ChangeAt Go.RowKit Go.Sort
open Go.Lib (digitVal decFrom)
set_option linter.unusedVariables false
def zm (l:Txt) (n₀:Nat) (e:Ending) (w':World):Prop:=
 (∃ v qs,e= .returned (.tuple #[.agg #[v],.bool true])/\Yw l=some (qs.map (·.1))/\OwnHall n₀ w' v qs)\/(e= .returned (.tuple #[.agg #[.slice none 0 0],.bool false])/\Yw l=none)
theorem Pk (l:Txt) (w:World) (hl:l.length<=1048576) :
  Calls Tryz.prog 205 #[.string (bs l)] w fun e w'=>zm l w.heap.size e w'/\Below w.heap.size w w':=by
 obtain ⟨i1,hi1,hp0,hp1,hp2⟩:=info_parts Ch;obtain ⟨i2,hi2,hr0,hr1,hr2⟩:=info_parts J5;go_enter Tryz.func205,Tryz.ntmps205;go_wp2_with fail;refine (RG (bs l) 47 _ (JZ hl)).mono ?_;rw [QW];rintro e w2 ⟨rv,rfl,hst,hb⟩;have hsz:w.heap.size+2<=w2.heap.size:=by have:=hb.size;simp at this;omega
 obtain ⟨cc,ff⟩:=LM hb;have x0:=cc w.heap.size 0 (by simp;omega);have x1:=cc (w.heap.size+1) 0 (by simp);have f0:=ff w.heap.size 0 (by simp;omega);have f1:=ff (w.heap.size+1) 0 (by simp);simp at x0 x1;have g0:w2.frozen? ⟨w.heap.size,0,none⟩=false:=by rw [f0,frozen?_alloc_cells,frozen?_alloc_cells];exact Su (Z1 _)
 have g1:w2.frozen? ⟨w.heap.size+1,0,none⟩=false:=by rw [f1,frozen?_alloc_cells,frozen?_alloc_cells];exact Su (by omega)
 have B2:Hid (Below w.heap.size w w2):=Z9 ((((ba _ _)).alloc (by simp) _).trans (hb.mono (by simp;omega)));have hpl:=WE 47 l [];have Hsm:Hid (∀ p ∈ YX 47 l,p.length<=1048576):=Z9 (fun p hp=>TS hp hl);obtain ⟨ra,rcap,rfl,hrc,hrm,hrr⟩:=hst.view
 rcases hrr with h0 | ⟨g,rfl,hg1,hg2,hcl⟩
 ·exact absurd h0 (KH _ _)
 have hg1':w.heap.size+2<=g:=by simp at hg1;omega
 have Hcl:=Z9 hcl;have hpl':(YX 47 l).length<=1048577:=by unfold YX;omega
 clear hst hb cc ff hcl hg1 f0 f1 hpl;have HN:Hid (Yw l=((YX 47 l).mapM YL).bind fun rs=>if Y2 rs=true then some rs else none):=Z9 rfl;have Hnone:Hid ((YX 47 l).mapM YL=none->Yw l=none):=Z9 Lm;have Hsome:Hid (∀ rs,(YX 47 l).mapM YL=some rs->Y2 rs=true->Yw l=some rs):=Z9 (fun rs=>Ln);have Hbad:Hid (∀ rs,(YX 47 l).mapM YL=some rs->Y2 rs=false->Yw l=none):=Z9 (fun rs=>JI);generalize YX 47 l=pc at *;go_wp2_with fail
 go_loopw [6] (fun i wr=> ∃ (k:Nat) (v:Value) (qs:List (ZX × Value)),k<=pc.length/\i= .int .i64 k/\wr.cell? ⟨w.heap.size+1,0,none⟩=some v/\wr.frozen? ⟨w.heap.size+1,0,none⟩=false/\OwnHall w2.heap.size wr v qs/\qs.length=k/\(pc.take k).mapM YL=some (qs.map (·.1))/\But (w.heap.size+1) w2 wr) (fun i _=>pc.length-(intOf i).toNat)
 case atStart=>exact ⟨0,_,[],Zz _,rfl,x1,g1,OwnHall.nil _ _,rfl,rfl,But.refl _ _⟩
 case round=>
  obtain ⟨wo,rfl⟩:∃ wo,wo=wr:=⟨wr,rfl⟩
  obtain ⟨k,v,qs,hk,rfl,hv,hfv,hoh,hql,hmap,hbut⟩:=hrel;have Hoh:=Z9 hoh;have Hmap:=Z9 hmap;have Hbut:=Z9 hbut;have hz2:=hbut.size;have Hql:=Z9 hql;have Hv:=Z9 hv;have Hfv:=Z9 hfv;have y0:wo.cell? ⟨w.heap.size,0,none⟩=some (.slice none 0 0):=(hbut.cell (p:=⟨w.heap.size,0,none⟩) (by show w.heap.size<_;omega) (by show w.heap.size ≠ _;omega)).trans x0;have Hy0:=Z9 y0;obtain ⟨va,vcap,rfl⟩:=hoh.shape;by_cases hlt:k<pc.length
  ·have hck:=(hbut.cell (p:=⟨g,k,none⟩) hg2 (by show g ≠ _;omega)).trans (uh Hcl k hlt)
   have hget:pc.getD k []=pc[k]:=by simp [List.getD,hlt]
   rw [hget] at hck;have hpk:=uh Hsm pc[k] (List.getElem_mem hlt);have HX:Hid (YL pc[k]=none->pc.mapM YL=none):=Z9 (fun h=>O3 hlt h);have HY:Hid (∀ y,YL pc[k]=some y->(pc.take (k+1)).mapM YL=some (qs.map (·.1)++[y])):=Z9 (fun y h=>Ki hlt (uh Hmap) h);generalize pc[k]=pk at *;clear hoh hmap hbut hql y0 hget;go_wp2_with fail;refine (RG (bs pk) 32 _ (JZ hpk)).mono ?_;rw [QW];rintro e w3 ⟨wv,rfl,hst3,hb3⟩;have hz3:=hb3.size;have Hb3:=Z9 hb3;have hwl:=WE 32 pk []
   obtain ⟨wd,ws,hww⟩:∃ wd ws,YX 32 pk=wd::ws:=by
    cases hx:YX 32 pk with
    | nil=>exact absurd hx (KH _ _)
    | cons a b=>exact ⟨a,b,rfl⟩
   have Hsm2:Hid (∀ p ∈ wd::ws,p.length<=1048576):=Z9 (fun p hp=>TS (c:=32) (by rw [hww];exact hp) hpk);have hwl':ws.length<=1048576:=by have h9:=hwl.2;unfold YX at hww;rw [hww] at h9;simp at h9;omega
   have HRR:=Z9 (Ik hww);rw [hww] at hst3;obtain ⟨wa,wcap,rfl,hwc,hwm,hwr⟩:=hst3.view
   rcases hwr with h0 | ⟨g3,rfl,hg31,hg32,hcl3⟩
   ·cases h0
   have Hcl3:=Z9 hcl3;have hc30:=hcl3 0 (by simp);simp only [List.getD_cons_zero] at hc30;have hlen3:(wd::ws).length=ws.length+1:=rfl;have hwdl:=uh Hsm2 wd (by simp);clear hst3 hcl3 hb3 hwl hww hpk;rw [hlen3] at *;go_wp2_with fail;refine (Qo (bs wd) _ (by have:=JZ hwdl;omega)).mono ?_;rw [QW];rintro e w' ⟨rfl,hw'⟩;subst w';unfold Ws;have hnb:=Ij (l:=wd);have HisT:Hid ((XZ wd).isSome=true->XZ wd=some ((XZ wd).getD 0)):=Z9 (fun h=>by cases hx:XZ wd with | none=>rw [hx] at h;cases h | some y=>rfl);have HisF:Hid ((XZ wd).isSome=false->YL pk=none):=Z9 (fun h=>by rw [uh HRR];cases hx:XZ wd with | none=>rfl | some y=>rw [hx] at h;cases h);generalize (XZ wd).getD 0=n at *;generalize hib:(XZ wd).isSome=ib at *;have Hib:=Z9 hib;clear hib;go_wp2_with fail;have hRB:(w3.alloc (.cells #[.int .i64 n,.slice none 0 0] 112)).frozen? ⟨w3.heap.size,1,none⟩=false:=by rw [frozen?_alloc_cells];exact Su (Z1 _)
   go_loopw [9,11] (fun q i wi=> ∃ (m:Nat) (b:Bool) (pv:Value) (ps:List Z4),m<=ws.length/\i= .int .i64 (m+1)/\q= .bool b/\wi.cell? ⟨w3.heap.size,0,none⟩=some (.int .i64 n)/\wi.cell? ⟨w3.heap.size,1,none⟩=some pv/\wi.frozen? ⟨w3.heap.size,1,none⟩=false/\PacesAt (w3.heap.size+1) wi pv ps/\ps.length=m/\Below w3.heap.size w3 wi/\w3.heap.size+1<=wi.heap.size/\(b=true->ib=true/\(ws.take m).mapM Yj=some ps)/\(b=false->YL pk=none)) (fun _ i _=>ws.length+1-(intOf i).toNat)
   case atStart=>exact ⟨0,ib,_,[],Zz _,rfl,rfl,by simp,by simp,hRB,World.ownsRow_nil _ _ _ _,rfl,(ba _ _),by simp,fun h=>⟨h,rfl⟩,fun h=>uh HisF h⟩
   case round=>
    obtain ⟨wi,rfl⟩:∃ wi,wi=wr:=⟨wr,rfl⟩
    obtain ⟨m,b,pv,ps,hm1,rfl,rfl,z0,z1,z2,hpa,hpl1,hbi,hzi,hbt,hbf⟩:=hrel;have Hpa:=Z9 hpa;have Hpl1:=Z9 hpl1;have Hbi:=Z9 hbi;have Hbt:=Z9 hbt;have Hbf:=Z9 hbf;have Hz1:=Z9 z1;have Hz0:=Z9 z0;have Hz2:=Z9 z2;obtain ⟨pva,pvcap,rfl⟩:=hpa.shape;by_cases hlt2:m<ws.length
    ·have hck2:=(hbi.cell (p:=⟨g3,m+1,none⟩) hg32).trans (uh Hcl3 (m+1) (by first | omega | (simp;omega)))
     have hget2:(wd::ws).getD (m+1) []=ws[m]:=by simp [List.getD,hlt2]
     rw [hget2] at hck2;have hpm:=uh Hsm2 ws[m] (List.mem_cons_of_mem _ (List.getElem_mem hlt2));have HXm:Hid (Yj ws[m]=none->YL pk=none):=Z9 (fun h=>by rw [uh HRR,O3 hlt2 h];cases XZ wd<;>rfl);have HYm:Hid (∀ y,Yj ws[m]=some y->(ws.take m).mapM Yj=some ps->(ws.take (m+1)).mapM Yj=some (ps++[y])):=Z9 (fun y h h'=>Ki hlt2 h' h);generalize ws[m]=pm at *;clear hpa hpl1 hbi hbt hbf hget2;go_wp2_with fail;refine (ED pm _ hpm).mono ?_;rintro e w5 ⟨f,kk,fb,rfl,hft,hff,hb5⟩;have hz5:=hb5.size;have Hft:=Z9 hft;have Hff:=Z9 hff;have Hb5:=Z9 hb5;have c50:=(hb5.cell (p:=⟨w3.heap.size,0,none⟩) (by show w3.heap.size<_;omega)).trans (uh Hz0);have c51:=(hb5.cell (p:=⟨w3.heap.size,1,none⟩) (by show w3.heap.size<_;omega)).trans (uh Hz1);have c52:=(hb5.frozen (p:=⟨w3.heap.size,1,none⟩) (by show w3.heap.size<_;omega)).trans (uh Hz2);have Hp5:Hid (PacesAt (w3.heap.size+1) w5 (.slice pva ps.length pvcap) ps):=Z9 (Xp (uh Hpa) (fun q e=>hb5.block q ((uh Hpa).lt e).2));clear hft hff hb5 z0 z1 z2;have hne5:w3.heap.size ≠ w5.heap.size:=by omega
     have q51:(w5.alloc (.cells #[.int .i64 f,.int .i64 kk] 114)).cell? ⟨w3.heap.size,1,none⟩=some (.slice pva ps.length pvcap):=by rw [World.cell?_alloc_old _ _ _ hne5];exact c51
     have Hp6:Hid (PacesAt (w3.heap.size+1) (w5.alloc (.cells #[.int .i64 f,.int .i64 kk] 114)) (.slice pva ps.length pvcap) ps):=Z9 (Xp (uh Hp5) (fun q e=>Below.heap_alloc w5 _ q ((uh Hp5).lt e).2));have q50:(w5.alloc (.cells #[.int .i64 f,.int .i64 kk] 114)).cell? ⟨w3.heap.size,0,none⟩=some (.int .i64 n):=by rw [World.cell?_alloc_old _ _ _ hne5];exact c50
     have q52:(w5.alloc (.cells #[.int .i64 f,.int .i64 kk] 114)).frozen? ⟨w3.heap.size,1,none⟩=false:=by rw [frozen?_alloc_cells];exact c52
     have hpsm:ps.length<=1048576:=by rw [uh Hpl1];omega
     have HB5:Hid (Below w3.heap.size w3 (w5.alloc (.cells #[.int .i64 f,.int .i64 kk] 114))):=Z9 (((uh Hbi).trans ((uh Hb5).mono (by omega))).alloc (by omega) _);clear c50 c51 c52;cases b
     ·go_wp2_with (at_builtin;go_must (refine wpList_append_own_at _ rfl _ _ 110 rfl (w3.heap.size+1) 114 i1 (.agg #[.int .i64 0,.int .i64 0]) 2 16 Tryz.underlying110 hi1 hp0 hp1 hp2 rfl (by decide) _ _ _ rfl (World.ownsRow.alloc (uh Hp6) _) ⟨_,0,none⟩ 1 1 [.int .i64 f,.int .i64 kk] rfl rfl (Rk _ _ _ _ _ (by simp)) (by simp [Value.oneCell']) (by simp only [maxLen];omega) (by omega) (by simp;omega) ?_);go_must (intro v' w6 hown' hgrow _ _);go_must (obtain ⟨a6,cap6,rfl,e1,e2,HE⟩:=Ii (uh Hp6) (by simp;omega) hown' hgrow q50 q51 q52);clear hown' hgrow)
      go_roundw
      case rel=>exact ⟨m+1,false,_,ps++[(f,kk)],by omega,by go_num,rfl,(uh HE).1,(uh HE).2.1,(uh HE).2.2.1,(uh HE).2.2.2.1,by simp [uh Hpl1],(uh HB5).trans (uh HE).2.2.2.2.1,(uh HE).2.2.2.2.2,fun h=>(by cases h),fun _=>uh Hbf (by simp)⟩
      case measure=>exact ms
     ·go_wp2_with (at_builtin;go_must (refine wpList_append_own_at _ rfl _ _ 110 rfl (w3.heap.size+1) 114 i1 (.agg #[.int .i64 0,.int .i64 0]) 2 16 Tryz.underlying110 hi1 hp0 hp1 hp2 rfl (by decide) _ _ _ rfl (World.ownsRow.alloc (uh Hp6) _) ⟨_,0,none⟩ 1 1 [.int .i64 f,.int .i64 kk] rfl rfl (Rk _ _ _ _ _ (by simp)) (by simp [Value.oneCell']) (by simp only [maxLen];omega) (by omega) (by simp;omega) ?_);go_must (intro v' w6 hown' hgrow _ _);go_must (obtain ⟨a6,cap6,rfl,e1,e2,HE⟩:=Ii (uh Hp6) (by simp;omega) hown' hgrow q50 q51 q52);clear hown' hgrow)
      go_roundw
      case rel=>exact ⟨m+1,fb,_,ps++[(f,kk)],by omega,by go_num,rfl,(uh HE).1,(uh HE).2.1,(uh HE).2.2.1,(uh HE).2.2.2.1,by simp [uh Hpl1],(uh HB5).trans (uh HE).2.2.2.2.1,(uh HE).2.2.2.2.2,fun h=>⟨(uh Hbt (by simp)).1,uh HYm _ (uh Hft h) (uh Hbt (by simp)).2⟩,fun h=>uh HXm (uh Hff h)⟩
      case measure=>exact ms
    ·obtain rfl:m=ws.length:=by omega
     have HBi:Hid (Below wo.heap.size wo wi):=Z9 ((uh Hb3).trans (hbi.mono hz3));have HbutI:Hid (But (w.heap.size+1) w2 wi):=Z9 ((uh Hbut).later (uh HBi));have HB2:Hid (Below (w.heap.size+1) w2 wi):=Z9 ((uh HbutI).below (Z1 _) (by omega));have d0:wi.cell? ⟨w.heap.size,0,none⟩=some (.slice none 0 0):=((uh HB2).cell (p:=⟨w.heap.size,0,none⟩) (by show w.heap.size<_;omega)).trans x0;have df0:wi.frozen? ⟨w.heap.size,0,none⟩=false:=((uh HB2).frozen (p:=⟨w.heap.size,0,none⟩) (by show w.heap.size<_;omega)).trans g0;have d1:wi.cell? ⟨w.heap.size+1,0,none⟩=some (.slice va qs.length vcap):=((uh HBi).cell (p:=⟨w.heap.size+1,0,none⟩) (by show w.heap.size+1<_;omega)).trans (uh Hv);have df1:wi.frozen? ⟨w.heap.size+1,0,none⟩=false:=((uh HBi).frozen (p:=⟨w.heap.size+1,0,none⟩) (by show w.heap.size+1<_;omega)).trans (uh Hfv);have HohI:Hid (OwnHall w2.heap.size wi (.slice va qs.length vcap) qs):=Z9 ((uh Hoh).later (uh HBi));have hzwi:=(uh HBi).size;clear hpa hpl1 hbi hbt hbf;cases b
     ·have HZ:Hid (Yw l=none):=Z9 (uh Hnone (uh HX (uh Hbf (by simp))))
      go_wp2_with fail;exact ZS (v:= .tuple #[.agg #[.slice none 0 0],.bool false]) (by simp [results,Tryz.results205,go_sem, *]) rfl ⟨.inr ⟨rfl,uh HZ⟩,(((uh B2).trans ((uh HB2).mono (by omega))).setCell (Z1 w.heap.size) _)⟩
     ·have HRm:Hid (YL pk=some (n,ps)):=Z9 (by
       obtain ⟨h1,h2⟩:=uh Hbt (by simp);rw [List.take_length] at h2
       rw [uh HRR,uh HisT h1,h2];rfl)
      have hqsm:qs.length<=1048577:=by rw [uh Hql];omega
      have HpI:Hid (PacesAt w2.heap.size wi (.slice pva ps.length pvcap) ps):=Z9 (To (uh Hpa) (by omega));have Hoff:Hid (∀ b,(Value.slice pva ps.length pvcap).ownBlock=some b->(Value.slice va qs.length vcap).ownBlock ≠ some b):=Z9 (fun b e e'=>by have h1:=((uh Hpa).lt e).1;have h2:=((uh Hoh).lt (.inl e')).2;omega);have Hap:Hid (∀ q ∈ qs,∀ b,q.2.ownBlock=some b->(Value.slice pva ps.length pvcap).ownBlock ≠ some b):=Z9 (fun q hq b e e'=>by have h1:=((uh Hpa).lt e').1;have h2:=((uh Hoh).lt (.inr ⟨q,hq,e⟩)).2;omega);go_wp2_with (at_builtin;go_must (refine wpList_append_own_at _ rfl _ _ 24 rfl w2.heap.size 112 i2 (.agg #[.int .i64 0,.slice none 0 0]) 2 32 Tryz.underlying24 hi2 hr0 hr1 hr2 rfl (by decide) _ _ _ rfl (World.ownsRow.alloc (uh HohI).row _) ⟨_,0,none⟩ 1 1 [.int .i64 n,.slice pva ps.length pvcap] rfl rfl (Rk _ _ _ _ _ (by simp)) (by simp [Value.oneCell']) (by simp only [maxLen];omega) (by omega) (by simp;omega) ?_);go_must (intro v' w6 hown' hgrow _ hat);go_must (obtain ⟨a6,cap6,rfl,e1,e2,HE⟩:=A5 (b:=w.heap.size+1) (uh HohI) (uh HpI) (uh Hoff) (uh Hap) hown' hgrow hat (by omega) (by omega) d1 df1);clear hown' hgrow hat)
      go_roundw
      case rel=>exact ⟨k+1,_,qs++[((n,ps),.slice pva ps.length pvcap)],by omega,by go_num,(uh HE).1,(uh HE).2.1,(uh HE).2.2.1,by simp [uh Hql],by rw [List.map_append];exact uh HY _ (uh HRm),((uh HbutI).within (uh HE).2.2.2).setCell 0 _⟩
      case measure=>exact ms
  ·obtain rfl:k=pc.length:=by omega
   have HB2:Hid (Below (w.heap.size+1) w2 wo):=Z9 (hbut.below (Z1 _) (by omega));have df0:wo.frozen? ⟨w.heap.size,0,none⟩=false:=((uh HB2).frozen (p:=⟨w.heap.size,0,none⟩) (by show w.heap.size<_;omega)).trans g0;rw [List.take_length] at hmap;have Hmap2:=Z9 hmap;have HBo:Hid (Below w.heap.size w wo):=Z9 ((uh B2).trans ((uh HB2).mono (by omega)));clear hoh hmap hbut hql;go_wp2_with fail;refine ck (Us (uh Hoh).rm) fun w7 hb7=> ?_;have c70:=(hb7.cell (p:=⟨w.heap.size,0,none⟩) (by show w.heap.size<_;omega)).trans y0;have c71:=(hb7.cell (p:=⟨w.heap.size+1,0,none⟩) (by show w.heap.size+1<_;omega)).trans hv;have c72:=(hb7.frozen (p:=⟨w.heap.size,0,none⟩) (by show w.heap.size<_;omega)).trans df0;have Hb7:=Z9 hb7;have hz7:=hb7.size;clear hb7 y0 hv hfv;cases hh:Y2 (qs.map (·.1))
   ·have HZ:Hid (Yw l=none):=Z9 (uh Hbad _ (uh Hmap2) hh)
    clear hh;go_wp2_with fail;exact ZS (v:= .tuple #[.agg #[.slice none 0 0],.bool false]) (by simp [results,Tryz.results205,go_sem, *]) rfl ⟨.inr ⟨rfl,uh HZ⟩,((uh HBo).trans ((uh Hb7).mono (by omega))).setCell (Z1 w.heap.size) _⟩
   ·have HZ:Hid (Yw l=some (qs.map (·.1))):=Z9 (uh Hsome _ (uh Hmap2) hh)
    clear hh;go_wp2_with fail;exact ZS (v:= .tuple #[.agg #[.slice va qs.length vcap],.bool true]) (by simp [results,Tryz.results205,go_sem, *]) rfl ⟨.inl ⟨_,qs,rfl,uh HZ,(((uh Hoh).later (uh Hb7)).but ((But.refl w.heap.size w7).setCell 0 _) (.inl (by omega))).mono (by omega)⟩,((uh HBo).trans ((uh Hb7).mono (by omega))).setCell (Z1 w.heap.size) _⟩
open Draw (St Off Row Cur)
def At (l:Txt):Bool:=decide (l.length<=1048576) && (Yw l).isSome
def Az:Value->Bool
 | .string s=>At s.data.toList
 | _=>false
theorem CE (cs:Array Value) (j:Nat) (hj:j<cs.size) (h:cs.toList.all Az=true):∃ l,cs[j]?=some (.string (bs l))/\At l=true:=by
 rw [Array.all_toList,Array.all_eq_true] at h;have:=h j hj;rw [Array.getElem?_eq_getElem hj];generalize cs[j]=c at *;unfold Az at this
 split at this
 ·rename_i s;exact ⟨s.data.toList,by rw [Di],this⟩
 ·cases this
theorem GJ (w:World):Calls Tryz.prog 206 #[] w fun e w'=>e= .returned (.slice (some ⟨w.heap.size,0,none⟩) 6 6)/\(∀ j,j<6-> ∃ l,w'.cell? ⟨w.heap.size,j,none⟩=some (.string (bs l))/\At l=true)/\Below w.heap.size w w'/\w.heap.size<w'.heap.size:=by
 go_enter Tryz.func206,Tryz.ntmps206;go_wp2_with fail;go_ret;refine ⟨rfl,fun j hj=> ?_,(ba _ _),by simp⟩;rw [World.cell?_alloc_new];exact CE _ j hj (by decide +kernel)
theorem Dp {l:Txt} (h:At l=true):l.length<=1048576/\(Yw l).isSome=true:=by
 unfold At at h;simpa using h
theorem EC (a:Option Addr) (len cap bc:Nat) (w:World) (hs:St a len cap bc w) :
  Calls Tryz.prog 148 #[.pointer (some ⟨bc,0,none⟩)] w fun e w'=> ∃ v qs,e= .returned (.agg #[v])/\Y2 (qs.map (·.1))=true/\OwnHall w.heap.size w' v qs/\St a len cap bc w'/\Off bc w w':=by
 have Hs:=Z9 hs;have hbc:=Wy hs;clear hs;go_enter Tryz.func148,Tryz.ntmps148;go_wp2_with fail;refine (GJ _).mono ?_;rintro e w1 ⟨rfl,htx,hb1,hz1⟩;have hz1':w.heap.size+2<=w1.heap.size:=by simp at hz1;omega
 have B1:Hid (Below w.heap.size w w1):=Z9 (((ba _ _)).trans (hb1.mono (by simp)));have x0:w1.cell? ⟨w.heap.size,0,none⟩=some (.slice none 0 0):=(hb1.cell (p:=⟨w.heap.size,0,none⟩) (by simp)).trans (by simp);have x1:w1.frozen? ⟨w.heap.size,0,none⟩=false:=(hb1.frozen (p:=⟨w.heap.size,0,none⟩) (by simp)).trans (by rw [frozen?_alloc_cells];exact Su (Z1 _));have Htx:=Z9 htx;clear htx hb1;go_wp2_with fail;refine (Draw.below_any a len cap bc 6 (by omega) (by omega) _ (Xz (uh Hs) ((uh B1).mono (by omega)))).mono ?_;rintro e w2 ⟨x,rfl,hx0,hx1,hs2,ho2⟩;obtain ⟨j,rfl⟩:=Int.eq_ofNat_of_zero_le hx0;obtain ⟨l,hcl,hgd⟩:=uh Htx j (by omega);simp only [Y1] at hcl;have hcl2:=(ho2.cell (p:=⟨w.heap.size+1,j,none⟩) (by show w.heap.size+1<_;omega) (by show w.heap.size+1 ≠ _;omega)).trans hcl;have y0:=(ho2.cell (p:=⟨w.heap.size,0,none⟩) (by show w.heap.size<_;omega) (by show w.heap.size ≠ _;omega)).trans x0;have y1:w2.frozen? ⟨w.heap.size,0,none⟩=false:=(World.frozen?_of_block (w:=w1) (w':=w2) (ho2.block w.heap.size (by omega) (by omega))).trans x1;have Hs2:=Z9 hs2;have Ho2:=Z9 ho2;have hz2:=ho2.size;have hll:=(Dp hgd).1;have Hgd:=Z9 (Dp hgd).2;clear hcl hs2 ho2 x0 x1 hgd;go_wp2_with fail;refine (Pk l _ hll).mono ?_;rintro e w3 ⟨hgot,hb3⟩
 rcases hgot with ⟨v,qs,rfl,hrd,hown⟩ | ⟨rfl,hrd⟩
 ·obtain ⟨va,vcap,rfl⟩:=hown.shape
  have hz3:=hb3.size;have z0:=(hb3.cell (p:=⟨w.heap.size,0,none⟩) (by show w.heap.size<_;omega)).trans y0;have z1:=(hb3.frozen (p:=⟨w.heap.size,0,none⟩) (by show w.heap.size<_;omega)).trans y1;have Hown:=Z9 hown;have Hb3:=Z9 hb3;have Hrd:=Z9 (Ll hrd).1;have hlt3:w.heap.size<w3.heap.size:=by omega
  clear hown hb3 hrd y0 y1;go_wp2_with fail;have HB:Below w.heap.size w2 ((w3.setCell ⟨w.heap.size,0,none⟩ (.slice va qs.length vcap)).alloc (.cells #[.slice va qs.length vcap] 26)):=(((uh Hb3).mono (by omega)).setCell (Z1 w.heap.size) _).alloc (by simp;omega) _;refine ZS (v:= .agg #[.slice va qs.length vcap]) (by simp [results,Tryz.results148,go_sem, *]) rfl ⟨_,qs,rfl,uh Hrd,?_,Xz (uh Hs2) (HB.mono (by omega)),Tn ((Tn (Off.refl bc w) (uh B1)).trans (uh Ho2)) HB⟩;exact ((((uh Hown).but ((But.refl w.heap.size w3).setCell 0 _) (.inl (by omega))).later ((ba _ _))).mono (by omega))
 ·exfalso;rw [hrd] at Hgd;exact absurd (uh Hgd) (by simp)
def Cx (rs:List ZX):Z6:=if Y2 rs then TW rs else Ye
def xU (n₀:Nat) (M:Z6) (q:Bool) (e:Ending) (w':World):Prop:=
 ∃ u0 u1 u2 u3 u4 qs,e= .returned (.tuple #[.agg #[u0,u1,u2,u3,u4,.int .i64 M.now],.bool q])/\FullSmy n₀ w' u0 u1 u2 u3 u4 M qs
theorem DW:∀ rs:List ZX,rs.all Ze=true->0<=ZW rs
 | [],_=>by simp [ZW]
 | r::rs,h=>by
  simp only [List.all_cons,ZP] at h;have ih:=DW rs h.2;have h1:=h.1;unfold Ze at h1;simp only [ZP] at h1;have:=ZN h1.1;simp only [ZW,List.map_cons,List.sum_cons] at ih ⊢;omega
theorem ON {rs:List ZX} (h:Y2 rs=true):1<=ZW rs:=by
 obtain ⟨r1,r2,r3,r4⟩:=Zl h
 match rs,r1,r3 with
 | r::rs,_,h3=>
  simp only [List.all_cons,ZP] at h3;have ih:=DW rs h3.2;have h1:=h3.1;unfold Ze at h1;simp only [ZP] at h1;have:=ZN h1.1;simp only [ZW,List.map_cons,List.sum_cons] at ih ⊢;omega
theorem Cr {B n:Nat} {w:World} (hg:B<=w.heap.size) (hn:n<=1000):NumsAt B (w.alloc (.cells (madeCells #[.int .i64 0] n) 2)) (.slice (some ⟨w.heap.size,0,none⟩) n n) (List.replicate n 0):=by
 have hl:(madeCells #[Value.int .i64 0] n).toList=UH Sp (List.replicate n 0):=by
  have:=Cq YE (by omega) (0:Int) #[Value.int .i64 0] rfl n;rw [Nat.mul_one] at this;exact this
 have hsz:(madeCells #[Value.int .i64 0] n).size=n:=by simp [madeCells]
 show (w.alloc _).ownsRow B 2 1 _ (List.replicate n (0:Int)).length _;rw [List.length_replicate];refine ⟨by rw [V6 YE,List.length_replicate],.inr ⟨_,n,madeCells #[.int .i64 0] n,rfl,hg,heap_alloc_new w _,Z1 _,(by unfold maxLen;omega),(by simp [hsz]),?_⟩⟩;rw [<-hl,Nat.mul_one];exact List.take_of_length_le (by rw [Array.length_toList,hsz];exact Z1 _)
theorem A6 (B:Nat) (w:World):DesksAt B w (.slice none 0 0) []:=World.ownsRow_nil _ _ _ _
structure NewOff (n₀:Nat) (rs:List ZX) (w:World) (R:Nat) (v0 v4 v3:Value) (qs:List (ZX × Value)):Prop where
 hall:OwnHall (n₀+2) w v0 qs
 rm:qs.map (·.1)=rs
 nums:NumsAt (n₀+2) w v4 (List.replicate rs.length 0)
 rlo:n₀+2<=R
 rh:∀ k,(v0.ownBlock=some k\/ ∃ q ∈ qs,q.2.ownBlock=some k)->k ≠ R
 rp:v4.ownBlock ≠ some R
 rd:v3.ownBlock ≠ some R
 hp:∀ k,(v0.ownBlock=some k\/ ∃ q ∈ qs,q.2.ownBlock=some k)->v4.ownBlock ≠ some k
 hd:∀ k,(v0.ownBlock=some k\/ ∃ q ∈ qs,q.2.ownBlock=some k)->v3.ownBlock ≠ some k
 pd:∀ k,v4.ownBlock=some k->v3.ownBlock ≠ some k
 rlt:R<w.heap.size
structure NewCut (n₀:Nat) (w:World) (a:Option Addr) (rs:List ZX) (cap:Nat) (wc:World) (R:Nat) (hv pv:Value) (qs:List (ZX × Value)):Prop where
 off:NewOff n₀ rs wc R hv pv (.slice none 0 0) qs
 km:Blk wc R 32 #[hv,.slice none 0 0,.slice none 0 0,.slice none 0 0,pv,.int .i64 0]
 kb:Blk wc n₀ 26 #[.slice a rs.length cap]
 kr:Blk wc (n₀+1) 32 E6
 bel:Below w.heap.size w wc
 hshape:∃ ua uc,hv= .slice ua rs.length uc
 pshape:∃ pa pc,pv= .slice pa rs.length pc
theorem NewOff.below {n₀:Nat} {rs:List ZX} {w w':World} {R:Nat} {v0 v4 v3:Value} {qs:List (ZX × Value)} (h:NewOff n₀ rs w R v0 v4 v3 qs) (hb:Below w.heap.size w w'):NewOff n₀ rs w' R v0 v4 v3 qs:=
 ⟨h.hall.later hb,h.rm,RecAt.later h.nums hb,h.rlo,h.rh,h.rp,h.rd,h.hp,h.hd,h.pd,Zf h.rlt hb.size⟩
theorem NewCut.below {n₀:Nat} {w:World} {a:Option Addr} {rs:List ZX} {cap:Nat} {wc w':World} {R:Nat} {hv pv:Value} {qs:List (ZX × Value)} (h:NewCut n₀ w a rs cap wc R hv pv qs) (hb:Below wc.heap.size wc w'):NewCut n₀ w a rs cap w' R hv pv qs:=
 ⟨h.off.below hb,h.km.below hb h.km.lt,h.kb.below hb h.kb.lt,h.kr.below hb h.kr.lt,h.bel.trans (hb.mono h.bel.size),h.hshape,h.pshape⟩
theorem NewOff.set_R {n₀:Nat} {rs:List ZX} {w:World} {R:Nat} {v0 v4 v3:Value} {qs:List (ZX × Value)} (h:NewOff n₀ rs w R v0 v4 v3 qs) (o:Nat) (u:Value):NewOff n₀ rs (w.setCell ⟨R,o,none⟩ u) R v0 v4 v3 qs:=
 ⟨h.hall.same2 fun k e=>heap_setCell_other _ _ _ _ (h.rh k e),h.rm,RecAt.same h.nums fun k e=>heap_setCell_other _ _ _ _ (fun e'=>h.rp (by rw [e];exact congrArg some e')),h.rlo,h.rh,h.rp,h.rd,h.hp,h.hd,h.pd,by simpa using h.rlt⟩
theorem NewOff.grow {n₀:Nat} {rs:List ZX} {w w':World} {R:Nat} {v0 v4 v3 v':Value} {qs:List (ZX × Value)} {o:Obj} (h:NewOff n₀ rs w R v0 v4 v3 qs) (hg:(w.alloc o).grownBy w' v3.ownBlock) (hat:v'.ownBlock=v3.ownBlock\/v'.ownBlock=some (w.alloc o).heap.size):NewOff n₀ rs w' R v0 v4 v' qs:=by
 have hk:∀ k,k<w.heap.size->v3.ownBlock ≠ some k->w'.heap[k]?=w.heap[k]?:=fun k hk hn=>(hg.block k (by simp;omega) (fun e=>hn e.symm)).trans (Below.heap_alloc w o k hk)
 have hv:∀ k,k<w.heap.size->v3.ownBlock ≠ some k->v'.ownBlock ≠ some k:=fun k hlt hn e=>by
  rcases hat with e' | e'
  ·exact hn (by rw [<-e'];exact e)
  ·rw [e'] at e
   simp at e;omega
 have hs:w.heap.size<=w'.heap.size:=by have:=hg.size;simp at this;omega
 refine ⟨h.hall.same2 fun k e=>hk k (h.hall.lt e).2 (h.hd k e),h.rm,RecAt.same h.nums fun k e=>hk k (RecAt.lt h.nums e).2 (h.pd k e),h.rlo,h.rh,h.rp,hv R h.rlt h.rd,h.hp,fun k e=>hv k (h.hall.lt e).2 (h.hd k e),fun k e=>hv k (RecAt.lt h.nums e).2 (h.pd k e),by have:=h.rlt;omega⟩
theorem NewOff.full {n₀:Nat} {rs:List ZX} {w:World} {R:Nat} {v0 v4 v3:Value} {qs:List (ZX × Value)} {ds:List XN} (h:NewOff n₀ rs w R v0 v4 v3 qs) (hd:DesksAt (n₀+2) w v3 ds):FullSmy (n₀+2) w v0 (.slice none 0 0) (.slice none 0 0) v3 v4 ⟨rs,[],[],ds,List.replicate rs.length 0,0⟩ qs:=by
 have hz:∀ u:Value,LD (.slice none 0 0) u:=fun u b e=>by cases e
 have hz2:∀ u:Value,LD u (.slice none 0 0):=fun u b e e'=>by cases e'
 exact ⟨h.hall,h.rm,World.ownsRow_nil _ _ _ _,World.ownsRow_nil _ _ _ _,hd,h.nums,⟨hz _,fun q hq=>hz _⟩,⟨hz _,fun q hq=>hz _⟩,⟨fun b e e'=>h.hd b (.inl e') e,fun q hq b e e'=>h.hd b (.inr ⟨q,hq,e'⟩) e⟩,⟨fun b e e'=>h.hp b (.inl e') e,fun q hq b e e'=>h.hp b (.inr ⟨q,hq,e'⟩) e⟩,hz _,hz _,hz _,hz _,hz _,fun b e e'=>h.pd b e' e⟩
theorem zE {w X:World} {a:Option Addr} {rs:List ZX} {cap R g uc:Nat} {ua:Option Addr} {qs:List (ZX × Value)} (hlo:w.heap.size+2<=R) (bel:Below w.heap.size w X) (kb:Blk X w.heap.size 26 #[.slice a rs.length cap]) (kr:Blk X (w.heap.size+1) 32 E6)
  (hh:OwnHall (w.heap.size+2) X (.slice ua rs.length uc) qs) (hn:NumsAt (w.heap.size+2) X (.slice (some ⟨g,0,none⟩) rs.length rs.length) (List.replicate rs.length 0)) (km:Blk X R 32 E6) (hgl:w.heap.size+2<=g)
  (h15:∀ k,((Value.slice ua rs.length uc).ownBlock=some k\/ ∃ q ∈ qs,q.2.ownBlock=some k)->k ≠ g) (h17:∀ k,((Value.slice ua rs.length uc).ownBlock=some k\/ ∃ q ∈ qs,q.2.ownBlock=some k)->k ≠ R) (h57:R ≠ g) (hq:qs.map (·.1)=rs) :
  ∃ R' hv pv qs',Value.pointer (some ⟨R,0,none⟩)= .pointer (some ⟨R',0,none⟩)/\NewCut w.heap.size w a rs cap ((((((X.setCell ⟨R,0,none⟩ (.slice ua rs.length uc)).setCell ⟨R,1,none⟩ (.slice none 0 0)).setCell ⟨R,2,none⟩ (.slice none 0 0)).setCell ⟨R,3,none⟩ (.slice none 0 0)).setCell ⟨R,4,none⟩ (.slice (some ⟨g,0,none⟩) rs.length rs.length)).setCell ⟨R,5,none⟩ (.int .i64 0)) R' hv pv qs':=by
 refine ⟨R,.slice ua rs.length uc,.slice (some ⟨g,0,none⟩) rs.length rs.length,qs,rfl,?_⟩;have ho:NewOff w.heap.size rs X R (.slice ua rs.length uc) (.slice (some ⟨g,0,none⟩) rs.length rs.length) (.slice none 0 0) qs:=⟨hh,hq,hn,hlo,h17,fun e=>(by cases e;exact h57 rfl),fun e=>(by cases e),fun k e e'=>(by cases e';exact h15 _ e rfl),fun k e e'=>(by cases e'),fun k e e'=>(by cases e'),km.lt⟩
 have k1:=((((((km.set 0 (.slice ua rs.length uc)).set 1 (.slice none 0 0)).set 2 (.slice none 0 0)).set 3 (.slice none 0 0)).set 4 (.slice (some ⟨g,0,none⟩) rs.length rs.length)).set 5 (.int .i64 0))
 refine ⟨(((((ho.set_R _ _).set_R _ _).set_R _ _).set_R _ _).set_R _ _).set_R _ _,k1,?_,?_,?_,⟨_,_,rfl⟩,⟨_,_,rfl⟩⟩
 ·iterate 6 (refine Blk.other ?_ (by show w.heap.size ≠ R;omega) _)
  exact kb
 ·iterate 6 (refine Blk.other ?_ (by show w.heap.size+1 ≠ R;omega) _)
  exact kr
 ·iterate 6 (refine YO ?_ (by show _<=R;omega) _)
  exact bel
theorem Qf {w:World} {ops:Array Oper} {rest:List Oper} {o:Oper} {a:Act} {Q:Exit->Act->World->Prop} (hgd:o.guard=none) (s x:Operand) (t:TypeId)
  (ho:o.op= .call { callee:= .builtin .append,args:=#[s,x],argTypes:=#[t,t] }) {v u v':Value} {w':World} (hs:a.eval s=v) (hx:a.eval x=u) (hrun:(Builtin.append_ #[t,t] o.type #[v,u]).run Tryz.prog w= .ok v' w')
  (h:wpList Tryz.prog ops Q rest (a.put o.dst v') w'):wpList Tryz.prog ops Q (o::rest) a w:=by
 refine wpList_plain hgd fun K hK=> ?_;unfold Oper.wp execOp;simp only [ho,resolve,invoke,builtin,Sem.run_bind,Sem.run_pure,Result.andThen_ok,List.map_toArray,List.map_cons,List.map_nil,hs,hx,hrun];exact hK _ _ h
set_option linter.unusedSimpArgs false
set_option maxRecDepth 100000
structure Nw (w X:World) (a:Option Addr) (rs:List ZX) (cap:Nat) (c1:Option (Option Addr × Nat × List (ZX × Value))) (c5 c7:Option Nat):Prop where
 sz:w.heap.size+2<=X.heap.size
 v:IsRooms X (.slice a rs.length cap) rs
 kb:Blk X w.heap.size 26 #[.slice a rs.length cap]
 kr:Blk X (w.heap.size+1) 32 E6
 bb:Below w.heap.size w X
 h1:∀ ua uc qs,c1=some (ua,uc,qs)->OwnHall (w.heap.size+2) X (.slice ua rs.length uc) qs/\qs.map (·.1)=rs
 h5:∀ g,c5=some g->w.heap.size+2<=g/\g<X.heap.size/\NumsAt (w.heap.size+2) X (.slice (some ⟨g,0,none⟩) rs.length rs.length) (List.replicate rs.length 0)
 h7:∀ R,c7=some R->w.heap.size+2<=R/\Blk X R 32 E6
 d15:∀ ua uc qs g,c1=some (ua,uc,qs)->c5=some g-> ∀ k,((Value.slice ua rs.length uc).ownBlock=some k\/ ∃ q ∈ qs,q.2.ownBlock=some k)->k ≠ g
 d17:∀ ua uc qs R,c1=some (ua,uc,qs)->c7=some R-> ∀ k,((Value.slice ua rs.length uc).ownBlock=some k\/ ∃ q ∈ qs,q.2.ownBlock=some k)->k ≠ R
 d57:∀ g R,c5=some g->c7=some R->R ≠ g
section
variable {w X X' : World} {a : Option Addr} {rs : List ZX} {cap : Nat} {c1 : Option (Option Addr × Nat × List (ZX × Value))} {c5 c7 : Option Nat}
theorem Nw.next (h:Nw w X a rs cap c1 c5 c7) (hb:Below X.heap.size X X'):Nw w X' a rs cap c1 c5 c7:=
 ⟨XO h.sz hb.size,h.v.below hb,h.kb.below hb h.kb.lt,h.kr.below hb h.kr.lt,h.bb.trans (hb.mono h.bb.size),fun ua uc qs e=>⟨(h.h1 ua uc qs e).1.later hb,(h.h1 ua uc qs e).2⟩,fun g e=>⟨(h.h5 g e).1,Zf (h.h5 g e).2.1 hb.size,RecAt.later (h.h5 g e).2.2 hb⟩,fun R e=>⟨(h.h7 R e).1,(h.h7 R e).2.below hb (h.h7 R e).2.lt⟩,h.d15,h.d17,h.d57⟩
theorem Nw.make (h:Nw w X a rs cap c1 none c7) (hn:rs.length<=1000):Nw w (X.alloc (.cells (madeCells #[.int .i64 0] rs.length) 2)) a rs cap c1 (some X.heap.size) c7:=by
 have k:=h.next ((ZZ _ _).alloc (Z1 _) (.cells (madeCells #[.int .i64 0] rs.length) 2));have hs:=h.sz;refine ⟨k.sz,k.v,k.kb,k.kr,k.bb,k.h1,fun g e=> ?_,k.h7,fun ua uc qs g e1 e k' ho=> ?_,k.d17,fun g R e e7=> ?_⟩
 ·cases e;exact ⟨hs,by simp,Cr hs hn⟩
 ·cases e;have:=((h.h1 ua uc qs e1).1.lt ho).2;omega
 ·cases e;have:=(h.h7 R e7).2.lt;omega
theorem Nw.box (h:Nw w X a rs cap c1 c5 none):Nw w (X.alloc (.cells E6 32)) a rs cap c1 c5 (some X.heap.size):=by
 have k:=h.next ((ZZ _ _).alloc (Z1 _) (.cells E6 32));have hs:=h.sz;refine ⟨k.sz,k.v,k.kb,k.kr,k.bb,k.h1,k.h5,fun R e=> ?_,k.d15,fun ua uc qs R e1 e k' ho=> ?_,fun g R e5 e=> ?_⟩
 ·cases e;exact ⟨hs,Blk.new _ _ _⟩
 ·cases e;have:=((h.h1 ua uc qs e1).1.lt ho).2;omega
 ·cases e;have:=(h.h5 g e5).2.1;omega
end
theorem Nw.copy {w X:World} {a:Option Addr} {rs:List ZX} {cap:Nat} {c5 c7:Option Nat} (h:Nw w X a rs cap none c5 c7) (hn:rs.length<=1000) (hp:∀ r ∈ rs,r.2.length<=1000):Calls Tryz.prog 100 #[.agg #[.slice a rs.length cap]] X fun e X'=> ∃ ua uc qs,e= .returned (.agg #[.slice ua rs.length uc])/\Hid (Nw w X' a rs cap (some (ua,uc,qs)) c5 c7):=by
 refine (My h.v hn hp).mono ?_;rintro e X1 ⟨v4,qs,rfl,hq4,ho4,hb4⟩;obtain ⟨ua,uc,e9⟩:=ho4.shape;have hql:qs.length=rs.length:=by have:=congrArg List.length hq4;simpa using this
 rw [hql] at e9;subst e9;have k:=h.next hb4;have hs:=h.sz;refine ⟨ua,uc,qs,rfl,Z9 ⟨k.sz,k.v,k.kb,k.kr,k.bb,fun _ _ _ e=> ?_,k.h5,k.h7,fun _ _ _ g e e5 k' ho=> ?_,fun _ _ _ R e e7 k' ho=> ?_,k.d57⟩⟩
 ·cases e;exact ⟨ho4.mono hs,hq4⟩
 ·cases e;have:=(ho4.lt ho).1;have:=(h.h5 g e5).2.1;omega
 ·cases e;have:=(ho4.lt ho).1;have:=(h.h7 R e7).2.lt;omega
theorem O6 {w X:World} {a:Option Addr} {rs:List ZX} {cap R g uc:Nat} {ua:Option Addr} {qs:List (ZX × Value)} (h:Nw w X a rs cap (some (ua,uc,qs)) (some g) (some R)):∃ R' hv pv qs',Value.pointer (some ⟨R,0,none⟩)= .pointer (some ⟨R',0,none⟩)/\NewCut w.heap.size w a rs cap ((((((X.setCell ⟨R,0,none⟩ (.slice ua rs.length uc)).setCell ⟨R,1,none⟩ (.slice none 0 0)).setCell ⟨R,2,none⟩ (.slice none 0 0)).setCell ⟨R,3,none⟩ (.slice none 0 0)).setCell ⟨R,4,none⟩ (.slice (some ⟨g,0,none⟩) rs.length rs.length)).setCell ⟨R,5,none⟩ (.int .i64 0)) R' hv pv qs':=zE (h.h7 _ rfl).1 h.bb h.kb h.kr (h.h1 _ _ _ rfl).1 (h.h5 _ rfl).2.2 (h.h7 _ rfl).2 (h.h5 _ rfl).1 (h.d15 _ _ _ _ rfl rfl) (h.d17 _ _ _ _ rfl rfl) (h.d57 _ _ rfl rfl) (h.h1 _ _ _ rfl).2
theorem P5 {w:World} {v:Value} {rs:List ZX} (h:IsRooms w v rs) :
  Calls Tryz.prog 147 #[.agg #[v]] w fun e w'=>xU w.heap.size (Cx rs) (Y2 rs) e w'/\Below w.heap.size w w':=by
 have Hv0:=Z9 h;obtain ⟨a,cap,rfl,hc,hm,hr⟩:=h;clear hr;obtain ⟨ok,hok⟩:∃ q,Y2 rs=q:=⟨_,rfl⟩
 have Hok:=Z9 hok;obtain ⟨M,hM⟩:∃ M,Cx rs=M:=⟨_,rfl⟩
 rw [hok,hM];have HM:=Z9 hM;clear hok hM;have kb:Hid (Blk ((w.alloc (.cells #[.slice a rs.length cap] 26)).alloc (.cells E6 32)) w.heap.size 26 #[.slice a rs.length cap]):=Z9 ((Blk.new w _ _).alloc _)
 have kr:Hid (Blk ((w.alloc (.cells #[.slice a rs.length cap] 26)).alloc (.cells E6 32)) (w.heap.size+1) 32 E6):=Z9 (by
  have k:=Blk.new (w.alloc (.cells #[.slice a rs.length cap] 26)) 32 E6;rw [Y1] at k
  exact k)
 have BB:Hid (Below w.heap.size w ((w.alloc (.cells #[.slice a rs.length cap] 26)).alloc (.cells E6 32))):=Z9 (((ba _ _)).alloc (by simp) _);have Hv:=Z9 ((uh Hv0).below (uh BB));go_enter Tryz.func147,Tryz.ntmps147;go_wp2_with fail;generalize (w.alloc (.cells #[.slice a rs.length cap] 26)).alloc (.cells E6 32)=W at *;refine (Us (uh Hv)).mono ?_;rw [uh Hok];rintro e w1 ⟨rfl,hb⟩;replace Hv:=Z9 ((uh Hv).below hb);replace kb:=bl kb hb;replace kr:=bl kr hb;replace BB:=bt BB hb;clear hb;cases ok
 ·obtain rfl:M=Ye:=by rw [<-uh HM];unfold Cx;rw [uh Hok];rfl
  obtain ⟨o0,o1,o2,o3,o4,o5⟩:=(uh kr).c6;obtain ⟨f0,f1,f2,f3,f4,f5⟩:=(uh kr).f6;go_wp2_with fail;refine ZS (v:= .tuple #[.agg E6,.bool false]) (by simp [results,Tryz.results147,go_sem, *]) rfl ⟨⟨_,_,_,_,_,[],rfl,YM _ _⟩,?_⟩
  iterate 6 (refine YO ?_ (by show _<=w.heap.size+1;omega) _)
  exact uh BB
 obtain rfl:M=TW rs:=by rw [<-uh HM];unfold Cx;rw [uh Hok];rfl
 obtain ⟨r1,r2,r3,r4⟩:=Zl (uh Hok)
 have HP:Hid (∀ r ∈ rs,r.2.length<=1000):=Z9 (fun r hr=>by
  have hrb:=List.all_eq_true.1 r3 r hr;unfold Ze at hrb;simp only [ZP] at hrb;have:=ZN hrb.2.1
  omega)
 have hmk:∀ X:World,(Instr.makeSlice 30 (.int .i64 (rs.length:Int)) (.int .i64 (rs.length:Int))).run Tryz.prog X= .ok (.slice (some ⟨X.heap.size,0,none⟩) rs.length rs.length) (X.alloc (.cells (madeCells #[.int .i64 0] rs.length) 2)):=fun X=>run_make_row' 30 2 (.int .i64 0) 8 Tryz.underlying30 (by kernel_rfl) rfl .i64 .i64 rs.length (by omega) (by omega) X;have Hb12:Hid (1<=ZW rs/\ZW rs<=8):=Z9 ⟨ON (uh Hok),r4⟩;clear r3 r4;have c0:=(uh kb).cell (i:=0) (v:= .slice a rs.length cap) rfl;go_wp2_with fail
 go_cut [4] (fun s wc=> ∃ R hv pv qs,s= .pointer (some ⟨R,0,none⟩)/\NewCut w.heap.size w a rs cap wc R hv pv qs)
 case first=>
  have H:Hid (Nw w w1.drew a rs cap none none none):=Z9 ⟨by have:=(uh kr).lt;show _<=w1.heap.size;omega,(uh Hv).below (ZZ _ _).drew,(uh kb).below (ZZ _ _).drew (uh kb).lt,(uh kr).below (ZZ _ _).drew (uh kr).lt,(uh BB).drew,fun _ _ _ e=>(by cases e),fun _ e=>(by cases e),fun _ e=>(by cases e),fun _ _ _ _ e=>(by cases e),fun _ _ _ _ e=>(by cases e),fun _ _ e=>(by cases e)⟩;refine ZL (S:=(fun w'=>w'.cell? ⟨w.heap.size,0,none⟩=some (.slice a rs.length cap))) (by kernel_rfl) (WU _ _) (by kernel_rfl) c0 (fun hHeld=> ?_);simp only [WV,WW,YQ,YC,Nat.zero_add,Nat.reduceAdd];clear c0 kb kr Hv BB;generalize w1.drew=X0 at *;refine tp 0 ?_;refine tp 2 ?_;refine tp 3 ?_;refine tp 4 ?_;refine wpAnyH_ready (rs:=[1,5,7]) (by kernel_rfl) (by simp) ?_;refine AllReadyH.cons rfl (fun K hK=> ?_) (AllReadyH.cons rfl (fun K hK=> ?_) (AllReadyH.cons rfl (fun K hK=> ?_) (AllReadyH.nil)))
  ·go_simp
   refine ((uh H).copy (by omega) (uh HP)).mono ?_;rintro e9 X1 ⟨ua,uc,qs,rfl,H⟩;refine hK.out _ _ ((uh H).kb.cell (i:=0) rfl) (fun hHeld=> ?_);clear hK K
   (try simp only [Act.put,sA,sZ,sS])
   refine wpAnyH_ready (rs:=[5,7]) (by kernel_rfl) (by simp) ?_;refine AllReadyH.cons rfl (fun K hK=> ?_) (AllReadyH.cons rfl (fun K hK=> ?_) (AllReadyH.nil))
   ·go_simp
    replace H:=Z9 ((uh H).make (by omega));refine hK.out _ _ ((uh H).kb.cell (i:=0) rfl) (fun hHeld=> ?_);clear hK K;generalize X1.alloc (.cells (madeCells #[.int .i64 0] rs.length) 2)=X2 at *;generalize X1.heap.size=g5 at *
    (try simp only [Act.put,sA,sZ,sS])
    refine tp 6 ?_;refine wpAnyH_ready (rs:=[7]) (by kernel_rfl) (by simp) ?_;refine AllReadyH.cons rfl (fun K hK=> ?_) (AllReadyH.nil)
    ·go_simp
     replace H:=Z9 ((uh H).box);refine hK.out _ _ ((uh H).kb.cell (i:=0) rfl) (fun hHeld=> ?_);clear hK K;generalize X2.alloc (.cells E6 32)=X3 at *;generalize X2.heap.size=g7 at *
     (try simp only [Act.put,sA,sZ,sS])
     refine wpAnyH_done (by kernel_rfl) ?_ _;refine ZD rfl rfl ?_;go_simp;have m0:=((uh H).h7 _ rfl).2.cell (i:=0) (v:= .slice none 0 0) rfl;have n0:=((uh H).h7 _ rfl).2.free 0;have m1:=((uh H).h7 _ rfl).2.cell (i:=1) (v:= .slice none 0 0) rfl;have n1:=((uh H).h7 _ rfl).2.free 1;have m2:=((uh H).h7 _ rfl).2.cell (i:=2) (v:= .slice none 0 0) rfl;have n2:=((uh H).h7 _ rfl).2.free 2;have m3:=((uh H).h7 _ rfl).2.cell (i:=3) (v:= .slice none 0 0) rfl;have n3:=((uh H).h7 _ rfl).2.free 3;have m4:=((uh H).h7 _ rfl).2.cell (i:=4) (v:= .slice none 0 0) rfl;have n4:=((uh H).h7 _ rfl).2.free 4;have m5:=((uh H).h7 _ rfl).2.cell (i:=5) (v:= .int .i64 0) rfl;have n5:=((uh H).h7 _ rfl).2.free 5;go_wp2_with fail
     all_goals
      go_meet;exact O6 (uh H)
   ·go_simp
    replace H:=Z9 ((uh H).box);refine hK.out _ _ ((uh H).kb.cell (i:=0) rfl) (fun hHeld=> ?_);clear hK K;generalize X1.alloc (.cells E6 32)=X2 at *;generalize X1.heap.size=g7 at *
    (try simp only [Act.put,sA,sZ,sS])
    refine wpAnyH_ready (rs:=[5]) (by kernel_rfl) (by simp) ?_;refine AllReadyH.cons rfl (fun K hK=> ?_) (AllReadyH.nil)
    ·go_simp
     replace H:=Z9 ((uh H).make (by omega));refine hK.out _ _ ((uh H).kb.cell (i:=0) rfl) (fun hHeld=> ?_);clear hK K;generalize X2.alloc (.cells (madeCells #[.int .i64 0] rs.length) 2)=X3 at *;generalize X2.heap.size=g5 at *
     (try simp only [Act.put,sA,sZ,sS])
     refine tp 6 ?_;refine wpAnyH_done (by kernel_rfl) ?_ _;refine ZD rfl rfl ?_;go_simp;have m0:=((uh H).h7 _ rfl).2.cell (i:=0) (v:= .slice none 0 0) rfl;have n0:=((uh H).h7 _ rfl).2.free 0;have m1:=((uh H).h7 _ rfl).2.cell (i:=1) (v:= .slice none 0 0) rfl;have n1:=((uh H).h7 _ rfl).2.free 1;have m2:=((uh H).h7 _ rfl).2.cell (i:=2) (v:= .slice none 0 0) rfl;have n2:=((uh H).h7 _ rfl).2.free 2;have m3:=((uh H).h7 _ rfl).2.cell (i:=3) (v:= .slice none 0 0) rfl;have n3:=((uh H).h7 _ rfl).2.free 3;have m4:=((uh H).h7 _ rfl).2.cell (i:=4) (v:= .slice none 0 0) rfl;have n4:=((uh H).h7 _ rfl).2.free 4;have m5:=((uh H).h7 _ rfl).2.cell (i:=5) (v:= .int .i64 0) rfl;have n5:=((uh H).h7 _ rfl).2.free 5;go_wp2_with fail
     all_goals
      go_meet;exact O6 (uh H)
  ·go_simp
   replace H:=Z9 ((uh H).make (by omega));refine hK.out _ _ ((uh H).kb.cell (i:=0) rfl) (fun hHeld=> ?_);clear hK K;generalize X0.alloc (.cells (madeCells #[.int .i64 0] rs.length) 2)=X1 at *;generalize X0.heap.size=g5 at *
   (try simp only [Act.put,sA,sZ,sS])
   refine wpAnyH_ready (rs:=[1,7]) (by kernel_rfl) (by simp) ?_;refine AllReadyH.cons rfl (fun K hK=> ?_) (AllReadyH.cons rfl (fun K hK=> ?_) (AllReadyH.nil))
   ·go_simp
    refine ((uh H).copy (by omega) (uh HP)).mono ?_;rintro e9 X2 ⟨ua,uc,qs,rfl,H⟩;refine hK.out _ _ ((uh H).kb.cell (i:=0) rfl) (fun hHeld=> ?_);clear hK K
    (try simp only [Act.put,sA,sZ,sS])
    refine tp 6 ?_;refine wpAnyH_ready (rs:=[7]) (by kernel_rfl) (by simp) ?_;refine AllReadyH.cons rfl (fun K hK=> ?_) (AllReadyH.nil)
    ·go_simp
     replace H:=Z9 ((uh H).box);refine hK.out _ _ ((uh H).kb.cell (i:=0) rfl) (fun hHeld=> ?_);clear hK K;generalize X2.alloc (.cells E6 32)=X3 at *;generalize X2.heap.size=g7 at *
     (try simp only [Act.put,sA,sZ,sS])
     refine wpAnyH_done (by kernel_rfl) ?_ _;refine ZD rfl rfl ?_;go_simp;have m0:=((uh H).h7 _ rfl).2.cell (i:=0) (v:= .slice none 0 0) rfl;have n0:=((uh H).h7 _ rfl).2.free 0;have m1:=((uh H).h7 _ rfl).2.cell (i:=1) (v:= .slice none 0 0) rfl;have n1:=((uh H).h7 _ rfl).2.free 1;have m2:=((uh H).h7 _ rfl).2.cell (i:=2) (v:= .slice none 0 0) rfl;have n2:=((uh H).h7 _ rfl).2.free 2;have m3:=((uh H).h7 _ rfl).2.cell (i:=3) (v:= .slice none 0 0) rfl;have n3:=((uh H).h7 _ rfl).2.free 3;have m4:=((uh H).h7 _ rfl).2.cell (i:=4) (v:= .slice none 0 0) rfl;have n4:=((uh H).h7 _ rfl).2.free 4;have m5:=((uh H).h7 _ rfl).2.cell (i:=5) (v:= .int .i64 0) rfl;have n5:=((uh H).h7 _ rfl).2.free 5;go_wp2_with fail
     all_goals
      go_meet;exact O6 (uh H)
   ·go_simp
    replace H:=Z9 ((uh H).box);refine hK.out _ _ ((uh H).kb.cell (i:=0) rfl) (fun hHeld=> ?_);clear hK K;generalize X1.alloc (.cells E6 32)=X2 at *;generalize X1.heap.size=g7 at *
    (try simp only [Act.put,sA,sZ,sS])
    refine wpAnyH_ready (rs:=[1]) (by kernel_rfl) (by simp) ?_;refine AllReadyH.cons rfl (fun K hK=> ?_) (AllReadyH.nil)
    ·go_simp
     refine ((uh H).copy (by omega) (uh HP)).mono ?_;rintro e9 X3 ⟨ua,uc,qs,rfl,H⟩;refine hK.out _ _ ((uh H).kb.cell (i:=0) rfl) (fun hHeld=> ?_);clear hK K
     (try simp only [Act.put,sA,sZ,sS])
     refine tp 6 ?_;refine wpAnyH_done (by kernel_rfl) ?_ _;refine ZD rfl rfl ?_;go_simp;have m0:=((uh H).h7 _ rfl).2.cell (i:=0) (v:= .slice none 0 0) rfl;have n0:=((uh H).h7 _ rfl).2.free 0;have m1:=((uh H).h7 _ rfl).2.cell (i:=1) (v:= .slice none 0 0) rfl;have n1:=((uh H).h7 _ rfl).2.free 1;have m2:=((uh H).h7 _ rfl).2.cell (i:=2) (v:= .slice none 0 0) rfl;have n2:=((uh H).h7 _ rfl).2.free 2;have m3:=((uh H).h7 _ rfl).2.cell (i:=3) (v:= .slice none 0 0) rfl;have n3:=((uh H).h7 _ rfl).2.free 3;have m4:=((uh H).h7 _ rfl).2.cell (i:=4) (v:= .slice none 0 0) rfl;have n4:=((uh H).h7 _ rfl).2.free 4;have m5:=((uh H).h7 _ rfl).2.cell (i:=5) (v:= .int .i64 0) rfl;have n5:=((uh H).h7 _ rfl).2.free 5;go_wp2_with fail
     all_goals
      go_meet;exact O6 (uh H)
  ·go_simp
   replace H:=Z9 ((uh H).box);refine hK.out _ _ ((uh H).kb.cell (i:=0) rfl) (fun hHeld=> ?_);clear hK K;generalize X0.alloc (.cells E6 32)=X1 at *;generalize X0.heap.size=g7 at *
   (try simp only [Act.put,sA,sZ,sS])
   refine wpAnyH_ready (rs:=[1,5]) (by kernel_rfl) (by simp) ?_;refine AllReadyH.cons rfl (fun K hK=> ?_) (AllReadyH.cons rfl (fun K hK=> ?_) (AllReadyH.nil))
   ·go_simp
    refine ((uh H).copy (by omega) (uh HP)).mono ?_;rintro e9 X2 ⟨ua,uc,qs,rfl,H⟩;refine hK.out _ _ ((uh H).kb.cell (i:=0) rfl) (fun hHeld=> ?_);clear hK K
    (try simp only [Act.put,sA,sZ,sS])
    refine wpAnyH_ready (rs:=[5]) (by kernel_rfl) (by simp) ?_;refine AllReadyH.cons rfl (fun K hK=> ?_) (AllReadyH.nil)
    ·go_simp
     replace H:=Z9 ((uh H).make (by omega));refine hK.out _ _ ((uh H).kb.cell (i:=0) rfl) (fun hHeld=> ?_);clear hK K;generalize X2.alloc (.cells (madeCells #[.int .i64 0] rs.length) 2)=X3 at *;generalize X2.heap.size=g5 at *
     (try simp only [Act.put,sA,sZ,sS])
     refine tp 6 ?_;refine wpAnyH_done (by kernel_rfl) ?_ _;refine ZD rfl rfl ?_;go_simp;have m0:=((uh H).h7 _ rfl).2.cell (i:=0) (v:= .slice none 0 0) rfl;have n0:=((uh H).h7 _ rfl).2.free 0;have m1:=((uh H).h7 _ rfl).2.cell (i:=1) (v:= .slice none 0 0) rfl;have n1:=((uh H).h7 _ rfl).2.free 1;have m2:=((uh H).h7 _ rfl).2.cell (i:=2) (v:= .slice none 0 0) rfl;have n2:=((uh H).h7 _ rfl).2.free 2;have m3:=((uh H).h7 _ rfl).2.cell (i:=3) (v:= .slice none 0 0) rfl;have n3:=((uh H).h7 _ rfl).2.free 3;have m4:=((uh H).h7 _ rfl).2.cell (i:=4) (v:= .slice none 0 0) rfl;have n4:=((uh H).h7 _ rfl).2.free 4;have m5:=((uh H).h7 _ rfl).2.cell (i:=5) (v:= .int .i64 0) rfl;have n5:=((uh H).h7 _ rfl).2.free 5;go_wp2_with fail
     all_goals
      go_meet;exact O6 (uh H)
   ·go_simp
    replace H:=Z9 ((uh H).make (by omega));refine hK.out _ _ ((uh H).kb.cell (i:=0) rfl) (fun hHeld=> ?_);clear hK K;generalize X1.alloc (.cells (madeCells #[.int .i64 0] rs.length) 2)=X2 at *;generalize X1.heap.size=g5 at *
    (try simp only [Act.put,sA,sZ,sS])
    refine wpAnyH_ready (rs:=[1]) (by kernel_rfl) (by simp) ?_;refine AllReadyH.cons rfl (fun K hK=> ?_) (AllReadyH.nil)
    ·go_simp
     refine ((uh H).copy (by omega) (uh HP)).mono ?_;rintro e9 X3 ⟨ua,uc,qs,rfl,H⟩;refine hK.out _ _ ((uh H).kb.cell (i:=0) rfl) (fun hHeld=> ?_);clear hK K
     (try simp only [Act.put,sA,sZ,sS])
     refine tp 6 ?_;refine wpAnyH_done (by kernel_rfl) ?_ _;refine ZD rfl rfl ?_;go_simp;have m0:=((uh H).h7 _ rfl).2.cell (i:=0) (v:= .slice none 0 0) rfl;have n0:=((uh H).h7 _ rfl).2.free 0;have m1:=((uh H).h7 _ rfl).2.cell (i:=1) (v:= .slice none 0 0) rfl;have n1:=((uh H).h7 _ rfl).2.free 1;have m2:=((uh H).h7 _ rfl).2.cell (i:=2) (v:= .slice none 0 0) rfl;have n2:=((uh H).h7 _ rfl).2.free 2;have m3:=((uh H).h7 _ rfl).2.cell (i:=3) (v:= .slice none 0 0) rfl;have n3:=((uh H).h7 _ rfl).2.free 3;have m4:=((uh H).h7 _ rfl).2.cell (i:=4) (v:= .slice none 0 0) rfl;have n4:=((uh H).h7 _ rfl).2.free 4;have m5:=((uh H).h7 _ rfl).2.cell (i:=5) (v:= .int .i64 0) rfl;have n5:=((uh H).h7 _ rfl).2.free 5;go_wp2_with fail
     all_goals
      go_meet;exact O6 (uh H)
 case rest=>
  obtain ⟨R,hv,pv,qs,rfl,hcut⟩:=hcut;obtain ⟨w2,rfl⟩:∃ x,x=wc:=⟨wc,rfl⟩
  obtain ⟨ua,uc,rfl⟩:=hcut.hshape;obtain ⟨pa,pc,rfl⟩:=hcut.pshape;have HC:=Z9 hcut;clear hcut c0 kb kr BB Hv;have Hv:=Z9 ((uh Hv0).below (uh HC).bel);have c0:=(uh HC).kb.cell (i:=0) (v:= .slice a rs.length cap) rfl;go_wp2_with fail;refine ck (RI (uh Hv) (S7 (uh Hok))) fun w3 hb=> ?_;replace HC:=Z9 ((uh HC).below hb);clear hb c0;obtain ⟨n,hn⟩:∃ n:Nat,ZW rs=(n:Int):=⟨(ZW rs).toNat,by have:=(uh Hb12).1;omega⟩
  have hn8:n<=8:=by have:=(uh Hb12).2;omega
  have HnM:Hid (TW rs=⟨rs,[],[],List.replicate n (true,-1,0),List.replicate rs.length 0,0⟩):=Z9 (by unfold TW;rw [hn];rfl);rw [hn];clear hn;go_wp2_with fail
  go_loopw [5] (fun i wr=> ∃ (k:Nat) (u:Value),k<=n/\i= .int .i64 ((n:Int)-(k:Int))/\Blk wr R 32 #[.slice ua rs.length uc,.slice none 0 0,.slice none 0 0,u,.slice pa rs.length pc,.int .i64 0]/\DesksAt (w.heap.size+2) wr u (List.replicate k (true,-1,0))/\NewOff w.heap.size rs wr R (.slice ua rs.length uc) (.slice pa rs.length pc) u qs/\Blk wr (w.heap.size+1) 32 E6/\Below w.heap.size w wr) (fun i _=>(intOf i).toNat)
  case atStart=>exact ⟨0,.slice none 0 0,Zz _,by simp,(uh HC).km,A6 _ _,(uh HC).off,(uh HC).kr,(uh HC).bel⟩
  case round=>
   obtain ⟨k,u,hk,rfl,km,hd,hoff,hkr,hbb⟩:=hrel;obtain ⟨da,dc,rfl⟩:=RecAt.shape hd;rw [List.length_replicate] at km hd hoff;have KM:=Z9 km;have HD:=Z9 hd;have HF:=Z9 hoff;have kr:=Z9 hkr;have BB:=Z9 hbb;clear km hd hoff hkr hbb HC;have m3:=(uh KM).cell (i:=3) (v:= .slice da k dc) rfl;have n3:=(uh KM).free 3;have hRlt:=(uh KM).lt;have hRo:=(uh HF).rlo;by_cases hlt:k<n
   ·have hsx:=(uh BB).size
    have hkn:((k:Int)<(n:Int)):=by omega
    have hpos:(0:Int)<(n:Int)-(k:Int):=by omega
    have hbase:w.heap.size+2<=wr.heap.size:=by omega
    obtain ⟨u9,w9,hrun9,hown9,hg9,hat9⟩:=WI tyD (w:=wr.alloc (.cells #[.bool true,.int .i64 (-1),.int .i64 0] 43)) (t:=29) (ty:=29) (base:=w.heap.size+2) Tryz.underlying29 (RecAt.later (uh HD) ((ba _ _))) (WH (w:=wr) (g:=wr.heap.size) (c:=1) ((true,-1,0):XN) rfl (Z1 _) (by omega)) (by simp;omega) (by simp;omega);obtain ⟨da9,dc9,rfl⟩:=RecAt.shape hown9;have hlen9:(List.replicate k ((true,-1,0):XN)++[(true,-1,0)]).length=k+1:=by simp
    rw [hlen9] at hrun9 hown9 hat9;have hrep:List.replicate k ((true,-1,0):XN)++[(true,-1,0)]=List.replicate (k+1) (true,-1,0):=by rw [List.replicate_succ']
    rw [hrep] at hown9;have HR9:=Z9 hrun9;have HO9:=Z9 hown9;have hRd:(Value.slice da k dc).ownBlock ≠ some R:=(uh HF).rd;have hgo:∀ i,(Value.slice da k dc).ownBlock=some i->w.heap.size+2<=i:=fun i e=>(RecAt.lt (uh HD) e).1;have hb9:Below (w.heap.size+2) wr w9:=((ZZ _ _).alloc hbase _).trans ((ZZ _ _).grown hg9 (by simp;omega) hgo);have KM9:=(((uh KM).alloc (.cells #[.bool true,.int .i64 (-1),.int .i64 0] 43)).same (hg9.block R (by simp;omega) (fun e=>hRd e.symm)))
    have t3:=KM9.cell (i:=3) (v:= .slice da k dc) rfl;have s3:=KM9.free 3;have HF9:=Z9 ((uh HF).grow hg9 hat9);have HKM9:=Z9 (KM9.set 3 (.slice da9 (k+1) dc9));have Hb9:=Z9 hb9;clear hrun9 hown9 hg9 hat9 KM9 hrep hlen9 hgo;go_wp2_with (at_builtin;refine Qf rfl (.tmp 24) (.tmp 26) 29 rfl rfl rfl (uh HR9) ?_)
    go_wp2_with fail;go_roundw
    case rel=>
     refine ⟨k+1,.slice da9 (k+1) dc9,by omega,by go_num,uh HKM9,?_,(uh HF9).set_R _ _,?_,?_⟩
     ·exact RecAt.same (uh HO9) fun i hi=>heap_setCell_other _ _ _ _ (fun e=>by have:=(uh HF9).rd;rw [hi] at this;exact this (by rw [e]))
     ·exact ((uh kr).below (uh Hb9) (by omega)).other (by show w.heap.size+1 ≠ R;omega) _
     ·exact ((uh BB).trans ((uh Hb9).mono (by omega))).setCell (by show _<=R;omega) _
    case measure=>exact ms
   ·obtain rfl:k=n:=by omega
    have hpos:¬ ((0:Int)<(k:Int)-(k:Int)):=by omega
    have m0:=(uh KM).cell (i:=0) (v:= .slice ua rs.length uc) rfl;have m1:=(uh KM).cell (i:=1) (v:= .slice none 0 0) rfl;have m2:=(uh KM).cell (i:=2) (v:= .slice none 0 0) rfl;have m4:=(uh KM).cell (i:=4) (v:= .slice pa rs.length pc) rfl;have m5:=(uh KM).cell (i:=5) (v:= .int .i64 0) rfl;obtain ⟨o0,o1,o2,o3,o4,o5⟩:=(uh kr).c6;obtain ⟨f0,f1,f2,f3,f4,f5⟩:=(uh kr).f6;go_wp2_with fail;refine ZS (v:= .tuple #[.agg #[.slice ua rs.length uc,.slice none 0 0,.slice none 0 0,.slice da k dc,.slice pa rs.length pc,.int .i64 0],.bool true]) (by simp [results,Tryz.results147,go_sem, *]) rfl ⟨?_,?_⟩
    ·rw [uh HnM]
     refine ⟨_,_,_,_,_,qs,rfl,?_⟩
     iterate 6 (refine FullSmy.set_off ?_ (fun i e=>by have:=((uh HF).full (uh HD)).own e;omega) _ _)
     exact ((uh HF).full (uh HD)).mono (by omega)
    ·iterate 6 (refine YO ?_ (by show _<=w.heap.size+1;omega) _)
     exact uh BB
end Go.Proofs.YtamgfpdahadnfaaGreatDoor
namespace Go.Proofs.YtamgfpdahadnfaaGreatDoor
open Go.ChangeShapes Go.WideShapes Go.ChangeAt Go.RowKit Go.Sort
set_option linter.unusedVariables false
theorem Kt {α:Type} [Inhabited α] {n j:Nat} (x:α) (h:j<n):Z8 (List.replicate n x) j=x:=by
 unfold Z8;simp [List.getD,h]
theorem Cy {rs:List ZX} (h:Y2 rs=true):((TW rs).dk.length:Int)=ZW rs:=by
 have:=ON h;show (((List.replicate (ZW rs).toNat ((true,-1,0):XN)).length:Nat):Int)=_;rw [List.length_replicate];omega
theorem GX {rs:List ZX} (gs:List Zr) (h:Y2 rs=true) (hg:Zh gs=true):ZJ { TW rs with gd:=gs }=true:=by
 have hb:=ON h;have hd:=Cy h;obtain ⟨r1,r2,r3,r4⟩:=Zl h
 have hdk:∀ j,j<(TW rs).dk.length->Z8 (TW rs).dk j=(true,-1,0):=fun j hj=>Kt _ (by
  have:(TW rs).dk.length=(ZW rs).toNat:=by show (List.replicate _ _).length=_;rw [List.length_replicate]
  omega)
 have hlo:Loose { TW rs with gd:=gs }:=by
  refine ⟨?_,?_,?_,fun i hi=>absurd hi (Nat.not_lt_zero _),fun i hi=>absurd hi (Nat.not_lt_zero _),0,?_,?_⟩
  ·unfold YA
   simp only [ZP,Y0];exact ⟨h,hg,Zz _,hd,by show (List.replicate _ _).length=_;rw [List.length_replicate];rfl,rfl⟩
  ·intro j hj
   show Vv (Z8 (TW rs).dk j)=true;rw [hdk j hj];rfl
  ·intro j hj
   have hj':j<rs.length:=by
    have:(List.replicate rs.length (0:Int)).length=rs.length:=List.length_replicate ..;have hj2:j<(List.replicate rs.length (0:Int)).length:=hj;omega
   show inB (Z8 (List.replicate rs.length (0:Int)) j) 0 (((ZQ rs j).2.length:Int)-1)=true;rw [Kt _ hj'];have hmem:ZQ rs j ∈ rs:=by unfold ZQ;simp [List.getD,hj']
   have hrb:=List.all_eq_true.1 r3 _ hmem;unfold Ze at hrb;simp only [ZP] at hrb;have:=ZN hrb.2.1;exact Zp (by omega) (by omega)
  ·show 0<(TW rs).dk.length
   omega
  ·show (Z8 (TW rs).dk 0).1=true
   rw [hdk 0 (by omega)]
 unfold ZJ;rw [hlo.mk',Bool.true_and];refine List.all_eq_true.2 fun b hb2=> ?_;have hb3:b<(TW rs).dk.length:=List.mem_range.1 hb2;unfold Yh;show (match Yk [] (b:Int) 0 with | none=>false | some (wk,wt)=>(Z8 (TW rs).dk b).2.1 ==wk && !(wt && decide (wk<0)))=true;rw [hdk b hb3];rfl
open Draw (St Off Row Cur)
set_option linter.unusedSimpArgs false
set_option maxRecDepth 100000
theorem FullSmy.newG {n₀ bc B:Nat} {w w':World} {v0 v1 v2 v3 v4 g:Value} {m:Z6} {qs:List (ZX × Value)} {gs:List Zr} (h:FullSmy n₀ w v0 v1 v2 v3 v4 m qs) (ho:Off bc w w') (hb:bc<n₀) (hg:GuildsAt B w' g gs) (hB:w.heap.size<=B) (hn:n₀<=B):FullSmy n₀ w' v0 g v2 v3 v4 { m with gd:=gs } qs:=by
 have h':=h.away ho hb;have hgb:∀ b,g.ownBlock=some b->w.heap.size<=b:=fun b e=>XO hB (RecAt.lt hg e).1;have hol:∀ b,Wa v0 v1 v2 v3 v4 qs b->b<w.heap.size:=fun b e=>(h.own e).2;refine ⟨h'.hall,h'.rm,RecAt.mono hg hn,h'.sm,h'.dk,h'.pc,⟨fun b e e'=> ?_,fun q hq b e e'=> ?_⟩,h'.h2,h'.h3,h'.h4,fun b e e'=> ?_,fun b e e'=> ?_,fun b e e'=> ?_,h'.a23,h'.a24,h'.a34⟩
 ·have:=hgb b e;have:=hol b (.inl e');omega
 ·have:=hgb b e;have:=hol b (.inr (.inl ⟨q,hq,e'⟩));omega
 ·have:=hgb b e;have:=hol b (.inr (.inr (.inr (.inl e'))));omega
 ·have:=hgb b e;have:=hol b (.inr (.inr (.inr (.inr (.inl e')))));omega
 ·have:=hgb b e;have:=hol b (.inr (.inr (.inr (.inr (.inr e')))));omega
theorem GG (a:Option Addr) (len cap bc:Nat) (w:World) (hs:St a len cap bc w) :
  Calls Tryz.prog 88 #[.pointer (some ⟨bc,0,none⟩)] w fun e w'=> ∃ M u0 u1 u2 u3 u4 rq,e= .returned (.agg #[u0,u1,u2,u3,u4,.int .i64 M.now])/\ZJ M=true/\FullSmy (w.heap.size+1) w' u0 u1 u2 u3 u4 M rq/\St a len cap bc w'/\Off bc w w':=by
 have Hs:=Z9 hs;have hbc:=Wy hs;clear hs;go_enter Tryz.func88,Tryz.ntmps88;go_wp2_with fail;have kr:Hid (Blk (w.alloc (.cells E6 32)) w.heap.size 32 E6):=Z9 (Blk.new _ _ _);have HO:Hid (Off bc w (w.alloc (.cells E6 32))):=Z9 ((Off.refl _ _).alloc _);replace Hs:Hid (St a len cap bc (w.alloc (.cells E6 32))):=Z9 ((uh Hs).alloc _);have hzW:w.heap.size+1<=(w.alloc (.cells E6 32)).heap.size:=by simp
 generalize w.alloc (.cells E6 32)=W at *;refine (EC a len cap bc _ (uh Hs)).mono ?_;rintro e w1 ⟨v,qs,rfl,hh,hown,s9,p9⟩;have HI:=Z9 hown.rm;have Hh:=Z9 hh;replace kr:=Z9 ((uh kr).away p9 (by omega));replace HO:=Z9 ((uh HO).trans p9);replace Hs:=Z9 s9;have hz1:w.heap.size+1<=w1.heap.size:=XO hzW p9.size;obtain ⟨ha,hc,rfl⟩:=hown.shape;clear hh hown s9 p9 hzW;obtain ⟨rs,hrs⟩:∃ q,qs.map (·.1)=q:=⟨_,rfl⟩
 have hrl:qs.length=rs.length:=by rw [<-hrs];simp
 rw [hrs] at HI Hh;rw [hrl] at HI ⊢;clear hrs hrl;go_wp2_with fail;refine (P5 (uh HI)).mono ?_;rw [show Cx rs=TW rs by unfold Cx;rw [uh Hh];rfl];rintro e w2 ⟨⟨z0,z1,z2,z3,z4,zq,rfl,ho⟩,hb⟩;have k6:=ho.smy;obtain ⟨d0,r0,d1,r1,d2,r2,d3,r3,d4,r4,rfl,rfl,rfl,rfl,rfl,_,_,_,_,_,_,_,_,_,_⟩:=k6.five;have HN:=Z9 (ho.mono hz1);have LN:Hid (∀ k,Wa (.slice d0 (TW rs).rm.length r0) (.slice d1 (TW rs).gd.length r1) (.slice d2 (TW rs).sm.length r2) (.slice d3 (TW rs).dk.length r3) (.slice d4 (TW rs).pc.length r4) zq k->k<w2.heap.size):=Z9 (fun k e=>(ho.own e).2);have Hr:=Z9 (fun gs hg=>GX (rs:=rs) gs (uh Hh) hg);replace kr:=bl kr hb;replace HO:=Z9 ((uh HO).trans (VP hb));replace Hs:=Z9 (Xz (uh Hs) (hb.mono (Wy (uh Hs))));have hz2:w.heap.size+1<=w2.heap.size:=XO hz1 hb.size;clear ho hb k6 HI Hh;generalize TW rs=N at *;go_upto_region 2 with fail;obtain ⟨W2,hW2,hb,km⟩:=YP w2 32 (S6 d0 r0 d1 r1 d2 r2 d3 r3 d4 r4 N);replace kr:=bl kr hb;replace HO:=Z9 ((uh HO).trans (VP hb));replace Hs:=Z9 (Xz (uh Hs) (hb.mono (Wy (uh Hs))));replace HN:=Z9 ((uh HN).below hb);clear hb;rw [hW2];clear hW2;generalize w2.heap.size=mb at *;go_wp2_with fail;refine (Jw a len cap bc _ (uh Hs)).mono ?_;rintro e w3 ⟨gv,gs,rfl,hgs,hG⟩;have hmw:=(uh km).lt;have HG:=Z9 ((uh HN).newG hG.off (by omega) hG.row (Z1 _) (by omega));have LG:Hid (∀ k,gv.ownBlock=some k->mb<k):=Z9 (fun k e=>by have:=(RecAt.lt hG.row e).1;omega);replace kr:=Z9 ((uh kr).away hG.off (by omega));replace km:=Z9 ((uh km).away hG.off (by omega));replace HO:=Z9 ((uh HO).trans hG.off);replace Hs:=Z9 hG.st;obtain ⟨ga,gc,rfl⟩:=RecAt.shape hG.row;have hok:=uh Hr gs hgs;have Hok:=Z9 hok;clear hG hgs hmw HN Hr hok;have x1:=(uh km).cell (i:=1) (v:= .slice d1 N.gd.length r1) rfl;have f1:=(uh km).free 1;go_upto_region 3 with fail;clear x1 f1
 have hofm:∀ k,Wa (.slice d0 N.rm.length r0) (.slice ga gs.length gc) (.slice d2 N.sm.length r2) (.slice d3 N.dk.length r3) (.slice d4 N.pc.length r4) zq k->k ≠ mb:=fun k e=>by
  rcases e with e | e | e | e | e | e
  ·have:=uh LN k (.inl e);omega
  ·have:=uh LN k (.inr (.inl e));omega
  ·have:=uh LG k e;omega
  ·have:=uh LN k (.inr (.inr (.inr (.inl e))));omega
  ·have:=uh LN k (.inr (.inr (.inr (.inr (.inl e)))));omega
  ·have:=uh LN k (.inr (.inr (.inr (.inr (.inr e)))));omega
 replace HG:Hid (FullSmy (w.heap.size+1) (w3.setCell ⟨mb,1,none⟩ (.slice ga gs.length gc)) (.slice d0 N.rm.length r0) (.slice ga gs.length gc) (.slice d2 N.sm.length r2) (.slice d3 N.dk.length r3) (.slice d4 N.pc.length r4) { N with gd:=gs } zq):=Z9 ((uh HG).set_off hofm _ _);replace km:Hid (Blk (w3.setCell ⟨mb,1,none⟩ (.slice ga gs.length gc)) mb 32 #[.slice d0 N.rm.length r0,.slice ga gs.length gc,.slice d2 N.sm.length r2,.slice d3 N.dk.length r3,.slice d4 N.pc.length r4,.int .i64 N.now]):=Z9 ((uh km).set 1 _);replace kr:Hid (Blk (w3.setCell ⟨mb,1,none⟩ (.slice ga gs.length gc)) w.heap.size 32 E6):=Z9 ((uh kr).other (a:=⟨mb,1,none⟩) (by show w.heap.size ≠ mb;omega) _);replace HO:Hid (Off bc w (w3.setCell ⟨mb,1,none⟩ (.slice ga gs.length gc))):=Z9 (Off.newer (uh HO) (by omega) _ _);replace Hs:Hid (St a len cap bc (w3.setCell ⟨mb,1,none⟩ (.slice ga gs.length gc))):=Z9 (St.newer (uh Hs) (by omega) _ _);clear LN LG hofm;generalize w3.setCell ⟨mb,1,none⟩ (.slice ga gs.length gc)=W3 at *;obtain ⟨x0,x1,x2,x3,x4,x5⟩:=(uh km).c6;have hz3:w.heap.size+1<=W3.heap.size:=by have:=(uh kr).lt;omega
 go_wp2_with fail;clear x0 x1 x2 x3 x4 x5;refine (BZ a len cap bc (m:={ N with gd:=gs }) (uh Hs) (uh HG) (by omega) hz3 (uh Hok) 40 (by omega) (by omega)).mono ?_;rintro e w4 ⟨M,u0,u1,u2,u3,u4,rq,rfl,ok4,hf4,s9,p9⟩;have k6:=hf4.smy;obtain ⟨b0,q0,b1,q1,b2,q2,b3,q3,b4,q4,rfl,rfl,rfl,rfl,rfl,_,_,_,_,_,_,_,_,_,_⟩:=k6.five;have HF:=Z9 hf4;have Hok4:=Z9 ok4;replace kr:=Z9 ((uh kr).away p9 (by omega));replace HO:=Z9 ((uh HO).trans p9);replace Hs:=Z9 s9;clear hf4 ok4 s9 p9 k6 HG km Hok;obtain ⟨o0,o1,o2,o3,o4,o5⟩:=(uh kr).c6;obtain ⟨f0,f1,f2,f3,f4,f5⟩:=(uh kr).f6;go_wp2_with fail;refine ZS (v:= .agg (S6 b0 q0 b1 q1 b2 q2 b3 q3 b4 q4 M)) (by simp [results,Tryz.results88,go_sem, *]) rfl ⟨M,_,_,_,_,_,rq,rfl,uh Hok4,?_,?_,?_⟩
 ·iterate 6 (refine FullSmy.set_off ?_ (fun k e=>by have:=((uh HF).own e).1;omega) _ _)
  exact uh HF
 ·iterate 6 (refine St.newer ?_ (by omega) _ _)
  exact uh Hs
 ·iterate 6 (refine Off.newer ?_ (by omega) _ _)
  exact uh HO
structure Sbox (a:Option Addr) (len cap bc:Nat) (w0:World) (R S:Nat) (cs:Array Value) (w:World):Prop where
 st:St a len cap bc w
 off:Off bc w0 w
 gt:bc<w0.heap.size
 hR:w0.heap.size<=R
 hS:w0.heap.size<=S
 ne:R ≠ S
 ko:Blk w R 40 E11
 kb:Blk w S 40 cs
section
variable {a : Option Addr} {len cap bc : Nat} {w0 w w' : World} {R S : Nat} {cs : Array Value}
theorem Sbox.step (h:Sbox a len cap bc w0 R S cs w) (hs:St a len cap bc w') (ho:Off bc w w'):Sbox a len cap bc w0 R S cs w':=by
 have h1:=h.gt;have h2:=h.hR;have h3:=h.hS;exact ⟨hs,h.off.trans ho,h.gt,h.hR,h.hS,h.ne,h.ko.same (ho.block R h.ko.lt (by omega)),h.kb.same (ho.block S h.kb.lt (by omega))⟩
theorem Sbox.alloc (h:Sbox a len cap bc w0 R S cs w) (o:Obj):Sbox a len cap bc w0 R S cs (w.alloc o):=h.step (h.st.alloc _) ((Off.refl _ _).alloc _)
theorem Sbox.fin (h:Sbox a len cap bc w0 R S cs w) (hb:Below w0.heap.size w w'):St a len cap bc w'/\Off bc w0 w':=by
 have h1:=h.gt;exact ⟨Xz h.st (hb.mono (by omega)),Tn h.off hb⟩
theorem Sbox.put (h:Sbox a len cap bc w0 R S cs w) (i:Nat) (v:Value):Sbox a len cap bc w0 R S (cs.setIfInBounds i v) (w.setCell ⟨S,i,none⟩ v):=by
 have hb:Below w0.heap.size w (w.setCell ⟨S,i,none⟩ v):=(ZZ _ _).setCell (p:=⟨S,i,none⟩) h.hS v;obtain ⟨h1,h2⟩:=h.fin hb;exact ⟨h1,h2,h.gt,h.hR,h.hS,h.ne,h.ko.other (a:=⟨S,i,none⟩) h.ne v,h.kb.set i v⟩
theorem yz (hs:St a len cap bc w) (ho:Off bc w0 w) (hbc:bc<w0.heap.size) (hb:Below w0.heap.size w w'):St a len cap bc w'/\Off bc w0 w':=⟨Xz hs (hb.mono (by omega)),Tn ho hb⟩
end
theorem EG (a:Option Addr) (len cap bc:Nat) (w:World) (hs:St a len cap bc w) :
  Calls Tryz.prog 151 #[.pointer (some ⟨bc,0,none⟩)] w fun e w'=> ∃ x:Z3,e= .returned (.agg (ZU x).toArray)/\St a len cap bc w'/\Off bc w w':=by
 have Hs:=Z9 hs;have hbc:=Wy hs;clear hs;go_enter Tryz.func151,Tryz.ntmps151;go_wp2_with fail;refine (Draw.from_any a len cap bc 0 3 (by omega) (by omega) (by omega) _ ((uh Hs).alloc _)).mono ?_;rintro e w1 ⟨st,rfl,t0,t1,s1,p1⟩;have ko1:Blk w1 w.heap.size 40 E11:=(Blk.new w 40 E11).same (p1.block w.heap.size (by simp) (by omega));have hz1:w.heap.size<w1.heap.size:=ko1.lt;have H1:Hid (Sbox a len cap bc w w.heap.size w1.heap.size (I11 st 0 0 0 0 0 0 0 0 0 0) (w1.alloc (.cells (I11 st 0 0 0 0 0 0 0 0 0 0) 40))):=Z9 ⟨s1.alloc _,(((Off.refl _ _).alloc _).trans p1).alloc _,hbc,Z1 _,by omega,by omega,ko1.alloc _,Blk.new _ _ _⟩;have Hw1:=Z9 (And.intro s1 (((Off.refl bc w).alloc (.cells E11 40)).trans p1));clear s1 p1 Hs;by_cases hst:st=0
 ·subst hst
  have o0:=ko1.cell (i:=0) (v:= .int .i64 0) rfl;have of0:=ko1.free 0;have o1:=ko1.cell (i:=1) (v:= .int .i64 0) rfl;have of1:=ko1.free 1;have o2:=ko1.cell (i:=2) (v:= .int .i64 0) rfl;have of2:=ko1.free 2;have o3:=ko1.cell (i:=3) (v:= .int .i64 0) rfl;have of3:=ko1.free 3;have o4:=ko1.cell (i:=4) (v:= .int .i64 0) rfl;have of4:=ko1.free 4;have o5:=ko1.cell (i:=5) (v:= .int .i64 0) rfl;have of5:=ko1.free 5;have o6:=ko1.cell (i:=6) (v:= .int .i64 0) rfl;have of6:=ko1.free 6;have o7:=ko1.cell (i:=7) (v:= .int .i64 0) rfl;have of7:=ko1.free 7;have o8:=ko1.cell (i:=8) (v:= .int .i64 0) rfl;have of8:=ko1.free 8;have o9:=ko1.cell (i:=9) (v:= .int .i64 0) rfl;have of9:=ko1.free 9;have o10:=ko1.cell (i:=10) (v:= .int .i64 0) rfl;have of10:=ko1.free 10;clear ko1;go_wp2_with fail;refine ZS (v:= .agg E11) (by simp [results,Tryz.results151,go_sem,o0,o1,o2,o3,o4,o5,o6,o7,o8,o9,o10,hz1]) rfl ⟨(0,0,0,0,0,0,0,0,0,0,0),rfl,?_⟩;obtain ⟨s1,p1⟩:=uh Hw1;refine yz s1 p1 hbc ?_;refine Below.alloc ?_ (by simp;omega) _
  iterate 11 (refine YO ?_ (by simp) _)
  exact ZZ _ _
 ·have hst2:(st ==0)=false:=by simpa using hst
  clear Hw1 ko1;go_wp2_with fail;generalize w1.alloc (.cells (I11 st 0 0 0 0 0 0 0 0 0 0) 40)=W at *;generalize w1.heap.size=S at *;have H:=H1;clear H1;refine (Draw.below_any a len cap bc 4 (by omega) (by omega) _ (uh H).st).mono ?_;rintro e w2 ⟨be,rfl,be0,be1,s9,p9⟩;have X:=(uh H).step s9 p9;have H2:=Z9 X;have c1:=X.kb.cell (i:=1) (v:= .int .i64 0) rfl;have f1:=X.kb.free 1;clear s9 p9 X H;go_wp2_with fail;have H3:Hid (Sbox a len cap bc w w.heap.size S (I11 st be 0 0 0 0 0 0 0 0 0) (w2.setCell ⟨S,1,none⟩ (.int .i64 be))):=Z9 ((uh H2).put 1 (.int .i64 be));clear H2 c1 f1;generalize (w2.setCell ⟨S,1,none⟩ (.int .i64 be))=W9 at *;obtain ⟨W,rfl⟩:∃ W,W=W9:=⟨W9,rfl⟩
  have H:=H3;clear H3;refine (Draw.from_any a len cap bc (-5) 5 (by omega) (by omega) (by omega) _ (uh H).st).mono ?_;rintro e w2 ⟨rk,rfl,rk0,rk1,s9,p9⟩;have X:=(uh H).step s9 p9;have H2:=Z9 X;have c2:=X.kb.cell (i:=2) (v:= .int .i64 0) rfl;have f2:=X.kb.free 2;clear s9 p9 X H;go_wp2_with fail;have H3:Hid (Sbox a len cap bc w w.heap.size S (I11 st be rk 0 0 0 0 0 0 0 0) (w2.setCell ⟨S,2,none⟩ (.int .i64 rk))):=Z9 ((uh H2).put 2 (.int .i64 rk));clear H2 c2 f2;generalize (w2.setCell ⟨S,2,none⟩ (.int .i64 rk))=W9 at *;obtain ⟨W,rfl⟩:∃ W,W=W9:=⟨W9,rfl⟩
  have H:=H3;clear H3;refine (Draw.below_any a len cap bc 255 (by omega) (by omega) _ (uh H).st).mono ?_;rintro e w2 ⟨my,rfl,my0,my1,s9,p9⟩;have X:=(uh H).step s9 p9;have H2:=Z9 X;have c3:=X.kb.cell (i:=3) (v:= .int .i64 0) rfl;have f3:=X.kb.free 3;clear s9 p9 X H;go_wp2_with fail;have H3:Hid (Sbox a len cap bc w w.heap.size S (I11 st be rk (1+my) 0 0 0 0 0 0 0) (w2.setCell ⟨S,3,none⟩ (.int .i64 (1+my)))):=Z9 ((uh H2).put 3 (.int .i64 (1+my)));clear H2 c3 f3;generalize (w2.setCell ⟨S,3,none⟩ (.int .i64 (1+my)))=W9 at *;obtain ⟨W,rfl⟩:∃ W,W=W9:=⟨W9,rfl⟩
  have H:=H3;clear H3;refine (Draw.from_any a len cap bc (-1) 1 (by omega) (by omega) (by omega) _ (uh H).st).mono ?_;rintro e w2 ⟨gu,rfl,gu0,gu1,s9,p9⟩;have X:=(uh H).step s9 p9;have H2:=Z9 X;have c4:=X.kb.cell (i:=4) (v:= .int .i64 0) rfl;have f4:=X.kb.free 4;have c6:=X.kb.cell (i:=6) (v:= .int .i64 0) rfl;have f6:=X.kb.free 6;clear s9 p9 X H;go_wp2_with fail;have H3:Hid (Sbox a len cap bc w w.heap.size S (I11 st be rk (1+my) gu 0 1024 0 0 0 0) ((w2.setCell ⟨S,4,none⟩ (.int .i64 gu)).setCell ⟨S,6,none⟩ (.int .i64 1024))):=Z9 (((uh H2).put 4 (.int .i64 gu)).put 6 (.int .i64 1024));clear H2 c4 f4 c6 f6;generalize ((w2.setCell ⟨S,4,none⟩ (.int .i64 gu)).setCell ⟨S,6,none⟩ (.int .i64 1024))=W9 at *;obtain ⟨W,rfl⟩:∃ W,W=W9:=⟨W9,rfl⟩
  have H:=H3;clear H3;refine (Draw.once_any a len cap bc 3 (by omega) (by omega) _ (uh H).st).mono ?_;rintro e w6 ⟨b,rfl,s9,p9⟩;have H6:=Z9 ((uh H).step s9 p9);clear s9 p9 H;have hr:inB rk (-5) 5=true:=Zp rk0 rk1;have x0:=Vu hr;have x1:=(TA rk).2;obtain ⟨x,hx⟩:∃ x,Zi rk=x:=⟨_,rfl⟩
  rw [hx] at x0 x1;have Hx:=Z9 hx;clear hx hr;have H:=H6;clear H6
  go_upto_if 26 with fail
  go_cut [] (fun wc=> ∃ lo:Int,Sbox a len cap bc w w.heap.size S (I11 st be rk (1+my) gu lo 1024 0 0 0 0) wc)
  case first=>
   cases b
   ·go_wp2_with fail
    go_meet;exact ⟨0,uh H⟩
   ·go_wp2_with fail
    refine (Draw.below_any a len cap bc 500 (by omega) (by omega) _ (uh H).st).mono ?_;rintro e w2 ⟨lo,rfl,lo0,lo1,s9,p9⟩;have X:=(uh H).step s9 p9;have H2:=Z9 X;have c5:=X.kb.cell (i:=5) (v:= .int .i64 0) rfl;have f5:=X.kb.free 5;clear s9 p9 X H;go_wp2_with fail;go_meet;exact ⟨lo,(uh H2).put 5 (.int .i64 lo)⟩
  case rest=>
  obtain ⟨lo,hX⟩:=hcut;replace H:=Z9 hX;clear hX;go_wp2_with fail;refine (Draw.below_any a len cap bc 100000 (by omega) (by omega) _ (uh H).st).mono ?_;rintro e w2 ⟨hd,rfl,hd0,hd1,s9,p9⟩;have X:=(uh H).step s9 p9;have H2:=Z9 X;have c7:=X.kb.cell (i:=7) (v:= .int .i64 0) rfl;have f7:=X.kb.free 7;have c2:=X.kb.cell (i:=2) (v:= .int .i64 rk) rfl;clear s9 p9 X H;go_wp2_with fail;have H3:Hid (Sbox a len cap bc w w.heap.size S (I11 st be rk (1+my) gu lo 1024 (hd-20000) 0 0 0) (w2.setCell ⟨S,7,none⟩ (.int .i64 (hd-20000)))):=Z9 ((uh H2).put 7 (.int .i64 (hd-20000)));clear H2 c7 f7 c2;generalize (w2.setCell ⟨S,7,none⟩ (.int .i64 (hd-20000)))=W9 at *;obtain ⟨W,rfl⟩:∃ W,W=W9:=⟨W9,rfl⟩
  have H:=H3;clear H3;refine ck (Yy (uh Hx) _) fun w9 h9=> ?_;subst w9;go_wp2_with fail;refine (Draw.below_any a len cap bc x (by omega) (by omega) _ (uh H).st).mono ?_;rintro e w2 ⟨ca,rfl,ca0,ca1,s9,p9⟩;have X:=(uh H).step s9 p9;have H2:=Z9 X;have c8:=X.kb.cell (i:=8) (v:= .int .i64 0) rfl;have f8:=X.kb.free 8;clear s9 p9 X H;go_wp2_with fail;have H3:Hid (Sbox a len cap bc w w.heap.size S (I11 st be rk (1+my) gu lo 1024 (hd-20000) ca 0 0) (w2.setCell ⟨S,8,none⟩ (.int .i64 ca))):=Z9 ((uh H2).put 8 (.int .i64 ca));clear H2 c8 f8;generalize (w2.setCell ⟨S,8,none⟩ (.int .i64 ca))=W9 at *;obtain ⟨W,rfl⟩:∃ W,W=W9:=⟨W9,rfl⟩
  have H:=H3;clear H3;refine (Draw.below_any a len cap bc 1025 (by omega) (by omega) _ (uh H).st).mono ?_;rintro e w2 ⟨ut,rfl,ut0,ut1,s9,p9⟩;have X:=(uh H).step s9 p9;have H2:=Z9 X;have c9:=X.kb.cell (i:=9) (v:= .int .i64 0) rfl;have f9:=X.kb.free 9;clear s9 p9 X H;go_wp2_with fail;have H3:Hid (Sbox a len cap bc w w.heap.size S (I11 st be rk (1+my) gu lo 1024 (hd-20000) ca ut 0) (w2.setCell ⟨S,9,none⟩ (.int .i64 ut))):=Z9 ((uh H2).put 9 (.int .i64 ut));clear H2 c9 f9;generalize (w2.setCell ⟨S,9,none⟩ (.int .i64 ut))=W9 at *;obtain ⟨W,rfl⟩:∃ W,W=W9:=⟨W9,rfl⟩
  have H:=H3;clear H3;refine (Draw.below_any a len cap bc 1000000 (by omega) (by omega) _ (uh H).st).mono ?_;rintro e w8 ⟨wk,rfl,wk0,wk1,s9,p9⟩;have X:=(uh H).step s9 p9;have H2:=Z9 X;obtain ⟨c0,c1,c2,c3,c4,c5,c6,c7,c8,c9,c10⟩:=X.kb.c11;have f10:=X.kb.free 10;have o0:=X.ko.cell (i:=0) (v:= .int .i64 0) rfl;have of0:=X.ko.free 0;have o1:=X.ko.cell (i:=1) (v:= .int .i64 0) rfl;have of1:=X.ko.free 1;have o2:=X.ko.cell (i:=2) (v:= .int .i64 0) rfl;have of2:=X.ko.free 2;have o3:=X.ko.cell (i:=3) (v:= .int .i64 0) rfl;have of3:=X.ko.free 3;have o4:=X.ko.cell (i:=4) (v:= .int .i64 0) rfl;have of4:=X.ko.free 4;have o5:=X.ko.cell (i:=5) (v:= .int .i64 0) rfl;have of5:=X.ko.free 5;have o6:=X.ko.cell (i:=6) (v:= .int .i64 0) rfl;have of6:=X.ko.free 6;have o7:=X.ko.cell (i:=7) (v:= .int .i64 0) rfl;have of7:=X.ko.free 7;have o8:=X.ko.cell (i:=8) (v:= .int .i64 0) rfl;have of8:=X.ko.free 8;have o9:=X.ko.cell (i:=9) (v:= .int .i64 0) rfl;have of9:=X.ko.free 9;have o10:=X.ko.cell (i:=10) (v:= .int .i64 0) rfl;have of10:=X.ko.free 10;have hne:¬ w.heap.size=S:=X.ne;have hne2:¬ S=w.heap.size:=fun h=>X.ne h.symm;have hS9:=X.hS;clear s9 p9 X H;go_wp2_with fail;refine ZS (v:= .agg (I11 st be rk (1+my) gu lo 1024 (hd-20000) ca ut wk)) (by simp [results,Tryz.results151,go_sem,o0,o1,o2,o3,o4,o5,o6,o7,o8,o9,o10]) rfl ⟨(st,be,rk,(1+my),gu,lo,1024,(hd-20000),ca,ut,wk),rfl,?_⟩;refine (uh H2).fin ?_
  iterate 12 (refine YO ?_ (by first | (simp;done) | (simp;omega)) _)
  exact ZZ _ _
end Go.Proofs.YtamgfpdahadnfaaGreatDoor
namespace Go.Proofs.YtamgfpdahadnfaaGreatDoor
open Go.ChangeShapes Go.WideShapes Go.ChangeAt Go.RowKit Go.Sort
open Draw (St Off Row Cur)
set_option linter.unusedVariables false
theorem zx (x:Z3) (i:Nat) (v:Int):∃ y:Z3,(ZU x).toArray.setIfInBounds i (.int .i64 v)=(ZU y).toArray:=by
 obtain ⟨x0,x1,x2,x3,x4,x5,x6,x7,x8,x9,x10⟩:=x
 match i with
 | 0=>exact ⟨(v,x1,x2,x3,x4,x5,x6,x7,x8,x9,x10),rfl⟩
 | 1=>exact ⟨(x0,v,x2,x3,x4,x5,x6,x7,x8,x9,x10),rfl⟩
 | 2=>exact ⟨(x0,x1,v,x3,x4,x5,x6,x7,x8,x9,x10),rfl⟩
 | 3=>exact ⟨(x0,x1,x2,v,x4,x5,x6,x7,x8,x9,x10),rfl⟩
 | 4=>exact ⟨(x0,x1,x2,x3,v,x5,x6,x7,x8,x9,x10),rfl⟩
 | 5=>exact ⟨(x0,x1,x2,x3,x4,v,x6,x7,x8,x9,x10),rfl⟩
 | 6=>exact ⟨(x0,x1,x2,x3,x4,x5,v,x7,x8,x9,x10),rfl⟩
 | 7=>exact ⟨(x0,x1,x2,x3,x4,x5,x6,v,x8,x9,x10),rfl⟩
 | 8=>exact ⟨(x0,x1,x2,x3,x4,x5,x6,x7,v,x9,x10),rfl⟩
 | 9=>exact ⟨(x0,x1,x2,x3,x4,x5,x6,x7,x8,v,x10),rfl⟩
 | 10=>exact ⟨(x0,x1,x2,x3,x4,x5,x6,x7,x8,x9,v),rfl⟩
 | n+11=>exact ⟨(x0,x1,x2,x3,x4,x5,x6,x7,x8,x9,x10),by rw [Array.setIfInBounds,dif_neg (by simp [ZU])]⟩
theorem Sbox.any {a:Option Addr} {len cap bc:Nat} {w0 w:World} {R S:Nat} {x:Z3} (h:Sbox a len cap bc w0 R S (ZU x).toArray w) (i:Nat) (v:Int):∃ y,Sbox a len cap bc w0 R S (ZU y).toArray (w.setCell ⟨S,i,none⟩ (.int .i64 v)):=by
 obtain ⟨y,hy⟩:=zx x i v;exact ⟨y,hy ▸ h.put i _⟩
theorem Lj (a:Option Addr) (len cap bc:Nat) (w:World) (hs:St a len cap bc w) :
  Calls Tryz.prog 89 #[.pointer (some ⟨bc,0,none⟩)] w fun e w'=> ∃ x:Z3,e= .returned (.agg (ZU x).toArray)/\St a len cap bc w'/\Off bc w w':=by
 have Hs:=Z9 hs;have hbc:=Wy hs;clear hs;go_enter Tryz.func89,Tryz.ntmps89;go_wp2_with fail;refine (EG a len cap bc _ ((uh Hs).alloc _)).mono ?_;rintro e w1 ⟨⟨x0,x1,x2,x3,x4,x5,x6,x7,x8,x9,x10⟩,rfl,s1,p1⟩;have ko1:=(Blk.new w 40 E11).same (p1.block w.heap.size (by simp) (by omega));have hz1:=ko1.lt;have H1:Hid (Sbox a len cap bc w w.heap.size w1.heap.size (I11 x0 x1 x2 x3 x4 x5 x6 x7 x8 x9 x10) (w1.alloc (.cells (I11 x0 x1 x2 x3 x4 x5 x6 x7 x8 x9 x10) 40))):=Z9 ⟨s1.alloc _,(((Off.refl _ _).alloc _).trans p1).alloc _,hbc,Z1 _,by omega,by omega,ko1.alloc _,Blk.new _ _ _⟩;clear s1 p1 Hs ko1;simp only [ZU];go_wp2_with fail;generalize w1.alloc (.cells (I11 x0 x1 x2 x3 x4 x5 x6 x7 x8 x9 x10) 40)=W at *;generalize w1.heap.size=S at *;refine (Draw.once_any a len cap bc 6 (by omega) (by omega) _ (uh H1).st).mono ?_;rintro e w2 ⟨b,rfl,s9,p9⟩;have H:Hid (∃ x,Sbox a len cap bc w w.heap.size S (ZU x).toArray w2):=Z9 ⟨(x0,x1,x2,x3,x4,x5,x6,x7,x8,x9,x10),(uh H1).step s9 p9⟩;clear s9 p9 H1
 go_upto_if 7 with fail
 go_cut [] (fun wc=> ∃ x,Sbox a len cap bc w w.heap.size S (ZU x).toArray wc)
 case first=>
  cases b
  ·go_wp2_with fail
   go_meet;exact uh H
  obtain ⟨x,hX⟩:=uh H;replace H:=Z9 hX;clear hX;go_wp2_with fail;refine (Draw.below_any a len cap bc 8 (by omega) (by omega) _ (uh H).st).mono ?_;rintro e w3 ⟨y,rfl,y0,y1,s9,p9⟩;replace H:=Z9 ((uh H).step s9 p9);clear s9 p9
  rcases (show y=0\/y=1\/y=2\/y=3\/y=4\/y=5\/y=6\/y=7 by omega) with rfl | rfl | rfl | rfl | rfl | rfl | rfl | rfl
  all_goals
   clear y0 y1;go_wp2_with fail
   first
   | (refine Calls.mono (Draw.from_any a len cap bc _ _ (by omega) (by omega) (by omega) _ (uh H).st) ?_;rintro e w4 ⟨v,rfl,v0,v1,s9,p9⟩;replace H:=Z9 ((uh H).step s9 p9))
   | (refine Calls.mono (Draw.drawForce_any a len cap bc _ (uh H).st) ?_;rintro e w4 ⟨v,rfl,s9,p9⟩;replace H:=Z9 ((uh H).step s9 p9))
   | (refine Calls.mono (Draw.below_any a len cap bc _ (by omega) (by omega) _ ((uh H).alloc _).st) ?_;rintro e w4 ⟨j,rfl,j0,j1,s9,p9⟩;obtain ⟨v,hcell⟩:=Kq p9 (Wy (uh H).st) j0 j1 rfl;replace H:=Z9 (((uh H).alloc _).step s9 p9))
   clear s9 p9;obtain ⟨x0,x1,x2,x3,x4,x5,x6,x7,x8,x9,x10⟩:=x;have X:=uh H;have c0:=X.kb.cell (i:=0) (v:= .int .i64 x0) rfl;have f0:=X.kb.free 0;have c1:=X.kb.cell (i:=1) (v:= .int .i64 x1) rfl;have f1:=X.kb.free 1;have c2:=X.kb.cell (i:=2) (v:= .int .i64 x2) rfl;have f2:=X.kb.free 2;have c3:=X.kb.cell (i:=3) (v:= .int .i64 x3) rfl;have f3:=X.kb.free 3;have c4:=X.kb.cell (i:=4) (v:= .int .i64 x4) rfl;have f4:=X.kb.free 4;have c5:=X.kb.cell (i:=5) (v:= .int .i64 x5) rfl;have f5:=X.kb.free 5;have c6:=X.kb.cell (i:=6) (v:= .int .i64 x6) rfl;have f6:=X.kb.free 6;have c7:=X.kb.cell (i:=7) (v:= .int .i64 x7) rfl;have f7:=X.kb.free 7;have c8:=X.kb.cell (i:=8) (v:= .int .i64 x8) rfl;have f8:=X.kb.free 8;have c9:=X.kb.cell (i:=9) (v:= .int .i64 x9) rfl;have f9:=X.kb.free 9;have c10:=X.kb.cell (i:=10) (v:= .int .i64 x10) rfl;have f10:=X.kb.free 10;clear X;go_wp2_with fail;go_meet;exact (uh H).any _ _
 case rest=>
 obtain ⟨⟨x0,x1,x2,x3,x4,x5,x6,x7,x8,x9,x10⟩,X⟩:=hcut;have H2:=Z9 X;have c0:=X.kb.cell (i:=0) (v:= .int .i64 x0) rfl;have o0:=X.ko.cell (i:=0) (v:= .int .i64 0) rfl;have of0:=X.ko.free 0;have c1:=X.kb.cell (i:=1) (v:= .int .i64 x1) rfl;have o1:=X.ko.cell (i:=1) (v:= .int .i64 0) rfl;have of1:=X.ko.free 1;have c2:=X.kb.cell (i:=2) (v:= .int .i64 x2) rfl;have o2:=X.ko.cell (i:=2) (v:= .int .i64 0) rfl;have of2:=X.ko.free 2;have c3:=X.kb.cell (i:=3) (v:= .int .i64 x3) rfl;have o3:=X.ko.cell (i:=3) (v:= .int .i64 0) rfl;have of3:=X.ko.free 3;have c4:=X.kb.cell (i:=4) (v:= .int .i64 x4) rfl;have o4:=X.ko.cell (i:=4) (v:= .int .i64 0) rfl;have of4:=X.ko.free 4;have c5:=X.kb.cell (i:=5) (v:= .int .i64 x5) rfl;have o5:=X.ko.cell (i:=5) (v:= .int .i64 0) rfl;have of5:=X.ko.free 5;have c6:=X.kb.cell (i:=6) (v:= .int .i64 x6) rfl;have o6:=X.ko.cell (i:=6) (v:= .int .i64 0) rfl;have of6:=X.ko.free 6;have c7:=X.kb.cell (i:=7) (v:= .int .i64 x7) rfl;have o7:=X.ko.cell (i:=7) (v:= .int .i64 0) rfl;have of7:=X.ko.free 7;have c8:=X.kb.cell (i:=8) (v:= .int .i64 x8) rfl;have o8:=X.ko.cell (i:=8) (v:= .int .i64 0) rfl;have of8:=X.ko.free 8;have c9:=X.kb.cell (i:=9) (v:= .int .i64 x9) rfl;have o9:=X.ko.cell (i:=9) (v:= .int .i64 0) rfl;have of9:=X.ko.free 9;have c10:=X.kb.cell (i:=10) (v:= .int .i64 x10) rfl;have o10:=X.ko.cell (i:=10) (v:= .int .i64 0) rfl;have of10:=X.ko.free 10;have hne:¬ w.heap.size=S:=X.ne;have hne2:¬ S=w.heap.size:=fun h=>X.ne h.symm;have hS9:=X.hS;clear X H;go_wp2_with fail;refine ZS (v:= .agg (I11 x0 x1 x2 x3 x4 x5 x6 x7 x8 x9 x10)) (by simp [results,Tryz.results89,go_sem,o0,o1,o2,o3,o4,o5,o6,o7,o8,o9,o10]) rfl ⟨(x0,x1,x2,x3,x4,x5,x6,x7,x8,x9,x10),rfl,?_⟩;refine (uh H2).fin ?_
 iterate 11 (refine YO ?_ (by first | (simp;done) | (simp;omega)) _)
 exact ZZ _ _
theorem Gbox.put {a:Option Addr} {len cap bc:Nat} {w0 w:World} {g n rcap:Nat} {ps:List Zr} (h:Gbox a len cap bc w0 w (.slice (some ⟨g,0,none⟩) n rcap) ps) (hn:n=ps.length) {j i:Nat} (hj:j<ps.length) (hi:i<3) (y:Int) :
  ∃ qs:List Zr,qs.length=ps.length/\Gbox a len cap bc w0 (w.setCell ⟨g,j*3+i,none⟩ (.int .i64 y)) (.slice (some ⟨g,0,none⟩) n rcap) qs:=by
 have key:∃ x:Zr,Wj x=(Wj (Z8 ps j)).set i (.int .i64 y):=by
  generalize Z8 ps j=p;obtain ⟨p0,p1,p2⟩:=p
  rcases (show i=0\/i=1\/i=2 by omega) with rfl | rfl | rfl
  ·exact ⟨(y,p1,p2),rfl⟩
  ·exact ⟨(p0,y,p2),rfl⟩
  ·exact ⟨(p0,p1,y),rfl⟩
 obtain ⟨x,hx⟩:=key;obtain ⟨h1,h2⟩:=RecAt.put1 Xy (by omega) h.row hn hj hi (.int .i64 y) x hx;exact ⟨ps.set j x,by simp,h.grown h2 h1⟩
theorem Li (a:Option Addr) (len cap bc:Nat) (w:World) (hs:St a len cap bc w) :
  Calls Tryz.prog 90 #[.pointer (some ⟨bc,0,none⟩)] w fun e w'=> ∃ v ps,e= .returned v/\ps.length<=4/\Gbox a len cap bc w w' v ps:=by
 have Hs:=Z9 hs;clear hs;go_enter Tryz.func90,Tryz.ntmps90;go_wp2_with fail;refine (EF a len cap bc _ (uh Hs)).mono ?_;rintro e w1 ⟨v,ps,rfl,hl,hG⟩;obtain ⟨ra,rcap,rfl⟩:=RecAt.shape hG.row;have HG:=Z9 hG;clear hG Hs;by_cases hz:0<ps.length
 ·go_wp2_with fail
  refine (Draw.once_any a len cap bc 6 (by omega) (by omega) _ (uh HG).st).mono ?_;rintro e w2 ⟨b,rfl,s2,o2⟩;have HG2:=Z9 ((uh HG).step s2 o2);clear s2 o2 HG;cases b
  ·go_wp2_with fail
   go_ret;exact ⟨_,ps,rfl,hl,uh HG2⟩
  ·go_wp2_with fail
   refine (Draw.below_any a len cap bc _ (by omega) (by omega) _ (uh HG2).st).mono ?_;rintro e w3 ⟨x,rfl,x0,x1,s3,o3⟩;have HG3:=Z9 ((uh HG2).step s3 o3);clear s3 o3 HG2;obtain ⟨j,rfl⟩:∃ j:Nat,x=j:=⟨x.toNat,by omega⟩
   have hj:j<ps.length:=by omega
   obtain ⟨g,rfl,_⟩:=RecAt.view Xy (by omega) (uh HG3).row rfl hz;go_wp2_with fail;refine (Draw.below_any a len cap bc 3 (by omega) (by omega) _ (uh HG3).st).mono ?_;rintro e w4 ⟨y,rfl,y0,y1,s4,o4⟩;have HG4:=Z9 ((uh HG3).step s4 o4);clear s4 o4 HG3
   rcases (show y=0\/y=1\/y=2 by omega) with rfl | rfl | rfl
   ·go_wp2_with fail
    refine (Draw.from_any a len cap bc (-2) ps.length (by omega) (by omega) (by omega) _ (uh HG4).st).mono ?_;rintro e w5 ⟨z,rfl,z0,z1,s5,o5⟩;have HG5:=Z9 ((uh HG4).step s5 o5);clear s5 o5 HG4;obtain ⟨g',hg',_,_,hcells,hfz⟩:=RecAt.view Xy (by omega) (uh HG5).row rfl hz;cases hg';have c0:=hcells j hj 0 _ rfl;have f0:=hfz (j*3);simp only [Nat.add_zero] at c0;obtain ⟨qs,hq,hG6⟩:=(uh HG5).put rfl hj (i:=0) (by omega) z;have HG6:=Z9 hG6;clear hcells hfz hG6;go_wp2_with fail;go_ret;exact ⟨_,qs,rfl,by omega,uh HG6⟩
   ·go_wp2_with fail
    refine (Draw.drawForce_any a len cap bc _ (uh HG4).st).mono ?_;rintro e w5 ⟨z,rfl,s5,o5⟩;have HG5:=Z9 ((uh HG4).step s5 o5);clear s5 o5 HG4;obtain ⟨g',hg',_,_,hcells,hfz⟩:=RecAt.view Xy (by omega) (uh HG5).row rfl hz;cases hg';have c0:=hcells j hj 1 _ rfl;have f0:=hfz (j*3+1);obtain ⟨qs,hq,hG6⟩:=(uh HG5).put rfl hj (i:=1) (by omega) z;have HG6:=Z9 hG6;clear hcells hfz hG6;go_wp2_with fail;go_ret;exact ⟨_,qs,rfl,by omega,uh HG6⟩
   ·go_wp2_with fail
    refine (Draw.drawForce_any a len cap bc _ (uh HG4).st).mono ?_;rintro e w5 ⟨z,rfl,s5,o5⟩;have HG5:=Z9 ((uh HG4).step s5 o5);clear s5 o5 HG4;obtain ⟨g',hg',_,_,hcells,hfz⟩:=RecAt.view Xy (by omega) (uh HG5).row rfl hz;cases hg';have c0:=hcells j hj 2 _ rfl;have f0:=hfz (j*3+2);obtain ⟨qs,hq,hG6⟩:=(uh HG5).put rfl hj (i:=2) (by omega) z;have HG6:=Z9 hG6;clear hcells hfz hG6;go_wp2_with fail;go_ret;exact ⟨_,qs,rfl,by omega,uh HG6⟩
 ·obtain rfl:ps=[]:=List.eq_nil_of_length_eq_zero (by omega)
  go_wp2_with fail;go_ret;exact ⟨_,[],rfl,by simp,uh HG⟩
end Go.Proofs.YtamgfpdahadnfaaGreatDoor
