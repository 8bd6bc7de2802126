import Derived.Test.YtafmbokfkbccaaaGreatDoorJN19
import Derived.BigQuiet
namespace Go.Proofs.YtafmbokfkbccaaaGreatDoor
open Go.RowKit Go.Sort Go.Maps
theorem uE {p:List aA} {m:fI} (hl:rD p m) (hs:Sol p (numOf m)):∀r∈p,numOf m r.head.name<p.length:=by
 have key:∀k,(∃r∈p,k≤numOf m r.head.name)→k≤(p.map fun r=>if numOf m r.head.name<k then 1 else 0).sum:=by
  intro k
  induction k with
  |zero=>intro _;exact Nat.zero_le _
  |succ k ih=>
   rintro⟨r,hr,hk⟩;have h1:=ih ⟨r,hr,by omega⟩;obtain⟨q,hq,hqk⟩:∃q∈p,numOf m q.head.name=k:=by
    refine Classical.byContradiction fun hn=> ?_;have:=NY hl hs k (fun q hq e=>hn ⟨q,hq,e⟩) r hr;omega
   have h2:(p.map fun r=>if numOf m r.head.name<k then 1 else 0).sum<(p.map fun r=>if numOf m r.head.name<k+1 then 1 else 0).sum:=by
    refine sum_lt (fun x _=> ?_) ⟨q,hq,?_⟩
    ·split
     ·rw[if_pos (by omega)];exact Nat.le_refl _
     ·exact Nat.zero_le _
    ·rw[if_neg (by omega),if_pos (by omega)];exact Nat.one_pos
   omega
 intro r hr;have h1:=key _ ⟨r,hr,Nat.le_refl _⟩;have h2:(p.map fun q=>if numOf m q.head.name<numOf m r.head.name then 1 else 0).sum<(p.map fun _=>1).sum:=by
  refine sum_lt (fun x _=> ?_) ⟨r,hr,?_⟩
  ·split <;> omega
  ·rw[if_neg (by omega)];exact Nat.one_pos
 have h3:(p.map fun _=>1).sum=p.length:=by
  clear h1 h2 key hr hl hs
  induction p with
  |nil=>rfl
  |cons a p ih=>simp only[List.map_cons,List.sum_cons,List.length_cons,ih];omega
 omega
theorem below_drewN {n:Nat} {a b:World} (h:Below n a b) (q:Nat):Below n a (b.drewN q):=⟨h.os,h.tape,h.output,h.size,h.block⟩
def Hf (p:List aA) (l:List au):Int×List au:=
 if(aG p).2.1≠0 then((aG p).2.1,[]) else if(fU p l).1≠0 then((fU p l).1,[]) else oV p (aG p).1 (countP (aG p).1) 0 l
end Go.Proofs.YtafmbokfkbccaaaGreatDoor
namespace Go.Proofs.YtafmbokfkbccaaaGreatDoor
open Go.RowKit Go.Sort Go.Maps
def oH (p:List aA) (l:List au):Int:=if(aG p).2.1≠0 then(aG p).2.1 else(fU p l).1
theorem gZ {p:List aA} {l:List au} (h:oH p l=0):cZ p∧GoodS p l∧∃τ:Bs→Nat,Sol p τ∧aG p=(p.map fun r=>τ r.head.name,0,(aG p).2.2)∧∀r∈p,τ r.head.name<16:=by
 unfold oH at h;split at h
 ·rename_i h1;exact absurd h h1
 ·rename_i h1;have h1:(aG p).2.1=0:=Classical.byContradiction h1;obtain⟨ss,ex,ea,hse⟩:∃ss ex ea,aG p=(ss,ex,ea):=⟨_,_,_,rfl⟩;rw[hse] at h1;have h1:ex=0:=h1;subst h1;obtain⟨hw0,m,hms,hdm,hlm,hsm⟩:=kG hse;have hp:=mV.1 hw0;refine⟨hp,qC h,numOf m,hsm,?_,fun r hr=> ?_⟩
  ·rw[hse,hms];rfl
  ·have:=uE hlm hsm r hr;have:=hp.few;omega
theorem Kind.pO {α:Type} {K:Kind α} {b:Nat} {w w':World} {v:Value} {l:List α} (h:K.sl (From b) w v l) (k:Below w.heap.size w w'):K.sl (From b) w' v l:=Kind.aM h k.size fun i hi _=>k.block i hi
def NK (b:Nat) (w:World) (v:Value) (p:List aA) (l:List au):Prop:=(∃a n c,v=.slice a n c)∧(oH p l=0→oG.sl (From b) w v (aG p).1)
set_option maxRecDepth 100000 in
set_option maxHeartbeats 4000000 in
theorem wZ (p:List aA) (l:List au) (pv fv:Value) (w:World) (hv:dU.sl bZ w pv p) (hf:Facts w fv l):
  Calls Tryz.prog 81 #[pv,fv] w fun e w'=>∃v',e=.returned (.tuple #[v',.int .i64 (oH p l)])∧NK w.heap.size w' v' p l∧Below w.heap.size w w':=by
 have HSt:=hide (Cv p pv w hv);obtain⟨pa,pc,rfl⟩:=Kind.slice hv;obtain⟨fa,fc,rfl⟩:=aB hf;have HV:=hide hv;have HF:=hide hf;clear hv hf;obtain⟨ss,ex,ea,hse⟩:∃ss ex ea,aG p=(ss,ex,ea):=⟨_,_,_,rfl⟩;rw[hse] at HSt;have HSE:=hide hse;clear hse
 go_enter Tryz.func81,Tryz.ntmps81
 go_wp2_with fail
 refine HSt.out.mono ?_;rintro e w1 ⟨u,rfl,hu,hB1⟩;dsimp only at hu⊢;have HU:Hid (oG.sl (From w.heap.size) w1 u ss):=hu;obtain⟨ua,uc,rfl⟩:=Kind.slice hu;have HB1:=hide hB1;clear hu hB1 HSt
 by_cases h0:ex=0
 ·subst h0;obtain⟨hw0,m,hms,hdm,hlm,hsm⟩:=kG HSE.out;have hp:=mV.1 hw0;obtain⟨w2,hw2⟩:∃w2,w2=w1.alloc (.cells #[.int .i64 0,.int .i64 (ea:Nat)] 75):=⟨_,rfl⟩;have hL2:Later w1 w2:=by rw[hw2];exact(Later.refl _).alloc _
  have hB2:Below w.heap.size w w2:=aj HB1.out hL2.below HB1.out.size;have HFC:=hide (uD p hp (.slice pa p.length pc) (.slice fa l.length fc) l w2 (Kind.aY HV.out hB2) (HF.out.below hB2));obtain⟨fx,fe,hfe⟩:∃fx fe,fU p l=(fx,fe):=⟨_,_,rfl⟩;rw[hfe] at HFC;have HFE:=hide hfe;have HB2:=hide hB2;have HU2:=hide (Kind.pO HU.out hL2.below);have HW2:=hide hw2;have HX:Hid (oH p l=fx):=by show _=_;unfold oH;rw[HSE.out,HFE.out];simp
  clear hw0 hms hdm hlm hsm hp hL2 hB2 hfe hw2 HB1 HU
  go_wp2_with fail
  rw[←HW2.out];refine HFC.out.mono ?_;rintro e w3 ⟨rfl,hB3⟩;dsimp only;have HB3:Hid (Below w.heap.size w w3):=aj HB2.out hB3 HB2.out.size;have HU3:=hide (Kind.pO HU2.out hB3);clear hB3 HFC HW2 HB2 HU2;have HB4:Hid (Below w.heap.size w (w3.alloc (.cells #[.int .i64 fx,.int .i64 fe] 75))):=aj HB3.out ((Later.refl _).alloc _).below HB3.out.size
  by_cases h1:fx=0
  ·subst h1;have HT:Hid (NK w.heap.size (w3.alloc (.cells #[.int .i64 0,.int .i64 fe] 75)) (.slice ua ss.length uc) p l):=⟨⟨_,_,_,rfl⟩,fun _=>by rw[HSE.out];exact Kind.pO HU3.out ((Later.refl _).alloc _).below⟩;clear HSE HFE HV HF HU3;go_wp2;exact bodyPost_ret (v:=.tuple #[.slice ua ss.length uc,.int .i64 0]) (by simp[results,Tryz.results81,go_sem]) rfl ⟨_,by rw[HX.out],HT.out,HB4.out⟩
  ·have HT:Hid (∀w',NK w.heap.size w' (.slice none 0 0) p l):=fun w'=>⟨⟨_,_,_,rfl⟩,fun h=>absurd (HX.out.symm.trans h) h1⟩;have hne:(fx != 0)=true:=by simpa using h1
   clear HSE HFE h1 HV HF HU3;go_wp2
   go_quiet (fail)
   go_wp2;exact bodyPost_ret (v:=.tuple #[.slice none 0 0,.int .i64 fx]) (by simp[results,Tryz.results81,go_sem]) rfl ⟨_,by rw[HX.out],HT.out _,below_drewN HB4.out _⟩
 ·have HX:Hid (oH p l=ex):=by show _=_;unfold oH;rw[HSE.out];simp[h0]
  have HT:Hid (∀w',NK w.heap.size w' (.slice none 0 0) p l):=fun w'=>⟨⟨_,_,_,rfl⟩,fun h=>absurd (HX.out.symm.trans h) h0⟩;have hne:(ex != 0)=true:=by simpa using h0
  have HB4:Hid (Below w.heap.size w (w1.alloc (.cells #[.int .i64 ex,.int .i64 (ea:Nat)] 75))):=aj HB1.out ((Later.refl _).alloc _).below HB1.out.size;clear HSE h0 HV HF HU;go_wp2
  go_quiet (fail)
  go_wp2;exact bodyPost_ret (v:=.tuple #[.slice none 0 0,.int .i64 ex]) (by simp[results,Tryz.results81,go_sem]) rfl ⟨_,by rw[HX.out],HT.out _,below_drewN HB4.out _⟩
end Go.Proofs.YtafmbokfkbccaaaGreatDoor
namespace Go.Proofs.YtafmbokfkbccaaaGreatDoor
open Go.RowKit Go.Sort Go.Maps
set_option maxHeartbeats 400000 in
theorem Cx (n m:Int) (w:World):Calls Tryz.prog 83 #[.int .i64 n,.int .i64 m] w fun e w'=>e=.returned (.bool (decide (0≤n)&&decide (n≤m)))∧w'=w:=by
 by_cases h:0≤n
 ·have e:(decide (0≤n)&&decide (n≤m))=decide (n≤m):=by simp[h]
  rw[e];clear e
  go_enter Tryz.func83,Tryz.ntmps83
  go_wp2;go_ret;exact⟨rfl,rfl⟩
 ·have e:(decide (0≤n)&&decide (n≤m))=false:=by simp[h]
  rw[e];clear e;have h':decide (0≤n)=false:=by simp[h]
  go_enter Tryz.func83,Tryz.ntmps83
  go_wp2;go_ret;exact⟨rfl,rfl⟩
set_option maxRecDepth 100000 in
set_option maxHeartbeats 4000000 in
theorem O6 (r:fG) (kv nv:Value) (w:World) (hk:Facts w kv r.known) (hn:Facts w nv r.fresh):
  Calls Tryz.prog 84 #[.agg #[kv,nv,.int .i64 r.level,.int .i64 r.rounds,.bool r.done]] w fun e w'=>∃v',e=.returned v'∧oh (w.heap.size+2) w' v' r∧Below w.heap.size w w':=by
 obtain⟨K,N,lev,rn,dn⟩:=r;dsimp only at*;obtain⟨ka,kc,rfl⟩:=aB hk;obtain⟨na,nc,rfl⟩:=aB hn;have hkl:=hk.1;have hnl:=hn.1;obtain⟨w2,hw2⟩:∃w2,w2=(w.alloc (.cells #[.slice ka K.length kc,.slice na N.length nc,.int .i64 lev,.int .i64 rn,.bool dn] 47)).alloc (.cells #[.slice none 0 0,.slice none 0 0,.int .i64 0,.int .i64 0,.bool false] 47):=⟨_,rfl⟩;have hL2:Later w w2:=by rw[hw2];exact((Later.refl w).alloc _).alloc _
 have hz2:w2.heap.size=w.heap.size+2:=by rw[hw2];simp
 have hrb:w2.heap[w.heap.size]?=some (.cells #[.slice ka K.length kc,.slice na N.length nc,.int .i64 lev,.int .i64 rn,.bool dn] 47 (0,0)):=by
  rw[hw2,Below.heap_alloc _ _ _ (by simp)];exact heap_alloc_new w _
 have hrs:w2.heap[w.heap.size+1]?=some (.cells #[.slice none 0 0,.slice none 0 0,.int .i64 0,.int .i64 0,.bool false] 47 (0,0)):=by
  have:=heap_alloc_new (w.alloc (.cells #[.slice ka K.length kc,.slice na N.length nc,.int .i64 lev,.int .i64 rn,.bool dn] 47)) (.cells #[.slice none 0 0,.slice none 0 0,.int .i64 0,.int .i64 0,.bool false] 47);rw[hw2];simpa using this
 have FP:Hid (∀w',Below w2.heap.size w2 w'→w'.heap[w.heap.size]?=some (.cells #[.slice ka K.length kc,.slice na N.length nc,.int .i64 lev,.int .i64 rn,.bool dn] 47 (0,0))):=fun w' h=>(h.block _ (by omega)).trans hrb;have HRs:Hid (∀w',Below w2.heap.size w2 w'→w'.heap[w.heap.size+1]?=some (.cells #[.slice none 0 0,.slice none 0 0,.int .i64 0,.int .i64 0,.bool false] 47 (0,0))):=fun w' h=>(h.block _ (by omega)).trans hrs;have HC:Hid (∀w',Below w2.heap.size w2 w'→w'.cell? ⟨w.heap.size,0,none⟩=some (.slice ka K.length kc)∧w'.cell? ⟨w.heap.size,1,none⟩=some (.slice na N.length nc)):=fun w' h=>⟨(dR (FP.out _ h)).1,(dR (FP.out _ h)).2.1⟩;have HO0:Hid (∀w',Below w2.heap.size w2 w'→Calls Tryz.prog 67 #[.slice ka K.length kc] w' fun e w''=>∃v',e=.returned v'∧bY w'' (w.heap.size+2) v' K∧Below w2.heap.size w2 w''):=fun w' h=>
  (ND (.slice ka K.length kc) K w' ((hk.later hL2).below h)).mono fun e w'' ⟨v',he,hO,hL⟩=>⟨v',he,hO.base (by have:=h.size;omega),aj h hL.below h.size⟩
 have HO1:Hid (∀w',Below w2.heap.size w2 w'→Calls Tryz.prog 67 #[.slice na N.length nc] w' fun e w''=>∃v',e=.returned v'∧bY w'' (w.heap.size+2) v' N∧Below w2.heap.size w2 w''∧∀b v l,bY w' b v l→bY w'' b v l):=fun w' h=>
  (ND (.slice na N.length nc) N w' ((hn.later hL2).below h)).mono fun e w'' ⟨v',he,hO,hL⟩=>⟨v',he,hO.base (by have:=h.size;omega),aj h hL.below h.size,fun b v l hh=>hh.later hL⟩
 have HL2:=hide hL2;have HW2:=hide hw2;clear hk hn hL2 hrb hrs hw2
 go_enter Tryz.func84,Tryz.ntmps84
 go_wp2;rw[←HW2.out];have hBe:Below w2.heap.size w2 w2.drew:=(Below.refl _ _).drew;clear HW2;refine wp_region_held_drew (S:=fun w'=>Tn w.heap.size w2 w') (by kernel_rfl) (Tn.of_below hBe) (fun hHeld=> ?_);refine ak (i:=0) (d:=some 3) (v:= ?_) rfl rfl hHeld ?_ ?_;rotate_left;focus intro w hSw;(try dsimp only at hSw);go_simp;try with_reducible rfl
 simp only[aK,aL,aze,asu];refine ak (i:=3) (d:=some 6) (v:= ?_) rfl rfl hHeld ?_ ?_;rotate_left;focus intro w hSw;(try dsimp only at hSw);go_simp;try with_reducible rfl
 simp only[aK,aL,aze,asu];refine wpAnyH_ready (rs:=[1,4]) (by kernel_rfl) (by simp) ?_;refine AllReadyH.cons rfl (fun K' hK=> ?_) (AllReadyH.cons rfl (fun K' hK=> ?_) AllReadyH.nil)
 ·have q0:=(HC.out _ hBe).1;go_simp;refine hK.out _ _ hHeld (fun hHeld=> ?_);clear hK K' q0;refine wpAnyH_ready (rs:=[2,4]) (by kernel_rfl) (by simp) ?_;refine AllReadyH.cons rfl (fun K' hK=> ?_) (AllReadyH.cons rfl (fun K' hK=> ?_) AllReadyH.nil)
  ·go_simp;refine(HO0.out _ hBe).mono ?_;rintro e wx ⟨v1,rfl,hO1,hB1⟩;obtain⟨a1,c1,rfl⟩:=hO1.slice;refine hK.out _ _ (Tn.of_below hB1) (fun hHeld=> ?_);clear hK K' hBe;have hBe:=hB1;refine wpAnyH_ready (rs:=[4]) (by kernel_rfl) (by simp) ?_;refine AllReadyH.cons rfl (fun K' hK=> ?_) AllReadyH.nil;have q0:=(HC.out _ hBe).2;go_simp;refine hK.out _ _ hHeld (fun hHeld=> ?_);clear hK K' q0;refine ak (i:=6) (d:=some 9) (v:= ?_) rfl rfl hHeld ?_ ?_;rotate_left;focus intro w hSw;(try dsimp only at hSw);go_simp;try with_reducible rfl
   simp only[aK,aL,aze,asu];refine wpAnyH_ready (rs:=[5]) (by kernel_rfl) (by simp) ?_;refine AllReadyH.cons rfl (fun K' hK=> ?_) AllReadyH.nil;go_simp;refine(HO1.out _ hBe).mono ?_;rintro e wy ⟨v2,rfl,hO2,hB2,hst⟩;obtain⟨a2,c2,rfl⟩:=hO2.slice;refine hK.out _ _ (Tn.of_below hB2) (fun hHeld=> ?_);clear hK K';have Ld:=hst _ _ _ hO1;clear hst hO1 hBe hB1;refine wpAnyH_ready (rs:=[7]) (by kernel_rfl) (by simp) ?_;refine AllReadyH.cons rfl (fun K' hK=> ?_) AllReadyH.nil;obtain⟨b0,b1,b2,b3,b4,⟨g0,g1,g2,g3,g4⟩,_⟩:=dR (FP.out _ hB2);obtain⟨q0,q1,q2,q3,q4,⟨f0,f1,f2,f3,f4⟩,_⟩:=dR (HRs.out _ hB2);go_simp;refine hK.out _ _ (Tn.setCell (p:=w.heap.size) (Tn.of_below hB2) (x:=⟨w.heap.size,0,none⟩) (Or.inl rfl) _) (fun hHeld=> ?_);clear hK K';refine ak (i:=8) (d:=some 10) (v:= ?_) rfl rfl hHeld ?_ ?_;rotate_left;focus intro w hSw;(try dsimp only at hSw);go_simp;try with_reducible rfl
   simp only[aK,aL,aze,asu];refine wpAnyH_ready (rs:=[9]) (by kernel_rfl) (by simp) ?_;refine AllReadyH.cons rfl (fun K' hK=> ?_) AllReadyH.nil;go_simp;refine hK.out _ _ (Tn.setCell (p:=w.heap.size) (Tn.setCell (p:=w.heap.size) (Tn.of_below hB2) (x:=⟨w.heap.size,0,none⟩) (Or.inl rfl) _) (x:=⟨w.heap.size,1,none⟩) (Or.inl rfl) _) (fun hHeld=> ?_);clear hK K' hHeld;refine wpAnyH_done (by kernel_rfl) ?_ _;have HR5:Hid (((wy.setCell ⟨w.heap.size,0,none⟩ (.slice a1 K.length c1)).setCell ⟨w.heap.size,1,none⟩ (.slice a2 N.length c2)).heap[w.heap.size+1]?=some (.cells #[.slice none 0 0,.slice none 0 0,.int .i64 0,.int .i64 0,.bool false] 47 (0,0))):=by
    show _=_;rw[heap_setCell_other _ _ _ (by show w.heap.size+1≠w.heap.size;omega),heap_setCell_other _ _ _ (by show w.heap.size+1≠w.heap.size;omega)];exact HRs.out _ hB2
   have HBy:Hid (Below w.heap.size w wy):=aj HL2.out.below hB2 (by omega);have HOk:=hide Ld;have HOn:=hide hO2;clear Ld hO2 hB2;go_wp2;obtain⟨r0,r1,r2,r3,r4⟩:=yR HR5.out (.slice a1 K.length c1) (.slice a2 N.length c2) (.int .i64 lev) (.int .i64 rn) (.bool dn);exact bodyPost_ret (v:=.agg #[.slice a1 K.length c1,.slice a2 N.length c2,.int .i64 lev,.int .i64 rn,.bool dn]) (by simp[results,Tryz.results84,go_sem,r0,r1,r2,r3,r4]) rfl
    ⟨_,rfl,⟨_,_,rfl,bY.gD ((HOk.out.put (by omega)).put (by omega)) (by omega),bY.gD ((HOn.out.put (by omega)).put (by omega)) (by omega)⟩,Below.gD (Below.put (Below.put HBy.out (Nat.le_refl _)) (Nat.le_refl _)) (Nat.le_succ _)⟩
  ·have q0:=(HC.out _ hBe).2;go_simp;refine hK.out _ _ hHeld (fun hHeld=> ?_);clear hK K' q0;refine wpAnyH_ready (rs:=[2]) (by kernel_rfl) (by simp) ?_;refine AllReadyH.cons rfl (fun K' hK=> ?_) AllReadyH.nil;go_simp;refine(HO0.out _ hBe).mono ?_;rintro e wx ⟨v1,rfl,hO1,hB1⟩;obtain⟨a1,c1,rfl⟩:=hO1.slice;refine hK.out _ _ (Tn.of_below hB1) (fun hHeld=> ?_);clear hK K' hBe;have hBe:=hB1;refine ak (i:=6) (d:=some 9) (v:= ?_) rfl rfl hHeld ?_ ?_;rotate_left;focus intro w hSw;(try dsimp only at hSw);go_simp;try with_reducible rfl
   simp only[aK,aL,aze,asu];refine wpAnyH_ready (rs:=[5]) (by kernel_rfl) (by simp) ?_;refine AllReadyH.cons rfl (fun K' hK=> ?_) AllReadyH.nil;go_simp;refine(HO1.out _ hBe).mono ?_;rintro e wy ⟨v2,rfl,hO2,hB2,hst⟩;obtain⟨a2,c2,rfl⟩:=hO2.slice;refine hK.out _ _ (Tn.of_below hB2) (fun hHeld=> ?_);clear hK K';have Ld:=hst _ _ _ hO1;clear hst hO1 hBe hB1;refine wpAnyH_ready (rs:=[7]) (by kernel_rfl) (by simp) ?_;refine AllReadyH.cons rfl (fun K' hK=> ?_) AllReadyH.nil;obtain⟨b0,b1,b2,b3,b4,⟨g0,g1,g2,g3,g4⟩,_⟩:=dR (FP.out _ hB2);obtain⟨q0,q1,q2,q3,q4,⟨f0,f1,f2,f3,f4⟩,_⟩:=dR (HRs.out _ hB2);go_simp;refine hK.out _ _ (Tn.setCell (p:=w.heap.size) (Tn.of_below hB2) (x:=⟨w.heap.size,0,none⟩) (Or.inl rfl) _) (fun hHeld=> ?_);clear hK K';refine ak (i:=8) (d:=some 10) (v:= ?_) rfl rfl hHeld ?_ ?_;rotate_left;focus intro w hSw;(try dsimp only at hSw);go_simp;try with_reducible rfl
   simp only[aK,aL,aze,asu];refine wpAnyH_ready (rs:=[9]) (by kernel_rfl) (by simp) ?_;refine AllReadyH.cons rfl (fun K' hK=> ?_) AllReadyH.nil;go_simp;refine hK.out _ _ (Tn.setCell (p:=w.heap.size) (Tn.setCell (p:=w.heap.size) (Tn.of_below hB2) (x:=⟨w.heap.size,0,none⟩) (Or.inl rfl) _) (x:=⟨w.heap.size,1,none⟩) (Or.inl rfl) _) (fun hHeld=> ?_);clear hK K' hHeld;refine wpAnyH_done (by kernel_rfl) ?_ _;have HR5:Hid (((wy.setCell ⟨w.heap.size,0,none⟩ (.slice a1 K.length c1)).setCell ⟨w.heap.size,1,none⟩ (.slice a2 N.length c2)).heap[w.heap.size+1]?=some (.cells #[.slice none 0 0,.slice none 0 0,.int .i64 0,.int .i64 0,.bool false] 47 (0,0))):=by
    show _=_;rw[heap_setCell_other _ _ _ (by show w.heap.size+1≠w.heap.size;omega),heap_setCell_other _ _ _ (by show w.heap.size+1≠w.heap.size;omega)];exact HRs.out _ hB2
   have HBy:Hid (Below w.heap.size w wy):=aj HL2.out.below hB2 (by omega);have HOk:=hide Ld;have HOn:=hide hO2;clear Ld hO2 hB2;go_wp2;obtain⟨r0,r1,r2,r3,r4⟩:=yR HR5.out (.slice a1 K.length c1) (.slice a2 N.length c2) (.int .i64 lev) (.int .i64 rn) (.bool dn);exact bodyPost_ret (v:=.agg #[.slice a1 K.length c1,.slice a2 N.length c2,.int .i64 lev,.int .i64 rn,.bool dn]) (by simp[results,Tryz.results84,go_sem,r0,r1,r2,r3,r4]) rfl
    ⟨_,rfl,⟨_,_,rfl,bY.gD ((HOk.out.put (by omega)).put (by omega)) (by omega),bY.gD ((HOn.out.put (by omega)).put (by omega)) (by omega)⟩,Below.gD (Below.put (Below.put HBy.out (Nat.le_refl _)) (Nat.le_refl _)) (Nat.le_succ _)⟩
 ·have q0:=(HC.out _ hBe).2;go_simp;refine hK.out _ _ hHeld (fun hHeld=> ?_);clear hK K' q0;refine wpAnyH_ready (rs:=[1]) (by kernel_rfl) (by simp) ?_;refine AllReadyH.cons rfl (fun K' hK=> ?_) AllReadyH.nil;have q0:=(HC.out _ hBe).1;go_simp;refine hK.out _ _ hHeld (fun hHeld=> ?_);clear hK K' q0;refine wpAnyH_ready (rs:=[2]) (by kernel_rfl) (by simp) ?_;refine AllReadyH.cons rfl (fun K' hK=> ?_) AllReadyH.nil;go_simp;refine(HO0.out _ hBe).mono ?_;rintro e wx ⟨v1,rfl,hO1,hB1⟩;obtain⟨a1,c1,rfl⟩:=hO1.slice;refine hK.out _ _ (Tn.of_below hB1) (fun hHeld=> ?_);clear hK K' hBe;have hBe:=hB1;refine ak (i:=6) (d:=some 9) (v:= ?_) rfl rfl hHeld ?_ ?_;rotate_left;focus intro w hSw;(try dsimp only at hSw);go_simp;try with_reducible rfl
  simp only[aK,aL,aze,asu];refine wpAnyH_ready (rs:=[5]) (by kernel_rfl) (by simp) ?_;refine AllReadyH.cons rfl (fun K' hK=> ?_) AllReadyH.nil;go_simp;refine(HO1.out _ hBe).mono ?_;rintro e wy ⟨v2,rfl,hO2,hB2,hst⟩;obtain⟨a2,c2,rfl⟩:=hO2.slice;refine hK.out _ _ (Tn.of_below hB2) (fun hHeld=> ?_);clear hK K';have Ld:=hst _ _ _ hO1;clear hst hO1 hBe hB1;refine wpAnyH_ready (rs:=[7]) (by kernel_rfl) (by simp) ?_;refine AllReadyH.cons rfl (fun K' hK=> ?_) AllReadyH.nil;obtain⟨b0,b1,b2,b3,b4,⟨g0,g1,g2,g3,g4⟩,_⟩:=dR (FP.out _ hB2);obtain⟨q0,q1,q2,q3,q4,⟨f0,f1,f2,f3,f4⟩,_⟩:=dR (HRs.out _ hB2);go_simp;refine hK.out _ _ (Tn.setCell (p:=w.heap.size) (Tn.of_below hB2) (x:=⟨w.heap.size,0,none⟩) (Or.inl rfl) _) (fun hHeld=> ?_);clear hK K';refine ak (i:=8) (d:=some 10) (v:= ?_) rfl rfl hHeld ?_ ?_;rotate_left;focus intro w hSw;(try dsimp only at hSw);go_simp;try with_reducible rfl
  simp only[aK,aL,aze,asu];refine wpAnyH_ready (rs:=[9]) (by kernel_rfl) (by simp) ?_;refine AllReadyH.cons rfl (fun K' hK=> ?_) AllReadyH.nil;go_simp;refine hK.out _ _ (Tn.setCell (p:=w.heap.size) (Tn.setCell (p:=w.heap.size) (Tn.of_below hB2) (x:=⟨w.heap.size,0,none⟩) (Or.inl rfl) _) (x:=⟨w.heap.size,1,none⟩) (Or.inl rfl) _) (fun hHeld=> ?_);clear hK K' hHeld;refine wpAnyH_done (by kernel_rfl) ?_ _;have HR5:Hid (((wy.setCell ⟨w.heap.size,0,none⟩ (.slice a1 K.length c1)).setCell ⟨w.heap.size,1,none⟩ (.slice a2 N.length c2)).heap[w.heap.size+1]?=some (.cells #[.slice none 0 0,.slice none 0 0,.int .i64 0,.int .i64 0,.bool false] 47 (0,0))):=by
   show _=_;rw[heap_setCell_other _ _ _ (by show w.heap.size+1≠w.heap.size;omega),heap_setCell_other _ _ _ (by show w.heap.size+1≠w.heap.size;omega)];exact HRs.out _ hB2
  have HBy:Hid (Below w.heap.size w wy):=aj HL2.out.below hB2 (by omega);have HOk:=hide Ld;have HOn:=hide hO2;clear Ld hO2 hB2;go_wp2;obtain⟨r0,r1,r2,r3,r4⟩:=yR HR5.out (.slice a1 K.length c1) (.slice a2 N.length c2) (.int .i64 lev) (.int .i64 rn) (.bool dn);exact bodyPost_ret (v:=.agg #[.slice a1 K.length c1,.slice a2 N.length c2,.int .i64 lev,.int .i64 rn,.bool dn]) (by simp[results,Tryz.results84,go_sem,r0,r1,r2,r3,r4]) rfl
   ⟨_,rfl,⟨_,_,rfl,bY.gD ((HOk.out.put (by omega)).put (by omega)) (by omega),bY.gD ((HOn.out.put (by omega)).put (by omega)) (by omega)⟩,Below.gD (Below.put (Below.put HBy.out (Nat.le_refl _)) (Nat.le_refl _)) (Nat.le_succ _)⟩
end Go.Proofs.YtafmbokfkbccaaaGreatDoor
namespace Go.Proofs.YtafmbokfkbccaaaGreatDoor
open Go.RowKit Go.Sort Go.Maps
def okN (c:Nat) (r:fG):Bool:=(decide (0≤r.rounds)&&decide (r.rounds≤1000))&&((decide (0≤r.level)&&decide (r.level≤c))&& !(r.done != (r.level==(c:Int))))
def aX (p:List aA) (r:fG):Int:=if oH p r.known≠0 then oH p r.known else if(bA r.fresh).1≠0 then(bA r.fresh).1 else
 if okN (countP (aG p).1) r=false then 3 else if(r.fresh.filter fun f=> !inB r.known f)≠[] then 8 else 0
theorem iM {p:List aA} {r:fG} (h:aX p r=0):oH p r.known=0∧jQ p (countP (aG p).1) r:=by
 unfold aX at h;split at h
 ·rename_i h1;exact absurd h h1
 ·rename_i h1;have h1:=Classical.byContradiction h1;split at h
  ·rename_i h2;exact absurd h h2
  ·rename_i h2;have h2:=Classical.byContradiction h2;split at h
   ·simp at h
   ·rename_i h3;split at h
    ·simp at h
    ·rename_i h4;obtain⟨hp,hg,_⟩:=gZ h1;have h3:okN (countP (aG p).1) r=true:=by simpa using h3
     unfold okN at h3;simp only[Bool.and_eq_true,decide_eq_true_eq,Bool.not_eq_true',bne_eq_false_iff_eq] at h3;obtain⟨⟨a1,a2⟩,⟨a3,a4⟩,a5⟩:=h3;have h4:=Classical.byContradiction h4;refine⟨h1,hg,(set_right h2).2.1,fun f hf=>Classical.byContradiction fun hn=> ?_,⟨a3,a4⟩,⟨a1,a2⟩,a5⟩;have hm:f∈r.fresh.filter fun f=> !inB r.known f:=List.mem_filter.2 ⟨hf,by
      cases e:inB r.known f
      ·rfl
      ·exact absurd (aZ.1 e) hn⟩
     rw[h4] at hm;cases hm
theorem nO {p:List aA} {r:fG} (h:oH p r.known=0) (hr:jQ p (countP (aG p).1) r):aX p r=0:=by
 unfold aX;rw[if_neg (by rw[h];simp),if_neg (by rw[iZ hr.up (fun f hf=>hr.good.right f (hr.sub f hf)) (Nat.le_trans (sO hr.up hr.sub) hr.good.few)];simp)];have h3:okN (countP (aG p).1) r=true:=by
  unfold okN;simp only[Bool.and_eq_true,decide_eq_true_eq,Bool.not_eq_true',bne_eq_false_iff_eq];exact⟨⟨hr.rnd.1,hr.rnd.2⟩,⟨hr.lev.1,hr.lev.2⟩,hr.done⟩
 rw[if_neg (by simp[h3]),if_neg];intro hn;refine hn (List.eq_nil_iff_forall_not_mem.2 fun f hf=> ?_);obtain⟨h1,h2⟩:=List.mem_filter.1 hf;rw[aZ.2 (hr.sub f h1)] at h2;cases h2
def OfT (b:Nat) (w:World) (v:Value) (p:List aA) (r:fG):Prop:=(∃a n c,v=.slice a n c)∧(aX p r=0→oG.sl (From b) w v (aG p).1)
set_option maxRecDepth 100000 in
set_option maxHeartbeats 4000000 in
theorem AJ (p:List aA) (r:fG) (pv kv nv:Value) (w:World) (hv:dU.sl bZ w pv p) (hk:Facts w kv r.known) (hn:Facts w nv r.fresh):
  Calls Tryz.prog 82 #[pv,.agg #[kv,nv,.int .i64 r.level,.int .i64 r.rounds,.bool r.done]] w fun e w'=>∃v',e=.returned (.tuple #[v',.int .i64 (aX p r)])∧OfT w.heap.size w' v' p r∧Below w.heap.size w w':=by
 obtain⟨K,N,lev,rn,dn⟩:=r;dsimp only at*;obtain⟨pa,pc,rfl⟩:=Kind.slice hv;obtain⟨ka,kc,rfl⟩:=aB hk;obtain⟨na,nc,rfl⟩:=aB hn;obtain⟨wb,hwb⟩:∃wb,wb=w.alloc (.cells #[.slice ka K.length kc,.slice na N.length nc,.int .i64 lev,.int .i64 rn,.bool dn] 47):=⟨_,rfl⟩;have hLb:Later w wb:=by rw[hwb];exact(Later.refl w).alloc _
 have hzb:wb.heap.size=w.heap.size+1:=by rw[hwb];simp
 have hrb:wb.heap[w.heap.size]?=some (.cells #[.slice ka K.length kc,.slice na N.length nc,.int .i64 lev,.int .i64 rn,.bool dn] 47 (0,0)):=by rw[hwb];exact heap_alloc_new w _
 have FP:Hid (∀w',Below wb.heap.size wb w'→w'.heap[w.heap.size]?=some (.cells #[.slice ka K.length kc,.slice na N.length nc,.int .i64 lev,.int .i64 rn,.bool dn] 47 (0,0))):=fun w' h=>(h.block _ (by omega)).trans hrb;have HFo:=hide (wZ p K (.slice pa p.length pc) (.slice ka K.length kc) wb (Kind.aQ hv hLb) (hk.later hLb));have HK:=hide (hk.later hLb);have HN:=hide (hn.later hLb);have HLb:=hide hLb;have HWb:=hide hwb;have HX:Hid (aX p ⟨K,N,lev,rn,dn⟩=if oH p K≠0 then oH p K else if(bA N).1≠0 then(bA N).1 else if okN (countP (aG p).1) ⟨K,N,lev,rn,dn⟩=false then 3 else if(N.filter fun f=> !inB K f)≠[] then 8 else 0):=(rfl:_=_);have HGo:Hid (oH p K=0→GoodS p K∧∀s∈(aG p).1,s<1000):=fun h=>by
  obtain⟨_,hg,τ,_,hs,ht⟩:=gZ h;refine⟨hg,fun s hs'=> ?_⟩;rw[hs] at hs';obtain⟨q,hq,rfl⟩:=List.mem_map.1 hs';have:=ht q hq;omega
 unfold OfT;unfold NK at HFo;generalize aX p ⟨K,N,lev,rn,dn⟩=R at*;generalize oH p K=fo at*;generalize(aG p).1=ss at*;clear hv hk hn hLb hrb hwb
 go_enter Tryz.func82,Tryz.ntmps82
 go_wp2_with fail
 rw[←HWb.out];refine HFo.out.mono ?_;rintro e w1 ⟨v1,rfl,⟨⟨a1,n1,c1,rfl⟩,hs1⟩,hB1⟩;have HB1:Hid (Below wb.heap.size wb w1):=hB1;have HS1:=hide hs1;clear hB1 hs1 HFo HWb
 by_cases h0:fo=0
 ·subst h0;obtain⟨hg,hsm⟩:=HGo.out rfl;have HU:=hide hg.up;have hKf:=hg.few;have HSm:=hide hsm;have HV1:=hide (HS1.out rfl);have hn1:n1=ss.length:=by obtain⟨_,_,e⟩:=Kind.slice HV1.out;simp only[Value.slice.injEq] at e;exact e.2.1
  subst hn1;have MG:=hide (Ql (.slice na N.length nc) N w1 (HN.out.below HB1.out));obtain⟨sx,sy,hse⟩:∃sx sy,bA N=(sx,sy):=⟨_,_,rfl⟩;rw[hse] at MG;have HX1:Hid (R=if sx≠0 then sx else if okN (countP ss) ⟨K,N,lev,rn,dn⟩=false then 3 else if(N.filter fun f=> !inB K f)≠[] then 8 else 0):=by show _=_;rw[HX.out,hse];simp
  obtain⟨b0,b1,b2,b3,b4,_,_⟩:=dR (FP.out _ HB1.out);clear hse HX hg hsm HGo HS1
  go_wp2_with fail
  refine MG.out.mono ?_;rintro e w2 ⟨rfl,hL2⟩;dsimp only;have HB2:Hid (Below wb.heap.size wb w2):=aj HB1.out hL2.below HB1.out.size;have HV2:=hide (Kind.pO HV1.out hL2.below);clear hL2 MG b0 b1 b2 b3 b4 HB1 HV1;obtain⟨w3,hw3⟩:∃w3,w3=w2.alloc (.cells #[.int .i64 sx,.int .i64 sy] 75):=⟨_,rfl⟩;have hL3:Later w2 w3:=by rw[hw3];exact(Later.refl _).alloc _
  have HB3:Hid (Below wb.heap.size wb w3):=aj HB2.out hL3.below HB2.out.size;have HV3:=hide (Kind.pO HV2.out hL3.below);have HW3:=hide hw3
  by_cases h1:sx=0
  ·subst h1;have HX2:Hid (R=if okN (countP ss) ⟨K,N,lev,rn,dn⟩=false then 3 else if(N.filter fun f=> !inB K f)≠[] then 8 else 0):=by show _=_;rw[HX1.out];simp
   have HCn:=hide (Dw ss (.slice a1 ss.length c1) w3 (Kind.dz HV3.out) HSm.out);clear hw3 hL3 HX1 HB2 HV2
   go_wp2_with fail
   rw[←HW3.out];refine HCn.out.mono ?_;rintro e w4 ⟨rfl,hL4⟩;have HB4:Hid (Below wb.heap.size wb w4):=aj HB3.out hL4.below HB3.out.size;have HV4:=hide (Kind.pO HV3.out hL4.below);have hcs:countP ss≤1000:=countP_le HSm.out;clear hL4 HCn HW3 HB3 HV3;obtain⟨b0,b1,b2,b3,b4,_,_⟩:=dR (FP.out _ HB4.out);have HW1:=hide (Cx rn 1000 w4);have HW2:=hide (Cx lev (countP ss:Nat) w4);unfold okN at HX2;dsimp only at HX2;generalize(decide (0≤rn)&&decide (rn≤1000))=A at*;generalize(decide (0≤lev)&&decide (lev≤((countP ss:Nat):Int)))=B at*;generalize hC:(dn != (lev==((countP ss:Nat):Int)))=C at*;have hC2:(!(dn==(lev==((countP ss:Nat):Int))))=C:=hC;clear hC;have HBw:Hid (Below w.heap.size w w4):=aj HLb.out.below HB4.out (by omega);cases A with
   |false=>
    have HX3:Hid (R=3):=by show _=_;rw[HX2.out];rfl
    go_wp2_with fail
    refine HW1.out.mono ?_;rintro e w5 ⟨rfl,h5⟩;obtain rfl:w4=w5:=h5.symm;clear h5;go_wp2;exact bodyPost_ret (v:=.tuple #[.slice none 0 0,.int .i64 3]) (by simp[results,Tryz.results82,go_sem]) rfl ⟨_,by rw[HX3.out],⟨⟨_,_,_,rfl⟩,fun h=>by rw[HX3.out] at h;simp at h⟩,HBw.out⟩
   |true=>
    cases B with
    |false=>
     have HX3:Hid (R=3):=by show _=_;rw[HX2.out];rfl
     go_wp2_with fail
     refine HW1.out.mono ?_;rintro e w5 ⟨rfl,h5⟩;obtain rfl:w4=w5:=h5.symm;clear h5
     go_wp2_with fail
     refine HW2.out.mono ?_;rintro e w6 ⟨rfl,h6⟩;obtain rfl:w4=w6:=h6.symm;clear h6;go_wp2;exact bodyPost_ret (v:=.tuple #[.slice none 0 0,.int .i64 3]) (by simp[results,Tryz.results82,go_sem]) rfl ⟨_,by rw[HX3.out],⟨⟨_,_,_,rfl⟩,fun h=>by rw[HX3.out] at h;simp at h⟩,HBw.out⟩
    |true=>
     cases C with
     |true=>
      have HX3:Hid (R=3):=by show _=_;rw[HX2.out];rfl
      go_wp2_with fail
      refine HW1.out.mono ?_;rintro e w5 ⟨rfl,h5⟩;obtain rfl:w4=w5:=h5.symm;clear h5
      go_wp2_with fail
      refine HW2.out.mono ?_;rintro e w6 ⟨rfl,h6⟩;obtain rfl:w4=w6:=h6.symm;clear h6;go_wp2;exact bodyPost_ret (v:=.tuple #[.slice none 0 0,.int .i64 3]) (by simp[results,Tryz.results82,go_sem]) rfl ⟨_,by rw[HX3.out],⟨⟨_,_,_,rfl⟩,fun h=>by rw[HX3.out] at h;simp at h⟩,HBw.out⟩
     |false=>
      have HX4:Hid (R=if(N.filter fun f=> !inB K f)≠[] then 8 else 0):=by show _=_;rw[HX2.out];rfl
      have HLs:=hide (JD (.slice na N.length nc) (.slice ka K.length kc) N K w4 (HN.out.below HB4.out) (HK.out.below HB4.out) HU.out);rw[Au] at HLs;have hFl:=List.length_filter_le (fun f=> !inB K f) N;have hNl:=HN.out.1;generalize(N.filter fun f=> !inB K f)=F at*;clear HX2
      go_wp2_with fail
      refine HW1.out.mono ?_;rintro e w5 ⟨rfl,h5⟩;obtain rfl:w4=w5:=h5.symm;clear h5
      go_wp2_with fail
      refine HW2.out.mono ?_;rintro e w6 ⟨rfl,h6⟩;obtain rfl:w4=w6:=h6.symm;clear h6
      go_wp2_with fail
      refine HLs.out.mono ?_;rintro e w7 ⟨v7,rfl,hO7,hL7⟩;obtain⟨a7,c7,rfl⟩:=hO7.slice;have HB7:Hid (Below w.heap.size w w7):=aj HBw.out hL7.below HBw.out.size;have HV7:=hide (Kind.pO HV4.out hL7.below);clear hO7 hL7 HLs HW1 HW2;cases F with
      |nil=>
       have HX3:Hid (R=0):=by show _=_;rw[HX4.out];rfl
       go_wp2;exact bodyPost_ret (v:=.tuple #[.slice a1 ss.length c1,.int .i64 0]) (by simp[results,Tryz.results82,go_sem]) rfl ⟨_,by rw[HX3.out],⟨⟨_,_,_,rfl⟩,fun _=>Kind.aH HV7.out fun k _ h=>Nat.le_trans (by omega) h⟩,HB7.out⟩
      |cons f F=>
       have HX3:Hid (R=8):=by show _=_;rw[HX4.out];rfl
       have hpos:(0:Int)<(((f::F).length:Nat):Int):=by simp
       go_wp2;exact bodyPost_ret (v:=.tuple #[.slice none 0 0,.int .i64 8]) (by simp[results,Tryz.results82,go_sem]) rfl ⟨_,by rw[HX3.out],⟨⟨_,_,_,rfl⟩,fun h=>by rw[HX3.out] at h;simp at h⟩,HB7.out⟩
  ·have HX3:Hid (R=sx):=by show _=_;rw[HX1.out,if_pos h1]
   have hne:(sx != 0)=true:=by simpa using h1
   have HH:Hid (R≠0):=by show _≠_;rw[HX3.out];exact h1
   have TU:Hid (Below w.heap.size w w3):=aj HLb.out.below HB3.out (by omega);rw[hw3] at TU;clear hw3 hL3 HX1 HB2 HV2 HW3 HB3 HV3 h1;go_wp2
   go_quiet (fail)
   go_wp2;exact bodyPost_ret (v:=.tuple #[.slice none 0 0,.int .i64 sx]) (by simp[results,Tryz.results82,go_sem]) rfl ⟨_,by rw[HX3.out],⟨⟨_,_,_,rfl⟩,fun h=>absurd h HH.out⟩,Ar TU.out _⟩
 ·have HX3:Hid (R=fo):=by show _=_;rw[HX.out,if_pos h0]
  have hne:(fo != 0)=true:=by simpa using h0
  have HH:Hid (R≠0):=by show _≠_;rw[HX3.out];exact h0
  have VN:Hid (Below w.heap.size w w1):=aj HLb.out.below HB1.out (by omega);clear HX HGo HS1 HB1 h0;go_wp2;exact bodyPost_ret (v:=.tuple #[.slice none 0 0,.int .i64 fo]) (by simp[results,Tryz.results82,go_sem]) rfl ⟨_,by rw[HX3.out],⟨⟨_,_,_,rfl⟩,fun h=>absurd h HH.out⟩,VN.out⟩
set_option maxRecDepth 100000 in
set_option maxHeartbeats 1000000 in
theorem AL (p:List aA) (r:fG) (pv kv nv:Value) (w:World) (hv:dU.sl bZ w pv p) (hk:Facts w kv r.known) (hn:Facts w nv r.fresh):
  Calls Tryz.prog 71 #[pv,.agg #[kv,nv,.int .i64 r.level,.int .i64 r.rounds,.bool r.done]] w fun e w'=>e=.returned (.int .i64 (aX p r))∧Below w.heap.size w w':=by
 obtain⟨pa,pc,rfl⟩:=Kind.slice hv;obtain⟨ka,kc,rfl⟩:=aB hk;obtain⟨na,nc,rfl⟩:=aB hn;obtain⟨wb,hwb⟩:∃wb,wb=w.alloc (.cells #[.slice ka r.known.length kc,.slice na r.fresh.length nc,.int .i64 r.level,.int .i64 r.rounds,.bool r.done] 47):=⟨_,rfl⟩;have hLb:Later w wb:=by rw[hwb];exact(Later.refl w).alloc _
 have HOf:=hide (AJ p r (.slice pa p.length pc) _ _ wb (Kind.aQ hv hLb) (hk.later hLb) (hn.later hLb));have HLb:=hide hLb;have HWb:=hide hwb;generalize aX p r=R at*;clear hv hk hn hLb hwb
 go_enter Tryz.func71,Tryz.ntmps71
 go_wp2_with fail
 rw[←HWb.out];refine HOf.out.mono ?_;rintro e w1 ⟨v1,rfl,⟨⟨a1,n1,c1,rfl⟩,_⟩,hB1⟩;have HB1:Hid (Below w.heap.size w w1):=aj HLb.out.below hB1 HLb.out.size;clear hB1 HOf HWb;go_wp2;go_ret;exact⟨rfl,HB1.out⟩
end Go.Proofs.YtafmbokfkbccaaaGreatDoor
