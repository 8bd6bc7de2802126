import Derived.Test.YthngiikhgplldaaGreatDoorJR19
open Go.RowKit Go.Sort Go.Maps
set_option maxHeartbeats 4000000
set_option maxRecDepth 100000
namespace Go.Proofs.YthngiikhgplldaaGreatDoor
theorem xV (n m:Int) (w:World):Calls Tryz.prog 27 #[.int .i64 n,.int .i64 m] w fun e w'=>e=.returned (.bool (decide (0≤n)&&decide (n≤m)))∧w'=w:=by
 by_cases h:0≤n
 ·have e:(decide (0≤n)&&decide (n≤m))=decide (n≤m):=by simp[h]
  rw[e];clear e
  go_enter Tryz.func27,Tryz.ntmps27
  go_wp2;go_ret;exact⟨rfl,rfl⟩
 have e:(decide (0≤n)&&decide (n≤m))=false:=by simp[h]
 rw[e];clear e;have h':decide (0≤n)=false:=by simp[h]
 go_enter Tryz.func27,Tryz.ntmps27
 go_wp2;go_ret;exact⟨rfl,rfl⟩
theorem IG (r:gM) (kv nv:Value) (w:World) (hk:Facts w kv r.known) (hn:Facts w nv r.fresh):
  Calls Tryz.prog 28 #[.agg #[kv,nv,.int .i64 r.level,.int .i64 r.rounds,.bool r.done]] w fun e w'=>∃v',e=.returned v'∧ou (w.heap.size+2) w' v' r∧Below w.heap.size w w':=by
 obtain⟨K,N,lev,rn,dn⟩:=r;dsimp only at*;obtain⟨ka,kc,rfl⟩:=aC hk;obtain⟨na,nc,rfl⟩:=aC hn;have hkl:=hk.1;have hnl:=hn.1;obtain⟨w2,hw2⟩:∃w2,w2=(w.alloc (.cells #[.slice ka K.length kc,.slice na N.length nc,.int .i64 lev,.int .i64 rn,.bool dn] 26)).alloc (.cells #[.slice none 0 0,.slice none 0 0,.int .i64 0,.int .i64 0,.bool false] 26):=⟨_,rfl⟩;have hL2:aj w w2:=by rw[hw2];exact((aj.refl w).alloc _).alloc _
 have hz2:w2.heap.size=w.heap.size+2:=by rw[hw2];simp
 have hrb:w2.heap[w.heap.size]?=some (.cells #[.slice ka K.length kc,.slice na N.length nc,.int .i64 lev,.int .i64 rn,.bool dn] 26 (0,0)):=by rw[hw2,Below.heap_alloc _ _ _ (by simp)];exact heap_alloc_new w _
 have hrs:w2.heap[w.heap.size+1]?=some (.cells #[.slice none 0 0,.slice none 0 0,.int .i64 0,.int .i64 0,.bool false] 26 (0,0)):=by have:=heap_alloc_new (w.alloc (.cells #[.slice ka K.length kc,.slice na N.length nc,.int .i64 lev,.int .i64 rn,.bool dn] 26)) (.cells #[.slice none 0 0,.slice none 0 0,.int .i64 0,.int .i64 0,.bool false] 26);rw[hw2];simpa using this
 have mO:Hid (∀w',Below w2.heap.size w2 w'→w'.heap[w.heap.size]?=some (.cells #[.slice ka K.length kc,.slice na N.length nc,.int .i64 lev,.int .i64 rn,.bool dn] 26 (0,0))):=fun w' h=>(h.block _ (by omega)).trans hrb;have HRs:Hid (∀w',Below w2.heap.size w2 w'→w'.heap[w.heap.size+1]?=some (.cells #[.slice none 0 0,.slice none 0 0,.int .i64 0,.int .i64 0,.bool false] 26 (0,0))):=fun w' h=>(h.block _ (by omega)).trans hrs;have HC:Hid (∀w',Below w2.heap.size w2 w'→w'.cell? ⟨w.heap.size,0,none⟩=some (.slice ka K.length kc)∧w'.cell? ⟨w.heap.size,1,none⟩=some (.slice na N.length nc)):=fun w' h=>⟨(dQ (mO.out _ h)).1,(dQ (mO.out _ h)).2.1⟩;have HO0:Hid (∀w',Below w2.heap.size w2 w'→Calls Tryz.prog 14 #[.slice ka K.length kc] w' fun e w''=>∃v',e=.returned v'∧dR w'' (w.heap.size+2) v' K∧Below w2.heap.size w2 w''):=fun w' h=>
  (GL (.slice ka K.length kc) K w' ((hk.later hL2).below h)).mono fun e w'' ⟨v',he,hO,hL⟩=>⟨v',he,hO.base (by have:=h.size;omega),ak h hL.below h.size⟩
 have HO1:Hid (∀w',Below w2.heap.size w2 w'→Calls Tryz.prog 14 #[.slice na N.length nc] w' fun e w''=>∃v',e=.returned v'∧dR w'' (w.heap.size+2) v' N∧Below w2.heap.size w2 w''∧∀b v l,dR w' b v l→dR w'' b v l):=fun w' h=>
  (GL (.slice na N.length nc) N w' ((hn.later hL2).below h)).mono fun e w'' ⟨v',he,hO,hL⟩=>⟨v',he,hO.base (by have:=h.size;omega),ak h hL.below h.size,fun b v l hh=>hh.later hL⟩
 have HL2:=au hL2;have HW2:=au hw2;clear hk hn hL2 hrb hrs hw2
 go_enter Tryz.func28,Tryz.ntmps28
 go_wp2;rw[←HW2.out];have hBe:Below w2.heap.size w2 w2.drew:=(Below.refl _ _).drew;clear HW2;refine wp_region_held_drew (S:=fun w'=>Tn w.heap.size w2 w') (by kernel_rfl) (Tn.of_below hBe) (fun hHeld=>?_);refine tkY 0 3 hHeld ?_;refine tkY 3 6 hHeld ?_;refine wpAnyH_ready (rs:=[1,4]) (by kernel_rfl) (by simp) ?_;refine AllReadyH.cons rfl (fun K' hK=>?_) (AllReadyH.cons rfl (fun K' hK=>?_) AllReadyH.nil)
 ·have q0:=(HC.out _ hBe).1;go_simp;refine hK.out _ _ hHeld (fun hHeld=>?_);clear hK K' q0;refine wpAnyH_ready (rs:=[2,4]) (by kernel_rfl) (by simp) ?_;refine AllReadyH.cons rfl (fun K' hK=>?_) (AllReadyH.cons rfl (fun K' hK=>?_) AllReadyH.nil)
  ·go_simp;refine(HO0.out _ hBe).mono ?_;rintro e wx ⟨v1,rfl,hO1,hB1⟩;obtain⟨a1,c1,rfl⟩:=hO1.slice;refine hK.out _ _ (Tn.of_below hB1) (fun hHeld=>?_);clear hK K' hBe;have hBe:=hB1;refine tkC 4 fun K' hK=>?_;have q0:=(HC.out _ hBe).2;go_simp;refine hK.out _ _ hHeld (fun hHeld=>?_);clear hK K' q0;refine tkY 6 9 hHeld ?_;refine tkC 5 fun K' hK=>?_;go_simp;refine(HO1.out _ hBe).mono ?_;rintro e wy ⟨v2,rfl,hO2,hB2,hst⟩;obtain⟨a2,c2,rfl⟩:=hO2.slice;refine hK.out _ _ (Tn.of_below hB2) (fun hHeld=>?_);clear hK K';have EP:=hst _ _ _ hO1;clear hst hO1 hBe hB1;refine tkC 7 fun K' hK=>?_;obtain⟨b0,b1,b2,b3,b4,⟨g0,g1,g2,g3,g4⟩,_⟩:=dQ (mO.out _ hB2);obtain⟨q0,q1,q2,q3,q4,⟨f0,f1,f2,f3,f4⟩,_⟩:=dQ (HRs.out _ hB2);go_simp;refine hK.out _ _ (Tn.setCell (p:=w.heap.size) (Tn.of_below hB2) (x:=⟨w.heap.size,0,none⟩) (Or.inl rfl) _) (fun hHeld=>?_);clear hK K';refine tkY 8 10 hHeld ?_;refine tkC 9 fun K' hK=>?_;go_simp;refine hK.out _ _ (Tn.setCell (p:=w.heap.size) (Tn.setCell (p:=w.heap.size) (Tn.of_below hB2) (x:=⟨w.heap.size,0,none⟩) (Or.inl rfl) _) (x:=⟨w.heap.size,1,none⟩) (Or.inl rfl) _) (fun hHeld=>?_);clear hK K' hHeld;refine wpAnyH_done (by kernel_rfl) ?_ _;have HR5:Hid (((wy.setCell ⟨w.heap.size,0,none⟩ (.slice a1 K.length c1)).setCell ⟨w.heap.size,1,none⟩ (.slice a2 N.length c2)).heap[w.heap.size+1]?=some (.cells #[.slice none 0 0,.slice none 0 0,.int .i64 0,.int .i64 0,.bool false] 26 (0,0))):=by
    show _=_;rw[heap_setCell_other _ _ _ (by show w.heap.size+1≠w.heap.size;omega),heap_setCell_other _ _ _ (by show w.heap.size+1≠w.heap.size;omega)];exact HRs.out _ hB2
   have HBy:Hid (Below w.heap.size w wy):=ak HL2.out.below hB2 (by omega);have HOk:=au EP;have HOn:=au hO2;clear EP hO2 hB2;go_wp2;obtain⟨r0,r1,r2,r3,r4⟩:=lI HR5.out (.slice a1 K.length c1) (.slice a2 N.length c2) (.int .i64 lev) (.int .i64 rn) (.bool dn);exact bodyPost_ret (v:=.agg #[.slice a1 K.length c1,.slice a2 N.length c2,.int .i64 lev,.int .i64 rn,.bool dn]) (by simp[results,Tryz.results28,go_sem,r0,r1,r2,r3,r4]) rfl
    ⟨_,rfl,⟨_,_,rfl,dR.cO ((HOk.out.put (by omega)).put (by omega)) (by omega),dR.cO ((HOn.out.put (by omega)).put (by omega)) (by omega)⟩,Below.cO (Below.put (Below.put HBy.out (Nat.le_refl _)) (Nat.le_refl _)) (Nat.le_succ _)⟩
  have q0:=(HC.out _ hBe).2;go_simp;refine hK.out _ _ hHeld (fun hHeld=>?_);clear hK K' q0;refine tkC 2 fun K' hK=>?_;go_simp;refine(HO0.out _ hBe).mono ?_;rintro e wx ⟨v1,rfl,hO1,hB1⟩;obtain⟨a1,c1,rfl⟩:=hO1.slice;refine hK.out _ _ (Tn.of_below hB1) (fun hHeld=>?_);clear hK K' hBe;have hBe:=hB1;refine tkY 6 9 hHeld ?_;refine tkC 5 fun K' hK=>?_;go_simp;refine(HO1.out _ hBe).mono ?_;rintro e wy ⟨v2,rfl,hO2,hB2,hst⟩;obtain⟨a2,c2,rfl⟩:=hO2.slice;refine hK.out _ _ (Tn.of_below hB2) (fun hHeld=>?_);clear hK K';have EP:=hst _ _ _ hO1;clear hst hO1 hBe hB1;refine tkC 7 fun K' hK=>?_;obtain⟨b0,b1,b2,b3,b4,⟨g0,g1,g2,g3,g4⟩,_⟩:=dQ (mO.out _ hB2);obtain⟨q0,q1,q2,q3,q4,⟨f0,f1,f2,f3,f4⟩,_⟩:=dQ (HRs.out _ hB2);go_simp;refine hK.out _ _ (Tn.setCell (p:=w.heap.size) (Tn.of_below hB2) (x:=⟨w.heap.size,0,none⟩) (Or.inl rfl) _) (fun hHeld=>?_);clear hK K';refine tkY 8 10 hHeld ?_;refine tkC 9 fun K' hK=>?_;go_simp;refine hK.out _ _ (Tn.setCell (p:=w.heap.size) (Tn.setCell (p:=w.heap.size) (Tn.of_below hB2) (x:=⟨w.heap.size,0,none⟩) (Or.inl rfl) _) (x:=⟨w.heap.size,1,none⟩) (Or.inl rfl) _) (fun hHeld=>?_);clear hK K' hHeld;refine wpAnyH_done (by kernel_rfl) ?_ _;have HR5:Hid (((wy.setCell ⟨w.heap.size,0,none⟩ (.slice a1 K.length c1)).setCell ⟨w.heap.size,1,none⟩ (.slice a2 N.length c2)).heap[w.heap.size+1]?=some (.cells #[.slice none 0 0,.slice none 0 0,.int .i64 0,.int .i64 0,.bool false] 26 (0,0))):=by show _=_;rw[heap_setCell_other _ _ _ (by show w.heap.size+1≠w.heap.size;omega),heap_setCell_other _ _ _ (by show w.heap.size+1≠w.heap.size;omega)];exact HRs.out _ hB2
  have HBy:Hid (Below w.heap.size w wy):=ak HL2.out.below hB2 (by omega);have HOk:=au EP;have HOn:=au hO2;clear EP hO2 hB2;go_wp2;obtain⟨r0,r1,r2,r3,r4⟩:=lI HR5.out (.slice a1 K.length c1) (.slice a2 N.length c2) (.int .i64 lev) (.int .i64 rn) (.bool dn);exact bodyPost_ret (v:=.agg #[.slice a1 K.length c1,.slice a2 N.length c2,.int .i64 lev,.int .i64 rn,.bool dn]) (by simp[results,Tryz.results28,go_sem,r0,r1,r2,r3,r4]) rfl
   ⟨_,rfl,⟨_,_,rfl,dR.cO ((HOk.out.put (by omega)).put (by omega)) (by omega),dR.cO ((HOn.out.put (by omega)).put (by omega)) (by omega)⟩,Below.cO (Below.put (Below.put HBy.out (Nat.le_refl _)) (Nat.le_refl _)) (Nat.le_succ _)⟩
 have q0:=(HC.out _ hBe).2;go_simp;refine hK.out _ _ hHeld (fun hHeld=>?_);clear hK K' q0;refine tkC 1 fun K' hK=>?_;have q0:=(HC.out _ hBe).1;go_simp;refine hK.out _ _ hHeld (fun hHeld=>?_);clear hK K' q0;refine tkC 2 fun K' hK=>?_;go_simp;refine(HO0.out _ hBe).mono ?_;rintro e wx ⟨v1,rfl,hO1,hB1⟩;obtain⟨a1,c1,rfl⟩:=hO1.slice;refine hK.out _ _ (Tn.of_below hB1) (fun hHeld=>?_);clear hK K' hBe;have hBe:=hB1;refine tkY 6 9 hHeld ?_;refine tkC 5 fun K' hK=>?_;go_simp;refine(HO1.out _ hBe).mono ?_;rintro e wy ⟨v2,rfl,hO2,hB2,hst⟩;obtain⟨a2,c2,rfl⟩:=hO2.slice;refine hK.out _ _ (Tn.of_below hB2) (fun hHeld=>?_);clear hK K';have EP:=hst _ _ _ hO1;clear hst hO1 hBe hB1;refine tkC 7 fun K' hK=>?_;obtain⟨b0,b1,b2,b3,b4,⟨g0,g1,g2,g3,g4⟩,_⟩:=dQ (mO.out _ hB2);obtain⟨q0,q1,q2,q3,q4,⟨f0,f1,f2,f3,f4⟩,_⟩:=dQ (HRs.out _ hB2);go_simp;refine hK.out _ _ (Tn.setCell (p:=w.heap.size) (Tn.of_below hB2) (x:=⟨w.heap.size,0,none⟩) (Or.inl rfl) _) (fun hHeld=>?_);clear hK K';refine tkY 8 10 hHeld ?_;refine tkC 9 fun K' hK=>?_;go_simp;refine hK.out _ _ (Tn.setCell (p:=w.heap.size) (Tn.setCell (p:=w.heap.size) (Tn.of_below hB2) (x:=⟨w.heap.size,0,none⟩) (Or.inl rfl) _) (x:=⟨w.heap.size,1,none⟩) (Or.inl rfl) _) (fun hHeld=>?_);clear hK K' hHeld;refine wpAnyH_done (by kernel_rfl) ?_ _
 have HR5:Hid (((wy.setCell ⟨w.heap.size,0,none⟩ (.slice a1 K.length c1)).setCell ⟨w.heap.size,1,none⟩ (.slice a2 N.length c2)).heap[w.heap.size+1]?=some (.cells #[.slice none 0 0,.slice none 0 0,.int .i64 0,.int .i64 0,.bool false] 26 (0,0))):=by show _=_;rw[heap_setCell_other _ _ _ (by show w.heap.size+1≠w.heap.size;omega),heap_setCell_other _ _ _ (by show w.heap.size+1≠w.heap.size;omega)];exact HRs.out _ hB2
 have HBy:Hid (Below w.heap.size w wy):=ak HL2.out.below hB2 (by omega);have HOk:=au EP;have HOn:=au hO2;clear EP hO2 hB2;go_wp2;obtain⟨r0,r1,r2,r3,r4⟩:=lI HR5.out (.slice a1 K.length c1) (.slice a2 N.length c2) (.int .i64 lev) (.int .i64 rn) (.bool dn);exact bodyPost_ret (v:=.agg #[.slice a1 K.length c1,.slice a2 N.length c2,.int .i64 lev,.int .i64 rn,.bool dn]) (by simp[results,Tryz.results28,go_sem,r0,r1,r2,r3,r4]) rfl
  ⟨_,rfl,⟨_,_,rfl,dR.cO ((HOk.out.put (by omega)).put (by omega)) (by omega),dR.cO ((HOn.out.put (by omega)).put (by omega)) (by omega)⟩,Below.cO (Below.put (Below.put HBy.out (Nat.le_refl _)) (Nat.le_refl _)) (Nat.le_succ _)⟩
def okN (c:Nat) (r:gM):Bool:=(decide (0≤r.rounds)&&decide (r.rounds≤1000))&&((decide (0≤r.level)&&decide (r.level≤c))&& !(r.done != (r.level==(c:Int))))
def aX (p:List aD) (r:gM):Int:=if j5 p r.known≠0 then j5 p r.known else if(aR r.fresh).1≠0 then(aR r.fresh).1 else
 if okN (countP (aK p).1) r=false then 3 else if(r.fresh.filter fun f=> !inB r.known f)≠[] then 8 else 0
theorem gu {p:List aD} {r:gM} (h:aX p r=0):j5 p r.known=0∧jG p (countP (aK p).1) r:=by
 unfold aX at h;split at h;·rename_i h1;exact absurd h h1
 rename_i h1;have h1:=Classical.byContradiction h1;split at h;·rename_i h2;exact absurd h h2
 rename_i h2;have h2:=Classical.byContradiction h2;split at h;·simp at h
 rename_i h3;split at h;·simp at h
 rename_i h4;obtain⟨hp,hg,_⟩:=iF h1;have h3:okN (countP (aK p).1) r=true:=by simpa using h3
 unfold okN at h3;simp only[Bool.and_eq_true,decide_eq_true_eq,Bool.not_eq_true',bne_eq_false_iff_eq] at h3;obtain⟨⟨a1,a2⟩,⟨a3,a4⟩,a5⟩:=h3;have h4:=Classical.byContradiction h4;refine⟨h1,hg,(set_right h2).2.1,fun f hf=>Classical.byContradiction fun hn=>?_,⟨a3,a4⟩,⟨a1,a2⟩,a5⟩;have hm:f∈r.fresh.filter fun f=> !inB r.known f:=List.mem_filter.2 ⟨hf,by
  cases e:inB r.known f;·rfl
  exact absurd (dD.1 e) hn⟩
 rw[h4] at hm;cases hm
theorem qO {p:List aD} {r:gM} (h:j5 p r.known=0) (hr:jG p (countP (aK p).1) r):aX p r=0:=by
 unfold aX;rw[if_neg (by rw[h];simp),if_neg (by rw[fI hr.up (fun f hf=>hr.good.right f (hr.sub f hf)) (Nat.le_trans (vo hr.up hr.sub) hr.good.few)];simp)];have h3:okN (countP (aK p).1) r=true:=by unfold okN;simp only[Bool.and_eq_true,decide_eq_true_eq,Bool.not_eq_true',bne_eq_false_iff_eq];exact⟨⟨hr.rnd.1,hr.rnd.2⟩,⟨hr.lev.1,hr.lev.2⟩,hr.done⟩
 rw[if_neg (by simp[h3]),if_neg];intro hn;refine hn (List.eq_nil_iff_forall_not_mem.2 fun f hf=>?_);obtain⟨h1,h2⟩:=List.mem_filter.1 hf;rw[dD.2 (hr.sub f h1)] at h2;cases h2
def OfT (b:Nat) (w:World) (v:Value) (p:List aD) (r:gM):Prop:=(∃a n c,v=.slice a n c)∧(aX p r=0→jL.sl (From b) w v (aK p).1)
theorem wH (p:List aD) (r:gM) (pv kv nv:Value) (w:World) (hv:iy.sl bT w pv p) (hk:Facts w kv r.known) (hn:Facts w nv r.fresh):
  Calls Tryz.prog 20 #[pv,.agg #[kv,nv,.int .i64 r.level,.int .i64 r.rounds,.bool r.done]] w fun e w'=>∃v',e=.returned (.tuple #[v',.int .i64 (aX p r)])∧OfT w.heap.size w' v' p r∧Below w.heap.size w w':=by
 obtain⟨K,N,lev,rn,dn⟩:=r;dsimp only at*;obtain⟨pa,pc,rfl⟩:=aB.slice hv;obtain⟨ka,kc,rfl⟩:=aC hk;obtain⟨na,nc,rfl⟩:=aC hn;obtain⟨wb,hwb⟩:∃wb,wb=w.alloc (.cells #[.slice ka K.length kc,.slice na N.length nc,.int .i64 lev,.int .i64 rn,.bool dn] 26):=⟨_,rfl⟩;have hLb:aj w wb:=by rw[hwb];exact(aj.refl w).alloc _
 have hzb:wb.heap.size=w.heap.size+1:=by rw[hwb];simp
 have hrb:wb.heap[w.heap.size]?=some (.cells #[.slice ka K.length kc,.slice na N.length nc,.int .i64 lev,.int .i64 rn,.bool dn] 26 (0,0)):=by rw[hwb];exact heap_alloc_new w _
 have mO:Hid (∀w',Below wb.heap.size wb w'→w'.heap[w.heap.size]?=some (.cells #[.slice ka K.length kc,.slice na N.length nc,.int .i64 lev,.int .i64 rn,.bool dn] 26 (0,0))):=fun w' h=>(h.block _ (by omega)).trans hrb;have HFo:=au (rR p K (.slice pa p.length pc) (.slice ka K.length kc) wb (aB.aS hv hLb) (hk.later hLb));have HK:=au (hk.later hLb);have HN:=au (hn.later hLb);have HLb:=au hLb;have HWb:=au hwb;have HX:Hid (aX p ⟨K,N,lev,rn,dn⟩=if j5 p K≠0 then j5 p K else if(aR N).1≠0 then(aR N).1 else if okN (countP (aK p).1) ⟨K,N,lev,rn,dn⟩=false then 3 else if(N.filter fun f=> !inB K f)≠[] then 8 else 0):=(rfl:_=_);have HGo:Hid (j5 p K=0→GoodS p K∧∀s∈(aK p).1,s<1000):=fun h=>by obtain⟨_,hg,τ,_,hs,ht⟩:=iF h;refine⟨hg,fun s hs'=>?_⟩;rw[hs] at hs';obtain⟨q,hq,rfl⟩:=List.mem_map.1 hs';have:=ht q hq;omega
 unfold OfT;unfold Gp at HFo;generalize aX p ⟨K,N,lev,rn,dn⟩=R at*;generalize j5 p K=fo at*;generalize(aK p).1=ss at*;clear hv hk hn hLb hrb hwb
 go_enter Tryz.func20,Tryz.ntmps20
 go_wp2_with fail
 rw[←HWb.out];refine HFo.out.mono ?_;rintro e w1 ⟨v1,rfl,⟨⟨a1,n1,c1,rfl⟩,hs1⟩,hB1⟩;have HB1:Hid (Below wb.heap.size wb w1):=hB1;have HS1:=au hs1;clear hB1 hs1 HFo HWb
 by_cases h0:fo=0
 ·subst h0;obtain⟨hg,hsm⟩:=HGo.out rfl;have HU:=au hg.up;have hKf:=hg.few;have HSm:=au hsm;have HV1:=au (HS1.out rfl);have hn1:n1=ss.length:=by obtain⟨_,_,e⟩:=aB.slice HV1.out;simp only[Value.slice.injEq] at e;exact e.2.1
  subst hn1;have BQ:=au (I9 (.slice na N.length nc) N w1 (HN.out.below HB1.out));obtain⟨sx,sy,hse⟩:∃sx sy,aR N=(sx,sy):=⟨_,_,rfl⟩;rw[hse] at BQ;have HX1:Hid (R=if sx≠0 then sx else if okN (countP ss) ⟨K,N,lev,rn,dn⟩=false then 3 else if(N.filter fun f=> !inB K f)≠[] then 8 else 0):=by show _=_;rw[HX.out,hse];simp
  obtain⟨b0,b1,b2,b3,b4,_,_⟩:=dQ (mO.out _ HB1.out);clear hse HX hg hsm HGo HS1
  go_wp2_with fail
  refine BQ.out.mono ?_;rintro e w2 ⟨rfl,hL2⟩;dsimp only;have HB2:Hid (Below wb.heap.size wb w2):=ak HB1.out hL2.below HB1.out.size;have HV2:=au (aB.mF HV1.out hL2.below);clear hL2 BQ b0 b1 b2 b3 b4 HB1 HV1;obtain⟨w3,hw3⟩:∃w3,w3=w2.alloc (.cells #[.int .i64 sx,.int .i64 sy] 41):=⟨_,rfl⟩;have hL3:aj w2 w3:=by rw[hw3];exact(aj.refl _).alloc _
  have HB3:Hid (Below wb.heap.size wb w3):=ak HB2.out hL3.below HB2.out.size;have HV3:=au (aB.mF HV2.out hL3.below);have HW3:=au hw3
  by_cases h1:sx=0
  ·subst h1;have HX2:Hid (R=if okN (countP ss) ⟨K,N,lev,rn,dn⟩=false then 3 else if(N.filter fun f=> !inB K f)≠[] then 8 else 0):=by show _=_;rw[HX1.out];simp
   have HCn:=au (BR ss (.slice a1 ss.length c1) w3 (aB.dO HV3.out) HSm.out);clear hw3 hL3 HX1 HB2 HV2
   go_wp2_with fail
   rw[←HW3.out];refine HCn.out.mono ?_;rintro e w4 ⟨rfl,hL4⟩;have HB4:Hid (Below wb.heap.size wb w4):=ak HB3.out hL4.below HB3.out.size;have HV4:=au (aB.mF HV3.out hL4.below);have hcs:countP ss≤1000:=countP_le HSm.out;clear hL4 HCn HW3 HB3 HV3;obtain⟨b0,b1,b2,b3,b4,_,_⟩:=dQ (mO.out _ HB4.out);have HW1:=au (xV rn 1000 w4);have HW2:=au (xV lev (countP ss:Nat) w4);unfold okN at HX2;dsimp only at HX2;generalize(decide (0≤rn)&&decide (rn≤1000))=A at*;generalize(decide (0≤lev)&&decide (lev≤((countP ss:Nat):Int)))=B at*;generalize hC:(dn != (lev==((countP ss:Nat):Int)))=C at*;have hC2:(!(dn==(lev==((countP ss:Nat):Int))))=C:=hC;clear hC;have HBw:Hid (Below w.heap.size w w4):=ak HLb.out.below HB4.out (by omega);cases A with
   |false=>
    have HX3:Hid (R=3):=by show _=_;rw[HX2.out];rfl
    go_wp2_with fail
    refine HW1.out.mono ?_;rintro e w5 ⟨rfl,h5⟩;obtain rfl:w4=w5:=h5.symm;clear h5;go_wp2;exact bodyPost_ret (v:=.tuple #[.slice none 0 0,.int .i64 3]) (by simp[results,Tryz.results20,go_sem]) rfl ⟨_,by rw[HX3.out],⟨⟨_,_,_,rfl⟩,fun h=>by rw[HX3.out] at h;simp at h⟩,HBw.out⟩
   |true=>
    cases B with
    |false=>
     have HX3:Hid (R=3):=by show _=_;rw[HX2.out];rfl
     go_wp2_with fail
     refine HW1.out.mono ?_;rintro e w5 ⟨rfl,h5⟩;obtain rfl:w4=w5:=h5.symm;clear h5
     go_wp2_with fail
     refine HW2.out.mono ?_;rintro e w6 ⟨rfl,h6⟩;obtain rfl:w4=w6:=h6.symm;clear h6;go_wp2;exact bodyPost_ret (v:=.tuple #[.slice none 0 0,.int .i64 3]) (by simp[results,Tryz.results20,go_sem]) rfl ⟨_,by rw[HX3.out],⟨⟨_,_,_,rfl⟩,fun h=>by rw[HX3.out] at h;simp at h⟩,HBw.out⟩
    |true=>
     cases C with
     |true=>
      have HX3:Hid (R=3):=by show _=_;rw[HX2.out];rfl
      go_wp2_with fail
      refine HW1.out.mono ?_;rintro e w5 ⟨rfl,h5⟩;obtain rfl:w4=w5:=h5.symm;clear h5
      go_wp2_with fail
      refine HW2.out.mono ?_;rintro e w6 ⟨rfl,h6⟩;obtain rfl:w4=w6:=h6.symm;clear h6;go_wp2;exact bodyPost_ret (v:=.tuple #[.slice none 0 0,.int .i64 3]) (by simp[results,Tryz.results20,go_sem]) rfl ⟨_,by rw[HX3.out],⟨⟨_,_,_,rfl⟩,fun h=>by rw[HX3.out] at h;simp at h⟩,HBw.out⟩
     |false=>
      have HX4:Hid (R=if(N.filter fun f=> !inB K f)≠[] then 8 else 0):=by show _=_;rw[HX2.out];rfl
      have HLs:=au (He (.slice na N.length nc) (.slice ka K.length kc) N K w4 (HN.out.below HB4.out) (HK.out.below HB4.out) HU.out);rw[pQ] at HLs;have hFl:=List.length_filter_le (fun f=> !inB K f) N;have hNl:=HN.out.1;generalize(N.filter fun f=> !inB K f)=F at*;clear HX2
      go_wp2_with fail
      refine HW1.out.mono ?_;rintro e w5 ⟨rfl,h5⟩;obtain rfl:w4=w5:=h5.symm;clear h5
      go_wp2_with fail
      refine HW2.out.mono ?_;rintro e w6 ⟨rfl,h6⟩;obtain rfl:w4=w6:=h6.symm;clear h6
      go_wp2_with fail
      refine HLs.out.mono ?_;rintro e w7 ⟨v7,rfl,hO7,hL7⟩;obtain⟨a7,c7,rfl⟩:=hO7.slice;have HB7:Hid (Below w.heap.size w w7):=ak HBw.out hL7.below HBw.out.size;have HV7:=au (aB.mF HV4.out hL7.below);clear hO7 hL7 HLs HW1 HW2;cases F with
      |nil=>
       have HX3:Hid (R=0):=by show _=_;rw[HX4.out];rfl
       go_wp2;exact bodyPost_ret (v:=.tuple #[.slice a1 ss.length c1,.int .i64 0]) (by simp[results,Tryz.results20,go_sem]) rfl ⟨_,by rw[HX3.out],⟨⟨_,_,_,rfl⟩,fun _=>aB.dX HV7.out fun k _ h=>Nat.le_trans (by omega) h⟩,HB7.out⟩
      |cons f F=>
       have HX3:Hid (R=8):=by show _=_;rw[HX4.out];rfl
       have hpos:(0:Int)<(((f::F).length:Nat):Int):=by simp
       go_wp2;exact bodyPost_ret (v:=.tuple #[.slice none 0 0,.int .i64 8]) (by simp[results,Tryz.results20,go_sem]) rfl ⟨_,by rw[HX3.out],⟨⟨_,_,_,rfl⟩,fun h=>by rw[HX3.out] at h;simp at h⟩,HB7.out⟩
  have HX3:Hid (R=sx):=by show _=_;rw[HX1.out,if_pos h1]
  have hne:(sx != 0)=true:=by simpa using h1
  have HH:Hid (R≠0):=by show _≠_;rw[HX3.out];exact h1
  have K9:Hid (Below w.heap.size w w3):=ak HLb.out.below HB3.out (by omega);rw[hw3] at K9;clear hw3 hL3 HX1 HB2 HV2 HW3 HB3 HV3 h1;go_wp2
  go_quiet (fail)
  go_wp2;exact bodyPost_ret (v:=.tuple #[.slice none 0 0,.int .i64 sx]) (by simp[results,Tryz.results20,go_sem]) rfl ⟨_,by rw[HX3.out],⟨⟨_,_,_,rfl⟩,fun h=>absurd h HH.out⟩,pO K9.out _⟩
 have HX3:Hid (R=fo):=by show _=_;rw[HX.out,if_pos h0]
 have hne:(fo != 0)=true:=by simpa using h0
 have HH:Hid (R≠0):=by show _≠_;rw[HX3.out];exact h0
 have MB:Hid (Below w.heap.size w w1):=ak HLb.out.below HB1.out (by omega);clear HX HGo HS1 HB1 h0;go_wp2;exact bodyPost_ret (v:=.tuple #[.slice none 0 0,.int .i64 fo]) (by simp[results,Tryz.results20,go_sem]) rfl ⟨_,by rw[HX3.out],⟨⟨_,_,_,rfl⟩,fun h=>absurd h HH.out⟩,MB.out⟩
theorem Cm (p:List aD) (r:gM) (pv kv nv:Value) (w:World) (hv:iy.sl bT w pv p) (hk:Facts w kv r.known) (hn:Facts w nv r.fresh):
  Calls Tryz.prog 7 #[pv,.agg #[kv,nv,.int .i64 r.level,.int .i64 r.rounds,.bool r.done]] w fun e w'=>e=.returned (.int .i64 (aX p r))∧Below w.heap.size w w':=by
 obtain⟨pa,pc,rfl⟩:=aB.slice hv;obtain⟨ka,kc,rfl⟩:=aC hk;obtain⟨na,nc,rfl⟩:=aC hn;obtain⟨wb,hwb⟩:∃wb,wb=w.alloc (.cells #[.slice ka r.known.length kc,.slice na r.fresh.length nc,.int .i64 r.level,.int .i64 r.rounds,.bool r.done] 26):=⟨_,rfl⟩;have hLb:aj w wb:=by rw[hwb];exact(aj.refl w).alloc _
 have HOf:=au (wH p r (.slice pa p.length pc) _ _ wb (aB.aS hv hLb) (hk.later hLb) (hn.later hLb));have HLb:=au hLb;have HWb:=au hwb;generalize aX p r=R at*;clear hv hk hn hLb hwb
 go_enter Tryz.func7,Tryz.ntmps7
 go_wp2_with fail
 rw[←HWb.out];refine HOf.out.mono ?_;rintro e w1 ⟨v1,rfl,⟨⟨a1,n1,c1,rfl⟩,_⟩,hB1⟩;have HB1:Hid (Below w.heap.size w w1):=ak HLb.out.below hB1 HLb.out.size;clear hB1 HOf HWb;go_wp2;go_ret;exact⟨rfl,HB1.out⟩
def dB (p:List aD) (r:gM) (n:Int):Int×gM:=if aX p r≠0 then(aX p r,cK) else if(decide (0≤n)&&decide (n≤1000))=false then(3,cK) else cZ p (aK p).1 n.toNat r
theorem ou.slices {b:Nat} {w:World} {v:Value} {r:gM} (h:ou b w v r):∃ka kc na nc,v=.agg #[.slice ka r.known.length kc,.slice na r.fresh.length nc,.int .i64 r.level,.int .i64 r.rounds,.bool r.done]∧dR w b (.slice ka r.known.length kc) r.known∧dR w b (.slice na r.fresh.length nc) r.fresh:=by obtain⟨kv,nv,h1,h2,h3⟩:=h;obtain⟨ka,kc,rfl⟩:=h2.slice;obtain⟨na,nc,rfl⟩:=h3.slice;exact⟨ka,kc,na,nc,h1,h2,h3⟩
theorem rW (p:List aD) (r:gM) (n:Int) (pv kv nv:Value) (w:World) (hv:iy.sl bT w pv p) (hk:Facts w kv r.known) (hn:Facts w nv r.fresh):
  Calls Tryz.prog 11 #[pv,.agg #[kv,nv,.int .i64 r.level,.int .i64 r.rounds,.bool r.done],.int .i64 n] w fun e w'=>∃v' er,e=.returned (.tuple #[v',.int .i64 er])∧ug (w.heap.size+2) w' v' er (dB p r n)∧Below w.heap.size w w':=by
 obtain⟨K,N,lev,rn,dn⟩:=r;dsimp only at*;obtain⟨pa,pc,rfl⟩:=aB.slice hv;obtain⟨ka,kc,rfl⟩:=aC hk;obtain⟨na,nc,rfl⟩:=aC hn;obtain⟨w2,hw2⟩:∃w2,w2=(w.alloc (.cells #[.slice ka K.length kc,.slice na N.length nc,.int .i64 lev,.int .i64 rn,.bool dn] 26)).alloc (.cells #[.slice none 0 0,.slice none 0 0,.int .i64 0,.int .i64 0,.bool false] 26):=⟨_,rfl⟩;have hL2:aj w w2:=by rw[hw2];exact((aj.refl w).alloc _).alloc _
 have hz2:w2.heap.size=w.heap.size+2:=by rw[hw2];simp
 have hrb:w2.heap[w.heap.size]?=some (.cells #[.slice ka K.length kc,.slice na N.length nc,.int .i64 lev,.int .i64 rn,.bool dn] 26 (0,0)):=by rw[hw2,Below.heap_alloc _ _ _ (by simp)];exact heap_alloc_new w _
 have hrs:w2.heap[w.heap.size+1]?=some (.cells #[.slice none 0 0,.slice none 0 0,.int .i64 0,.int .i64 0,.bool false] 26 (0,0)):=by have:=heap_alloc_new (w.alloc (.cells #[.slice ka K.length kc,.slice na N.length nc,.int .i64 lev,.int .i64 rn,.bool dn] 26)) (.cells #[.slice none 0 0,.slice none 0 0,.int .i64 0,.int .i64 0,.bool false] 26);rw[hw2];simpa using this
 have HOf:=au (wH p ⟨K,N,lev,rn,dn⟩ (.slice pa p.length pc) (.slice ka K.length kc) (.slice na N.length nc) w2 (aB.aS hv hL2) (hk.later hL2) (hn.later hL2));have HV:=au hv;have HK:=au hk;have HN:=au hn;have HL2:=au hL2;have HRb:=au hrb;have HRs:=au hrs;have HW2:=au hw2;have HX:Hid (dB p ⟨K,N,lev,rn,dn⟩ n=if aX p ⟨K,N,lev,rn,dn⟩≠0 then(aX p ⟨K,N,lev,rn,dn⟩,cK) else if(decide (0≤n)&&decide (n≤1000))=false then(3,cK) else cZ p (aK p).1 n.toNat ⟨K,N,lev,rn,dn⟩):=(rfl:_=_);have HGo:Hid (aX p ⟨K,N,lev,rn,dn⟩=0→fG p∧∃σ:aD→Nat,(aK p).1=p.map σ∧jG p (countP (p.map σ)) ⟨K,N,lev,rn,dn⟩∧∀s∈p.map σ,s<1000):=fun h=>by
  obtain⟨h1,h2⟩:=gu h;obtain⟨hp,_,τ,_,hs,ht⟩:=iF h1;have e:(aK p).1=p.map fun r=>τ r.head.name:=by rw[hs]
  refine⟨hp,_,e,e▸h2,fun s hs'=>?_⟩;obtain⟨q,hq,rfl⟩:=List.mem_map.1 hs';have:=ht q hq;omega
 unfold OfT at HOf;generalize dB p ⟨K,N,lev,rn,dn⟩ n=SF at*;generalize aX p ⟨K,N,lev,rn,dn⟩=R at*;generalize(aK p).1=ss at*;clear hv hk hn hL2 hrb hrs hw2
 go_enter Tryz.func11,Tryz.ntmps11
 go_wp2_with fail
 rw[←HW2.out];refine HOf.out.mono ?_;rintro e w3 ⟨v1,rfl,⟨⟨a1,n1,c1,rfl⟩,hs1⟩,hB3⟩;have HB3:Hid (Below w.heap.size w w3):=ak HL2.out.below hB3 HL2.out.size;have xP:Hid (w3.heap[w.heap.size]?=some (.cells #[.slice ka K.length kc,.slice na N.length nc,.int .i64 lev,.int .i64 rn,.bool dn] 26 (0,0))):=by show _=_;rw[hB3.block _ (by omega)];exact HRb.out
 have nY:Hid (w3.heap[w.heap.size+1]?=some (.cells #[.slice none 0 0,.slice none 0 0,.int .i64 0,.int .i64 0,.bool false] 26 (0,0))):=by show _=_;rw[hB3.block _ (by omega)];exact HRs.out
 have HS1:Hid (R=0→jL.sl (From (w.heap.size+2)) w3 (.slice a1 n1 c1) ss):=fun h=>aB.dX (hs1 h) fun k _ h=>Nat.le_trans (by omega) h;have hz3:w.heap.size+2≤w3.heap.size:=by have:=hB3.size;omega
 clear hB3 hs1 HOf HW2 HRb HRs HL2 hz2 w2;obtain⟨b0,b1,b2,b3,b4,_,_⟩:=dQ xP.out;obtain⟨q0,q1,q2,q3,q4,⟨f0,f1,f2,f3,f4⟩,_⟩:=dQ nY.out
 by_cases h0:R=0
 ·subst h0;obtain⟨hp,σ,hss,hRN,hsm⟩:=HGo.out rfl;have HV1:=au (HS1.out rfl);have hn1:n1=ss.length:=by obtain⟨_,_,e⟩:=aB.slice HV1.out;simp only[Value.slice.injEq] at e;exact e.2.1
  subst hn1;have HW1:=au (xV n 1000 w3);have HX1:Hid (SF=if(decide (0≤n)&&decide (n≤1000))=false then(3,cK) else cZ p ss n.toNat ⟨K,N,lev,rn,dn⟩):=by show _=_;rw[HX.out];simp
  have hA:(decide (0≤n)&&decide (n≤1000))=true→0≤n∧n≤1000:=fun h=>by simpa using h
  have HA:=au hA;have HRP:=au hp;have HRN:=au hRN;have HSm:=au hsm;have HSS:=au hss;clear HX HGo HS1 hp hss hRN hsm hA;generalize(decide (0≤n)&&decide (n≤1000))=A at*;cases A with
  |false=>
   have HX2:Hid (SF=(3,cK)):=by show _=_;rw[HX1.out];rfl
   go_wp2_with fail
   refine HW1.out.mono ?_;rintro e w4 ⟨rfl,h4⟩;obtain rfl:w3=w4:=h4.symm;clear h4;go_wp2;obtain⟨r0,r1,r2,r3,r4⟩:=lI nY.out (.slice none 0 0) (.slice none 0 0) (.int .i64 0) (.int .i64 0) (.bool false);exact bodyPost_ret (v:=.tuple #[.agg #[.slice none 0 0,.slice none 0 0,.int .i64 0,.int .i64 0,.bool false],.int .i64 3]) (by simp[results,Tryz.results11,go_sem,r0,r1,r2,r3,r4]) rfl ⟨_,3,rfl,by rw[HX2.out];exact⟨rfl,ou.none _ _⟩,Below.cO HB3.out (Nat.le_succ _)⟩
  |true=>
   obtain⟨hn0,hn1⟩:=HA.out rfl;obtain⟨m,rfl⟩:∃m:Nat,n=(m:Int):=⟨n.toNat,by omega⟩;have HX2:Hid (SF=cZ p ss m ⟨K,N,lev,rn,dn⟩):=by show _=_;rw[HX1.out];simp
   have HOw:=au (IG ⟨K,N,lev,rn,dn⟩ (.slice ka K.length kc) (.slice na N.length nc) w3 (HK.out.below HB3.out) (HN.out.below HB3.out));clear HX1 HA
   go_wp2_with fail
   refine HW1.out.mono ?_;rintro e w4 ⟨rfl,h4⟩;obtain rfl:w3=w4:=h4.symm;clear h4 HW1
   go_wp2_with fail
   refine HOw.out.mono ?_;rintro e w4 ⟨v4,rfl,hR4,hB4⟩;obtain⟨xa,xc,ya,yc,rfl,hO4,hN4⟩:=hR4.slices;dsimp only at hO4 hN4⊢;have HB4:Hid (Below w.heap.size w w4):=ak HB3.out hB4 HB3.out.size;have hr4:w4.heap[w.heap.size]?=some (.cells #[.slice ka K.length kc,.slice na N.length nc,.int .i64 lev,.int .i64 rn,.bool dn] 26 (0,0)):=by rw[hB4.block _ (by omega)];exact xP.out
   have hs4:w4.heap[w.heap.size+1]?=some (.cells #[.slice none 0 0,.slice none 0 0,.int .i64 0,.int .i64 0,.bool false] 26 (0,0)):=by rw[hB4.block _ (by omega)];exact nY.out
   have hz4:w.heap.size+2≤w4.heap.size:=by have:=hB4.size;omega
   clear b0 b1 b2 b3 b4 q0 q1 q2 q3 q4 f0 f1 f2 f3 f4;have HO5:Hid (dR (cO w4 w.heap.size (.slice xa K.length xc) (.slice ya N.length yc) (.int .i64 lev) (.int .i64 rn) (.bool dn)) (w.heap.size+2) (.slice xa K.length xc) K):=(hO4.base (by omega)).cO (by omega);have HN5:Hid (dR (cO w4 w.heap.size (.slice xa K.length xc) (.slice ya N.length yc) (.int .i64 lev) (.int .i64 rn) (.bool dn)) (w.heap.size+2) (.slice ya N.length yc) N):=(hN4.base (by omega)).cO (by omega);have Jf:=au (gq hr4 (.slice xa K.length xc) (.slice ya N.length yc) (.int .i64 lev) (.int .i64 rn) (.bool dn));have II:Hid ((cO w4 w.heap.size (.slice xa K.length xc) (.slice ya N.length yc) (.int .i64 lev) (.int .i64 rn) (.bool dn)).heap[w.heap.size+1]?=some (.cells #[.slice none 0 0,.slice none 0 0,.int .i64 0,.int .i64 0,.bool false] 26 (0,0))):=by show _=_;rw[(bA w4 w.heap.size _ _ _ _ _).block _ (by omega) (by omega)];exact hs4
   have HB5:Hid (Below w.heap.size w (cO w4 w.heap.size (.slice xa K.length xc) (.slice ya N.length yc) (.int .i64 lev) (.int .i64 rn) (.bool dn))):=Below.cO HB4.out (Nat.le_refl _);have HV5:Hid (jL.sl (From (w.heap.size+2)) (cO w4 w.heap.size (.slice xa K.length xc) (.slice ya N.length yc) (.int .i64 lev) (.int .i64 rn) (.bool dn)) (.slice a1 ss.length c1) ss):=aB.fE (aB.mF HV1.out hB4) (bA _ _ _ _ _ _ _).size fun k hk hb=>(bA w4 w.heap.size _ _ _ _ _).block k hk (by have:w.heap.size+2≤k:=hb;omega);obtain⟨b0,b1,b2,b3,b4,⟨g0,g1,g2,g3,g4⟩,_⟩:=dQ hr4;clear hr4 hs4 hO4 hN4 hR4 hB4 HOw xP nY;go_wp2
   go_loopg [2,9] m (fun g nn ee wr=>∃k:Nat,k=g∧nn=.int .i64 k∧ee=.int .i64 0∧k≤1000∧∃(X:gM) (xa ya:Option Addr) (xc yc:Nat),Hid (jG p (countP (p.map σ)) X)∧Hid (wr.heap[w.heap.size]?=some (.cells #[.slice xa X.known.length xc,.slice ya X.fresh.length yc,.int .i64 X.level,.int .i64 X.rounds,.bool X.done] 26 (0,0)))∧
    Hid (dR wr (w.heap.size+2) (.slice xa X.known.length xc) X.known)∧Hid (dR wr (w.heap.size+2) (.slice ya X.fresh.length yc) X.fresh)∧Hid (wr.heap[w.heap.size+1]?=some (.cells #[.slice none 0 0,.slice none 0 0,.int .i64 0,.int .i64 0,.bool false] 26 (0,0)))∧Hid (Below w.heap.size w wr)∧w.heap.size+2≤wr.heap.size∧Hid (jL.sl (From (w.heap.size+2)) wr (.slice a1 ss.length c1) ss)∧Hid (SF=cZ p ss k X))
   case atStart=>exact⟨m,rfl,rfl,rfl,by omega,⟨K,N,lev,rn,dn⟩,xa,ya,xc,yc,HRN,Jf,HO5,HN5,II,HB5,by simp only[size_setCell];exact hz4,HV5,HX2⟩
   clear HRN Jf HO5 HN5 II HB5 HX2 HV5 HV1 b0 b1 b2 b3 b4 g0 g1 g2 g3 g4 HB4 hz4 HB3 hz3 HK HN;obtain⟨k,hkg,rfl,rfl,hk1,X,xa,ya,xc,yc,HRN,HRb,HO,HN',HRs,HB,hz,HVr,HX⟩:=hrel
   by_cases hk0:k=0
   ·have hkz:¬((0:Int)<(k:Int)):=by omega
    have HT:Hid (SF=(0,X)):=by show _=_;rw[HX.out,hk0];rfl
    clear hk0;obtain⟨b0,b1,b2,b3,b4,_,_⟩:=dQ HRb.out;obtain⟨q0,q1,q2,q3,q4,⟨f0,f1,f2,f3,f4⟩,_⟩:=dQ HRs.out;go_wp2;obtain⟨r0,r1,r2,r3,r4⟩:=lI HRs.out (.slice xa X.known.length xc) (.slice ya X.fresh.length yc) (.int .i64 X.level) (.int .i64 X.rounds) (.bool X.done);exact bodyPost_ret (v:=.tuple #[.agg #[.slice xa X.known.length xc,.slice ya X.fresh.length yc,.int .i64 X.level,.int .i64 X.rounds,.bool X.done],.int .i64 0]) (by simp[results,Tryz.results11,go_sem,r0,r1,r2,r3,r4]) rfl
     ⟨_,0,rfl,by rw[HT.out];exact⟨rfl,_,_,rfl,HO.out.cO (by omega),HN'.out.cO (by omega)⟩,Below.cO HB.out (Nat.le_succ _)⟩
   obtain⟨k,rfl⟩:∃k',k=k'+1:=⟨k-1,by omega⟩;cases hdn:X.done with
   |true=>
    have HT:Hid (SF=(0,X)):=by show _=_;rw[HX.out];exact nG hdn _
    obtain⟨b0,b1,b2,b3,b4,_,_⟩:=dQ HRb.out;obtain⟨q0,q1,q2,q3,q4,⟨f0,f1,f2,f3,f4⟩,_⟩:=dQ HRs.out;rw[hdn] at b4;have HDn:=au hdn;clear hdn;go_wp2;obtain⟨r0,r1,r2,r3,r4⟩:=lI HRs.out (.slice xa X.known.length xc) (.slice ya X.fresh.length yc) (.int .i64 X.level) (.int .i64 X.rounds) (.bool true);exact bodyPost_ret (v:=.tuple #[.agg #[.slice xa X.known.length xc,.slice ya X.fresh.length yc,.int .i64 X.level,.int .i64 X.rounds,.bool true],.int .i64 0]) (by simp[results,Tryz.results11,go_sem,r0,r1,r2,r3,r4]) rfl
     ⟨_,0,rfl,by rw[HT.out];exact⟨rfl,_,_,by rw[HDn.out],HO.out.cO (by omega),HN'.out.cO (by omega)⟩,Below.cO HB.out (Nat.le_succ _)⟩
   |false=>
    have hX1:=HX.out;rw[nH hdn] at hX1;have HX1:=au hX1;have hNx:=JZ p HRP.out σ X HRN.out hdn HSm.out (.slice pa p.length pc) (.slice a1 ss.length c1) (.slice xa X.known.length xc) (.slice ya X.fresh.length yc) wr (aB.aO HV.out HB.out) (by rw[←HSS.out];exact aB.dO HVr.out) (HO.out.facts (by have:=HRN.out.good.few;omega)) (HN'.out.facts (by have:=Nat.le_trans (vo HRN.out.up HRN.out.sub) HRN.out.good.few;omega));rw[←HSS.out] at hNx;obtain⟨er,Y,hY⟩:∃er Y,fB p ss X=(er,Y):=⟨_,_,rfl⟩;have HRY:Hid (er=0→jG p (countP (p.map σ)) Y):=fun h=>(rM HRP.out σ HRN.out hdn (by rw[←HSS.out,hY,h])).1;rw[hY,hdn] at hNx;rw[hY] at HX1;have HNx:=au hNx;have D9:=HRb;rw[hdn] at D9;obtain⟨b0,b1,b2,b3,b4,_,_⟩:=dQ D9.out;have hkp:(0:Int)<((k+1:Nat):Int):=by omega
    clear hNx hY hX1 hdn HX
    go_wp2_with fail
    refine HNx.out.mono ?_;rintro e w5 ⟨v5,er',rfl,⟨her,hR5⟩,hB5⟩;dsimp only at her hR5;obtain rfl:er=er':=her.symm;clear her;obtain⟨za,zc,ua,uc,rfl,hO5,hN5⟩:=hR5.slices;have hr5:w5.heap[w.heap.size]?=some (.cells #[.slice xa X.known.length xc,.slice ya X.fresh.length yc,.int .i64 X.level,.int .i64 X.rounds,.bool false] 26 (0,0)):=by rw[hB5.block _ (by omega)];exact D9.out
    have hs5:w5.heap[w.heap.size+1]?=some (.cells #[.slice none 0 0,.slice none 0 0,.int .i64 0,.int .i64 0,.bool false] 26 (0,0)):=by rw[hB5.block _ (by omega)];exact HRs.out
    have hz5:w.heap.size+2≤w5.heap.size:=by have:=hB5.size;omega
    have Jf:=au (gq hr5 (.slice za Y.known.length zc) (.slice ua Y.fresh.length uc) (.int .i64 Y.level) (.int .i64 Y.rounds) (.bool Y.done));have II:Hid ((cO w5 w.heap.size (.slice za Y.known.length zc) (.slice ua Y.fresh.length uc) (.int .i64 Y.level) (.int .i64 Y.rounds) (.bool Y.done)).heap[w.heap.size+1]?=some (.cells #[.slice none 0 0,.slice none 0 0,.int .i64 0,.int .i64 0,.bool false] 26 (0,0))):=by show _=_;rw[(bA w5 w.heap.size _ _ _ _ _).block _ (by omega) (by omega)];exact hs5
    have HB5:Hid (Below w.heap.size w (cO w5 w.heap.size (.slice za Y.known.length zc) (.slice ua Y.fresh.length uc) (.int .i64 Y.level) (.int .i64 Y.rounds) (.bool Y.done))):=Below.cO (ak HB.out hB5 HB.out.size) (Nat.le_refl _);have HO5:Hid (dR (cO w5 w.heap.size (.slice za Y.known.length zc) (.slice ua Y.fresh.length uc) (.int .i64 Y.level) (.int .i64 Y.rounds) (.bool Y.done)) (w.heap.size+2) (.slice za Y.known.length zc) Y.known):=(hO5.base (by omega)).cO (by omega);have HN5:Hid (dR (cO w5 w.heap.size (.slice za Y.known.length zc) (.slice ua Y.fresh.length uc) (.int .i64 Y.level) (.int .i64 Y.rounds) (.bool Y.done)) (w.heap.size+2) (.slice ua Y.fresh.length uc) Y.fresh):=(hN5.base (by omega)).cO (by omega);have HV5:Hid (jL.sl (From (w.heap.size+2)) (cO w5 w.heap.size (.slice za Y.known.length zc) (.slice ua Y.fresh.length uc) (.int .i64 Y.level) (.int .i64 Y.rounds) (.bool Y.done)) (.slice a1 ss.length c1) ss):=aB.fE (aB.mF HVr.out hB5) (bA _ _ _ _ _ _ _).size fun k hk hb=>(bA w5 w.heap.size _ _ _ _ _).block k hk (by have:w.heap.size+2≤k:=hb;omega);clear b0 b1 b2 b3 b4;obtain⟨b0,b1,b2,b3,b4,⟨g0,g1,g2,g3,g4⟩,_⟩:=dQ hr5;obtain⟨q0,q1,q2,q3,q4,⟨f0,f1,f2,f3,f4⟩,_⟩:=dQ hs5;clear hR5 hB5 hO5 hN5 hr5 hs5 HNx HRb D9 HO HN' HRs HB hz HVr HRN
    by_cases he:er=0
    ·subst he;have HX5:Hid (SF=cZ p ss k Y):=by show _=_;rw[HX1.out];simp
     have Kj:=au (HRY.out rfl);clear HX1 HRY;go_wp2
     go_roundg k
     case measure=>omega
     case rel=>exact⟨k,rfl,by go_num,rfl,by omega,Y,za,ua,zc,uc,Kj,Jf,HO5,HN5,II,HB5,by simp only[size_setCell];exact hz5,HV5,HX5⟩
    have HX5:Hid (SF=(er,cK)):=by show _=_;rw[HX1.out,if_pos he]
    have hne:(er != 0)=true:=by simpa using he
    clear HX1 HRY he;go_wp2;obtain⟨r0,r1,r2,r3,r4⟩:=lI II.out (.slice none 0 0) (.slice none 0 0) (.int .i64 0) (.int .i64 0) (.bool false);unfold cO at r0 r1 r2 r3 r4;exact bodyPost_ret (v:=.tuple #[.agg #[.slice none 0 0,.slice none 0 0,.int .i64 0,.int .i64 0,.bool false],.int .i64 er]) (by simp[results,Tryz.results11,go_sem,r0,r1,r2,r3,r4]) rfl ⟨_,er,rfl,by rw[HX5.out];exact⟨rfl,ou.none _ _⟩,Below.cO HB5.out (Nat.le_succ _)⟩
 have HX1:Hid (SF=(R,cK)):=by show _=_;rw[HX.out,if_pos h0]
 have hne:(R != 0)=true:=by simpa using h0
 clear HX HGo HS1 h0;go_wp2;obtain⟨r0,r1,r2,r3,r4⟩:=lI nY.out (.slice none 0 0) (.slice none 0 0) (.int .i64 0) (.int .i64 0) (.bool false);exact bodyPost_ret (v:=.tuple #[.agg #[.slice none 0 0,.slice none 0 0,.int .i64 0,.int .i64 0,.bool false],.int .i64 R]) (by simp[results,Tryz.results11,go_sem,r0,r1,r2,r3,r4]) rfl ⟨_,R,rfl,by rw[HX1.out];exact⟨rfl,ou.none _ _⟩,Below.cO HB3.out (Nat.le_succ _)⟩
theorem Cn (p:List aD) (r:gM) (pv kv nv:Value) (w:World) (hv:iy.sl bT w pv p) (hk:Facts w kv r.known) (hn:Facts w nv r.fresh):
  Calls Tryz.prog 9 #[pv,.agg #[kv,nv,.int .i64 r.level,.int .i64 r.rounds,.bool r.done]] w fun e w'=>∃v' er,e=.returned (.tuple #[v',.int .i64 er])∧ug (w.heap.size+2) w' v' er (dB p r 1)∧Below w.heap.size w w':=by
 obtain⟨pa,pc,rfl⟩:=aB.slice hv;obtain⟨ka,kc,rfl⟩:=aC hk;obtain⟨na,nc,rfl⟩:=aC hn;obtain⟨wb,hwb⟩:∃wb,wb=(w.alloc (.cells #[.slice ka r.known.length kc,.slice na r.fresh.length nc,.int .i64 r.level,.int .i64 r.rounds,.bool r.done] 26)).alloc (.cells #[.slice none 0 0,.slice none 0 0,.int .i64 0,.int .i64 0,.bool false] 26):=⟨_,rfl⟩;have hLb:aj w wb:=by rw[hwb];exact((aj.refl w).alloc _).alloc _
 have hzb:wb.heap.size=w.heap.size+2:=by rw[hwb];simp
 have hrs:wb.heap[w.heap.size+1]?=some (.cells #[.slice none 0 0,.slice none 0 0,.int .i64 0,.int .i64 0,.bool false] 26 (0,0)):=by have:=heap_alloc_new (w.alloc (.cells #[.slice ka r.known.length kc,.slice na r.fresh.length nc,.int .i64 r.level,.int .i64 r.rounds,.bool r.done] 26)) (.cells #[.slice none 0 0,.slice none 0 0,.int .i64 0,.int .i64 0,.bool false] 26);rw[hwb];simpa using this
 have HSt:=au (rW p r 1 (.slice pa p.length pc) _ _ wb (aB.aS hv hLb) (hk.later hLb) (hn.later hLb));have HLb:=au hLb;have HRs:=au hrs;have HWb:=au hwb;generalize dB p r 1=SF at*;clear hv hk hn hLb hwb hrs
 go_enter Tryz.func9,Tryz.ntmps9
 go_wp2_with fail
 rw[←HWb.out];refine HSt.out.mono ?_;rintro e w1 ⟨v1,er,rfl,⟨her,hR1⟩,hB1⟩;obtain⟨xa,xc,ya,yc,rfl,hO1,hN1⟩:=hR1.slices;have HB1:Hid (Below w.heap.size w w1):=ak HLb.out.below hB1 HLb.out.size;have hs1:w1.heap[w.heap.size+1]?=some (.cells #[.slice none 0 0,.slice none 0 0,.int .i64 0,.int .i64 0,.bool false] 26 (0,0)):=by rw[hB1.block _ (by omega)];exact HRs.out
 obtain⟨q0,q1,q2,q3,q4,⟨f0,f1,f2,f3,f4⟩,_⟩:=dQ hs1;have HS1:=au hs1;have HE:=au her;have HO1:=au (hO1.base (base':=w.heap.size+2) (by omega));have HN1:=au (hN1.base (base':=w.heap.size+2) (by omega));clear hB1 hR1 hO1 hN1 hs1 her HSt HWb HRs;go_wp2;obtain⟨r0,r1,r2,r3,r4⟩:=lI HS1.out (.slice xa SF.2.known.length xc) (.slice ya SF.2.fresh.length yc) (.int .i64 SF.2.level) (.int .i64 SF.2.rounds) (.bool SF.2.done);exact bodyPost_ret (v:=.tuple #[.agg #[.slice xa SF.2.known.length xc,.slice ya SF.2.fresh.length yc,.int .i64 SF.2.level,.int .i64 SF.2.rounds,.bool SF.2.done],.int .i64 er]) (by simp[results,Tryz.results9,go_sem,r0,r1,r2,r3,r4]) rfl
  ⟨_,er,rfl,⟨HE.out,_,_,rfl,HO1.out.cO (by omega),HN1.out.cO (by omega)⟩,Below.cO HB1.out (Nat.le_succ _)⟩
def Co (p:List aD) (l:List aF):gM:=⟨l,l,0,0,decide (countP (aK p).1=0)⟩
def iT (p:List aD) (l:List aF):Int×gM:=if j5 p l≠0 then(j5 p l,cK) else(0,Co p l)
theorem Ad (p:List aD) (l:List aF) (pv fv:Value) (w:World) (hv:iy.sl bT w pv p) (hf:Facts w fv l):
  Calls Tryz.prog 4 #[pv,fv] w fun e w'=>∃v' er,e=.returned (.tuple #[v',.int .i64 er])∧ug (w.heap.size+1) w' v' er (iT p l)∧Below w.heap.size w w':=by
 obtain⟨pa,pc,rfl⟩:=aB.slice hv;obtain⟨fa,fc,rfl⟩:=aC hf;obtain⟨wb,hwb⟩:∃wb,wb=w.alloc (.cells #[.slice none 0 0,.slice none 0 0,.int .i64 0,.int .i64 0,.bool false] 26):=⟨_,rfl⟩;have hLb:aj w wb:=by rw[hwb];exact(aj.refl w).alloc _
 have hzb:wb.heap.size=w.heap.size+1:=by rw[hwb];simp
 have hrs:wb.heap[w.heap.size]?=some (.cells #[.slice none 0 0,.slice none 0 0,.int .i64 0,.int .i64 0,.bool false] 26 (0,0)):=by rw[hwb];exact heap_alloc_new w _
 have HFo:=au (rR p l (.slice pa p.length pc) (.slice fa l.length fc) wb (aB.aS hv hLb) (hf.later hLb));have HF:=au hf;have HLb:=au hLb;have HRs:=au hrs;have HWb:=au hwb;have HX:Hid (iT p l=if j5 p l≠0 then(j5 p l,cK) else(0,⟨l,l,0,0,decide (countP (aK p).1=0)⟩)):=(rfl:_=_);have HGo:Hid (j5 p l=0→l.length≤200∧∀s∈(aK p).1,s<1000):=fun h=>by obtain⟨_,hg,τ,_,hs,ht⟩:=iF h;refine⟨hg.few,fun s hs'=>?_⟩;rw[hs] at hs';obtain⟨q,hq,rfl⟩:=List.mem_map.1 hs';have:=ht q hq;omega
 unfold Gp at HFo;generalize iT p l=SF at*;generalize j5 p l=fo at*;generalize(aK p).1=ss at*;clear hv hf hLb hrs hwb
 go_enter Tryz.func4,Tryz.ntmps4
 go_wp2_with fail
 rw[←HWb.out];refine HFo.out.mono ?_;rintro e w1 ⟨v1,rfl,⟨⟨a1,n1,c1,rfl⟩,hs1⟩,hB1⟩;have HB1:Hid (Below w.heap.size w w1):=ak HLb.out.below hB1 HLb.out.size;have hr1:w1.heap[w.heap.size]?=some (.cells #[.slice none 0 0,.slice none 0 0,.int .i64 0,.int .i64 0,.bool false] 26 (0,0)):=by rw[hB1.block _ (by omega)];exact HRs.out
 have hz1:w.heap.size+1≤w1.heap.size:=by have:=hB1.size;omega
 have HS1:=au hs1;have HR1:=au hr1;clear hB1 hs1 HFo HWb HRs
 by_cases h0:fo=0
 ·subst h0;obtain⟨hl2,hsm⟩:=HGo.out rfl;have HV1:=au (aB.dO (HS1.out rfl));have hn1:n1=ss.length:=by obtain⟨_,_,e⟩:=aB.slice HV1.out;simp only[Value.slice.injEq] at e;exact e.2.1
  subst hn1;have HX1:Hid (SF=(0,⟨l,l,0,0,decide (countP ss=0)⟩)):=by show _=_;rw[HX.out];simp
  have HO1:=au (GL (.slice fa l.length fc) l w1 (HF.out.below HB1.out));have HSm:=au hsm;clear HX HGo HS1 hr1 hsm
  go_wp2_with fail
  refine HO1.out.mono ?_;rintro e w2 ⟨v2,rfl,hO2,hL2⟩;obtain⟨a2,c2,rfl⟩:=hO2.slice;have HB2:Hid (Below w.heap.size w w2):=ak HB1.out hL2.below HB1.out.size;have HO2:=au (GL (.slice fa l.length fc) l w2 (HF.out.below HB2.out));have HR2:Hid (w2.heap[w.heap.size]?=some (.cells #[.slice none 0 0,.slice none 0 0,.int .i64 0,.int .i64 0,.bool false] 26 (0,0))):=by show _=_;rw[hL2.block (by omega)];exact HR1.out
  have HV2:=au (aB.aS HV1.out hL2);have HK2:=au (hO2.base (base':=w.heap.size+1) (by omega));have hz2:w.heap.size+1≤w2.heap.size:=by have:=hL2.size;omega
  clear hO2 hL2 HO1 HB1 HR1 HV1 hz1
  go_wp2_with fail
  refine HO2.out.mono ?_;rintro e w3 ⟨v3,rfl,hO3,hL3⟩;obtain⟨a3,c3,rfl⟩:=hO3.slice;have HB3:Hid (Below w.heap.size w w3):=ak HB2.out hL3.below HB2.out.size;have HR3:Hid (w3.heap[w.heap.size]?=some (.cells #[.slice none 0 0,.slice none 0 0,.int .i64 0,.int .i64 0,.bool false] 26 (0,0))):=by show _=_;rw[hL3.block (by omega)];exact HR2.out
  have HK3:=au (HK2.out.later hL3);have HN3:=au (hO3.base (base':=w.heap.size+1) (by omega));have HCn:=au (BR ss (.slice a1 ss.length c1) w3 (aB.aS HV2.out hL3) HSm.out);have hz3:w.heap.size+1≤w3.heap.size:=by have:=hL3.size;omega
  have hcs:countP ss≤1000:=countP_le HSm.out;clear hO3 hL3 HO2 HB2 HR2 HV2 HK2 hz2
  go_wp2_with fail
  refine HCn.out.mono ?_;rintro e w4 ⟨rfl,hL4⟩;have HB4:Hid (Below w.heap.size w w4):=ak HB3.out hL4.below HB3.out.size;have HR4:Hid (w4.heap[w.heap.size]?=some (.cells #[.slice none 0 0,.slice none 0 0,.int .i64 0,.int .i64 0,.bool false] 26 (0,0))):=by show _=_;rw[hL4.block (by omega)];exact HR3.out
  have HK4:=au (HK3.out.later hL4);have HN4:=au (HN3.out.later hL4);clear hL4 HCn HB3 HR3 HK3 HN3;obtain⟨q0,q1,q2,q3,q4,⟨f0,f1,f2,f3,f4⟩,_⟩:=dQ HR4.out;have HEq:Hid ((((countP ss:Nat):Int)==0)=decide (countP ss=0)):=by
   show _=_
   by_cases h:countP ss=0
   ·simp[h]
   simp[h]
  generalize countP ss=cc at*;go_wp2;obtain⟨r0,r1,r2,r3,r4⟩:=lI HR4.out (.slice a2 l.length c2) (.slice a3 l.length c3) (.int .i64 0) (.int .i64 0) (.bool ((cc:Int)==0));exact bodyPost_ret (v:=.tuple #[.agg #[.slice a2 l.length c2,.slice a3 l.length c3,.int .i64 0,.int .i64 0,.bool ((cc:Int)==0)],.int .i64 0]) (by simp[results,Tryz.results4,go_sem,r0,r1,r2,r3,r4]) rfl
   ⟨_,0,rfl,by rw[HX1.out];exact⟨rfl,_,_,by rw[HEq.out],HK4.out.cO (by omega),HN4.out.cO (by omega)⟩,Below.cO HB4.out (Nat.le_refl _)⟩
 have HX1:Hid (SF=(fo,cK)):=by show _=_;rw[HX.out,if_pos h0]
 have hne:(fo != 0)=true:=by simpa using h0
 obtain⟨q0,q1,q2,q3,q4,⟨f0,f1,f2,f3,f4⟩,_⟩:=dQ hr1;clear HX HGo HS1 h0 hr1;go_wp2;obtain⟨r0,r1,r2,r3,r4⟩:=lI HR1.out (.slice none 0 0) (.slice none 0 0) (.int .i64 0) (.int .i64 0) (.bool false);exact bodyPost_ret (v:=.tuple #[.agg #[.slice none 0 0,.slice none 0 0,.int .i64 0,.int .i64 0,.bool false],.int .i64 fo]) (by simp[results,Tryz.results4,go_sem,r0,r1,r2,r3,r4]) rfl ⟨_,fo,rfl,by rw[HX1.out];exact⟨rfl,ou.none _ _⟩,Below.cO HB1.out (Nat.le_refl _)⟩
def Nu (p:List aD) (l:List aF):Int×List aF:=if j5 p l≠0 then(j5 p l,[]) else
 if(cZ p (aK p).1 1000 (Co p l)).1≠0 then((cZ p (aK p).1 1000 (Co p l)).1,[]) else(0,(cZ p (aK p).1 1000 (Co p l)).2.known)
end Go.Proofs.YthngiikhgplldaaGreatDoor
