import Derived.Test.YtafmbokfkbccaaaGreatDoorJA27
namespace Go.Proofs.YtafmbokfkbccaaaGreatDoor
open Go.RowKit Go.Sort
theorem J6 {w:World} {c:Nat} {f:au} {s0:Value} {t:TypeId} {fr:Nat×Nat} (h:w.heap[c]?=some (.cells #[.string f.1,s0] t fr)) (h0:Strs w s0 f.2):Facts w (.slice (some ⟨c,0,none⟩) 1 1) [f]:=by
 refine⟨by simp,_,1,rfl,fun _=>⟨c,0,rfl,(Array.getElem?_eq_some_iff.1 h).1,fun i hi=> ?_⟩⟩;rw[cell_of_row _ _ _ _ _ _ h,cell_of_row _ _ _ _ _ _ h];simp at hi;subst hi;exact⟨rfl,s0,rfl,h0⟩
theorem xO.isF {s l:List au} (h:xO s l):s=dN l:=p8 h.1 h.2.1
set_option maxRecDepth 100000 in
set_option maxHeartbeats 2000000 in
theorem Pq (p:Nat) (B:Nat→Prop) (d:dH) (f:au) (fv tv rv kv nv sv:Value) (w:World) (hD:fH p B w d tv rv kv nv sv) (hB:¬B p) (hf:dz w fv f):
  Calls Tryz.prog 133 #[.pointer (some ⟨p,0,none⟩),fv] w fun e w'=>∃v,e=.returned v∧bY p B w w' v (uz d f):=by
 have hp:=hD.lt;obtain⟨fs,rfl,hfs⟩:=hf;obtain⟨fa,fc,rfl⟩:=aW hfs;obtain⟨w1,hw1⟩:∃w1,w1=w.alloc (.cells #[.string f.1,.slice fa f.2.length fc] 27):=⟨_,rfl⟩;obtain⟨w2,hw2⟩:∃w2,w2=w1.alloc (.cells #[.int .i64 0,.int .i64 0,.int .i64 0,.slice none 0 0,.string ⟨#[]⟩,.slice none 0 0,.int .i64 0,.slice none 0 0] 64):=⟨_,rfl⟩;have hz1:w1.heap.size=w.heap.size+1:=by rw[hw1];simp
 have hz2:w2.heap.size=w.heap.size+2:=by rw[hw2];simp;omega
 have hL1:Later w w1:=by rw[hw1];exact(Later.refl w).alloc _
 have Dr:Later w1 w2:=by rw[hw2];exact(Later.refl w1).alloc _
 have hL2:Later w w2:=hL1.trans Dr;have hr2:w2.heap[w.heap.size+1]?=some (.cells #[.int .i64 0,.int .i64 0,.int .i64 0,.slice none 0 0,.string ⟨#[]⟩,.slice none 0 0,.int .i64 0,.slice none 0 0] 64 (0,0)):=by rw[hw2,←hz1];exact H6 w1
 have hb2:w2.heap[w.heap.size]?=some (.cells #[.string f.1,.slice fa f.2.length fc] 27 (0,0)):=(Dr.block (by omega)).trans (by rw[hw1];exact heap_alloc_new w _);have hD2:=hD.below hL2.below;have hf2:dz w2 (.agg #[.string f.1,.slice fa f.2.length fc]) f:=⟨_,rfl,hfs.later hL2⟩;obtain⟨⟨ta,tc,rfl⟩,⟨ra,rc,rfl⟩,⟨xka,xkc,rfl⟩,⟨xna,xnc,rfl⟩,⟨xsa,xsc,rfl⟩⟩:=hD.slices;have HC:=hide (wrong (.agg #[.string f.1,.slice fa f.2.length fc]) f w2 hf2);have HX0:Hid (uz d f=if fu f≠0 then(d,kD (fu f)) else if 200<(dN (d.told++[f])).length then(d,kD 5) else({d with told:=dN (d.told++[f])},qD (dN (d.told++[f])).length)):=(rfl:_=_);have HTl:Hid (d.told.length≤1000):=hD.told.1;have HW1:=hide hw1;have HW2:=hide hw2;have HL2:=hide hL2;have HR:=hide hr2;have HD:=hide hD;have HB:=hide hB;have HB2:=hide hb2;have HD2:=hide hD2;have HF2:=hide hf2;obtain⟨b0,b1,_,_,_⟩:=jM hb2;have b1':w2.cell? ⟨w.heap.size,0+1,none⟩=some (.slice fa f.2.length fc):=b1;clear hw1 hw2 hL1 Dr hL2 hr2 hb2 hD hB hD2 hf2 hfs;generalize fu f=we at*
 go_enter Tryz.func133,Tryz.ntmps133
 go_wp2_with (first|(rw[←HW1.out])|(rw[←HW2.out])|fail)
 refine HC.out.mono ?_;rintro e w3 ⟨rfl,hL3⟩;have hz3:=hL3.size;have HBw:Hid (Below w.heap.size w w3):=(HL2.out.trans hL3).below;have ni:Hid (w3.heap[w.heap.size+1]?=_):=(hL3.block (by omega)).trans HR.out;have hb3:=(hL3.block (by omega)).trans HB2.out;clear b0 b1 b1' HC HW1 HW2
 by_cases h0:we=0
 ·subst h0;have HX1:Hid (uz d f=if 200<(dN (d.told++[f])).length then(d,kD 5) else({d with told:=dN (d.told++[f])},qD (dN (d.told++[f])).length)):=by show _=_;rw[HX0.out];simp
  have hD3:=HD2.out.below hL3.below;have HCe:Hid (∀w',Later w3 w'→(w'.heap[p]?=some (.cells #[.slice ta d.told.length tc,.slice ra d.rules.length rc,.bool d.running,.slice xka d.run.known.length xkc,.slice xna d.run.fresh.length xnc,.int .i64 d.run.level,.int .i64 d.run.rounds,.bool d.run.done,.slice xsa d.saved.length xsc] 140 (0,0))∧w'.heap[w.heap.size]?=some (.cells #[.string f.1,.slice fa f.2.length fc] 27 (0,0)))):=fun w' h=>⟨(h.block (by omega)).trans hD3.row,(h.block (by omega)).trans hb3⟩;have HT3:=hide (hD3.told.facts);obtain⟨fs3,e3,T9⟩:=HF2.out;simp only[Value.agg.injEq,Array.mk.injEq,List.cons.injEq,true_and,and_true] at e3;subst e3;have HF3:=hide (T9.later hL3);have HL3:=hide hL3;clear HX0 hD3 hb3 T9 hL3 HB2 HD2 HF2;go_wp2;refine wp_region_held_drew (S:=fun w'=>Later w3 w') (by kernel_rfl) (Later.refl w3).drew (fun hHeld=> ?_);refine ak (i:=0) (d:=some 13) (v:= ?_) rfl rfl hHeld ?_ ?_;rotate_left;focus intro w hSw;(try dsimp only at hSw);obtain⟨s1,s2⟩:=HCe.out _ hSw;obtain⟨⟨c0,c1,c2,c3,c4,c5,c6,c7,c8⟩,_,_⟩:=jN s1;obtain⟨b0,b1,_,_,_⟩:=jM s2;have b1':w.cell? ⟨_,0+1,none⟩=some (.slice fa f.2.length fc):=b1;go_simp;try with_reducible rfl
  simp only[aK,aL,aze,asu];refine ak (i:=1) (d:=some 14) (v:= ?_) rfl rfl hHeld ?_ ?_;rotate_left;focus intro w hSw;(try dsimp only at hSw);obtain⟨s1,s2⟩:=HCe.out _ hSw;obtain⟨⟨c0,c1,c2,c3,c4,c5,c6,c7,c8⟩,_,_⟩:=jN s1;obtain⟨b0,b1,_,_,_⟩:=jM s2;have b1':w.cell? ⟨_,0+1,none⟩=some (.slice fa f.2.length fc):=b1;go_simp;try with_reducible rfl
  simp only[aK,aL,aze,asu];refine ak (i:=2) (d:=some 15) (v:= ?_) rfl rfl hHeld ?_ ?_;rotate_left;focus intro w hSw;(try dsimp only at hSw);obtain⟨s1,s2⟩:=HCe.out _ hSw;obtain⟨⟨c0,c1,c2,c3,c4,c5,c6,c7,c8⟩,_,_⟩:=jN s1;obtain⟨b0,b1,_,_,_⟩:=jM s2;have b1':w.cell? ⟨_,0+1,none⟩=some (.slice fa f.2.length fc):=b1;go_simp;try with_reducible rfl
  simp only[aK,aL,aze,asu];refine ak (i:=3) (d:=some 16) (v:= ?_) rfl rfl hHeld ?_ ?_;rotate_left;focus intro w hSw;(try dsimp only at hSw);obtain⟨s1,s2⟩:=HCe.out _ hSw;obtain⟨⟨c0,c1,c2,c3,c4,c5,c6,c7,c8⟩,_,_⟩:=jN s1;obtain⟨b0,b1,_,_,_⟩:=jM s2;have b1':w.cell? ⟨_,0+1,none⟩=some (.slice fa f.2.length fc):=b1;go_simp;try with_reducible rfl
  simp only[aK,aL,aze,asu];refine ak (i:=4) (d:=some 17) (v:= ?_) rfl rfl hHeld ?_ ?_;rotate_left;focus intro w hSw;(try dsimp only at hSw);obtain⟨s1,s2⟩:=HCe.out _ hSw;obtain⟨⟨c0,c1,c2,c3,c4,c5,c6,c7,c8⟩,_,_⟩:=jN s1;obtain⟨b0,b1,_,_,_⟩:=jM s2;have b1':w.cell? ⟨_,0+1,none⟩=some (.slice fa f.2.length fc):=b1;go_simp;try with_reducible rfl
  simp only[aK,aL,aze,asu];refine ak (i:=5) (d:=some 18) (v:= ?_) rfl rfl hHeld ?_ ?_;rotate_left;focus intro w hSw;(try dsimp only at hSw);obtain⟨s1,s2⟩:=HCe.out _ hSw;obtain⟨⟨c0,c1,c2,c3,c4,c5,c6,c7,c8⟩,_,_⟩:=jN s1;obtain⟨b0,b1,_,_,_⟩:=jM s2;have b1':w.cell? ⟨_,0+1,none⟩=some (.slice fa f.2.length fc):=b1;go_simp;try with_reducible rfl
  simp only[aK,aL,aze,asu];refine wpAnyH_ready (rs:=[6]) (by kernel_rfl) (by simp) ?_;refine AllReadyH.cons rfl (fun K' hK=> ?_) AllReadyH.nil;go_simp;obtain⟨w4,hw4⟩:∃w4,w4=(w3.alloc (.cells #[.string f.1,.slice fa f.2.length fc] 27)).drew:=⟨_,rfl⟩;have hL4:Later w3 w4:=by rw[hw4];exact((Later.refl w3).alloc _).drew
  have hr4:w4.heap[w3.heap.size]?=some (.cells #[.string f.1,.slice fa f.2.length fc] 27 (0,0)):=by rw[hw4];exact heap_alloc_new w3 _
  rw[←hw4];clear hw4;refine hK.out _ _ hL4 (fun hHeld=> ?_);clear hK K';have hF4:Facts w4 (.slice (some ⟨w3.heap.size,0,none⟩) 1 1) [f]:=J6 hr4 (HF3.out.later hL4);have HJ:=hide (Mj (.slice ta d.told.length tc) (.slice (some ⟨w3.heap.size,0,none⟩) 1 1) d.told [f] w4 (HT3.out.later hL4) hF4 (by have:=HTl.out;simp;omega));have hz4:=hL4.size;clear hF4 hr4 HT3 HF3;refine wpAnyH_ready (rs:=[7]) (by kernel_rfl) (by simp) ?_;refine AllReadyH.cons rfl (fun K' hK=> ?_) AllReadyH.nil;go_simp;refine HJ.out.mono ?_;rintro e w5 ⟨v5,s5,rfl,hs5,hO5,hL5⟩;have hs5:=hs5.isF;subst hs5;obtain⟨ja,jc,rfl⟩:=hO5.slice;refine hK.out _ _ (hL4.trans hL5) (fun hHeld=> ?_);clear hK K';refine ak (i:=8) (d:=some 6) (v:= ?_) rfl rfl hHeld ?_ ?_;rotate_left;focus intro w hSw;(try dsimp only at hSw);go_simp;try with_reducible rfl
  simp only[aK,aL,aze,asu];clear hHeld;refine wpAnyH_done (by kernel_rfl) ?_ _;have hz5:=hL5.size;have RN:=hL4.trans hL5;have HB5:Hid (Below w.heap.size w w5):=(HL2.out.trans (HL3.out.trans RN)).below;have Dv:Hid (w5.heap[w.heap.size+1]?=_):=(RN.block (by omega)).trans ni.out;have HO5:=hide hO5;clear hL4 hL5 RN hO5 HJ HCe ni HBw HL3 HL2;generalize dN (d.told++[f])=js at*
  by_cases h2:200<js.length
  ·have HX:Hid (uz d f=(d,kD 5)):=by show _=_;rw[HX1.out,if_pos h2]
   have ni:=Dv;clear Dv HX1 HO5;generalize js.length=jn at*;have HCr:=hide (gN 5 w5);unfold jO at HCr
   go_wp2_with fail
   refine HCr.out.mono ?_;rintro e w6 ⟨rfl,hBr⟩;have HRz:Hid (w6.heap[(w.heap.size+1)]?=_):=(hBr.block _ (by omega)).trans ni.out;obtain⟨⟨z0,z1,z2,z3,z4,z5,z6,z7⟩,zfz,zlt⟩:=gD HRz.out;have HBn:=hide (aj HB5.out hBr HB5.out.size);clear hBr HCr;go_wp2;have hD2:=(HD.out.mono (B':=fun k=>B k∧k<w.heap.size) fun _ hk hb=>⟨hb,hk⟩).below HBn.out;have hrow:=bg HRz.out (.int .i64 5) (.int .i64 0) (.int .i64 0) (.slice none 0 0) (.string ⟨#[]⟩) (.slice none 0 0) (.int .i64 0) (.slice none 0 0);obtain⟨⟨r0,r1,r2,r3,r4,r5,r6,r7⟩,_,_⟩:=gD hrow;unfold kW at r0 r1 r2 r3 r4 r5 r6 r7;have hTz:=bM w6 (w.heap.size+1) (.int .i64 5) (.int .i64 0) (.int .i64 0) (.slice none 0 0) (.string ⟨#[]⟩) (.slice none 0 0) (.int .i64 0) (.slice none 0 0);exact bodyPost_ret (v:=.agg #[.int .i64 5,.int .i64 0,.int .i64 0,.slice none 0 0,.string ⟨#[]⟩,.slice none 0 0,.int .i64 0,.slice none 0 0]) (by simp[results,Tryz.results133,go_sem,r0,r1,r2,r3,r4,r5,r6,r7]) rfl
    ⟨_,rfl,by rw[HX.out];exact bY.lay (R:=(w.heap.size+1)) (om.plain _ _ _ _ _) (hD2.mono fun k _ hb=>⟨Or.inl hb.1,by omega⟩) (Tn.of_below HBn.out) hTz (by omega) hp⟩
  ·have HX:Hid (uz d f=({d with told:=js},qD js.length)):=by show _=_;rw[HX1.out,if_neg h2]
   have hD5:=HD.out.past (m:=w.heap.size+1) HB5.out;obtain⟨⟨c0,c1,c2,c3,c4,c5,c6,c7,c8⟩,cfz,_⟩:=jN hD5.row;obtain⟨w6,hw6⟩:∃w6,w6=w5.setCell ⟨p,0,none⟩ (.slice ja js.length jc):=⟨_,rfl⟩;have hT6:Tn p w5 w6:=by rw[hw6];exact(Tn.refl p w5).setCell (Or.inl rfl) _
   have qB:=bI (j:=0) hD5.row (.slice ja js.length jc);rw[←hw6] at qB;have HRz:Hid (w6.heap[w.heap.size+1]?=_):=(hT6.block _ (by omega) (by omega)).trans Dv.out;obtain⟨⟨z0,z1,z2,z3,z4,z5,z6,z7⟩,zfz,zlt⟩:=gD HRz.out;have hw:∀k,k<w6.heap.size→((B k∧k<w.heap.size)∨w.heap.size+1<k)→(B k∨w.heap.size≤k)∧k≠w.heap.size+1:=fun k _ hb=>by
    rcases hb with hb|hb
    ·exact⟨Or.inl hb.1,by omega⟩
    ·exact⟨Or.inr (by omega),by omega⟩
   have hkk:∀k,k<w5.heap.size→((B k∧k<w.heap.size)∨w.heap.size+1<k)→w6.heap[k]?=w5.heap[k]?:=fun k hk hb=>hT6.block k hk (fun e=>by
    rcases hb with hb|hb
    ·exact HB.out (e▸hb.1)
    ·omega)
   have hsl:bC (fun k=>(B k∧k<w.heap.size)∨w.heap.size+1<k) w5 (.slice ja js.length jc) js:=HO5.out.past (by omega) (by omega);have HD3:Hid (fH p (fun k=>(B k∨w.heap.size≤k)∧k≠w.heap.size+1) w6 {d with told:=js} (.slice ja js.length jc) _ _ _ _):=⟨qB,(hsl.kept hT6.size hkk).mono hw,Kind.aH (Kind.aM hD5.rules hT6.size hkk) hw,(hD5.known.kept hT6.size hkk).mono hw,(hD5.fresh.kept hT6.size hkk).mono hw,Kind.aH (Kind.aM hD5.saved hT6.size hkk) hw⟩;have HT3:Hid (Tn p w w6):=(Tn.of_below HB5.out).trans hT6;have HW6:=hide hw6;clear hD5 qB hw hkk hsl hT6 hw6 Dv HX1 HO5;generalize js.length=jn at*
   go_wp2_with (rw[←HW6.out])
   have hrow:=bg HRz.out (.int .i64 0) (.int .i64 0) (.int .i64 jn) (.slice none 0 0) (.string ⟨#[]⟩) (.slice none 0 0) (.int .i64 0) (.slice none 0 0);obtain⟨⟨r0,r1,r2,r3,r4,r5,r6,r7⟩,_,_⟩:=gD hrow;unfold kW at r0 r1 r2 r3 r4 r5 r6 r7;have hTz:=bM w6 (w.heap.size+1) (.int .i64 0) (.int .i64 0) (.int .i64 jn) (.slice none 0 0) (.string ⟨#[]⟩) (.slice none 0 0) (.int .i64 0) (.slice none 0 0);exact bodyPost_ret (v:=.agg #[.int .i64 0,.int .i64 0,.int .i64 jn,.slice none 0 0,.string ⟨#[]⟩,.slice none 0 0,.int .i64 0,.slice none 0 0]) (by simp[results,Tryz.results133,go_sem,r0,r1,r2,r3,r4,r5,r6,r7]) rfl
    ⟨_,rfl,by rw[HX.out];exact bY.lay (R:=w.heap.size+1) (om.plain _ _ _ _ _) HD3.out HT3.out hTz (by omega) hp⟩
 ·have HX:Hid (uz d f=(d,kD we)):=by show _=_;rw[HX0.out,if_pos h0]
  have hne:(we != 0)=true:=by simpa using h0
  clear h0 HX0 hL3 hb3 HD2 HF2 HB2;have HCr:=hide (gN we w3);unfold jO at HCr
  go_wp2_with fail
  refine HCr.out.mono ?_;rintro e w4 ⟨rfl,hBr⟩;have HRz:Hid (w4.heap[(w.heap.size+1)]?=_):=(hBr.block _ (by omega)).trans ni.out;obtain⟨⟨z0,z1,z2,z3,z4,z5,z6,z7⟩,zfz,zlt⟩:=gD HRz.out;have HBn:=hide (aj HBw.out hBr HBw.out.size);clear hBr HCr;go_wp2;have hD2:=(HD.out.mono (B':=fun k=>B k∧k<w.heap.size) fun _ hk hb=>⟨hb,hk⟩).below HBn.out;have hrow:=bg HRz.out (.int .i64 we) (.int .i64 0) (.int .i64 0) (.slice none 0 0) (.string ⟨#[]⟩) (.slice none 0 0) (.int .i64 0) (.slice none 0 0);obtain⟨⟨r0,r1,r2,r3,r4,r5,r6,r7⟩,_,_⟩:=gD hrow;unfold kW at r0 r1 r2 r3 r4 r5 r6 r7;have hTz:=bM w4 (w.heap.size+1) (.int .i64 we) (.int .i64 0) (.int .i64 0) (.slice none 0 0) (.string ⟨#[]⟩) (.slice none 0 0) (.int .i64 0) (.slice none 0 0);exact bodyPost_ret (v:=.agg #[.int .i64 we,.int .i64 0,.int .i64 0,.slice none 0 0,.string ⟨#[]⟩,.slice none 0 0,.int .i64 0,.slice none 0 0]) (by simp[results,Tryz.results133,go_sem,r0,r1,r2,r3,r4,r5,r6,r7]) rfl
   ⟨_,rfl,by rw[HX.out];exact bY.lay (R:=(w.heap.size+1)) (om.plain _ _ _ _ _) (hD2.mono fun k _ hb=>⟨Or.inl hb.1,by omega⟩) (Tn.of_below HBn.out) hTz (by omega) hp⟩
end Go.Proofs.YtafmbokfkbccaaaGreatDoor
namespace Go.Proofs.YtafmbokfkbccaaaGreatDoor
open Go.RowKit Go.Sort
set_option maxRecDepth 100000 in
set_option maxHeartbeats 1000000 in
theorem qE (e a:Int) (w:World):Calls Tryz.prog 201 #[.agg #[.int .i64 e,.int .i64 a]] w fun r w'=>r=.returned (jO e a 0)∧Below w.heap.size w w':=by
 obtain⟨w0,hw0⟩:∃w0,w0=w.alloc (.cells #[.int .i64 e,.int .i64 a] 75):=⟨_,rfl⟩;obtain⟨w1,hw1⟩:∃w1,w1=w0.alloc (.cells #[.int .i64 0,.int .i64 0,.int .i64 0,.slice none 0 0,.string ⟨#[]⟩,.slice none 0 0,.int .i64 0,.slice none 0 0] 64):=⟨_,rfl⟩;have hz0:w0.heap.size=w.heap.size+1:=by rw[hw0];simp
 have hL0:Later w w0:=by rw[hw0];exact(Later.refl w).alloc _
 have Ey:Later w0 w1:=by rw[hw1];exact(Later.refl w0).alloc _
 have hr1:w1.heap[w.heap.size+1]?=some (.cells #[.int .i64 0,.int .i64 0,.int .i64 0,.slice none 0 0,.string ⟨#[]⟩,.slice none 0 0,.int .i64 0,.slice none 0 0] 64 (0,0)):=by rw[hw1,←hz0];exact H6 w0
 have hb1:w1.heap[w.heap.size]?=some (.cells #[.int .i64 e,.int .i64 a] 75 (0,0)):=(Ey.block (by omega)).trans (by rw[hw0];exact heap_alloc_new w _);obtain⟨⟨q0,q1,q2,q3,q4,q5,q6,q7⟩,hfz,hlt⟩:=gD hr1;obtain⟨b0,b1,_,_,_⟩:=jM hb1;have HR:=hide hr1;have HW0:=hide hw0;have HW1:=hide hw1;have HL1:=hide (hL0.trans Ey);clear hw0 hw1 hr1 hb1 hL0 Ey
 go_enter Tryz.func201,Tryz.ntmps201
 go_wp2_with (first|(rw[←HW0.out])|(rw[←HW1.out])|fail)
 have hrow:=bg HR.out (.int .i64 e) (.int .i64 a) (.int .i64 0) (.slice none 0 0) (.string ⟨#[]⟩) (.slice none 0 0) (.int .i64 0) (.slice none 0 0);obtain⟨⟨r0,r1,r2,r3,r4,r5,r6,r7⟩,_,_⟩:=gD hrow;unfold kW at r0 r1 r2 r3 r4 r5 r6 r7;exact bodyPost_ret (v:=jO e a 0) (by simp[results,Tryz.results201,go_sem,r0,r1,r2,r3,r4,r5,r6,r7,jO]) rfl ⟨rfl,by
  have hT:=bM w1 (w.heap.size+1) (.int .i64 e) (.int .i64 a) (.int .i64 0) (.slice none 0 0) (.string ⟨#[]⟩) (.slice none 0 0) (.int .i64 0) (.slice none 0 0);unfold kW at hT;exact HL1.out.below.trans (hT.below (by omega) HL1.out.size)⟩
def MQ (w:World) (R:Nat) (x0 x1 x2 x3 x4 x5 x6 x7 x8:Value):World:=((((((((w.setCell ⟨R,0,none⟩ x0).setCell ⟨R,1,none⟩ x1).setCell ⟨R,2,none⟩ x2).setCell ⟨R,3,none⟩ x3).setCell ⟨R,4,none⟩ x4).setCell ⟨R,5,none⟩ x5).setCell ⟨R,6,none⟩ x6).setCell ⟨R,7,none⟩ x7).setCell ⟨R,8,none⟩ x8
theorem yJ {w:World} {R:Nat} {u0 u1 u2 u3 u4 u5 u6 u7 u8:Value} {t:TypeId} (h:w.heap[R]?=some (.cells #[u0,u1,u2,u3,u4,u5,u6,u7,u8] t (0,0))) (x0 x1 x2 x3 x4 x5 x6 x7 x8:Value):(MQ w R x0 x1 x2 x3 x4 x5 x6 x7 x8).heap[R]?=some (.cells #[x0,x1,x2,x3,x4,x5,x6,x7,x8] t (0,0)):=by
 have h0:(w.setCell ⟨R,0,none⟩ x0).heap[R]?=some (.cells #[x0,u1,u2,u3,u4,u5,u6,u7,u8] t (0,0)):=bI (j:=0) h x0;have h1:((w.setCell ⟨R,0,none⟩ x0).setCell ⟨R,1,none⟩ x1).heap[R]?=some (.cells #[x0,x1,u2,u3,u4,u5,u6,u7,u8] t (0,0)):=bI (j:=1) h0 x1;have h2:(((w.setCell ⟨R,0,none⟩ x0).setCell ⟨R,1,none⟩ x1).setCell ⟨R,2,none⟩ x2).heap[R]?=some (.cells #[x0,x1,x2,u3,u4,u5,u6,u7,u8] t (0,0)):=bI (j:=2) h1 x2;have h3:((((w.setCell ⟨R,0,none⟩ x0).setCell ⟨R,1,none⟩ x1).setCell ⟨R,2,none⟩ x2).setCell ⟨R,3,none⟩ x3).heap[R]?=some (.cells #[x0,x1,x2,x3,u4,u5,u6,u7,u8] t (0,0)):=bI (j:=3) h2 x3;have h4:(((((w.setCell ⟨R,0,none⟩ x0).setCell ⟨R,1,none⟩ x1).setCell ⟨R,2,none⟩ x2).setCell ⟨R,3,none⟩ x3).setCell ⟨R,4,none⟩ x4).heap[R]?=some (.cells #[x0,x1,x2,x3,x4,u5,u6,u7,u8] t (0,0)):=bI (j:=4) h3 x4;have h5:((((((w.setCell ⟨R,0,none⟩ x0).setCell ⟨R,1,none⟩ x1).setCell ⟨R,2,none⟩ x2).setCell ⟨R,3,none⟩ x3).setCell ⟨R,4,none⟩ x4).setCell ⟨R,5,none⟩ x5).heap[R]?=some (.cells #[x0,x1,x2,x3,x4,x5,u6,u7,u8] t (0,0)):=bI (j:=5) h4 x5;have h6:(((((((w.setCell ⟨R,0,none⟩ x0).setCell ⟨R,1,none⟩ x1).setCell ⟨R,2,none⟩ x2).setCell ⟨R,3,none⟩ x3).setCell ⟨R,4,none⟩ x4).setCell ⟨R,5,none⟩ x5).setCell ⟨R,6,none⟩ x6).heap[R]?=some (.cells #[x0,x1,x2,x3,x4,x5,x6,u7,u8] t (0,0)):=bI (j:=6) h5 x6
 have h7:((((((((w.setCell ⟨R,0,none⟩ x0).setCell ⟨R,1,none⟩ x1).setCell ⟨R,2,none⟩ x2).setCell ⟨R,3,none⟩ x3).setCell ⟨R,4,none⟩ x4).setCell ⟨R,5,none⟩ x5).setCell ⟨R,6,none⟩ x6).setCell ⟨R,7,none⟩ x7).heap[R]?=some (.cells #[x0,x1,x2,x3,x4,x5,x6,x7,u8] t (0,0)):=bI (j:=7) h6 x7;have h8:(((((((((w.setCell ⟨R,0,none⟩ x0).setCell ⟨R,1,none⟩ x1).setCell ⟨R,2,none⟩ x2).setCell ⟨R,3,none⟩ x3).setCell ⟨R,4,none⟩ x4).setCell ⟨R,5,none⟩ x5).setCell ⟨R,6,none⟩ x6).setCell ⟨R,7,none⟩ x7).setCell ⟨R,8,none⟩ x8).heap[R]?=some (.cells #[x0,x1,x2,x3,x4,x5,x6,x7,x8] t (0,0)):=bI (j:=8) h7 x8;exact h8
theorem Cv (w:World) (b:Nat) (x0 x1 x2 x3 x4 x5 x6 x7 x8:Value):Tn b w (MQ w b x0 x1 x2 x3 x4 x5 x6 x7 x8):=
 (((((((((Tn.refl b w).setCell (Or.inl rfl) _).setCell (Or.inl rfl) _).setCell (Or.inl rfl) _).setCell (Or.inl rfl) _).setCell (Or.inl rfl) _).setCell (Or.inl rfl) _).setCell (Or.inl rfl) _).setCell (Or.inl rfl) _).setCell (Or.inl rfl) _
set_option maxRecDepth 100000 in
set_option maxHeartbeats 2000000 in
theorem Pt (p:Nat) (B:Nat→Prop) (d:dH) (t:ByteArray) (tv rv kv nv sv:Value) (w:World) (hD:fH p B w d tv rv kv nv sv) (hB:¬B p) (m:Int) (hm:w.cell? ⟨1,0,none⟩=some (.int .i64 m)) (hmw:1<w.heap.size):
  Calls Tryz.prog 134 #[.pointer (some ⟨p,0,none⟩),.string t] w fun e w'=>∃v,e=.returned v∧bY p B w w' v (uD d t):=by
 have hp:=hD.lt;obtain⟨w1,hw1⟩:∃w1,w1=w.alloc (.cells #[.int .i64 0,.int .i64 0,.int .i64 0,.slice none 0 0,.string ⟨#[]⟩,.slice none 0 0,.int .i64 0,.slice none 0 0] 64):=⟨_,rfl⟩;have hz1:w1.heap.size=w.heap.size+1:=by rw[hw1];simp
 have hL1:Later w w1:=by rw[hw1];exact(Later.refl w).alloc _
 have hr1:w1.heap[w.heap.size]?=some (.cells #[.int .i64 0,.int .i64 0,.int .i64 0,.slice none 0 0,.string ⟨#[]⟩,.slice none 0 0,.int .i64 0,.slice none 0 0] 64 (0,0)):=by rw[hw1];exact H6 w
 have hD1:=hD.below hL1.below;obtain⟨⟨c0,c1,c2,c3,c4,c5,c6,c7,c8⟩,cfz,_⟩:=jN hD1.row;obtain⟨⟨ta,tc,rfl⟩,⟨ra,rc,rfl⟩,⟨xka,xkc,rfl⟩,⟨xna,xnc,rfl⟩,⟨xsa,xsc,rfl⟩⟩:=hD.slices;have HC:=hide (Pk t w1 m (by rw[hL1.cell (p:=⟨1,0,none⟩) hmw];exact hm));have HX0:Hid (uD d t=if(bB (raw t)).2.1≠0 then(d,Bp (bB (raw t)).2.1 (bB (raw t)).2.2) else
  if(aG (bB (raw t)).1).2.1≠0 then(d,Bp (aG (bB (raw t)).1).2.1 (aG (bB (raw t)).1).2.2) else(⟨d.told,(bB (raw t)).1,false,dY,[]⟩,qD (bB (raw t)).1.length)):=(rfl:_=_)
 obtain⟨rs,e1,a1,htr⟩:∃rs e1 a1,bB (raw t)=(rs,e1,a1):=⟨_,_,_,rfl⟩;rw[htr] at HC HX0;clear htr;dsimp only at HC HX0;have HW1:=hide hw1;have HL1:=hide hL1;have HR:=hide hr1;have HD:=hide hD;have HB:=hide hB;clear hw1 hL1 hr1 hD hB hD1 c0 c1 c2 c3 c4 c5 c6 c7 c8 cfz hm
 go_enter Tryz.func134,Tryz.ntmps134
 go_wp2_with (first|(rw[←HW1.out])|fail)
 refine HC.out.mono ?_;rintro e w2 ⟨v2,rfl,hv2,hB2⟩;obtain⟨va,vn,vc,rfl⟩:∃a n c,v2=.slice a n c:=by obtain⟨a,c,e⟩:=Kind.slice hv2;exact⟨a,_,c,e⟩
 have hvn:vn=rs.length:=by obtain⟨a,c,e⟩:=Kind.slice hv2;simp only[Value.slice.injEq] at e;exact e.2.1
 have HVn:=hide hvn;clear hvn;obtain⟨w3,hw3⟩:∃w3,w3=w2.alloc (.cells #[.int .i64 e1,.int .i64 a1] 75):=⟨_,rfl⟩;have hL3:Later w2 w3:=by rw[hw3];exact(Later.refl w2).alloc _
 have hr3:w3.heap[w2.heap.size]?=some (.cells #[.int .i64 e1,.int .i64 a1] 75 (0,0)):=by rw[hw3];exact heap_alloc_new w2 _
 have FJ:Below w1.heap.size w1 w3:=aj hB2 hL3.below hB2.size;have hz2:=hB2.size;have hz3:=hL3.size;have HBw:Hid (Below w.heap.size w w3):=aj HL1.out.below FJ HL1.out.size;have ni:Hid (w3.heap[w.heap.size]?=_):=(FJ.block _ (by omega)).trans HR.out;have HV3:Hid (dX.sl (From w1.heap.size) w3 (.slice va vn vc) rs):=Kind.aM hv2 hL3.size fun k hk _=>hL3.block hk;obtain⟨b0,b1,_,_,hlt3⟩:=jM hr3;have b1':w3.cell? ⟨w2.heap.size,0+1,none⟩=some (.int .i64 a1):=b1;have HW3:=hide hw3;have HR3:=hide hr3;clear hv2 hB2 hL3 hr3 FJ HC HW1 HR hw3
 by_cases h0:e1=0
 ·subst h0;have HX1:Hid (uD d t=if(aG rs).2.1≠0 then(d,Bp (aG rs).2.1 (aG rs).2.2) else(⟨d.told,rs,false,dY,[]⟩,qD rs.length)):=by show _=_;rw[HX0.out];simp
  have HC:=hide (Ck rs (.slice va vn vc) w3 (Kind.bW HV3.out));obtain⟨ss,e2,a2,hst⟩:∃ss e2 a2,aG rs=(ss,e2,a2):=⟨_,_,_,rfl⟩;rw[hst] at HC HX1;dsimp only at HC HX1;clear hst HX0
  go_wp2_with (first|(rw[←HW3.out])|fail)
  refine HC.out.mono ?_;rintro e w4 ⟨u4,rfl,hu4,hB4⟩;obtain⟨ua,un,uc,rfl⟩:∃a n c,u4=.slice a n c:=by obtain⟨a,c,e⟩:=Kind.slice hu4;exact⟨a,_,c,e⟩
  obtain⟨w5,hw5⟩:∃w5,w5=w4.alloc (.cells #[.int .i64 e2,.int .i64 a2] 75):=⟨_,rfl⟩;have hL5:Later w4 w5:=by rw[hw5];exact(Later.refl w4).alloc _
  have hr5:w5.heap[w4.heap.size]?=some (.cells #[.int .i64 e2,.int .i64 a2] 75 (0,0)):=by rw[hw5];exact heap_alloc_new w4 _
  have FM:Below w3.heap.size w3 w5:=aj hB4 hL5.below hB4.size;have hz4:=hB4.size;have hz5:=hL5.size;have HB5:Hid (Below w.heap.size w w5):=aj HBw.out FM HBw.out.size;have Dv:Hid (w5.heap[w.heap.size]?=_):=(FM.block _ (by omega)).trans ni.out;have HV5:Hid (dX.sl (From w1.heap.size) w5 (.slice va vn vc) rs):=Kind.aM HV3.out FM.size fun k hk _=>FM.block k hk;clear b0 b1 b1';obtain⟨b0,b1,_,_,Ua⟩:=jM hr5;have b1':w5.cell? ⟨w4.heap.size,0+1,none⟩=some (.int .i64 a2):=b1;have HW5:=hide hw5;clear hu4 hB4 hL5 hr5 FM HC HW3 HR3 hw5 ni HBw HV3
  by_cases h2:e2=0
  ·subst h2;have HX:Hid (uD d t=(⟨d.told,rs,false,dY,[]⟩,qD rs.length)):=by show _=_;rw[HX1.out];simp
   have hD5:=HD.out.past (m:=w.heap.size) HB5.out;obtain⟨⟨c0,c1,c2,c3,c4,c5,c6,c7,c8⟩,cfz,_⟩:=jN hD5.row;obtain⟨w6,hw6⟩:∃w6,w6=MQ w5 p (.slice ta d.told.length tc) (.slice va vn vc) (.bool false) (.slice none 0 0) (.slice none 0 0) (.int .i64 0) (.int .i64 0) (.bool false) (.slice none 0 0):=⟨_,rfl⟩;have hT6:=Cv w5 p (.slice ta d.told.length tc) (.slice va vn vc) (.bool false) (.slice none 0 0) (.slice none 0 0) (.int .i64 0) (.int .i64 0) (.bool false) (.slice none 0 0);have qB:=yJ hD5.row (.slice ta d.told.length tc) (.slice va vn vc) (.bool false) (.slice none 0 0) (.slice none 0 0) (.int .i64 0) (.int .i64 0) (.bool false) (.slice none 0 0);rw[←hw6] at hT6 qB;unfold MQ at hw6;have HRz:Hid (w6.heap[w.heap.size]?=_):=(hT6.block _ (by omega) (by omega)).trans Dv.out;obtain⟨⟨z0,z1,z2,z3,z4,z5,z6,z7⟩,zfz,zlt⟩:=gD HRz.out;have hw:∀k,k<w6.heap.size→((B k∧k<w.heap.size)∨w.heap.size<k)→(B k∨w.heap.size≤k)∧k≠w.heap.size:=fun k _ hb=>by
    rcases hb with hb|hb
    ·exact⟨Or.inl hb.1,by omega⟩
    ·exact⟨Or.inr (by omega),by omega⟩
   have hkk:∀k,k<w5.heap.size→((B k∧k<w.heap.size)∨w.heap.size<k)→w6.heap[k]?=w5.heap[k]?:=fun k hk hb=>hT6.block k hk (fun e=>by
    rcases hb with hb|hb
    ·exact HB.out (e▸hb.1)
    ·omega)
   have hsl:dX.sl (fun k=>(B k∧k<w.heap.size)∨w.heap.size<k) w5 (.slice va vn vc) rs:=Kind.aH HV5.out fun k _ hk=>Or.inr (by have:w1.heap.size≤k:=hk;omega);have HD3:Hid (fH p (fun k=>(B k∨w.heap.size≤k)∧k≠w.heap.size) w6 ⟨d.told,rs,false,dY,[]⟩ (.slice ta d.told.length tc) (.slice va vn vc) (.slice none 0 0) (.slice none 0 0) (.slice none 0 0)):=⟨qB,(hD5.told.kept hT6.size hkk).mono hw,Kind.aH (Kind.aM hsl hT6.size hkk) hw,bC.nil _ _,bC.nil _ _,kS.cZ _ _ _ _⟩;have HT3:Hid (Tn p w w6):=(Tn.of_below HB5.out).trans hT6;have HW6:=hide hw6;clear hD5 qB hw hkk hsl hT6 hw6 Dv HX1 HV5
   go_wp2_with (first|(rw[←HW5.out])|(rw[←HW6.out])|fail)
   have hrow:=bg HRz.out (.int .i64 0) (.int .i64 0) (.int .i64 vn) (.slice none 0 0) (.string ⟨#[]⟩) (.slice none 0 0) (.int .i64 0) (.slice none 0 0);obtain⟨⟨r0,r1,r2,r3,r4,r5,r6,r7⟩,_,_⟩:=gD hrow;unfold kW at r0 r1 r2 r3 r4 r5 r6 r7;have hTz:=bM w6 w.heap.size (.int .i64 0) (.int .i64 0) (.int .i64 vn) (.slice none 0 0) (.string ⟨#[]⟩) (.slice none 0 0) (.int .i64 0) (.slice none 0 0);exact bodyPost_ret (v:=.agg #[.int .i64 0,.int .i64 0,.int .i64 vn,.slice none 0 0,.string ⟨#[]⟩,.slice none 0 0,.int .i64 0,.slice none 0 0]) (by simp[results,Tryz.results134,go_sem,r0,r1,r2,r3,r4,r5,r6,r7]) rfl
    ⟨_,rfl,by rw[HX.out,←HVn.out];exact bY.lay (R:=w.heap.size) (om.plain _ _ _ _ _) HD3.out HT3.out hTz (Nat.le_refl _) hp⟩
  ·have HX:Hid (uD d t=(d,Bp e2 a2)):=by show _=_;rw[HX1.out,if_pos h2]
   have hne:(e2 != 0)=true:=by simpa using h2
   have ni:=Dv;clear h2 HX1 HV5 Dv;have HCr:=hide (qE e2 a2 w5);unfold jO at HCr
   go_wp2_with (first|(rw[←HW5.out])|fail)
   refine HCr.out.mono ?_;rintro e w6 ⟨rfl,hBr⟩;have HRz:Hid (w6.heap[w.heap.size]?=_):=(hBr.block _ (by omega)).trans ni.out;obtain⟨⟨z0,z1,z2,z3,z4,z5,z6,z7⟩,zfz,zlt⟩:=gD HRz.out;have HBn:=hide (aj HB5.out hBr HB5.out.size);clear hBr HCr;go_wp2;have hD2:=(HD.out.mono (B':=fun k=>B k∧k<w.heap.size) fun _ hk hb=>⟨hb,hk⟩).below HBn.out;have hrow:=bg HRz.out (.int .i64 e2) (.int .i64 a2) (.int .i64 0) (.slice none 0 0) (.string ⟨#[]⟩) (.slice none 0 0) (.int .i64 0) (.slice none 0 0);obtain⟨⟨r0,r1,r2,r3,r4,r5,r6,r7⟩,_,_⟩:=gD hrow;unfold kW at r0 r1 r2 r3 r4 r5 r6 r7;have hTz:=bM w6 w.heap.size (.int .i64 e2) (.int .i64 a2) (.int .i64 0) (.slice none 0 0) (.string ⟨#[]⟩) (.slice none 0 0) (.int .i64 0) (.slice none 0 0);exact bodyPost_ret (v:=.agg #[.int .i64 e2,.int .i64 a2,.int .i64 0,.slice none 0 0,.string ⟨#[]⟩,.slice none 0 0,.int .i64 0,.slice none 0 0]) (by simp[results,Tryz.results134,go_sem,r0,r1,r2,r3,r4,r5,r6,r7]) rfl
    ⟨_,rfl,by rw[HX.out];exact bY.lay (R:=w.heap.size) (om.plain _ _ _ _ _) (hD2.mono fun k _ hb=>⟨Or.inl hb.1,by omega⟩) (Tn.of_below HBn.out) hTz (by omega) hp⟩
 ·have HX:Hid (uD d t=(d,Bp e1 a1)):=by show _=_;rw[HX0.out,if_pos h0]
  have hne:(e1 != 0)=true:=by simpa using h0
  clear h0 HX0 HV3 HR3;have HCr:=hide (qE e1 a1 w3);unfold jO at HCr
  go_wp2_with (first|(rw[←HW3.out])|fail)
  refine HCr.out.mono ?_;rintro e w4 ⟨rfl,hBr⟩;have HRz:Hid (w4.heap[w.heap.size]?=_):=(hBr.block _ (by omega)).trans ni.out;obtain⟨⟨z0,z1,z2,z3,z4,z5,z6,z7⟩,zfz,zlt⟩:=gD HRz.out;have HBn:=hide (aj HBw.out hBr HBw.out.size);clear hBr HCr;go_wp2;have hD2:=(HD.out.mono (B':=fun k=>B k∧k<w.heap.size) fun _ hk hb=>⟨hb,hk⟩).below HBn.out;have hrow:=bg HRz.out (.int .i64 e1) (.int .i64 a1) (.int .i64 0) (.slice none 0 0) (.string ⟨#[]⟩) (.slice none 0 0) (.int .i64 0) (.slice none 0 0);obtain⟨⟨r0,r1,r2,r3,r4,r5,r6,r7⟩,_,_⟩:=gD hrow;unfold kW at r0 r1 r2 r3 r4 r5 r6 r7;have hTz:=bM w4 w.heap.size (.int .i64 e1) (.int .i64 a1) (.int .i64 0) (.slice none 0 0) (.string ⟨#[]⟩) (.slice none 0 0) (.int .i64 0) (.slice none 0 0);exact bodyPost_ret (v:=.agg #[.int .i64 e1,.int .i64 a1,.int .i64 0,.slice none 0 0,.string ⟨#[]⟩,.slice none 0 0,.int .i64 0,.slice none 0 0]) (by simp[results,Tryz.results134,go_sem,r0,r1,r2,r3,r4,r5,r6,r7]) rfl
   ⟨_,rfl,by rw[HX.out];exact bY.lay (R:=w.heap.size) (om.plain _ _ _ _ _) (hD2.mono fun k _ hb=>⟨Or.inl hb.1,by omega⟩) (Tn.of_below HBn.out) hTz (by omega) hp⟩
theorem tK.j4 {lo:Nat} {w:World} {v:Value} {er:Int} {body:List aF} {fs:List au} (h:tK lo w v er body fs (-1) []):er=(j4 body fs).1∧jL.sl (From lo) w v (j4 body fs).2:=by
 unfold tK at h;unfold Go.Proofs.YtafmbokfkbccaaaGreatDoor.j4;split
 ·rename_i h0;rw[if_pos h0] at h;obtain⟨rfl,rfl⟩:=h;exact⟨rfl,jL.cZ _ _ _ _⟩
 ·rename_i h0;rw[if_neg h0] at h;cases e:lZ (gV fs (-1) []) body with
  |none=>
   rw[e] at h;obtain⟨rfl,rfl⟩:=h;exact⟨rfl,jL.cZ _ _ _ _⟩
  |some R=>rw[e] at h;exact h
set_option maxRecDepth 100000 in
set_option maxHeartbeats 2000000 in
theorem RO (p:Nat) (B:Nat→Prop) (d:dH) (t:ByteArray) (tv rv kv nv sv:Value) (w:World) (hD:fH p B w d tv rv kv nv sv) (hB:¬B p) (m:Int) (hm:w.cell? ⟨1,0,none⟩=some (.int .i64 m)) (hmw:1<w.heap.size):
  Calls Tryz.prog 137 #[.pointer (some ⟨p,0,none⟩),.string t] w fun e w'=>∃v,e=.returned v∧bY p B w w' v (d,vo d t):=by
 have hp:=hD.lt;obtain⟨w1,hw1⟩:∃w1,w1=w.alloc (.cells #[.int .i64 0,.int .i64 0,.int .i64 0,.slice none 0 0,.string ⟨#[]⟩,.slice none 0 0,.int .i64 0,.slice none 0 0] 64):=⟨_,rfl⟩;have hz1:w1.heap.size=w.heap.size+1:=by rw[hw1];simp
 have hL1:Later w w1:=by rw[hw1];exact(Later.refl w).alloc _
 have hr1:w1.heap[w.heap.size]?=some (.cells #[.int .i64 0,.int .i64 0,.int .i64 0,.slice none 0 0,.string ⟨#[]⟩,.slice none 0 0,.int .i64 0,.slice none 0 0] 64 (0,0)):=by rw[hw1];exact H6 w
 have hD1:=hD.below hL1.below;obtain⟨⟨c0,c1,c2,c3,c4,c5,c6,c7,c8⟩,cfz,_⟩:=jN hD1.row;obtain⟨⟨ta,tc,rfl⟩,⟨ra,rc,rfl⟩,⟨xka,xkc,rfl⟩,⟨xna,xnc,rfl⟩,⟨xsa,xsc,rfl⟩⟩:=hD.slices;have HC:=hide (K7 t w1 m (by rw[hL1.cell (p:=⟨1,0,none⟩) hmw];exact hm));have HX0:Hid (vo d t=if(aY (raw t)).2.1≠0 then Bp (aY (raw t)).2.1 (aY (raw t)).2.2 else
  if(!d.running|| !d.run.done)=true then kD 11 else if(j4 (aY (raw t)).1 d.run.known).1≠0 then kD (j4 (aY (raw t)).1 d.run.known).1 else
  ⟨0,0,(j4 (aY (raw t)).1 d.run.known).2.length,(j4 (aY (raw t)).1 d.run.known).2,ng⟩):=(rfl:_=_)
 obtain⟨rs,e1,a1,htr⟩:∃rs e1 a1,aY (raw t)=(rs,e1,a1):=⟨_,_,_,rfl⟩;rw[htr] at HC HX0;clear htr;dsimp only at HC HX0;have HW1:=hide hw1;have HL1:=hide hL1;have HR:=hide hr1;have HD:=hide hD;have HB:=hide hB;clear hw1 hL1 hr1 hD hB hD1 c0 c1 c2 c3 c4 c5 c6 c7 c8 cfz hm
 go_enter Tryz.func137,Tryz.ntmps137
 go_wp2_with (first|(rw[←HW1.out])|fail)
 refine HC.out.mono ?_;rintro e w2 ⟨v2,rfl,hv2,hB2⟩;obtain⟨va,vn,vc,rfl⟩:∃a n c,v2=.slice a n c:=by obtain⟨a,c,e⟩:=Kind.slice hv2;exact⟨a,_,c,e⟩
 obtain⟨w3,hw3⟩:∃w3,w3=w2.alloc (.cells #[.int .i64 e1,.int .i64 a1] 75):=⟨_,rfl⟩;have hL3:Later w2 w3:=by rw[hw3];exact(Later.refl w2).alloc _
 have hr3:w3.heap[w2.heap.size]?=some (.cells #[.int .i64 e1,.int .i64 a1] 75 (0,0)):=by rw[hw3];exact heap_alloc_new w2 _
 have FJ:Below w1.heap.size w1 w3:=aj hB2 hL3.below hB2.size;have hz2:=hB2.size;have hz3:=hL3.size;have HBw:Hid (Below w.heap.size w w3):=aj HL1.out.below FJ HL1.out.size;have ni:Hid (w3.heap[w.heap.size]?=_):=(FJ.block _ (by omega)).trans HR.out;have HV3:Hid (bV.sl (From w1.heap.size) w3 (.slice va vn vc) rs):=Kind.aM hv2 hL3.size fun k hk _=>hL3.block hk;obtain⟨b0,b1,_,_,hlt3⟩:=jM hr3;have b1':w3.cell? ⟨w2.heap.size,0+1,none⟩=some (.int .i64 a1):=b1;have HW3:=hide hw3;have hD3:=(HD.out.mono (B':=fun k=>B k∧k<w.heap.size) fun _ hk hb=>⟨hb,hk⟩).below HBw.out;obtain⟨⟨c0,c1,c2,c3,c4,c5,c6,c7,c8⟩,cfz,_⟩:=jN hD3.row;have HD3:=hide hD3;clear hv2 hB2 hL3 hr3 FJ HC HW1 HR hw3 hD3
 by_cases h0:e1=0
 ·subst h0;have HX1:Hid (vo d t=if(!d.running|| !d.run.done)=true then kD 11 else if(j4 rs d.run.known).1≠0 then kD (j4 rs d.run.known).1 else⟨0,0,(j4 rs d.run.known).2.length,(j4 rs d.run.known).2,ng⟩):=by show _=_;rw[HX0.out];simp
  clear HX0
  by_cases hgo:d.running=true∧d.run.done=true
  ·obtain⟨hgr,hgd⟩:=hgo;have HX2:Hid (vo d t=if(j4 rs d.run.known).1≠0 then kD (j4 rs d.run.known).1 else⟨0,0,(j4 rs d.run.known).2.length,(j4 rs d.run.known).2,ng⟩):=by show _=_;rw[HX1.out,if_neg (by rw[hgr,hgd];simp)]
   rw[hgr] at c2;rw[hgd] at c7;have HC:=hide (Q8 rs (.slice va vn vc) (.slice xka d.run.known.length xkc) d.run.known w3 (Kind.bW HV3.out) HD3.out.known.facts);clear hgr hgd HX1
   go_wp2_with (first|(rw[←HW3.out])|fail)
   refine HC.out.mono ?_;rintro e w4 ⟨v4,er,rfl,hW4,hB4⟩;obtain⟨her,hl4⟩:=hW4.j4;obtain⟨ee,LL,hll⟩:∃ee LL,j4 rs d.run.known=(ee,LL):=⟨_,_,rfl⟩;rw[hll] at her hl4 HX2;dsimp only at her hl4 HX2;subst her;obtain⟨la,lc,rfl⟩:=Kind.slice hl4;have hz4:=hB4.size;have HB5:Hid (Below w.heap.size w w4):=aj HBw.out hB4 HBw.out.size;have Dv:Hid (w4.heap[w.heap.size]?=_):=(hB4.block _ (by omega)).trans ni.out;have HL4:=hide hl4;clear hW4 hB4 hl4 hll HC HW3 ni HBw HV3 c0 c1 c2 c3 c4 c5 c6 c7 c8 cfz b0 b1 b1'
   by_cases h2:er=0
   ·subst h2;have HX:Hid (vo d t=⟨0,0,LL.length,LL,ng⟩):=by show _=_;rw[HX2.out];simp
    have HA:Hid (om (fun k=>w.heap.size≤k∧k≠w.heap.size) w4 (.agg #[.int .i64 0,.int .i64 0,.int .i64 LL.length,.slice la LL.length lc,.string ⟨#[]⟩,.slice none 0 0,.int .i64 0,.slice none 0 0]) ⟨0,0,LL.length,LL,ng⟩):=
     ⟨_,_,_,rfl,Kind.aH HL4.out fun k _ hk=>⟨by have:w3.heap.size≤k:=hk;omega,by have:w3.heap.size≤k:=hk;omega⟩,bsK.cZ _ _ _ _,(FK 60).cZ _ _ _ _⟩
    have HRz:=Dv;obtain⟨⟨z0,z1,z2,z3,z4,z5,z6,z7⟩,zfz,zlt⟩:=gD HRz.out;have hD5:=(HD.out.mono (B':=fun k=>B k∧k<w.heap.size) fun _ hk hb=>⟨hb,hk⟩).below HB5.out;have HD5:=hide hD5;clear hD5 HX2 HL4 Dv HD3;go_wp2;have hrow:=bg HRz.out (.int .i64 0) (.int .i64 0) (.int .i64 LL.length) (.slice la LL.length lc) (.string ⟨#[]⟩) (.slice none 0 0) (.int .i64 0) (.slice none 0 0);obtain⟨⟨r0,r1,r2,r3,r4,r5,r6,r7⟩,_,_⟩:=gD hrow;unfold kW at r0 r1 r2 r3 r4 r5 r6 r7;have hTz:=bM w4 w.heap.size (.int .i64 0) (.int .i64 0) (.int .i64 LL.length) (.slice la LL.length lc) (.string ⟨#[]⟩) (.slice none 0 0) (.int .i64 0) (.slice none 0 0);exact bodyPost_ret (v:=.agg #[.int .i64 0,.int .i64 0,.int .i64 LL.length,.slice la LL.length lc,.string ⟨#[]⟩,.slice none 0 0,.int .i64 0,.slice none 0 0]) (by simp[results,Tryz.results137,go_sem,r0,r1,r2,r3,r4,r5,r6,r7]) rfl
     ⟨_,rfl,by rw[HX.out];exact bY.lay (R:=w.heap.size) HA.out (HD5.out.mono fun k _ hb=>⟨Or.inl hb.1,by omega⟩) (Tn.of_below HB5.out) hTz (Nat.le_refl _) hp⟩
   ·have HX:Hid (vo d t=kD er):=by show _=_;rw[HX2.out,if_pos h2]
    have hne:(er != 0)=true:=by simpa using h2
    have ni:=Dv;clear h2 HX2 HL4 Dv HD3;generalize LL.length=ln at*;have HCr:=hide (gN er w4);unfold jO at HCr
    go_wp2_with fail
    refine HCr.out.mono ?_;rintro e w5 ⟨rfl,hBr⟩;have HRz:Hid (w5.heap[w.heap.size]?=_):=(hBr.block _ (by omega)).trans ni.out;obtain⟨⟨z0,z1,z2,z3,z4,z5,z6,z7⟩,zfz,zlt⟩:=gD HRz.out;have HBn:=hide (aj HB5.out hBr HB5.out.size);clear hBr HCr;go_wp2;have hD2:=(HD.out.mono (B':=fun k=>B k∧k<w.heap.size) fun _ hk hb=>⟨hb,hk⟩).below HBn.out;have hrow:=bg HRz.out (.int .i64 er) (.int .i64 0) (.int .i64 0) (.slice none 0 0) (.string ⟨#[]⟩) (.slice none 0 0) (.int .i64 0) (.slice none 0 0);obtain⟨⟨r0,r1,r2,r3,r4,r5,r6,r7⟩,_,_⟩:=gD hrow;unfold kW at r0 r1 r2 r3 r4 r5 r6 r7;have hTz:=bM w5 w.heap.size (.int .i64 er) (.int .i64 0) (.int .i64 0) (.slice none 0 0) (.string ⟨#[]⟩) (.slice none 0 0) (.int .i64 0) (.slice none 0 0);exact bodyPost_ret (v:=.agg #[.int .i64 er,.int .i64 0,.int .i64 0,.slice none 0 0,.string ⟨#[]⟩,.slice none 0 0,.int .i64 0,.slice none 0 0]) (by simp[results,Tryz.results137,go_sem,r0,r1,r2,r3,r4,r5,r6,r7]) rfl
     ⟨_,rfl,by rw[HX.out];exact bY.lay (R:=w.heap.size) (om.plain _ _ _ _ _) (hD2.mono fun k _ hb=>⟨Or.inl hb.1,by omega⟩) (Tn.of_below HBn.out) hTz (by omega) hp⟩
  ·have HX:Hid (vo d t=kD 11):=by
    show _=_;rw[HX1.out,if_pos];cases hr:d.running
    ·rfl
    ·cases hd:d.run.done
     ·rfl
     ·exact absurd ⟨hr,hd⟩ hgo
   clear HX1 HV3 HD3;cases hr:d.running with
   |false=>
    rw[hr] at c2;clear hr hgo;have HCr:=hide (gN 11 w3);unfold jO at HCr
    go_wp2_with (first|(rw[←HW3.out])|fail)
    refine HCr.out.mono ?_;rintro e w4 ⟨rfl,hBr⟩;have HRz:Hid (w4.heap[w.heap.size]?=_):=(hBr.block _ (by omega)).trans ni.out;obtain⟨⟨z0,z1,z2,z3,z4,z5,z6,z7⟩,zfz,zlt⟩:=gD HRz.out;have HBn:=hide (aj HBw.out hBr HBw.out.size);clear hBr HCr;go_wp2;have hD2:=(HD.out.mono (B':=fun k=>B k∧k<w.heap.size) fun _ hk hb=>⟨hb,hk⟩).below HBn.out;have hrow:=bg HRz.out (.int .i64 11) (.int .i64 0) (.int .i64 0) (.slice none 0 0) (.string ⟨#[]⟩) (.slice none 0 0) (.int .i64 0) (.slice none 0 0);obtain⟨⟨r0,r1,r2,r3,r4,r5,r6,r7⟩,_,_⟩:=gD hrow;unfold kW at r0 r1 r2 r3 r4 r5 r6 r7;have hTz:=bM w4 w.heap.size (.int .i64 11) (.int .i64 0) (.int .i64 0) (.slice none 0 0) (.string ⟨#[]⟩) (.slice none 0 0) (.int .i64 0) (.slice none 0 0);exact bodyPost_ret (v:=.agg #[.int .i64 11,.int .i64 0,.int .i64 0,.slice none 0 0,.string ⟨#[]⟩,.slice none 0 0,.int .i64 0,.slice none 0 0]) (by simp[results,Tryz.results137,go_sem,r0,r1,r2,r3,r4,r5,r6,r7]) rfl
     ⟨_,rfl,by rw[HX.out];exact bY.lay (R:=w.heap.size) (om.plain _ _ _ _ _) (hD2.mono fun k _ hb=>⟨Or.inl hb.1,by omega⟩) (Tn.of_below HBn.out) hTz (by omega) hp⟩
   |true=>
    cases hd:d.run.done with
    |true=>exact absurd ⟨hr,hd⟩ hgo
    |false=>
     rw[hr] at c2;rw[hd] at c7;clear hr hd hgo;have HCr:=hide (gN 11 w3);unfold jO at HCr
     go_wp2_with (first|(rw[←HW3.out])|fail)
     refine HCr.out.mono ?_;rintro e w4 ⟨rfl,hBr⟩;have HRz:Hid (w4.heap[w.heap.size]?=_):=(hBr.block _ (by omega)).trans ni.out;obtain⟨⟨z0,z1,z2,z3,z4,z5,z6,z7⟩,zfz,zlt⟩:=gD HRz.out;have HBn:=hide (aj HBw.out hBr HBw.out.size);clear hBr HCr;go_wp2;have hD2:=(HD.out.mono (B':=fun k=>B k∧k<w.heap.size) fun _ hk hb=>⟨hb,hk⟩).below HBn.out;have hrow:=bg HRz.out (.int .i64 11) (.int .i64 0) (.int .i64 0) (.slice none 0 0) (.string ⟨#[]⟩) (.slice none 0 0) (.int .i64 0) (.slice none 0 0);obtain⟨⟨r0,r1,r2,r3,r4,r5,r6,r7⟩,_,_⟩:=gD hrow;unfold kW at r0 r1 r2 r3 r4 r5 r6 r7;have hTz:=bM w4 w.heap.size (.int .i64 11) (.int .i64 0) (.int .i64 0) (.slice none 0 0) (.string ⟨#[]⟩) (.slice none 0 0) (.int .i64 0) (.slice none 0 0);exact bodyPost_ret (v:=.agg #[.int .i64 11,.int .i64 0,.int .i64 0,.slice none 0 0,.string ⟨#[]⟩,.slice none 0 0,.int .i64 0,.slice none 0 0]) (by simp[results,Tryz.results137,go_sem,r0,r1,r2,r3,r4,r5,r6,r7]) rfl
      ⟨_,rfl,by rw[HX.out];exact bY.lay (R:=w.heap.size) (om.plain _ _ _ _ _) (hD2.mono fun k _ hb=>⟨Or.inl hb.1,by omega⟩) (Tn.of_below HBn.out) hTz (by omega) hp⟩
 ·have HX:Hid (vo d t=Bp e1 a1):=by show _=_;rw[HX0.out,if_pos h0]
  have hne:(e1 != 0)=true:=by simpa using h0
  clear h0 HX0 HV3 HD3;have HCr:=hide (qE e1 a1 w3);unfold jO at HCr
  go_wp2_with (first|(rw[←HW3.out])|fail)
  refine HCr.out.mono ?_;rintro e w4 ⟨rfl,hBr⟩;have HRz:Hid (w4.heap[w.heap.size]?=_):=(hBr.block _ (by omega)).trans ni.out;obtain⟨⟨z0,z1,z2,z3,z4,z5,z6,z7⟩,zfz,zlt⟩:=gD HRz.out;have HBn:=hide (aj HBw.out hBr HBw.out.size);clear hBr HCr;go_wp2;have hD2:=(HD.out.mono (B':=fun k=>B k∧k<w.heap.size) fun _ hk hb=>⟨hb,hk⟩).below HBn.out;have hrow:=bg HRz.out (.int .i64 e1) (.int .i64 a1) (.int .i64 0) (.slice none 0 0) (.string ⟨#[]⟩) (.slice none 0 0) (.int .i64 0) (.slice none 0 0);obtain⟨⟨r0,r1,r2,r3,r4,r5,r6,r7⟩,_,_⟩:=gD hrow;unfold kW at r0 r1 r2 r3 r4 r5 r6 r7;have hTz:=bM w4 w.heap.size (.int .i64 e1) (.int .i64 a1) (.int .i64 0) (.slice none 0 0) (.string ⟨#[]⟩) (.slice none 0 0) (.int .i64 0) (.slice none 0 0);exact bodyPost_ret (v:=.agg #[.int .i64 e1,.int .i64 a1,.int .i64 0,.slice none 0 0,.string ⟨#[]⟩,.slice none 0 0,.int .i64 0,.slice none 0 0]) (by simp[results,Tryz.results137,go_sem,r0,r1,r2,r3,r4,r5,r6,r7]) rfl
   ⟨_,rfl,by rw[HX.out];exact bY.lay (R:=w.heap.size) (om.plain _ _ _ _ _) (hD2.mono fun k _ hb=>⟨Or.inl hb.1,by omega⟩) (Tn.of_below HBn.out) hTz (by omega) hp⟩
end Go.Proofs.YtafmbokfkbccaaaGreatDoor
namespace Go.Proofs.YtafmbokfkbccaaaGreatDoor
open Go.RowKit Go.Sort
def DoV (w:World) (v:Value) (x:DoD):Prop:=∃s,v=.agg #[.int .i64 x.kind,.int .i64 x.n,.string x.fact.1,s,.string x.text]∧Strs w s x.fact.2
def Dw (φ:Prover):Prop:=∀(p:Nat) (B:Nat→Prop) (d:dH) (f:au) (fv tv rv kv nv sv:Value) (w:World),fH p B w d tv rv kv nv sv→¬B p→dz w fv f→
 Calls Tryz.prog 138 #[.pointer (some ⟨p,0,none⟩),fv] w fun e w'=>∃v,e=.returned v∧bY p B w w' v (d,kT φ d f)
theorem bY.up {p R:Nat} {B:Nat→Prop} {w w2 w3:World} {v:Value} {x:dH×rH} (hB2:Below w.heap.size w w2) (hR:w.heap.size≤R) (hz:R<w2.heap.size) (h:bY p (fun k=>B k∧k<w.heap.size) w2 w3 v x):
  om (fun k=>w.heap.size≤k∧k≠R) w3 v x.2∧(∃tv rv kv nv sv,fH p (fun k=>(B k∨w.heap.size≤k)∧k≠R) w3 x.1 tv rv kv nv sv)∧Tn p w w3:=by
 obtain⟨⟨bv,sv,kv,rfl,a1,a2,a3⟩,⟨tv,rv,kv',nv,sv',hD⟩,hT⟩:=h;have hm:∀k,k<w3.heap.size→w2.heap.size≤k→w.heap.size≤k∧k≠R:=fun k _ hk=>⟨by omega,by omega⟩;refine⟨⟨bv,sv,kv,rfl,Kind.aH a1 hm,Kind.aH a2 hm,Kind.aH a3 hm⟩,⟨tv,rv,kv',nv,sv',hD.mono fun k _ hk=> ?_⟩,(Tn.of_below hB2).trans hT⟩;rcases hk with hk|hk
 ·exact⟨Or.inl hk.1,by omega⟩
 ·exact⟨Or.inr (by omega),by omega⟩
set_option maxRecDepth 100000 in
set_option maxHeartbeats 4000000 in
theorem doC (φ:Prover) (p:Nat) (B:Nat→Prop) (d:dH) (x:DoD) (xv tv rv kv nv sv:Value) (w:World) (hD:fH p B w d tv rv kv nv sv) (hB:¬B p) (hx:DoV w xv x) (m:Int) (hm:w.cell? ⟨1,0,none⟩=some (.int .i64 m)) (hmw:1<w.heap.size) (hφ:x.kind=6→Dw φ):
  Calls Tryz.prog 77 #[.pointer (some ⟨p,0,none⟩),xv] w fun e w'=>∃v,e=.returned v∧bY p B w w' v (doP φ d x):=by
 have hp:=hD.lt;have HP:=hide hφ;clear hφ;obtain⟨fs,rfl,hfs⟩:=hx;obtain⟨fa,fc,rfl⟩:=aW hfs;obtain⟨w1,hw1⟩:∃w1,w1=w.alloc (.cells #[.int .i64 x.kind,.int .i64 x.n,.string x.fact.1,.slice fa x.fact.2.length fc,.string x.text] 72):=⟨_,rfl⟩;obtain⟨w2,hw2⟩:∃w2,w2=w1.alloc (.cells #[.int .i64 0,.int .i64 0,.int .i64 0,.slice none 0 0,.string ⟨#[]⟩,.slice none 0 0,.int .i64 0,.slice none 0 0] 64):=⟨_,rfl⟩;have hz1:w1.heap.size=w.heap.size+1:=by rw[hw1];simp
 have hz2:w2.heap.size=w.heap.size+2:=by rw[hw2];simp;omega
 have hL1:Later w w1:=by rw[hw1];exact(Later.refl w).alloc _
 have Dr:Later w1 w2:=by rw[hw2];exact(Later.refl w1).alloc _
 have hL2:Later w w2:=hL1.trans Dr;have hr2:w2.heap[w.heap.size+1]?=some (.cells #[.int .i64 0,.int .i64 0,.int .i64 0,.slice none 0 0,.string ⟨#[]⟩,.slice none 0 0,.int .i64 0,.slice none 0 0] 64 (0,0)):=by rw[hw2,←hz1];exact H6 w1
 have hb2:w2.heap[w.heap.size]?=some (.cells #[.int .i64 x.kind,.int .i64 x.n,.string x.fact.1,.slice fa x.fact.2.length fc,.string x.text] 72 (0,0)):=(Dr.block (by omega)).trans (by rw[hw1];exact heap_alloc_new w _);obtain⟨q0,q1,q2,q3,q4,_,_⟩:=dO hb2;have q3':w2.cell? ⟨w.heap.size,2+1,none⟩=some (.slice fa x.fact.2.length fc):=q3;have HD2:Hid (fH p (fun k=>B k∧k<w.heap.size) w2 d tv rv kv nv sv):=(hD.mono fun _ hk hb=>⟨hb,hk⟩).below hL2.below;have HNb:Hid (¬(B p∧p<w.heap.size)):=fun h=>hB h.1;have HFs:=hide (hfs.later hL2);have HM:Hid (w2.cell? ⟨1,0,none⟩=some (.int .i64 m)):=by show _=_;rw[hL2.cell (p:=⟨1,0,none⟩) hmw];exact hm
 have Ub:1<w2.heap.size:=by omega
 have HB2:=hide hL2.below;have HW1:=hide hw1;have HW2:=hide hw2;have HR:=hide hr2;have HKd:Hid (x.kind=x.kind):=(rfl:_=_);have HN:Hid True:=trivial;clear hw1 hw2 hL1 Dr hL2 hr2 hb2 hD hB hfs hm hmw
 by_cases h1:x.kind=1
 ·have hx:x.kind=1:=h1;have HX:Hid (doP φ d x=uz d x.fact):=by show _=_;unfold doP;rw[if_pos hx]
  rw[hx] at HKd q0;have HC:=hide (Pq p (fun k=>B k∧k<w.heap.size) d x.fact _ _ _ _ _ _ w2 HD2.out HNb.out ⟨_,rfl,HFs.out⟩);clear hx h1 HN HP;rw[HX.out];obtain⟨Y,hY⟩:∃Y,uz d x.fact=Y:=⟨_,rfl⟩;rw[hY] at HC⊢;clear hY HX
  go_enter Tryz.func77,Tryz.ntmps77
  go_wp2_with (first|(rw[←HW1.out])|(rw[←HW2.out])|fail)
  refine HC.out.mono ?_;rintro e w3 ⟨v3,rfl,hDn⟩;obtain⟨hA,hDk,hT3⟩:=bY.up (R:=w.heap.size+1) HB2.out (by omega) (by omega) hDn;obtain⟨ba,bc,sa,sc,ka',kc',rfl⟩:=hA.slices;have HRz:Hid (w3.heap[w.heap.size+1]?=_):=(hDn.2.2.block _ (by omega) (by omega)).trans HR.out;obtain⟨⟨z0,z1,z2,z3,z4,z5,z6,z7⟩,zfz,zlt⟩:=gD HRz.out;have HA:=hide hA;have HDk:=hide hDk;have HT3:=hide hT3;clear hA hDk hT3 hDn HC HW1 HW2 q0 q1 q2 q3 q4 q3';go_wp2;obtain⟨tv3,rv3,kv3,nv3,sv3,hD3⟩:=HDk.out;have hrow:=bg HRz.out (.int .i64 Y.2.err) (.int .i64 Y.2.place) (.int .i64 Y.2.n) (.slice ba Y.2.binds.length bc) (.string Y.2.prf.fact.1) (.slice sa Y.2.prf.fact.2.length sc) (.int .i64 Y.2.prf.rule) ((.slice ka' Y.2.prf.kids.length kc'));obtain⟨⟨r0,r1,r2,r3,r4,r5,r6,r7⟩,_,_⟩:=gD hrow;unfold kW at r0 r1 r2 r3 r4 r5 r6 r7;have hTz:=bM w3 (w.heap.size+1) (.int .i64 Y.2.err) (.int .i64 Y.2.place) (.int .i64 Y.2.n) (.slice ba Y.2.binds.length bc) (.string Y.2.prf.fact.1) (.slice sa Y.2.prf.fact.2.length sc) (.int .i64 Y.2.prf.rule) ((.slice ka' Y.2.prf.kids.length kc'));exact bodyPost_ret (v:=.agg #[.int .i64 Y.2.err,.int .i64 Y.2.place,.int .i64 Y.2.n,.slice ba Y.2.binds.length bc,.string Y.2.prf.fact.1,.slice sa Y.2.prf.fact.2.length sc,.int .i64 Y.2.prf.rule,(.slice ka' Y.2.prf.kids.length kc')]) (by simp[results,Tryz.results77,go_sem,r0,r1,r2,r3,r4,r5,r6,r7]) rfl
   ⟨_,rfl,bY.lay (R:=w.heap.size+1) HA.out hD3 HT3.out hTz (by omega) hp⟩
 by_cases h2:x.kind=2
 ·have hx:x.kind=2:=h2;have HX:Hid (doP φ d x=uD d x.text):=by show _=_;unfold doP;rw[if_neg (by rw[hx];decide)];rw[if_pos hx]
  rw[hx] at HKd q0;have HC:=hide (Pt p (fun k=>B k∧k<w.heap.size) d x.text _ _ _ _ _ w2 HD2.out HNb.out m HM.out Ub);clear hx h2 HN HP;rw[HX.out];obtain⟨Y,hY⟩:∃Y,uD d x.text=Y:=⟨_,rfl⟩;rw[hY] at HC⊢;clear hY HX
  go_enter Tryz.func77,Tryz.ntmps77
  go_wp2_with (first|(rw[←HW1.out])|(rw[←HW2.out])|fail)
  refine HC.out.mono ?_;rintro e w3 ⟨v3,rfl,hDn⟩;obtain⟨hA,hDk,hT3⟩:=bY.up (R:=w.heap.size+1) HB2.out (by omega) (by omega) hDn;obtain⟨ba,bc,sa,sc,ka',kc',rfl⟩:=hA.slices;have HRz:Hid (w3.heap[w.heap.size+1]?=_):=(hDn.2.2.block _ (by omega) (by omega)).trans HR.out;obtain⟨⟨z0,z1,z2,z3,z4,z5,z6,z7⟩,zfz,zlt⟩:=gD HRz.out;have HA:=hide hA;have HDk:=hide hDk;have HT3:=hide hT3;clear hA hDk hT3 hDn HC HW1 HW2 q0 q1 q2 q3 q4 q3';go_wp2;obtain⟨tv3,rv3,kv3,nv3,sv3,hD3⟩:=HDk.out;have hrow:=bg HRz.out (.int .i64 Y.2.err) (.int .i64 Y.2.place) (.int .i64 Y.2.n) (.slice ba Y.2.binds.length bc) (.string Y.2.prf.fact.1) (.slice sa Y.2.prf.fact.2.length sc) (.int .i64 Y.2.prf.rule) ((.slice ka' Y.2.prf.kids.length kc'));obtain⟨⟨r0,r1,r2,r3,r4,r5,r6,r7⟩,_,_⟩:=gD hrow;unfold kW at r0 r1 r2 r3 r4 r5 r6 r7;have hTz:=bM w3 (w.heap.size+1) (.int .i64 Y.2.err) (.int .i64 Y.2.place) (.int .i64 Y.2.n) (.slice ba Y.2.binds.length bc) (.string Y.2.prf.fact.1) (.slice sa Y.2.prf.fact.2.length sc) (.int .i64 Y.2.prf.rule) ((.slice ka' Y.2.prf.kids.length kc'));exact bodyPost_ret (v:=.agg #[.int .i64 Y.2.err,.int .i64 Y.2.place,.int .i64 Y.2.n,.slice ba Y.2.binds.length bc,.string Y.2.prf.fact.1,.slice sa Y.2.prf.fact.2.length sc,.int .i64 Y.2.prf.rule,(.slice ka' Y.2.prf.kids.length kc')]) (by simp[results,Tryz.results77,go_sem,r0,r1,r2,r3,r4,r5,r6,r7]) rfl
   ⟨_,rfl,bY.lay (R:=w.heap.size+1) HA.out hD3 HT3.out hTz (by omega) hp⟩
 by_cases h3:x.kind=3
 ·have hx:x.kind=3:=h3;have HX:Hid (doP φ d x=lQ d (iU d.rules d.told)):=by show _=_;unfold doP;rw[if_neg (by rw[hx];decide)];rw[if_neg (by rw[hx];decide)];rw[if_pos hx]
  rw[hx] at HKd q0;have HC:=hide (MP p (fun k=>B k∧k<w.heap.size) d _ _ _ _ _ w2 HD2.out HNb.out);clear hx h3 HN HP;rw[HX.out];obtain⟨Y,hY⟩:∃Y,lQ d (iU d.rules d.told)=Y:=⟨_,rfl⟩;rw[hY] at HC⊢;clear hY HX
  go_enter Tryz.func77,Tryz.ntmps77
  go_wp2_with (first|(rw[←HW1.out])|(rw[←HW2.out])|fail)
  refine HC.out.mono ?_;rintro e w3 ⟨v3,rfl,hDn⟩;obtain⟨hA,hDk,hT3⟩:=bY.up (R:=w.heap.size+1) HB2.out (by omega) (by omega) hDn;obtain⟨ba,bc,sa,sc,ka',kc',rfl⟩:=hA.slices;have HRz:Hid (w3.heap[w.heap.size+1]?=_):=(hDn.2.2.block _ (by omega) (by omega)).trans HR.out;obtain⟨⟨z0,z1,z2,z3,z4,z5,z6,z7⟩,zfz,zlt⟩:=gD HRz.out;have HA:=hide hA;have HDk:=hide hDk;have HT3:=hide hT3;clear hA hDk hT3 hDn HC HW1 HW2 q0 q1 q2 q3 q4 q3';go_wp2;obtain⟨tv3,rv3,kv3,nv3,sv3,hD3⟩:=HDk.out;have hrow:=bg HRz.out (.int .i64 Y.2.err) (.int .i64 Y.2.place) (.int .i64 Y.2.n) (.slice ba Y.2.binds.length bc) (.string Y.2.prf.fact.1) (.slice sa Y.2.prf.fact.2.length sc) (.int .i64 Y.2.prf.rule) ((.slice ka' Y.2.prf.kids.length kc'));obtain⟨⟨r0,r1,r2,r3,r4,r5,r6,r7⟩,_,_⟩:=gD hrow;unfold kW at r0 r1 r2 r3 r4 r5 r6 r7;have hTz:=bM w3 (w.heap.size+1) (.int .i64 Y.2.err) (.int .i64 Y.2.place) (.int .i64 Y.2.n) (.slice ba Y.2.binds.length bc) (.string Y.2.prf.fact.1) (.slice sa Y.2.prf.fact.2.length sc) (.int .i64 Y.2.prf.rule) ((.slice ka' Y.2.prf.kids.length kc'));exact bodyPost_ret (v:=.agg #[.int .i64 Y.2.err,.int .i64 Y.2.place,.int .i64 Y.2.n,.slice ba Y.2.binds.length bc,.string Y.2.prf.fact.1,.slice sa Y.2.prf.fact.2.length sc,.int .i64 Y.2.prf.rule,(.slice ka' Y.2.prf.kids.length kc')]) (by simp[results,Tryz.results77,go_sem,r0,r1,r2,r3,r4,r5,r6,r7]) rfl
   ⟨_,rfl,bY.lay (R:=w.heap.size+1) HA.out hD3 HT3.out hTz (by omega) hp⟩
 by_cases h4:x.kind=4
 ·have hx:x.kind=4:=h4;have HX:Hid (doP φ d x=yI d x.n):=by show _=_;unfold doP;rw[if_neg (by rw[hx];decide)];rw[if_neg (by rw[hx];decide)];rw[if_neg (by rw[hx];decide)];rw[if_pos hx]
  rw[hx] at HKd q0;have HC:=hide (Pn p (fun k=>B k∧k<w.heap.size) d x.n _ _ _ _ _ w2 HD2.out HNb.out);clear hx h4 HN HP;rw[HX.out];obtain⟨Y,hY⟩:∃Y,yI d x.n=Y:=⟨_,rfl⟩;rw[hY] at HC⊢;clear hY HX
  go_enter Tryz.func77,Tryz.ntmps77
  go_wp2_with (first|(rw[←HW1.out])|(rw[←HW2.out])|fail)
  refine HC.out.mono ?_;rintro e w3 ⟨v3,rfl,hDn⟩;obtain⟨hA,hDk,hT3⟩:=bY.up (R:=w.heap.size+1) HB2.out (by omega) (by omega) hDn;obtain⟨ba,bc,sa,sc,ka',kc',rfl⟩:=hA.slices;have HRz:Hid (w3.heap[w.heap.size+1]?=_):=(hDn.2.2.block _ (by omega) (by omega)).trans HR.out;obtain⟨⟨z0,z1,z2,z3,z4,z5,z6,z7⟩,zfz,zlt⟩:=gD HRz.out;have HA:=hide hA;have HDk:=hide hDk;have HT3:=hide hT3;clear hA hDk hT3 hDn HC HW1 HW2 q0 q1 q2 q3 q4 q3';go_wp2;obtain⟨tv3,rv3,kv3,nv3,sv3,hD3⟩:=HDk.out;have hrow:=bg HRz.out (.int .i64 Y.2.err) (.int .i64 Y.2.place) (.int .i64 Y.2.n) (.slice ba Y.2.binds.length bc) (.string Y.2.prf.fact.1) (.slice sa Y.2.prf.fact.2.length sc) (.int .i64 Y.2.prf.rule) ((.slice ka' Y.2.prf.kids.length kc'));obtain⟨⟨r0,r1,r2,r3,r4,r5,r6,r7⟩,_,_⟩:=gD hrow;unfold kW at r0 r1 r2 r3 r4 r5 r6 r7;have hTz:=bM w3 (w.heap.size+1) (.int .i64 Y.2.err) (.int .i64 Y.2.place) (.int .i64 Y.2.n) (.slice ba Y.2.binds.length bc) (.string Y.2.prf.fact.1) (.slice sa Y.2.prf.fact.2.length sc) (.int .i64 Y.2.prf.rule) ((.slice ka' Y.2.prf.kids.length kc'));exact bodyPost_ret (v:=.agg #[.int .i64 Y.2.err,.int .i64 Y.2.place,.int .i64 Y.2.n,.slice ba Y.2.binds.length bc,.string Y.2.prf.fact.1,.slice sa Y.2.prf.fact.2.length sc,.int .i64 Y.2.prf.rule,(.slice ka' Y.2.prf.kids.length kc')]) (by simp[results,Tryz.results77,go_sem,r0,r1,r2,r3,r4,r5,r6,r7]) rfl
   ⟨_,rfl,bY.lay (R:=w.heap.size+1) HA.out hD3 HT3.out hTz (by omega) hp⟩
 by_cases h5:x.kind=5
 ·have hx:x.kind=5:=h5;have HX:Hid (doP φ d x=(d,vo d x.text)):=by show _=_;unfold doP;rw[if_neg (by rw[hx];decide)];rw[if_neg (by rw[hx];decide)];rw[if_neg (by rw[hx];decide)];rw[if_neg (by rw[hx];decide)];rw[if_pos hx]
  rw[hx] at HKd q0;have HC:=hide (RO p (fun k=>B k∧k<w.heap.size) d x.text _ _ _ _ _ w2 HD2.out HNb.out m HM.out Ub);clear hx h5 HN HP;rw[HX.out];obtain⟨Y,hY⟩:∃Y,(d,vo d x.text)=Y:=⟨_,rfl⟩;rw[hY] at HC⊢;clear hY HX
  go_enter Tryz.func77,Tryz.ntmps77
  go_wp2_with (first|(rw[←HW1.out])|(rw[←HW2.out])|fail)
  refine HC.out.mono ?_;rintro e w3 ⟨v3,rfl,hDn⟩;obtain⟨hA,hDk,hT3⟩:=bY.up (R:=w.heap.size+1) HB2.out (by omega) (by omega) hDn;obtain⟨ba,bc,sa,sc,ka',kc',rfl⟩:=hA.slices;have HRz:Hid (w3.heap[w.heap.size+1]?=_):=(hDn.2.2.block _ (by omega) (by omega)).trans HR.out;obtain⟨⟨z0,z1,z2,z3,z4,z5,z6,z7⟩,zfz,zlt⟩:=gD HRz.out;have HA:=hide hA;have HDk:=hide hDk;have HT3:=hide hT3;clear hA hDk hT3 hDn HC HW1 HW2 q0 q1 q2 q3 q4 q3';go_wp2;obtain⟨tv3,rv3,kv3,nv3,sv3,hD3⟩:=HDk.out;have hrow:=bg HRz.out (.int .i64 Y.2.err) (.int .i64 Y.2.place) (.int .i64 Y.2.n) (.slice ba Y.2.binds.length bc) (.string Y.2.prf.fact.1) (.slice sa Y.2.prf.fact.2.length sc) (.int .i64 Y.2.prf.rule) ((.slice ka' Y.2.prf.kids.length kc'));obtain⟨⟨r0,r1,r2,r3,r4,r5,r6,r7⟩,_,_⟩:=gD hrow;unfold kW at r0 r1 r2 r3 r4 r5 r6 r7;have hTz:=bM w3 (w.heap.size+1) (.int .i64 Y.2.err) (.int .i64 Y.2.place) (.int .i64 Y.2.n) (.slice ba Y.2.binds.length bc) (.string Y.2.prf.fact.1) (.slice sa Y.2.prf.fact.2.length sc) (.int .i64 Y.2.prf.rule) ((.slice ka' Y.2.prf.kids.length kc'));exact bodyPost_ret (v:=.agg #[.int .i64 Y.2.err,.int .i64 Y.2.place,.int .i64 Y.2.n,.slice ba Y.2.binds.length bc,.string Y.2.prf.fact.1,.slice sa Y.2.prf.fact.2.length sc,.int .i64 Y.2.prf.rule,(.slice ka' Y.2.prf.kids.length kc')]) (by simp[results,Tryz.results77,go_sem,r0,r1,r2,r3,r4,r5,r6,r7]) rfl
   ⟨_,rfl,bY.lay (R:=w.heap.size+1) HA.out hD3 HT3.out hTz (by omega) hp⟩
 by_cases h6:x.kind=6
 ·have hx:x.kind=6:=h6;have HX:Hid (doP φ d x=(d,kT φ d x.fact)):=by show _=_;unfold doP;rw[if_neg (by rw[hx];decide)];rw[if_neg (by rw[hx];decide)];rw[if_neg (by rw[hx];decide)];rw[if_neg (by rw[hx];decide)];rw[if_neg (by rw[hx];decide)];rw[if_pos hx]
  rw[hx] at HKd q0;have HC:=hide (HP.out hx p (fun k=>B k∧k<w.heap.size) d x.fact _ _ _ _ _ _ w2 HD2.out HNb.out ⟨_,rfl,HFs.out⟩);clear hx h6 HN HP;rw[HX.out];obtain⟨Y,hY⟩:∃Y,(d,kT φ d x.fact)=Y:=⟨_,rfl⟩;rw[hY] at HC⊢;clear hY HX
  go_enter Tryz.func77,Tryz.ntmps77
  go_wp2_with (first|(rw[←HW1.out])|(rw[←HW2.out])|fail)
  refine HC.out.mono ?_;rintro e w3 ⟨v3,rfl,hDn⟩;obtain⟨hA,hDk,hT3⟩:=bY.up (R:=w.heap.size+1) HB2.out (by omega) (by omega) hDn;obtain⟨ba,bc,sa,sc,ka',kc',rfl⟩:=hA.slices;have HRz:Hid (w3.heap[w.heap.size+1]?=_):=(hDn.2.2.block _ (by omega) (by omega)).trans HR.out;obtain⟨⟨z0,z1,z2,z3,z4,z5,z6,z7⟩,zfz,zlt⟩:=gD HRz.out;have HA:=hide hA;have HDk:=hide hDk;have HT3:=hide hT3;clear hA hDk hT3 hDn HC HW1 HW2 q0 q1 q2 q3 q4 q3';go_wp2;obtain⟨tv3,rv3,kv3,nv3,sv3,hD3⟩:=HDk.out;have hrow:=bg HRz.out (.int .i64 Y.2.err) (.int .i64 Y.2.place) (.int .i64 Y.2.n) (.slice ba Y.2.binds.length bc) (.string Y.2.prf.fact.1) (.slice sa Y.2.prf.fact.2.length sc) (.int .i64 Y.2.prf.rule) ((.slice ka' Y.2.prf.kids.length kc'));obtain⟨⟨r0,r1,r2,r3,r4,r5,r6,r7⟩,_,_⟩:=gD hrow;unfold kW at r0 r1 r2 r3 r4 r5 r6 r7;have hTz:=bM w3 (w.heap.size+1) (.int .i64 Y.2.err) (.int .i64 Y.2.place) (.int .i64 Y.2.n) (.slice ba Y.2.binds.length bc) (.string Y.2.prf.fact.1) (.slice sa Y.2.prf.fact.2.length sc) (.int .i64 Y.2.prf.rule) ((.slice ka' Y.2.prf.kids.length kc'));exact bodyPost_ret (v:=.agg #[.int .i64 Y.2.err,.int .i64 Y.2.place,.int .i64 Y.2.n,.slice ba Y.2.binds.length bc,.string Y.2.prf.fact.1,.slice sa Y.2.prf.fact.2.length sc,.int .i64 Y.2.prf.rule,(.slice ka' Y.2.prf.kids.length kc')]) (by simp[results,Tryz.results77,go_sem,r0,r1,r2,r3,r4,r5,r6,r7]) rfl
   ⟨_,rfl,bY.lay (R:=w.heap.size+1) HA.out hD3 HT3.out hTz (by omega) hp⟩
 by_cases h7:x.kind=7
 ·have hx:x.kind=7:=h7;have HX:Hid (doP φ d x=uE d):=by show _=_;unfold doP;rw[if_neg (by rw[hx];decide)];rw[if_neg (by rw[hx];decide)];rw[if_neg (by rw[hx];decide)];rw[if_neg (by rw[hx];decide)];rw[if_neg (by rw[hx];decide)];rw[if_neg (by rw[hx];decide)];rw[if_pos hx]
  rw[hx] at HKd q0;have HC:=hide (Pp p (fun k=>B k∧k<w.heap.size) d _ _ _ _ _ w2 HD2.out HNb.out);clear hx h7 HN HP;rw[HX.out];obtain⟨Y,hY⟩:∃Y,uE d=Y:=⟨_,rfl⟩;rw[hY] at HC⊢;clear hY HX
  go_enter Tryz.func77,Tryz.ntmps77
  go_wp2_with (first|(rw[←HW1.out])|(rw[←HW2.out])|fail)
  refine HC.out.mono ?_;rintro e w3 ⟨v3,rfl,hDn⟩;obtain⟨hA,hDk,hT3⟩:=bY.up (R:=w.heap.size+1) HB2.out (by omega) (by omega) hDn;obtain⟨ba,bc,sa,sc,ka',kc',rfl⟩:=hA.slices;have HRz:Hid (w3.heap[w.heap.size+1]?=_):=(hDn.2.2.block _ (by omega) (by omega)).trans HR.out;obtain⟨⟨z0,z1,z2,z3,z4,z5,z6,z7⟩,zfz,zlt⟩:=gD HRz.out;have HA:=hide hA;have HDk:=hide hDk;have HT3:=hide hT3;clear hA hDk hT3 hDn HC HW1 HW2 q0 q1 q2 q3 q4 q3';go_wp2;obtain⟨tv3,rv3,kv3,nv3,sv3,hD3⟩:=HDk.out;have hrow:=bg HRz.out (.int .i64 Y.2.err) (.int .i64 Y.2.place) (.int .i64 Y.2.n) (.slice ba Y.2.binds.length bc) (.string Y.2.prf.fact.1) (.slice sa Y.2.prf.fact.2.length sc) (.int .i64 Y.2.prf.rule) ((.slice ka' Y.2.prf.kids.length kc'));obtain⟨⟨r0,r1,r2,r3,r4,r5,r6,r7⟩,_,_⟩:=gD hrow;unfold kW at r0 r1 r2 r3 r4 r5 r6 r7;have hTz:=bM w3 (w.heap.size+1) (.int .i64 Y.2.err) (.int .i64 Y.2.place) (.int .i64 Y.2.n) (.slice ba Y.2.binds.length bc) (.string Y.2.prf.fact.1) (.slice sa Y.2.prf.fact.2.length sc) (.int .i64 Y.2.prf.rule) ((.slice ka' Y.2.prf.kids.length kc'));exact bodyPost_ret (v:=.agg #[.int .i64 Y.2.err,.int .i64 Y.2.place,.int .i64 Y.2.n,.slice ba Y.2.binds.length bc,.string Y.2.prf.fact.1,.slice sa Y.2.prf.fact.2.length sc,.int .i64 Y.2.prf.rule,(.slice ka' Y.2.prf.kids.length kc')]) (by simp[results,Tryz.results77,go_sem,r0,r1,r2,r3,r4,r5,r6,r7]) rfl
   ⟨_,rfl,bY.lay (R:=w.heap.size+1) HA.out hD3 HT3.out hTz (by omega) hp⟩
 by_cases h8:x.kind=8
 ·have hx:x.kind=8:=h8;have HX:Hid (doP φ d x=AL d):=by show _=_;unfold doP;rw[if_neg (by rw[hx];decide)];rw[if_neg (by rw[hx];decide)];rw[if_neg (by rw[hx];decide)];rw[if_neg (by rw[hx];decide)];rw[if_neg (by rw[hx];decide)];rw[if_neg (by rw[hx];decide)];rw[if_neg (by rw[hx];decide)];rw[if_pos hx]
  rw[hx] at HKd q0;have HC:=hide (Po p (fun k=>B k∧k<w.heap.size) d _ _ _ _ _ w2 HD2.out HNb.out);clear hx h8 HN HP;rw[HX.out];obtain⟨Y,hY⟩:∃Y,AL d=Y:=⟨_,rfl⟩;rw[hY] at HC⊢;clear hY HX
  go_enter Tryz.func77,Tryz.ntmps77
  go_wp2_with (first|(rw[←HW1.out])|(rw[←HW2.out])|fail)
  refine HC.out.mono ?_;rintro e w3 ⟨v3,rfl,hDn⟩;obtain⟨hA,hDk,hT3⟩:=bY.up (R:=w.heap.size+1) HB2.out (by omega) (by omega) hDn;obtain⟨ba,bc,sa,sc,ka',kc',rfl⟩:=hA.slices;have HRz:Hid (w3.heap[w.heap.size+1]?=_):=(hDn.2.2.block _ (by omega) (by omega)).trans HR.out;obtain⟨⟨z0,z1,z2,z3,z4,z5,z6,z7⟩,zfz,zlt⟩:=gD HRz.out;have HA:=hide hA;have HDk:=hide hDk;have HT3:=hide hT3;clear hA hDk hT3 hDn HC HW1 HW2 q0 q1 q2 q3 q4 q3';go_wp2;obtain⟨tv3,rv3,kv3,nv3,sv3,hD3⟩:=HDk.out;have hrow:=bg HRz.out (.int .i64 Y.2.err) (.int .i64 Y.2.place) (.int .i64 Y.2.n) (.slice ba Y.2.binds.length bc) (.string Y.2.prf.fact.1) (.slice sa Y.2.prf.fact.2.length sc) (.int .i64 Y.2.prf.rule) ((.slice ka' Y.2.prf.kids.length kc'));obtain⟨⟨r0,r1,r2,r3,r4,r5,r6,r7⟩,_,_⟩:=gD hrow;unfold kW at r0 r1 r2 r3 r4 r5 r6 r7;have hTz:=bM w3 (w.heap.size+1) (.int .i64 Y.2.err) (.int .i64 Y.2.place) (.int .i64 Y.2.n) (.slice ba Y.2.binds.length bc) (.string Y.2.prf.fact.1) (.slice sa Y.2.prf.fact.2.length sc) (.int .i64 Y.2.prf.rule) ((.slice ka' Y.2.prf.kids.length kc'));exact bodyPost_ret (v:=.agg #[.int .i64 Y.2.err,.int .i64 Y.2.place,.int .i64 Y.2.n,.slice ba Y.2.binds.length bc,.string Y.2.prf.fact.1,.slice sa Y.2.prf.fact.2.length sc,.int .i64 Y.2.prf.rule,(.slice ka' Y.2.prf.kids.length kc')]) (by simp[results,Tryz.results77,go_sem,r0,r1,r2,r3,r4,r5,r6,r7]) rfl
   ⟨_,rfl,bY.lay (R:=w.heap.size+1) HA.out hD3 HT3.out hTz (by omega) hp⟩
 have HX:Hid (doP φ d x=(d,kD 1)):=by show _=_;unfold doP;rw[if_neg h1];rw[if_neg h2];rw[if_neg h3];rw[if_neg h4];rw[if_neg h5];rw[if_neg h6];rw[if_neg h7];rw[if_neg h8]
 have g1:(x.kind==1)=false:=by simpa using h1
 have g2:(x.kind==2)=false:=by simpa using h2
 have g3:(x.kind==3)=false:=by simpa using h3
 have g4:(x.kind==4)=false:=by simpa using h4
 have g5:(x.kind==5)=false:=by simpa using h5
 have g6:(x.kind==6)=false:=by simpa using h6
 have g7:(x.kind==7)=false:=by simpa using h7
 have g8:(x.kind==8)=false:=by simpa using h8
 clear h1 h2 h3 h4 h5 h6 h7 h8 HN HKd HP;generalize x.kind=kd at*;have ni:=HR;have HBw:=HB2;have HD:Hid (fH p (fun k=>B k∧k<w.heap.size) w2 d tv rv kv nv sv):=HD2;have HCr:=hide (gN 1 w2);unfold jO at HCr
 go_enter Tryz.func77,Tryz.ntmps77
 go_wp2_with (first|(rw[←HW1.out])|(rw[←HW2.out])|fail)
 refine HCr.out.mono ?_;rintro e w3 ⟨rfl,hBr⟩;have HRz:Hid (w3.heap[w.heap.size+1]?=_):=(hBr.block _ (by omega)).trans ni.out;obtain⟨⟨z0,z1,z2,z3,z4,z5,z6,z7⟩,zfz,zlt⟩:=gD HRz.out;have HBn:=hide (aj HBw.out hBr HBw.out.size);have hD2:=HD.out.below hBr;have HD3:=hide hD2;clear hBr HCr hD2;go_wp2;have hrow:=bg HRz.out (.int .i64 1) (.int .i64 0) (.int .i64 0) (.slice none 0 0) (.string ⟨#[]⟩) (.slice none 0 0) (.int .i64 0) (.slice none 0 0);obtain⟨⟨r0,r1,r2,r3,r4,r5,r6,r7⟩,_,_⟩:=gD hrow;unfold kW at r0 r1 r2 r3 r4 r5 r6 r7;have hTz:=bM w3 (w.heap.size+1) (.int .i64 1) (.int .i64 0) (.int .i64 0) (.slice none 0 0) (.string ⟨#[]⟩) (.slice none 0 0) (.int .i64 0) (.slice none 0 0);exact bodyPost_ret (v:=.agg #[.int .i64 1,.int .i64 0,.int .i64 0,.slice none 0 0,.string ⟨#[]⟩,.slice none 0 0,.int .i64 0,.slice none 0 0]) (by simp[results,Tryz.results77,go_sem,r0,r1,r2,r3,r4,r5,r6,r7]) rfl
  ⟨_,rfl,by rw[HX.out];exact bY.lay (R:=w.heap.size+1) (om.plain _ _ _ _ _) (HD3.out.mono fun k _ hb=>⟨Or.inl hb.1,by omega⟩) (Tn.of_below HBn.out) hTz (by omega) hp⟩
end Go.Proofs.YtafmbokfkbccaaaGreatDoor
namespace Go.Proofs.YtafmbokfkbccaaaGreatDoor
open Go.RowKit Go.Sort
def yK (B:Nat→Prop) (w:World) (s:Value) (l:List ByteArray):Prop:=Strs w s l∧∀k,l≠[]→s.ownBlock=some k→B k
theorem yK.kept {B:Nat→Prop} {w w':World} {s:Value} {l:List ByteArray} (h:yK B w s l) (hs:w.heap.size≤w'.heap.size) (hk:∀k,k<w.heap.size→B k→w'.heap[k]?=w.heap[k]?):yK B w' s l:=by
 refine⟨?_,h.2⟩
 by_cases hne:l=[]
 ·have:=h.1;rw[hne] at this⊢;exact this.nil
 ·exact h.1.kept hs fun k e=>hk k (h.1.block_lt hne k e) (h.2 k hne e)
theorem yK.mono {B B':Nat→Prop} {w:World} {s:Value} {l:List ByteArray} (h:yK B w s l) (hm:∀k,k<w.heap.size→B k→B' k):yK B' w s l:=
 ⟨h.1,fun k hne e=>hm k (h.1.block_lt hne k e) (h.2 k hne e)⟩
theorem H8 {B:Nat→Prop} {w:World} {v:Value} {l:List ByteArray} (h:bsK.sl B w v l):Strs w v l:=by
 obtain⟨⟨h0,_⟩,a,cap,rfl,h1⟩:=h;refine⟨h0,a,cap,rfl,fun hne=> ?_⟩;obtain⟨b,off,rfl,_,hb,hc⟩:=h1 hne;refine⟨b,off,rfl,hb,fun i hi=> ?_⟩;obtain⟨c,rfl,c2⟩:=hc i _ (List.getElem?_eq_getElem hi);have:=c2 0 _ rfl;rw[List.getD_eq_getElem?_getD,List.getElem?_eq_getElem hi];simpa[bsK] using this
theorem AP {B:Nat→Prop} {w:World} {v:Value} {l:List ByteArray} (h:bsK.sl B w v l):yK B w v l:=by
 refine⟨H8 h,fun k hne e=> ?_⟩;obtain⟨_,a,cap,rfl,h1⟩:=h;obtain⟨b,off,rfl,hB,_⟩:=h1 hne;simp only[Value.ownBlock,Option.some.injEq] at e;subst e;exact hB
def doK:Kind DoD where
 size:=5
 is:=fun B w c x=>∃s,c=[.int .i64 x.kind,.int .i64 x.n,.string x.fact.1,s,.string x.text]∧yK B w s x.fact.2
 len:=fun⟨s,h,_⟩=>by subst h;rfl
 one:=fun⟨s,h,hs⟩ u hu=>by
  subst h;obtain⟨a,cap,rfl⟩:=aW hs.1;simp at hu;rcases hu with rfl|rfl|rfl|rfl|rfl <;> rfl
 kept:=fun⟨s,h,hs⟩ h1 h2=>⟨s,h,hs.kept h1 h2⟩
 mono:=fun⟨s,h,hs⟩ h1=>⟨s,h,hs.mono h1⟩
def Lc:Kind rH where
 size:=8
 is:=fun B w c a=>∃bv sv kv,c=[.int .i64 a.err,.int .i64 a.place,.int .i64 a.n,bv,.string a.prf.fact.1,sv,.int .i64 a.prf.rule,kv]∧jL.sl B w bv a.binds∧bsK.sl B w sv a.prf.fact.2∧(FK 60).sl B w kv a.prf.kids
 len:=fun⟨_,_,_,h,_⟩=>by subst h;rfl
 one:=fun⟨bv,sv,kv,h,h1,h2,h3⟩ u hu=>by
  subst h;obtain⟨a,cap,rfl⟩:=Kind.slice h1;obtain⟨a,cap,rfl⟩:=Kind.slice h2;obtain⟨a,cap,rfl⟩:=Kind.slice h3;simp at hu;rcases hu with rfl|rfl|rfl|rfl|rfl|rfl|rfl|rfl <;> rfl
 kept:=fun⟨bv,sv,kv,h,h1,h2,h3⟩ k1 k2=>⟨bv,sv,kv,h,Kind.aM h1 k1 k2,Kind.aM h2 k1 k2,Kind.aM h3 k1 k2⟩
 mono:=fun⟨bv,sv,kv,h,h1,h2,h3⟩ k1=>⟨bv,sv,kv,h,Kind.aH h1 k1,Kind.aH h2 k1,Kind.aH h3 k1⟩
theorem MR:∃i z,Tryz.prog.info? 64=some i∧i.zero=some z∧i.size=Lc.size∧i.bytes=120∧z.cells.size=Lc.size:=⟨Tryz.t64,.agg #[.int .i64 0,.int .i64 0,.int .i64 0,.slice none 0 0,.string ByteArray.empty,.slice none 0 0,.int .i64 0,.slice none 0 0],by kernel_rfl,by kernel_rfl,by kernel_rfl,by kernel_rfl,by kernel_rfl⟩
def E8 (B:Nat→Prop) (w:World) (v:Value) (d:dH):Prop:=∃tv rv kv nv sv,v=.agg #[tv,rv,.bool d.running,kv,nv,.int .i64 d.run.level,.int .i64 d.run.rounds,.bool d.run.done,sv]∧bC B w tv d.told∧dX.sl B w rv d.rules∧bC B w kv d.run.known∧bC B w nv d.run.fresh∧kS.sl B w sv d.saved
theorem Cw {φ:Prover} {d:dH} {l:List DoD} {j:Nat} {x:DoD} (h:l[j]?=some x):eG φ d (l.drop j)=((eG φ (doP φ d x).1 (l.drop (j+1))).1,(doP φ d x).2::(eG φ (doP φ d x).1 (l.drop (j+1))).2):=by
 have hlt:=(List.getElem?_eq_some_iff.1 h).1;have e:l[j]=x:=(List.getElem?_eq_some_iff.1 h).2;rw[List.drop_eq_getElem_cons hlt,e,eG]
structure MS (w:World) (P:Nat) (d:dH) (o:Value) (l:List rH) (wr:World):Prop where
 below:Below w.heap.size w wr
 res:wr.heap[w.heap.size]?=some (.cells #[.slice none 0 0,.slice none 0 0,.bool false,.slice none 0 0,.slice none 0 0,.int .i64 0,.int .i64 0,.bool false,.slice none 0 0] 56 (0,0))
 VR:∃tv rv kv nv sv,fH P (fun k=>P<k∧o.ownBlock≠some k) wr d tv rv kv nv sv
 row:Lc.own 64 (P+1) wr o l
set_option maxRecDepth 100000 in
set_option maxHeartbeats 4000000 in
theorem MU (φ:Prover) (l:List DoD) (lv:Value) (w:World) (hl:doK.sl bU w lv l) (m:Int) (hm:w.cell? ⟨1,0,none⟩=some (.int .i64 m)) (hmw:1<w.heap.size) (hφ:∀x∈l,x.kind=6→Dw φ):
  Calls Tryz.prog 30 #[lv] w fun e w'=>∃dv ov,e=.returned (.tuple #[dv,ov,.int .i64 (ku φ l).2.2])∧E8 (From (w.heap.size+1)) w' dv (ku φ l).1∧Lc.sl (From (w.heap.size+1)) w' ov (ku φ l).2.1∧Below w.heap.size w w':=by
 have HΦ:=hide hφ;clear hφ;obtain⟨la,lc,rfl⟩:=Kind.slice hl;obtain⟨w1,hw1⟩:∃w1,w1=w.alloc (.cells #[.slice none 0 0,.slice none 0 0,.bool false,.slice none 0 0,.slice none 0 0,.int .i64 0,.int .i64 0,.bool false,.slice none 0 0] 56):=⟨_,rfl⟩;have hz1:w1.heap.size=w.heap.size+1:=by rw[hw1];simp
 have hL1:Later w w1:=by rw[hw1];exact(Later.refl w).alloc _
 have hr1:w1.heap[w.heap.size]?=some (.cells #[.slice none 0 0,.slice none 0 0,.bool false,.slice none 0 0,.slice none 0 0,.int .i64 0,.int .i64 0,.bool false,.slice none 0 0] 56 (0,0)):=by rw[hw1];exact heap_alloc_new w _
 have HV:=hide hl;have HW1:=hide hw1;have HR1:=hide hr1;have HL1:=hide hL1;have hll:=hl.1.1;clear hl hw1 hr1 hL1
 by_cases h60:60<l.length
 ·have HX:Hid (ku φ l=(j3,[],5)):=by show _=_;unfold ku;rw[if_pos h60]
  obtain⟨⟨q0,q1,q2,q3,q4,q5,q6,q7,q8⟩,qfz,qlt⟩:=jN HR1.out;generalize l.length=ln at*
  go_enter Tryz.func30,Tryz.ntmps30
  go_wp2_with (first|(rw[←HW1.out])|fail)
  have hrow:=yJ HR1.out (.slice none 0 0) (.slice none 0 0) (.bool false) (.slice none 0 0) (.slice none 0 0) (.int .i64 0) (.int .i64 0) (.bool false) (.slice none 0 0);obtain⟨⟨r0,r1,r2,r3,r4,r5,r6,r7,r8⟩,_,_⟩:=jN hrow;unfold MQ at r0 r1 r2 r3 r4 r5 r6 r7 r8;have hTz:=Cv w1 w.heap.size (.slice none 0 0) (.slice none 0 0) (.bool false) (.slice none 0 0) (.slice none 0 0) (.int .i64 0) (.int .i64 0) (.bool false) (.slice none 0 0);unfold MQ at hTz;exact bodyPost_ret (v:=.tuple #[.agg #[.slice none 0 0,.slice none 0 0,.bool false,.slice none 0 0,.slice none 0 0,.int .i64 0,.int .i64 0,.bool false,.slice none 0 0],.slice none 0 0,.int .i64 5]) (by simp[results,Tryz.results30,go_sem,r0,r1,r2,r3,r4,r5,r6,r7,r8]) rfl
   ⟨_,_,by rw[HX.out],by rw[HX.out];exact⟨_,_,_,_,_,rfl,bC.nil _ _,dX.cZ _ _ _ _,bC.nil _ _,bC.nil _ _,kS.cZ _ _ _ _⟩,by rw[HX.out];exact Lc.cZ _ _ _ _,HL1.out.below.trans (hTz.below (Nat.le_refl _) HL1.out.size)⟩
 ·have HX:Hid (ku φ l=((eG φ j3 l).1,(eG φ j3 l).2,0)):=by show _=_;unfold ku;rw[if_neg h60]
  obtain⟨w2,hw2⟩:∃w2,w2=w1.alloc (.cells #[.slice none 0 0,.slice none 0 0,.bool false,.slice none 0 0,.slice none 0 0,.int .i64 0,.int .i64 0,.bool false,.slice none 0 0] 140):=⟨_,rfl⟩;have hL2:Later w1 w2:=by rw[hw2];exact(Later.refl w1).alloc _
  have hr2:w2.heap[w.heap.size+1]?=some (.cells #[.slice none 0 0,.slice none 0 0,.bool false,.slice none 0 0,.slice none 0 0,.int .i64 0,.int .i64 0,.bool false,.slice none 0 0] 140 (0,0)):=by rw[hw2,←hz1];exact heap_alloc_new w1 _
  have HP0:Hid (MS w (w.heap.size+1) j3 (.slice none 0 0) [] w2):=⟨(HL1.out.trans hL2).below,(hL2.block (by omega)).trans HR1.out,⟨_,_,_,_,_,hr2,bC.nil _ _,dX.cZ _ _ _ _,bC.nil _ _,bC.nil _ _,kS.cZ _ _ _ _⟩,Lc.iH _ _ _⟩;have HW2:=hide hw2;have HM:=hide hm;clear hw2 hL2 hr2 hm HR1 HL1;generalize hP:w.heap.size+1=P at*;have HPe:=hide hP;have hPl:w.heap.size<P:=by omega
  clear hP
  go_enter Tryz.func30,Tryz.ntmps30
  go_wp2_with (first|(rw[←HW1.out])|(rw[←HW2.out])|fail)
  clear HW1 HW2
  go_loopg [6,15] l.length (fun g o i wr=>∃j:Nat,j+g=l.length∧i=.int .i64 j∧∃d ans,Hid (ans.length=j)∧Hid (eG φ j3 l=((eG φ d (l.drop j)).1,ans++(eG φ d (l.drop j)).2))∧Hid (MS w P d o ans wr))
  case atStart=>exact⟨0,by omega,rfl,j3,[],(rfl:_=_),(rfl:_=_),HP0⟩
  case round=>
   clear HP0;obtain⟨j,hj,rfl,d,ans,HAl,HEq,HPw⟩:=hrel;have hF:=HPw.out;obtain⟨tv,rv,kv,nv,sv,hD⟩:=hF.VR;have Xh:=hD.lt;obtain⟨oa,on,oc,rfl⟩:∃a n c,u6=.slice a n c:=by obtain⟨a,c,e⟩:=Kind.bJ hF.row;exact⟨a,_,c,e⟩
   by_cases hlt:j<l.length
   ·obtain⟨x,hx⟩:∃x,l[j]?=some x:=⟨_,List.getElem?_eq_getElem hlt⟩;obtain⟨b1,o1,_,e1,hb1,⟨xs,hce,hxs⟩,hc⟩:=Kind.eT HV.out hx;subst e1;subst hce;have hst:=Cw (φ:=φ) (d:=d) hx;have dc:∀i u,[.int .i64 x.kind,.int .i64 x.n,.string x.fact.1,xs,.string x.text][i]?=some u→wr.cell? ⟨b1,o1+j*5+i,none⟩=some u:=fun i u hu=>by
     rw[hF.below.cell (p:=⟨b1,o1+j*5+i,none⟩) hb1];exact hc i u hu
    have d0:=dc 0 _ rfl;have d1:=dc 1 _ rfl;have d2:=dc 2 _ rfl;have d3:=dc 3 _ rfl;have d4:=dc 4 _ rfl;rw[Nat.add_zero] at d0;obtain⟨xa,xc,rfl⟩:=aW hxs.1;obtain⟨wf,hwf⟩:∃wf,wf=wr.alloc (.cells #[.int .i64 x.kind,.int .i64 x.n,.string x.fact.1,.slice xa x.fact.2.length xc,.string x.text] 72):=⟨_,rfl⟩;have hLf:Later wr wf:=by rw[hwf];exact(Later.refl wr).alloc _
    have hRf:wf.heap[wr.heap.size]?=some (.cells #[.int .i64 x.kind,.int .i64 x.n,.string x.fact.1,.slice xa x.fact.2.length xc,.string x.text] 72 (0,0)):=by rw[hwf];exact heap_alloc_new wr _
    have hBf:Below w.heap.size w wf:=aj hF.below hLf.below hF.below.size;have hsx:Strs wf (.slice xa x.fact.2.length xc) x.fact.2:=hxs.1.below hBf;have Uc:=hF.below.size;have RQ:=hLf.size;have HDo:=hide (doC φ P (fun k=>P<k∧(Value.slice oa on oc).ownBlock≠some k) d x (.agg #[.int .i64 x.kind,.int .i64 x.n,.string x.fact.1,.slice xa x.fact.2.length xc,.string x.text]) tv rv kv nv sv wf (hD.below hLf.below) (fun h=>by omega) ⟨_,rfl,hsx⟩ m (by rw[hBf.cell (p:=⟨1,0,none⟩) hmw];exact HM.out) (by omega) (HΦ.out x (List.mem_of_getElem? hx)));obtain⟨g0,g1,g2,g3,g4,_,TR⟩:=dO hRf;have g1':wf.cell? ⟨wr.heap.size,0+1,none⟩=some (.int .i64 x.n):=g1;have g2':wf.cell? ⟨wr.heap.size,0+2,none⟩=some (.string x.fact.1):=g2;have g3':wf.cell? ⟨wr.heap.size,0+3,none⟩=some (.slice xa x.fact.2.length xc):=g3;have g4':wf.cell? ⟨wr.heap.size,0+4,none⟩=some (.string x.text):=g4;have HSt:=hide hst;have HWf:=hide hwf;have HLf:=hide hLf;have HF:=hide hF;clear hst dc hc hx hwf hLf hRf hsx hxs hF hD HPw;obtain⟨Y,hY⟩:∃Y,doP φ d x=Y:=⟨_,rfl⟩;rw[hY] at HDo HSt;clear hY
    go_wp2_with (first|(rw[←HWf.out])|fail)
    refine HDo.out.mono ?_;rintro e w3 ⟨v3,rfl,hA3,⟨tv3,rv3,kv3,nv3,sv3,hD3⟩,hT3⟩;obtain⟨ba,bc,sa,sc,ka',kc',rfl⟩:=hA3.slices;obtain⟨bv',sv',kv',eA,a1,a2,a3⟩:=hA3;simp only[Value.agg.injEq,Array.mk.injEq,List.cons.injEq,true_and,and_true] at eA;obtain⟨rfl,rfl,rfl⟩:=eA;have hz3:=hT3.size;have MV:Tn P wr w3:=(Tn.of_below HLf.out.below).trans hT3;have hown3:Lc.own 64 (P+1) w3 (.slice oa on oc) ans:=Kind.bT HF.out.row MV (by omega);have RS:∀k,(Value.slice oa on oc).ownBlock=some k→P+1≤k∧k<wr.heap.size:=fun k e=>Kind.eP HF.out.row e;have hm3:∀k,k<w3.heap.size→wf.heap.size≤k→P+1≤k∧(Value.slice oa on oc).ownBlock≠some k:=fun k _ hk=>⟨by omega,fun e=>by have:=(RS k e).2;omega⟩;obtain⟨i,z,i1,i2,i3,i4,i5⟩:=MR;have hal:=HAl.out;obtain⟨v6,w6,hrun,hO6,hg6,_,hk6⟩:=Kind.o9 (P:=Tryz.prog) (t:=57) hown3 Tryz.underlying57 i1 i2 i3 i4 i5 (by show 0<8;decide) (x:=Y.2) (c:=[.int .i64 Y.2.err,.int .i64 Y.2.place,.int .i64 Y.2.n,.slice ba Y.2.binds.length bc,.string Y.2.prf.fact.1,.slice sa Y.2.prf.fact.2.length sc,.int .i64 Y.2.prf.rule,.slice ka' Y.2.prf.kids.length kc'])
     ⟨_,_,_,rfl,Kind.aH a1 hm3,Kind.aH a2 hm3,Kind.aH a3 hm3⟩ (by omega) (by simp only[maxLen];omega) (by omega)
    obtain⟨a6,n6,c6,rfl⟩:∃a n c,v6=.slice a n c:=by obtain⟨a,c,e⟩:=Kind.bJ hO6;exact⟨a,_,c,e⟩
    have hz6:w3.heap.size≤w6.heap.size:=Nat.le_trans (by simp) hg6.size;have hblk:∀k,k<w3.heap.size→(Value.slice oa on oc).ownBlock≠some k→w6.heap[k]?=w3.heap[k]?:=fun k hk hne=>
     (hg6.block k (by simp;omega) (fun e=>hne e.symm)).trans (Below.heap_alloc w3 _ k hk)
    have hnP:∀k,k<P+1→(Value.slice oa on oc).ownBlock≠some k:=fun k hk e=>by have:=(RS k e).1;omega
    have HFin:Hid (MS w P Y.1 (.slice a6 n6 c6) (ans++[Y.2]) w6):=by
     refine⟨?_,?_,⟨tv3,rv3,kv3,nv3,sv3,?_⟩,hO6⟩
     ·exact⟨hg6.os.trans (MV.os.trans HF.out.below.os),hg6.tape.trans (MV.tape.trans HF.out.below.tape),hg6.output.trans (MV.output.trans HF.out.below.output),by omega,
       fun k hk=>(hblk k (by omega) (hnP k (by omega))).trans ((MV.block k (by omega) (by omega)).trans (HF.out.below.block k hk))⟩
     ·rw[hblk _ (by omega) (hnP _ (by omega)),MV.block _ (by omega) (by omega)];exact HF.out.res
     ·have VT:fH P (fun k=>P<k∧(Value.slice oa on oc).ownBlock≠some k) w3 Y.1 tv3 rv3 kv3 nv3 sv3:=hD3.mono fun k hk hB=>by
       rcases hB with hB|hB
       ·exact hB
       ·exact⟨by omega,(hm3 k hk hB).2⟩
      have hD4:=(VT.mono (B':=fun k=>(P<k∧(Value.slice oa on oc).ownBlock≠some k)∧k<w3.heap.size) fun k hk hB=>⟨hB,hk⟩).kept hz6 (hblk P (by omega) (hnP P (by omega))) fun k hk hB=>hblk k hk hB.1.2;refine hD4.mono fun k _ hB=>⟨hB.1.1,fun e=> ?_⟩;rcases hk6 k e with e|e
      ·exact hB.1.2 e
      ·omega
    have HE1:Hid (eG φ j3 l=((eG φ Y.1 (l.drop (j+1))).1,(ans++[Y.2])++(eG φ Y.1 (l.drop (j+1))).2)):=by
     show _=_;rw[HEq.out,HSt.out,List.append_assoc];rfl
    have HRn:=hide hrun;clear hD3 hT3 a1 a2 a3 MV hown3 RS hm3 hrun hO6 hg6 hk6 hblk hnP HDo HWf HLf HF HSt HEq d0 d1 d2 d3 d4 g0 g1 g2 g3 g4 g1' g2' g3' g4' i1 i2 i3 i4 i5 hBf
    go_wp2_with (at_builtin;refine wpList_append_run rfl (.tmp 19) (.tmp 22) 57 rfl _ _ _ _ rfl rfl HRn.out ?_)
    go_roundg (l.length- (j+1))
    case measure=>omega
    case rel=>exact⟨j+1,by omega,by go_num,Y.1,ans++[Y.2],(by show _=_;rw[List.length_append,hal];rfl),HE1,HFin⟩
   ·have hE:eG φ j3 l=(d,ans):=by
     have:=HEq.out;rw[this,List.drop_eq_nil_of_le (by omega)];simp[eG]
    have HX2:Hid (ku φ l=(d,ans,0)):=by show _=_;rw[HX.out,hE]
    obtain⟨⟨ta,tc,rfl⟩,⟨ra,rc,rfl⟩,⟨xka,xkc,rfl⟩,⟨xna,xnc,rfl⟩,⟨xsa,xsc,rfl⟩⟩:=hD.slices;obtain⟨⟨q0,q1,q2,q3,q4,q5,q6,q7,q8⟩,qfz,_⟩:=jN hD.row;obtain⟨⟨z0,z1,z2,z3,z4,z5,z6,z7,z8⟩,zfz,zlt⟩:=jN hF.res;have HRz:=hide hF.res;have HD:=hide hD;have HB:=hide hF.below;have HO:=hide hF.row;have hal:=HAl.out;clear hE hF hD HEq HPw HX;go_wp2;have hrow:=yJ HRz.out (.slice ta d.told.length tc) (.slice ra d.rules.length rc) (.bool d.running) (.slice xka d.run.known.length xkc) (.slice xna d.run.fresh.length xnc) (.int .i64 d.run.level) (.int .i64 d.run.rounds) (.bool d.run.done) (.slice xsa d.saved.length xsc);obtain⟨⟨r0,r1,r2,r3,r4,r5,r6,r7,r8⟩,_,_⟩:=jN hrow;have hTz:=Cv wr w.heap.size (.slice ta d.told.length tc) (.slice ra d.rules.length rc) (.bool d.running) (.slice xka d.run.known.length xkc) (.slice xna d.run.fresh.length xnc) (.int .i64 d.run.level) (.int .i64 d.run.rounds) (.bool d.run.done) (.slice xsa d.saved.length xsc);unfold MQ at r0 r1 r2 r3 r4 r5 r6 r7 r8 hTz;have hkk:∀k,k<wr.heap.size→(P<k∧(Value.slice oa on oc).ownBlock≠some k)→_:=fun k hk hB=>hTz.block k hk (by omega);have hw:∀k:Nat,(P<k∧(Value.slice oa on oc).ownBlock≠some k)→P≤k:=fun k hB=>by omega
    have hD:=HD.out;exact bodyPost_ret (v:=.tuple #[.agg #[.slice ta d.told.length tc,.slice ra d.rules.length rc,.bool d.running,.slice xka d.run.known.length xkc,.slice xna d.run.fresh.length xnc,.int .i64 d.run.level,.int .i64 d.run.rounds,.bool d.run.done,.slice xsa d.saved.length xsc],.slice oa on oc,.int .i64 0]) (by simp[results,Tryz.results30,go_sem,r0,r1,r2,r3,r4,r5,r6,r7,r8]) rfl
     ⟨_,_,by rw[HX2.out],by
      rw[HX2.out];exact⟨_,_,_,_,_,rfl,(hD.told.kept hTz.size hkk).mono fun k _ hB=>hw k hB,Kind.aH (Kind.aM hD.rules hTz.size hkk) fun k _ hB=>hw k hB,(hD.known.kept hTz.size hkk).mono fun k _ hB=>hw k hB,(hD.fresh.kept hTz.size hkk).mono fun k _ hB=>hw k hB,Kind.aH (Kind.aM hD.saved hTz.size hkk) fun k _ hB=>hw k hB⟩,by
      rw[HX2.out];exact Kind.aH (Kind.iI (Kind.bT HO.out hTz (by omega)) (by rw[hal];omega)) fun k _ hk=>by have:P+1≤k:=hk;show P≤k;omega,HB.out.trans (hTz.below (Nat.le_refl _) HB.out.size)⟩
end Go.Proofs.YtafmbokfkbccaaaGreatDoor
