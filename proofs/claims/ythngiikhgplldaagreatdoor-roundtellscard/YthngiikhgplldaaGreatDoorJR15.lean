import Derived.Test.YthngiikhgplldaaGreatDoorJR12
import Derived.Test.YthngiikhgplldaaGreatDoorJR13
import Derived.Test.YthngiikhgplldaaGreatDoorJR14
import Derived.Shelf.Spec.SlicesGrow
import Derived.Test.YthngiikhgplldaaGreatDoorProg
import Derived.Test.YthngiikhgplldaaGreatDoorJR8
open Go.RowKit Go.Sort Go.Maps Go.Shelf
set_option maxHeartbeats 4000000
set_option maxRecDepth 100000
namespace Go.Proofs.YthngiikhgplldaaGreatDoor
theorem fZ (pick:Nat→List aF):∀(ats:List aJ) (n:Nat) (ls ms:List (List aI)),ls.length≤20000→eu pick n ats ls=some ms→ms.length≤20000
 |[],_,ls,ms,h,e=>by cases e;exact h
 |a::ats,n,ls,ms,h,e=>by
  unfold eu at e;split at e;·exact fZ pick ats _ ls ms h e
  split at e;·cases e
  exact fZ pick ats _ _ ms (by omega) e
theorem nD {pick:Nat→List aF} {body:List aJ} {R:List (List aI)} (h:mK pick body=some R):R.length≤20000:=by
 unfold mK at h;cases e:eu pick 0 body [[]] with
 |none=>rw[e] at h;cases h
 |some ms=>
  rw[e] at h;cases h;have:=fZ pick body 0 [[]] ms (by simp) e;rw[(bF _).length_eq,List.length_map];exact Nat.le_trans (List.length_filter_le _ _) this
theorem vX (fs:List aG):bW fs (-1) []=fun _=>fs:=by
 funext n
 unfold bW;rw[if_neg (by omega)]
def mD (w:World) (v:Value) (er:Int) (r:aD) (fs:List aF):Prop:=
 if qC r.body fs []≠0 then v=.slice none 0 0∧er=qC r.body fs [] else match gY r fs with
  |none=>v=.slice none 0 0∧er=4
  |some x=>er=0∧Facts w v x
theorem DN {w:World} {g:Nat} {f:aF} {s:Value} (h:w.heap[g]?=some (.cells #[.string f.1,s] 50 (0,0))) (hs:Strs w s f.2):Facts w (.slice (some ⟨g,0,none⟩) 1 1) [f]:=by
 refine⟨by simp,_,1,rfl,fun _=>⟨g,0,rfl,(Array.getElem?_eq_some_iff.1 h).1,fun i hi=>?_⟩⟩;have:i=0:=by simp at hi;omega
 subst this;exact⟨by rw[cell_of_row _ _ _ _ _ _ h];rfl,s,by rw[cell_of_row _ _ _ _ _ _ h];rfl,hs⟩
theorem Hw (r:aD) (tv bv fv:Value) (fs:List aF) (w:World) (ht:gJ.sl bT w tv r.head.terms) (hb:dY.sl bT w bv r.body) (hf:Facts w fv fs)
  (hs:∀R,mK (fun _=>fs) r.body=some R→∀l∈R,∀f,bf r.head l=some f→qY f):
  Calls Tryz.prog 84 #[.agg #[.bool r.head.no,.string (bs r.head.name),tv,bv],fv] w fun e w'=>∃v' er,e=.returned (.tuple #[v',.int .i64 er])∧mD w' v' er r fs∧Below w.heap.size w w':=by
 obtain⟨ta,tc,rfl⟩:=aB.slice ht;obtain⟨ba,bc,rfl⟩:=aB.slice hb;obtain⟨fa,fc,rfl⟩:=aC hf;obtain⟨wb,hwb⟩:∃wb,wb=w.alloc (.cells #[.bool r.head.no,.string (bs r.head.name),.slice ta r.head.terms.length tc,.slice ba r.body.length bc] 57):=⟨_,rfl⟩;have hLb:aj w wb:=by rw[hwb];exact(aj.refl w).alloc _
 have hrb:wb.heap[w.heap.size]?=some (.cells #[.bool r.head.no,.string (bs r.head.name),.slice ta r.head.terms.length tc,.slice ba r.body.length bc] 57 (0,0)):=by rw[hwb];exact heap_alloc_new w _
 have HA:=au (LM r.body (.slice ba r.body.length bc) (.slice fa fs.length fc) fs wb (aB.aS hb hLb) (hf.later hLb));have HTm:=au (aB.aS ht hLb);have HS:=au hs;have HLb:=au hLb;have HRb:=au hrb;have c3:wb.cell? ⟨w.heap.size,3,none⟩=some (.slice ba r.body.length bc):=by rw[cell_of_row _ _ _ _ _ _ hrb];rfl
 have HWB:=au hwb;clear ht hb hf hs hLb hrb
 go_enter Tryz.func84,Tryz.ntmps84
 rw[hwb] at c3;clear hwb
 go_wp2_with fail
 rw[←HWB.out];clear c3;refine HA.out.mono ?_;rintro e w1 ⟨v1,er,rfl,hT,hB1⟩;clear HA;unfold xG at hT;rw[vX] at hT;have HB1:Hid (Below w.heap.size w w1):=ak HLb.out.below hB1 HLb.out.size;have Hy:w.heap.size<wb.heap.size:=(Array.getElem?_eq_some_iff.1 HRb.out).1;have HR1:Hid (w1.heap[w.heap.size]?=some (.cells #[.bool r.head.no,.string (bs r.head.name),.slice ta r.head.terms.length tc,.slice ba r.body.length bc] 57 (0,0))):=by show _=_;rw[hB1.block _ Hy];exact HRb.out
 have HT1:=au (aB.aO HTm.out hB1);clear hB1 HTm HRb HLb HWB Hy
 by_cases h0:qC r.body fs []=0
 ·rw[if_neg (by simp[h0])] at hT;cases hR:mK (fun _=>fs) r.body with
  |none=>
   rw[hR] at hT;obtain⟨rfl,rfl⟩:=hT;have HH:Hid (∀w',mD w' (.slice none 0 0) 4 r fs):=fun w'=>by unfold mD gY;rw[if_neg (by simp[h0]),hR];exact⟨rfl,rfl⟩
   clear h0 hR HS HR1 HT1;go_wp2;exact bodyPost_ret (v:=.tuple #[.slice none 0 0,.int .i64 4]) (by simp[results,Tryz.results84,go_sem]) rfl ⟨_,4,rfl,HH.out _,HB1.out⟩
  |some R=>
   rw[hR] at hT;obtain⟨rfl,hsl⟩:=hT;have hsmall:=nD hR;have HSh:=au (HS.out R hR);have HH:Hid (∀w' v',Facts w' v' (bY (R.filterMap fun l=>bf r.head l))→mD w' v' 0 r fs):=fun w' v' h=>by unfold mD gY;rw[if_neg (by simp[h0]),hR];exact⟨rfl,h⟩
   have HRL:=au hsl;obtain⟨ra,rc,rfl⟩:=aB.slice hsl;clear h0 hR hsl HS;have hmm:= @run_makeMap Tryz.prog;obtain⟨w2,hw2⟩:∃w2,w2=w1.alloc (.map #[] 0):=⟨_,rfl⟩;have HK2:Hid (KnN w2 w1.heap.size 0 ((R.take 0).filterMap fun l=>bf r.head l)):=by show KnN _ _ _ _;rw[hw2];exact eU.made _ _ _
   have HB2:Hid (Below w1.heap.size w1 w2):=by show Below _ _ _;rw[hw2];exact((aj.refl w1).alloc _).below
   have HW2:=au hw2;clear hw2;go_wp2;rw[←HW2.out];clear hmm HW2
   go_loopg [26] R.length (fun g i wr=>∃j:Nat,j+g=R.length∧i=.int .i64 j∧Hid (KnN wr w1.heap.size j ((R.take j).filterMap fun l=>bf r.head l))∧Hid (Below w1.heap.size w1 wr))
   case atStart=>exact⟨0,by omega,rfl,HK2,HB2⟩
   clear HK2 HB2;obtain⟨j,hj,rfl,HK,HBr⟩:=hrel
   by_cases hlt:j<R.length
   ·obtain⟨l,hx⟩:∃x,R[j]?=some x:=⟨_,List.getElem?_eq_getElem hlt⟩;obtain⟨b1,o1,_,rfl,hb1,⟨lv,rfl,hlv⟩,hc⟩:=aB.bR HRL.out hx;have d0:wr.cell? ⟨b1,o1+j,none⟩=some lv:=by rw[HBr.out.cell (p:=⟨b1,o1+j,none⟩) hb1];simpa[slK] using hc 0 _ rfl
    have HLV:=au hlv;obtain⟨la,lc,rfl⟩:=aB.slice hlv;have hbw:w.heap.size<w1.heap.size:=(Array.getElem?_eq_some_iff.1 HR1.out).1;have hrr:wr.heap[w.heap.size]?=some (.cells #[.bool r.head.no,.string (bs r.head.name),.slice ta r.head.terms.length tc,.slice ba r.body.length bc] 57 (0,0)):=by rw[HBr.out.block _ hbw];exact HR1.out
    have r0:wr.cell? ⟨w.heap.size,0,none⟩=some (.bool r.head.no):=by rw[cell_of_row _ _ _ _ _ _ hrr];rfl
    have r1:wr.cell? ⟨w.heap.size,0+1,none⟩=some (.string (bs r.head.name)):=by rw[cell_of_row _ _ _ _ _ _ hrr];rfl
    have r2:wr.cell? ⟨w.heap.size,0+2,none⟩=some (.slice ta r.head.terms.length tc):=by rw[cell_of_row _ _ _ _ _ _ hrr];rfl
    have HFc:=au (GU r.head _ (.slice la l.length lc) l wr (aB.aO HT1.out HBr.out) (aB.aO HLV.out HBr.out));have htk:R.take (j+1)=R.take j++[l]:=by rw[List.take_add_one,hx];rfl
    have hSl:=HSh.out l (List.mem_of_getElem? hx);unfold filled at HFc;clear hc hx hlv hrr;cases hfl:bf r.head l with
    |none=>
     rw[hfl] at HFc;have HK':Hid (KnN wr w1.heap.size (j+1) ((R.take (j+1)).filterMap fun l=>bf r.head l)):=by show KnN _ _ _ _;rw[htk,List.filterMap_append];simp only[List.filterMap_cons,hfl,List.filterMap_nil,List.append_nil];exact HK.out.mono (Nat.le_succ _)
     clear hfl htk hSl;generalize bs r.head.name=nm at*;generalize r.head.no=no at*
     go_wp2_with fail
     refine HFc.out.mono ?_;rintro e w3 ⟨f3,rfl,hfv,hL3⟩;obtain⟨s,rfl,hs⟩:=hfv;obtain⟨sA',sC',rfl⟩:=bP hs;simp only[Option.isSome_none];have HL3:Hid (aj wr w3):=hL3;clear hs hL3;go_wp2
     go_roundg (R.length- (j+1))
     case measure=>omega
     case rel=>exact⟨j+1,by omega,by go_num,HK'.out.later (HL3.out.alloc _),ak HBr.out (HL3.out.alloc _).below HBr.out.size⟩
    |some f=>
     rw[hfl] at HFc;have hsf:=hSl f hfl;have hfm:(R.take (j+1)).filterMap (fun l=>bf r.head l)=(R.take j).filterMap (fun l=>bf r.head l)++[f]:=by rw[htk,List.filterMap_append];simp only[List.filterMap_cons,hfl,List.filterMap_nil]
     have HFM:=au hfm;have HSF:=au hsf;clear hfl htk hSl hfm hsf;generalize bs r.head.name=nm at*;generalize r.head.no=no at*
     go_wp2_with fail
     refine HFc.out.mono ?_;rintro e w3 ⟨f3,rfl,hfv,hL3⟩;simp only[Option.isSome_some,Option.getD_some] at hfv⊢;obtain⟨s,rfl,hs⟩:=hfv;obtain⟨sA',sC',rfl⟩:=bP hs;obtain⟨fn,dF⟩:=f;dsimp only at*;obtain⟨w4,hw4⟩:∃w4,w4=(w3.alloc (.cells #[.string fn,.slice sA' dF.length sC'] 50)).alloc (.cells #[.string fn,.slice sA' dF.length sC'] 50):=⟨_,rfl⟩;have hL4:aj w3 w4:=by rw[hw4];exact((aj.refl _).alloc _).alloc _
     have hr4:w4.heap[w3.heap.size+1]?=some (.cells #[.string fn,.slice sA' dF.length sC'] 50 (0,0)):=by rw[hw4];have:=heap_alloc_new (w3.alloc (.cells #[.string fn,.slice sA' dF.length sC'] 50)) (.cells #[.string fn,.slice sA' dF.length sC'] 50);simpa using this
     have HAd:=au (DF w1.heap.size j _ (.slice (some ⟨w3.heap.size+1,0,none⟩) 1 1) [(fn,dF)] w4 (HK.out.later (hL3.trans hL4)) (DN (f:=(fn,dF)) hr4 (hs.later hL4)) (fun g hg=>by simp only[List.mem_singleton] at hg;subst hg;exact HSF.out) (by simp;omega));have HL4:Hid (aj wr w4):=hL3.trans hL4;have HW4:=au hw4;clear hs hL3 hL4 hr4 hw4 HFc
     go_wp2_with fail
     rw[←HW4.out];refine HAd.out.mono ?_;rintro e w5 ⟨⟨u5,rfl⟩,hK5,hT5⟩;have HK5:Hid (KnN w5 w1.heap.size (j+1) ((R.take (j+1)).filterMap fun l=>bf r.head l)):=by show KnN _ _ _ _;rw[HFM.out];exact hK5
     have hs4:w1.heap.size≤w4.heap.size:=Nat.le_trans HBr.out.size HL4.out.size;have HB5:Hid (Below w1.heap.size w1 w5):=(ak HBr.out HL4.out.below HBr.out.size).trans (hT5.below (Nat.le_refl _) hs4);clear hK5 hT5 HAd HW4;go_wp2
     go_roundg (R.length- (j+1))
     case measure=>omega
     case rel=>exact⟨j+1,by omega,by go_num,HK5,HB5⟩
   have hj':j=R.length:=by omega
   subst hj';rw[List.take_length] at HK;have HF:=au (DI _ _ _ wr HK.out (by omega))
   go_wp2_with fail
   refine HF.out.mono ?_;rintro e w6 ⟨v6,rfl,hF6,hB6⟩;have HT6:=au (HH.out _ _ hF6);have HB6:Hid (Below w.heap.size w w6):=ak (ak HB1.out HBr.out HB1.out.size) hB6 (Nat.le_trans HB1.out.size HBr.out.size);obtain⟨a6,c6,rfl⟩:=aC hF6;clear hF6 hB6;go_wp2;exact bodyPost_ret (v:=.tuple #[.slice a6 (bY (R.filterMap fun l=>bf r.head l)).length c6,.int .i64 0]) (by simp[results,Tryz.results84,go_sem]) rfl ⟨_,0,rfl,HT6.out,HB6.out⟩
 rw[if_pos h0] at hT;obtain⟨rfl,rfl⟩:=hT;have HH:Hid (∀w',mD w' (.slice none 0 0) (qC r.body fs []) r fs):=fun w'=>by unfold mD;rw[if_pos h0];exact⟨rfl,rfl⟩
 clear HS HR1 HT1;generalize qC r.body fs []=er at*;go_wp2;exact bodyPost_ret (v:=.tuple #[.slice none 0 0,.int .i64 er]) (by simp[results,Tryz.results84,go_sem]) rfl ⟨_,er,rfl,HH.out _,HB1.out⟩
end Go.Proofs.YthngiikhgplldaaGreatDoor
section
namespace Go.Proofs
open Go.Shelf
def Tryz.growFacts_ren:Go.Shelf.Ren:=⟨fun|4=>90|n=>n,fun|22=>24|25=>50|3=>3|4=>4|9=>9|20=>20|0=>0|n=>n,fun|n=>n⟩
theorem Tryz.growFacts:Go.Proofs.Lays8.n4 Tryz.prog Tryz.growFacts_ren:={
 mixed:=by kernel_rfl
 f4:=⟨Tryz.f90.name,by decide,Tryz.func90.trans (congrArg some (by kernel_rfl))⟩
 t0:=Tryz.underlying0
 a0:=Tryz.isAgg0
 z0:=Tryz.sizeOf0
 v0:=Tryz.zeroValue0
 t3:=Tryz.underlying3
 a3:=Tryz.isAgg3
 z3:=Tryz.sizeOf3
 v3:=Tryz.zeroValue3
 t4:=Tryz.underlying4
 a4:=Tryz.isAgg4
 z4:=Tryz.sizeOf4
 v4:=Tryz.zeroValue4
 t9:=Tryz.underlying9
 a9:=Tryz.isAgg9
 z9:=Tryz.sizeOf9
 v9:=Tryz.zeroValue9
 t20:=Tryz.underlying20
 a20:=Tryz.isAgg20
 z20:=Tryz.sizeOf20
 v20:=Tryz.zeroValue20
 t22:=Tryz.underlying24
 a22:=Tryz.isAgg24
 z22:=Tryz.sizeOf24
 v22:=Tryz.zeroValue24}
end Go.Proofs
end
namespace Go.Proofs.YthngiikhgplldaaGreatDoor
theorem JG (w0 w:World) (hL:aj w0 w) (n:Nat) (hn:n≤3518437208883):Calls Tryz.prog 90 #[.slice none 0 0,.int .i64 n] w fun e w'=>
  ∃v',e=.returned v'∧iO w' w0.heap.size v' []∧aj w w'∧∀k,v'.ownBlock=some k→w.heap.size≤k:=by
 by_cases h0:n=0
 ·subst h0;exact(Any8.slices_Grow_room Tryz.growFacts none 0 0 0 w (Nat.le_refl _) (by omega) (by omega) (Nat.le_refl _)).mono fun e w' ⟨he,hw⟩=>
   ⟨_,he,by rw[hw];exact⟨[],World.ownsRow_nil w _ _ _,fun i hi=>by simp at hi⟩,by rw[hw];exact aj.refl _,fun k hk=>by simp[Value.ownBlock] at hk⟩
 obtain⟨i,i1,i2,i3,i4⟩:=oq;refine(Any8.slices_Grow_grow Tryz.growFacts i _ i1 i2 (by omega) none 0 0 n [] w (Nat.le_refl _) (by omega) (by rw[i4];omega) (by omega) (by simp) (fun _=>rfl) (fun a h=>by cases h)).mono fun e w' ⟨he,hw⟩=>⟨_,he,?_,?_,fun k hk=>?_⟩
 ·rw[hw];have hge:=grownCap_ge w (0+n) 0 (Tryz.growFacts_ren.t 25);have hcm:=grownCap_le_maxLen w (0+n) 0 (Tryz.growFacts_ren.t 25) (by simp only[maxLen];omega);refine⟨[],World.ownsRow_made (base:=w0.heap.size) (e:=50) (size:=2) w.drew _ _ hL.size hcm ?_,fun i hi=>by simp at hi⟩;simp only[Array.size_append,List.size_toArray,size_zeroCells];show 0+(0+n-0)*2+(grownCap w (0+n) 0 (Tryz.growFacts_ren.t 25)- (0+n))*2=_;omega
 ·rw[hw];exact(aj.refl w).drew.alloc _
 simp[Value.ownBlock] at hk;omega
theorem concat (w0 w:World) (hL:aj w0 w) (c cp:Nat) (va vb:Value) (la lb:List aG) (ha:Facts w0 va la) (hb:Facts w0 vb lb) (hn:la.length+lb.length≤3518437208883) (hc0:w.cell? ⟨c,0,none⟩=some va) (hc1:w.cell? ⟨c,1,none⟩=some vb) (hcb:c<w.heap.size):
  Calls Tryz.prog 66 #[.slice (some ⟨c,0,none⟩) 2 cp] w fun e w'=>∃v',e=.returned v'∧iO w' w0.heap.size v' (la++lb)∧aj w0 w':=by
 have HA:=au ha;have HB:=au hb;obtain⟨a1,c1,rfl⟩:=aC ha;obtain⟨a2,c2,rfl⟩:=aC hb;clear ha hb;have s1:¬((la.length:Int)<0):=by omega
 have s2:¬((la.length:Int)+(lb.length:Int)<0):=by omega
 go_enter Tryz.func66,Tryz.ntmps66
 go_wp2;refine wp_loop_rounds 3 ?_;rw[rounds_succ];go_wp2;rw[rounds_succ];go_wp2;rw[rounds_succ]
 go_wp2_with fail
 rw[show((la.length:Int)+(lb.length:Int))=((la.length+lb.length:Nat):Int) by omega];refine(JG w0 w hL (la.length+lb.length) hn).mono ?_;rintro e w1 ⟨v1,rfl,hR1,hL1,hk1⟩;obtain⟨v2,w2,Ep,hR2,hL2,hg2,hk2⟩:=hR1.append (hL.trans hL1) HA.out (by simp;omega);obtain⟨v3,w3,GV,hR3,hL3,hg3,hk3⟩:=hR2.append hL2 HB.out (by simp;omega);rw[List.nil_append] at hR3;have y0:w1.cell? ⟨c,0,none⟩=some (.slice a1 la.length c1):=by rw[hL1.cell (p:=⟨c,0,none⟩) hcb];exact hc0
 have y1:w1.cell? ⟨c,1,none⟩=some (.slice a2 lb.length c2):=by rw[hL1.cell (p:=⟨c,1,none⟩) hcb];exact hc1
 have y2:w2.cell? ⟨c,1,none⟩=some (.slice a2 lb.length c2):=by rw[World.cell?_of_block (w:=w1) (hg2.block c (Nat.lt_of_lt_of_le hcb hL1.size) (fun e=>by have:=hk1 c e.symm;omega))];exact y1
 have R2:=au Ep;have R3:=au GV;have HR:=au hR3;clear Ep GV hR1 hR2 hR3 hg2 hg3;go_wp2;refine wp_loop_rounds 3 ?_;rw[rounds_succ]
 go_wp2_with (at_builtin;refine wpList_append_run rfl (.tmp 31) (.tmp 32) 24 rfl _ _ _ _ rfl rfl R2.out ?_)
 rw[rounds_succ]
 go_wp2_with (at_builtin;refine wpList_append_run rfl (.tmp 31) (.tmp 32) 24 rfl _ _ _ _ rfl rfl R3.out ?_)
 rw[rounds_succ];go_wp2;go_ret;exact⟨v3,rfl,HR.out,hL3⟩
theorem Hz (va vb:Value) (la lb:List aG) (w:World) (ha:Facts w va la) (hb:Facts w vb lb) (hn:la.length+lb.length≤3518437208883):
  Calls Tryz.prog 48 #[va,vb] w fun e w'=>∃v' s,e=.returned v'∧iX s (la++lb)∧dR w' w.heap.size v' s∧aj w w':=by
 have HA:=au ha;have HB:=au hb;obtain⟨a1,c1,rfl⟩:=aC ha;obtain⟨a2,c2,rfl⟩:=aC hb;clear ha hb
 go_enter Tryz.func48,Tryz.ntmps48
 go_wp2_with fail
 refine(concat w _ (by repeat (first|exact aj.refl _|assumption|refine aj.drewN ?_ _|refine aj.drew ?_|refine aj.alloc ?_ _|refine aj.grow ?_ _)) w.heap.size 2 _ _ la lb HA.out HB.out hn (by simp) (by simp) (by simp)).mono ?_;rintro e w1 ⟨v1,rfl,hR,hL⟩;have hr0:=rise w1 w.heap.size v1 (la++lb) hR (by simpa using hn);obtain⟨a3,c3,rfl⟩:=o9 hR.choose_spec.1;rw[List.length_append] at hr0;have hr:=au hr0;clear hR hr0
 go_wp2_with fail
 refine hr.out.mono ?_;rintro e w2 ⟨v2,s,rfl,hs,hO,hW⟩;have HS:=au hs;have HO:=au hO;clear hs hO;go_wp2;go_ret;exact⟨v2,s,rfl,HS.out,HO.out.base hL.size,hW.later hL (Nat.le_refl _)⟩
structure gM where
 known:List aF
 fresh:List aF
 level:Int
 rounds:Int
 done:Bool
def cK:gM:=⟨[],[],0,0,false⟩
def jK (K N:List aF) (r:aD):Nat→List aJ→List aF→Option (List aF)
 |_,[],acc=>some acc
 |k,a::l,acc=>if a.no then jK K N r (k+1) l acc else
  match mK (bW K k N) r.body with
  |none=>none
  |some R=>jK K N r (k+1) l (acc++R.filterMap fun e=>bf r.head e)
def nE (K N:List aF) (r:aD) (acc:List aF):Option (List aF):=if r.body.all (·.no) then
  match gY r K with
  |none=>none
  |some x=>some (acc++x)
 else jK K N r 0 r.body acc
def bq (K N:List aF) (st:Int):List aD→List Nat→List aF→Option (List aF)
 |[],_,acc=>some acc
 |_::_,[],acc=>some acc
 |r::p,s::ss,acc=>if(s:Int)=st then
   match nE K N r acc with
   |none=>none
   |some acc'=>bq K N st p ss acc'
  else bq K N st p ss acc
def gB (K acc:List aF):List aF:=bY (acc.filter fun f=> !inB K f)
def fB (p:List aD) (ss:List Nat) (r:gM):Int×gM:=if r.rounds=1000 then(5,cK) else
 match bq r.known r.fresh r.level p ss [] with
 |none=>(4,cK)
 |some acc=>if 200<(bY (r.known++acc)).length then(5,cK) else
  if gB r.known acc=[] then(0,⟨bY (r.known++acc),bY (r.known++acc),r.level+1,r.rounds+1,decide (r.level+1=countP ss)⟩)
  else(0,⟨bY (r.known++acc),gB r.known acc,r.level,r.rounds+1,false⟩)
def cZ (p:List aD) (ss:List Nat):Nat→gM→Int×gM
 |0,r=>(0,r)
 |n+1,r=>if r.done then(0,r) else if(fB p ss r).1≠0 then((fB p ss r).1,cK) else cZ p ss n (fB p ss r).2
theorem mE {K acc:List aF} {f:aF}:f∈gB K acc↔f∈acc∧f∉K:=by
 unfold gB;rw[dA,List.mem_filter]
 constructor
 ·rintro⟨h1,h2⟩;exact⟨h1,fun h=>by rw[dD.2 h] at h2;cases h2⟩
 rintro⟨h1,h2⟩;refine⟨h1,?_⟩;cases h:inB K f;·rfl
 exact absurd (dD.1 h) h2
def Makes (K N:List aF) (r:aD) (f:aF):Prop:=(r.body.all (·.no)=true∧∃env,og (fun _=>K) r.body env∧bf r.head env=some f)∨
 (¬r.body.all (·.no)=true∧∃i a env,r.body[i]?=some a∧a.no=false∧og (bW K (i:Nat) N) r.body env∧bf r.head env=some f)
theorem at_mem {K N:List aF} {r:aD}:∀{l:List aJ} {k:Nat} {acc S:List aF},jK K N r k l acc=some S→∀f,f∈S↔f∈acc∨∃i a,l[i]?=some a∧a.no=false∧∃R,mK (bW K ((k+i:Nat):Int) N) r.body=some R∧∃e∈R,bf r.head e=some f
 |[],k,acc,S,h,f=>by simp only[jK,Option.some.injEq] at h;subst h;refine⟨Or.inl,fun h=>h.elim id ?_⟩;rintro⟨i,a,h,_⟩;simp at h
 |a::l,k,acc,S,h,f=>by
  unfold jK at h;split at h
  ·rename_i hn;rw[at_mem h f]
   constructor
   ·rintro(h|⟨i,b,h1,h2,h3⟩);·exact Or.inl h
    exact Or.inr ⟨i+1,b,by simpa using h1,h2,by rw[show k+(i+1)=k+1+i by omega];exact h3⟩
   rintro(h|⟨i,b,h1,h2,h3⟩);·exact Or.inl h
   cases i with
   |zero=>simp at h1;subst h1;rw[hn] at h2;cases h2
   |succ i=>exact Or.inr ⟨i,b,by simpa using h1,h2,by rw[show k+1+i=k+(i+1) by omega];exact h3⟩
  rename_i hn;split at h;·cases h
  rename_i R hR;rw[at_mem h f,List.mem_append]
  constructor
  ·rintro((h|h)|⟨i,b,h1,h2,h3⟩);·exact Or.inl h
   ·obtain⟨e,he,hf⟩:=List.mem_filterMap.1 h;exact Or.inr ⟨0,a,rfl,by simpa using hn,R,hR,e,he,hf⟩
   exact Or.inr ⟨i+1,b,by simpa using h1,h2,by rw[show k+(i+1)=k+1+i by omega];exact h3⟩
  rintro(h|⟨i,b,h1,h2,h3⟩);·exact Or.inl (Or.inl h)
  cases i with
  |zero=>
   obtain⟨R',hR',e,he,hf⟩:=h3;have:R=R':=Option.some.inj (hR.symm.trans hR');subst this;exact Or.inl (Or.inr (List.mem_filterMap.2 ⟨e,he,hf⟩))
  |succ i=>exact Or.inr ⟨i,b,by simpa using h1,h2,by rw[show k+1+i=k+(i+1) by omega];exact h3⟩
theorem xI {K N:List aF} {r:aD}:∀{l:List aJ} {k:Nat} {acc S:List aF},jK K N r k l acc=some S→∀i a,l[i]?=some a→a.no=false→∃R,mK (bW K ((k+i:Nat):Int) N) r.body=some R
 |[],k,acc,S,h,i,a,hi,_=>by simp at hi
 |a::l,k,acc,S,h,i,b,hi,hb=>by
  unfold jK at h;split at h
  ·rename_i hn;cases i with
   |zero=>simp at hi;subst hi;rw[hn] at hb;cases hb
   |succ i=>rw[show k+(i+1)=k+1+i by omega];exact xI h i b (by simpa using hi) hb
  split at h;·cases h
  rename_i R hR;cases i with
  |zero=>exact⟨R,hR⟩
  |succ i=>rw[show k+(i+1)=k+1+i by omega];exact xI h i b (by simpa using hi) hb
theorem FE {K N:List aF} {r:aD} (hr:oK r) {acc S:List aF} (h:nE K N r acc=some S) (f:aF):f∈S↔f∈acc∨Makes K N r f:=by
 have hc:=nS hr;unfold nE at h;split at h
 ·rename_i hno;split at h;·cases h
  rename_i x hx;simp only[Option.some.injEq] at h;subst h;rw[List.mem_append,Bz hc hx]
  constructor
  ·rintro(h|h);·exact Or.inl h
   exact Or.inr (Or.inl ⟨hno,h⟩)
  rintro(h|⟨_,h⟩|⟨h,_⟩);·exact Or.inl h
  ·exact Or.inr h
  exact absurd hno h
 rename_i hno;rw[at_mem h f]
 constructor
 ·rintro(h1|⟨i,a,h1,h2,R,h3,e,h4,h5⟩);·exact Or.inl h1
  rw[Nat.zero_add] at h3;exact Or.inr (Or.inr ⟨hno,i,a,e,h1,h2,(oJ hc h3 e).1 h4,h5⟩)
 rintro(h1|⟨h1,_⟩|⟨_,i,a,e,h1,h2,h3,h4⟩);·exact Or.inl h1
 ·exact absurd h1 hno
 obtain⟨R,hR⟩:=xI h i a h1 h2;refine Or.inr ⟨i,a,h1,h2,R,hR,e,(oJ hc hR e).2 ?_,h4⟩;rw[Nat.zero_add];exact h3
theorem pJ {K N:List aF} {st:Int} (σ:aD→Nat):∀{p:List aD} {acc S:List aF},(∀r∈p,oK r)→bq K N st p (p.map σ) acc=some S→∀f,f∈S↔f∈acc∨∃r∈p,(σ r:Int)=st∧Makes K N r f
 |[],acc,S,_,h,f=>by simp only[bq,Option.some.injEq] at h;subst h;simp
 |r::p,acc,S,hp,h,f=>by
  simp only[bq,List.map_cons] at h;split at h
  ·rename_i hs;split at h;·cases h
   rename_i acc' ha;rw[pJ σ (fun q hq=>hp q (by simp[hq])) h f,FE (hp r (by simp)) ha];simp only[List.mem_cons,exists_eq_or_imp]
   constructor
   ·rintro((h|h)|h);·exact Or.inl h
    ·exact Or.inr (Or.inl ⟨hs,h⟩)
    exact Or.inr (Or.inr h)
   rintro(h|⟨_,h⟩|h);·exact Or.inl (Or.inl h)
   ·exact Or.inl (Or.inr h)
   exact Or.inr h
  rename_i hs;rw[pJ σ (fun q hq=>hp q (by simp[hq])) h f];simp only[List.mem_cons,exists_eq_or_imp]
  constructor
  ·rintro(h|h);·exact Or.inl h
   exact Or.inr (Or.inr h)
  rintro(h|⟨h,_⟩|h);·exact Or.inl h
  ·exact absurd h hs
  exact Or.inr h
theorem BJ {K N:List aF} {body:List aJ} {env:List aI} (hs:∀f∈N,f∈K) {i:Nat} {a:aJ} (hi:body[i]?=some a) (ha:a.no=false) (h:og (bW K (i:Nat) N) body env):og (fun _=>K) body env:=by
 refine⟨h.1,h.2.1,h.2.2.1,fun j b hj=>?_⟩;obtain⟨f,hf,hb⟩:=h.2.2.2 j b hj;refine⟨f,hf,?_⟩;unfold bW at hb;split at hb
 ·rename_i e;have e:j=i:=by omega
  subst e;rw[hi] at hj;cases hj;rw[ha] at hb⊢;exact dD.2 (hs f (dD.1 hb))
 exact hb
theorem zS {K N:List aF} {r:aD} {f:aF} (hs:∀f∈N,f∈K) (h:Makes K N r f):∃env,og (fun _=>K) r.body env∧bf r.head env=some f:=by
 rcases h with⟨_,h⟩|⟨_,i,a,env,h1,h2,h3,h4⟩;·exact h
 exact⟨env,BJ hs h1 h2 h3,h4⟩
def Semi (K N:List aF) (r:aD):Prop:=∀env f,og (fun _=>K) r.body env→bf r.head env=some f→f∈K∨Makes K N r f
structure jG (p:List aD) (c:Nat) (r:gM):Prop where
 good:GoodS p r.known
 up:Up r.fresh
 sub:∀f∈r.fresh,f∈r.known
 lev:0≤r.level∧r.level≤c
 rnd:0≤r.rounds∧r.rounds≤1000
 done:r.done=decide (r.level=c)
theorem zT {p:List aD} (hp:fG p) (σ:aD→Nat) {K N:List aF} {st:Int} (hK:GoodS p K) (hN:∀f∈N,f∈K) {M:List aF} (h:bq K N st p (p.map σ) []=some M):∀f∈M,jF f∧uH p f=true:=fun f hf=>by
 rcases(pJ σ hp.rules h f).1 hf with h1|⟨r,hr,_,hm⟩;·cases h1
 obtain⟨env,he,hh⟩:=zS hN hm;obtain⟨a,b,c⟩:=rG (hp.rules r hr) hK.right he hh;exact⟨a,DJ hp hr b c⟩
theorem zU {p:List aD} {K M:List aF} (hK:GoodS p K) (hM:∀f∈M,jF f∧uH p f=true) (hl:(bY (K++M)).length≤200):GoodS p (bY (K++M)):=by
 have key:∀f∈bY (K++M),jF f∧uH p f=true:=fun f hf=>by
  rcases List.mem_append.1 (dA.1 hf) with h|h;·exact⟨hK.right f h,hK.fit f h⟩
  exact hM f h
 exact⟨gI _,fun f hf=>(key f hf).1,hl,fun f hf=>(key f hf).2⟩
theorem BK {K M:List aF} (hK:Up K):gB K M=[]↔bY (K++M)=K:=by
 constructor
 ·intro h;refine(jT hK fun f=>?_).symm;rw[List.mem_append];refine⟨Or.inl,fun h1=>h1.elim id fun h1=>Classical.byContradiction fun hn=>?_⟩;have:=mE.2 ⟨h1,hn⟩;rw[h] at this;cases this
 intro h;refine List.eq_nil_iff_forall_not_mem.2 fun f hf=>?_;obtain⟨h1,h2⟩:=mE.1 hf;exact h2 (h▸dA.2 (List.mem_append.2 (Or.inr h1)))
theorem Au {p:List aD} {ss:List Nat} {r x:gM} (h:fB p ss r=(0,x)):r.rounds≠1000∧∃M,bq r.known r.fresh r.level p ss []=some M∧(bY (r.known++M)).length≤200∧
  ((gB r.known M=[]∧x=⟨bY (r.known++M),bY (r.known++M),r.level+1,r.rounds+1,decide (r.level+1=countP ss)⟩)∨(gB r.known M≠[]∧x=⟨bY (r.known++M),gB r.known M,r.level,r.rounds+1,false⟩)):=by
 unfold fB at h;split at h;·simp at h
 rename_i hr;split at h;·simp at h
 rename_i M hM;split at h;·simp at h
 rename_i hl;split at h;·rename_i hn;simp only[Prod.mk.injEq,true_and] at h;exact⟨hr,M,hM,by omega,Or.inl ⟨hn,h.symm⟩⟩
 rename_i hn;simp only[Prod.mk.injEq,true_and] at h;exact⟨hr,M,hM,by omega,Or.inr ⟨hn,h.symm⟩⟩
theorem yQ {p:List aD} {ss:List Nat} {r:gM}:(fB p ss r).1=0∨fB p ss r=(4,cK)∨fB p ss r=(5,cK):=by
 unfold fB;split;·exact Or.inr (Or.inr rfl)
 split;·exact Or.inr (Or.inl rfl)
 split;·exact Or.inr (Or.inr rfl)
 split <;> exact Or.inl rfl
theorem rM {p:List aD} (hp:fG p) (σ:aD→Nat) {r x:gM} (hr:jG p (countP (p.map σ)) r) (hd:r.done=false) (h:fB p (p.map σ) r=(0,x)):
  jG p (countP (p.map σ)) x∧(∀f∈r.known,f∈x.known)∧x.rounds=r.rounds+1∧((x.level=r.level∧r.known.length<x.known.length)∨(x.level=r.level+1∧x.known=r.known)):=by
 obtain⟨h0,M,hM,hl,hx⟩:=Au h;have hg:=zU hr.good (zT hp σ hr.good hr.sub hM) hl;have hsub:∀f∈r.known,f∈bY (r.known++M):=fun f hf=>dA.2 (List.mem_append.2 (Or.inl hf));have hdn:=hr.done;rw[hd] at hdn;have hdn:r.level≠countP (p.map σ):=by simpa using hdn.symm
 have Ja:=hr.lev;have hrnd:=hr.rnd;rcases hx with⟨hn,rfl⟩|⟨hn,rfl⟩
 ·refine⟨⟨hg,gI _,fun _ h=>h,⟨?_,?_⟩,⟨?_,?_⟩,rfl⟩,hsub,rfl,Or.inr ⟨rfl,(BK hr.good.up).1 hn⟩⟩ <;> dsimp only <;> omega
 refine⟨⟨hg,gI _,fun f hf=>dA.2 (List.mem_append.2 (Or.inr (mE.1 hf).1)),⟨?_,?_⟩,⟨?_,?_⟩,?_⟩,hsub,rfl,Or.inl ⟨rfl,?_⟩⟩;·dsimp only;omega
 ·dsimp only;omega
 ·dsimp only;omega
 ·dsimp only;omega
 ·simp[hdn]
 have h1:=vo hr.good.up hsub;refine Classical.byContradiction fun h2=>hn ((BK hr.good.up).2 (EW hr.good.up (gI _) hsub (by dsimp only at h2;omega)).symm)
theorem nG {p:List aD} {ss:List Nat} {r:gM} (h:r.done=true):∀n,cZ p ss n r=(0,r)
 |0=>rfl
 |n+1=>by unfold cZ;rw[if_pos h]
theorem nH {p:List aD} {ss:List Nat} {r:gM} (h:r.done=false) (n:Nat):cZ p ss (n+1) r=if(fB p ss r).1≠0 then((fB p ss r).1,cK) else cZ p ss n (fB p ss r).2:=by rw[cZ,if_neg (by simp[h])]
theorem pK {p:List aD} (hp:fG p) (σ:aD→Nat):∀(n:Nat) {r x:gM},jG p (countP (p.map σ)) r→cZ p (p.map σ) n r=(0,x)→jG p (countP (p.map σ)) x
 |0,r,x,hr,h=>by simp[cZ] at h;subst h;exact hr
 |n+1,r,x,hr,h=>by
  unfold cZ at h;split at h;·simp at h;subst h;exact hr
  rename_i hd;split at h;·rename_i he;simp at h;exact absurd h.1 he
  rename_i he;have hn:fB p (p.map σ) r=(0,(fB p (p.map σ) r).2):=by rw[←Classical.byContradiction fun h:¬(fB p (p.map σ) r).1=0=>he h]
  exact pK hp σ n (rM hp σ hr (by simpa using hd) hn).1 h
theorem vY {p:List aD} {ss:List Nat}:∀(n:Nat) (r:gM),(cZ p ss n r).1=0∨cZ p ss n r=(4,cK)∨cZ p ss n r=(5,cK)
 |0,r=>Or.inl rfl
 |n+1,r=>by
  unfold cZ;split;·exact Or.inl rfl
  split
  ·rename_i he;rcases yQ (p:=p) (ss:=ss) (r:=r) with h|h|h
   ·exact absurd h he
   ·rw[h];exact Or.inr (Or.inl rfl)
   rw[h];exact Or.inr (Or.inr rfl)
  exact vY n _
end Go.Proofs.YthngiikhgplldaaGreatDoor
