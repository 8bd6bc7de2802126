import Derived.Test.YthngiikhgplldaaGreatDoorJR16
import Derived.Test.YthngiikhgplldaaGreatDoorJR17
import Derived.BigQuiet
import Derived.Test.YthngiikhgplldaaGreatDoorJR1
open Go.RowKit Go.Sort Go.Maps
set_option maxHeartbeats 4000000
set_option maxRecDepth 100000
namespace Go.Proofs.YthngiikhgplldaaGreatDoor
theorem xL {p:List aD} (hp:fG p) {K N:List aF} (hK:GoodS p K) (hN:Up N) (hs:∀f∈N,f∈K):∀r∈p,qC r.body K N=0:=fun r hr=>by unfold qC;rw[if_neg (by simp[(hp.rules r hr).body]),if_neg (by rw[fI hK.up hK.right hK.few];simp),fI hN (fun f hf=>hK.right f (hs f hf)) (Nat.le_trans (vo hN hs) hK.few)]
def Aq (K N:List aF) (r:aD) (acc:List aF) (mb:Nat) (kv nv:Value) (er:Int) (w:World):Prop:=match nE K N r acc with
 |none=>er=4
 |some acc'=>er=0∧∃D',MkB mb kv nv D' w∧om K D' acc'
theorem FQ (l:List aJ):(l.any fun a=> !a.no)= !(l.all fun a=>a.no):=by
 induction l with
 |nil=>rfl
 |cons a l ih=>rw[List.any_cons,List.all_cons,ih];cases a.no <;> rfl
theorem DV (p:List aD) (hp:fG p) (r:aD) (hr:r∈p) (K N D acc:List aF) (hK:GoodS p K) (hN:Up N) (hs:∀f∈N,f∈K) (mb:Nat) (kv nv tv bv:Value) (w0 w:World) (hk:Facts w0 kv K) (hn:Facts w0 nv N)
  (ht:gJ.sl bT w0 tv r.head.terms) (hb:dY.sl bT w0 bv r.body) (h0:w0.heap.size≤mb) (hB:Below w0.heap.size w0 w) (hm:MkB mb kv nv D w) (hM:om K D acc):
  Calls Tryz.prog 64 #[.pointer (some ⟨mb,0,none⟩),.agg #[.bool r.head.no,.string (bs r.head.name),tv,bv]] w fun e w'=>∃er,e=.returned (.int .i64 er)∧Aq K N r acc mb kv nv er w'∧Tn mb w w':=by
 have hKf:=hK.few;have hNf:=Nat.le_trans (vo hN hs) hK.few;have HE0:=au (zY hp hK r hr);have HEN:=au (xL hp hK hN hs r hr);have HSh:=au (xK hp hK r hr);have HU:=au hK.up;have hmb:=hm.lt;have h5:=(jl (hp.rules r hr).body).1;obtain⟨ta,tc,rfl⟩:=aB.slice ht;obtain⟨ba,bc,rfl⟩:=aB.slice hb;obtain⟨ka,kc,rfl⟩:=aC hk;obtain⟨na,nc,rfl⟩:=aC hn;have HK:=au hk;have HN:=au hn;have HT:=au ht;have HBd:=au hb;have HB:=au hB;have HMk:=au hm;have HM:=au hM;obtain⟨wb,hwb⟩:∃wb,wb=w.alloc (.cells #[.bool r.head.no,.string (bs r.head.name),.slice ta r.head.terms.length tc,.slice ba r.body.length bc] 57):=⟨_,rfl⟩;have hLb:aj w wb:=by rw[hwb];exact(aj.refl w).alloc _
 have hrb:wb.heap[w.heap.size]?=some (.cells #[.bool r.head.no,.string (bs r.head.name),.slice ta r.head.terms.length tc,.slice ba r.body.length bc] 57 (0,0)):=by rw[hwb];exact heap_alloc_new w _
 have hBb:Below w0.heap.size w0 wb:=ak hB hLb.below hB.size;have HCn:=au (containsAtom (.slice ba r.body.length bc) r.body wb (aB.aO hb hBb));have c3:wb.cell? ⟨w.heap.size,3,none⟩=some (.slice ba r.body.length bc):=by rw[cell_of_row _ _ _ _ _ _ hrb];rfl
 have HLb:=au hLb;have HRb:=au hrb;have HWB:=au hwb;rw[FQ] at HCn;clear hp hr hK hN hs hk hn ht hb hB hm hM hLb hrb hBb;generalize hal:(r.body.all fun a=>a.no)=al at*;have HAl:=au hal;clear hal
 go_enter Tryz.func64,Tryz.ntmps64
 rw[hwb] at c3;clear hwb
 go_wp2_with fail
 rw[←HWB.out];clear c3;refine HCn.out.mono ?_;rintro e w1 ⟨rfl,hL1⟩;clear HCn HWB;have Hy:w.heap.size<wb.heap.size:=(Array.getElem?_eq_some_iff.1 HRb.out).1;have yP:aj w w1:=HLb.out.trans hL1;have HR1:Hid (w1.heap[w.heap.size]?=some (.cells #[.bool r.head.no,.string (bs r.head.name),.slice ta r.head.terms.length tc,.slice ba r.body.length bc] 57 (0,0))):=by show _=_;rw[hL1.block Hy];exact HRb.out
 have HB1:Hid (Below w0.heap.size w0 w1):=ak HB.out yP.below HB.out.size;have EF:Hid (MkB mb (.slice ka K.length kc) (.slice na N.length nc) D w1):=HMk.out.below yP.below;have JW:Hid (Tn mb w w1):=Tn.of_below yP.below;have hw1:w.heap.size<w1.heap.size:=by have:=hL1.size;omega
 clear hL1 yP HLb HRb HMk HB Hy wb;cases al with
 |true=>
  obtain⟨dv,hrow,_⟩:=EF.out;have HS:Hid (∀w',Below w1.heap.size w1 w'→w'.cell? ⟨w.heap.size,0,none⟩=some (.bool r.head.no)∧w'.cell? ⟨w.heap.size,0+1,none⟩=some (.string (bs r.head.name))∧w'.cell? ⟨w.heap.size,0+2,none⟩=some (.slice ta r.head.terms.length tc)∧w'.cell? ⟨w.heap.size,0+3,none⟩=some (.slice ba r.body.length bc)∧w'.cell? ⟨mb,0,none⟩=some (.slice ka K.length kc)):=fun w' h=>by have hr':=(h.block _ hw1).trans HR1.out;have hm':=(h.block _ (Array.getElem?_eq_some_iff.1 hrow).1).trans hrow;exact⟨by rw[cell_of_row _ _ _ _ _ _ hr'];rfl,by rw[cell_of_row _ _ _ _ _ _ hr'];rfl,by rw[cell_of_row _ _ _ _ _ _ hr'];rfl,by rw[cell_of_row _ _ _ _ _ _ hr'];rfl,by rw[cell_of_row _ _ _ _ _ _ hm'];rfl⟩
  have HH:Hid (∀w',Below w1.heap.size w1 w'→Calls Tryz.prog 84 #[.agg #[.bool r.head.no,.string (bs r.head.name),.slice ta r.head.terms.length tc,.slice ba r.body.length bc],.slice ka K.length kc] w' fun e w''=>∃v' er,e=.returned (.tuple #[v',.int .i64 er])∧mD w'' v' er r K∧Below w1.heap.size w1 w''):=fun w' h=>by have h':=ak HB1.out h HB1.out.size;exact(Hw r _ _ _ K w' (aB.aO HT.out h') (aB.aO HBd.out h') (HK.out.below h') HSh.out).mono fun e w'' ⟨v',er,he,hT,hB'⟩=>⟨v',er,he,hT,ak h hB' h.size⟩
  have HX:Hid (nE K N r acc=match gY r K with|none=>none|some x=>some (acc++x)):=by show _=_;unfold nE;rw[if_pos HAl.out];all_goals rfl
  clear HR1 HT HBd HSh HEN hrow;generalize bs r.head.name=nm at*;generalize r.head.no=no at*;go_wp2;refine wp_region_held_drew (S:=fun w'=>Below w1.heap.size w1 w') (by kernel_rfl) (Below.refl _ _).drew (fun hHeld=>?_);refine tkY 0 16 hHeld ?_ rfl fun w hSw=>by obtain⟨q0,q1,q2,q3,q4⟩:=HS.out _ hSw;go_simp;try with_reducible rfl
  refine tkY 1 17 hHeld ?_;refine tkY 2 18 hHeld ?_;refine tkY 3 19 hHeld ?_;refine tkY 4 20 hHeld ?_ rfl fun w hSw=>by obtain⟨q0,q1,q2,q3,q4⟩:=HS.out _ hSw;go_simp;try with_reducible rfl
  refine tkC 5 fun K hK=>?_;go_simp;refine(HH.out _ hHeld).mono ?_;rintro e w2 ⟨v2,er,rfl,hT2,hB2⟩;refine hK.out _ _ hB2 (fun hHeld=>?_);clear hK K;refine tkY 6 15 hHeld ?_;refine tkY 7 22 hHeld ?_;refine tkY 8 23 hHeld ?_;refine tkY 9 5 hHeld ?_;refine tkY 10 6 hHeld ?_;refine wpAnyH_done (by kernel_rfl) ?_ _;unfold mD at hT2;rw[if_neg (by rw[HE0.out];simp)] at hT2;have HB2:=au hB2;have Ij:Hid (MkB mb (.slice ka K.length kc) (.slice na N.length nc) D w2):=EF.out.below hB2;have HK2:Hid (Facts w2 (.slice ka K.length kc) K):=HK.out.below (ak HB1.out hB2 HB1.out.size);have Gm:Hid (Tn mb w w2):=JW.out.trans (Tn.of_below hB2);clear hB2 hHeld HS HH HE0;cases hh:gY r K with
  |none=>
   rw[hh] at hT2;obtain⟨rfl,rfl⟩:=hT2;have HA:=au (tV mb K D [] (.slice ka K.length kc) (.slice na N.length nc) (.slice none 0 0) w2 Ij.out HK2.out HU.out (jm w2) hKf (by simp) HM.out.few);have HTo:Hid (∀w',Aq K N r acc mb (.slice ka K.length kc) (.slice na N.length nc) 4 w'):=fun w'=>by unfold Aq;rw[HX.out,hh]
   clear hh
   go_wp2_with fail
   refine HA.out.mono ?_;rintro e w3 ⟨⟨u3,rfl⟩,_,EG⟩;have Ik:=au (Gm.out.trans EG);clear EG;go_wp2;go_ret;exact⟨4,rfl,HTo.out _,Ik.out⟩
  |some x=>
   rw[hh] at hT2;obtain⟨rfl,hF2⟩:=hT2;have hxl:x.length≤20000:=by
    unfold gY at hh;split at hh;·cases hh
    rename_i R hR;cases hh;have h1:=iN (R.filterMap fun l=>bf r.head l);have h2:=List.length_filterMap_le (fun l=>bf r.head l) R;have h3:=nD hR;omega
   obtain⟨xa,xc,rfl⟩:=aC hF2;have HA:=au (tV mb K D x (.slice ka K.length kc) (.slice na N.length nc) (.slice xa x.length xc) w2 Ij.out HK2.out HU.out hF2 hKf hxl HM.out.few);have HTo:Hid (∀w',MkB mb (.slice ka K.length kc) (.slice na N.length nc) (HY K D x) w'→Aq K N r acc mb (.slice ka K.length kc) (.slice na N.length nc) 0 w'):=fun w' h=>by unfold Aq;rw[HX.out,hh];exact⟨rfl,_,h,HM.out.add x hxl⟩
   clear hh hF2 hxl
   go_wp2_with fail
   refine HA.out.mono ?_;rintro e w3 ⟨⟨u3,rfl⟩,KO,EG⟩;have Ik:=au (Gm.out.trans EG);have Mj:=au KO;clear EG KO;go_wp2;go_ret;exact⟨0,rfl,HTo.out _ Mj.out,Ik.out⟩
 |false=>
  have HX:Hid (nE K N r acc=jK K N r 0 (r.body.drop 0) acc):=by show _=_;unfold nE;rw[if_neg (by rw[HAl.out];simp)];rfl
  have c3:w1.cell? ⟨w.heap.size,3,none⟩=some (.slice ba r.body.length bc):=by rw[cell_of_row _ _ _ _ _ _ HR1.out];rfl
  clear HSh HE0;go_wp2
  go_loopg [31] r.body.length (fun g i wr=>∃j:Nat,j+g=r.body.length∧i=.int .i64 j∧∃D' acc',Hid (MkB mb (.slice ka K.length kc) (.slice na N.length nc) D' wr)∧Hid (om K D' acc')∧Hid (Below w0.heap.size w0 wr)∧
   Hid (wr.heap[w.heap.size]?=some (.cells #[.bool r.head.no,.string (bs r.head.name),.slice ta r.head.terms.length tc,.slice ba r.body.length bc] 57 (0,0)))∧w.heap.size<wr.heap.size∧Hid (Tn mb w wr)∧Hid (nE K N r acc=jK K N r j (r.body.drop j) acc'))
  case atStart=>exact⟨0,by omega,rfl,D,acc,EF,HM,HB1,HR1,hw1,JW,HX⟩
  clear EF HM HB1 HR1 hw1 JW HX c3 HAl;obtain⟨j,hj,rfl,D1,FR,HMk,HM,HBr,HR,hwr,HTn,HX⟩:=hrel
  by_cases hlt:j<r.body.length
  ·obtain⟨a,hx⟩:∃x,r.body[j]?=some x:=⟨_,List.getElem?_eq_getElem hlt⟩;obtain⟨b1,o1,_,rfl,hb1,⟨av,rfl,hav⟩,hc⟩:=aB.bR HBd.out hx;obtain⟨aa,ac,rfl⟩:=aB.slice hav;have d0:wr.cell? ⟨b1,o1+j*3,none⟩=some (.bool a.no):=by rw[HBr.out.cell (p:=⟨b1,o1+j*3,none⟩) hb1];exact hc 0 _ rfl
   have d1:wr.cell? ⟨b1,o1+j*3+1,none⟩=some (.string (bs a.name)):=by rw[HBr.out.cell (p:=⟨b1,o1+j*3+1,none⟩) hb1];exact hc 1 _ rfl
   have d2:wr.cell? ⟨b1,o1+j*3+2,none⟩=some (.slice aa a.terms.length ac):=by rw[HBr.out.cell (p:=⟨b1,o1+j*3+2,none⟩) hb1];exact hc 2 _ rfl
   have hX:jK K N r j (r.body.drop j) FR=if a.no then jK K N r (j+1) (r.body.drop (j+1)) FR else match mK (bW K (j:Nat) N) r.body with|none=>none|some R=>jK K N r (j+1) (r.body.drop (j+1)) (FR++R.filterMap fun e=>bf r.head e):=by
    obtain⟨h1,e1⟩:=List.getElem?_eq_some_iff.1 hx;rw[List.drop_eq_getElem_cons h1,e1,jK]
    all_goals rfl
   have HX2:=au (HX.out.trans hX);obtain⟨wb,hwb⟩:∃wb,wb=wr.alloc (.cells #[.bool a.no,.string (bs a.name),.slice aa a.terms.length ac] 54):=⟨_,rfl⟩;have hLb:aj wr wb:=by rw[hwb];exact(aj.refl _).alloc _
   have hzb:wr.heap.size<wb.heap.size:=by rw[hwb];simp
   have FU:Hid (MkB mb (.slice ka K.length kc) (.slice na N.length nc) D1 wb):=HMk.out.below hLb.below;have HBb:Hid (Below w0.heap.size w0 wb):=ak HBr.out hLb.below HBr.out.size;have HRb:Hid (wb.heap[w.heap.size]?=some (.cells #[.bool r.head.no,.string (bs r.head.name),.slice ta r.head.terms.length tc,.slice (some ⟨b1,o1,none⟩) r.body.length bc] 57 (0,0))):=by show _=_;rw[hLb.block hwr];exact HR.out
   have JX:Hid (Tn mb w wb):=HTn.out.trans (Tn.of_below hLb.below);have Jc:w.heap.size<wb.heap.size:=by omega
   have HWb:=au hwb;clear hc hx hav hX HX hLb hwb HMk HBr HR HTn;cases hno:a.no with
   |true=>
    rw[hno] at d0 HWb;have HX3:Hid (nE K N r acc=jK K N r (j+1) (r.body.drop (j+1)) FR):=by show _=_;rw[HX2.out,hno];rfl
    clear hno HX2;generalize bs a.name=anm at*;go_wp2;rw[←HWb.out]
    go_roundg (r.body.length- (j+1))
    case measure=>omega
    case rel=>exact⟨j+1,by omega,by go_num,D1,FR,FU,HM,HBb,HRb,Jc,JX,HX3⟩
   |false=>
    rw[hno] at d0 HWb;have hX3:nE K N r acc=match mK (bW K (j:Nat) N) r.body with|none=>none|some R=>jK K N r (j+1) (r.body.drop (j+1)) (FR++R.filterMap fun e=>bf r.head e):=by rw[HX2.out,hno];rfl
    have HX3:=au hX3;obtain⟨dv,hrow,_⟩:=FU.out;have HS:Hid (∀w',Below wb.heap.size wb w'→w'.cell? ⟨w.heap.size,3,none⟩=some (.slice (some ⟨b1,o1,none⟩) r.body.length bc)∧w'.cell? ⟨mb,0,none⟩=some (.slice ka K.length kc)∧w'.cell? ⟨mb,1,none⟩=some (.slice na N.length nc)):=fun w' h=>by have hr':=(h.block _ Jc).trans HRb.out;have hm':=(h.block _ (Array.getElem?_eq_some_iff.1 hrow).1).trans hrow;exact⟨by rw[cell_of_row _ _ _ _ _ _ hr'];rfl,by rw[cell_of_row _ _ _ _ _ _ hm'];rfl,by rw[cell_of_row _ _ _ _ _ _ hm'];rfl⟩
    have HWi:Hid (∀w',Below wb.heap.size wb w'→Calls Tryz.prog 86 #[.slice (some ⟨b1,o1,none⟩) r.body.length bc,.slice ka K.length kc,.int .i64 (j:Nat),.slice na N.length nc] w' fun e w''=>∃v' er,e=.returned (.tuple #[v',.int .i64 er])∧xG w'' v' er r.body K (j:Nat) N∧Below wb.heap.size wb w''):=fun w' h=>by have h':=ak HBb.out h HBb.out.size;exact(JB r.body _ _ _ K N (j:Nat) w' (aB.aO HBd.out h') (HK.out.below h') (HN.out.below h')).mono fun e w'' ⟨v',er,he,hT,hB'⟩=>⟨v',er,he,hT,ak h hB' h.size⟩
    clear hno HX2 hX3 hrow;generalize bs a.name=anm at*;go_wp2;rw[←HWb.out];clear HWb d0 d1 d2;refine wp_region_held_drew (S:=fun w'=>Below wb.heap.size wb w') (by kernel_rfl) (Below.refl _ _).drew (fun hHeld=>?_);refine tkY 0 39 hHeld ?_;refine tkY 1 40 hHeld ?_ rfl fun w hSw=>by obtain⟨q0,q1,q2⟩:=HS.out _ hSw;go_simp;try with_reducible rfl
    refine tkY 2 41 hHeld ?_;refine tkY 3 42 hHeld ?_;refine tkY 4 43 hHeld ?_;refine tkY 5 44 hHeld ?_ rfl fun w hSw=>by obtain⟨q0,q1,q2⟩:=HS.out _ hSw;go_simp;try with_reducible rfl
    refine tkY 6 45 hHeld ?_;refine tkY 7 46 hHeld ?_;refine tkY 8 47 hHeld ?_;refine tkY 9 48 hHeld ?_;refine tkY 10 49 hHeld ?_ rfl fun w hSw=>by obtain⟨q0,q1,q2⟩:=HS.out _ hSw;go_simp;try with_reducible rfl
    refine tkC 11 fun K hK=>?_;go_simp;refine(HWi.out _ hHeld).mono ?_;rintro e w2 ⟨v2,er,rfl,hT2,hB2⟩;refine hK.out _ _ hB2 (fun hHeld=>?_);clear hK K;refine tkY 12 38 hHeld ?_;refine tkY 13 51 hHeld ?_;refine tkY 14 52 hHeld ?_;refine tkY 15 9 hHeld ?_;refine tkY 16 10 hHeld ?_;refine wpAnyH_done (by kernel_rfl) ?_ _;unfold xG at hT2;rw[if_neg (by rw[HEN.out];simp)] at hT2;have Ij:Hid (MkB mb (.slice ka K.length kc) (.slice na N.length nc) D1 w2):=FU.out.below hB2;have HB2:Hid (Below w0.heap.size w0 w2):=ak HBb.out hB2 HBb.out.size;have Gm:Hid (Tn mb w w2):=JX.out.trans (Tn.of_below hB2);have HR2:Hid (w2.heap[w.heap.size]?=some (.cells #[.bool r.head.no,.string (bs r.head.name),.slice ta r.head.terms.length tc,.slice (some ⟨b1,o1,none⟩) r.body.length bc] 57 (0,0))):=by show _=_;rw[hB2.block _ Jc];exact HRb.out
    have hw2:w.heap.size<w2.heap.size:=by have:=hB2.size;omega
    clear hB2 hHeld HS HWi FU HBb JX HRb Jc;cases hR:mK (bW K (j:Nat) N) r.body with
    |none=>
     rw[hR] at hT2;obtain⟨rfl,rfl⟩:=hT2;have HTo:Hid (∀w',Aq K N r acc mb (.slice ka K.length kc) (.slice na N.length nc) 4 w'):=fun w'=>by unfold Aq;rw[HX3.out,hR]
     clear hR HX3;go_wp2;go_ret;exact⟨4,rfl,HTo.out _,Gm.out⟩
    |some R=>
     rw[hR] at hT2;obtain⟨rfl,hsl⟩:=hT2;have hsm:=nD hR;have HX4:Hid (nE K N r acc=jK K N r (j+1) (r.body.drop (j+1)) (FR++R.filterMap fun e=>bf r.head e)):=by show _=_;rw[HX3.out,hR]
     obtain⟨ra,rc,rfl⟩:=aB.slice hsl;have HFl:=au (FH r.head (.slice ta r.head.terms.length tc) (.slice ra R.length rc) R w2 (aB.aO HT.out HB2.out) hsl hsm);have r0:w2.cell? ⟨w.heap.size,0,none⟩=some (.bool r.head.no):=by rw[cell_of_row _ _ _ _ _ _ HR2.out];rfl
     have r1:w2.cell? ⟨w.heap.size,0+1,none⟩=some (.string (bs r.head.name)):=by rw[cell_of_row _ _ _ _ _ _ HR2.out];rfl
     have r2:w2.cell? ⟨w.heap.size,0+2,none⟩=some (.slice ta r.head.terms.length tc):=by rw[cell_of_row _ _ _ _ _ _ HR2.out];rfl
     have hfl:=Nat.le_trans (List.length_filterMap_le (fun e=>bf r.head e) R) hsm;clear hR HX3 hsl hsm;generalize bs r.head.name=nm at*;generalize r.head.no=no at*
     go_wp2_with fail
     refine HFl.out.mono ?_;rintro e w3 ⟨v3,rfl,hO3,hL3⟩;have hF3:=hO3.facts (by omega);have HA:=au (tV mb K D1 _ (.slice ka K.length kc) (.slice na N.length nc) v3 w3 (Ij.out.below hL3.below) (HK.out.below (ak HB2.out hL3.below HB2.out.size)) HU.out hF3 hKf hfl HM.out.few);have HB3:Hid (Below w0.heap.size w0 w3):=ak HB2.out hL3.below HB2.out.size;have HR3:Hid (w3.heap[w.heap.size]?=some (.cells #[.bool no,.string nm,.slice ta r.head.terms.length tc,.slice (some ⟨b1,o1,none⟩) r.body.length bc] 57 (0,0))):=by show _=_;rw[hL3.block hw2];exact HR2.out
     have Ik:Hid (Tn mb w w3):=Gm.out.trans (Tn.of_below hL3.below);have hw3:w.heap.size<w3.heap.size:=by have:=hL3.size;omega
     have hm3:w0.heap.size≤w3.heap.size:=HB3.out.size;obtain⟨a3,c3,rfl⟩:=hO3.slice;clear hO3 hF3 hL3 HFl r0 r1 r2 Ij HB2 HR2 Gm hw2
     go_wp2_with fail
     refine HA.out.mono ?_;rintro e w4 ⟨⟨u4,rfl⟩,KP,Il⟩;have Mk:=au KP;have HM4:=au (HM.out.add _ hfl);have HB4:Hid (Below w0.heap.size w0 w4):=ak HB3.out (Il.below (Nat.le_trans h0 (Nat.le_refl _)) hm3) (Nat.le_refl _);have HR4:Hid (w4.heap[w.heap.size]?=some (.cells #[.bool no,.string nm,.slice ta r.head.terms.length tc,.slice (some ⟨b1,o1,none⟩) r.body.length bc] 57 (0,0))):=by show _=_;rw[Il.block _ hw3 (by omega)];exact HR3.out
     have hw4:w.heap.size<w4.heap.size:=by have:=Il.size;omega
     have Ml:Hid (Tn mb w w4):=Ik.out.trans Il;clear KP Il HA;go_wp2
     go_roundg (r.body.length- (j+1))
     case measure=>omega
     case rel=>exact⟨j+1,by omega,by go_num,_,_,Mk,HM4,HB4,HR4,hw4,Ml,HX4⟩
  have HTo:Hid (Aq K N r acc mb (.slice ka K.length kc) (.slice na N.length nc) 0 wr):=by show Aq _ _ _ _ _ _ _ _ _;unfold Aq;rw[HX.out,List.drop_eq_nil_of_le (by omega),jK];exact⟨rfl,D1,HMk.out,HM.out⟩
  go_wp2;go_ret;exact⟨0,rfl,HTo.out,HTn.out⟩
def qb (b:Nat) (w:World) (v:Value) (er:Int) (p:List aD) (ss:List Nat) (r:gM):Prop:=match bq r.known r.fresh r.level p ss [] with
 |none=>v=.slice none 0 0∧er=4
 |some acc=>er=0∧∃D,dR w b v D∧om r.known D acc
theorem Im (p:List aD) (hp:fG p) (σ:aD→Nat) (r:gM) (hK:GoodS p r.known) (hN:Up r.fresh) (hs:∀f∈r.fresh,f∈r.known) (pv sv kv nv:Value) (w:World) (hpv:iy.sl bT w pv p) (hsv:jL.sl bT w sv (p.map σ)) (hk:Facts w kv r.known) (hn:Facts w nv r.fresh):
  Calls Tryz.prog 47 #[pv,sv,.agg #[kv,nv,.int .i64 r.level,.int .i64 r.rounds,.bool r.done]] w fun e w'=>∃v' er,e=.returned (.tuple #[v',.int .i64 er])∧qb (w.heap.size+2) w' v' er p (p.map σ) r∧Below w.heap.size w w':=by
 obtain⟨K,N,lev,rn,dn⟩:=r;dsimp only at*;obtain⟨pa,pc,rfl⟩:=aB.slice hpv;obtain⟨sa,sc,rfl⟩:=aB.slice hsv;obtain⟨ka,kc,rfl⟩:=aC hk;obtain⟨na,nc,rfl⟩:=aC hn;have KQ:(p.map σ).length=p.length:=List.length_map _;generalize hss:p.map σ=ss at*;have KR:=au KQ;clear KQ;have HP:=au hpv;have HSV:=au hsv;have HRP:=au hp;have HGK:=au hK;have HUN:=au hN;have HSub:=au hs;have h16:=hp.few;obtain⟨wa,hwa⟩:∃wa,wa=w.alloc (.cells #[.slice ka K.length kc,.slice na N.length nc,.int .i64 lev,.int .i64 rn,.bool dn] 26):=⟨_,rfl⟩;have hLa:aj w wa:=by rw[hwa];exact(aj.refl w).alloc _
 have hza:wa.heap.size=w.heap.size+1:=by rw[hwa];simp
 have HRa:Hid (wa.heap[w.heap.size]?=some (.cells #[.slice ka K.length kc,.slice na N.length nc,.int .i64 lev,.int .i64 rn,.bool dn] 26 (0,0))):=by show _=_;rw[hwa];exact heap_alloc_new w _
 have HKa:=au (hk.later hLa);have HNa:=au (hn.later hLa);have HLa:=au hLa;have EF:Hid (MkB (w.heap.size+1) (.slice ka K.length kc) (.slice na N.length nc) [] (wa.alloc (.cells #[.slice ka K.length kc,.slice na N.length nc,.slice none 0 0] 101))):=by refine⟨.slice none 0 0,?_,dR.nil _ _⟩;rw[←hza];exact heap_alloc_new wa _
 have HB1:Hid (Below wa.heap.size wa (wa.alloc (.cells #[.slice ka K.length kc,.slice na N.length nc,.slice none 0 0] 101))):=((aj.refl wa).alloc _).below;rw[hwa] at EF HB1;have HWa:=au hwa;clear hpv hsv hp hK hN hs hk hn hLa hwa
 go_enter Tryz.func47,Tryz.ntmps47
 go_wp2
 go_loopg [19] p.length (fun g i wr=>∃j:Nat,j+g=p.length∧i=.int .i64 j∧∃D acc,Hid (MkB (w.heap.size+1) (.slice ka K.length kc) (.slice na N.length nc) D wr)∧Hid (om K D acc)∧Hid (Below wa.heap.size wa wr)∧Hid (bq K N lev p ss []=bq K N lev (p.drop j) (ss.drop j) acc))
 case atStart=>exact⟨0,by omega,rfl,[],[],EF,om.nil K,by show Below _ _ _;rw[HWa.out];exact HB1.out,(rfl:_=_)⟩
 clear EF HB1;obtain⟨j,hj,rfl,D,acc,HMk,HM,HBr,HX⟩:=hrel;have hBw:Below w.heap.size w wr:=ak HLa.out.below HBr.out (by omega);have hrr:wr.heap[w.heap.size]?=some (.cells #[.slice ka K.length kc,.slice na N.length nc,.int .i64 lev,.int .i64 rn,.bool dn] 26 (0,0)):=(HBr.out.block _ (by omega)).trans HRa.out
 by_cases hlt:j<p.length
 ·obtain⟨r,hr⟩:∃x,p[j]?=some x:=⟨_,List.getElem?_eq_getElem hlt⟩;have hrm:r∈p:=List.mem_of_getElem? hr;obtain⟨b1,o1,_,rfl,hb1,⟨tv,bv,rfl,htv,hbv⟩,hc⟩:=aB.bR HP.out hr;have d0:wr.cell? ⟨b1,o1+j*4,none⟩=some (.bool r.head.no):=by rw[hBw.cell (p:=⟨b1,o1+j*4,none⟩) hb1];exact hc 0 _ rfl
  have d1:wr.cell? ⟨b1,o1+j*4+1,none⟩=some (.string (bs r.head.name)):=by rw[hBw.cell (p:=⟨b1,o1+j*4+1,none⟩) hb1];exact hc 1 _ rfl
  have d2:wr.cell? ⟨b1,o1+j*4+2,none⟩=some tv:=by rw[hBw.cell (p:=⟨b1,o1+j*4+2,none⟩) hb1];exact hc 2 _ rfl
  have d3:wr.cell? ⟨b1,o1+j*4+3,none⟩=some bv:=by rw[hBw.cell (p:=⟨b1,o1+j*4+3,none⟩) hb1];exact hc 3 _ rfl
  have hpd:p.drop j=r::p.drop (j+1):=by obtain⟨h1,e1⟩:=List.getElem?_eq_some_iff.1 hr;rw[List.drop_eq_getElem_cons h1,e1]
  obtain⟨ta,tc,rfl⟩:=aB.slice htv;obtain⟨ba,bc,rfl⟩:=aB.slice hbv;have hwr:=hBw.size;obtain⟨s,hs⟩:∃x,ss[j]?=some x:=⟨_,List.getElem?_eq_getElem (by have:=KR.out;omega)⟩;obtain⟨b2,o2,_,rfl,hb2,rfl,hc2⟩:=aB.bR HSV.out hs;have hsd:ss.drop j=s::ss.drop (j+1):=by obtain⟨h1,e1⟩:=List.getElem?_eq_some_iff.1 hs;rw[List.drop_eq_getElem_cons h1,e1]
  have hstep:bq K N lev p ss []=if(s:Int)=lev then(match nE K N r acc with
    |none=>none
    |some acc'=>bq K N lev (p.drop (j+1)) (ss.drop (j+1)) acc') else bq K N lev (p.drop (j+1)) (ss.drop (j+1)) acc:=by
   rw[HX.out,hpd,hsd];rfl
  have Mq:(j:Int)<(ss.length:Int):=by have:=KR.out;omega
  obtain⟨wb,hwb⟩:∃wb,wb=wr.alloc (.cells #[.bool r.head.no,.string (bs r.head.name),.slice ta r.head.terms.length tc,.slice ba r.body.length bc] 57):=⟨_,rfl⟩;have hLb:aj wr wb:=by rw[hwb];exact(aj.refl _).alloc _
  have hrb:wb.heap[wr.heap.size]?=some (.cells #[.bool r.head.no,.string (bs r.head.name),.slice ta r.head.terms.length tc,.slice ba r.body.length bc] 57 (0,0)):=by rw[hwb];exact heap_alloc_new _ _
  have hBb:Below w.heap.size w wb:=ak hBw hLb.below hwr;have e0:wb.cell? ⟨b2,o2+j,none⟩=some (.int .i64 s):=by rw[hBb.cell (p:=⟨b2,o2+j,none⟩) hb2];simpa[jL] using hc2 0 _ rfl
  have l0:wb.cell? ⟨w.heap.size,2,none⟩=some (.int .i64 lev):=by rw[hLb.cell (p:=⟨w.heap.size,2,none⟩) (Array.getElem?_eq_some_iff.1 hrr).1,cell_of_row _ _ _ _ _ _ hrr];rfl
  have r0:wb.cell? ⟨wr.heap.size,0,none⟩=some (.bool r.head.no):=by rw[cell_of_row _ _ _ _ _ _ hrb];rfl
  have r1:wb.cell? ⟨wr.heap.size,0+1,none⟩=some (.string (bs r.head.name)):=by rw[cell_of_row _ _ _ _ _ _ hrb];rfl
  have r2:wb.cell? ⟨wr.heap.size,0+2,none⟩=some (.slice ta r.head.terms.length tc):=by rw[cell_of_row _ _ _ _ _ _ hrb];rfl
  have r3:wb.cell? ⟨wr.heap.size,0+3,none⟩=some (.slice ba r.body.length bc):=by rw[cell_of_row _ _ _ _ _ _ hrb];rfl
  have FU:Hid (MkB (w.heap.size+1) (.slice ka K.length kc) (.slice na N.length nc) D wb):=HMk.out.below hLb.below;have HBb:Hid (Below wa.heap.size wa wb):=ak HBr.out hLb.below HBr.out.size;have HWb:=au hwb
  by_cases hsn:(s:Int)=lev
  ·rw[if_pos hsn] at hstep;have Io:Hid (∀q,Calls Tryz.prog 64 #[.pointer (some ⟨w.heap.size+1,0,none⟩),.agg #[.bool r.head.no,.string (bs r.head.name),.slice ta r.head.terms.length tc,.slice ba r.body.length bc]] (wb.drewN q) fun e w'=>∃er,e=.returned (.int .i64 er)∧Aq K N r acc (w.heap.size+1) (.slice ka K.length kc) (.slice na N.length nc) er w'∧Tn (w.heap.size+1) (wb.drewN q) w'):=fun q=>
    DV p HRP.out r hrm K N D acc HGK.out HUN.out HSub.out (w.heap.size+1) _ _ _ _ wa (wb.drewN q) HKa.out HNa.out (aB.aS htv HLa.out) (aB.aS hbv HLa.out) (by omega) (pO HBb.out q) (FU.out.drewN q) HM.out
   have hneq:((s:Int) != lev)=false:=by simp[hsn]
   have HST:=au hstep;clear hc hc2 hr hs htv hbv hpd hsd hLb hwb hrm hrb hBb hrr hstep HX HMk hBw;generalize bs r.head.name=nm at*;generalize r.head.no=no at*;subst hsn;go_wp2;rw[←HWb.out]
   go_quiet (fail)
   go_wp2_with fail
   refine(Io.out _).mono ?_;rintro e w3 ⟨er,rfl,hT3,EG⟩;have HB3:Hid (Below wa.heap.size wa w3):=ak (pO HBb.out _) (EG.below (n:=wa.heap.size) (by omega) HBb.out.size) (Nat.le_refl _);clear EG Io HWb e0 l0 r0 r1 r2 r3 d0 d1 d2 d3;unfold Aq at hT3;cases hh:nE K N r acc with
   |none=>
    rw[hh] at hT3;have hT3:er=4:=hT3;subst hT3;have HT:Hid (∀w',qb (w.heap.size+2) w' (.slice none 0 0) 4 p ss ⟨K,N,s,rn,dn⟩):=fun w'=>by unfold qb;dsimp only;rw[HST.out,hh];exact⟨rfl,rfl⟩
    have Mr:Hid (Below w.heap.size w w3):=ak HLa.out.below HB3.out (by omega);clear hh HST;go_wp2;exact bodyPost_ret (v:=.tuple #[.slice none 0 0,.int .i64 4]) (by simp[results,Tryz.results47,go_sem]) rfl ⟨_,4,rfl,HT.out _,Mr.out⟩
   |some acc'=>
    rw[hh] at hT3;obtain⟨rfl,D',KS,hM'⟩:=hT3;have HX':Hid (bq K N s p ss []=bq K N s (p.drop (j+1)) (ss.drop (j+1)) acc'):=by show _=_;rw[HST.out,hh]
    have Ms:=au KS;have HM':=au hM';clear hh HST KS hM';go_wp2
    go_roundg (p.length- (j+1))
    case measure=>omega
    case rel=>exact⟨j+1,by omega,by go_num,D',acc',Ms,HM',HB3,HX'⟩
  rw[if_neg hsn] at hstep;have hneq:((s:Int) != lev)=true:=by simp[hsn]
  have HX':=au hstep;clear hc hc2 hr hs htv hbv hpd hsd hLb hwb hrm hrb hBb hrr hstep HX HMk hBw;generalize bs r.head.name=nm at*;generalize r.head.no=no at*;go_wp2;rw[←HWb.out]
  go_quiet (fail)
  go_wp2
  go_roundg (p.length- (j+1))
  case measure=>omega
  case rel=>exact⟨j+1,by omega,by go_num,D,acc,FU.out.drewN _,HM,pO HBb.out _,HX'⟩
 obtain⟨dv,hrow,hO⟩:=HMk.out;obtain⟨da,dc,rfl⟩:=hO.slice;have c2:wr.cell? ⟨w.heap.size+1,2,none⟩=some (.slice da D.length dc):=by rw[cell_of_row _ _ _ _ _ _ hrow];rfl
 have HT:Hid (qb (w.heap.size+2) wr (.slice da D.length dc) 0 p ss ⟨K,N,lev,rn,dn⟩):=by show qb _ _ _ _ _ _ _;unfold qb;dsimp only;rw[HX.out,List.drop_eq_nil_of_le (by omega)];unfold bq;exact⟨rfl,D,hO,HM.out⟩
 have HBw:=au hBw;clear hrow hO HX hBw hrr;go_wp2;exact bodyPost_ret (v:=.tuple #[.slice da D.length dc,.int .i64 0]) (by simp[results,Tryz.results47,go_sem]) rfl ⟨_,0,rfl,HT.out,HBw.out⟩
abbrev qc:=Bs→Option Int
def qc.put (m:qc) (s:Bs) (n:Int):qc:=fun t=>if t=s then some n else m t
def iQ (m:qc) (a:aJ):qc:=match m a.name with
 |none=>m.put a.name a.terms.length
 |some n=>if n≠a.terms.length then m.put a.name (-1) else m.put a.name a.terms.length
def lF (A:List aJ) (m:qc):Prop:=∀s,(m s=none↔∀a∈A,a.name≠s)∧∀n,m s=some n→∀k:Nat,n=(k:Int)↔∀a∈A,a.name=s→a.terms.length=k
theorem lF.nil:lF [] (fun _=>none):=fun s=>⟨by simp,fun n h=>by cases h⟩
theorem lF.step {A:List aJ} {m:qc} (h:lF A m) (a:aJ):lF (A++[a]) (iQ m a):=by
 have key:∀x:Int,iQ m a=m.put a.name x→(∀k:Nat,x=(k:Int)↔∀b∈A++[a],b.name=a.name→b.terms.length=k)→lF (A++[a]) (iQ m a):=fun x hx hk s=>by
  rw[hx];unfold qc.put
  by_cases e:s=a.name
  ·subst e;simp only[if_true];refine⟨⟨fun h=>by simp at h,fun h=>absurd rfl (h a (by simp))⟩,fun n hn=>?_⟩;cases hn;exact hk
  simp only[if_neg e];obtain⟨h1,h2⟩:=h s;refine⟨by rw[h1];exact⟨fun h b hb=>(List.mem_append.1 hb).elim (h b) (fun hb=>by simp only[List.mem_singleton] at hb;subst hb;exact fun e'=>e e'.symm),fun h b hb=>h b (by simp[hb])⟩,fun n hn k=>?_⟩;rw[h2 n hn k];exact⟨fun h b hb hbs=>(List.mem_append.1 hb).elim (fun hb=>h b hb hbs) (fun hb=>by simp only[List.mem_singleton] at hb;subst hb;exact absurd hbs.symm e),fun h b hb=>h b (by simp[hb])⟩
 obtain⟨h1,h2⟩:=h a.name;unfold iQ at key⊢;cases e:m a.name with
 |none=>
  rw[e] at key;refine key _ rfl fun k=>?_;have hn:=h1.1 e
  constructor
  ·intro hk b hb hbn;rcases List.mem_append.1 hb with hb|hb
   ·exact absurd hbn (hn b hb)
   simp only[List.mem_singleton] at hb;subst hb;omega
  intro hk;have:=hk a (by simp) rfl;omega
 |some n=>
  rw[e] at key;dsimp only at key⊢;have hA:=h2 n e
  by_cases hne:n≠a.terms.length
  ·rw[if_pos hne] at key⊢;refine key _ rfl fun k=>⟨fun hk=>by omega,fun hk=>?_⟩
   exfalso
   have h3:=hk a (by simp) rfl;have h4:=(hA k).2 fun b hb=>hk b (by simp[hb]);omega
  rw[if_neg hne] at key⊢;have hne:n=a.terms.length:=by omega
  refine key _ rfl fun k=>?_
  constructor
  ·intro hk b hb hbn;rcases List.mem_append.1 hb with hb|hb
   ·exact(hA k).1 (by omega) b hb hbn
   simp only[List.mem_singleton] at hb;subst hb;omega
  intro hk;have:=hk a (by simp) rfl;omega
def lG (w:World) (b n:Nat) (m:qc):Prop:=∃D:DataW Unit,w.ownsMap Tryz.prog 9 (plainElem Tryz.prog 3) b n D∧∀s,Maps.has D (.string s)=(m s).isSome∧D.atKey (.string s) (.lit (.int .i64 0))=.lit (.int .i64 ((m s).getD 0))
theorem lG.made (w:World):lG (w.alloc (.map #[] 0)) w.heap.size 0 (fun _=>none):=⟨.map [],World.ownsMap_made _ _ _ _,fun _=>⟨rfl,rfl⟩⟩
theorem lG.lt {w:World} {b n:Nat} {m:qc} (h:lG w b n m):b<w.heap.size:=by obtain⟨D,h,_⟩:=h;exact h.lt
theorem lG.block {w w':World} {b n:Nat} {m:qc} (h:lG w b n m) (e:w'.heap[b]?=w.heap[b]?):lG w' b n m:=by obtain⟨D,h,hf⟩:=h;exact⟨D,dG h e,hf⟩
theorem lG.later {w w':World} {b n:Nat} {m:qc} (h:lG w b n m) (k:aj w w'):lG w' b n m:=h.block (k.block h.lt)
theorem lG.look {w:World} {b n:Nat} {m:qc} (h:lG w b n m) {s:Bs} (hs:s.length≤maxLen):
  (Instr.lookup 87 (.map (some b)) (.string (bs s)) true).run Tryz.prog w=.ok (.tuple #[.int .i64 ((m s).getD 0),.bool (m s).isSome]) w:=by
 obtain⟨D,hown,hf⟩:=h;obtain⟨v,ps,hrun,hv⟩:=hown.look_ok (string_keyed Tryz.underlying9) (t:=87) Tryz.underlying87 (jB _) (plainElem_int Tryz.underlying3 (by decide)) (jD Tryz.underlying9 hs);rw[(hf s).2] at hv;obtain⟨c,rfl,hc,_⟩:=plainElem_int_inv Tryz.underlying3 hv;simp only[Prod.mk.injEq] at hc;have hc:=hc.1
 injection hc with hc
 injection hc with _ hc
 subst hc;refine hrun.trans ?_;rw[(hf s).1]
theorem lG.store {w:World} {b n:Nat} {m:qc} (h:lG w b n m) (hn:n<maxLen) {s:Bs} (hs:s.length≤maxLen) {x:Int} (hx:(Lit.int .i64 x).wf=true):
  ∃w',(Instr.mapUpdate 87 (.map (some b)) (.string (bs s)) (.int .i64 x)).run Tryz.prog w=.ok () w'∧lG w' b (n+1) (m.put s x)∧w.grownBy w' (some b):=by
 obtain⟨D,hown,hf⟩:=h;obtain⟨w',hrun,r1,r2⟩:=hown.update (string_keyed Tryz.underlying9) (t:=87) Tryz.underlying87 hn (jD Tryz.underlying9 hs) (plainElem_int Tryz.underlying3 hx);refine⟨w',hrun,⟨_,r1,fun t=>?_⟩,r2⟩
 by_cases e:t=s
 ·subst e;exact⟨by rw[has_put_same hown.isMap (CY _)];simp[qc.put],by rw[atKey_put_same hown.isMap (CY _)];simp[qc.put]⟩
 exact⟨by rw[has_put_other (kK e),(hf t).1];simp[qc.put,e],by rw[atKey_put_other (kK e),(hf t).2];simp[qc.put,e]⟩
theorem BO (b n:Nat) (m:qc) (a:aJ) (v:Value) (w:World) (h:lG w b n m) (hv:gJ.sl bT w v a.terms) (hs:a.name.length≤maxLen) (hn:n<maxLen):
  Calls Tryz.prog 69 #[.map (some b),.agg #[.bool a.no,.string (bs a.name),v]] w fun e w'=>(∃u,e=.returned u)∧lG w' b (n+1) (iQ m a)∧Tn b w w':=by
 obtain⟨sa,cap,rfl⟩:=aB.slice hv;have hl0:=hv.1.1;clear hv;have h1:=h.later ((aj.refl w).alloc (.cells #[.bool a.no,.string (bs a.name),.slice sa a.terms.length cap] 54));have hr:=h1.look hs;have hblt:=h.lt;cases hm:m a.name with
 |none=>
  obtain⟨w1,hst,hm1,hg⟩:=h1.store hn hs (x:=(a.terms.length:Nat)) (pR (by omega));rw[hm] at hr;have F:Hid (iQ m a=m.put a.name a.terms.length):=by show _=_;unfold iQ;rw[hm]
  have HM:Hid (lG w1 b (n+1) (m.put a.name a.terms.length)):=hm1;have HT:Hid (Tn b w w1):=(Tn.of_below (p:=b) ((aj.refl w).alloc _).below).trans (fH hg);have hst':=au hst;clear h h1 hm1 hg hst hm;simp only[Option.getD_none,Option.isSome_none] at hr;generalize bs a.name=nm at*;generalize a.no=no at*
  go_enter Tryz.func69,Tryz.ntmps69
  go_wp2_with (first
   |(at_mapUpdate;refine aH _ rfl _ _ _ _ rfl _ _ _ _ rfl rfl rfl (bg hst') ?_)
   |go_in)
  go_end0;exact⟨⟨_,rfl⟩,by rw[F.out];exact HM.out,HT.out⟩
 |some k=>
  rw[hm] at hr;simp only[Option.getD_some,Option.isSome_some] at hr
  by_cases hne:k≠a.terms.length
  ·obtain⟨w1,hst,hm1,hg⟩:=h1.store hn hs (x:= -1) (by decide);have F:Hid (iQ m a=m.put a.name (-1)):=by show _=_;unfold iQ;rw[hm];exact if_pos hne
   have HM:Hid (lG w1 b (n+1) (m.put a.name (-1))):=hm1;have HT:Hid (Tn b w w1):=(Tn.of_below (p:=b) ((aj.refl w).alloc _).below).trans (fH hg);have hst':=au hst;have hq:(k != (a.terms.length:Int))=true:=by simpa using hne
   clear h h1 hm1 hg hst hm hne;generalize bs a.name=nm at*;generalize a.no=no at*
   go_enter Tryz.func69,Tryz.ntmps69
   go_wp2_with (first
    |(at_mapUpdate;refine aH _ rfl _ _ _ _ rfl _ _ _ _ rfl rfl rfl (bg hst') ?_)
    |go_in)
   exact bodyPost_ret (results_none rfl _ _ _) rfl ⟨⟨_,rfl⟩,by rw[F.out];exact HM.out,HT.out⟩
  have hk:k=(a.terms.length:Int):=by omega
  subst hk;obtain⟨w1,hst,hm1,hg⟩:=h1.store hn hs (x:=(a.terms.length:Nat)) (pR (by omega));have F:Hid (iQ m a=m.put a.name a.terms.length):=by show _=_;unfold iQ;rw[hm];exact if_neg (by simp)
  have HM:Hid (lG w1 b (n+1) (m.put a.name a.terms.length)):=hm1;have HT:Hid (Tn b w w1):=(Tn.of_below (p:=b) ((aj.refl w).alloc _).below).trans (fH hg);have hst':=au hst;clear h h1 hm1 hg hst hm hne;generalize bs a.name=nm at*;generalize a.no=no at*
  go_enter Tryz.func69,Tryz.ntmps69
  go_wp2_with (first
   |(at_mapUpdate;refine aH _ rfl _ _ _ _ rfl _ _ _ _ rfl rfl rfl (bg hst') ?_)
   |go_in)
  go_end0;exact⟨⟨_,rfl⟩,by rw[F.out];exact HM.out,HT.out⟩
def qd (m:qc) (f:aF):Bool:=match m (raw f.1) with|none=>true|some k=>decide (k=f.2.length)
theorem FV (b n:Nat) (m:qc) (f:aF) (v:Value) (w:World) (h:lG w b n m) (hv:dh w v f) (hs:f.1.size≤maxLen):
  Calls Tryz.prog 53 #[.map (some b),v] w fun e w'=>e=.returned (.bool (qd m f))∧aj w w':=by
 unfold qd;obtain⟨u,rfl,hu⟩:=hv;obtain⟨sa,cap,rfl⟩:=bP hu;obtain⟨nm,args⟩:=f;dsimp only at*;have h1:=h.later ((aj.refl w).alloc (.cells #[.string nm,.slice sa args.length cap] 50));have hr:=h1.look (s:=raw nm) (by rw[bK];exact hs);rw[kJ] at hr;clear h h1 hu hs;cases hm:m (raw nm) with
 |none=>
  rw[hm] at hr;simp only[Option.getD_none,Option.isSome_none] at hr
  go_enter Tryz.func53,Tryz.ntmps53
  go_wp2;go_ret;exact⟨rfl,(by repeat (first|exact aj.refl _|assumption|refine aj.drewN ?_ _|refine aj.drew ?_|refine aj.alloc ?_ _|refine aj.grow ?_ _))⟩
 |some k=>
  rw[hm] at hr;simp only[Option.getD_some,Option.isSome_some] at hr
  go_enter Tryz.func53,Tryz.ntmps53
  go_wp2;go_ret;refine⟨bB ?_,(by repeat (first|exact aj.refl _|assumption|refine aj.drewN ?_ _|refine aj.drew ?_|refine aj.alloc ?_ _|refine aj.grow ?_ _))⟩;rw[Bool.eq_iff_iff];simp
theorem uf (p q:List aD):eB (p++q)=eB p++eB q:=by simp[eB]
theorem lG.mono {w:World} {b n n':Nat} {m:qc} (h:lG w b n m) (hn:n≤n'):lG w b n' m:=by obtain⟨D,h,hf⟩:=h;exact⟨D,h.mono hn,hf⟩
theorem BP (p:List aD) (v:Value) (w:World) (hv:iy.sl bT w v p) (h16:p.length≤16) (h5:∀r∈p,r.body.length≤5) (hs:∀a∈eB p,a.name.length≤12):
  Calls Tryz.prog 52 #[v] w fun e w'=>∃n m,e=.returned (.map (some w.heap.size))∧lG w' w.heap.size n m∧lF (eB p) m∧Below w.heap.size w w':=by
 obtain⟨pa,pc,rfl⟩:=aB.slice hv;have HV:=au hv;have HS:=au hs;have H5:=au h5;have HM0:Hid (lG (w.alloc (.map #[] 0)) w.heap.size 0 (fun _=>none)):=lG.made w;have HB0:Hid (Below w.heap.size w (w.alloc (.map #[] 0))):=((aj.refl w).alloc _).below;have hmm:= @run_makeMap Tryz.prog;clear hv hs h5
 go_enter Tryz.func52,Tryz.ntmps52
 go_wp2
 go_loopg [11] p.length (fun g i wr=>∃j:Nat,j+g=p.length∧i=.int .i64 j∧w.heap.size<wr.heap.size∧∃m,Hid (lG wr w.heap.size (6*j) m)∧Hid (lF (eB (p.take j)) m)∧Hid (Below w.heap.size w wr))
 case atStart=>exact⟨0,by omega,rfl,by simp,_,HM0,lF.nil,HB0⟩
 clear HM0 HB0 hmm;obtain⟨j,hj,rfl,hwr,m,HM,HO,HBr⟩:=hrel;obtain⟨wo,hwo⟩:∃wo,wo=wr:=⟨_,rfl⟩;subst hwo
 by_cases hlt:j<p.length
 ·obtain⟨r,hr⟩:∃x,p[j]?=some x:=⟨_,List.getElem?_eq_getElem hlt⟩;have hrm:r∈p:=List.mem_of_getElem? hr;obtain⟨b1,o1,_,rfl,hb1,⟨tv,bv,rfl,htv,hbv⟩,hc⟩:=aB.bR HV.out hr;have d0:wo.cell? ⟨b1,o1+j*4,none⟩=some (.bool r.head.no):=by rw[HBr.out.cell (p:=⟨b1,o1+j*4,none⟩) hb1];exact hc 0 _ rfl
  have d1:wo.cell? ⟨b1,o1+j*4+1,none⟩=some (.string (bs r.head.name)):=by rw[HBr.out.cell (p:=⟨b1,o1+j*4+1,none⟩) hb1];exact hc 1 _ rfl
  have d2:wo.cell? ⟨b1,o1+j*4+2,none⟩=some tv:=by rw[HBr.out.cell (p:=⟨b1,o1+j*4+2,none⟩) hb1];exact hc 2 _ rfl
  have d3:wo.cell? ⟨b1,o1+j*4+3,none⟩=some bv:=by rw[HBr.out.cell (p:=⟨b1,o1+j*4+3,none⟩) hb1];exact hc 3 _ rfl
  obtain⟨ta,tc,rfl⟩:=aB.slice htv;obtain⟨ba,bc,rfl⟩:=aB.slice hbv;have hsz:=HBr.out.size;have htk:eB (p.take (j+1))=eB (p.take j)++(r.head::r.body):=by rw[List.take_add_one,hr,uf];simp[eB]
  have JY:∀a∈r.head::r.body,a.name.length≤12:=fun a ha=>HS.out a (List.mem_flatMap.2 ⟨r,hrm,ha⟩);have hb5:=H5.out r hrm;have ED:=dw.made w.heap.size wo (.bool r.head.no) (.string (bs r.head.name)) (.slice ta r.head.terms.length tc) (.slice ba r.body.length bc);obtain⟨wb,hwb⟩:∃wb,wb=wo.alloc (.cells #[.bool r.head.no,.string (bs r.head.name),.slice ta r.head.terms.length tc,.slice ba r.body.length bc] 57):=⟨_,rfl⟩;rw[←hwb] at ED;have hLb:aj wo wb:=by rw[hwb];exact(aj.refl _).alloc _
  have hBb:Below w.heap.size w wb:=ak HBr.out hLb.below hsz;have HC:=au (BO w.heap.size (6*j) m r.head (.slice ta r.head.terms.length tc) wb (HM.out.later hLb) (aB.aO htv hBb) (by have:=JY r.head (by simp);unfold maxLen;omega) (by unfold maxLen;omega));have HBx:=au ED;have HBb:=au hBb;have HBV:=au hbv;have HTK:=au htk;have HRA:=au JY;have HWb:=au hwb;clear hc hr htv hbv htk JY ED hLb hBb hwb hrm;generalize bs r.head.name=nm at*;generalize hno:r.head.no=no at*
  go_wp2_with fail
  rw[←HWb.out];refine HC.out.mono ?_;rintro e w2 ⟨⟨u2,rfl⟩,hM2,hT2⟩;have HX2:=au (HBx.out.turned hT2 hwr);have HM2:=au hM2;have HO2:Hid (lF (eB (p.take j)++(r.head::r.body.take 0)) (iQ m r.head)):=by show lF _ _;have:=HO.out.step r.head;simpa using this
  have HT2:Hid (Tn w.heap.size wb w2):=hT2;have x3:w2.cell? ⟨wo.heap.size,3,none⟩=some (.slice ba r.body.length bc):=HX2.out.z3;clear hM2 hT2 HC hno;go_wp2
  go_loopg [22] r.body.length (fun g i wz=>∃k:Nat,k+g=r.body.length∧i=.int .i64 k∧∃m',Hid (lG wz w.heap.size (6*j+1+k) m')∧Hid (lF (eB (p.take j)++(r.head::r.body.take k)) m')∧Hid (Tn w.heap.size wb wz))
  case atStart=>exact⟨0,by omega,rfl,_,HM2,HO2,HT2⟩
  clear HM2 HO2 HT2 x3;obtain⟨k,hk,rfl,m',HM',HO',HT'⟩:=hrel;have hbs:w.heap.size≤wb.heap.size:=by have:=HBb.out.size;omega
  have hBz:Below w.heap.size wb wr:=HT'.out.below (Nat.le_refl _) hbs;have hwz:=HT'.out.size;have hww:wo.heap.size<wb.heap.size:=HBx.out.lt
  by_cases hltk:k<r.body.length
  ·obtain⟨t,ht⟩:∃x,r.body[k]?=some x:=⟨_,List.getElem?_eq_getElem hltk⟩;obtain⟨b2,o2,_,rfl,hb2,⟨sv,rfl,hsv⟩,hc⟩:=aB.bR HBV.out ht;have hBw:Below w.heap.size w wr:=HBb.out.trans hBz;have e0:wr.cell? ⟨b2,o2+k*3,none⟩=some (.bool t.no):=by rw[hBw.cell (p:=⟨b2,o2+k*3,none⟩) hb2];exact hc 0 _ rfl
   have e1:wr.cell? ⟨b2,o2+k*3+1,none⟩=some (.string (bs t.name)):=by rw[hBw.cell (p:=⟨b2,o2+k*3+1,none⟩) hb2];exact hc 1 _ rfl
   have e2:wr.cell? ⟨b2,o2+k*3+2,none⟩=some sv:=by rw[hBw.cell (p:=⟨b2,o2+k*3+2,none⟩) hb2];exact hc 2 _ rfl
   have hbr:b2<wr.heap.size:=by omega
   obtain⟨sva,svc,rfl⟩:=aB.slice hsv;have hL5:aj wr (wr.alloc (.cells #[.bool t.no,.string (bs t.name),.slice sva t.terms.length svc] 54)):=(aj.refl _).alloc _;have htk:r.head::r.body.take (k+1)=(r.head::r.body.take k)++[t]:=by rw[List.take_add_one,ht];rfl
   have HC5:=au (BO w.heap.size (6*j+1+k) m' t (.slice sva t.terms.length svc) (wr.alloc (.cells #[.bool t.no,.string (bs t.name),.slice sva t.terms.length svc] 54)) (HM'.out.later hL5) (aB.aO hsv (ak hBw hL5.below hBw.size)) (by have:=HRA.out t (List.mem_cons_of_mem _ (List.mem_of_getElem? ht));unfold maxLen;omega) (by unfold maxLen;omega));have HO5:Hid (lF (eB (p.take j)++(r.head::r.body.take (k+1))) (iQ m' t)):=by show lF _ _;rw[htk,←List.append_assoc];exact HO'.out.step t
   have HL5:=au hL5;clear hc ht hsv hBw hL5 htk hBz;generalize bs t.name=nm5 at*;generalize t.no=no5 at*
   go_wp2_with fail
   refine HC5.out.mono ?_;rintro e w6 ⟨⟨u6,rfl⟩,hM6,hT6⟩;have HM6:Hid (lG w6 w.heap.size (6*j+1+(k+1)) (iQ m' t)):=hM6;have HT6:Hid (Tn w.heap.size wb w6):=(HT'.out.trans (Tn.of_below HL5.out.below)).trans hT6;clear hM6 hT6 HC5;go_wp2
   go_roundg (r.body.length- (k+1))
   case measure=>omega
   case rel=>exact⟨k+1,by omega,by go_num,_,HM6,HO5,HT6⟩
  have hk':r.body.take k=r.body:=List.take_of_length_le (by omega);rw[hk',←HTK.out] at HO';have HB4:Hid (Below w.heap.size w wr):=HBb.out.trans hBz;have HM4:Hid (lG wr w.heap.size (6*(j+1)) m'):=HM'.out.mono (by omega);have hws:w.heap.size<wr.heap.size:=by omega
  clear hk' hBz;go_wp2
  go_roundg (p.length- (j+1))
  case measure=>omega
  case rel=>exact⟨j+1,by omega,by go_num,hws,m',HM4,HO',HB4⟩
 have hj':p.take j=p:=List.take_of_length_le (by omega);rw[hj'] at HO;clear hj';go_wp2;go_ret;exact⟨_,m,rfl,HM.out,HO.out,HBr.out⟩
def gL (p:List aD) (l:List aF):Nat→Nat→Int×Int
 |0,_=>(0,0)
 |n+1,k=>if uH p (l.getD k aA)=true then gL p l n (k+1) else(8,k)
def dP (p:List aD) (l:List aF):Int×Int:=if(aR l).1≠0 then aR l else gL p l l.length 0
theorem nX {p:List aD} {l:List aF}:∀(n k:Nat),(gL p l n k).1=0→∀i,k≤i→i<k+n→uH p (l.getD i aA)=true
 |0,k,_,i,h1,h2=>by omega
 |n+1,k,h,i,h1,h2=>by
  unfold gL at h;split at h
  ·rename_i hf
   by_cases e:i=k
   ·subst e;exact hf
   exact nX n (k+1) h i (by omega) (by omega)
  simp at h
theorem qg {p:List aD} {l:List aF} (h:∀f∈l,uH p f=true):∀(n k:Nat),k+n=l.length→gL p l n k=(0,0)
 |0,_,_=>rfl
 |n+1,k,hk=>by unfold gL;rw[if_pos (h _ (by rw[List.getD_eq_getElem?_getD,List.getElem?_eq_getElem (by omega)];exact List.getElem_mem _))];exact qg h n (k+1) (by omega)
theorem zZ {p:List aD} {l:List aF} (h:(dP p l).1=0):GoodS p l:=by
 unfold dP at h;split at h;·rename_i h1;exact absurd h h1
 rename_i h1;refine tZ (by simpa using h1) fun f hf=>?_;obtain⟨i,hi,rfl⟩:=List.getElem_of_mem hf;have:=nX l.length 0 h i (Nat.zero_le _) (by omega)
 rwa [List.getD_eq_getElem?_getD,List.getElem?_eq_getElem hi] at this
theorem z8 {p:List aD} {l:List aF} (h:GoodS p l):dP p l=(0,0):=by unfold dP;rw[fI h.up h.right h.few,if_neg (by simp)];exact qg h.fit _ 0 (by omega)
theorem FY {p:List aD} {m:qc} (h:lF (eB p) m) (f:aF):qd m f=uH p f:=by
 unfold qd;obtain⟨h1,h2⟩:=h (raw f.1);rw[Bool.eq_iff_iff,yN];cases e:m (raw f.1) with
 |none=>
  simp only[true_iff];intro a ha hb;exact absurd (by rw[←hb,jN]) (h1.1 e a ha)
 |some k=>
  simp only[decide_eq_true_eq];rw[h2 k e f.2.length];exact⟨fun h a ha hb=>h a ha (by rw[←hb,jN]),fun h a ha hb=>h a ha (by rw[hb,kJ])⟩
theorem xM {p:List aD} (hp:fG p):(∀r∈p,r.body.length≤5)∧∀a∈eB p,a.name.length≤12:=by
 have hn:∀a:aJ,aL a=0→a.name.length≤12:=fun a ha=>by have h1:=(j3 ha).1;unfold isNamed at h1;simp only[Bool.and_eq_true,decide_eq_true_eq] at h1;exact h1.1.1
 have hb:∀l:List aJ,bE l=0→∀a∈l,aL a=0:=fun l=>by
  induction l with
  |nil=>intro _ a ha;cases ha
  |cons x l ih=>
   intro h a ha;unfold bE at h;split at h
   ·rename_i hx;rcases List.mem_cons.1 ha with rfl|ha
    ·exact hx
    exact ih h a ha
   rename_i hx;exact absurd h hx
 have key:∀r∈p,r.body.length≤5∧∀a∈r.body,aL a=0:=fun r hr=>by
  have:=(hp.rules r hr).body;unfold aM at this;split at this;·cases this
  rename_i h5;split at this;·rename_i h0;exact⟨by omega,hb _ h0⟩
  rename_i h0;exact absurd this h0
 refine⟨fun r hr=>(key r hr).1,fun a ha=>?_⟩;obtain⟨r,hr,ha⟩:=List.mem_flatMap.1 ha;rcases List.mem_cons.1 ha with rfl|ha
 ·exact hn _ (hp.rules r hr).head
 exact hn _ ((key r hr).2 a ha)
end Go.Proofs.YthngiikhgplldaaGreatDoor
