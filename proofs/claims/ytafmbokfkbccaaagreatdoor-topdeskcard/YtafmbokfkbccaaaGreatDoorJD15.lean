import Derived.Test.YtafmbokfkbccaaaGreatDoorJD14
import Derived.Laws.StructEq
import Derived.Test.YtafmbokfkbccaaaGreatDoorJD13
import Derived.Test.YtafmbokfkbccaaaGreatDoorJD3
import Derived.Test.YtafmbokfkbccaaaGreatDoorJD12
import Derived.Test.YtafmbokfkbccaaaGreatDoorJD8
namespace Go.Proofs.YtafmbokfkbccaaaGreatDoor
open Go.RowKit Go.Sort
def lessBs (l m:List BindD):Bool:=decide (cmpBs l m<0)
theorem facts_nil (w:World):Facts w (.slice none 0 0) []:=⟨by simp,none,0,rfl,fun h=>absurd rfl h⟩
set_option maxHeartbeats 1000000 in
theorem allL (body:List AtomD) (v fv:Value) (fs:List FactD) (w:World) (hv:atomK.sl Anyw w v body) (hf:Facts w fv fs):
  Calls Tryz.prog 40 #[v,fv] w fun e w'=>∃v' er,e=.returned (.tuple #[v',.int .i64 er])∧WithL w.heap.size w' v' er body fs (-1) []∧Below w.heap.size w w':=by
 have HW:=hide (withL body v fv (.slice none 0 0) fs [] (-1) w hv hf (facts_nil w));obtain⟨a,cap,rfl⟩:=Kind.slice hv;obtain⟨fa,fc,rfl⟩:=sliceFacts hf;clear hv hf
 go_enter Tryz.func40,Tryz.ntmps40
 go_wp2_with fail
 refine HW.out.mono ?_;rintro e w1 ⟨v',er,rfl,hT,hB⟩;have HT:=hide hT;have HB:=hide hB;clear hT hB HW;go_wp2
 go_ret2
 exact⟨v',er,rfl,HT.out,HB.out⟩
theorem allC (body:List AtomD) (v fv:Value) (fs:List FactD) (w:World) (hv:atomK.sl Anyw w v body) (hf:Facts w fv fs):
  Calls Tryz.prog 40 #[v,fv] w fun e w'=>∃v' er,e=.returned (.tuple #[v',.int .i64 er])∧WithT w' v' er body fs (-1) []∧Below w.heap.size w w':=
 (allL body v fv fs w hv hf).mono fun _ _ ⟨v',er,h1,h2,h3⟩=>⟨v',er,h1,h2.any,h3⟩
end Go.Proofs.YtafmbokfkbccaaaGreatDoor
namespace Go.Proofs.YtafmbokfkbccaaaGreatDoor
open Go.RowKit Go.Sort Go.Maps
theorem meetAll_small (pick:Nat→List FactB):∀(ats:List AtomD) (n:Nat) (ls ms:List (List BindD)),ls.length≤20000→metGo pick n ats ls=some ms→ms.length≤20000
 |[],_,ls,ms,h,e=>by cases e;exact h
 |a::ats,n,ls,ms,h,e=>by
  unfold metGo at e;split at e
  ·exact meetAll_small pick ats _ ls ms h e
  ·split at e
   ·cases e
   ·exact meetAll_small pick ats _ _ ms (by omega) e
theorem allB_small {pick:Nat→List FactB} {body:List AtomD} {R:List (List BindD)} (h:allB pick body=some R):R.length≤20000:=by
 unfold allB at h;cases e:metGo pick 0 body [[]] with
 |none=>rw[e] at h;cases h
 |some ms=>
  rw[e] at h;cases h;have:=meetAll_small pick body 0 [[]] ms (by simp) e;rw[(sortBy_perm _).length_eq,List.length_map];exact Nat.le_trans (List.length_filter_le _ _) this
theorem pickB_all (fs:List FactD):pickB fs (-1) []=fun _=>fs:=by
 funext n
 unfold pickB;rw[if_neg (by omega)]
def HeadsT (w:World) (v:Value) (er:Int) (r:RuleD) (fs:List FactB):Prop:=
 if errW r.body fs []≠0 then v=.slice none 0 0∧er=errW r.body fs [] else match headsP r fs with
  |none=>v=.slice none 0 0∧er=4
  |some x=>er=0∧Facts w v x
theorem one_fact {w:World} {g:Nat} {f:FactB} {s:Value} (h:w.heap[g]?=some (.cells #[.string f.1,s] 27 (0,0))) (hs:Strs w s f.2):Facts w (.slice (some ⟨g,0,none⟩) 1 1) [f]:=by
 refine⟨by simp,_,1,rfl,fun _=>⟨g,0,rfl,(Array.getElem?_eq_some_iff.1 h).1,fun i hi=> ?_⟩⟩;have:i=0:=by simp at hi;omega
 subst this;exact⟨by rw[cell_of_row _ _ _ _ _ _ h];rfl,s,by rw[cell_of_row _ _ _ _ _ _ h];rfl,hs⟩
set_option maxHeartbeats 4000000 in
theorem headsC (r:RuleD) (tv bv fv:Value) (fs:List FactB) (w:World) (ht:termK.sl Anyw w tv r.head.terms) (hb:atomK.sl Anyw w bv r.body) (hf:Facts w fv fs)
  (hs:∀R,allB (fun _=>fs) r.body=some R→∀l∈R,∀f,fillB r.head l=some f→ShortF f):
  Calls Tryz.prog 42 #[.agg #[.bool r.head.no,.string (bs r.head.name),tv,bv],fv] w fun e w'=>∃v' er,e=.returned (.tuple #[v',.int .i64 er])∧HeadsT w' v' er r fs∧Below w.heap.size w w':=by
 obtain⟨ta,tc,rfl⟩:=Kind.slice ht;obtain⟨ba,bc,rfl⟩:=Kind.slice hb;obtain⟨fa,fc,rfl⟩:=sliceFacts hf;obtain⟨wb,hwb⟩:∃wb,wb=w.alloc (.cells #[.bool r.head.no,.string (bs r.head.name),.slice ta r.head.terms.length tc,.slice ba r.body.length bc] 87):=⟨_,rfl⟩;have hLb:Later w wb:=by rw[hwb];exact(Later.refl w).alloc _
 have hrb:wb.heap[w.heap.size]?=some (.cells #[.bool r.head.no,.string (bs r.head.name),.slice ta r.head.terms.length tc,.slice ba r.body.length bc] 87 (0,0)):=by rw[hwb];exact heap_alloc_new w _
 have HA:=hide (allC r.body (.slice ba r.body.length bc) (.slice fa fs.length fc) fs wb (Kind.sl_later hb hLb) (hf.later hLb));have HTm:=hide (Kind.sl_later ht hLb);have HS:=hide hs;have HLb:=hide hLb;have HRb:=hide hrb;have c3:wb.cell? ⟨w.heap.size,3,none⟩=some (.slice ba r.body.length bc):=by rw[cell_of_row _ _ _ _ _ _ hrb];rfl
 have HWB:=hide hwb;clear ht hb hf hs hLb hrb
 go_enter Tryz.func42,Tryz.ntmps42
 rw[hwb] at c3;clear hwb
 go_wp2_with fail
 rw[←HWB.out];clear c3;refine HA.out.mono ?_;rintro e w1 ⟨v1,er,rfl,hT,hB1⟩;clear HA;unfold WithT at hT;rw[pickB_all] at hT;have HB1:Hid (Below w.heap.size w w1):=below_trans HLb.out.below hB1 HLb.out.size;have hwlt:w.heap.size<wb.heap.size:=(Array.getElem?_eq_some_iff.1 HRb.out).1;have HR1:Hid (w1.heap[w.heap.size]?=some (.cells #[.bool r.head.no,.string (bs r.head.name),.slice ta r.head.terms.length tc,.slice ba r.body.length bc] 87 (0,0))):=by
  show _=_;rw[hB1.block _ hwlt];exact HRb.out
 have HT1:=hide (Kind.sl_below HTm.out hB1);clear hB1 HTm HRb HLb HWB hwlt
 by_cases h0:errW r.body fs []=0
 ·rw[if_neg (by simp[h0])] at hT;cases hR:allB (fun _=>fs) r.body with
  |none=>
   rw[hR] at hT;obtain⟨rfl,rfl⟩:=hT;have HH:Hid (∀w',HeadsT w' (.slice none 0 0) 4 r fs):=fun w'=>by unfold HeadsT headsP;rw[if_neg (by simp[h0]),hR];exact⟨rfl,rfl⟩
   clear h0 hR HS HR1 HT1;go_wp2;exact bodyPost_ret (v:=.tuple #[.slice none 0 0,.int .i64 4]) (by simp[results,Tryz.results42,go_sem]) rfl ⟨_,4,rfl,HH.out _,HB1.out⟩
  |some R=>
   rw[hR] at hT;obtain⟨rfl,hsl⟩:=hT;have hsmall:=allB_small hR;have HSh:=hide (HS.out R hR);have HH:Hid (∀w' v',Facts w' v' (setF (R.filterMap fun l=>fillB r.head l))→HeadsT w' v' 0 r fs):=fun w' v' h=>by unfold HeadsT headsP;rw[if_neg (by simp[h0]),hR];exact⟨rfl,h⟩
   have HRL:=hide hsl;obtain⟨ra,rc,rfl⟩:=Kind.slice hsl;clear h0 hR hsl HS;have hmm:= @run_makeMap Tryz.prog;obtain⟨w2,hw2⟩:∃w2,w2=w1.alloc (.map #[] 0):=⟨_,rfl⟩;have HK2:Hid (KnN w2 w1.heap.size 0 ((R.take 0).filterMap fun l=>fillB r.head l)):=by show KnN _ _ _ _;rw[hw2];exact KnownM.made _ _ _
   have HB2:Hid (Below w1.heap.size w1 w2):=by show Below _ _ _;rw[hw2];exact((Later.refl w1).alloc _).below
   have HW2:=hide hw2;clear hw2;go_wp2;rw[←HW2.out];clear hmm HW2
   go_loopg [26] R.length (fun g i wr=>∃j:Nat,j+g=R.length∧i=.int .i64 j∧Hid (KnN wr w1.heap.size j ((R.take j).filterMap fun l=>fillB r.head l))∧Hid (Below w1.heap.size w1 wr))
   case atStart=>exact⟨0,by omega,rfl,HK2,HB2⟩
   case round=>
    clear HK2 HB2;obtain⟨j,hj,rfl,HK,HBr⟩:=hrel
    by_cases hlt:j<R.length
    ·obtain⟨l,hx⟩:∃x,R[j]?=some x:=⟨_,List.getElem?_eq_getElem hlt⟩;obtain⟨b1,o1,_,rfl,hb1,⟨lv,rfl,hlv⟩,hc⟩:=Kind.sl_at HRL.out hx;have d0:wr.cell? ⟨b1,o1+j,none⟩=some lv:=by rw[HBr.out.cell (p:=⟨b1,o1+j,none⟩) hb1];simpa[slK] using hc 0 _ rfl
     have HLV:=hide hlv;obtain⟨la,lc,rfl⟩:=Kind.slice hlv;have hbw:w.heap.size<w1.heap.size:=(Array.getElem?_eq_some_iff.1 HR1.out).1;have hrr:wr.heap[w.heap.size]?=some (.cells #[.bool r.head.no,.string (bs r.head.name),.slice ta r.head.terms.length tc,.slice ba r.body.length bc] 87 (0,0)):=by rw[HBr.out.block _ hbw];exact HR1.out
     have r0:wr.cell? ⟨w.heap.size,0,none⟩=some (.bool r.head.no):=by rw[cell_of_row _ _ _ _ _ _ hrr];rfl
     have r1:wr.cell? ⟨w.heap.size,0+1,none⟩=some (.string (bs r.head.name)):=by rw[cell_of_row _ _ _ _ _ _ hrr];rfl
     have r2:wr.cell? ⟨w.heap.size,0+2,none⟩=some (.slice ta r.head.terms.length tc):=by rw[cell_of_row _ _ _ _ _ _ hrr];rfl
     have HFc:=hide (fillC r.head _ (.slice la l.length lc) l wr (Kind.sl_below HT1.out HBr.out) (Kind.sl_below HLV.out HBr.out));have htk:R.take (j+1)=R.take j++[l]:=by rw[List.take_add_one,hx];rfl
     have hSl:=HSh.out l (List.mem_of_getElem? hx);unfold filled at HFc;clear hc hx hlv hrr;cases hfl:fillB r.head l with
     |none=>
      rw[hfl] at HFc;have HK':Hid (KnN wr w1.heap.size (j+1) ((R.take (j+1)).filterMap fun l=>fillB r.head l)):=by
       show KnN _ _ _ _;rw[htk,List.filterMap_append];simp only[List.filterMap_cons,hfl,List.filterMap_nil,List.append_nil];exact HK.out.mono (Nat.le_succ _)
      clear hfl htk hSl;generalize bs r.head.name=nm at*;generalize r.head.no=no at*
      go_wp2_with fail
      refine HFc.out.mono ?_;rintro e w3 ⟨f3,rfl,hfv,hL3⟩;obtain⟨s,rfl,hs⟩:=hfv;obtain⟨sA',sC',rfl⟩:=sliceStr hs;simp only[Option.isSome_none];have HL3:Hid (Later wr w3):=hL3;clear hs hL3;go_wp2
      go_roundg (R.length- (j+1))
      case measure=>omega
      case rel=>exact⟨j+1,by omega,by go_num,HK'.out.later (HL3.out.alloc _),below_trans HBr.out (HL3.out.alloc _).below HBr.out.size⟩
     |some f=>
      rw[hfl] at HFc;have hsf:=hSl f hfl;have hfm:(R.take (j+1)).filterMap (fun l=>fillB r.head l)=(R.take j).filterMap (fun l=>fillB r.head l)++[f]:=by
       rw[htk,List.filterMap_append];simp only[List.filterMap_cons,hfl,List.filterMap_nil]
      have HFM:=hide hfm;have HSF:=hide hsf;clear hfl htk hSl hfm hsf;generalize bs r.head.name=nm at*;generalize r.head.no=no at*
      go_wp2_with fail
      refine HFc.out.mono ?_;rintro e w3 ⟨f3,rfl,hfv,hL3⟩;simp only[Option.isSome_some,Option.getD_some] at hfv⊢;obtain⟨s,rfl,hs⟩:=hfv;obtain⟨sA',sC',rfl⟩:=sliceStr hs;obtain⟨fn,fargs⟩:=f;dsimp only at*;obtain⟨w4,hw4⟩:∃w4,w4=(w3.alloc (.cells #[.string fn,.slice sA' fargs.length sC'] 27)).alloc (.cells #[.string fn,.slice sA' fargs.length sC'] 27):=⟨_,rfl⟩;have hL4:Later w3 w4:=by rw[hw4];exact((Later.refl _).alloc _).alloc _
      have hr4:w4.heap[w3.heap.size+1]?=some (.cells #[.string fn,.slice sA' fargs.length sC'] 27 (0,0)):=by
       rw[hw4];have:=heap_alloc_new (w3.alloc (.cells #[.string fn,.slice sA' fargs.length sC'] 27)) (.cells #[.string fn,.slice sA' fargs.length sC'] 27);simpa using this
      have HAd:=hide (knownAdd w1.heap.size j _ (.slice (some ⟨w3.heap.size+1,0,none⟩) 1 1) [(fn,fargs)] w4 (HK.out.later (hL3.trans hL4)) (one_fact (f:=(fn,fargs)) hr4 (hs.later hL4)) (fun g hg=>by simp only[List.mem_singleton] at hg;subst hg;exact HSF.out) (by simp;omega));have HL4:Hid (Later wr w4):=hL3.trans hL4;have HW4:=hide hw4;clear hs hL3 hL4 hr4 hw4 HFc
      go_wp2_with fail
      rw[←HW4.out];refine HAd.out.mono ?_;rintro e w5 ⟨⟨u5,rfl⟩,hK5,hT5⟩;have HK5:Hid (KnN w5 w1.heap.size (j+1) ((R.take (j+1)).filterMap fun l=>fillB r.head l)):=by show KnN _ _ _ _;rw[HFM.out];exact hK5
      have hs4:w1.heap.size≤w4.heap.size:=Nat.le_trans HBr.out.size HL4.out.size;have HB5:Hid (Below w1.heap.size w1 w5):=(below_trans HBr.out HL4.out.below HBr.out.size).trans (hT5.below (Nat.le_refl _) hs4);clear hK5 hT5 HAd HW4;go_wp2
      go_roundg (R.length- (j+1))
      case measure=>omega
      case rel=>exact⟨j+1,by omega,by go_num,HK5,HB5⟩
    ·have hj':j=R.length:=by omega
     subst hj';rw[List.take_length] at HK;have HF:=hide (knownSet _ _ _ wr HK.out (by omega))
     go_wp2_with fail
     refine HF.out.mono ?_;rintro e w6 ⟨v6,rfl,hF6,hB6⟩;have HT6:=hide (HH.out _ _ hF6);have HB6:Hid (Below w.heap.size w w6):=below_trans (below_trans HB1.out HBr.out HB1.out.size) hB6 (Nat.le_trans HB1.out.size HBr.out.size);obtain⟨a6,c6,rfl⟩:=sliceFacts hF6;clear hF6 hB6;go_wp2;exact bodyPost_ret (v:=.tuple #[.slice a6 (setF (R.filterMap fun l=>fillB r.head l)).length c6,.int .i64 0]) (by simp[results,Tryz.results42,go_sem]) rfl ⟨_,0,rfl,HT6.out,HB6.out⟩
 ·rw[if_pos h0] at hT;obtain⟨rfl,rfl⟩:=hT;have HH:Hid (∀w',HeadsT w' (.slice none 0 0) (errW r.body fs []) r fs):=fun w'=>by unfold HeadsT;rw[if_pos h0];exact⟨rfl,rfl⟩
  clear HS HR1 HT1;generalize errW r.body fs []=er at*;go_wp2;exact bodyPost_ret (v:=.tuple #[.slice none 0 0,.int .i64 er]) (by simp[results,Tryz.results42,go_sem]) rfl ⟨_,er,rfl,HH.out _,HB1.out⟩
end Go.Proofs.YtafmbokfkbccaaaGreatDoor
namespace Go.Proofs.YtafmbokfkbccaaaGreatDoor
open Go.RowKit Go.Sort Go.Maps
abbrev NumsM (w:World) (b n:Nat) (m:Nums):Prop:=NumM Tryz.prog 9 3 w b n m
theorem Kind.sl_tnb {α:Type} {K:Kind α} {b:Nat} {w w':World} {v:Value} {l:List α} (h:K.sl (fun k=>k≠b) w v l) (k:Tn b w w'):K.sl (fun k=>k≠b) w' v l:=Kind.sl_kept h k.size fun i hi hB=>k.block i hi hB
theorem Kind.sl_ne {α:Type} {K:Kind α} {b:Nat} {w:World} {v:Value} {l:List α} (h:K.sl Anyw w v l) (hb:w.heap.size≤b):K.sl (fun k=>k≠b) w v l:=Kind.sl_mono h fun k hk _=>by omega
theorem wf_len {n:Nat} (h:n≤9223372036854775807):(Lit.int .i64 (n:Int)).wf=true:=WalkArith.wf_i64 (by omega)
set_option maxRecDepth 100000 in
set_option maxHeartbeats 1000000 in
theorem fitC (b n:Nat) (m:Nums) (a:AtomD) (v:Value) (w:World) (h:NumsM w b n m) (hv:termK.sl Anyw w v a.terms) (hs:a.name.length≤maxLen) (hn:n<maxLen):
  Calls Tryz.prog 255 #[.map (some b),.agg #[.bool a.no,.string (bs a.name),v]] w fun e w'=>e=.returned (.bool (fitOne m a).1)∧NumsM w' b (n+1) (fitOne m a).2∧Tn b w w':=by
 obtain⟨sa,cap,rfl⟩:=Kind.slice hv;have hl0:=hv.1.1;clear hv;have h1:=h.later ((Later.refl w).alloc (.cells #[.bool a.no,.string (bs a.name),.slice sa a.terms.length cap] 85));have hr:=NumM.lookOk (T:=261) h1 Tryz.underlying9 Tryz.underlying3 Tryz.underlying261 (zeroInt _) hs;have hblt:=h.lt;cases hm:m a.name with
 |none=>
  obtain⟨w1,hst,hm1,hg⟩:=NumM.store (T:=261) h1 Tryz.underlying9 Tryz.underlying3 Tryz.underlying261 hn hs (x:=a.terms.length) (wf_len (by omega));have e0:numOf m a.name=0:=by unfold numOf;rw[hm];rfl
  rw[hm,e0] at hr;have F:Hid (fitOne m a=(true,m.put a.name a.terms.length)):=by show _=_;unfold fitOne;rw[hm]
  have HM:Hid (NumsM w1 b (n+1) (m.put a.name a.terms.length)):=hm1;have HT:Hid (Tn b w w1):=(Tn.of_below (p:=b) ((Later.refl w).alloc _).below).trans (Tn.of_grown hg);have hst':=hide hst;clear h h1 hm1 hg hst hm e0;generalize bs a.name=nm at*;generalize a.no=no at*
  go_enter Tryz.func255,Tryz.ntmps255
  go_wp2_with (first
   |(at_mapUpdate;refine wpList_run_update _ rfl _ _ _ _ rfl _ _ _ _ rfl rfl rfl (unhide hst') ?_)
   |go_in)
  go_ret;exact⟨by rw[F.out];rfl,by rw[F.out];exact HM.out,HT.out⟩
 |some k=>
  have e0:numOf m a.name=k:=by unfold numOf;rw[hm];rfl
  rw[hm,e0] at hr;have F:Hid (fitOne m a=(decide (k=a.terms.length),m)):=by show _=_;unfold fitOne;rw[hm]
  have HM:Hid (NumsM (w.alloc (.cells #[.bool a.no,.string (bs a.name),.slice sa a.terms.length cap] 85)) b (n+1) m):=h1.mono (by omega);clear h h1 hm e0;generalize bs a.name=nm at*;generalize a.no=no at*
  go_enter Tryz.func255,Tryz.ntmps255
  go_wp2;go_ret;refine⟨?_,by rw[F.out];exact HM.out,Tn.of_below ((Later.refl w).alloc _).below⟩;rw[F.out];refine ret_bool ?_;rw[Bool.eq_iff_iff];simp;omega
structure RuleBox (b:Nat) (w:World) (c0 c1 c2 c3:Value) (w':World):Prop where
 tn:Tn b w w'
 lt:w.heap.size<w'.heap.size
 z0:w'.cell? ⟨w.heap.size,0,none⟩=some c0
 z1:w'.cell? ⟨w.heap.size,1,none⟩=some c1
 z2:w'.cell? ⟨w.heap.size,2,none⟩=some c2
 z3:w'.cell? ⟨w.heap.size,3,none⟩=some c3
section
variable {b:Nat} {w w1 w2:World} {c0 c1 c2 c3:Value}
theorem RuleBox.made (b:Nat) (w:World) (c0 c1 c2 c3:Value):RuleBox b w c0 c1 c2 c3 (w.alloc (.cells #[c0,c1,c2,c3] 87)):=
 ⟨Tn.of_below ((Later.refl w).alloc _).below,by simp,by simp,by simp,by simp,by simp⟩
theorem RuleBox.turned (h:RuleBox b w c0 c1 c2 c3 w1) (k:Tn b w1 w2) (hb:b<w.heap.size):RuleBox b w c0 c1 c2 c3 w2:=by
 have e:∀i,w2.cell? ⟨w.heap.size,i,none⟩=w1.cell? ⟨w.heap.size,i,none⟩:=fun i=>k.cell (x:=⟨w.heap.size,i,none⟩) h.lt (by show w.heap.size≠b;omega);exact⟨h.tn.trans k,Nat.lt_of_lt_of_le h.lt k.size,by rw[e];exact h.z0,by rw[e];exact h.z1,by rw[e];exact h.z2,by rw[e];exact h.z3⟩
theorem RuleBox.below (h:RuleBox b w c0 c1 c2 c3 w1) (k:Below w1.heap.size w1 w2) (hb:b<w.heap.size):RuleBox b w c0 c1 c2 c3 w2:=h.turned (Tn.of_below k) hb
end
theorem fitAll_step {l:List AtomD} {j:Nat} {a:AtomD} (h:l[j]?=some a) (m:Nums):fitAll m (l.drop j)=if(fitOne m a).1 then fitAll (fitOne m a).2 (l.drop (j+1)) else(false,(fitOne m a).2):=by
 obtain⟨h1,e1⟩:=List.getElem?_eq_some_iff.1 h;rw[List.drop_eq_getElem_cons h1,e1];rfl
theorem wrongAtoms_zero {l:List AtomD} (h:wrongAtoms l=0):∀a∈l,wrongAtom a=0:=by
 induction l with
 |nil=>intro a ha;cases ha
 |cons b l ih=>
  unfold wrongAtoms at h;split at h
  ·rename_i h0;intro a ha;rcases List.mem_cons.1 ha with rfl|ha
   ·exact h0
   ·exact ih h a ha
  ·rename_i h0;exact absurd h h0
theorem wrongBody_zero {l:List AtomD} (h:wrongBody l=0):l.length≤5∧∀a∈l,wrongAtom a=0:=by
 unfold wrongBody at h;split at h
 ·cases h
 ·split at h
  ·rename_i h5 h0;exact⟨by omega,wrongAtoms_zero h0⟩
  ·rename_i h5 h0;exact absurd h h0
set_option maxRecDepth 100000 in
set_option maxHeartbeats 4000000 in
theorem wrongRuleC (b n:Nat) (m:Nums) (r:RuleD) (v u:Value) (w:World) (h:NumsM w b n m) (hv0:termK.sl (fun k=>k≠b) w v r.head.terms) (hu0:atomK.sl (fun k=>k≠b) w u r.body) (hn:n≤1000000):
  Calls Tryz.prog 191 #[.agg #[.bool r.head.no,.string (bs r.head.name),v,u],.map (some b)] w fun e w'=>e=.returned (.int .i64 (wrongRule m r).1)∧NumsM w' b (n+6) (wrongRule m r).2∧Tn b w w':=by
 have hbw:=h.lt;obtain⟨va,vc,rfl⟩:=Kind.slice hv0;obtain⟨ua,uc,rfl⟩:=Kind.slice hu0;have hl0:=hv0.1.1;have hl1:=hu0.1.1;have HV:=hide hv0;have HU:=hide hu0;clear hv0 hu0;have HM0:Hid (∀w',Below w.heap.size w w'→NumsM w' b n m):=fun w' k=>h.below k;have HA:Hid (∀w',RuleBox b w (.bool r.head.no) (.string (bs r.head.name)) (.slice va r.head.terms.length vc) (.slice ua r.body.length uc) w'→NumsM w' b n m→Calls Tryz.prog 251 #[.agg #[.bool r.head.no,.string (bs r.head.name),.slice va r.head.terms.length vc]] w'
   fun e w''=>e=.returned (.int .i64 (wrongAtom r.head))∧RuleBox b w (.bool r.head.no) (.string (bs r.head.name)) (.slice va r.head.terms.length vc) (.slice ua r.body.length uc) w''∧NumsM w'' b n m):=fun w' hR hM=>
  (wrongAtomC r.head _ w' (Kind.sl_any (Kind.sl_tnb HV.out hR.tn))).mono fun e w'' ⟨he,hL⟩=>⟨he,hR.below hL.below hbw,hM.later hL⟩
 have HBd:Hid (∀w',RuleBox b w (.bool r.head.no) (.string (bs r.head.name)) (.slice va r.head.terms.length vc) (.slice ua r.body.length uc) w'→NumsM w' b n m→Calls Tryz.prog 216 #[.slice ua r.body.length uc] w'
   fun e w''=>e=.returned (.int .i64 (wrongBody r.body))∧RuleBox b w (.bool r.head.no) (.string (bs r.head.name)) (.slice va r.head.terms.length vc) (.slice ua r.body.length uc) w''∧NumsM w'' b n m):=fun w' hR hM=>
  (chkBodyC r.body _ w' (Kind.sl_any (Kind.sl_tnb HU.out hR.tn))).mono fun e w'' ⟨he,hL⟩=>⟨he,hR.below hL hbw,hM.below hL⟩
 have HR0:=hide (RuleBox.made b w (.bool r.head.no) (.string (bs r.head.name)) (.slice va r.head.terms.length vc) (.slice ua r.body.length uc));have HMA:=hide (h.later ((Later.refl w).alloc (.cells #[.bool r.head.no,.string (bs r.head.name),.slice va r.head.terms.length vc,.slice ua r.body.length uc] 87)))
 by_cases h1:wrongAtom r.head=0
 ·cases hno:r.head.no
  ·by_cases h2:wrongBody r.body=0
   ·obtain⟨hl5,hfb⟩:=wrongBody_zero h2;obtain⟨fn,ft,fs⟩:=wrongAtom_zero h1;have F:Hid (wrongRule m r=if(vars r.head).all (givenBy r.body) then(if(fitOne m r.head).1 then(if(fitAll (fitOne m r.head).2 r.body).1 then 0 else 8,(fitAll (fitOne m r.head).2 r.body).2) else(8,(fitOne m r.head).2)) else(9,m)):=by
     show _=_;unfold wrongRule;rw[if_pos h1,hno,if_neg (by simp),if_pos h2]
    rw[hno] at HA HBd HR0 HMA;rw[h1] at HA;rw[h2] at HBd;have HGB:Hid (∀w',RuleBox b w (.bool false) (.string (bs r.head.name)) (.slice va r.head.terms.length vc) (.slice ua r.body.length uc) w'→NumsM w' b n m→Calls Tryz.prog 252 #[.slice ua r.body.length uc] w' fun e w''=>e=.returned (.map (some w'.heap.size))∧NamesM w'' w'.heap.size 20 (givenBy r.body)∧RuleBox b w (.bool false) (.string (bs r.head.name)) (.slice va r.head.terms.length vc) (.slice ua r.body.length uc) w''∧NumsM w'' b n m):=fun w' hR hM=>
     (givenByC r.body _ w' (Kind.sl_any (Kind.sl_tnb HU.out hR.tn)) hfb hl5).mono fun e w'' ⟨he,hN,hL⟩=>⟨he,hN,hR.below hL hbw,hM.below hL⟩
    have HVr:Hid (∀w' bk,NamesM w' bk 20 (givenBy r.body)→RuleBox b w (.bool false) (.string (bs r.head.name)) (.slice va r.head.terms.length vc) (.slice ua r.body.length uc) w'→NumsM w' b n m→Calls Tryz.prog 254 #[.agg #[.bool false,.string (bs r.head.name),.slice va r.head.terms.length vc]] w' fun e w''=>∃x,e=.returned x∧strK.sl Anyw w'' x (vars r.head)∧NamesM w'' bk 20 (givenBy r.body)∧RuleBox b w (.bool false) (.string (bs r.head.name)) (.slice va r.head.terms.length vc) (.slice ua r.body.length uc) w''∧NumsM w'' b n m):=fun w' bk hN hR hM=>by
     have:=varsC r.head _ w' (Kind.sl_any (Kind.sl_tnb HV.out hR.tn)) (by omega) (fun t ht=>short_max (fs t ht));rw[hno] at this;exact this.mono fun e w'' ⟨x,he,ho,hL⟩=>⟨x,he,Kind.sl_any (Kind.own_sl ho (by have:=vars_le r.head;omega)),hN.below hL,hR.below hL hbw,hM.below hL⟩
    have HAl:Hid (∀w' bk x,strK.sl Anyw w' x (vars r.head)→NamesM w' bk 20 (givenBy r.body)→RuleBox b w (.bool false) (.string (bs r.head.name)) (.slice va r.head.terms.length vc) (.slice ua r.body.length uc) w'→NumsM w' b n m→Calls Tryz.prog 253 #[.map (some bk),x] w' fun e w''=>e=.returned (.bool ((vars r.head).all (givenBy r.body)))∧RuleBox b w (.bool false) (.string (bs r.head.name)) (.slice va r.head.terms.length vc) (.slice ua r.body.length uc) w''∧NumsM w'' b n m):=fun w' bk x hS hN hR hM=>
     (hasAllC _ _ _ x (vars r.head) w' hN hS (fun s hs=>by obtain⟨t,ht,rfl⟩:=vars_mem r.head s hs;exact short_max (fs t ht))).mono fun e w'' ⟨he,hL⟩=>⟨he,hR.below hL.below hbw,hM.later hL⟩
    have HFt:Hid (∀w',RuleBox b w (.bool false) (.string (bs r.head.name)) (.slice va r.head.terms.length vc) (.slice ua r.body.length uc) w'→NumsM w' b n m→Calls Tryz.prog 255 #[.map (some b),.agg #[.bool false,.string (bs r.head.name),.slice va r.head.terms.length vc]] w' fun e w''=>e=.returned (.bool (fitOne m r.head).1)∧RuleBox b w (.bool false) (.string (bs r.head.name)) (.slice va r.head.terms.length vc) (.slice ua r.body.length uc) w''∧NumsM w'' b (n+1) (fitOne m r.head).2):=fun w' hR hM=>by
     have:=fitC b n m r.head _ w' hM (Kind.sl_any (Kind.sl_tnb HV.out hR.tn)) (short_max fn) (by simp[maxLen];omega);rw[hno] at this;exact this.mono fun e w'' ⟨he,hN,hT⟩=>⟨he,hR.turned hT hbw,hN⟩
    clear h1 h2 hno h HM0;generalize hgv:givenBy r.body=gv at*;clear hgv;generalize hall:(vars r.head).all gv=al at*;clear hall;generalize bs r.head.name=nm at*;cases al
    ·have F1:Hid (wrongRule m r=(9,m)):=F.out;clear HV HU HFt F
     go_enter Tryz.func191,Tryz.ntmps191
     go_wp2_with (first
      |(go_at_call 251;refine(HA.out _ HR0.out HMA.out).mono ?_;rintro e w1 ⟨rfl,hR1,hM1⟩;have z0:=hR1.z0;have z3:=hR1.z3;have zl:=hR1.lt;replace hR1:=hide hR1;replace hM1:=hide hM1)
      |(go_at_call 216;refine(HBd.out w1 (unhide hR1) (unhide hM1)).mono ?_;rintro e w2 ⟨rfl,hR2,hM2⟩;replace hR2:=hide hR2;replace hM2:=hide hM2))
     refine wp_region_held_drew (S:=fun w'=>RuleBox b w (.bool false) (.string nm) (.slice va r.head.terms.length vc) (.slice ua r.body.length uc) w'∧NumsM w' b n m) (by kernel_rfl) ⟨(unhide hR2).turned (Tn.refl _ _).drew hbw,(unhide hM2).block rfl⟩ (fun hHeld=> ?_);refine take_yes (i:=0) (d:=some 24) (v:= ?_) rfl rfl hHeld ?_ ?_;rotate_left;focus intro w hSw;(try dsimp only at hSw);obtain⟨hRB,_⟩:=hSw;have z0:=hRB.z0;have z1:=hRB.z1;have z2:=hRB.z2;have z3:=hRB.z3;have zl:=hRB.lt;clear hRB;go_simp;try with_reducible rfl
     simp only[aput,aset,aze,asu];refine take_yes (i:=1) (d:=some 25) (v:= ?_) rfl rfl hHeld ?_ ?_;rotate_left;focus intro w hSw;(try dsimp only at hSw);obtain⟨hRB,_⟩:=hSw;have z0:=hRB.z0;have z1:=hRB.z1;have z2:=hRB.z2;have z3:=hRB.z3;have zl:=hRB.lt;clear hRB;go_simp;try with_reducible rfl
     simp only[aput,aset,aze,asu];refine take_yes (i:=3) (d:=some 27) (v:= ?_) rfl rfl hHeld ?_ ?_;rotate_left;focus intro w hSw;(try dsimp only at hSw);obtain⟨hRB,_⟩:=hSw;have z0:=hRB.z0;have z1:=hRB.z1;have z2:=hRB.z2;have z3:=hRB.z3;have zl:=hRB.lt;clear hRB;go_simp;try with_reducible rfl
     simp only[aput,aset,aze,asu];refine take_yes (i:=4) (d:=some 28) (v:= ?_) rfl rfl hHeld ?_ ?_;rotate_left;focus intro w hSw;(try dsimp only at hSw);obtain⟨hRB,_⟩:=hSw;have z0:=hRB.z0;have z1:=hRB.z1;have z2:=hRB.z2;have z3:=hRB.z3;have zl:=hRB.lt;clear hRB;go_simp;try with_reducible rfl
     simp only[aput,aset,aze,asu];refine wpAnyH_ready (rs:=[2]) (by kernel_rfl) (by simp) ?_;refine AllReadyH.cons rfl (fun K hK=> ?_) AllReadyH.nil;go_simp;refine(HGB.out _ hHeld.1 hHeld.2).mono ?_;rintro e w3 ⟨rfl,hN3,hR3,hM3⟩;dsimp only;refine hK.out _ _ ⟨hR3,hM3⟩ (fun hHeld=> ?_);clear hK K;refine wpAnyH_ready (rs:=[5]) (by kernel_rfl) (by simp) ?_;refine AllReadyH.cons rfl (fun K hK=> ?_) AllReadyH.nil;go_simp;refine(HVr.out _ _ hN3 hHeld.1 hHeld.2).mono ?_;rintro e w4 ⟨x4,rfl,hS4,hN4,hR4,hM4⟩;dsimp only;refine hK.out _ _ ⟨hR4,hM4⟩ (fun hHeld=> ?_);clear hK K;refine wpAnyH_ready (rs:=[6]) (by kernel_rfl) (by simp) ?_;refine AllReadyH.cons rfl (fun K hK=> ?_) AllReadyH.nil;go_simp;refine(HAl.out _ _ _ hS4 hN4 hHeld.1 hHeld.2).mono ?_;rintro e w5 ⟨rfl,hR5,hM5⟩;dsimp only;refine hK.out _ _ ⟨hR5,hM5⟩ (fun hHeld=> ?_);clear hK K;refine take_yes (i:=7) (d:=some 31) (v:= ?_) rfl rfl hHeld ?_ ?_;rotate_left;focus intro w hSw;(try dsimp only at hSw);go_simp;try with_reducible rfl
     simp only[aput,aset,aze,asu];refine wpAnyH_done (by kernel_rfl) ?_ _;go_wp2;go_ret;exact⟨by rw[F1.out];rfl,by rw[F1.out];exact hHeld.2.mono (by omega),hHeld.1.tn⟩
    ·have F1:Hid (wrongRule m r=if(fitOne m r.head).1 then(if(fitAll (fitOne m r.head).2 r.body).1 then 0 else 8,(fitAll (fitOne m r.head).2 r.body).2) else(8,(fitOne m r.head).2)):=F.out;clear F;generalize fitOne m r.head=fo at*;obtain⟨f1,m1⟩:=fo;dsimp only at*;have HU1:Hid (∀w',Tn b w w'→atomK.sl (fun k=>k≠b) w' (.slice ua r.body.length uc) r.body):=fun w' k=>Kind.sl_tnb HU.out k;have hnames:∀a∈r.body,a.name.length≤maxLen:=fun a ha=>short_max (wrongAtom_zero (hfb a ha)).1;have HN:=hide hnames;clear HV HU hnames
     go_enter Tryz.func191,Tryz.ntmps191
     go_wp2_with (first
      |(go_at_call 251;refine(HA.out _ HR0.out HMA.out).mono ?_;rintro e w1 ⟨rfl,hR1,hM1⟩;have z0:=hR1.z0;have z3:=hR1.z3;have zl:=hR1.lt;replace hR1:=hide hR1;replace hM1:=hide hM1)
      |(go_at_call 216;refine(HBd.out w1 (unhide hR1) (unhide hM1)).mono ?_;rintro e w2 ⟨rfl,hR2,hM2⟩;replace hR2:=hide hR2;replace hM2:=hide hM2))
     refine wp_region_held_drew (S:=fun w'=>RuleBox b w (.bool false) (.string nm) (.slice va r.head.terms.length vc) (.slice ua r.body.length uc) w'∧NumsM w' b n m) (by kernel_rfl) ⟨(unhide hR2).turned (Tn.refl _ _).drew hbw,(unhide hM2).block rfl⟩ (fun hHeld=> ?_);refine take_yes (i:=0) (d:=some 24) (v:= ?_) rfl rfl hHeld ?_ ?_;rotate_left;focus intro w hSw;(try dsimp only at hSw);obtain⟨hRB,_⟩:=hSw;have z0:=hRB.z0;have z1:=hRB.z1;have z2:=hRB.z2;have z3:=hRB.z3;have zl:=hRB.lt;clear hRB;go_simp;try with_reducible rfl
     simp only[aput,aset,aze,asu];refine take_yes (i:=1) (d:=some 25) (v:= ?_) rfl rfl hHeld ?_ ?_;rotate_left;focus intro w hSw;(try dsimp only at hSw);obtain⟨hRB,_⟩:=hSw;have z0:=hRB.z0;have z1:=hRB.z1;have z2:=hRB.z2;have z3:=hRB.z3;have zl:=hRB.lt;clear hRB;go_simp;try with_reducible rfl
     simp only[aput,aset,aze,asu];refine take_yes (i:=3) (d:=some 27) (v:= ?_) rfl rfl hHeld ?_ ?_;rotate_left;focus intro w hSw;(try dsimp only at hSw);obtain⟨hRB,_⟩:=hSw;have z0:=hRB.z0;have z1:=hRB.z1;have z2:=hRB.z2;have z3:=hRB.z3;have zl:=hRB.lt;clear hRB;go_simp;try with_reducible rfl
     simp only[aput,aset,aze,asu];refine take_yes (i:=4) (d:=some 28) (v:= ?_) rfl rfl hHeld ?_ ?_;rotate_left;focus intro w hSw;(try dsimp only at hSw);obtain⟨hRB,_⟩:=hSw;have z0:=hRB.z0;have z1:=hRB.z1;have z2:=hRB.z2;have z3:=hRB.z3;have zl:=hRB.lt;clear hRB;go_simp;try with_reducible rfl
     simp only[aput,aset,aze,asu];refine wpAnyH_ready (rs:=[2]) (by kernel_rfl) (by simp) ?_;refine AllReadyH.cons rfl (fun K hK=> ?_) AllReadyH.nil;go_simp;refine(HGB.out _ hHeld.1 hHeld.2).mono ?_;rintro e w3 ⟨rfl,hN3,hR3,hM3⟩;dsimp only;refine hK.out _ _ ⟨hR3,hM3⟩ (fun hHeld=> ?_);clear hK K;refine wpAnyH_ready (rs:=[5]) (by kernel_rfl) (by simp) ?_;refine AllReadyH.cons rfl (fun K hK=> ?_) AllReadyH.nil;go_simp;refine(HVr.out _ _ hN3 hHeld.1 hHeld.2).mono ?_;rintro e w4 ⟨x4,rfl,hS4,hN4,hR4,hM4⟩;dsimp only;refine hK.out _ _ ⟨hR4,hM4⟩ (fun hHeld=> ?_);clear hK K;refine wpAnyH_ready (rs:=[6]) (by kernel_rfl) (by simp) ?_;refine AllReadyH.cons rfl (fun K hK=> ?_) AllReadyH.nil;go_simp;refine(HAl.out _ _ _ hS4 hN4 hHeld.1 hHeld.2).mono ?_;rintro e w5 ⟨rfl,hR5,hM5⟩;dsimp only;refine hK.out _ _ ⟨hR5,hM5⟩ (fun hHeld=> ?_);clear hK K;refine take_yes (i:=7) (d:=some 31) (v:= ?_) rfl rfl hHeld ?_ ?_;rotate_left;focus intro w hSw;(try dsimp only at hSw);go_simp;try with_reducible rfl
     simp only[aput,aset,aze,asu];refine wpAnyH_done (by kernel_rfl) ?_ _;have HC:=hide (HFt.out _ hHeld.1 hHeld.2);have y0:=hHeld.1.z0;have y1:=hHeld.1.z1;have y2:=hHeld.1.z2;have yl:=hHeld.1.lt;clear z0 z3 zl hR1 hM1 hR2 hM2 hN3 hR3 hM3 hS4 hN4 hR4 hM4 hR5 hM5 hHeld HA HBd HGB HVr HAl HR0 HMA HFt;cases f1
     ·have F2:Hid (wrongRule m r=(8,m1)):=F1.out
      go_wp2_with (go_at_call 255;refine HC.out.mono ?_;rintro e w6 ⟨rfl,hR6,hM6⟩;replace hR6:=hide hR6;replace hM6:=hide hM6)
      go_ret;exact⟨by rw[F2.out];rfl,by rw[F2.out];exact(unhide hM6).mono (by omega),(unhide hR6).tn⟩
     ·have F2:Hid (wrongRule m r=(if(fitAll m1 r.body).1 then 0 else 8,(fitAll m1 r.body).2)):=F1.out;clear F1
      go_wp2_with (go_at_call 255;refine HC.out.mono ?_;rintro e w6 ⟨rfl,hR6,hM6⟩;have x3:=hR6.z3;have xl:=hR6.lt;have HT6:=hide hR6.tn;clear hR6;replace hM6:=hide hM6)
      go_loopg [40] r.body.length (fun k i wr=>∃j:Nat,j+k=r.body.length∧i=.int .i64 j∧∃mj,Hid (fitAll m1 r.body=fitAll mj (r.body.drop j))∧Hid (NumsM wr b (n+1+j) mj)∧Hid (Tn b w wr))
      case atStart=>exact⟨0,by omega,rfl,m1,(rfl:_=_),hM6,HT6⟩
      case round=>
       obtain⟨j,hj,rfl,mj,HE,HMj,HTj⟩:=hrel;have hwr:=HTj.out.size
       by_cases hlt:j<r.body.length
       ·obtain⟨x,hx⟩:∃x,r.body[j]?=some x:=⟨_,List.getElem?_eq_getElem hlt⟩;obtain⟨b1,o1,_,rfl,hb1,hbne,⟨sv,rfl,hsv⟩,hc⟩:=Kind.sl_atB (HU1.out wr HTj.out) hx;have d0:wr.cell? ⟨b1,o1+j*3,none⟩=some (.bool x.no):=hc 0 _ rfl;have d1:wr.cell? ⟨b1,o1+j*3+1,none⟩=some (.string (bs x.name)):=hc 1 _ rfl;have d2:wr.cell? ⟨b1,o1+j*3+2,none⟩=some sv:=hc 2 _ rfl;have hst:=fitAll_step hx mj;have HCj:Hid (Calls Tryz.prog 255 #[.map (some b),.agg #[.bool x.no,.string (bs x.name),sv]] (wr.alloc (.cells #[.bool x.no,.string (bs x.name),sv] 85)) fun e w2=>e=.returned (.bool (fitOne mj x).1)∧Hid (NumsM w2 b (n+1+(j+1)) (fitOne mj x).2)∧Hid (Tn b w w2)):=
         (fitC b (n+1+j) mj x sv _ (HMj.out.later ((Later.refl _).alloc _)) (Kind.sl_any (Kind.sl_below (Kind.sl_any hsv) ((Later.refl _).alloc _).below)) (HN.out x (List.mem_of_getElem? hx)) (by simp[maxLen];omega)).mono fun e w2 ⟨he,h1,h2⟩=>⟨he,h1,(HTj.out.alloc _).trans h2⟩
        obtain⟨a2,c2,rfl⟩:=Kind.slice hsv;clear hc hx hsv HMj HTj;generalize bs x.name=nx at*;generalize x.no=xn at*;generalize fitOne mj x=fx at*;obtain⟨g1,m2⟩:=fx;dsimp only at*;cases g1
        ·have E2:Hid (fitAll m1 r.body=(false,m2)):=by show _=_;rw[HE.out,hst];rfl
         clear hst HE
         go_wp2_with (go_at_call 255;refine HCj.out.mono ?_;rintro e w7 ⟨rfl,hM7,hT7⟩)
         go_ret;exact⟨by rw[F2.out,E2.out];rfl,by rw[F2.out,E2.out];exact hM7.out.mono (by omega),hT7.out⟩
        ·have E2:Hid (fitAll m1 r.body=fitAll m2 (r.body.drop (j+1))):=by show _=_;rw[HE.out,hst];rfl
         clear hst HE
         go_wp2_with (go_at_call 255;refine HCj.out.mono ?_;rintro e w7 ⟨rfl,hM7,hT7⟩)
         go_roundg (r.body.length- (j+1))
         case measure=>omega
         case rel=>exact⟨j+1,by omega,by go_num,m2,E2,hM7,hT7⟩
       ·have E2:Hid (fitAll m1 r.body=(true,mj)):=by show _=_;rw[HE.out,List.drop_eq_nil_of_le (by omega)];rfl
        go_wp2;go_ret;exact⟨by rw[F2.out,E2.out];rfl,by rw[F2.out,E2.out];exact HMj.out.mono (by omega),HTj.out⟩
   ·have F:Hid (wrongRule m r=(wrongBody r.body,m)):=by show _=_;unfold wrongRule;rw[if_pos h1,hno,if_neg (by simp),if_neg h2]
    have hq:(wrongBody r.body != 0)=true:=by simpa using h2
    rw[hno] at HA HBd HR0 HMA;rw[h1] at HA;clear h1 h2 hno h HM0 HV HU;generalize bs r.head.name=nm at*;generalize wrongBody r.body=ex at*
    go_enter Tryz.func191,Tryz.ntmps191
    go_wp2_with (first
     |(go_at_call 251;refine(HA.out _ HR0.out HMA.out).mono ?_;rintro e w1 ⟨rfl,hR1,hM1⟩;have z0:=hR1.z0;have z3:=hR1.z3;have zl:=hR1.lt;replace hR1:=hide hR1;replace hM1:=hide hM1)
     |(go_at_call 216;refine(HBd.out w1 (unhide hR1) (unhide hM1)).mono ?_;rintro e w2 ⟨rfl,hR2,hM2⟩;replace hR2:=hide hR2;replace hM2:=hide hM2))
    go_ret;exact⟨by rw[F.out];rfl,by rw[F.out];exact(unhide hM2).mono (by omega),(unhide hR2).tn⟩
  ·have F:Hid (wrongRule m r=(2,m)):=by show _=_;unfold wrongRule;rw[if_pos h1,hno,if_pos rfl]
   rw[hno] at HA HR0 HMA;rw[h1] at HA;clear h1 hno h HM0 HV HU HBd;generalize bs r.head.name=nm at*
   go_enter Tryz.func191,Tryz.ntmps191
   go_wp2_with (go_at_call 251;refine(HA.out _ HR0.out HMA.out).mono ?_;rintro e w1 ⟨rfl,hR1,hM1⟩;have z0:=hR1.z0;have zl:=hR1.lt;replace hR1:=hide hR1;replace hM1:=hide hM1)
   go_ret;exact⟨by rw[F.out];rfl,by rw[F.out];exact(unhide hM1).mono (by omega),(unhide hR1).tn⟩
 ·have F:Hid (wrongRule m r=(wrongAtom r.head,m)):=by show _=_;unfold wrongRule;rw[if_neg h1]
  have hq:(wrongAtom r.head != 0)=true:=by simpa using h1
  clear h1 h HM0 HV HU HBd;generalize wrongAtom r.head=ex at*;generalize bs r.head.name=nm at*;generalize r.head.no=no at*
  go_enter Tryz.func191,Tryz.ntmps191
  go_wp2_with (go_at_call 251;refine(HA.out _ HR0.out HMA.out).mono ?_;rintro e w1 ⟨rfl,hR1,hM1⟩;replace hR1:=hide hR1;replace hM1:=hide hM1)
  go_ret;exact⟨by rw[F.out];rfl,by rw[F.out];exact(unhide hM1).mono (by omega),(unhide hR1).tn⟩
end Go.Proofs.YtafmbokfkbccaaaGreatDoor
namespace Go.Proofs.YtafmbokfkbccaaaGreatDoor
open Go.RowKit Go.Sort Go.Maps
theorem Kind.sl_neBelow {α:Type} {K:Kind α} {b:Nat} {w w':World} {v:Value} {l:List α} (h:K.sl Anyw w v l) (k:Below w.heap.size w w') (hb:w.heap.size≤b):K.sl (fun k=>k≠b) w' v l:=
 Kind.sl_kept (Kind.sl_ne h hb) k.size fun i hi _=>k.block i hi
theorem wrongGo_step {p:List RuleD} {j:Nat} {r:RuleD} (h:p[j]?=some r) (m:Nums) (i:Nat):wrongGo m i (p.drop j)=if(wrongRule m r).1=0 then wrongGo (wrongRule m r).2 (i+1) (p.drop (j+1)) else((wrongRule m r).1,i):=by
 obtain⟨h1,e1⟩:=List.getElem?_eq_some_iff.1 h;rw[List.drop_eq_getElem_cons h1,e1];rfl
theorem setCell_row {w:World} {g j:Nat} {cs:Array Value} {t:TypeId} {fr:Nat×Nat} (h:w.heap[g]?=some (.cells cs t fr)) (u:Value):(w.setCell ⟨g,j,none⟩ u).heap[g]?=some (.cells (cs.setIfInBounds j u) t fr):=by
 simp[World.setCell,Array.getElem?_modify,h]
theorem frozen_rowC {w:World} {g:Nat} (j:Nat) {cs:Array Value} {t:TypeId} (h:w.heap[g]?=some (.cells cs t (0,0))):w.frozen? ⟨g,j,none⟩=false:=by
 simp[World.frozen?,h]
theorem fault_two {w:World} {R:Nat} {u0 u1:Value} {t:TypeId} {fr:Nat×Nat} (h:w.heap[R]?=some (.cells #[u0,u1] t fr)) (x y:Value):
  ((w.setCell ⟨R,0,none⟩ x).setCell ⟨R,1,none⟩ y).cell? ⟨R,0,none⟩=some x∧((w.setCell ⟨R,0,none⟩ x).setCell ⟨R,1,none⟩ y).cell? ⟨R,1,none⟩=some y:=by
 have h2:=setCell_row (j:=1) (setCell_row (j:=0) h x) y;exact⟨by rw[cell_of_row _ _ _ _ _ _ h2];rfl,by rw[cell_of_row _ _ _ _ _ _ h2];rfl⟩
theorem ret_fault2 {a b c d:Int} (h1:a=c) (h2:b=d):Ending.returned (.agg #[.int .i64 a,.int .i64 b])=Ending.returned (.agg #[.int .i64 c,.int .i64 d]):=by rw[h1,h2]
set_option maxRecDepth 100000 in
set_option maxHeartbeats 4000000 in
theorem wrongC (p:List RuleD) (v:Value) (w:World) (hv:ruleK.sl Anyw w v p):
  Calls Tryz.prog 117 #[v] w fun e w'=>e=.returned (.agg #[.int .i64 (wrongP p).1,.int .i64 ((wrongP p).2:Nat)])∧Below w.heap.size w w':=by
 obtain⟨sa,cap,rfl⟩:=Kind.slice hv;have hl0:=hv.1.1;have HV:=hide hv;clear hv
 by_cases h16:16<p.length
 ·have F:Hid (wrongP p=(5,0)):=by show _=_;unfold wrongP;rw[if_pos h16]
  go_enter Tryz.func117,Tryz.ntmps117
  go_wp2;exact bodyPost_ret (v:=.agg #[.int .i64 5,.int .i64 0]) (by simp[results,Tryz.results117,go_sem]) rfl ⟨by rw[F.out];rfl,((by repeat (first|exact Later.refl _|assumption|refine Later.drewN ?_ _|refine Later.drew ?_|refine Later.alloc ?_ _|refine Later.grow ?_ _)):Later w _).below⟩
 ·have F:Hid (wrongP p=wrongGo (fun _=>none) 0 p):=by show _=_;unfold wrongP;rw[if_neg h16]
  have hmm:= @run_makeMap Tryz.prog
  go_enter Tryz.func117,Tryz.ntmps117
  go_wp2
  go_loopg [14] p.length (fun k i wr=>∃j:Nat,j+k=p.length∧i=.int .i64 j∧∃m,Hid (wrongP p=wrongGo m j (p.drop j))∧Hid (NumsM wr (w.heap.size+1) (6*j) m)∧Hid (Below w.heap.size w wr)∧Hid (wr.heap[w.heap.size]?=some (.cells #[.int .i64 0,.int .i64 0] 75 (0,0)))∧w.heap.size+2≤wr.heap.size)
  case atStart=>
   refine⟨0,by omega,rfl,fun _=>none,F.out,?_,?_,?_,by simp⟩
   ·have:=NumM.made Tryz.prog 9 3 (w.alloc (.cells #[.int .i64 0,.int .i64 0] 75));rw[World.size_alloc] at this;exact this
   ·exact(((Later.refl w).alloc _).alloc _).below
   ·show _=_;rw[Below.heap_alloc _ _ _ (by simp),heap_alloc_new]
  case round=>
   obtain⟨j,hj,rfl,m,HE,HM,HB,HR,hsz⟩:=hrel
   by_cases hlt:j<p.length
   ·obtain⟨r,hr⟩:∃x,p[j]?=some x:=⟨_,List.getElem?_eq_getElem hlt⟩;obtain⟨b1,o1,_,rfl,hb1,⟨sv,su,rfl,hsv,hsu⟩,hc⟩:=Kind.sl_at HV.out hr;have d0:wr.cell? ⟨b1,o1+j*4,none⟩=some (.bool r.head.no):=by rw[HB.out.cell hb1];exact hc 0 _ rfl
    have d1:wr.cell? ⟨b1,o1+j*4+1,none⟩=some (.string (bs r.head.name)):=by rw[HB.out.cell hb1];exact hc 1 _ rfl
    have d2:wr.cell? ⟨b1,o1+j*4+2,none⟩=some sv:=by rw[HB.out.cell hb1];exact hc 2 _ rfl
    have d3:wr.cell? ⟨b1,o1+j*4+3,none⟩=some su:=by rw[HB.out.cell hb1];exact hc 3 _ rfl
    have hbr:b1<wr.heap.size:=by omega
    have hst:=wrongGo_step hr m j;have hB1:Below w.heap.size w (wr.alloc (.cells #[.bool r.head.no,.string (bs r.head.name),sv,su] 87)):=HB.out.alloc HB.out.size _;have HC:Hid (Calls Tryz.prog 191 #[.agg #[.bool r.head.no,.string (bs r.head.name),sv,su],.map (some (w.heap.size+1))] (wr.alloc (.cells #[.bool r.head.no,.string (bs r.head.name),sv,su] 87)) fun e w2=>e=.returned (.int .i64 (wrongRule m r).1)∧
      Hid (NumsM w2 (w.heap.size+1) (6*(j+1)) (wrongRule m r).2)∧Hid (Below w.heap.size w w2)∧w2.heap[w.heap.size]?=some (.cells #[.int .i64 0,.int .i64 0] 75 (0,0))∧w.heap.size+2≤w2.heap.size):=
     (wrongRuleC (w.heap.size+1) (6*j) m r sv su _ (HM.out.later ((Later.refl _).alloc _)) (Kind.sl_neBelow hsv hB1 (by omega)) (Kind.sl_neBelow hsu hB1 (by omega)) (by omega)).mono fun e w2 ⟨he,h1,h2⟩=>
      ⟨he,h1,below_trans hB1 (h2.below (n:=w.heap.size) (by omega) (by simp;omega)) (Nat.le_refl _),by rw[h2.block w.heap.size (by simp;omega) (by omega),Below.heap_alloc _ _ _ (by omega)];exact HR.out,by have:=h2.size;simp at this;omega⟩
    obtain⟨a2,c2,rfl⟩:=Kind.slice hsv;obtain⟨a3,c3,rfl⟩:=Kind.slice hsu;clear hc hr hsv hsu hB1 HM HB HR;generalize wrongRule m r=wrr at*;obtain⟨ex,m2⟩:=wrr;dsimp only at*;generalize bs r.head.name=nm at*;generalize r.head.no=no at*
    by_cases h0:ex=0
    ·subst h0;have E2:Hid (wrongP p=wrongGo m2 (j+1) (p.drop (j+1))):=by show _=_;rw[HE.out,hst];rfl
     clear hst HE
     go_wp2_with (go_at_call 191;refine HC.out.mono ?_;rintro e w2 ⟨rfl,hM2,hB2,hR2,hs2⟩;replace hR2:=hide hR2)
     go_roundg (p.length- (j+1))
     case measure=>omega
     case rel=>exact⟨j+1,by omega,by go_num,m2,E2,hM2,hB2,hR2,hs2⟩
    ·have E2:Hid (wrongP p=(ex,j)):=by show _=_;rw[HE.out,hst,if_neg h0]
     have hq:(ex != 0)=true:=by simpa using h0
     clear hst HE h0
     go_wp2_with (go_at_call 191;refine HC.out.mono ?_;rintro e w2 ⟨rfl,hM2,hB2,hR2,hs2⟩;have q0:w2.cell? ⟨w.heap.size,0,none⟩=some (.int .i64 0):=(by rw[cell_of_row _ _ _ _ _ _ hR2];rfl);have q1:w2.cell? ⟨w.heap.size,1,none⟩=some (.int .i64 0):=(by rw[cell_of_row _ _ _ _ _ _ hR2];rfl);have p0:w2.frozen? ⟨w.heap.size,0,none⟩=false:=frozen_rowC 0 hR2;have p1:w2.frozen? ⟨w.heap.size,1,none⟩=false:=frozen_rowC 1 hR2;replace hR2:=hide hR2)
     obtain⟨r0,r1⟩:=fault_two (unhide hR2) (.int .i64 ex) (.int .i64 j);refine bodyPost_ret (v:=.agg #[.int .i64 ex,.int .i64 j]) (by simp[results,Tryz.results117,go_sem,r0,r1]) rfl ⟨ret_fault2 (by rw[E2.out]) (by rw[E2.out]),?_⟩;exact(hB2.out.setCell (Nat.le_refl _) _).setCell (Nat.le_refl _) _
   ·have E2:Hid (wrongP p=(0,0)):=by show _=_;rw[HE.out,List.drop_eq_nil_of_le (by omega)];rfl
    have hR2:=HR.out;have q0:wr.cell? ⟨w.heap.size,0,none⟩=some (.int .i64 0):=by rw[cell_of_row _ _ _ _ _ _ hR2];rfl
    have q1:wr.cell? ⟨w.heap.size,1,none⟩=some (.int .i64 0):=by rw[cell_of_row _ _ _ _ _ _ hR2];rfl
    have p0:wr.frozen? ⟨w.heap.size,0,none⟩=false:=frozen_rowC 0 hR2;have p1:wr.frozen? ⟨w.heap.size,1,none⟩=false:=frozen_rowC 1 hR2;clear hR2;go_wp2;obtain⟨r0,r1⟩:=fault_two HR.out (.int .i64 0) (.int .i64 0);refine bodyPost_ret (v:=.agg #[.int .i64 0,.int .i64 0]) (by simp[results,Tryz.results117,go_sem,r0,r1]) rfl ⟨ret_fault2 (by rw[E2.out]) (by rw[E2.out];rfl),?_⟩;exact(HB.out.setCell (Nat.le_refl _) _).setCell (Nat.le_refl _) _
end Go.Proofs.YtafmbokfkbccaaaGreatDoor
