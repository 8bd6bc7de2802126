import Derived.Test.YtaallngooaaonaaGreatDoorJT32
import Derived.Test.YtaallngooaaonaaGreatDoorJT18
import Derived.Test.YtaallngooaaonaaGreatDoorJT19
import Derived.Test.YtaallngooaaonaaGreatDoorJT20
import Derived.Test.YtaallngooaaonaaGreatDoorJT3
import Derived.Test.YtaallngooaaonaaGreatDoorJT14
open Go.RowKit Go.Sort Go.Maps
set_option maxHeartbeats 1000000
set_option maxRecDepth 100000
namespace Go.Proofs.YtaallngooaaonaaGreatDoor
theorem Jh {L:List aA} {r:List aA} {f:aA} (h:jC r (iA L++[f])):r=iA (L++[f]):=
 tC h.1 fun g=>by rw[h.2.1,List.mem_append,List.mem_append,iB]
theorem UD (r:aG) (tv bv ev:Value) (L:List (List aD)) (n:Nat) (w:World) (ht:eD.sl bf w tv r.head.terms) (hb:∃a n c,bv=.slice a n c) (hE:(pX n).sl bf w ev L) (hts:∀t∈r.head.terms,t.2.length≤maxLen) (hL:L.length≤20000):
  Calls Tryz.prog 102 #[.agg #[.bool r.head.no,.string (bs r.head.name),tv,bv],ev] w fun e w'=>∃v',e=.returned v'∧jw w' v' (iA (L.filterMap fun l=>bg r.head l))∧ak w w':=by
 obtain⟨ta,tc,rfl⟩:=aB.slice ht;obtain⟨ba,bn,bc,rfl⟩:=hb;obtain⟨ea,ec,rfl⟩:=aB.slice hE;obtain⟨wb,hwb⟩:∃wb,wb=w.alloc (.cells #[.bool r.head.no,.string (bs r.head.name),.slice ta r.head.terms.length tc,.slice ba bn bc] 82):=⟨_,rfl⟩;have hLb:ak w wb:=by rw[hwb];exact(ak.refl w).alloc _
 have hrb:wb.heap[w.heap.size]?=some (.cells #[.bool r.head.no,.string (bs r.head.name),.slice ta r.head.terms.length tc,.slice ba bn bc] 82 (0,0)):=by rw[hwb];exact heap_alloc_new w _
 have Oy:w.heap.size<wb.heap.size:=(Array.getElem?_eq_some_iff.1 hrb).1;have HT:=au (aB.aK ht hLb);have HE:=au (aB.aK hE hLb);have HTS:=au hts;have HLb:=au hLb;have HRb:=au hrb;have HWb:=au hwb;clear ht hE hts hLb hrb hwb;have hex:∃nm no,nm=bs r.head.name∧no=r.head.no:=⟨_,_,rfl,rfl⟩;obtain⟨nm,no,hnm,hno⟩:=hex;have HNM:=au hnm;have HNO:=au hno;rw[←hnm] at HRb HWb⊢;rw[←hno] at HRb HWb⊢;clear hnm hno
 go_enter Tryz.func102,Tryz.ntmps102
 go_wp2;rw[←HWb.out]
 go_loopg [5,12] L.length (fun g o i wr=>∃j:Nat,j+g=L.length∧i=.int .i64 j∧Hid (jw wr o (iA ((L.take j).filterMap fun l=>bg r.head l)))∧Hid (ak wb wr))
 case atStart=>exact⟨0,by omega,rfl,(by show jw _ _ _;rw[List.take_zero,List.filterMap_nil,show iA []=[] from(tC (s:=[]) List.Pairwise.nil fun f=>Iff.rfl).symm];exact xR _),ak.refl _⟩
 obtain⟨j,hj,rfl,HO,HL⟩:=hrel;obtain⟨oa,oc,hov⟩:=aF HO.out.1;obtain⟨on,hon⟩:∃n,n=(iA ((L.take j).filterMap fun l=>bg r.head l)).length:=⟨_,rfl⟩;rw[←hon] at hov;clear hon;subst hov
 by_cases hlt:j<L.length
 ·obtain⟨l,hl⟩:∃x,L[j]?=some x:=⟨_,List.getElem?_eq_getElem hlt⟩;obtain⟨b1,o1,_,e1,hb1,⟨bl,rfl,_,hel⟩,hc⟩:=aB.bO HE.out hl;subst e1;have d0:wr.cell? ⟨b1,o1+j,none⟩=some (.map (some bl)):=by rw[HL.out.cell (p:=⟨b1,o1+j,none⟩) hb1];simpa[pX] using hc 0 _ rfl
  have hrr:=(HL.out.block Oy).trans HRb.out;have r0:wr.cell? ⟨w.heap.size,0,none⟩=some (.bool no):=by rw[cell_of_row _ _ _ _ _ _ hrr];rfl
  have r1:wr.cell? ⟨w.heap.size,0+1,none⟩=some (.string nm):=by rw[cell_of_row _ _ _ _ _ _ hrr];rfl
  have r2:wr.cell? ⟨w.heap.size,0+2,none⟩=some (.slice ta r.head.terms.length tc):=by rw[cell_of_row _ _ _ _ _ _ hrr];rfl
  have hRF:=Je r.head (.slice ta r.head.terms.length tc) l bl n wr (aB.aK HT.out HL.out) (hel.later HL.out) HTS.out;unfold filled at hRF;rw[←HNM.out,←HNO.out] at hRF;have HRF:=au hRF;have HTk:=au (nM (g:=fun l=>bg r.head l) hl);have hlen:(iA ((L.take j).filterMap fun l=>bg r.head l)).length≤20000:=by have h1:=yG ((L.take j).filterMap fun l=>bg r.head l);have h2:=List.length_filterMap_le (fun l=>bg r.head l) (L.take j);rw[List.length_take] at h2;omega
  clear hc hl hel hrr hRF;cases hfl:bg r.head l with
  |none=>
   rw[hfl] at HRF;have HO':Hid (jw wr (.slice oa on oc) (iA ((L.take (j+1)).filterMap fun l=>bg r.head l))):=by show jw _ _ _;rw[HTk.out,hfl];simpa using HO.out
   clear hfl HTk HO
   go_wp2_with fail
   refine HRF.out.mono ?_;rintro e w3 ⟨f3,rfl,hfv,hL3⟩;obtain⟨s,rfl,hs⟩:=hfv;obtain⟨sA',sC',rfl⟩:=bA hs;simp only[Option.isSome_none];have HL3:Hid (ak wr w3):=hL3;clear hs hL3 HRF d0 r0 r1 r2;go_wp2
   go_roundg (L.length- (j+1))
   case measure=>omega
   case rel=>exact⟨j+1,by omega,by go_num,HO'.out.later (HL3.out.alloc _),HL.out.trans (HL3.out.alloc _)⟩
  |some f=>
   rw[hfl] at HRF;have HK:Hid (∀q,jC q (iA ((L.take j).filterMap fun l=>bg r.head l)++[f])→q=iA ((L.take (j+1)).filterMap fun l=>bg r.head l)):=fun q hq=>by rw[HTk.out,hfl];exact Jh hq
   clear hfl HTk
   go_wp2_with fail
   refine HRF.out.mono ?_;rintro e w3 ⟨f3,rfl,hfv,hL3⟩;simp only[Option.isSome_some,Option.getD_some] at hfv⊢;have QV:=hfv;obtain⟨s,rfl,hs⟩:=hfv;obtain⟨sA',sC',rfl⟩:=bA hs;obtain⟨w4,hw4⟩:∃w4,w4=w3.alloc (.cells #[.string f.1,.slice sA' f.2.length sC'] 27):=⟨_,rfl⟩;have hL4:ak w3 w4:=by rw[hw4];exact(ak.refl _).alloc _
   have HAd:=au (UA (.slice oa on oc) (.agg #[.string f.1,.slice sA' f.2.length sC']) _ f w4 (HO.out.later (hL3.trans hL4)) (QV.later hL4) (nS _) (by omega));have HL4:=au (HL.out.trans (hL3.trans hL4));have HW4:=au hw4;clear hs hL3 hL4 hw4 QV HRF HO d0 r0 r1 r2
   go_wp2_with fail
   rw[←HW4.out];refine HAd.out.mono ?_;rintro e w5 ⟨v5,q5,rfl,hF5,hS5,hL5⟩;have e5:=HK.out q5 hS5;subst e5;have HF5:=au hF5;obtain⟨a5,n5,c5,rfl⟩:∃a n c,v5=.slice a n c:=by obtain⟨a,c,e⟩:=aF hF5.1;exact⟨a,_,c,e⟩
   have HL5:=au (HL4.out.trans hL5);clear hF5 hS5 hL5 HAd HW4 HK HL4;go_wp2
   go_roundg (L.length- (j+1))
   case measure=>omega
   case rel=>exact⟨j+1,by omega,by go_num,HF5,HL5⟩
 have e:L.take j=L:=List.take_of_length_le (by omega);rw[e] at HO;clear e;go_wp2;go_ret;exact⟨_,rfl,HO.out,HLb.out.trans HL.out⟩
theorem LA {r:aG} {fs:List aA} {ms:List (List aD)} (hm:dF (fun _=>fs) 0 r.body [[]]=some ms):
  gq r fs=some (iA ((ms.filter fun l=> !barredB (fun _=>fs) 0 r.body l).filterMap fun l=>bg r.head l)):=by
 have hk:∀l∈ms,(bJ l).Nodup:=fun l hl=>by rw[((nQ (fun _=>fs) r.body 0 [[]] ms [] (fun x hx=>by simp at hx;subst hx;rfl) hm l).1 hl).2.1];exact iJ r.body
 unfold gq lF;rw[hm];dsimp only
 congr 1
 refine wQ fun f=>?_;rw[List.mem_filterMap,List.mem_filterMap]
 constructor
 ·rintro⟨l,hl,hf⟩;rw[(bM _).mem_iff,List.mem_map] at hl;obtain⟨m,hm',rfl⟩:=hl;exact⟨m,hm',by rw[qz (bM m).symm (hk m (List.mem_filter.1 hm').1)];exact hf⟩
 rintro⟨m,hm',hf⟩;refine⟨gX m,(bM _).mem_iff.2 (List.mem_map.2 ⟨m,hm',rfl⟩),?_⟩;rw[←qz (bM m).symm (hk m (List.mem_filter.1 hm').1)];exact hf
def QZ (w:World) (v:Value) (er:Int):Option (List aA)→Prop
 |none=>v=.slice none 0 0∧er=4
 |some x=>er=0∧Facts w v x
theorem Q0 (r:aG) (tv bv fv:Value) (fs:List aA) (w:World) (ht:eD.sl bf w tv r.head.terms) (hb:bN.sl bf w bv r.body) (hf:Facts w fv fs) (hw:aL r.body=0) (hfs:(aT fs).1=0) (hts:∀t∈r.head.terms,t.2.length≤maxLen):
  Calls Tryz.prog 73 #[.agg #[.bool r.head.no,.string (bs r.head.name),tv,bv],fv] w fun e w'=>∃v' er,e=.returned (.tuple #[v',.int .i64 er])∧QZ w' v' er (gq r fs)∧Below w.heap.size w w':=by
 obtain⟨ta,tc,rfl⟩:=aB.slice ht;obtain⟨ba,bc,rfl⟩:=aB.slice hb;obtain⟨fa,fc,rfl⟩:=aF hf;obtain⟨wb,hwb⟩:∃wb,wb=w.alloc (.cells #[.bool r.head.no,.string (bs r.head.name),.slice ta r.head.terms.length tc,.slice ba r.body.length bc] 82):=⟨_,rfl⟩;have hLb:ak w wb:=by rw[hwb];exact(ak.refl w).alloc _
 have hrb:wb.heap[w.heap.size]?=some (.cells #[.bool r.head.no,.string (bs r.head.name),.slice ta r.head.terms.length tc,.slice ba r.body.length bc] 82 (0,0)):=by rw[hwb];exact heap_alloc_new w _
 have Oy:w.heap.size<wb.heap.size:=(Array.getElem?_eq_some_iff.1 hrb).1;have hEn:=QT r.body fs [] (-1) (.slice ba r.body.length bc) (.slice fa fs.length fc) (.slice none 0 0) wb (aB.aK hb hLb) (hf.later hLb) (ug wb) hw hfs rfl;rw[pQ] at hEn;have HEn:=au hEn;have HT:=au (aB.aK ht hLb);have HH:=au (fun ms=>LA (r:=r) (fs:=fs) (ms:=ms));have HTS:=au hts;have HLb:=au hLb;have HRb:=au hrb;have HWb:=au hwb;have c3:wb.cell? ⟨w.heap.size,3,none⟩=some (.slice ba r.body.length bc):=by rw[cell_of_row _ _ _ _ _ _ hrb];rfl
 rw[hwb] at c3;have hnone:dF (fun _=>fs) 0 r.body [[]]=none→gq r fs=none:=fun h=>by unfold gq lF;rw[h]
 have UE:=au hnone;have hms:∀ms,dF (fun _=>fs) 0 r.body [[]]=some ms→ms.length≤20000:=fun ms h=>jE (fun _=>fs) r.body 0 [[]] ms (by simp) h;have HMs:=au hms;clear ht hb hf hw hfs hts hLb hrb hwb hEn hnone hms
 go_enter Tryz.func73,Tryz.ntmps73
 go_wp2_with fail
 rw[←HWb.out];refine HEn.out.mono ?_;rintro e w1 ⟨v1,er,rfl,hT,hB1⟩;have HB1:=au hB1;have HBw:=au (aj HLb.out.below hB1 HLb.out.size);have hr1:=(hB1.block _ Oy).trans HRb.out;clear hB1 HEn HWb c3;cases hm:dF (fun _=>fs) 0 r.body [[]] with
 |none=>
  rw[hm] at hT;obtain⟨rfl,rfl⟩:=hT;have HN:=au (UE.out hm);clear hm;go_wp2;exact bodyPost_ret (v:=.tuple #[.slice none 0 0,.int .i64 4]) (by simp[results,Tryz.results73,go_sem]) rfl ⟨_,4,rfl,by rw[HN.out];exact⟨rfl,rfl⟩,HBw.out⟩
 |some ms=>
  rw[hm] at hT;obtain⟨rfl,hsl⟩:=hT;have HS:=au (HH.out ms hm);have hml:=HMs.out ms hm;have hfl:(ms.filter fun l=> !barredB (fun _=>fs) 0 r.body l).length≤20000:=Nat.le_trans (List.length_filter_le _ _) hml;have d0:w1.cell? ⟨w.heap.size,0,none⟩=some (.bool r.head.no):=by rw[cell_of_row _ _ _ _ _ _ hr1];rfl
  have d1:w1.cell? ⟨w.heap.size,0+1,none⟩=some (.string (bs r.head.name)):=by rw[cell_of_row _ _ _ _ _ _ hr1];rfl
  have d2:w1.cell? ⟨w.heap.size,0+2,none⟩=some (.slice ta r.head.terms.length tc):=by rw[cell_of_row _ _ _ _ _ _ hr1];rfl
  have d3:w1.cell? ⟨w.heap.size,0+3,none⟩=some (.slice ba r.body.length bc):=by rw[cell_of_row _ _ _ _ _ _ hr1];rfl
  have HMd:=au (UD r (.slice ta r.head.terms.length tc) (.slice ba r.body.length bc) v1 _ 20 w1 (aB.aJ HT.out HB1.out) ⟨_,_,_,rfl⟩ hsl HTS.out hfl);obtain⟨a1,n1,c1,rfl⟩:∃a n c,v1=.slice a n c:=by obtain⟨a,c,e⟩:=aB.slice hsl;exact⟨a,_,c,e⟩
  clear hm hsl hml hfl hr1;generalize bs r.head.name=nm at*;generalize r.head.no=no at*
  go_wp2_with fail
  refine HMd.out.mono ?_;rintro e w2 ⟨v2,rfl,hF2,hL2⟩;have HF2:=au hF2.1;have HB2:=au (aj HBw.out hL2.below HBw.out.size);obtain⟨a2,n2,c2,rfl⟩:∃a n c,v2=.slice a n c:=by obtain⟨a,c,e⟩:=aF HF2.out;exact⟨a,_,c,e⟩
  clear hF2 hL2 HMd d0 d1 d2 d3;go_wp2;exact bodyPost_ret (v:=.tuple #[.slice a2 n2 c2,.int .i64 0]) (by simp[results,Tryz.results73,go_sem]) rfl ⟨_,0,rfl,by rw[HS.out];exact⟨rfl,HF2.out⟩,HB2.out⟩
theorem CB {p:List aG} (hp:dP p):∀r∈p,aL r.body=0∧∀t∈r.head.terms,t.2.length≤maxLen:=fun r hr=>
 ⟨(hp.rules r hr).body,fun t ht=>by have:=jc ((gQ (hp.rules r hr).head).2.2 t ht);unfold maxLen;omega⟩
theorem FJ {p:List aG} {L:List aA} (h:GoodS p L):(aT L).1=0:=by rw[nW h.up h.right h.few]
theorem Ji {a x r:List aA} (h:jC r (iA a++x)):r=iA (a++x):=
 tC h.1 fun g=>by rw[h.2.1,List.mem_append,List.mem_append,iB]
theorem UF (p:List aG) (ss:List Nat) (n:Int) (fs:List aA) (pv sv fv:Value) (w:World) (hp:eP.sl bf w pv p) (hss:lS.sl bf w sv ss) (hf:Facts w fv fs) (hR:dP p) (hG:GoodS p fs):
  Calls Tryz.prog 46 #[pv,sv,.int .i64 n,fv] w fun e w'=>∃v' er,e=.returned (.tuple #[v',.int .i64 er])∧lT w' v' er (bW p ss n fs)∧Below w.heap.size w w':=by
 obtain⟨pa,pc,rfl⟩:=aB.slice hp;obtain⟨sa,sc,rfl⟩:=aB.slice hss;obtain⟨fa,fc,rfl⟩:=aF hf;have hsl:=hss.1.1;have h16:=hR.few;have HP:=au hp;have HSS:=au hss;have HF:=au hf;have HRt:=au (CB hR);have NU:=hG.few;have HFt:=au (FJ hG);have HF0:Hid (Facts w (.slice fa fs.length fc) (iA fs)):=by show Facts _ _ _;rw[mh hG.up];exact hf
 have hs0:(iA fs).length≤200:=by rw[mh hG.up];exact NU
 clear hp hss hf hR hG
 go_enter Tryz.func46,Tryz.ntmps46
 go_wp2
 go_loopg [10,18] p.length (fun g o i wr=>∃j:Nat,j+g=p.length∧i=.int .i64 j∧∃acc,(iA acc).length≤200∧Hid (Facts wr o (iA acc))∧Hid (Below w.heap.size w wr)∧Hid (bW p ss n fs=gP n fs (p.drop j) (ss.drop j) acc))
 case atStart=>exact⟨0,by omega,rfl,fs,hs0,HF0,Below.refl _ _,(rfl:_=_)⟩
 clear HF0 hs0;obtain⟨j,hj,rfl,acc,hac,HO,HBr,HE⟩:=hrel;obtain⟨oa,on,oc,hov⟩:∃a n c,u10=.slice a n c:=by obtain⟨a,c,e⟩:=aF HO.out;exact⟨a,_,c,e⟩
 subst hov
 by_cases hlt:j<p.length
 ·obtain⟨r,hr⟩:∃x,p[j]?=some x:=⟨_,List.getElem?_eq_getElem hlt⟩;have hrm:r∈p:=List.mem_of_getElem? hr;obtain⟨b1,o1,_,rfl,hb1,⟨tv,bv,rfl,htv,hbv⟩,hc⟩:=aB.bO HP.out hr;have d0:wr.cell? ⟨b1,o1+j*4,none⟩=some (.bool r.head.no):=by rw[HBr.out.cell (p:=⟨b1,o1+j*4,none⟩) hb1];exact hc 0 _ rfl
  have d1:wr.cell? ⟨b1,o1+j*4+1,none⟩=some (.string (bs r.head.name)):=by rw[HBr.out.cell (p:=⟨b1,o1+j*4+1,none⟩) hb1];exact hc 1 _ rfl
  have d2:wr.cell? ⟨b1,o1+j*4+2,none⟩=some tv:=by rw[HBr.out.cell (p:=⟨b1,o1+j*4+2,none⟩) hb1];exact hc 2 _ rfl
  have d3:wr.cell? ⟨b1,o1+j*4+3,none⟩=some bv:=by rw[HBr.out.cell (p:=⟨b1,o1+j*4+3,none⟩) hb1];exact hc 3 _ rfl
  have hpd:p.drop j=r::p.drop (j+1):=by obtain⟨h1,e1⟩:=List.getElem?_eq_some_iff.1 hr;rw[List.drop_eq_getElem_cons h1,e1]
  obtain⟨ta,tc,rfl⟩:=aB.slice htv;obtain⟨ba,bc,rfl⟩:=aB.slice hbv;have hwr:=HBr.out.size;have WB:b1<wr.heap.size:=by omega
  by_cases hsj:j<ss.length
  ·obtain⟨s,hs⟩:∃x,ss[j]?=some x:=⟨_,List.getElem?_eq_getElem hsj⟩;obtain⟨b2,o2,_,rfl,hb2,rfl,hc2⟩:=aB.bO HSS.out hs;have e0:wr.cell? ⟨b2,o2+j,none⟩=some (.int .i64 s):=by rw[HBr.out.cell (p:=⟨b2,o2+j,none⟩) hb2];simpa[lS] using hc2 0 _ rfl
   have hsd:ss.drop j=s::ss.drop (j+1):=by obtain⟨h1,e1⟩:=List.getElem?_eq_some_iff.1 hs;rw[List.drop_eq_getElem_cons h1,e1]
   have hstep:bW p ss n fs=if(s:Int)=n then(match gq r fs with
     |none=>(4,[])
     |some x=>if 200<(iA (acc++x)).length then(5,[]) else gP n fs (p.drop (j+1)) (ss.drop (j+1)) (acc++x)) else gP n fs (p.drop (j+1)) (ss.drop (j+1)) acc:=by
    rw[HE.out,hpd,hsd];rfl
   have TH:(j:Int)<(ss.length:Int):=by omega
   have Yu:b2<wr.heap.size:=by omega
   by_cases hsn:(s:Int)=n
   ·rw[if_pos hsn] at hstep;obtain⟨wb,hwb⟩:∃wb,wb=wr.alloc (.cells #[.bool r.head.no,.string (bs r.head.name),.slice ta r.head.terms.length tc,.slice ba r.body.length bc] 82):=⟨_,rfl⟩;have hLb:ak wr wb:=by rw[hwb];exact(ak.refl _).alloc _
    have hBb:Below w.heap.size w wb:=aj HBr.out hLb.below hwr;have HH:=au (Q0 r (.slice ta r.head.terms.length tc) (.slice ba r.body.length bc) (.slice fa fs.length fc) fs wb (aB.aJ htv hBb) (aB.aJ hbv hBb) (HF.out.below hBb) (HRt.out r hrm).1 HFt.out (HRt.out r hrm).2);have HOb:=au (HO.out.later hLb);have HBb:=au hBb;have HWb:=au hwb;clear hc hc2 hr hs htv hbv hpd hsd HE hLb hBb hwb hrm HO;have hneq:((s:Int) != n)=false:=by simp[hsn]
    generalize bs r.head.name=nm at*;generalize hno:r.head.no=no at*;clear hno;subst hsn
    go_wp2_with fail
    rw[←HWb.out];refine HH.out.mono ?_;rintro e w3 ⟨v3,er,rfl,hT3,hB3⟩;have HB3:Hid (Below w.heap.size w w3):=aj HBb.out hB3 HBb.out.size;have HO3:=au (HOb.out.below hB3);clear hB3 HH HWb HOb HBb;cases hh:gq r fs with
    |none=>
     rw[hh] at hT3 hstep;obtain⟨rfl,rfl⟩:=hT3;have HT:Hid (∀w',lT w' (.slice none 0 0) 4 (bW p ss s fs)):=fun w'=>by rw[hstep];exact⟨rfl,fun _=>rfl,fun h=>by simp at h⟩
     clear hstep hh;go_wp2;exact bodyPost_ret (v:=.tuple #[.slice none 0 0,.int .i64 4]) (by simp[results,Tryz.results46,go_sem]) rfl ⟨_,4,rfl,HT.out _,HB3.out⟩
    |some x=>
     rw[hh] at hT3 hstep;obtain⟨rfl,hF3⟩:=hT3;have hxl:x.length≤20000:=by
      unfold gq at hh;cases hR:lF (fun _=>fs) r.body with
      |none=>rw[hR] at hh;cases hh
      |some R=>
       rw[hR] at hh;cases hh;exact Nat.le_trans (yG _) (Nat.le_trans (List.length_filterMap_le _ _) (mV hR))
     have HBo:=au (UC (.slice oa on oc) v3 (iA acc) x w3 HO3.out hF3 (by omega) (by omega));obtain⟨xa,xn,xc,rfl⟩:∃a n c,v3=.slice a n c:=by obtain⟨a,c,e⟩:=aF hF3;exact⟨a,_,c,e⟩
     dsimp only at hstep;have HST:=au hstep;clear hF3 hh hstep HO3
     go_wp2_with fail
     refine HBo.out.mono ?_;rintro e w4 ⟨v4,q4,rfl,hF4,hS4,hL4⟩;have e4:=Ji hS4;subst e4;have HF4:=au hF4.1;have HB4:Hid (Below w.heap.size w w4):=aj HB3.out hL4.below HB3.out.size;obtain⟨a4,n4,c4,hv4,hn4⟩:∃a n c,v4=.slice a n c∧n=(iA (acc++x)).length:=by obtain⟨a,c,e⟩:=aF hF4.1;exact⟨a,_,c,e,rfl⟩
     subst hv4;clear hF4 hS4 hL4 HBo
     by_cases hbig:200<(iA (acc++x)).length
     ·have HT:Hid (∀w',lT w' (.slice none 0 0) 5 (bW p ss s fs)):=fun w'=>by rw[HST.out,if_pos hbig];exact⟨rfl,fun _=>rfl,fun h=>by simp at h⟩
      have hbi:(200:Int)<(n4:Int):=by omega
      clear HST hbig hn4;go_wp2;exact bodyPost_ret (v:=.tuple #[.slice none 0 0,.int .i64 5]) (by simp[results,Tryz.results46,go_sem]) rfl ⟨_,5,rfl,HT.out _,HB4.out⟩
     have HE4:Hid (bW p ss s fs=gP s fs (p.drop (j+1)) (ss.drop (j+1)) (acc++x)):=by show _=_;rw[HST.out,if_neg hbig]
     have hbi:¬(200:Int)<(n4:Int):=by omega
     have hb4:(iA (acc++x)).length≤200:=by omega
     clear HST hbig hn4;go_wp2
     go_roundg (p.length- (j+1))
     case measure=>omega
     case rel=>exact⟨j+1,by omega,by go_num,acc++x,hb4,HF4,HB4,HE4⟩
   rw[if_neg hsn] at hstep;have HE4:Hid (bW p ss n fs=gP n fs (p.drop (j+1)) (ss.drop (j+1)) acc):=hstep;have HB4:Hid (Below w.heap.size w (wr.alloc (.cells #[.bool r.head.no,.string (bs r.head.name),.slice ta r.head.terms.length tc,.slice ba r.body.length bc] 82))):=aj HBr.out ((ak.refl _).alloc _).below hwr;have HK4:Hid (Facts (wr.alloc (.cells #[.bool r.head.no,.string (bs r.head.name),.slice ta r.head.terms.length tc,.slice ba r.body.length bc] 82)) (.slice oa on oc) (iA acc)):=HO.out.later ((ak.refl _).alloc _);have hneq:((s:Int) != n)=true:=by simpa using hsn
   clear hstep hc hc2 hr hs htv hbv hpd hsd HE hsn hrm HO;generalize bs r.head.name=nm at*;generalize r.head.no=no at*;go_wp2
   go_roundg (p.length- (j+1))
   case measure=>omega
   case rel=>exact⟨j+1,by omega,by go_num,acc,hac,HK4,HB4,HE4⟩
  have hsd:ss.drop j=[]:=List.drop_eq_nil_of_le (by omega);have hsd2:ss.drop (j+1)=[]:=List.drop_eq_nil_of_le (by omega);have HE4:Hid (bW p ss n fs=gP n fs (p.drop (j+1)) (ss.drop (j+1)) acc):=by show _=_;rw[HE.out,hsd,hsd2,lq,lq]
  have HB4:Hid (Below w.heap.size w (wr.alloc (.cells #[.bool r.head.no,.string (bs r.head.name),.slice ta r.head.terms.length tc,.slice ba r.body.length bc] 82))):=aj HBr.out ((ak.refl _).alloc _).below hwr;have HK4:Hid (Facts (wr.alloc (.cells #[.bool r.head.no,.string (bs r.head.name),.slice ta r.head.terms.length tc,.slice ba r.body.length bc] 82)) (.slice oa on oc) (iA acc)):=HO.out.later ((ak.refl _).alloc _);have TH:(ss.length:Int)≤(j:Int):=by omega
  clear hc hr htv hbv hpd hsd hsd2 HE hrm hsj HO;generalize bs r.head.name=nm at*;generalize r.head.no=no at*;go_wp2
  go_roundg (p.length- (j+1))
  case measure=>omega
  case rel=>exact⟨j+1,by omega,by go_num,acc,hac,HK4,HB4,HE4⟩
 have hd:p.drop j=[]:=List.drop_eq_nil_of_le (by omega);have HX:Hid (bW p ss n fs=(0,iA acc)):=by show _=_;rw[HE.out,hd];rfl
 clear hd HE;go_wp2;exact bodyPost_ret (v:=.tuple #[.slice oa on oc,.int .i64 0]) (by simp[results,Tryz.results46,go_sem]) rfl ⟨_,0,rfl,by rw[HX.out];exact⟨rfl,fun h=>absurd rfl h,fun _=>HO.out⟩,HBr.out⟩
theorem CF (ss:List Nat) (s:Nat):countP (ss++[s])=max (countP ss) (s+1):=by
 induction ss with
 |nil=>simp[countP]
 |cons t ss ih=>simp only[List.cons_append,countP,ih];omega
theorem Q5 (ss:List Nat) (v:Value) (w:World) (hv:lS.sl bf w v ss) (hs:∀s∈ss,s<1000):
  Calls Tryz.prog 45 #[v] w fun e w'=>e=.returned (.int .i64 (countP ss:Nat))∧w'=w:=by
 obtain⟨a,cap,rfl⟩:=aB.slice hv;have hl:=hv.1.1;have HV:=au hv;have HS:=au hs;clear hv hs
 go_enter Tryz.func45,Tryz.ntmps45
 go_wp2
 go_loopg [3,8] ss.length (fun g n i wr=>∃j:Nat,j+g=ss.length∧i=.int .i64 j∧n=.int .i64 (countP (ss.take j):Nat)∧wr=w)
 case atStart=>exact⟨0,by omega,rfl,rfl,rfl⟩
 obtain⟨j,hj,rfl,rfl,rfl⟩:=hrel
 by_cases hlt:j<ss.length
 ·obtain⟨s,hsj⟩:∃x,ss[j]?=some x:=⟨_,List.getElem?_eq_getElem hlt⟩;obtain⟨b2,o2,_,rfl,hb2,rfl,hc2⟩:=aB.bO HV.out hsj;have e0:wr.cell? ⟨b2,o2+j,none⟩=some (.int .i64 s):=by simpa[lS] using hc2 0 _ rfl
  have hs1:=HS.out s (List.mem_of_getElem? hsj);have hcl:countP (ss.take j)≤1000:=countP_le fun t ht=>HS.out t (List.mem_of_mem_take ht);have hck:countP (ss.take (j+1))=max (countP (ss.take j)) (s+1):=by rw[List.take_add_one,hsj];exact CF _ _
  have HCk:=au hck;generalize countP (ss.take j)=cj at*;have hmax:max (cj:Int) ((s:Int)+1)=((max cj (s+1):Nat):Int):=by omega
  clear hc2 hsj hck;go_wp2
  go_roundg (ss.length- (j+1))
  case measure=>omega
  case rel=>exact⟨j+1,by omega,by go_num,by rw[HCk.out],rfl⟩
 have e:ss.take j=ss:=List.take_of_length_le (by omega);rw[e];go_wp2;go_ret;exact⟨rfl,rfl⟩
theorem Bf:∃i,Tryz.prog.info? 79=some i∧i.zero=some (.agg #[.bool false,.string ByteArray.empty,.slice none 0 0])∧i.size=3∧i.bytes=48:=⟨Tryz.t79,by kernel_rfl,by kernel_rfl,by kernel_rfl,by kernel_rfl⟩
def sH (w0:World) (lo:Nat) (w:World) (v:Value) (l:List aI):Prop:=
 ∃xs,w.ownsRow lo 79 3 v l.length xs∧∀i a,l[i]?=some a→∃c,bN.is bf w0 c a∧∀j u,c[j]?=some u→xs[i*3+j]?=some u
theorem sH.nil (w0:World) (lo:Nat) (w:World):sH w0 lo w (.slice none 0 0) []:=⟨[],World.ownsRow_nil w _ _ _,fun i a h=>by simp at h⟩
theorem sH.slice {w0 w:World} {lo:Nat} {v:Value} {l:List aI} (h:sH w0 lo w v l):∃a cap,v=.slice a l.length cap:=by
 obtain⟨xs,ho,_⟩:=h;rcases ho.2 with⟨rfl,e⟩|⟨g,cap,cur,rfl,_⟩;·exact⟨none,0,by rw[e]⟩
 exact⟨_,cap,rfl⟩
theorem sH.lo {w0 w:World} {lo:Nat} {v:Value} {l:List aI} (h:sH w0 lo w v l):∀k,v.ownBlock=some k→lo≤k∧k<w.heap.size:=fun k e=>by obtain⟨xs,ho,_⟩:=h;exact ho.lt k e
theorem sH.more {w0 w:World} {lo:Nat} {v:Value} {l:List aI} (h:sH w0 lo w v l) (hs:lo≤w.heap.size) {c:List Value} {a:aI} (hc:bN.is bf w0 c a) (hl:(l.length+1)*48≤140737488355328):
  ∃v' w',(Builtin.append_ #[80,80] 80 #[v,.slice (some ⟨w.heap.size,0,none⟩) 1 1]).run Tryz.prog (w.alloc (.cells c.toArray 79))=.ok v' w'∧sH w0 lo w' v' (l++[a])∧(w.alloc (.cells c.toArray 79)).grownBy w' v.ownBlock∧w.drawn≤w'.drawn:=by
 obtain⟨i,i1,i2,i3,i4⟩:=Bf;obtain⟨xs,ho,hx⟩:=h;have hcl:c.length=3:=bN.len hc;have hnews:∀j u,c[j]?=some u→(w.alloc (.cells c.toArray 79)).cell? ((⟨w.heap.size,0,none⟩:Addr).add j)=some u:=by intro j u hu;rw[Addr.add_lit,Nat.zero_add,cell_of_row _ w.heap.size j c.toArray 79 (0,0) (heap_alloc_new w _)];simpa using hu
 obtain⟨v',w',hrun,r1,r2,r3,_⟩:=dZ (P:=Tryz.prog) (w.alloc (.cells c.toArray 79)) lo 80 80 79 i _ 3 48 Tryz.underlying80 i1 i2 i3 i4 rfl (by omega) v l.length xs (ho.alloc _) ⟨w.heap.size,0,none⟩ 1 1 c (by rw[hcl]) hnews
  (bN.one hc) (by simp only[maxLen];omega) hl (by simp;omega)
 refine⟨v',w',hrun,⟨xs++c,by simpa using r1,fun j y hj=>?_⟩,r2,r3⟩;have hxl:xs.length=l.length*3:=ho.1
 by_cases hjl:j<l.length
 ·rw[List.getElem?_append_left hjl] at hj;obtain⟨d,d1,d2⟩:=hx j y hj;refine⟨d,d1,fun q u hu=>?_⟩;have:=d2 q u hu;rw[List.getElem?_append_left (List.getElem?_eq_some_iff.1 this).1];exact this
 rw[List.getElem?_append_right (by omega)] at hj;have hj':j=l.length:=by have:=(List.getElem?_eq_some_iff.1 hj).1;simp at this;omega
 subst hj';simp at hj;subst hj;refine⟨c,hc,fun q u hu=>?_⟩;rw[List.getElem?_append_right (by omega),hxl,Nat.add_sub_cancel_left];exact hu
theorem sH.sl {w0 w:World} {lo:Nat} {v:Value} {l:List aI} (h:sH w0 lo w v l) (hb:Below w0.heap.size w0 w) (hl:l.length≤8796093022208):bN.sl bf w v l:=by
 obtain⟨xs,ho,hx⟩:=h;rcases ho.2 with⟨rfl,e⟩|⟨g,cap,cur,rfl,hbg,hg,hnc,_⟩;·have:l=[]:=List.eq_nil_of_length_eq_zero e;subst this;exact bN.eH _ _ _ _
 refine⟨⟨hl,hnc⟩,_,cap,rfl,fun _=>⟨g,0,rfl,trivial,(Array.getElem?_eq_some_iff.1 hg).1,fun i x hi=>?_⟩⟩;obtain⟨c,c1,c2⟩:=hx i x hi;refine⟨c,bN.kept c1 hb.size fun k hk _=>hb.block k hk,fun j u hu=>?_⟩;have:=ho.cells (g:=g) rfl _ u (c2 j u hu);rw[Addr.add_lit] at this;rw[Nat.add_assoc];exact this
theorem sH.one {w0 w:World} {lo:Nat} {c:List Value} {a:aI} (hc:bN.is bf w0 c a) (hs:lo≤w.heap.size):sH w0 lo (w.alloc (.cells c.toArray 79)) (.slice (some ⟨w.heap.size,0,none⟩) 1 1) [a]:=by
 have hcl:c.length=3:=bN.len hc;refine⟨c,⟨by rw[hcl];rfl,Or.inr ⟨w.heap.size,1,c.toArray,rfl,hs,heap_alloc_new _ _,by simp,by simp[maxLen],by simp[hcl],by show c.take 3=c;rw[←hcl];simp⟩⟩,fun i x hi=>?_⟩;cases i with
 |zero=>
  simp at hi;subst hi;exact⟨c,hc,fun j u hu=>by rw[Nat.zero_mul,Nat.zero_add];exact hu⟩
 |succ i=>simp at hi
theorem sH.slB {w0 w:World} {lo b:Nat} {v:Value} {l:List aI} (h:sH w0 lo w v l) (hb:Below w0.heap.size w0 w) (hl:l.length≤8796093022208) (h1:w0.heap.size≤b) (h2:b<lo):bN.sl (fun k=>k≠b) w v l:=by
 obtain⟨xs,ho,hx⟩:=h;rcases ho.2 with⟨rfl,e⟩|⟨g,cap,cur,rfl,hbg,hg,hnc,_⟩;·have:l=[]:=List.eq_nil_of_length_eq_zero e;subst this;exact bN.eH _ _ _ _
 refine⟨⟨hl,hnc⟩,_,cap,rfl,fun _=>⟨g,0,rfl,by show g≠b;omega,(Array.getElem?_eq_some_iff.1 hg).1,fun i x hi=>?_⟩⟩;obtain⟨c,c1,c2⟩:=hx i x hi;refine⟨c,bN.kept (bN.mono c1 fun k hk _=>(by omega:k≠b)) hb.size fun k hk _=>hb.block k hk,fun j u hu=>?_⟩;have:=ho.cells (g:=g) rfl _ u (c2 j u hu);rw[Addr.add_lit] at this;rw[Nat.add_assoc];exact this
theorem Jj (x:Int) (w:World):Calls Tryz.prog 76 #[.int .u8 x] w fun e w'=>e=.returned (.bool (jh x))∧w'=w:=by
 go_enter Tryz.func76,Tryz.ntmps76
 go_wp2
 all_goals
  go_ret;refine⟨bU ?_,rfl⟩;rw[Bool.eq_iff_iff];simp[jh];omega
theorem Q6 (x:Int) (w:World):Calls Tryz.prog 105 #[.int .u8 x] w fun e w'=>e=.returned (.bool (kD x))∧w'=w:=by
 cases hs:jh x
 ·go_enter Tryz.func105,Tryz.ntmps105
  go_wp2_with (go_at_call 76;refine(Jj _ _).mono ?_;rintro e w' ⟨rfl,rfl⟩;rw[hs])
  all_goals
   go_ret;refine⟨bU ?_,rfl⟩;rw[Bool.eq_iff_iff];simp[kD,hs];omega
 go_enter Tryz.func105,Tryz.ntmps105
 go_wp2_with (go_at_call 76;refine(Jj _ _).mono ?_;rintro e w' ⟨rfl,rfl⟩;rw[hs])
 go_ret;exact⟨bU (by simp[kD,hs]),rfl⟩
theorem bytesOf (s:ByteArray) (w:World):∃cp arr fr,(convert 9 164 (.string s)).run Tryz.prog w=.ok (.slice (some ⟨w.heap.size,0,none⟩) s.size cp) (w.drew.alloc (.cells arr 5 fr))∧
  ∀(j:Nat) (h:j<s.size),(w.drew.alloc (.cells arr 5 fr)).cell? ⟨w.heap.size,j,none⟩=some (.int .u8 (s[j].toNat:Int)):=by
 refine⟨_,_,_,run_bytes_of_string (P:=Tryz.prog) w 9 164 5 s Tryz.underlying9 Tryz.underlying164 Tryz.underlying5,fun j h=>?_⟩;rw[show w.heap.size=w.drew.heap.size from rfl,World.cell?_alloc_mark];rw[bytesRow_at s _ j h]
 rfl
def rW (s:ByteArray):Bool:=oC s 0&&decide (0<s.size∧s.size≤12)
theorem Jk (s:ByteArray) (w:World) (hs:s.size≤9223372036854775807):Calls Tryz.prog 75 #[.string s] w fun e w'=>e=.returned (.bool (rW s))∧ak w w':=by
 obtain⟨cp,arr,fr,hcv,hcell⟩:=bytesOf s w;have HC:=au hcell;clear hcell;unfold rW
 go_enter Tryz.func75,Tryz.ntmps75
 go_wp2
 go_loop [8] (fun i=>∃k:Nat,k≤s.size∧i=.int .i64 k∧Hid (oC s 0=oC s k)) (fun i=>s.size- (intOf i).toNat)
 case atStart=>exact⟨0,by omega,rfl,(rfl:_=_)⟩
 obtain⟨k,hk,rfl,HE⟩:=hrel
 by_cases hlt:k<s.size
 ·have hcl:(w.alloc (.cells arr 5 fr)).cell? ⟨w.heap.size,k,none⟩=some (.int .u8 (s[k].toNat:Int)):=HC.out k hlt;have hltz:(k:Int)<(s.size:Int):=by omega
  have ha:=qp hlt;generalize(s[k].toNat:Int)=ch at*;cases hc:kD ch
  ·have F:Hid (oC s 0=false):=by show _=_;rw[HE.out,ha,hc];rfl
   clear ha
   go_wp2_with (go_at_call 105;refine(Q6 _ _).mono ?_;rintro e w' ⟨rfl,rfl⟩;rw[hc])
   go_ret;exact⟨bU (by rw[F.out];rfl),(by repeat (first|exact ak.refl _|assumption|refine ak.drewN ?_ _|refine ak.drew ?_|refine ak.alloc ?_ _|refine ak.grow ?_ _))⟩
  have F:Hid (oC s 0=oC s (k+1)):=by show _=_;rw[HE.out,ha,hc];rfl
  clear ha
  go_wp2_with (go_at_call 105;refine(Q6 _ _).mono ?_;rintro e w' ⟨rfl,rfl⟩;rw[hc])
  go_round
  case rel=>exact⟨k+1,by omega,by go_num,F⟩
  case measure=>simp[intOf];omega
 have F:Hid (oC s 0=true):=by show _=_;rw[HE.out,Gv (by omega)]
 by_cases h0:0<s.size
 ·have h0z:(0:Int)<(s.size:Int):=by omega
  go_wp2
  all_goals
   go_ret;exact⟨bU (by rw[F.out,Bool.eq_iff_iff];simp;omega),(by repeat (first|exact ak.refl _|assumption|refine ak.drewN ?_ _|refine ak.drew ?_|refine ak.alloc ?_ _|refine ak.grow ?_ _))⟩
 have h0z:¬(0:Int)<(s.size:Int):=by omega
 go_wp2;go_ret;exact⟨bU rfl,(by repeat (first|exact ak.refl _|assumption|refine ak.drewN ?_ _|refine ak.drew ?_|refine ak.alloc ?_ _|refine ak.grow ?_ _))⟩
theorem FK {x:Int} (h:jh x=true):kD x=true:=by simp[kD,h]
theorem LB {s:ByteArray} (h:rW s=false):gK s=false:=by
 unfold rW at h
 by_cases hr:0<s.size∧s.size≤12
 ·rw[decide_eq_true hr,Bool.and_true,qp hr.1] at h;rw[oD hr.1 hr.2];cases hb:jh s[0].toNat;·rfl
  rw[FK hb,Bool.true_and] at h;rw[h];rfl
 unfold gK;rw[decide_eq_false hr];rfl
theorem Jl {s:ByteArray} (h:rW s=true):∃h0:0<s.size,gK s=jh s[0].toNat:=by unfold rW at h;rw[Bool.and_eq_true,decide_eq_true_eq] at h;refine⟨h.2.1,?_⟩;rw[oD h.2.1 h.2.2];have h1:=h.1;rw[qp h.2.1,Bool.and_eq_true] at h1;rw[h1.2,Bool.and_true]
theorem xS (s:ByteArray) (w:World) (hs:s.size≤9223372036854775807):Calls Tryz.prog 47 #[.string s] w fun e w'=>e=.returned (.bool (gK s))∧ak w w':=by
 cases hw:rW s
 ·have hn:=LB hw;rw[hn]
  go_enter Tryz.func47,Tryz.ntmps47
  go_wp2_with (go_at_call 75;refine(Jk _ _ hs).mono ?_;rintro e w1 ⟨rfl,hL⟩;rw[hw])
  go_ret;exact⟨rfl,hL⟩
 obtain⟨h0,hn⟩:=Jl hw;rw[hn];have h0z:(0:Int)<(s.size:Int):=by omega
 go_enter Tryz.func47,Tryz.ntmps47
 go_wp2_with (first
  |(go_at_call 75;refine(Jk _ _ hs).mono ?_;rintro e w1 ⟨rfl,hL⟩;rw[hw])
  |(go_at_call 76;refine(Jj _ _).mono ?_;rintro e w2 ⟨rfl,rfl⟩))
 go_ret;exact⟨rfl,by assumption⟩
def okF (f:aN):Prop:=f.1.size≤9223372036854775807∧∀s∈f.2,s.size≤9223372036854775807
theorem LC {f:aN} (h:okF f) (k:Nat):(f.2.getD k ByteArray.empty).size≤9223372036854775807:=by
 rw[List.getD_eq_getElem?_getD];cases e:f.2[k]? with
 |none=>simp
 |some s=>exact h.2 s (List.mem_of_getElem? e)
theorem MR (v:Value) (f:aN) (w:World) (h:dD w v f) (hok:okF f):
  Calls Tryz.prog 23 #[v] w fun e w'=>e=.returned (.int .i64 (fG f))∧ak w w':=by
 obtain⟨s,rfl,l0,a,c,rfl,hc⟩:=h;have HC:=au hc;have HOK:=au hok;have hn0:=hok.1;clear hc hok;obtain⟨n,x⟩:=f;unfold fG;dsimp only at*;cases hn:gK n
 ·go_enter Tryz.func23,Tryz.ntmps23
  go_wp2_with (go_at_call 47;refine(xS _ _ hn0).mono ?_;rintro e w1 ⟨rfl,hL⟩;rw[hn])
  go_ret;exact⟨rfl,((ak.refl _).alloc _).trans hL⟩
 by_cases h4:4<x.length
 ·rw[if_pos h4]
  go_enter Tryz.func23,Tryz.ntmps23
  go_wp2_with fail
  refine(xS _ _ hn0).mono ?_;rintro e w1 ⟨rfl,hL⟩;rw[hn];have z1:w1.cell? ⟨w.heap.size,1,none⟩=some (.slice a x.length c):=by rw[hL.cell (by simp)];simp
  go_wp2;go_ret;exact⟨rfl,((ak.refl _).alloc _).trans hL⟩
 rw[if_neg h4];simp only[Bool.not_true,Bool.false_eq_true,if_false];generalize hres:(if fV x 0=true then(7:Int) else 0)=r;have WG:=au hres;clear hres
 go_enter Tryz.func23,Tryz.ntmps23
 go_wp2_with fail
 refine(xS _ _ hn0).mono ?_;rintro e w1 ⟨rfl,hL⟩;rw[hn];have hL0:ak w w1:=((ak.refl _).alloc _).trans hL;have z1:w1.cell? ⟨w.heap.size,1,none⟩=some (.slice a x.length c):=by rw[hL.cell (by simp)];simp
 go_wp2
 go_loopw [16] (fun i wr=>∃k:Nat,k≤x.length∧i=.int .i64 k∧ak w1 wr∧Hid (fV x 0=fV x k)) (fun i _=>x.length- (intOf i).toNat)
 case atStart=>exact⟨0,by omega,rfl,ak.refl _,(rfl:_=_)⟩
 obtain⟨k,hk,rfl,hLr,HE⟩:=hrel
 by_cases hlt:k<x.length
 ·obtain⟨b,off,rfl,hb,hcell⟩:=HC.out (by intro e;rw[e] at hlt;simp at hlt);have hltz:(k:Int)<(x.length:Int):=by omega
  have g1:=hcell k hlt;rw[←(hL0.trans hLr).cell (p:=⟨b,off+k,none⟩) hb] at g1;have hs:=sM hlt;have hsz:=LC HOK.out k;dsimp only at hsz;clear hcell;generalize x.getD k ByteArray.empty=s at*;cases hns:gK s
  ·have F:Hid (fV x 0=true):=by show _=_;rw[HE.out,hs,hns];rfl
   clear hs
   go_wp2_with (go_at_call 47;refine(xS _ _ hsz).mono ?_;rintro e w2 ⟨rfl,hL2⟩;rw[hns])
   go_ret;exact⟨qo (by rw[←WG.out,F.out];rfl),hL0.trans (hLr.trans hL2)⟩
  have F:Hid (fV x 0=fV x (k+1)):=by show _=_;rw[HE.out,hs,hns];rfl
  clear hs
  go_wp2_with (go_at_call 47;refine(xS _ _ hsz).mono ?_;rintro e w2 ⟨rfl,hL2⟩;rw[hns])
  go_roundw
  case rel=>exact⟨k+1,by omega,by go_num,hLr.trans hL2,F⟩
  case measure=>simp[intOf];omega
 have F:Hid (fV x 0=false):=by show _=_;rw[HE.out,wH (by omega)]
 go_wp2;go_ret;exact⟨qo (by rw[←WG.out,F.out];rfl),hL0.trans hLr⟩
end Go.Proofs.YtaallngooaaonaaGreatDoor
