import Derived.Test.YtafmbokfkbccaaaGreatDoorJT32
import Derived.Test.YtafmbokfkbccaaaGreatDoorJT18
import Derived.Test.YtafmbokfkbccaaaGreatDoorJT19
import Derived.Test.YtafmbokfkbccaaaGreatDoorJT20
import Derived.Test.YtafmbokfkbccaaaGreatDoorJT3
import Derived.Test.YtafmbokfkbccaaaGreatDoorJT14
namespace Go.Proofs.YtafmbokfkbccaaaGreatDoor
open Go.RowKit Go.Sort Go.Maps
theorem Jw {L:List au} {r:List au} {f:au} (h:jI r (iE L++[f])):r=iE (L++[f]):=
 tN h.1 fun g=>by rw[h.2.1,List.mem_append,List.mem_append,iF]
set_option maxRecDepth 100000 in
set_option maxHeartbeats 1000000 in
theorem UJ (r:aD) (tv bv ev:Value) (L:List (List aB)) (n:Nat) (w:World) (ht:eH.sl bg w tv r.head.terms) (hb:∃a n c,bv=.slice a n c) (hE:(qj n).sl bg w ev L) (hts:∀t∈r.head.terms,t.2.length≤maxLen) (hL:L.length≤20000):
  Calls Tryz.prog 247 #[.agg #[.bool r.head.no,.string (bs r.head.name),tv,bv],ev] w fun e w'=>∃v',e=.returned v'∧jE w' v' (iE (L.filterMap fun l=>bA r.head l))∧Later w w':=by
 obtain⟨ta,tc,rfl⟩:=Kind.slice ht;obtain⟨ba,bn,bc,rfl⟩:=hb;obtain⟨ea,ec,rfl⟩:=Kind.slice hE;obtain⟨wb,hwb⟩:∃wb,wb=w.alloc (.cells #[.bool r.head.no,.string (bs r.head.name),.slice ta r.head.terms.length tc,.slice ba bn bc] 87):=⟨_,rfl⟩;have hLb:Later w wb:=by rw[hwb];exact(Later.refl w).alloc _
 have hrb:wb.heap[w.heap.size]?=some (.cells #[.bool r.head.no,.string (bs r.head.name),.slice ta r.head.terms.length tc,.slice ba bn bc] 87 (0,0)):=by rw[hwb];exact heap_alloc_new w _
 have OX:w.heap.size<wb.heap.size:=(Array.getElem?_eq_some_iff.1 hrb).1;have HT:=hide (Kind.aJ ht hLb);have HE:=hide (Kind.aJ hE hLb);have HTS:=hide hts;have HLb:=hide hLb;have HRb:=hide hrb;have HWb:=hide hwb;clear ht hE hts hLb hrb hwb;have hex:∃nm no,nm=bs r.head.name∧no=r.head.no:=⟨_,_,rfl,rfl⟩;obtain⟨nm,no,hnm,hno⟩:=hex;have HNM:=hide hnm;have HNO:=hide hno;rw[←hnm] at HRb HWb⊢;rw[←hno] at HRb HWb⊢;clear hnm hno
 go_enter Tryz.func247,Tryz.ntmps247
 go_wp2;rw[←HWb.out]
 go_loopg [5,12] L.length (fun g o i wr=>∃j:Nat,j+g=L.length∧i=.int .i64 j∧Hid (jE wr o (iE ((L.take j).filterMap fun l=>bA r.head l)))∧Hid (Later wb wr))
 case atStart=>exact⟨0,by omega,rfl,(by show jE _ _ _;rw[List.take_zero,List.filterMap_nil,show iE []=[] from(tN (s:=[]) List.Pairwise.nil fun f=>Iff.rfl).symm];exact xZ _),Later.refl _⟩
 case round=>
  obtain⟨j,hj,rfl,HO,HL⟩:=hrel;obtain⟨oa,oc,hov⟩:=aC HO.out.1;obtain⟨on,hon⟩:∃n,n=(iE ((L.take j).filterMap fun l=>bA r.head l)).length:=⟨_,rfl⟩;rw[←hon] at hov;clear hon;subst hov
  by_cases hlt:j<L.length
  ·obtain⟨l,hl⟩:∃x,L[j]?=some x:=⟨_,List.getElem?_eq_getElem hlt⟩;obtain⟨b1,o1,_,e1,hb1,⟨bl,rfl,_,hel⟩,hc⟩:=Kind.bQ HE.out hl;subst e1;have d0:wr.cell? ⟨b1,o1+j,none⟩=some (.map (some bl)):=by rw[HL.out.cell (p:=⟨b1,o1+j,none⟩) hb1];simpa[qj] using hc 0 _ rfl
   have hrr:=(HL.out.block OX).trans HRb.out;have r0:wr.cell? ⟨w.heap.size,0,none⟩=some (.bool no):=by rw[cell_of_row _ _ _ _ _ _ hrr];rfl
   have r1:wr.cell? ⟨w.heap.size,0+1,none⟩=some (.string nm):=by rw[cell_of_row _ _ _ _ _ _ hrr];rfl
   have r2:wr.cell? ⟨w.heap.size,0+2,none⟩=some (.slice ta r.head.terms.length tc):=by rw[cell_of_row _ _ _ _ _ _ hrr];rfl
   have hRF:=Jt r.head (.slice ta r.head.terms.length tc) l bl n wr (Kind.aJ HT.out HL.out) (hel.later HL.out) HTS.out;unfold filled at hRF;rw[←HNM.out,←HNO.out] at hRF;have HRF:=hide hRF;have HTk:=hide (nS (g:=fun l=>bA r.head l) hl);have hlen:(iE ((L.take j).filterMap fun l=>bA r.head l)).length≤20000:=by
    have h1:=yN ((L.take j).filterMap fun l=>bA r.head l);have h2:=List.length_filterMap_le (fun l=>bA r.head l) (L.take j);rw[List.length_take] at h2;omega
   clear hc hl hel hrr hRF;cases hfl:bA r.head l with
   |none=>
    rw[hfl] at HRF;have HO':Hid (jE wr (.slice oa on oc) (iE ((L.take (j+1)).filterMap fun l=>bA r.head l))):=by show jE _ _ _;rw[HTk.out,hfl];simpa using HO.out
    clear hfl HTk HO
    go_wp2_with fail
    refine HRF.out.mono ?_;rintro e w3 ⟨f3,rfl,hfv,hL3⟩;obtain⟨s,rfl,hs⟩:=hfv;obtain⟨sA',sC',rfl⟩:=bB hs;simp only[Option.isSome_none];have HL3:Hid (Later wr w3):=hL3;clear hs hL3 HRF d0 r0 r1 r2;go_wp2
    go_roundg (L.length- (j+1))
    case measure=>omega
    case rel=>exact⟨j+1,by omega,by go_num,HO'.out.later (HL3.out.alloc _),HL.out.trans (HL3.out.alloc _)⟩
   |some f=>
    rw[hfl] at HRF;have HK:Hid (∀q,jI q (iE ((L.take j).filterMap fun l=>bA r.head l)++[f])→q=iE ((L.take (j+1)).filterMap fun l=>bA r.head l)):=fun q hq=>by
     rw[HTk.out,hfl];exact Jw hq
    clear hfl HTk
    go_wp2_with fail
    refine HRF.out.mono ?_;rintro e w3 ⟨f3,rfl,hfv,hL3⟩;simp only[Option.isSome_some,Option.getD_some] at hfv⊢;have Rf:=hfv;obtain⟨s,rfl,hs⟩:=hfv;obtain⟨sA',sC',rfl⟩:=bB hs;obtain⟨w4,hw4⟩:∃w4,w4=w3.alloc (.cells #[.string f.1,.slice sA' f.2.length sC'] 27):=⟨_,rfl⟩;have hL4:Later w3 w4:=by rw[hw4];exact(Later.refl _).alloc _
    have HAd:=hide (UG (.slice oa on oc) (.agg #[.string f.1,.slice sA' f.2.length sC']) _ f w4 (HO.out.later (hL3.trans hL4)) (Rf.later hL4) (nY _) (by omega));have HL4:=hide (HL.out.trans (hL3.trans hL4));have HW4:=hide hw4;clear hs hL3 hL4 hw4 Rf HRF HO d0 r0 r1 r2
    go_wp2_with fail
    rw[←HW4.out];refine HAd.out.mono ?_;rintro e w5 ⟨v5,q5,rfl,hF5,hS5,hL5⟩;have e5:=HK.out q5 hS5;subst e5;have HF5:=hide hF5;obtain⟨a5,n5,c5,rfl⟩:∃a n c,v5=.slice a n c:=by obtain⟨a,c,e⟩:=aC hF5.1;exact⟨a,_,c,e⟩
    have HL5:=hide (HL4.out.trans hL5);clear hF5 hS5 hL5 HAd HW4 HK HL4;go_wp2
    go_roundg (L.length- (j+1))
    case measure=>omega
    case rel=>exact⟨j+1,by omega,by go_num,HF5,HL5⟩
  ·have e:L.take j=L:=List.take_of_length_le (by omega);rw[e] at HO;clear e;go_wp2;go_ret;exact⟨_,rfl,HO.out,HLb.out.trans HL.out⟩
theorem LX {r:aD} {fs:List au} {ms:List (List aB)} (hm:dI (fun _=>fs) 0 r.body [[]]=some ms):
  gy r fs=some (iE ((ms.filter fun l=> !barredB (fun _=>fs) 0 r.body l).filterMap fun l=>bA r.head l)):=by
 have hk:∀l∈ms,(bK l).Nodup:=fun l hl=>by
  rw[((nW (fun _=>fs) r.body 0 [[]] ms [] (fun x hx=>by simp at hx;subst hx;rfl) hm l).1 hl).2.1];exact iM r.body
 unfold gy lM;rw[hm];dsimp only
 congr 1
 refine wY fun f=> ?_;rw[List.mem_filterMap,List.mem_filterMap]
 constructor
 ·rintro⟨l,hl,hf⟩;rw[(bO _).mem_iff,List.mem_map] at hl;obtain⟨m,hm',rfl⟩:=hl;exact⟨m,hm',by rw[qF (bO m).symm (hk m (List.mem_filter.1 hm').1)];exact hf⟩
 ·rintro⟨m,hm',hf⟩;refine⟨gZ m,(bO _).mem_iff.2 (List.mem_map.2 ⟨m,hm',rfl⟩),?_⟩;rw[←qF (bO m).symm (hk m (List.mem_filter.1 hm').1)];exact hf
def Rk (w:World) (v:Value) (er:Int):Option (List au)→Prop
 |none=>v=.slice none 0 0∧er=4
 |some x=>er=0∧Facts w v x
set_option maxRecDepth 100000 in
set_option maxHeartbeats 1000000 in
theorem Rl (r:aD) (tv bv fv:Value) (fs:List au) (w:World) (ht:eH.sl bg w tv r.head.terms) (hb:bP.sl bg w bv r.body) (hf:Facts w fv fs) (hw:aM r.body=0) (hfs:(aT fs).1=0) (hts:∀t∈r.head.terms,t.2.length≤maxLen):
  Calls Tryz.prog 183 #[.agg #[.bool r.head.no,.string (bs r.head.name),tv,bv],fv] w fun e w'=>∃v' er,e=.returned (.tuple #[v',.int .i64 er])∧Rk w' v' er (gy r fs)∧Below w.heap.size w w':=by
 obtain⟨ta,tc,rfl⟩:=Kind.slice ht;obtain⟨ba,bc,rfl⟩:=Kind.slice hb;obtain⟨fa,fc,rfl⟩:=aC hf;obtain⟨wb,hwb⟩:∃wb,wb=w.alloc (.cells #[.bool r.head.no,.string (bs r.head.name),.slice ta r.head.terms.length tc,.slice ba r.body.length bc] 87):=⟨_,rfl⟩;have hLb:Later w wb:=by rw[hwb];exact(Later.refl w).alloc _
 have hrb:wb.heap[w.heap.size]?=some (.cells #[.bool r.head.no,.string (bs r.head.name),.slice ta r.head.terms.length tc,.slice ba r.body.length bc] 87 (0,0)):=by rw[hwb];exact heap_alloc_new w _
 have OX:w.heap.size<wb.heap.size:=(Array.getElem?_eq_some_iff.1 hrb).1;have hEn:=Rb r.body fs [] (-1) (.slice ba r.body.length bc) (.slice fa fs.length fc) (.slice none 0 0) wb (Kind.aJ hb hLb) (hf.later hLb) (uy wb) hw hfs rfl;rw[pX] at hEn;have HEn:=hide hEn;have HT:=hide (Kind.aJ ht hLb);have HH:=hide (fun ms=>LX (r:=r) (fs:=fs) (ms:=ms));have HTS:=hide hts;have HLb:=hide hLb;have HRb:=hide hrb;have HWb:=hide hwb;have c3:wb.cell? ⟨w.heap.size,3,none⟩=some (.slice ba r.body.length bc):=by rw[cell_of_row _ _ _ _ _ _ hrb];rfl
 rw[hwb] at c3;have hnone:dI (fun _=>fs) 0 r.body [[]]=none→gy r fs=none:=fun h=>by unfold gy lM;rw[h]
 have UK:=hide hnone;have hms:∀ms,dI (fun _=>fs) 0 r.body [[]]=some ms→ms.length≤20000:=fun ms h=>jK (fun _=>fs) r.body 0 [[]] ms (by simp) h;have HMs:=hide hms;clear ht hb hf hw hfs hts hLb hrb hwb hEn hnone hms
 go_enter Tryz.func183,Tryz.ntmps183
 go_wp2_with fail
 rw[←HWb.out];refine HEn.out.mono ?_;rintro e w1 ⟨v1,er,rfl,hT,hB1⟩;have HB1:=hide hB1;have HBw:=hide (aj HLb.out.below hB1 HLb.out.size);have hr1:=(hB1.block _ OX).trans HRb.out;clear hB1 HEn HWb c3;cases hm:dI (fun _=>fs) 0 r.body [[]] with
 |none=>
  rw[hm] at hT;obtain⟨rfl,rfl⟩:=hT;have HN:=hide (UK.out hm);clear hm;go_wp2;exact bodyPost_ret (v:=.tuple #[.slice none 0 0,.int .i64 4]) (by simp[results,Tryz.results183,go_sem]) rfl ⟨_,4,rfl,by rw[HN.out];exact⟨rfl,rfl⟩,HBw.out⟩
 |some ms=>
  rw[hm] at hT;obtain⟨rfl,hsl⟩:=hT;have HS:=hide (HH.out ms hm);have hml:=HMs.out ms hm;have hfl:(ms.filter fun l=> !barredB (fun _=>fs) 0 r.body l).length≤20000:=Nat.le_trans (List.length_filter_le _ _) hml;have d0:w1.cell? ⟨w.heap.size,0,none⟩=some (.bool r.head.no):=by rw[cell_of_row _ _ _ _ _ _ hr1];rfl
  have d1:w1.cell? ⟨w.heap.size,0+1,none⟩=some (.string (bs r.head.name)):=by rw[cell_of_row _ _ _ _ _ _ hr1];rfl
  have d2:w1.cell? ⟨w.heap.size,0+2,none⟩=some (.slice ta r.head.terms.length tc):=by rw[cell_of_row _ _ _ _ _ _ hr1];rfl
  have d3:w1.cell? ⟨w.heap.size,0+3,none⟩=some (.slice ba r.body.length bc):=by rw[cell_of_row _ _ _ _ _ _ hr1];rfl
  have HMd:=hide (UJ r (.slice ta r.head.terms.length tc) (.slice ba r.body.length bc) v1 _ 20 w1 (Kind.aF HT.out HB1.out) ⟨_,_,_,rfl⟩ hsl HTS.out hfl);obtain⟨a1,n1,c1,rfl⟩:∃a n c,v1=.slice a n c:=by obtain⟨a,c,e⟩:=Kind.slice hsl;exact⟨a,_,c,e⟩
  clear hm hsl hml hfl hr1;generalize bs r.head.name=nm at*;generalize r.head.no=no at*
  go_wp2_with fail
  refine HMd.out.mono ?_;rintro e w2 ⟨v2,rfl,hF2,hL2⟩;have HF2:=hide hF2.1;have HB2:=hide (aj HBw.out hL2.below HBw.out.size);obtain⟨a2,n2,c2,rfl⟩:∃a n c,v2=.slice a n c:=by obtain⟨a,c,e⟩:=aC HF2.out;exact⟨a,_,c,e⟩
  clear hF2 hL2 HMd d0 d1 d2 d3;go_wp2;exact bodyPost_ret (v:=.tuple #[.slice a2 n2 c2,.int .i64 0]) (by simp[results,Tryz.results183,go_sem]) rfl ⟨_,0,rfl,by rw[HS.out];exact⟨rfl,HF2.out⟩,HB2.out⟩
end Go.Proofs.YtafmbokfkbccaaaGreatDoor
namespace Go.Proofs.YtafmbokfkbccaaaGreatDoor
open Go.RowKit Go.Sort Go.Maps
theorem CV {p:List aD} (hp:dR p):∀r∈p,aM r.body=0∧∀t∈r.head.terms,t.2.length≤maxLen:=fun r hr=>
 ⟨(hp.rules r hr).body,fun t ht=>by have:=jg ((gU (hp.rules r hr).head).2.2 t ht);unfold maxLen;omega⟩
theorem F5 {p:List aD} {L:List au} (h:GoodS p L):(aT L).1=0:=by rw[om h.up h.right h.few]
theorem Jy {a x r:List au} (h:jI r (iE a++x)):r=iE (a++x):=
 tN h.1 fun g=>by rw[h.2.1,List.mem_append,List.mem_append,iF]
set_option maxRecDepth 100000 in
set_option maxHeartbeats 1000000 in
theorem UL (p:List aD) (ss:List Nat) (n:Int) (fs:List au) (pv sv fv:Value) (w:World) (hp:eU.sl bg w pv p) (hss:lY.sl bg w sv ss) (hf:Facts w fv fs) (hR:dR p) (hG:GoodS p fs):
  Calls Tryz.prog 112 #[pv,sv,.int .i64 n,fv] w fun e w'=>∃v' er,e=.returned (.tuple #[v',.int .i64 er])∧lZ w' v' er (bZ p ss n fs)∧Below w.heap.size w w':=by
 obtain⟨pa,pc,rfl⟩:=Kind.slice hp;obtain⟨sa,sc,rfl⟩:=Kind.slice hss;obtain⟨fa,fc,rfl⟩:=aC hf;have hsl:=hss.1.1;have h16:=hR.few;have HP:=hide hp;have HSS:=hide hss;have HF:=hide hf;have HRt:=hide (CV hR);have Oj:=hG.few;have HFt:=hide (F5 hG);have HF0:Hid (Facts w (.slice fa fs.length fc) (iE fs)):=by show Facts _ _ _;rw[mG hG.up];exact hf
 have hs0:(iE fs).length≤200:=by rw[mG hG.up];exact Oj
 clear hp hss hf hR hG
 go_enter Tryz.func112,Tryz.ntmps112
 go_wp2
 go_loopg [10,18] p.length (fun g o i wr=>∃j:Nat,j+g=p.length∧i=.int .i64 j∧∃acc,(iE acc).length≤200∧Hid (Facts wr o (iE acc))∧Hid (Below w.heap.size w wr)∧Hid (bZ p ss n fs=gT n fs (p.drop j) (ss.drop j) acc))
 case atStart=>exact⟨0,by omega,rfl,fs,hs0,HF0,Below.refl _ _,(rfl:_=_)⟩
 case round=>
  clear HF0 hs0;obtain⟨j,hj,rfl,acc,hac,HO,HBr,HE⟩:=hrel;obtain⟨oa,on,oc,hov⟩:∃a n c,u10=.slice a n c:=by obtain⟨a,c,e⟩:=aC HO.out;exact⟨a,_,c,e⟩
  subst hov
  by_cases hlt:j<p.length
  ·obtain⟨r,hr⟩:∃x,p[j]?=some x:=⟨_,List.getElem?_eq_getElem hlt⟩;have hrm:r∈p:=List.mem_of_getElem? hr;obtain⟨b1,o1,_,rfl,hb1,⟨tv,bv,rfl,htv,hbv⟩,hc⟩:=Kind.bQ HP.out hr;have d0:wr.cell? ⟨b1,o1+j*4,none⟩=some (.bool r.head.no):=by rw[HBr.out.cell (p:=⟨b1,o1+j*4,none⟩) hb1];exact hc 0 _ rfl
   have d1:wr.cell? ⟨b1,o1+j*4+1,none⟩=some (.string (bs r.head.name)):=by rw[HBr.out.cell (p:=⟨b1,o1+j*4+1,none⟩) hb1];exact hc 1 _ rfl
   have d2:wr.cell? ⟨b1,o1+j*4+2,none⟩=some tv:=by rw[HBr.out.cell (p:=⟨b1,o1+j*4+2,none⟩) hb1];exact hc 2 _ rfl
   have d3:wr.cell? ⟨b1,o1+j*4+3,none⟩=some bv:=by rw[HBr.out.cell (p:=⟨b1,o1+j*4+3,none⟩) hb1];exact hc 3 _ rfl
   have hpd:p.drop j=r::p.drop (j+1):=by
    obtain⟨h1,e1⟩:=List.getElem?_eq_some_iff.1 hr;rw[List.drop_eq_getElem_cons h1,e1]
   obtain⟨ta,tc,rfl⟩:=Kind.slice htv;obtain⟨ba,bc,rfl⟩:=Kind.slice hbv;have hwr:=HBr.out.size;have WH:b1<wr.heap.size:=by omega
   by_cases hsj:j<ss.length
   ·obtain⟨s,hs⟩:∃x,ss[j]?=some x:=⟨_,List.getElem?_eq_getElem hsj⟩;obtain⟨b2,o2,_,rfl,hb2,rfl,hc2⟩:=Kind.bQ HSS.out hs;have e0:wr.cell? ⟨b2,o2+j,none⟩=some (.int .i64 s):=by rw[HBr.out.cell (p:=⟨b2,o2+j,none⟩) hb2];simpa[lY] using hc2 0 _ rfl
    have hsd:ss.drop j=s::ss.drop (j+1):=by
     obtain⟨h1,e1⟩:=List.getElem?_eq_some_iff.1 hs;rw[List.drop_eq_getElem_cons h1,e1]
    have hstep:bZ p ss n fs=if(s:Int)=n then(match gy r fs with
      |none=>(4,[])
      |some x=>if 200<(iE (acc++x)).length then(5,[]) else gT n fs (p.drop (j+1)) (ss.drop (j+1)) (acc++x)) else gT n fs (p.drop (j+1)) (ss.drop (j+1)) acc:=by
     rw[HE.out,hpd,hsd];rfl
    have TP:(j:Int)<(ss.length:Int):=by omega
    have Yw:b2<wr.heap.size:=by omega
    by_cases hsn:(s:Int)=n
    ·rw[if_pos hsn] at hstep;obtain⟨wb,hwb⟩:∃wb,wb=wr.alloc (.cells #[.bool r.head.no,.string (bs r.head.name),.slice ta r.head.terms.length tc,.slice ba r.body.length bc] 87):=⟨_,rfl⟩;have hLb:Later wr wb:=by rw[hwb];exact(Later.refl _).alloc _
     have hBb:Below w.heap.size w wb:=aj HBr.out hLb.below hwr;have HH:=hide (Rl r (.slice ta r.head.terms.length tc) (.slice ba r.body.length bc) (.slice fa fs.length fc) fs wb (Kind.aF htv hBb) (Kind.aF hbv hBb) (HF.out.below hBb) (HRt.out r hrm).1 HFt.out (HRt.out r hrm).2);have HOb:=hide (HO.out.later hLb);have HBb:=hide hBb;have HWb:=hide hwb;clear hc hc2 hr hs htv hbv hpd hsd HE hLb hBb hwb hrm HO;have hneq:((s:Int) != n)=false:=by simp[hsn]
     generalize bs r.head.name=nm at*;generalize hno:r.head.no=no at*;clear hno;subst hsn
     go_wp2_with fail
     rw[←HWb.out];refine HH.out.mono ?_;rintro e w3 ⟨v3,er,rfl,hT3,hB3⟩;have HB3:Hid (Below w.heap.size w w3):=aj HBb.out hB3 HBb.out.size;have HO3:=hide (HOb.out.below hB3);clear hB3 HH HWb HOb HBb;cases hh:gy r fs with
     |none=>
      rw[hh] at hT3 hstep;obtain⟨rfl,rfl⟩:=hT3;have HT:Hid (∀w',lZ w' (.slice none 0 0) 4 (bZ p ss s fs)):=fun w'=>by rw[hstep];exact⟨rfl,fun _=>rfl,fun h=>by simp at h⟩
      clear hstep hh;go_wp2;exact bodyPost_ret (v:=.tuple #[.slice none 0 0,.int .i64 4]) (by simp[results,Tryz.results112,go_sem]) rfl ⟨_,4,rfl,HT.out _,HB3.out⟩
     |some x=>
      rw[hh] at hT3 hstep;obtain⟨rfl,hF3⟩:=hT3;have hxl:x.length≤20000:=by
       unfold gy at hh;cases hR:lM (fun _=>fs) r.body with
       |none=>rw[hR] at hh;cases hh
       |some R=>
        rw[hR] at hh;cases hh;exact Nat.le_trans (yN _) (Nat.le_trans (List.length_filterMap_le _ _) (ni hR))
      have HBo:=hide (UH (.slice oa on oc) v3 (iE acc) x w3 HO3.out hF3 (by omega) (by omega));obtain⟨xa,xn,xc,rfl⟩:∃a n c,v3=.slice a n c:=by obtain⟨a,c,e⟩:=aC hF3;exact⟨a,_,c,e⟩
      dsimp only at hstep;have HST:=hide hstep;clear hF3 hh hstep HO3
      go_wp2_with fail
      refine HBo.out.mono ?_;rintro e w4 ⟨v4,q4,rfl,hF4,hS4,hL4⟩;have e4:=Jy hS4;subst e4;have HF4:=hide hF4.1;have HB4:Hid (Below w.heap.size w w4):=aj HB3.out hL4.below HB3.out.size;obtain⟨a4,n4,c4,hv4,hn4⟩:∃a n c,v4=.slice a n c∧n=(iE (acc++x)).length:=by obtain⟨a,c,e⟩:=aC hF4.1;exact⟨a,_,c,e,rfl⟩
      subst hv4;clear hF4 hS4 hL4 HBo
      by_cases hbig:200<(iE (acc++x)).length
      ·have HT:Hid (∀w',lZ w' (.slice none 0 0) 5 (bZ p ss s fs)):=fun w'=>by rw[HST.out,if_pos hbig];exact⟨rfl,fun _=>rfl,fun h=>by simp at h⟩
       have hbi:(200:Int)<(n4:Int):=by omega
       clear HST hbig hn4;go_wp2;exact bodyPost_ret (v:=.tuple #[.slice none 0 0,.int .i64 5]) (by simp[results,Tryz.results112,go_sem]) rfl ⟨_,5,rfl,HT.out _,HB4.out⟩
      ·have HE4:Hid (bZ p ss s fs=gT s fs (p.drop (j+1)) (ss.drop (j+1)) (acc++x)):=by show _=_;rw[HST.out,if_neg hbig]
       have hbi:¬(200:Int)<(n4:Int):=by omega
       have hb4:(iE (acc++x)).length≤200:=by omega
       clear HST hbig hn4;go_wp2
       go_roundg (p.length- (j+1))
       case measure=>omega
       case rel=>exact⟨j+1,by omega,by go_num,acc++x,hb4,HF4,HB4,HE4⟩
    ·rw[if_neg hsn] at hstep;have HE4:Hid (bZ p ss n fs=gT n fs (p.drop (j+1)) (ss.drop (j+1)) acc):=hstep;have HB4:Hid (Below w.heap.size w (wr.alloc (.cells #[.bool r.head.no,.string (bs r.head.name),.slice ta r.head.terms.length tc,.slice ba r.body.length bc] 87))):=aj HBr.out ((Later.refl _).alloc _).below hwr;have HK4:Hid (Facts (wr.alloc (.cells #[.bool r.head.no,.string (bs r.head.name),.slice ta r.head.terms.length tc,.slice ba r.body.length bc] 87)) (.slice oa on oc) (iE acc)):=HO.out.later ((Later.refl _).alloc _);have hneq:((s:Int) != n)=true:=by simpa using hsn
     clear hstep hc hc2 hr hs htv hbv hpd hsd HE hsn hrm HO;generalize bs r.head.name=nm at*;generalize r.head.no=no at*;go_wp2
     go_roundg (p.length- (j+1))
     case measure=>omega
     case rel=>exact⟨j+1,by omega,by go_num,acc,hac,HK4,HB4,HE4⟩
   ·have hsd:ss.drop j=[]:=List.drop_eq_nil_of_le (by omega);have hsd2:ss.drop (j+1)=[]:=List.drop_eq_nil_of_le (by omega);have HE4:Hid (bZ p ss n fs=gT n fs (p.drop (j+1)) (ss.drop (j+1)) acc):=by show _=_;rw[HE.out,hsd,hsd2,lG,lG]
    have HB4:Hid (Below w.heap.size w (wr.alloc (.cells #[.bool r.head.no,.string (bs r.head.name),.slice ta r.head.terms.length tc,.slice ba r.body.length bc] 87))):=aj HBr.out ((Later.refl _).alloc _).below hwr;have HK4:Hid (Facts (wr.alloc (.cells #[.bool r.head.no,.string (bs r.head.name),.slice ta r.head.terms.length tc,.slice ba r.body.length bc] 87)) (.slice oa on oc) (iE acc)):=HO.out.later ((Later.refl _).alloc _);have TP:(ss.length:Int)≤(j:Int):=by omega
    clear hc hr htv hbv hpd hsd hsd2 HE hrm hsj HO;generalize bs r.head.name=nm at*;generalize r.head.no=no at*;go_wp2
    go_roundg (p.length- (j+1))
    case measure=>omega
    case rel=>exact⟨j+1,by omega,by go_num,acc,hac,HK4,HB4,HE4⟩
  ·have hd:p.drop j=[]:=List.drop_eq_nil_of_le (by omega);have HX:Hid (bZ p ss n fs=(0,iE acc)):=by show _=_;rw[HE.out,hd];rfl
   clear hd HE;go_wp2;exact bodyPost_ret (v:=.tuple #[.slice oa on oc,.int .i64 0]) (by simp[results,Tryz.results112,go_sem]) rfl ⟨_,0,rfl,by rw[HX.out];exact⟨rfl,fun h=>absurd rfl h,fun _=>HO.out⟩,HBr.out⟩
theorem CW (ss:List Nat) (s:Nat):countP (ss++[s])=max (countP ss) (s+1):=by
 induction ss with
 |nil=>simp[countP]
 |cons t ss ih=>simp only[List.cons_append,countP,ih];omega
set_option maxRecDepth 100000 in
set_option maxHeartbeats 1000000 in
theorem Rm (ss:List Nat) (v:Value) (w:World) (hv:lY.sl bg w v ss) (hs:∀s∈ss,s<1000):
  Calls Tryz.prog 111 #[v] w fun e w'=>e=.returned (.int .i64 (countP ss:Nat))∧w'=w:=by
 obtain⟨a,cap,rfl⟩:=Kind.slice hv;have hl:=hv.1.1;have HV:=hide hv;have HS:=hide hs;clear hv hs
 go_enter Tryz.func111,Tryz.ntmps111
 go_wp2
 go_loopg [3,8] ss.length (fun g n i wr=>∃j:Nat,j+g=ss.length∧i=.int .i64 j∧n=.int .i64 (countP (ss.take j):Nat)∧wr=w)
 case atStart=>exact⟨0,by omega,rfl,rfl,rfl⟩
 case round=>
  obtain⟨j,hj,rfl,rfl,rfl⟩:=hrel
  by_cases hlt:j<ss.length
  ·obtain⟨s,hsj⟩:∃x,ss[j]?=some x:=⟨_,List.getElem?_eq_getElem hlt⟩;obtain⟨b2,o2,_,rfl,hb2,rfl,hc2⟩:=Kind.bQ HV.out hsj;have e0:wr.cell? ⟨b2,o2+j,none⟩=some (.int .i64 s):=by simpa[lY] using hc2 0 _ rfl
   have hs1:=HS.out s (List.mem_of_getElem? hsj);have hcl:countP (ss.take j)≤1000:=countP_le fun t ht=>HS.out t (List.mem_of_mem_take ht);have hck:countP (ss.take (j+1))=max (countP (ss.take j)) (s+1):=by rw[List.take_add_one,hsj];exact CW _ _
   have HCk:=hide hck;generalize countP (ss.take j)=cj at*;have hmax:max (cj:Int) ((s:Int)+1)=((max cj (s+1):Nat):Int):=by omega
   clear hc2 hsj hck;go_wp2
   go_roundg (ss.length- (j+1))
   case measure=>omega
   case rel=>exact⟨j+1,by omega,by go_num,by rw[HCk.out],rfl⟩
  ·have e:ss.take j=ss:=List.take_of_length_le (by omega);rw[e];go_wp2;go_ret;exact⟨rfl,rfl⟩
end Go.Proofs.YtafmbokfkbccaaaGreatDoor
namespace Go.Proofs.YtafmbokfkbccaaaGreatDoor
open Go.RowKit Go.Sort
theorem Bq:∃i,Tryz.prog.info? 85=some i∧i.zero=some (.agg #[.bool false,.string ByteArray.empty,.slice none 0 0])∧i.size=3∧i.bytes=48:=⟨Tryz.t85,by kernel_rfl,by kernel_rfl,by kernel_rfl,by kernel_rfl⟩
def sO (w0:World) (lo:Nat) (w:World) (v:Value) (l:List aI):Prop:=
 ∃xs,w.ownsRow lo 85 3 v l.length xs∧∀i a,l[i]?=some a→∃c,bP.is bg w0 c a∧∀j u,c[j]?=some u→xs[i*3+j]?=some u
theorem sO.nil (w0:World) (lo:Nat) (w:World):sO w0 lo w (.slice none 0 0) []:=⟨[],World.ownsRow_nil w _ _ _,fun i a h=>by simp at h⟩
theorem sO.slice {w0 w:World} {lo:Nat} {v:Value} {l:List aI} (h:sO w0 lo w v l):∃a cap,v=.slice a l.length cap:=by
 obtain⟨xs,ho,_⟩:=h;rcases ho.2 with⟨rfl,e⟩|⟨g,cap,cur,rfl,_⟩
 ·exact⟨none,0,by rw[e]⟩
 ·exact⟨_,cap,rfl⟩
theorem sO.lo {w0 w:World} {lo:Nat} {v:Value} {l:List aI} (h:sO w0 lo w v l):∀k,v.ownBlock=some k→lo≤k∧k<w.heap.size:=fun k e=>by
 obtain⟨xs,ho,_⟩:=h;exact ho.lt k e
theorem sO.more {w0 w:World} {lo:Nat} {v:Value} {l:List aI} (h:sO w0 lo w v l) (hs:lo≤w.heap.size) {c:List Value} {a:aI} (hc:bP.is bg w0 c a) (hl:(l.length+1)*48≤140737488355328):
  ∃v' w',(Builtin.append_ #[73,73] 73 #[v,.slice (some ⟨w.heap.size,0,none⟩) 1 1]).run Tryz.prog (w.alloc (.cells c.toArray 85))=.ok v' w'∧sO w0 lo w' v' (l++[a])∧(w.alloc (.cells c.toArray 85)).grownBy w' v.ownBlock∧w.drawn≤w'.drawn:=by
 obtain⟨i,i1,i2,i3,i4⟩:=Bq;obtain⟨xs,ho,hx⟩:=h;have hcl:c.length=3:=bP.len hc;have hnews:∀j u,c[j]?=some u→(w.alloc (.cells c.toArray 85)).cell? ((⟨w.heap.size,0,none⟩:Addr).add j)=some u:=by
  intro j u hu;rw[Addr.add_lit,Nat.zero_add,cell_of_row _ w.heap.size j c.toArray 85 (0,0) (heap_alloc_new w _)];simpa using hu
 obtain⟨v',w',hrun,r1,r2,r3,_⟩:=eD (P:=Tryz.prog) (w.alloc (.cells c.toArray 85)) lo 73 73 85 i _ 3 48 Tryz.underlying73 i1 i2 i3 i4 rfl (by omega) v l.length xs (ho.alloc _) ⟨w.heap.size,0,none⟩ 1 1 c (by rw[hcl]) hnews
  (bP.one hc) (by simp only[maxLen];omega) hl (by simp;omega)
 refine⟨v',w',hrun,⟨xs++c,by simpa using r1,fun j y hj=> ?_⟩,r2,r3⟩;have hxl:xs.length=l.length*3:=ho.1
 by_cases hjl:j<l.length
 ·rw[List.getElem?_append_left hjl] at hj;obtain⟨d,d1,d2⟩:=hx j y hj;refine⟨d,d1,fun q u hu=> ?_⟩;have:=d2 q u hu;rw[List.getElem?_append_left (List.getElem?_eq_some_iff.1 this).1];exact this
 ·rw[List.getElem?_append_right (by omega)] at hj;have hj':j=l.length:=by
   have:=(List.getElem?_eq_some_iff.1 hj).1;simp at this;omega
  subst hj';simp at hj;subst hj;refine⟨c,hc,fun q u hu=> ?_⟩;rw[List.getElem?_append_right (by omega),hxl,Nat.add_sub_cancel_left];exact hu
theorem sO.sl {w0 w:World} {lo:Nat} {v:Value} {l:List aI} (h:sO w0 lo w v l) (hb:Below w0.heap.size w0 w) (hl:l.length≤8796093022208):bP.sl bg w v l:=by
 obtain⟨xs,ho,hx⟩:=h;rcases ho.2 with⟨rfl,e⟩|⟨g,cap,cur,rfl,hbg,hg,hnc,_⟩
 ·have:l=[]:=List.eq_nil_of_length_eq_zero e;subst this;exact bP.eT _ _ _ _
 ·refine⟨⟨hl,hnc⟩,_,cap,rfl,fun _=>⟨g,0,rfl,trivial,(Array.getElem?_eq_some_iff.1 hg).1,fun i x hi=> ?_⟩⟩;obtain⟨c,c1,c2⟩:=hx i x hi;refine⟨c,bP.kept c1 hb.size fun k hk _=>hb.block k hk,fun j u hu=> ?_⟩;have:=ho.cells (g:=g) rfl _ u (c2 j u hu);rw[Addr.add_lit] at this;rw[Nat.add_assoc];exact this
theorem sO.one {w0 w:World} {lo:Nat} {c:List Value} {a:aI} (hc:bP.is bg w0 c a) (hs:lo≤w.heap.size):sO w0 lo (w.alloc (.cells c.toArray 85)) (.slice (some ⟨w.heap.size,0,none⟩) 1 1) [a]:=by
 have hcl:c.length=3:=bP.len hc;refine⟨c,⟨by rw[hcl];rfl,Or.inr ⟨w.heap.size,1,c.toArray,rfl,hs,heap_alloc_new _ _,by simp,by simp[maxLen],by simp[hcl],by show c.take 3=c;rw[←hcl];simp⟩⟩,fun i x hi=> ?_⟩;cases i with
 |zero=>
  simp at hi;subst hi;exact⟨c,hc,fun j u hu=>by rw[Nat.zero_mul,Nat.zero_add];exact hu⟩
 |succ i=>simp at hi
theorem sO.slB {w0 w:World} {lo b:Nat} {v:Value} {l:List aI} (h:sO w0 lo w v l) (hb:Below w0.heap.size w0 w) (hl:l.length≤8796093022208) (h1:w0.heap.size≤b) (h2:b<lo):bP.sl (fun k=>k≠b) w v l:=by
 obtain⟨xs,ho,hx⟩:=h;rcases ho.2 with⟨rfl,e⟩|⟨g,cap,cur,rfl,hbg,hg,hnc,_⟩
 ·have:l=[]:=List.eq_nil_of_length_eq_zero e;subst this;exact bP.eT _ _ _ _
 ·refine⟨⟨hl,hnc⟩,_,cap,rfl,fun _=>⟨g,0,rfl,by show g≠b;omega,(Array.getElem?_eq_some_iff.1 hg).1,fun i x hi=> ?_⟩⟩;obtain⟨c,c1,c2⟩:=hx i x hi;refine⟨c,bP.kept (bP.mono c1 fun k hk _=>(by omega:k≠b)) hb.size fun k hk _=>hb.block k hk,fun j u hu=> ?_⟩;have:=ho.cells (g:=g) rfl _ u (c2 j u hu);rw[Addr.add_lit] at this;rw[Nat.add_assoc];exact this
end Go.Proofs.YtafmbokfkbccaaaGreatDoor
namespace Go.Proofs.YtafmbokfkbccaaaGreatDoor
open Go.RowKit Go.Sort
set_option maxHeartbeats 400000 in
theorem Jz (x:Int) (w:World):Calls Tryz.prog 186 #[.int .u8 x] w fun e w'=>e=.returned (.bool (jm x))∧w'=w:=by
 go_enter Tryz.func186,Tryz.ntmps186
 go_wp2
 all_goals
  go_ret;refine⟨bW ?_,rfl⟩;rw[Bool.eq_iff_iff];simp[jm];omega
set_option maxHeartbeats 400000 in
theorem Rn (x:Int) (w:World):Calls Tryz.prog 249 #[.int .u8 x] w fun e w'=>e=.returned (.bool (kH x))∧w'=w:=by
 cases hs:jm x
 ·go_enter Tryz.func249,Tryz.ntmps249
  go_wp2_with (go_at_call 186;refine(Jz _ _).mono ?_;rintro e w' ⟨rfl,rfl⟩;rw[hs])
  all_goals
   go_ret;refine⟨bW ?_,rfl⟩;rw[Bool.eq_iff_iff];simp[kH,hs];omega
 ·go_enter Tryz.func249,Tryz.ntmps249
  go_wp2_with (go_at_call 186;refine(Jz _ _).mono ?_;rintro e w' ⟨rfl,rfl⟩;rw[hs])
  go_ret;exact⟨bW (by simp[kH,hs]),rfl⟩
theorem bytesOf (s:ByteArray) (w:World):∃cp arr fr,(convert 9 48 (.string s)).run Tryz.prog w=.ok (.slice (some ⟨w.heap.size,0,none⟩) s.size cp) (w.drew.alloc (.cells arr 5 fr))∧
  ∀(j:Nat) (h:j<s.size),(w.drew.alloc (.cells arr 5 fr)).cell? ⟨w.heap.size,j,none⟩=some (.int .u8 (s[j].toNat:Int)):=by
 refine⟨_,_,_,run_bytes_of_string (P:=Tryz.prog) w 9 48 5 s Tryz.underlying9 Tryz.underlying48 Tryz.underlying5,fun j h=> ?_⟩;rw[show w.heap.size=w.drew.heap.size from rfl,World.cell?_alloc_mark];rw[bytesRow_at s _ j h]
 rfl
def sw (s:ByteArray):Bool:=oJ s 0&&decide (0<s.size∧s.size≤12)
set_option maxHeartbeats 1000000 in
theorem JA (s:ByteArray) (w:World) (hs:s.size≤9223372036854775807):Calls Tryz.prog 185 #[.string s] w fun e w'=>e=.returned (.bool (sw s))∧Later w w':=by
 obtain⟨cp,arr,fr,hcv,hcell⟩:=bytesOf s w;have HC:=hide hcell;clear hcell;unfold sw
 go_enter Tryz.func185,Tryz.ntmps185
 go_wp2
 go_loop [8] (fun i=>∃k:Nat,k≤s.size∧i=.int .i64 k∧Hid (oJ s 0=oJ s k)) (fun i=>s.size- (intOf i).toNat)
 case atStart=>exact⟨0,by omega,rfl,(rfl:_=_)⟩
 case round=>
  obtain⟨k,hk,rfl,HE⟩:=hrel
  by_cases hlt:k<s.size
  ·have hcl:(w.alloc (.cells arr 5 fr)).cell? ⟨w.heap.size,k,none⟩=some (.int .u8 (s[k].toNat:Int)):=HC.out k hlt;have hltz:(k:Int)<(s.size:Int):=by omega
   have ha:=qB hlt;generalize(s[k].toNat:Int)=ch at*;cases hc:kH ch
   ·have F:Hid (oJ s 0=false):=by show _=_;rw[HE.out,ha,hc];rfl
    clear ha
    go_wp2_with (go_at_call 249;refine(Rn _ _).mono ?_;rintro e w' ⟨rfl,rfl⟩;rw[hc])
    go_ret;exact⟨bW (by rw[F.out];rfl),(by repeat (first|exact Later.refl _|assumption|refine Later.drewN ?_ _|refine Later.drew ?_|refine Later.alloc ?_ _|refine Later.grow ?_ _))⟩
   ·have F:Hid (oJ s 0=oJ s (k+1)):=by show _=_;rw[HE.out,ha,hc];rfl
    clear ha
    go_wp2_with (go_at_call 249;refine(Rn _ _).mono ?_;rintro e w' ⟨rfl,rfl⟩;rw[hc])
    go_round
    case rel=>exact⟨k+1,by omega,by go_num,F⟩
    case measure=>simp[intOf];omega
  ·have F:Hid (oJ s 0=true):=by show _=_;rw[HE.out,GQ (by omega)]
   by_cases h0:0<s.size
   ·have h0z:(0:Int)<(s.size:Int):=by omega
    go_wp2
    all_goals
     go_ret;exact⟨bW (by rw[F.out,Bool.eq_iff_iff];simp;omega),(by repeat (first|exact Later.refl _|assumption|refine Later.drewN ?_ _|refine Later.drew ?_|refine Later.alloc ?_ _|refine Later.grow ?_ _))⟩
   ·have h0z:¬(0:Int)<(s.size:Int):=by omega
    go_wp2;go_ret;exact⟨bW rfl,(by repeat (first|exact Later.refl _|assumption|refine Later.drewN ?_ _|refine Later.drew ?_|refine Later.alloc ?_ _|refine Later.grow ?_ _))⟩
theorem F6 {x:Int} (h:jm x=true):kH x=true:=by simp[kH,h]
theorem LY {s:ByteArray} (h:sw s=false):gM s=false:=by
 unfold sw at h
 by_cases hr:0<s.size∧s.size≤12
 ·rw[decide_eq_true hr,Bool.and_true,qB hr.1] at h;rw[oK hr.1 hr.2];cases hb:jm s[0].toNat
  ·rfl
  ·rw[F6 hb,Bool.true_and] at h;rw[h];rfl
 ·unfold gM;rw[decide_eq_false hr];rfl
theorem JB {s:ByteArray} (h:sw s=true):∃h0:0<s.size,gM s=jm s[0].toNat:=by
 unfold sw at h;rw[Bool.and_eq_true,decide_eq_true_eq] at h;refine⟨h.2.1,?_⟩;rw[oK h.2.1 h.2.2];have h1:=h.1;rw[qB h.2.1,Bool.and_eq_true] at h1;rw[h1.2,Bool.and_true]
set_option maxHeartbeats 400000 in
theorem x9 (s:ByteArray) (w:World) (hs:s.size≤9223372036854775807):Calls Tryz.prog 113 #[.string s] w fun e w'=>e=.returned (.bool (gM s))∧Later w w':=by
 cases hw:sw s
 ·have hn:=LY hw;rw[hn]
  go_enter Tryz.func113,Tryz.ntmps113
  go_wp2_with (go_at_call 185;refine(JA _ _ hs).mono ?_;rintro e w1 ⟨rfl,hL⟩;rw[hw])
  go_ret;exact⟨rfl,hL⟩
 ·obtain⟨h0,hn⟩:=JB hw;rw[hn];have h0z:(0:Int)<(s.size:Int):=by omega
  go_enter Tryz.func113,Tryz.ntmps113
  go_wp2_with (first
   |(go_at_call 185;refine(JA _ _ hs).mono ?_;rintro e w1 ⟨rfl,hL⟩;rw[hw])
   |(go_at_call 186;refine(Jz _ _).mono ?_;rintro e w2 ⟨rfl,rfl⟩))
  go_ret;exact⟨rfl,by assumption⟩
def okF (f:aO):Prop:=f.1.size≤9223372036854775807∧∀s∈f.2,s.size≤9223372036854775807
theorem LZ {f:aO} (h:okF f) (k:Nat):(f.2.getD k ByteArray.empty).size≤9223372036854775807:=by
 rw[List.getD_eq_getElem?_getD];cases e:f.2[k]? with
 |none=>simp
 |some s=>exact h.2 s (List.mem_of_getElem? e)
set_option maxHeartbeats 1000000 in
theorem M8 (v:Value) (f:aO) (w:World) (h:dH w v f) (hok:okF f):
  Calls Tryz.prog 62 #[v] w fun e w'=>e=.returned (.int .i64 (fI f))∧Later w w':=by
 obtain⟨s,rfl,l0,a,c,rfl,hc⟩:=h;have HC:=hide hc;have HOK:=hide hok;have hn0:=hok.1;clear hc hok;obtain⟨n,x⟩:=f;unfold fI;dsimp only at*;cases hn:gM n
 ·go_enter Tryz.func62,Tryz.ntmps62
  go_wp2_with (go_at_call 113;refine(x9 _ _ hn0).mono ?_;rintro e w1 ⟨rfl,hL⟩;rw[hn])
  go_ret;exact⟨rfl,((Later.refl _).alloc _).trans hL⟩
 ·by_cases h4:4<x.length
  ·rw[if_pos h4]
   go_enter Tryz.func62,Tryz.ntmps62
   go_wp2_with fail
   refine(x9 _ _ hn0).mono ?_;rintro e w1 ⟨rfl,hL⟩;rw[hn];have z1:w1.cell? ⟨w.heap.size,1,none⟩=some (.slice a x.length c):=by rw[hL.cell (by simp)];simp
   go_wp2;go_ret;exact⟨rfl,((Later.refl _).alloc _).trans hL⟩
  ·rw[if_neg h4];simp only[Bool.not_true,Bool.false_eq_true,if_false];generalize hres:(if gq x 0=true then(7:Int) else 0)=r;have WK:=hide hres;clear hres
   go_enter Tryz.func62,Tryz.ntmps62
   go_wp2_with fail
   refine(x9 _ _ hn0).mono ?_;rintro e w1 ⟨rfl,hL⟩;rw[hn];have hL0:Later w w1:=((Later.refl _).alloc _).trans hL;have z1:w1.cell? ⟨w.heap.size,1,none⟩=some (.slice a x.length c):=by rw[hL.cell (by simp)];simp
   go_wp2
   go_loopw [16] (fun i wr=>∃k:Nat,k≤x.length∧i=.int .i64 k∧Later w1 wr∧Hid (gq x 0=gq x k)) (fun i _=>x.length- (intOf i).toNat)
   case atStart=>exact⟨0,by omega,rfl,Later.refl _,(rfl:_=_)⟩
   case round=>
    obtain⟨k,hk,rfl,hLr,HE⟩:=hrel
    by_cases hlt:k<x.length
    ·obtain⟨b,off,rfl,hb,hcell⟩:=HC.out (by intro e;rw[e] at hlt;simp at hlt);have hltz:(k:Int)<(x.length:Int):=by omega
     have g1:=hcell k hlt;rw[←(hL0.trans hLr).cell (p:=⟨b,off+k,none⟩) hb] at g1;have hs:=sU hlt;have hsz:=LZ HOK.out k;dsimp only at hsz;clear hcell;generalize x.getD k ByteArray.empty=s at*;cases hns:gM s
     ·have F:Hid (gq x 0=true):=by show _=_;rw[HE.out,hs,hns];rfl
      clear hs
      go_wp2_with (go_at_call 113;refine(x9 _ _ hsz).mono ?_;rintro e w2 ⟨rfl,hL2⟩;rw[hns])
      go_ret;exact⟨qA (by rw[←WK.out,F.out];rfl),hL0.trans (hLr.trans hL2)⟩
     ·have F:Hid (gq x 0=gq x (k+1)):=by show _=_;rw[HE.out,hs,hns];rfl
      clear hs
      go_wp2_with (go_at_call 113;refine(x9 _ _ hsz).mono ?_;rintro e w2 ⟨rfl,hL2⟩;rw[hns])
      go_roundw
      case rel=>exact⟨k+1,by omega,by go_num,hLr.trans hL2,F⟩
      case measure=>simp[intOf];omega
    ·have F:Hid (gq x 0=false):=by show _=_;rw[HE.out,wS (by omega)]
     go_wp2;go_ret;exact⟨qA (by rw[←WK.out,F.out];rfl),hL0.trans hLr⟩
end Go.Proofs.YtafmbokfkbccaaaGreatDoor
