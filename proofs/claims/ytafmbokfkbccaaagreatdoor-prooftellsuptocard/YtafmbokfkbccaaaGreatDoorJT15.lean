import Derived.Test.YtafmbokfkbccaaaGreatDoorJT9
import Derived.Test.YtafmbokfkbccaaaGreatDoorJT14
import Derived.BigQuiet
import Derived.Test.YtafmbokfkbccaaaGreatDoorJT5
import Derived.Test.YtafmbokfkbccaaaGreatDoorJT2
import Derived.Test.YtafmbokfkbccaaaGreatDoorJT7
namespace Go.Proofs.YtafmbokfkbccaaaGreatDoor
open Go.RowKit Go.Sort
def Lb (all:List au) (b:List aB) (a:aI):Bool:=a.no&&(match bA a b with|none=>true|some f=>inB all f)
theorem IL (all:List au) (body:List aI) (b:List aB):Kv all body b=if body.any (Lb all b) then 10 else 0:=rfl
set_option maxRecDepth 100000 in
set_option maxHeartbeats 2000000 in
theorem NY (all:List au) (body:List aI) (l:List aB) (pv tv av bv lv:Value) (w:World) (hp:∃a n c,pv=.slice a n c) (ht:∃a n c,tv=.slice a n c) (ha:Facts w av all) (hr:fT all) (hb:bP.sl bg w bv body) (hl:bq.sl bg w lv l):
  Calls Tryz.prog 176 #[.agg #[pv,tv,av],bv,lv] w fun e w'=>e=.returned (.int .i64 (Kv all body l))∧Later w w':=by
 obtain⟨pa,pn,pc,rfl⟩:=hp;obtain⟨ta,tn,tc,rfl⟩:=ht;obtain⟨aa,ac,rfl⟩:=aC ha;obtain⟨ba,bc,rfl⟩:=Kind.slice hb;obtain⟨la,lc,rfl⟩:=Kind.slice hl;have hbl:=hb.1.1;obtain⟨wg,hwg⟩:∃wg,wg=w.alloc (.cells #[.slice pa pn pc,.slice ta tn tc,.slice aa all.length ac] 109):=⟨_,rfl⟩;have hLg:Later w wg:=by rw[hwg];exact(Later.refl w).alloc _
 have hRg:wg.heap[w.heap.size]?=some (.cells #[.slice pa pn pc,.slice ta tn tc,.slice aa all.length ac] 109 (0,0)):=by rw[hwg];exact heap_alloc_new w _
 have hlg:w.heap.size<wg.heap.size:=(Array.getElem?_eq_some_iff.1 hRg).1;have HA:=hide (ha.later hLg);have HB:=hide (Kind.aJ hb hLg);have HL:=hide (Kind.aJ hl hLg);have HR:=hide hr;have HLg:=hide hLg;have HRg:=hide hRg;have HWg:=hide hwg;rw[IL];clear ha hb hl hr hLg hRg hwg;obtain⟨P,hP⟩:∃P,P=Lb all l:=⟨_,rfl⟩;rw[←hP];have HPD:=hide hP;obtain⟨RR,hRR⟩:∃RR:Int,RR=if body.any P then 10 else 0:=⟨_,rfl⟩;rw[←hRR];have HRR:=hide hRR;clear hP hRR
 go_enter Tryz.func176,Tryz.ntmps176
 go_wp2_with (rw[←HWg.out])
 clear HWg
 go_loopg [13] body.length (fun g i wr=>∃j:Nat,j+g=body.length∧i=.int .i64 j∧Hid ((body.take j).any P=false)∧Hid (Later wg wr))
 case atStart=>exact⟨0,by omega,rfl,(by simp:_=_),Later.refl _⟩
 case round=>
  obtain⟨j,hj,rfl,HN,HW⟩:=hrel
  by_cases hlt:j<body.length
  ·obtain⟨a,ha⟩:∃a,body[j]?=some a:=⟨_,List.getElem?_eq_getElem hlt⟩;obtain⟨b1,o1,_,e1,hb1,⟨xv,hce,htv⟩,hc⟩:=Kind.bQ HB.out ha;subst e1;subst hce;have d0:wr.cell? ⟨b1,o1+j*3,none⟩=some (.bool a.no):=by rw[HW.out.cell (p:=⟨b1,o1+j*3,none⟩) hb1];simpa[bP] using hc 0 _ rfl
   have d1:wr.cell? ⟨b1,o1+j*3+1,none⟩=some (.string (bs a.name)):=by rw[HW.out.cell (p:=⟨b1,o1+j*3+1,none⟩) hb1];simpa[bP] using hc 1 _ rfl
   have d2:wr.cell? ⟨b1,o1+j*3+2,none⟩=some xv:=by rw[HW.out.cell (p:=⟨b1,o1+j*3+2,none⟩) hb1];simpa[bP] using hc 2 _ rfl
   obtain⟨xa,xc,rfl⟩:=Kind.slice htv;have htk:(body.take (j+1)).any P=((body.take j).any P||P a):=by rw[List.take_add_one,ha];simp
   have hmem:a∈body:=List.mem_of_getElem? ha;obtain⟨wa,hwa⟩:∃wa,wa=wr.alloc (.cells #[.bool a.no,.string (bs a.name),.slice xa a.terms.length xc] 85):=⟨_,rfl⟩;have hLa:Later wr wa:=by rw[hwa];exact(Later.refl wr).alloc _
   have hRa:wa.heap[wr.heap.size]?=some (.cells #[.bool a.no,.string (bs a.name),.slice xa a.terms.length xc] 85 (0,0)):=by rw[hwa];exact heap_alloc_new wr _
   obtain⟨c0,c1,c2,_⟩:=Co hRa;have hLA:=HW.out.trans hLa;have HFi:=hide (NC a (.slice xa a.terms.length xc) (.slice la l.length lc) l wa (Kind.aJ htv hLA) (Kind.aJ HL.out hLA));have HLa:=hide hLA;have HWa:=hide hwa;clear hc ha htv hwa hLa hRa hLA;cases hno:a.no with
   |false=>
    have HN2:Hid ((body.take (j+1)).any P=false):=by
     show _=_;rw[htk,HN.out,HPD.out];unfold Lb;rw[hno];rfl
    rw[hno] at d0 HWa c0;clear hno htk HN HFi;generalize bs a.name=nm at*
    go_wp2_with (rw[←HWa.out])
    go_roundg (body.length- (j+1))
    case measure=>omega
    case rel=>exact⟨j+1,by omega,by go_num,HN2,HLa⟩
   |true=>
    rw[hno] at d0 HWa c0 HFi;have c1':wa.cell? ⟨wr.heap.size,0+1,none⟩=some (.string (bs a.name)):=c1;have c2':wa.cell? ⟨wr.heap.size,0+2,none⟩=some (.slice xa a.terms.length xc):=c2;cases hf:bA a l with
    |none=>
     have HY:Hid (body.any P=true):=List.any_eq_true.2 ⟨a,hmem,by rw[HPD.out];unfold Lb;rw[hno,hf];rfl⟩;rw[hf] at HFi;simp only[Option.isSome_none] at HFi;clear hno htk HN hf;generalize bs a.name=nm at*
     go_wp2_with (first|(rw[←HWa.out])|fail)
     refine HFi.out.mono ?_;rintro e w2 ⟨v2,rfl,⟨s2,rfl,hs2⟩,hL2⟩;obtain⟨ya,yc,rfl⟩:=bB hs2;have HL2:=hide (HLa.out.trans hL2);clear hs2 hL2 HFi;go_wp2;go_ret;exact⟨by rw[HRR.out,if_pos HY.out];rfl,HLg.out.trans (HL2.out.alloc _)⟩
    |some f=>
     rw[hf] at HFi;have hfl:filled a l=f:=by unfold filled;rw[hf];rfl
     rw[hfl] at HFi;simp only[Option.isSome_some] at HFi;have HPa:Hid (P a=inB all f):=by show _=_;rw[HPD.out];unfold Lb;rw[hno,hf];rfl
     clear hno hf hfl;generalize bs a.name=nm at*
     go_wp2_with (first|(rw[←HWa.out])|fail)
     refine HFi.out.mono ?_;rintro e w2 ⟨v2,rfl,hfv,hL2⟩;obtain⟨s2,rfl,hs2⟩:=hfv;obtain⟨ya,yc,rfl⟩:=bB hs2;obtain⟨wf,hwf⟩:∃wf,wf=w2.alloc (.cells #[.string f.1,.slice ya f.2.length yc] 27):=⟨_,rfl⟩;have hLf:Later w2 wf:=by rw[hwf];exact(Later.refl w2).alloc _
     have hRf:wf.heap[w2.heap.size]?=some (.cells #[.string f.1,.slice ya f.2.length yc] 27 (0,0)):=by rw[hwf];exact heap_alloc_new w2 _
     have hLF:=HLa.out.trans (hL2.trans hLf);have hrg:=(hLF.block hlg).trans HRg.out;have g2:wf.cell? ⟨w.heap.size,2,none⟩=some (.slice aa all.length ac):=by rw[cell_of_row _ _ _ _ _ _ hrg];rfl
     have f0:wf.cell? ⟨w2.heap.size,0,none⟩=some (.string f.1):=by rw[cell_of_row _ _ _ _ _ _ hRf];rfl
     have f1:wf.cell? ⟨w2.heap.size,0+1,none⟩=some (.slice ya f.2.length yc):=by rw[cell_of_row _ _ _ _ _ _ hRf];rfl
     have hin:=inC (.slice aa all.length ac) (.agg #[.string f.1,.slice ya f.2.length yc]) all f wf (HA.out.later hLF) ⟨_,rfl,hs2.later hLf⟩ HR.out;rw[qR] at hin;have HIn:=hide hin;have HLF:=hide hLF;have HWf:=hide hwf;obtain⟨fn,aH⟩:=f;dsimp only at*;clear hs2 hL2 hLf hRf hrg hin hwf HFi hLF;cases hb:inB all (fn,aH) with
     |true=>
      have HY:Hid (body.any P=true):=List.any_eq_true.2 ⟨a,hmem,by rw[HPa.out];exact hb⟩;rw[hb] at HIn;clear hb htk HPa HN
      go_wp2_with (first|(rw[←HWf.out])|fail)
      refine HIn.out.mono ?_;rintro e w3 ⟨rfl,hL3⟩;have HL3:=hide (HLF.out.trans hL3);clear hL3 HIn;go_wp2;go_ret;exact⟨by rw[HRR.out,if_pos HY.out];rfl,HLg.out.trans HL3.out⟩
     |false=>
      have HN2:Hid ((body.take (j+1)).any P=false):=by show _=_;rw[htk,HN.out,HPa.out,hb];rfl
      rw[hb] at HIn;clear hb htk HPa HN
      go_wp2_with (first|(rw[←HWf.out])|fail)
      refine HIn.out.mono ?_;rintro e w3 ⟨rfl,hL3⟩;have HL3:=hide (HLF.out.trans hL3);clear hL3 HIn;go_wp2
      go_roundg (body.length- (j+1))
      case measure=>omega
      case rel=>exact⟨j+1,by omega,by go_num,HN2,HL3⟩
  ·have HNN:Hid (body.any P=false):=by have:=HN.out;rw[List.take_of_length_le (by omega)] at this;exact this
   go_wp2;go_ret;exact⟨by rw[HRR.out,if_neg (by rw[HNN.out];simp)];rfl,HLg.out.trans HW.out⟩
end Go.Proofs.YtafmbokfkbccaaaGreatDoor
namespace Go.Proofs.YtafmbokfkbccaaaGreatDoor
open Go.RowKit Go.Sort
theorem y7 {a:aI} {f:au} {l m:List aB} (h:dw a f l=some m):m.length≤l.length+a.terms.length:=by
 have hk:bK l=((bK l).map raw).map bs:=by
  rw[List.map_map]
  conv=>lhs;rw[←List.map_id (bK l)]
  exact List.map_congr_left fun x _=>(iX x).symm
 have h1:=congrArg List.length (jh hk h).2.1;have h2:=kR a.terms ((bK l).map raw);have e:∀q:List aB,(bK q).length=q.length:=fun q=>by unfold bK;rw[List.length_map]
 rw[e,List.length_map] at h1;rw[List.length_map,e] at h2;omega
theorem IQ {α:Type} {K:Kind α} {B:Nat→Prop} {w:World} {b off n cap:Nat} {x:α} {l:List α} (h:K.sl B w (.slice (some ⟨b,off,none⟩) n cap) (x::l)):K.sl B w (.slice (if cap=1 then some ⟨b,off,none⟩ else some ⟨b,off+K.size,none⟩) l.length (cap-1)) l:=by
 obtain⟨h0,a',cap',e,h1⟩:=h;simp only[Value.slice.injEq] at e;obtain⟨rfl,rfl,rfl⟩:=e;obtain⟨b',off',e,hB,hb,hcl⟩:=h1 (by simp);simp only[Option.some.injEq,Addr.mk.injEq] at e;obtain⟨rfl,rfl,_⟩:=e;have h01:=h0.1;have h02:(x::l).length≤cap:=h0.2;simp only[List.length_cons] at h01 h02;cases l with
 |nil=>exact K.eT _ _ _ _
 |cons y l=>
  simp only[List.length_cons] at h01 h02;rw[if_neg (by omega)];refine⟨⟨by simp only[List.length_cons];omega,by show(y::l).length≤cap-1;simp only[List.length_cons];omega⟩,_,cap-1,rfl,fun _=>⟨b,_,rfl,hB,hb,fun i z hi=> ?_⟩⟩;obtain⟨d,d1,d2⟩:=hcl (i+1) z (by simpa using hi);refine⟨d,d1,fun j u hu=> ?_⟩;have:=d2 j u hu;rw[show off+(i+1)*K.size+j=off+K.size+i*K.size+j by rw[Nat.add_mul];omega] at this;exact this
theorem AO {a:aI} {as':List aI} {ks:List au} {b:List aB} (h:a.no=true):fJ (a::as') ks b=fJ as' ks b:=by
 conv=>lhs;unfold fJ
 rw[if_pos h]
theorem xH {a:aI} {as':List aI} {b:List aB} (h:a.no=false):fJ (a::as') [] b=(5,[]):=by
 unfold fJ;rw[if_neg (by simp[h])]
theorem xI {a:aI} {as':List aI} {k:au} {ks:List au} {b:List aB} (h:a.no=false) (hm:dw a k b=none):fJ (a::as') (k::ks) b=(8,[]):=by
 unfold fJ;rw[if_neg (by simp[h])];dsimp only;rw[hm]
theorem xJ {a:aI} {as':List aI} {k:au} {ks:List au} {b b':List aB} (h:a.no=false) (hm:dw a k b=some b'):fJ (a::as') (k::ks) b=fJ as' ks b':=by
 conv=>lhs;unfold fJ
 rw[if_neg (by simp[h])];dsimp only;rw[hm]
set_option maxRecDepth 100000 in
set_option maxHeartbeats 8000000 in
theorem Fv (all:List au) (r:aD) (x:bH) (n:Nat) (pv tv av hv bv xv:Value) (w:World) (hp:∃a n c,pv=.slice a n c) (ht:∃a n c,tv=.slice a n c) (ha:Facts w av all) (hr:fT all) (hh:eH.sl bg w hv r.head.terms) (hb:bP.sl bg w bv r.body) (hx:l8 n bg w xv x)
  (h4:r.head.terms.length≤4) (h5:r.body.length≤5) (hbt:∀a∈r.body,a.terms.length≤4):
  Calls Tryz.prog 99 #[.agg #[pv,tv,av],.agg #[.bool r.head.no,.string (bs r.head.name),hv,bv],xv] w fun e w'=>e=.returned (.int .i64 (lX all r x.fact (x.kids.map bH.fact)))∧Later w w':=by
 obtain⟨s,kv,rfl,hs,hkv⟩:=hx;obtain⟨pa,pn,pc,rfl⟩:=hp;obtain⟨ta,tn,tc,rfl⟩:=ht;obtain⟨aa,ac,rfl⟩:=aC ha;obtain⟨sa,sc,rfl⟩:=Kind.slice hs;obtain⟨ka,kc,rfl⟩:=Kind.slice hkv;obtain⟨ha',hc',rfl⟩:=Kind.slice hh;obtain⟨ba,bc,rfl⟩:=Kind.slice hb;obtain⟨A,hA⟩:∃A,A=w.heap.size:=⟨_,rfl⟩;obtain⟨w1,hw1⟩:∃w1,w1=((w.alloc (.cells #[.slice pa pn pc,.slice ta tn tc,.slice aa all.length ac] 109)).alloc (.cells #[.bool r.head.no,.string (bs r.head.name),.slice ha' r.head.terms.length hc',.slice ba r.body.length bc] 87)).alloc (.cells #[.string x.fact.1,.slice sa x.fact.2.length sc,.int .i64 x.rule,.slice ka x.kids.length kc] 30):=⟨_,rfl⟩;have hL1:Later w w1:=by rw[hw1];exact(((Later.refl w).alloc _).alloc _).alloc _
 have hs1:w1.heap.size=w.heap.size+3:=by rw[hw1];simp
 have hr0:w1.heap[w.heap.size]?=some (.cells #[.slice pa pn pc,.slice ta tn tc,.slice aa all.length ac] 109 (0,0)):=by
  rw[hw1];simp only[bY,World.size_alloc]
  repeat (first|rw[if_pos trivial]|rw[if_pos (by omega)]|rw[if_neg (by omega)])
 have hr1:w1.heap[w.heap.size+1]?=some (.cells #[.bool r.head.no,.string (bs r.head.name),.slice ha' r.head.terms.length hc',.slice ba r.body.length bc] 87 (0,0)):=by
  rw[hw1];simp only[bY,World.size_alloc]
  repeat (first|rw[if_pos trivial]|rw[if_pos (by omega)]|rw[if_neg (by omega)])
 have hr2:w1.heap[w.heap.size+2]?=some (.cells #[.string x.fact.1,.slice sa x.fact.2.length sc,.int .i64 x.rule,.slice ka x.kids.length kc] 30 (0,0)):=by
  rw[hw1];simp only[bY,World.size_alloc]
  repeat (first|rw[if_pos trivial]|rw[if_pos (by omega)]|rw[if_neg (by omega)])
 have HMe:=hide (KY r.head (.slice ha' r.head.terms.length hc') (.agg #[.string x.fact.1,.slice sa x.fact.2.length sc]) (.slice none 0 0) x.fact [] w1 (Kind.aJ hh hL1) ⟨_,rfl,(jd hs).later hL1⟩ (Kind.eT _ _ _ _ _) (by simp;omega));have HBd:=hide (Kind.aJ hb hL1);have HKv:=hide (Kind.aJ hkv hL1);have HAl:=hide (ha.later hL1);have HRi:=hide hr;have HBT:=hide hbt;have HL1:=hide hL1;have HR0:=hide hr0;have HR1:=hide hr1;have HR2:=hide hr2;have Sm:Hid (∀(b:List aB) (lv:Value) (w':World),Later w1 w'→bq.sl bg w' lv b→Calls Tryz.prog 176 #[.agg #[.slice pa pn pc,.slice ta tn tc,.slice aa all.length ac],.slice ba r.body.length bc,lv] w' fun e w''=>e=.returned (.int .i64 (Kv all r.body b))∧Later w' w''):=fun b lv w' h hl=>
  NY all r.body b _ _ _ _ lv w' ⟨_,_,_,rfl⟩ ⟨_,_,_,rfl⟩ ((ha.later hL1).later h) hr (Kind.aJ (Kind.aJ hb hL1) h) hl
 obtain⟨RR,hRR⟩:∃RR:Int,RR=lX all r x.fact (x.kids.map bH.fact):=⟨_,rfl⟩;rw[←hRR];unfold lX at hRR;have HW1:=hide hw1;have a0:w1.cell? ⟨w.heap.size+1,0,none⟩=some (.bool r.head.no):=by rw[cell_of_row _ _ _ _ _ _ hr1];rfl
 have a1:w1.cell? ⟨w.heap.size+1,0+1,none⟩=some (.string (bs r.head.name)):=by rw[cell_of_row _ _ _ _ _ _ hr1];rfl
 have a2:w1.cell? ⟨w.heap.size+1,0+2,none⟩=some (.slice ha' r.head.terms.length hc'):=by rw[cell_of_row _ _ _ _ _ _ hr1];rfl
 have f0:w1.cell? ⟨w.heap.size+1+1,0,none⟩=some (.string x.fact.1):=by rw[show w.heap.size+1+1=w.heap.size+2 from rfl,cell_of_row _ _ _ _ _ _ hr2];rfl
 have f1:w1.cell? ⟨w.heap.size+1+1,0+1,none⟩=some (.slice sa x.fact.2.length sc):=by rw[show w.heap.size+1+1=w.heap.size+2 from rfl,cell_of_row _ _ _ _ _ _ hr2];rfl
 clear ha hr hh hb hs hkv hL1 hr0 hr1 hr2 hw1 hbt hA A;cases hm:dw r.head x.fact [] with
 |none=>
  rw[hm] at HMe hRR;dsimp only at hRR;simp only[Option.isSome_none] at HMe;have HRR:=hide hRR;clear hm hRR Sm;obtain⟨⟨fn,aH⟩,rl,kids⟩:=x;dsimp only[bH.fact,bH.rule,bH.kids] at*;generalize bs r.head.name=nm at*;generalize r.head.no=no at*
  go_enter Tryz.func99,Tryz.ntmps99
  go_wp2_with (first|(rw[←HW1.out])|fail)
  refine HMe.out.mono ?_;rintro e w2 ⟨v2,rfl,hv2,hL2⟩;obtain rfl:v2=.slice none 0 0:=hv2;have HL2:=hide (HL1.out.trans hL2);clear hL2 HMe;go_wp2;go_ret;exact⟨by rw[HRR.out];rfl,HL2.out⟩
 |some b0=>
  rw[hm] at HMe hRR;dsimp only at hRR;simp only[Option.isSome_some] at HMe;have hb0:=y7 hm;simp only[List.length_nil] at hb0;obtain⟨KG,hKG⟩:∃KG,KG=fJ r.body (x.kids.map bH.fact) b0:=⟨_,rfl⟩;rw[←hKG] at hRR;have HKG:=hide hKG;have HRR:=hide hRR;clear hm hRR hKG;obtain⟨⟨fn,aH⟩,rl,kids⟩:=x;dsimp only[bH.fact,bH.rule,bH.kids] at*;obtain⟨hd,body⟩:=r;dsimp only at*;generalize bs hd.name=nm at*;generalize hd.no=no at*
  go_enter Tryz.func99,Tryz.ntmps99
  go_wp2_with (first|(rw[←HW1.out])|fail)
  refine HMe.out.mono ?_;rintro e w2 ⟨v2,rfl,hv2,hL2⟩;have Qy:bq.own 190 w1.heap.size w2 v2 b0:=hv2;have hb2:bq.sl bg w2 v2 b0:=Kind.dQ (Kind.fA Qy (by omega));obtain⟨va,vn,vc,rfl⟩:∃a n c,v2=.slice a n c:=by obtain⟨a,c,e⟩:=Kind.slice hb2;exact⟨a,_,c,e⟩
  have HB2:=hide hb2;have HL2:=hide hL2;have hr2:=(hL2.block (by omega)).trans HR2.out;have hr1:=(hL2.block (by omega)).trans HR1.out;have k3:w2.cell? ⟨w.heap.size+1+1,3,none⟩=some (.slice ka kids.length kc):=by rw[show w.heap.size+1+1=w.heap.size+2 from rfl,cell_of_row _ _ _ _ _ _ hr2];rfl
  have k4:w2.cell? ⟨w.heap.size+1,3,none⟩=some (.slice ba body.length bc):=by rw[cell_of_row _ _ _ _ _ _ hr1];rfl
  have HK2:=hide (Kind.aJ HKv.out hL2);have hbl:=HBd.out.1.1;clear hv2 Qy hb2 hL2 hr2 hr1 HMe a0 a1 a2 f0 f1 HW1;go_wp2;clear k3 k4
  go_loopg [7,9,27] body.length (fun g lv kv i wr=>∃(j:Nat) (b:List aB) (ks:List bH),j+g=body.length∧i=.int .i64 j∧Hid (bq.sl bg wr lv b)∧b.length≤4+4*j∧Hid ((lD n).sl bg wr kv ks)∧Hid (KG=fJ (body.drop j) (ks.map bH.fact) b)∧Hid (Later w1 wr))
  case atStart=>exact⟨0,b0,kids,by omega,rfl,HB2,by omega,HK2,(by rw[List.drop_zero];exact HKG.out:_=_),HL2⟩
  case round=>
   clear HB2 HK2 HL2;obtain⟨j,b,ks,hj,rfl,HB,hbn,HK,HG,HL⟩:=hrel;obtain⟨la,lc,hlv⟩:=Kind.slice HB.out;obtain⟨qa,qc,hkv⟩:=Kind.slice HK.out;subst hlv;subst hkv
   by_cases hlt:j<body.length
   ·obtain⟨a,ha⟩:∃a,body[j]?=some a:=⟨_,List.getElem?_eq_getElem hlt⟩;obtain⟨b1,o1,_,e1,hb1,⟨xv,hce,htv⟩,hc⟩:=Kind.bQ HBd.out ha;subst e1;subst hce;have d0:wr.cell? ⟨b1,o1+j*3,none⟩=some (.bool a.no):=by rw[HL.out.cell (p:=⟨b1,o1+j*3,none⟩) hb1];simpa[bP] using hc 0 _ rfl
    have d1:wr.cell? ⟨b1,o1+j*3+1,none⟩=some (.string (bs a.name)):=by rw[HL.out.cell (p:=⟨b1,o1+j*3+1,none⟩) hb1];simpa[bP] using hc 1 _ rfl
    have d2:wr.cell? ⟨b1,o1+j*3+2,none⟩=some xv:=by rw[HL.out.cell (p:=⟨b1,o1+j*3+2,none⟩) hb1];simpa[bP] using hc 2 _ rfl
    obtain⟨xa,xc,rfl⟩:=Kind.slice htv;have hdr:body.drop j=a::body.drop (j+1):=by
     obtain⟨hi,e⟩:=List.getElem?_eq_some_iff.1 ha;rw[List.drop_eq_getElem_cons hi,e]
    have hat:=HBT.out a (List.mem_of_getElem? ha);have hg:=HG.out;rw[hdr] at hg;obtain⟨wa,hwa⟩:∃wa,wa=wr.alloc (.cells #[.bool a.no,.string (bs a.name),.slice xa a.terms.length xc] 85):=⟨_,rfl⟩;have hLa:Later wr wa:=by rw[hwa];exact(Later.refl wr).alloc _
    have hRa:wa.heap[wr.heap.size]?=some (.cells #[.bool a.no,.string (bs a.name),.slice xa a.terms.length xc] 85 (0,0)):=by rw[hwa];exact heap_alloc_new wr _
    obtain⟨c0,c1,c2,hla⟩:=Co hRa;have hLA:=HL.out.trans hLa;have HTa:=hide (Kind.aJ htv hLA);have HLa:=hide hLA;have HWa:=hide hwa;have HRa:=hide hRa;have HBa:=hide (Kind.aJ HB.out hLa);have HKa:=hide (Kind.aJ HK.out hLa);clear hc ha htv hwa hLa hRa hLA HB HK HL HG hdr;cases hno:a.no with
    |true=>
     rw[AO hno] at hg;rw[hno] at d0 HWa c0;have HG2:=hide hg;clear hno hg;generalize bs a.name=nm2 at*
     go_wp2_with (rw[←HWa.out])
     go_roundg (body.length- (j+1))
     case measure=>omega
     case rel=>exact⟨j+1,b,ks,by omega,by go_num,HBa,by omega,HKa,HG2,HLa⟩
    |false=>
     rw[hno] at d0 HWa c0 HRa;cases ks with
     |nil=>
      rw[List.map_nil,xH hno] at hg;have HE:Hid (RR=5):=by show _=_;rw[HRR.out,hg];rfl
      clear hno hg;generalize bs a.name=nm2 at*
      go_wp2_with (rw[←HWa.out])
      go_ret;exact⟨by rw[HE.out];rfl,HL1.out.trans HLa.out⟩
     |cons k ks=>
      rw[List.map_cons] at hg;cases n with
      |zero=>
       obtain⟨c,hc⟩:=Al HKa.out (x:=k) (by simp);exact hc.elim
      |succ m=>
      obtain⟨b2,o2,s2,kv2,e2,hb2,_,q0,q1,_,_,hs2,_⟩:=pK HKa.out (i:=0) (x:=k) rfl;simp only[Value.slice.injEq] at e2;obtain⟨rfl,_,_⟩:=e2;simp only[Nat.zero_mul,Nat.add_zero] at q0 q1;obtain⟨sa2,sc2,rfl⟩:=Kind.slice hs2;have HTl:=hide (IQ HKa.out);have hqc:(k::ks).length≤qc:=HKa.out.1.2;simp only[List.length_cons] at hqc;have HMe:Hid (∀w',Later wa w'→Calls Tryz.prog 175 #[.agg #[.bool false,.string (bs a.name),.slice xa a.terms.length xc],.agg #[.string k.fact.1,.slice sa2 k.fact.2.length sc2],.slice la b.length lc] w' fun e w''=>∃v,e=.returned (.tuple #[v,.bool (dw a k.fact b).isSome])∧Sj w' w'' v (dw a k.fact b)∧Hid (Later w' w'')):=fun w' h=>by
       have:=KY a (.slice xa a.terms.length xc) (.agg #[.string k.fact.1,.slice sa2 k.fact.2.length sc2]) (.slice la b.length lc) k.fact b w' (Kind.aJ HTa.out h) ⟨_,rfl,(jd hs2).later h⟩ (Kind.aJ HBa.out h) (by omega);rw[hno] at this;exact this
      have HSc:Hid (∀w',Later wa w'→(w'.cell? ⟨wr.heap.size,0,none⟩=some (.bool false)∧w'.cell? ⟨wr.heap.size,0+1,none⟩=some (.string (bs a.name))∧w'.cell? ⟨wr.heap.size,0+2,none⟩=some (.slice xa a.terms.length xc))∧w'.cell? ⟨b2,o2,none⟩=some (.string k.fact.1)∧w'.cell? ⟨b2,o2+1,none⟩=some (.slice sa2 k.fact.2.length sc2)):=fun w' h=>by
       have hra:=(h.block hla).trans HRa.out;refine⟨⟨?_,?_,?_⟩,?_,?_⟩
       ·rw[cell_of_row _ _ _ _ _ _ hra];rfl
       ·rw[cell_of_row _ _ _ _ _ _ hra];rfl
       ·rw[cell_of_row _ _ _ _ _ _ hra];rfl
       ·rw[h.cell (p:=⟨b2,o2,none⟩) hb2];exact q0
       ·rw[h.cell (p:=⟨b2,o2+1,none⟩) hb2];exact q1
      obtain⟨o,ho⟩:∃o,o=dw a k.fact b:=⟨_,rfl⟩;rw[←ho] at HMe;have HO:=hide ho;have HNo:=hide hno;have HGk:=hide hg;obtain⟨⟨kn,IU⟩,krl,kk⟩:=k;dsimp only[bH.fact,bH.rule,bH.kids] at*;clear hno hg ho hs2 q0 q1 HKa;generalize bs a.name=nm2 at*;have hlp:(0:Int)<((ks.length+1:Nat):Int):=by omega
      have hl1:(1:Int)≤((ks.length+1:Nat):Int):=by omega
      have hle:(((ks.length+1:Nat):Int)==0)=false:=by simp;omega
      go_wp2_with (rw[←HWa.out])
      refine wp_region_held_drew (S:=fun w'=>Later wa w') (by kernel_rfl) (Later.refl wa).drew (fun hHeld=> ?_);refine ak (i:=0) (d:=some 37) (v:= ?_) rfl rfl hHeld ?_ ?_;rotate_left;focus intro w hSw;(try dsimp only at hSw);obtain⟨⟨p0,p1,p2⟩,p3,p4⟩:=HSc.out _ hSw;go_simp;try with_reducible rfl
      simp only[aK,aL,aze,asu];refine ak (i:=1) (d:=some 38) (v:= ?_) rfl rfl hHeld ?_ ?_;rotate_left;focus intro w hSw;(try dsimp only at hSw);go_simp;try with_reducible rfl
      simp only[aK,aL,aze,asu];refine ak (i:=2) (d:=some 39) (v:= ?_) rfl rfl hHeld ?_ ?_;rotate_left;focus intro w hSw;(try dsimp only at hSw);go_simp;try with_reducible rfl
      simp only[aK,aL,aze,asu];refine ak (i:=3) (d:=some 40) (v:= ?_) rfl rfl hHeld ?_ ?_;rotate_left;focus intro w hSw;(try dsimp only at hSw);go_simp;try with_reducible rfl
      simp only[aK,aL,aze,asu];refine ak (i:=4) (d:=some 41) (v:= ?_) rfl rfl hHeld ?_ ?_;rotate_left;focus intro w hSw;(try dsimp only at hSw);obtain⟨⟨p0,p1,p2⟩,p3,p4⟩:=HSc.out _ hSw;go_simp;try with_reducible rfl
      simp only[aK,aL,aze,asu];refine ak (i:=5) (d:=some 42) (v:= ?_) rfl rfl hHeld ?_ ?_;rotate_left;focus intro w hSw;(try dsimp only at hSw);go_simp;try with_reducible rfl
      simp only[aK,aL,aze,asu];refine wpAnyH_ready (rs:=[6]) (by kernel_rfl) (by simp) ?_;refine AllReadyH.cons rfl (fun K hK=> ?_) AllReadyH.nil;go_simp;refine(HMe.out _ hHeld).mono ?_;rintro e w4 ⟨v4,rfl,hv4,hL4⟩;have hL4':=hHeld.trans hL4.out;have Yp:∃a n c,v4=.slice a n c:=by
       cases o with
       |none=>exact⟨_,_,_,hv4⟩
       |some m=>obtain⟨a,c,e⟩:=Kind.aV (K:=bq) hv4;exact⟨a,_,c,e⟩
      obtain⟨a4,n4,c4,rfl⟩:=Yp;refine hK.out _ _ hL4' (fun hHeld=> ?_);clear hK K;refine ak (i:=7) (d:=some 36) (v:= ?_) rfl rfl hHeld ?_ ?_;rotate_left;focus intro w hSw;(try dsimp only at hSw);go_simp;try with_reducible rfl
      simp only[aK,aL,aze,asu];refine ak (i:=8) (d:=some 44) (v:= ?_) rfl rfl hHeld ?_ ?_;rotate_left;focus intro w hSw;(try dsimp only at hSw);go_simp;try with_reducible rfl
      simp only[aK,aL,aze,asu];refine ak (i:=9) (d:=some 45) (v:= ?_) rfl rfl hHeld ?_ ?_;rotate_left;focus intro w hSw;(try dsimp only at hSw);go_simp;try with_reducible rfl
      simp only[aK,aL,aze,asu];refine ak (i:=10) (d:=some 7) (v:= ?_) rfl rfl hHeld ?_ ?_;rotate_left;focus intro w hSw;(try dsimp only at hSw);go_simp;try with_reducible rfl
      simp only[aK,aL,aze,asu];refine ak (i:=11) (d:=some 8) (v:= ?_) rfl rfl hHeld ?_ ?_;rotate_left;focus intro w hSw;(try dsimp only at hSw);go_simp;try with_reducible rfl
      simp only[aK,aL,aze,asu];refine wpAnyH_done (by kernel_rfl) ?_ _;clear hHeld;cases o with
      |none=>
       have HE:Hid (RR=8):=by
        show _=_;have:=HGk.out;rw[xI HNo.out HO.out.symm] at this;rw[HRR.out,this];rfl
       have HL4:=hide (HL1.out.trans (HLa.out.trans hL4'));simp only[Option.isSome_none];clear hL4 hL4' hv4 HMe HSc HGk HO HRR;go_wp2;go_ret;exact⟨by rw[HE.out];rfl,HL4.out⟩
      |some b4=>
       have VI:bq.own 190 wa.drew.heap.size w4 (.slice a4 n4 c4) b4:=hv4;have hb4:=y7 HO.out.symm;have hs4:bq.sl bg w4 (.slice a4 n4 c4) b4:=Kind.dQ (Kind.fA VI (by omega));have HG4:Hid (KG=fJ (body.drop (j+1)) (ks.map bH.fact) b4):=by
        show _=_;have:=HGk.out;rw[xJ HNo.out HO.out.symm] at this;exact this
       have HS4:=hide hs4;have HL4:=hide (HLa.out.trans hL4');obtain⟨ta4,TH⟩:∃z,(if qc=1 then some (⟨b2,o2,none⟩:Addr) else some ⟨b2,o2+4,none⟩)=z:=⟨_,rfl⟩;have HT4:Hid ((lD (m+1)).sl bg w4 (.slice ta4 ks.length (qc-1)) ks):=by
        show Kind.sl _ _ _ _ _;rw[←TH];exact Kind.aJ HTl.out hL4'
       have Yq:b4.length≤4+4*(j+1):=by omega
       simp only[Option.isSome_some];clear hL4 hL4' hv4 VI hs4 HMe HSc HGk HO HTl hb4 HBa;go_wp2
       go_roundg (body.length- (j+1))
       case measure=>omega
       case rel=>exact⟨j+1,b4,ks,by omega,by go_num,HS4,Yq,HT4,HG4,HL4⟩
   ·have hg:=HG.out;rw[List.drop_eq_nil_of_le (by omega)] at hg;cases ks with
    |cons k ks=>
     have HE:Hid (RR=5):=by
      show _=_;rw[HRR.out,hg];rfl
     have hlp:(0:Int)<((ks.length+1:Nat):Int):=by omega
     clear hg HG HB HK Sm;simp only[List.length_cons] at*;go_wp2;go_ret;exact⟨by rw[HE.out];rfl,HL1.out.trans HL.out⟩
    |nil=>
     have HE:Hid (RR=Kv all body b):=by
      show _=_;rw[HRR.out,hg];rfl
     have HBr:=hide (Sm.out b _ wr HL.out HB.out);have hr0:=(HL.out.block (by omega)).trans HR0.out;have hr1:=(HL.out.block (by omega)).trans HR1.out;have g0:wr.cell? ⟨w.heap.size,0,none⟩=some (.slice pa pn pc):=by rw[cell_of_row _ _ _ _ _ _ hr0];rfl
     have g1:wr.cell? ⟨w.heap.size,0+1,none⟩=some (.slice ta tn tc):=by rw[cell_of_row _ _ _ _ _ _ hr0];rfl
     have g2:wr.cell? ⟨w.heap.size,0+2,none⟩=some (.slice aa all.length ac):=by rw[cell_of_row _ _ _ _ _ _ hr0];rfl
     have g3:wr.cell? ⟨w.heap.size+1,3,none⟩=some (.slice ba body.length bc):=by rw[cell_of_row _ _ _ _ _ _ hr1];rfl
     clear hg HG HB HK Sm hr0 hr1;generalize Kv all body b=BE at*
     go_wp2_with fail
     refine HBr.out.mono ?_;rintro e w5 ⟨rfl,hL5⟩;have HL5:=hide (HL1.out.trans (HL.out.trans hL5));clear hL5 HBr;go_wp2;go_ret;exact⟨by rw[HE.out];rfl,HL5.out⟩
end Go.Proofs.YtafmbokfkbccaaaGreatDoor
namespace Go.Proofs.YtafmbokfkbccaaaGreatDoor
open Go.RowKit Go.Sort
theorem pV {n:Nat} {B:Nat→Prop} {w:World} {v:Value} {l:List bH} (h:(lD n).sl B w v l) (hl:l≠[]):∃m,n=m+1:=by
 cases n with
 |succ m=>exact⟨m,rfl⟩
 |zero=>
  cases l with
  |nil=>exact absurd rfl hl
  |cons x l=>
   obtain⟨c,hc⟩:=Al h (x:=x) (by simp);exact hc.elim
theorem uz {g:bH→Int}:∀{l:List bH} {j:Nat} {x:bH},l[j]?=some x→lN g (l.drop j)=if g x≠0 then g x else lN g (l.drop (j+1)):=fun {l j x} h=>by
 obtain⟨hi,e⟩:=List.getElem?_eq_some_iff.1 h;rw[List.drop_eq_getElem_cons hi,e]
 rfl
theorem uD {p:List aD} {told all:List au} {n:Nat} {f:au} {rl:Int} {kids:List bH} (h1:rl= -1) (h2:kids=[]) (h3:inB told f=true):dS p told all (n+1) (.mk f rl kids)=0:=by
 subst h1 h2;unfold dS;show(if(-1:Int)<0 then(if(-1:Int)= -1∧([]:List bH)=[]∧inB told f=true then(0:Int) else 6) else _)=0;rw[if_pos (by decide),if_pos ⟨rfl,rfl,h3⟩]
theorem jL {p:List aD} {told all:List au} {n:Nat} {f:au} {rl:Int} {kids:List bH} (h:rl<0) (h1:¬(rl= -1∧kids=[]∧inB told f=true)):dS p told all (n+1) (.mk f rl kids)=6:=by
 unfold dS;show(if rl<0 then(if rl= -1∧kids=[]∧inB told f=true then(0:Int) else 6) else _)=6;rw[if_pos h,if_neg h1]
theorem uE {p:List aD} {told all:List au} {n i:Nat} {f:au} {kids:List bH} (h:p[i]?=none):dS p told all (n+1) (.mk f (i:Int) kids)=1:=by
 unfold dS;show(if(i:Int)<0 then _ else match p[((i:Int)).toNat]? with|none=>(1:Int)|some r=>_)=1;rw[if_neg (by omega),Int.toNat_natCast,h]
theorem uF {p:List aD} {told all:List au} {n i:Nat} {f:au} {kids:List bH} {r:aD} (h:p[i]?=some r):dS p told all (n+1) (.mk f (i:Int) kids)=if lX all r f (kids.map bH.fact)≠0 then lX all r f (kids.map bH.fact) else lN (dS p told all n) kids:=by
 conv=>lhs;unfold dS
 show(if(i:Int)<0 then _ else match p[((i:Int)).toNat]? with|none=>(1:Int)|some r=>if lX all r f (kids.map bH.fact)≠0 then lX all r f (kids.map bH.fact) else lN (dS p told all n) kids)=_;rw[if_neg (by omega),Int.toNat_natCast,h]
set_option maxRecDepth 100000 in
set_option maxHeartbeats 8000000 in
theorem IV (p:List aD) (told all:List au) (hsh:∀r∈p,r.head.terms.length≤4∧r.body.length≤5∧∀a∈r.body,a.terms.length≤4) (hpl:p.length≤16) (hrt:fT told) (hra:fT all):
  ∀(n:Nat) (x:bH) (pv tv av xv:Value) (w:World),eU.sl bg w pv p→Facts w tv told→Facts w av all→l8 n bg w xv x→
  Calls Tryz.prog 55 #[.agg #[pv,tv,av],xv] w fun e w'=>e=.returned (.int .i64 (dS p told all (n+1) x))∧Later w w'
 |n,x,pv,tv,av,xv,w,hp,ht,ha,hx=>by
  have IH:∀m,n=m+1→∀(k:bH) (kv:Value) (w':World),Later w w'→l8 m bg w' kv k→Calls Tryz.prog 55 #[.agg #[pv,tv,av],kv] w' fun e w''=>e=.returned (.int .i64 (dS p told all n k))∧Later w' w'':=fun m hm k kv w' hL hk=>by
   have:=IV p told all hsh hpl hrt hra m k pv tv av kv w' (Kind.aJ hp hL) (ht.later hL) (ha.later hL) hk;rw[hm];exact this
  obtain⟨s,kv,rfl,hs,hkv⟩:=hx;obtain⟨pa,pc,rfl⟩:=Kind.slice hp;obtain⟨ta,tc,rfl⟩:=aC ht;obtain⟨aa,ac,rfl⟩:=aC ha;obtain⟨sa,sc,rfl⟩:=Kind.slice hs;obtain⟨ka,kc,rfl⟩:=Kind.slice hkv;have hkl:=hkv.1.1;obtain⟨w1,hw1⟩:∃w1,w1=(w.alloc (.cells #[.slice pa p.length pc,.slice ta told.length tc,.slice aa all.length ac] 109)).alloc (.cells #[.string x.fact.1,.slice sa x.fact.2.length sc,.int .i64 x.rule,.slice ka x.kids.length kc] 30):=⟨_,rfl⟩;have hL1:Later w w1:=by rw[hw1];exact((Later.refl w).alloc _).alloc _
  have hs1:w1.heap.size=w.heap.size+2:=by rw[hw1];simp
  have hr0:w1.heap[w.heap.size]?=some (.cells #[.slice pa p.length pc,.slice ta told.length tc,.slice aa all.length ac] 109 (0,0)):=by
   rw[hw1];simp only[bY,World.size_alloc]
   repeat (first|rw[if_pos trivial]|rw[if_pos (by omega)]|rw[if_neg (by omega)])
  have hr1:w1.heap[w.heap.size+1]?=some (.cells #[.string x.fact.1,.slice sa x.fact.2.length sc,.int .i64 x.rule,.slice ka x.kids.length kc] 30 (0,0)):=by
   rw[hw1];simp only[bY,World.size_alloc]
   repeat (first|rw[if_pos trivial]|rw[if_pos (by omega)]|rw[if_neg (by omega)])
  have HIn:=hide (inC (.slice ta told.length tc) (.agg #[.string x.fact.1,.slice sa x.fact.2.length sc]) told x.fact w1 (ht.later hL1) ⟨_,rfl,(jd hs).later hL1⟩ hrt);have HIH:=hide IH;have HSt:Hid (∀(r:aD) (hv bv:Value) (w':World),r∈p→Later w1 w'→eH.sl bg w' hv r.head.terms→bP.sl bg w' bv r.body→Calls Tryz.prog 99 #[.agg #[.slice pa p.length pc,.slice ta told.length tc,.slice aa all.length ac],.agg #[.bool r.head.no,.string (bs r.head.name),hv,bv],.agg #[.string x.fact.1,.slice sa x.fact.2.length sc,.int .i64 x.rule,.slice ka x.kids.length kc]] w' fun e w''=>e=.returned (.int .i64 (lX all r x.fact (x.kids.map bH.fact)))∧Later w' w''):=fun r hv bv w' hr h h1 h2=>
   Fv all r x n _ _ _ hv bv _ w' ⟨_,_,_,rfl⟩ ⟨_,_,_,rfl⟩ ((ha.later hL1).later h) hra h1 h2 ⟨_,_,rfl,Kind.aJ (Kind.aJ hs hL1) h,Kind.aJ (Kind.aJ hkv hL1) h⟩ (hsh r hr).1 (hsh r hr).2.1 (hsh r hr).2.2
  have HPv:=hide (Kind.aJ hp hL1);have HKv:=hide (Kind.aJ hkv hL1);have HL1:=hide hL1;have HR0:=hide hr0;have HR1:=hide hr1;have HW1:=hide hw1;have HC:Hid (∀w',Later w1 w'→(w'.cell? ⟨w.heap.size,0,none⟩=some (.slice pa p.length pc)∧w'.cell? ⟨w.heap.size,0+1,none⟩=some (.slice ta told.length tc)∧w'.cell? ⟨w.heap.size,0+2,none⟩=some (.slice aa all.length ac))∧
    (w'.cell? ⟨w.heap.size+1,0,none⟩=some (.string x.fact.1)∧w'.cell? ⟨w.heap.size+1,0+1,none⟩=some (.slice sa x.fact.2.length sc)∧w'.cell? ⟨w.heap.size+1,0+2,none⟩=some (.int .i64 x.rule)∧w'.cell? ⟨w.heap.size+1,0+3,none⟩=some (.slice ka x.kids.length kc))∧w'.cell? ⟨w.heap.size,1,none⟩=some (.slice ta told.length tc)∧w'.cell? ⟨w.heap.size+1,2,none⟩=some (.int .i64 x.rule)∧w'.cell? ⟨w.heap.size+1,3,none⟩=some (.slice ka x.kids.length kc)):=fun w' h=>by
   have h0:=(h.block (by omega)).trans hr0;have h1:=(h.block (by omega)).trans hr1;refine⟨⟨?_,?_,?_⟩,⟨?_,?_,?_,?_⟩,?_,?_,?_⟩
   ·rw[cell_of_row _ _ _ _ _ _ h0];rfl
   ·rw[cell_of_row _ _ _ _ _ _ h0];rfl
   ·rw[cell_of_row _ _ _ _ _ _ h0];rfl
   ·rw[cell_of_row _ _ _ _ _ _ h1];rfl
   ·rw[cell_of_row _ _ _ _ _ _ h1];rfl
   ·rw[cell_of_row _ _ _ _ _ _ h1];rfl
   ·rw[cell_of_row _ _ _ _ _ _ h1];rfl
   ·rw[cell_of_row _ _ _ _ _ _ h0];rfl
   ·rw[cell_of_row _ _ _ _ _ _ h1];rfl
   ·rw[cell_of_row _ _ _ _ _ _ h1];rfl
  obtain⟨RR,hRR⟩:∃RR:Int,RR=dS p told all (n+1) x:=⟨_,rfl⟩;rw[←hRR];obtain⟨⟨g0,g1,g2⟩,⟨x0,x1,x2,x3⟩,v1,v2,v3⟩:=HC.out w1 (Later.refl _);clear hp ht ha hs hkv hL1 hr0 hr1 hw1 IH;obtain⟨⟨fn,aH⟩,rl,kids⟩:=x;dsimp only[bH.fact,bH.rule,bH.kids] at*
  by_cases hneg:rl<0
  ·rw[qR] at HIn
   by_cases h1:rl= -1
   ·by_cases h2:kids=[]
    ·have hz:decide (0<kids.length)=false:=by rw[h2];rfl
     cases hi:inB told (fn,aH) with
     |true=>
      rw[uD h1 h2 hi] at hRR;rw[hi] at HIn;have HE:=hide hRR;subst h1;clear hRR hi h2 HSt HIH
      go_enter Tryz.func55,Tryz.ntmps55
      go_wp2_with (first|(rw[←HW1.out])|fail)
      refine HIn.out.mono ?_;rintro e w2 ⟨rfl,hL2⟩;have HL2:=hide (HL1.out.trans hL2);clear hL2 HIn;go_wp2;go_ret;exact⟨by rw[HE.out];rfl,HL2.out⟩
     |false=>
      rw[jL hneg (by rw[hi];simp)] at hRR;rw[hi] at HIn;have HE:=hide hRR;subst h1;clear hRR hi h2 HSt HIH
      go_enter Tryz.func55,Tryz.ntmps55
      go_wp2_with (first|(rw[←HW1.out])|fail)
      refine HIn.out.mono ?_;rintro e w2 ⟨rfl,hL2⟩;have HL2:=hide (HL1.out.trans hL2);clear hL2 HIn;go_wp2;go_ret;exact⟨by rw[HE.out];rfl,HL2.out⟩
    ·have hz:decide (0<kids.length)=true:=decide_eq_true (List.length_pos_iff.2 h2);rw[jL hneg (fun h=>h2 h.2.1)] at hRR;have HE:=hide hRR;subst h1;clear hRR h2 HSt HIH HIn
     go_enter Tryz.func55,Tryz.ntmps55
     go_wp2_with (first|(rw[←HW1.out])|fail)
     go_ret;exact⟨by rw[HE.out];rfl,HL1.out⟩
   ·have hq:(rl != -1)=true:=by simpa using h1
    rw[jL hneg (fun h=>h1 h.1)] at hRR;have HE:=hide hRR;clear hRR h1 HSt HIH HIn
    go_enter Tryz.func55,Tryz.ntmps55
    go_wp2_with (first|(rw[←HW1.out])|fail)
    go_ret;exact⟨by rw[HE.out];rfl,HL1.out⟩
  ·obtain⟨i,hi⟩:∃i:Nat,rl=(i:Int):=⟨rl.toNat,by omega⟩;subst hi
   by_cases hge:p.length≤i
   ·have hgi:((p.length:Int)≤(i:Int)):=by omega
    rw[uE (List.getElem?_eq_none hge)] at hRR;have HE:=hide hRR;clear hRR HSt HIH HIn hge
    go_enter Tryz.func55,Tryz.ntmps55
    go_wp2_with (first|(rw[←HW1.out])|fail)
    go_ret;exact⟨by rw[HE.out];rfl,HL1.out⟩
   ·have hgi:¬((p.length:Int)≤(i:Int)):=by omega
    obtain⟨r,hr⟩:∃r,p[i]?=some r:=⟨_,List.getElem?_eq_getElem (by omega)⟩;rw[uF hr] at hRR;obtain⟨b1,o1,_,e1,hb1,hri,hc⟩:=Kind.bQ HPv.out hr;subst e1;obtain⟨hv,bv,hce,hhv,hbv⟩:=hri;subst hce;obtain⟨ha',hc',rfl⟩:=Kind.slice hhv;obtain⟨ba,bc,rfl⟩:=Kind.slice hbv;have HRc:Hid (∀w',Later w1 w'→w'.cell? ⟨b1,o1+i*4,none⟩=some (.bool r.head.no)∧w'.cell? ⟨b1,o1+i*4+1,none⟩=some (.string (bs r.head.name))∧w'.cell? ⟨b1,o1+i*4+2,none⟩=some (.slice ha' r.head.terms.length hc')∧w'.cell? ⟨b1,o1+i*4+3,none⟩=some (.slice ba r.body.length bc)):=fun w' h=>
     ⟨by rw[h.cell (p:=⟨b1,o1+i*4,none⟩) hb1];simpa[eU] using hc 0 _ rfl,by rw[h.cell (p:=⟨b1,o1+i*4+1,none⟩) hb1];simpa[eU] using hc 1 _ rfl,by rw[h.cell (p:=⟨b1,o1+i*4+2,none⟩) hb1];simpa[eU] using hc 2 _ rfl,by rw[h.cell (p:=⟨b1,o1+i*4+3,none⟩) hb1];simpa[eU] using hc 3 _ rfl⟩
    have HS:Hid (∀w',Later w1 w'→_):=fun w' h=>HSt.out r (.slice ha' r.head.terms.length hc') (.slice ba r.body.length bc) w' (List.mem_of_getElem? hr) h (Kind.aJ hhv h) (Kind.aJ hbv h);obtain⟨SE,hSE⟩:∃SE,SE=lX all r (fn,aH) (kids.map bH.fact):=⟨_,rfl⟩;rw[←hSE] at hRR HS;have HRR:=hide hRR;have hil:(i:Int)<(p.length:Int):=by omega
    have Yr:i<p.length:=by omega
    have h0i:(0:Int)≤(i:Int):=by omega
    clear hRR hr hc hhv hbv HSt HIn hSE;generalize bs r.head.name=nm at*;generalize r.head.no=no at*
    go_enter Tryz.func55,Tryz.ntmps55
    go_wp2_with (first|(rw[←HW1.out])|fail)
    refine wp_region_held_drew (S:=fun w'=>Later w1 w') (by kernel_rfl) (Later.refl w1).drew (fun hHeld=> ?_);refine ak (i:=0) (d:=some 35) (v:= ?_) rfl rfl hHeld ?_ ?_;rotate_left;focus intro w hSw;(try dsimp only at hSw);obtain⟨⟨p0,p1,p2⟩,⟨p3,p4,p5,p6⟩,p7,p8,p9⟩:=HC.out _ hSw;go_simp;try with_reducible rfl
    simp only[aK,aL,aze,asu];refine ak (i:=1) (d:=some 36) (v:= ?_) rfl rfl hHeld ?_ ?_;rotate_left;focus intro w hSw;(try dsimp only at hSw);go_simp;try with_reducible rfl
    simp only[aK,aL,aze,asu];refine ak (i:=2) (d:=some 37) (v:= ?_) rfl rfl hHeld ?_ ?_;rotate_left;focus intro w hSw;(try dsimp only at hSw);obtain⟨⟨p0,p1,p2⟩,⟨p3,p4,p5,p6⟩,p7,p8,p9⟩:=HC.out _ hSw;go_simp;try with_reducible rfl
    simp only[aK,aL,aze,asu];refine ak (i:=3) (d:=some 38) (v:= ?_) rfl rfl hHeld ?_ ?_;rotate_left;focus intro w hSw;(try dsimp only at hSw);go_simp;try with_reducible rfl
    simp only[aK,aL,aze,asu];refine ak (i:=4) (d:=some 39) (v:= ?_) rfl rfl hHeld ?_ ?_;rotate_left;focus intro w hSw;(try dsimp only at hSw);obtain⟨⟨p0,p1,p2⟩,⟨p3,p4,p5,p6⟩,p7,p8,p9⟩:=HC.out _ hSw;go_simp;try with_reducible rfl
    simp only[aK,aL,aze,asu];refine ak (i:=5) (d:=some 40) (v:= ?_) rfl rfl hHeld ?_ ?_;rotate_left;focus intro w hSw;(try dsimp only at hSw);go_simp;try with_reducible rfl
    simp only[aK,aL,aze,asu];refine ak (i:=6) (d:=some 41) (v:= ?_) rfl rfl hHeld ?_ ?_;rotate_left;focus intro w hSw;(try dsimp only at hSw);obtain⟨p0,p1,p2,p3⟩:=HRc.out _ hSw;go_simp;try with_reducible rfl
    simp only[aK,aL,aze,asu];refine ak (i:=7) (d:=some 42) (v:= ?_) rfl rfl hHeld ?_ ?_;rotate_left;focus intro w hSw;(try dsimp only at hSw);obtain⟨⟨p0,p1,p2⟩,⟨p3,p4,p5,p6⟩,p7,p8,p9⟩:=HC.out _ hSw;go_simp;try with_reducible rfl
    simp only[aK,aL,aze,asu];refine wpAnyH_ready (rs:=[8]) (by kernel_rfl) (by simp) ?_;refine AllReadyH.cons rfl (fun K hK=> ?_) AllReadyH.nil;go_simp;refine(HS.out _ hHeld).mono ?_;rintro e w2 ⟨rfl,hL2⟩;have hL2':=hHeld.trans hL2;refine hK.out _ _ hL2' (fun hHeld=> ?_);clear hK K;refine ak (i:=9) (d:=some 5) (v:= ?_) rfl rfl hHeld ?_ ?_;rotate_left;focus intro w hSw;(try dsimp only at hSw);go_simp;try with_reducible rfl
    simp only[aK,aL,aze,asu];refine wpAnyH_done (by kernel_rfl) ?_ _;clear hHeld hL2;have HL2:=hide hL2'
    by_cases h0:SE=0
    ·have HE:Hid (RR=lN (dS p told all n) kids):=by show _=_;rw[HRR.out,if_neg (by rw[h0];simp)]
     subst h0;have y3':w2.cell? ⟨w.heap.size+1,3,none⟩=some (.slice ka kids.length kc):=(HC.out _ hL2').2.2.2.2;clear hL2' HRR HS;go_wp2;clear y3'
     go_loopg [50] kids.length (fun g i wr=>∃j:Nat,j+g=kids.length∧i=.int .i64 j∧Hid (RR=lN (dS p told all n) (kids.drop j))∧Hid (Later w1 wr))
     case atStart=>exact⟨0,by omega,rfl,HE,HL2⟩
     case round=>
      clear HE HL2;obtain⟨j,hj,rfl,HE,HL⟩:=hrel
      by_cases hlt:j<kids.length
      ·obtain⟨k,hk⟩:∃k,kids[j]?=some k:=⟨_,List.getElem?_eq_getElem hlt⟩;obtain⟨m,hm⟩:=pV HKv.out (by intro e;rw[e] at hlt;simp at hlt);have hKv:=HKv.out;rw[hm] at hKv;obtain⟨b2,o2,s2,kv2,e2,hb2,_,q0,q1,q2,q3,hs2,hk2⟩:=pK hKv hk;simp only[Value.slice.injEq] at e2;obtain⟨rfl,_,_⟩:=e2;obtain⟨sa2,sc2,rfl⟩:=Kind.slice hs2;obtain⟨ka2,kc2,rfl⟩:=Kind.slice hk2;have d0:wr.cell? ⟨b2,o2+j*4,none⟩=some (.string k.fact.1):=by rw[HL.out.cell (p:=⟨b2,o2+j*4,none⟩) hb2];exact q0
       have d1:wr.cell? ⟨b2,o2+j*4+1,none⟩=some (.slice sa2 k.fact.2.length sc2):=by rw[HL.out.cell (p:=⟨b2,o2+j*4+1,none⟩) hb2];exact q1
       have d2:wr.cell? ⟨b2,o2+j*4+2,none⟩=some (.int .i64 k.rule):=by rw[HL.out.cell (p:=⟨b2,o2+j*4+2,none⟩) hb2];exact q2
       have d3:wr.cell? ⟨b2,o2+j*4+3,none⟩=some (.slice ka2 k.kids.length kc2):=by rw[HL.out.cell (p:=⟨b2,o2+j*4+3,none⟩) hb2];exact q3
       obtain⟨wk,hwk⟩:∃wk,wk=wr.alloc (.cells #[.string k.fact.1,.slice sa2 k.fact.2.length sc2,.int .i64 k.rule,.slice ka2 k.kids.length kc2] 30):=⟨_,rfl⟩;have hLk:Later wr wk:=by rw[hwk];exact(Later.refl wr).alloc _
       have hRk:wk.heap[wr.heap.size]?=some (.cells #[.string k.fact.1,.slice sa2 k.fact.2.length sc2,.int .i64 k.rule,.slice ka2 k.kids.length kc2] 30 (0,0)):=by rw[hwk];exact heap_alloc_new wr _
       have hLK:=HL.out.trans hLk;have k0:wk.cell? ⟨wr.heap.size,0,none⟩=some (.string k.fact.1):=by rw[cell_of_row _ _ _ _ _ _ hRk];rfl
       have k1:wk.cell? ⟨wr.heap.size,0+1,none⟩=some (.slice sa2 k.fact.2.length sc2):=by rw[cell_of_row _ _ _ _ _ _ hRk];rfl
       have k2:wk.cell? ⟨wr.heap.size,0+2,none⟩=some (.int .i64 k.rule):=by rw[cell_of_row _ _ _ _ _ _ hRk];rfl
       have k3:wk.cell? ⟨wr.heap.size,0+3,none⟩=some (.slice ka2 k.kids.length kc2):=by rw[cell_of_row _ _ _ _ _ _ hRk];rfl
       obtain⟨⟨z0,z1,z2⟩,_⟩:=HC.out wk hLK;have HCl:=hide (HIH.out m hm k (.agg #[.string k.fact.1,.slice sa2 k.fact.2.length sc2,.int .i64 k.rule,.slice ka2 k.kids.length kc2]) wk (HL1.out.trans hLK) ⟨_,_,rfl,Kind.aJ hs2 hLK,Kind.aJ hk2 hLK⟩);have hfd:=uz (g:=dS p told all n) hk;have HLK:=hide hLK;have HWk:=hide hwk;obtain⟨G,hG⟩:∃G,G=dS p told all n k:=⟨_,rfl⟩;rw[←hG] at HCl hfd;have HFd:=hide hfd;obtain⟨⟨kn,IU⟩,krl,kk⟩:=k;dsimp only[bH.fact,bH.rule,bH.kids] at*;clear hk hKv q0 q1 q2 q3 hs2 hk2 hwk hLk hRk hLK hfd hG hm
       go_wp2_with (first|(rw[←HWk.out])|fail)
       refine HCl.out.mono ?_;rintro e w3 ⟨rfl,hL3⟩;have HL3:=hide (HLK.out.trans hL3);clear hL3 HCl d0 d1 d2 d3 k0 k1 k2 k3 z0 z1 z2
       by_cases hG0:G=0
       ·have HE2:Hid (RR=lN (dS p told all n) (kids.drop (j+1))):=by show _=_;rw[HE.out,HFd.out,if_neg (by rw[hG0];simp)]
        subst hG0;clear HFd HE;go_wp2
        go_roundg (kids.length- (j+1))
        case measure=>omega
        case rel=>exact⟨j+1,by omega,by go_num,HE2,HL3⟩
       ·have hq:(G != 0)=true:=by simpa using hG0
        have HE2:Hid (RR=G):=by show _=_;rw[HE.out,HFd.out,if_pos hG0]
        clear HFd HE hG0;go_wp2;go_ret;exact⟨by rw[HE2.out];rfl,HL1.out.trans HL3.out⟩
      ·have HE2:Hid (RR=0):=by show _=_;rw[HE.out,List.drop_eq_nil_of_le (by omega)];rfl
       clear HE;go_wp2;go_ret;exact⟨by rw[HE2.out];rfl,HL1.out.trans HL.out⟩
    ·have hq:(SE != 0)=true:=by simpa using h0
     have HE:Hid (RR=SE):=by show _=_;rw[HRR.out,if_pos h0]
     clear hL2' HRR HS h0;go_wp2;go_ret;exact⟨by rw[HE.out];rfl,HL1.out.trans HL2.out⟩
end Go.Proofs.YtafmbokfkbccaaaGreatDoor
namespace Go.Proofs.YtafmbokfkbccaaaGreatDoor
open Go.RowKit Go.Sort
theorem jf {s:ByteArray} (h:isNamed (raw s)=true):s.size≤12:=by
 unfold isNamed at h;simp only[Bool.and_eq_true,decide_eq_true_eq] at h;rw[cK] at h;exact h.1.1
theorem ko {f:au}:fI f=0↔nG f:=by
 unfold fI nG;rw[mh]
 constructor
 ·intro h;split at h
  ·simp at h
  ·rename_i h1;split at h
   ·simp at h
   ·rename_i h2;split at h
    ·simp at h
    ·rename_i h3;refine⟨by simpa using h1,by omega,fun s hs=> ?_⟩;cases e:isNamed (raw s) with
     |true=>rfl
     |false=>
      exfalso
      refine h3 ?_;unfold gq;rw[List.drop_zero,List.any_eq_true];exact⟨s,hs,by rw[mh,e];rfl⟩
 ·rintro⟨h1,h2,h3⟩;rw[if_neg (by simp[h1]),if_neg (by omega),if_neg];intro h;unfold gq at h;rw[List.drop_zero,List.any_eq_true] at h;obtain⟨s,hs,hn⟩:=h;rw[mh,h3 s hs] at hn;cases hn
end Go.Proofs.YtafmbokfkbccaaaGreatDoor
