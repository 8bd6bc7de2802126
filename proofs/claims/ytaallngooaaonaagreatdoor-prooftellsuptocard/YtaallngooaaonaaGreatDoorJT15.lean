import Derived.Test.YtaallngooaaonaaGreatDoorJT9
import Derived.Test.YtaallngooaaonaaGreatDoorJT14
import Derived.BigQuiet
import Derived.Test.YtaallngooaaonaaGreatDoorJT5
import Derived.Test.YtaallngooaaonaaGreatDoorJT2
import Derived.Test.YtaallngooaaonaaGreatDoorJT7
open Go.RowKit Go.Sort
set_option maxHeartbeats 8000000
set_option maxRecDepth 100000
namespace Go.Proofs.YtaallngooaaonaaGreatDoor
def KT (all:List aA) (b:List aD) (a:aI):Bool:=a.no&&(match bg a b with|none=>true|some f=>inB all f)
theorem Iq (all:List aA) (body:List aI) (b:List aD):Kc all body b=if body.any (KT all b) then 10 else 0:=rfl
theorem ND (all:List aA) (body:List aI) (l:List aD) (pv tv av bv lv:Value) (w:World) (hp:∃a n c,pv=.slice a n c) (ht:∃a n c,tv=.slice a n c) (ha:Facts w av all) (hr:fP all) (hb:bN.sl bf w bv body) (hl:bq.sl bf w lv l):
  Calls Tryz.prog 62 #[.agg #[pv,tv,av],bv,lv] w fun e w'=>e=.returned (.int .i64 (Kc all body l))∧ak w w':=by
 obtain⟨pa,pn,pc,rfl⟩:=hp;obtain⟨ta,tn,tc,rfl⟩:=ht;obtain⟨aa,ac,rfl⟩:=aF ha;obtain⟨ba,bc,rfl⟩:=aB.slice hb;obtain⟨la,lc,rfl⟩:=aB.slice hl;have hbl:=hb.1.1;obtain⟨wg,hwg⟩:∃wg,wg=w.alloc (.cells #[.slice pa pn pc,.slice ta tn tc,.slice aa all.length ac] 47):=⟨_,rfl⟩;have hLg:ak w wg:=by rw[hwg];exact(ak.refl w).alloc _
 have hRg:wg.heap[w.heap.size]?=some (.cells #[.slice pa pn pc,.slice ta tn tc,.slice aa all.length ac] 47 (0,0)):=by rw[hwg];exact heap_alloc_new w _
 have hlg:w.heap.size<wg.heap.size:=(Array.getElem?_eq_some_iff.1 hRg).1;have HA:=au (ha.later hLg);have HB:=au (aB.aK hb hLg);have HL:=au (aB.aK hl hLg);have HR:=au hr;have HLg:=au hLg;have HRg:=au hRg;have HWg:=au hwg;rw[Iq];clear ha hb hl hr hLg hRg hwg;obtain⟨P,hP⟩:∃P,P=KT all l:=⟨_,rfl⟩;rw[←hP];have HPD:=au hP;obtain⟨RR,hRR⟩:∃RR:Int,RR=if body.any P then 10 else 0:=⟨_,rfl⟩;rw[←hRR];have HRR:=au hRR;clear hP hRR
 go_enter Tryz.func62,Tryz.ntmps62
 go_wp2_with (rw[←HWg.out])
 clear HWg
 go_loopg [13] body.length (fun g i wr=>∃j:Nat,j+g=body.length∧i=.int .i64 j∧Hid ((body.take j).any P=false)∧Hid (ak wg wr))
 case atStart=>exact⟨0,by omega,rfl,(by simp:_=_),ak.refl _⟩
 obtain⟨j,hj,rfl,HN,HW⟩:=hrel
 by_cases hlt:j<body.length
 ·obtain⟨a,ha⟩:∃a,body[j]?=some a:=⟨_,List.getElem?_eq_getElem hlt⟩;obtain⟨b1,o1,_,e1,hb1,⟨xv,hce,htv⟩,hc⟩:=aB.bO HB.out ha;subst e1;subst hce;have d0:wr.cell? ⟨b1,o1+j*3,none⟩=some (.bool a.no):=by rw[HW.out.cell (p:=⟨b1,o1+j*3,none⟩) hb1];simpa[bN] using hc 0 _ rfl
  have d1:wr.cell? ⟨b1,o1+j*3+1,none⟩=some (.string (bs a.name)):=by rw[HW.out.cell (p:=⟨b1,o1+j*3+1,none⟩) hb1];simpa[bN] using hc 1 _ rfl
  have d2:wr.cell? ⟨b1,o1+j*3+2,none⟩=some xv:=by rw[HW.out.cell (p:=⟨b1,o1+j*3+2,none⟩) hb1];simpa[bN] using hc 2 _ rfl
  obtain⟨xa,xc,rfl⟩:=aB.slice htv;have htk:(body.take (j+1)).any P=((body.take j).any P||P a):=by rw[List.take_add_one,ha];simp
  have hmem:a∈body:=List.mem_of_getElem? ha;obtain⟨wa,hwa⟩:∃wa,wa=wr.alloc (.cells #[.bool a.no,.string (bs a.name),.slice xa a.terms.length xc] 79):=⟨_,rfl⟩;have hLa:ak wr wa:=by rw[hwa];exact(ak.refl wr).alloc _
  have hRa:wa.heap[wr.heap.size]?=some (.cells #[.bool a.no,.string (bs a.name),.slice xa a.terms.length xc] 79 (0,0)):=by rw[hwa];exact heap_alloc_new wr _
  obtain⟨c0,c1,c2,_⟩:=Cb hRa;have hLA:=HW.out.trans hLa;have HFi:=au (Ni a (.slice xa a.terms.length xc) (.slice la l.length lc) l wa (aB.aK htv hLA) (aB.aK HL.out hLA));have HLa:=au hLA;have HWa:=au hwa;clear hc ha htv hwa hLa hRa hLA;cases hno:a.no with
  |false=>
   have HN2:Hid ((body.take (j+1)).any P=false):=by show _=_;rw[htk,HN.out,HPD.out];unfold KT;rw[hno];rfl
   rw[hno] at d0 HWa c0;clear hno htk HN HFi;generalize bs a.name=nm at*
   go_wp2_with (rw[←HWa.out])
   go_roundg (body.length- (j+1))
   case measure=>omega
   case rel=>exact⟨j+1,by omega,by go_num,HN2,HLa⟩
  |true=>
   rw[hno] at d0 HWa c0 HFi;have c1':wa.cell? ⟨wr.heap.size,0+1,none⟩=some (.string (bs a.name)):=c1;have c2':wa.cell? ⟨wr.heap.size,0+2,none⟩=some (.slice xa a.terms.length xc):=c2;cases hf:bg a l with
   |none=>
    have HY:Hid (body.any P=true):=List.any_eq_true.2 ⟨a,hmem,by rw[HPD.out];unfold KT;rw[hno,hf];rfl⟩;rw[hf] at HFi;simp only[Option.isSome_none] at HFi;clear hno htk HN hf;generalize bs a.name=nm at*
    go_wp2_with (first|(rw[←HWa.out])|fail)
    refine HFi.out.mono ?_;rintro e w2 ⟨v2,rfl,⟨s2,rfl,hs2⟩,hL2⟩;obtain⟨ya,yc,rfl⟩:=bA hs2;have HL2:=au (HLa.out.trans hL2);clear hs2 hL2 HFi;go_wp2;go_ret;exact⟨by rw[HRR.out,if_pos HY.out];rfl,HLg.out.trans (HL2.out.alloc _)⟩
   |some f=>
    rw[hf] at HFi;have hfl:filled a l=f:=by unfold filled;rw[hf];rfl
    rw[hfl] at HFi;simp only[Option.isSome_some] at HFi;have HPa:Hid (P a=inB all f):=by show _=_;rw[HPD.out];unfold KT;rw[hno,hf];rfl
    clear hno hf hfl;generalize bs a.name=nm at*
    go_wp2_with (first|(rw[←HWa.out])|fail)
    refine HFi.out.mono ?_;rintro e w2 ⟨v2,rfl,hfv,hL2⟩;obtain⟨s2,rfl,hs2⟩:=hfv;obtain⟨ya,yc,rfl⟩:=bA hs2;obtain⟨wf,hwf⟩:∃wf,wf=w2.alloc (.cells #[.string f.1,.slice ya f.2.length yc] 27):=⟨_,rfl⟩;have hLf:ak w2 wf:=by rw[hwf];exact(ak.refl w2).alloc _
    have hRf:wf.heap[w2.heap.size]?=some (.cells #[.string f.1,.slice ya f.2.length yc] 27 (0,0)):=by rw[hwf];exact heap_alloc_new w2 _
    have hLF:=HLa.out.trans (hL2.trans hLf);have hrg:=(hLF.block hlg).trans HRg.out;have g2:wf.cell? ⟨w.heap.size,2,none⟩=some (.slice aa all.length ac):=by rw[cell_of_row _ _ _ _ _ _ hrg];rfl
    have f0:wf.cell? ⟨w2.heap.size,0,none⟩=some (.string f.1):=by rw[cell_of_row _ _ _ _ _ _ hRf];rfl
    have f1:wf.cell? ⟨w2.heap.size,0+1,none⟩=some (.slice ya f.2.length yc):=by rw[cell_of_row _ _ _ _ _ _ hRf];rfl
    have hin:=inC (.slice aa all.length ac) (.agg #[.string f.1,.slice ya f.2.length yc]) all f wf (HA.out.later hLF) ⟨_,rfl,hs2.later hLf⟩ HR.out;rw[qL] at hin;have HIn:=au hin;have HLF:=au hLF;have HWf:=au hwf;obtain⟨fn,aH⟩:=f;dsimp only at*;clear hs2 hL2 hLf hRf hrg hin hwf HFi hLF;cases hb:inB all (fn,aH) with
    |true=>
     have HY:Hid (body.any P=true):=List.any_eq_true.2 ⟨a,hmem,by rw[HPa.out];exact hb⟩;rw[hb] at HIn;clear hb htk HPa HN
     go_wp2_with (first|(rw[←HWf.out])|fail)
     refine HIn.out.mono ?_;rintro e w3 ⟨rfl,hL3⟩;have HL3:=au (HLF.out.trans hL3);clear hL3 HIn;go_wp2;go_ret;exact⟨by rw[HRR.out,if_pos HY.out];rfl,HLg.out.trans HL3.out⟩
    |false=>
     have HN2:Hid ((body.take (j+1)).any P=false):=by show _=_;rw[htk,HN.out,HPa.out,hb];rfl
     rw[hb] at HIn;clear hb htk HPa HN
     go_wp2_with (first|(rw[←HWf.out])|fail)
     refine HIn.out.mono ?_;rintro e w3 ⟨rfl,hL3⟩;have HL3:=au (HLF.out.trans hL3);clear hL3 HIn;go_wp2
     go_roundg (body.length- (j+1))
     case measure=>omega
     case rel=>exact⟨j+1,by omega,by go_num,HN2,HL3⟩
 have HNN:Hid (body.any P=false):=by have:=HN.out;rw[List.take_of_length_le (by omega)] at this;exact this
 go_wp2;go_ret;exact⟨by rw[HRR.out,if_neg (by rw[HNN.out];simp)];rfl,HLg.out.trans HW.out⟩
theorem yS {a:aI} {f:aA} {l m:List aD} (h:cZ a f l=some m):m.length≤l.length+a.terms.length:=by
 have hk:bJ l=((bJ l).map raw).map bs:=by
  rw[List.map_map]
  conv=>lhs;rw[←List.map_id (bJ l)]
  exact List.map_congr_left fun x _=>(iT x).symm
 have h1:=congrArg List.length (jd hk h).2.1;have h2:=kM a.terms ((bJ l).map raw);have e:∀q:List aD,(bJ q).length=q.length:=fun q=>by unfold bJ;rw[List.length_map]
 rw[e,List.length_map] at h1;rw[List.length_map,e] at h2;omega
theorem Ir {α:Type} {K:aB α} {B:Nat→Prop} {w:World} {b off n cap:Nat} {x:α} {l:List α} (h:K.sl B w (.slice (some ⟨b,off,none⟩) n cap) (x::l)):K.sl B w (.slice (if cap=1 then some ⟨b,off,none⟩ else some ⟨b,off+K.size,none⟩) l.length (cap-1)) l:=by
 obtain⟨h0,a',cap',e,h1⟩:=h;simp only[Value.slice.injEq] at e;obtain⟨rfl,rfl,rfl⟩:=e;obtain⟨b',off',e,hB,hb,hcl⟩:=h1 (by simp);simp only[Option.some.injEq,Addr.mk.injEq] at e;obtain⟨rfl,rfl,_⟩:=e;have h01:=h0.1;have h02:(x::l).length≤cap:=h0.2;simp only[List.length_cons] at h01 h02;cases l with
 |nil=>exact K.eH _ _ _ _
 |cons y l=>
  simp only[List.length_cons] at h01 h02;rw[if_neg (by omega)];refine⟨⟨by simp only[List.length_cons];omega,by show(y::l).length≤cap-1;simp only[List.length_cons];omega⟩,_,cap-1,rfl,fun _=>⟨b,_,rfl,hB,hb,fun i z hi=>?_⟩⟩;obtain⟨d,d1,d2⟩:=hcl (i+1) z (by simpa using hi);refine⟨d,d1,fun j u hu=>?_⟩;have:=d2 j u hu;rw[show off+(i+1)*K.size+j=off+K.size+i*K.size+j by rw[Nat.add_mul];omega] at this;exact this
theorem Au {a:aI} {as':List aI} {ks:List aA} {b:List aD} (h:a.no=true):fH (a::as') ks b=fH as' ks b:=by
 conv=>lhs;unfold fH
 rw[if_pos h]
theorem xw {a:aI} {as':List aI} {b:List aD} (h:a.no=false):fH (a::as') [] b=(5,[]):=by unfold fH;rw[if_neg (by simp[h])]
theorem xA {a:aI} {as':List aI} {k:aA} {ks:List aA} {b:List aD} (h:a.no=false) (hm:cZ a k b=none):fH (a::as') (k::ks) b=(8,[]):=by unfold fH;rw[if_neg (by simp[h])];dsimp only;rw[hm]
theorem xB {a:aI} {as':List aI} {k:aA} {ks:List aA} {b b':List aD} (h:a.no=false) (hm:cZ a k b=some b'):fH (a::as') (k::ks) b=fH as' ks b':=by
 conv=>lhs;unfold fH
 rw[if_neg (by simp[h])];dsimp only;rw[hm]
theorem E5 (all:List aA) (r:aG) (x:bG) (n:Nat) (pv tv av hv bv xv:Value) (w:World) (hp:∃a n c,pv=.slice a n c) (ht:∃a n c,tv=.slice a n c) (ha:Facts w av all) (hr:fP all) (hh:eD.sl bf w hv r.head.terms) (hb:bN.sl bf w bv r.body) (hx:lV n bf w xv x)
  (h4:r.head.terms.length≤4) (h5:r.body.length≤5) (hbt:∀a∈r.body,a.terms.length≤4):
  Calls Tryz.prog 32 #[.agg #[pv,tv,av],.agg #[.bool r.head.no,.string (bs r.head.name),hv,bv],xv] w fun e w'=>e=.returned (.int .i64 (lQ all r x.fact (x.kids.map bG.fact)))∧ak w w':=by
 obtain⟨s,kv,rfl,hs,hkv⟩:=hx;obtain⟨pa,pn,pc,rfl⟩:=hp;obtain⟨ta,tn,tc,rfl⟩:=ht;obtain⟨aa,ac,rfl⟩:=aF ha;obtain⟨sa,sc,rfl⟩:=aB.slice hs;obtain⟨ka,kc,rfl⟩:=aB.slice hkv;obtain⟨ha',hc',rfl⟩:=aB.slice hh;obtain⟨ba,bc,rfl⟩:=aB.slice hb;obtain⟨A,hA⟩:∃A,A=w.heap.size:=⟨_,rfl⟩;obtain⟨w1,hw1⟩:∃w1,w1=((w.alloc (.cells #[.slice pa pn pc,.slice ta tn tc,.slice aa all.length ac] 47)).alloc (.cells #[.bool r.head.no,.string (bs r.head.name),.slice ha' r.head.terms.length hc',.slice ba r.body.length bc] 82)).alloc (.cells #[.string x.fact.1,.slice sa x.fact.2.length sc,.int .i64 x.rule,.slice ka x.kids.length kc] 30):=⟨_,rfl⟩;have hL1:ak w w1:=by rw[hw1];exact(((ak.refl w).alloc _).alloc _).alloc _
 have hs1:w1.heap.size=w.heap.size+3:=by rw[hw1];simp
 have hr0:w1.heap[w.heap.size]?=some (.cells #[.slice pa pn pc,.slice ta tn tc,.slice aa all.length ac] 47 (0,0)):=by
  rw[hw1];simp only[bV,World.size_alloc]
  repeat (first|rw[if_pos trivial]|rw[if_pos (by omega)]|rw[if_neg (by omega)])
 have hr1:w1.heap[w.heap.size+1]?=some (.cells #[.bool r.head.no,.string (bs r.head.name),.slice ha' r.head.terms.length hc',.slice ba r.body.length bc] 82 (0,0)):=by
  rw[hw1];simp only[bV,World.size_alloc]
  repeat (first|rw[if_pos trivial]|rw[if_pos (by omega)]|rw[if_neg (by omega)])
 have hr2:w1.heap[w.heap.size+2]?=some (.cells #[.string x.fact.1,.slice sa x.fact.2.length sc,.int .i64 x.rule,.slice ka x.kids.length kc] 30 (0,0)):=by
  rw[hw1];simp only[bV,World.size_alloc]
  repeat (first|rw[if_pos trivial]|rw[if_pos (by omega)]|rw[if_neg (by omega)])
 have HMe:=au (KJ r.head (.slice ha' r.head.terms.length hc') (.agg #[.string x.fact.1,.slice sa x.fact.2.length sc]) (.slice none 0 0) x.fact [] w1 (aB.aK hh hL1) ⟨_,rfl,(iX hs).later hL1⟩ (aB.eH _ _ _ _ _) (by simp;omega));have HBd:=au (aB.aK hb hL1);have HKv:=au (aB.aK hkv hL1);have HAl:=au (ha.later hL1);have HRi:=au hr;have HBT:=au hbt;have HL1:=au hL1;have HR0:=au hr0;have HR1:=au hr1;have HR2:=au hr2;have R9:Hid (∀(b:List aD) (lv:Value) (w':World),ak w1 w'→bq.sl bf w' lv b→Calls Tryz.prog 62 #[.agg #[.slice pa pn pc,.slice ta tn tc,.slice aa all.length ac],.slice ba r.body.length bc,lv] w' fun e w''=>e=.returned (.int .i64 (Kc all r.body b))∧ak w' w''):=fun b lv w' h hl=>
  ND all r.body b _ _ _ _ lv w' ⟨_,_,_,rfl⟩ ⟨_,_,_,rfl⟩ ((ha.later hL1).later h) hr (aB.aK (aB.aK hb hL1) h) hl
 obtain⟨RR,hRR⟩:∃RR:Int,RR=lQ all r x.fact (x.kids.map bG.fact):=⟨_,rfl⟩;rw[←hRR];unfold lQ at hRR;have HW1:=au hw1;have a0:w1.cell? ⟨w.heap.size+1,0,none⟩=some (.bool r.head.no):=by rw[cell_of_row _ _ _ _ _ _ hr1];rfl
 have a1:w1.cell? ⟨w.heap.size+1,0+1,none⟩=some (.string (bs r.head.name)):=by rw[cell_of_row _ _ _ _ _ _ hr1];rfl
 have a2:w1.cell? ⟨w.heap.size+1,0+2,none⟩=some (.slice ha' r.head.terms.length hc'):=by rw[cell_of_row _ _ _ _ _ _ hr1];rfl
 have f0:w1.cell? ⟨w.heap.size+1+1,0,none⟩=some (.string x.fact.1):=by rw[show w.heap.size+1+1=w.heap.size+2 from rfl,cell_of_row _ _ _ _ _ _ hr2];rfl
 have f1:w1.cell? ⟨w.heap.size+1+1,0+1,none⟩=some (.slice sa x.fact.2.length sc):=by rw[show w.heap.size+1+1=w.heap.size+2 from rfl,cell_of_row _ _ _ _ _ _ hr2];rfl
 clear ha hr hh hb hs hkv hL1 hr0 hr1 hr2 hw1 hbt hA A;cases hm:cZ r.head x.fact [] with
 |none=>
  rw[hm] at HMe hRR;dsimp only at hRR;simp only[Option.isSome_none] at HMe;have HRR:=au hRR;clear hm hRR R9;obtain⟨⟨fn,aH⟩,rl,kids⟩:=x;dsimp only[bG.fact,bG.rule,bG.kids] at*;generalize bs r.head.name=nm at*;generalize r.head.no=no at*
  go_enter Tryz.func32,Tryz.ntmps32
  go_wp2_with (first|(rw[←HW1.out])|fail)
  refine HMe.out.mono ?_;rintro e w2 ⟨v2,rfl,hv2,hL2⟩;obtain rfl:v2=.slice none 0 0:=hv2;have HL2:=au (HL1.out.trans hL2);clear hL2 HMe;go_wp2;go_ret;exact⟨by rw[HRR.out];rfl,HL2.out⟩
 |some b0=>
  rw[hm] at HMe hRR;dsimp only at hRR;simp only[Option.isSome_some] at HMe;have hb0:=yS hm;simp only[List.length_nil] at hb0;obtain⟨KG,hKG⟩:∃KG,KG=fH r.body (x.kids.map bG.fact) b0:=⟨_,rfl⟩;rw[←hKG] at hRR;have HKG:=au hKG;have HRR:=au hRR;clear hm hRR hKG;obtain⟨⟨fn,aH⟩,rl,kids⟩:=x;dsimp only[bG.fact,bG.rule,bG.kids] at*;obtain⟨hd,body⟩:=r;dsimp only at*;generalize bs hd.name=nm at*;generalize hd.no=no at*
  go_enter Tryz.func32,Tryz.ntmps32
  go_wp2_with (first|(rw[←HW1.out])|fail)
  refine HMe.out.mono ?_;rintro e w2 ⟨v2,rfl,hv2,hL2⟩;have Ql:bq.own 108 w1.heap.size w2 v2 b0:=hv2;have hb2:bq.sl bf w2 v2 b0:=aB.dO (aB.fq Ql (by omega));obtain⟨va,vn,vc,rfl⟩:∃a n c,v2=.slice a n c:=by obtain⟨a,c,e⟩:=aB.slice hb2;exact⟨a,_,c,e⟩
  have HB2:=au hb2;have HL2:=au hL2;have hr2:=(hL2.block (by omega)).trans HR2.out;have hr1:=(hL2.block (by omega)).trans HR1.out;have k3:w2.cell? ⟨w.heap.size+1+1,3,none⟩=some (.slice ka kids.length kc):=by rw[show w.heap.size+1+1=w.heap.size+2 from rfl,cell_of_row _ _ _ _ _ _ hr2];rfl
  have k4:w2.cell? ⟨w.heap.size+1,3,none⟩=some (.slice ba body.length bc):=by rw[cell_of_row _ _ _ _ _ _ hr1];rfl
  have HK2:=au (aB.aK HKv.out hL2);have hbl:=HBd.out.1.1;clear hv2 Ql hb2 hL2 hr2 hr1 HMe a0 a1 a2 f0 f1 HW1;go_wp2;clear k3 k4
  go_loopg [7,9,27] body.length (fun g lv kv i wr=>∃(j:Nat) (b:List aD) (ks:List bG),j+g=body.length∧i=.int .i64 j∧Hid (bq.sl bf wr lv b)∧b.length≤4+4*j∧Hid ((kZ n).sl bf wr kv ks)∧Hid (KG=fH (body.drop j) (ks.map bG.fact) b)∧Hid (ak w1 wr))
  case atStart=>exact⟨0,b0,kids,by omega,rfl,HB2,by omega,HK2,(by rw[List.drop_zero];exact HKG.out:_=_),HL2⟩
  clear HB2 HK2 HL2;obtain⟨j,b,ks,hj,rfl,HB,hbn,HK,HG,HL⟩:=hrel;obtain⟨la,lc,hlv⟩:=aB.slice HB.out;obtain⟨qa,qc,hkv⟩:=aB.slice HK.out;subst hlv;subst hkv
  by_cases hlt:j<body.length
  ·obtain⟨a,ha⟩:∃a,body[j]?=some a:=⟨_,List.getElem?_eq_getElem hlt⟩;obtain⟨b1,o1,_,e1,hb1,⟨xv,hce,htv⟩,hc⟩:=aB.bO HBd.out ha;subst e1;subst hce;have d0:wr.cell? ⟨b1,o1+j*3,none⟩=some (.bool a.no):=by rw[HL.out.cell (p:=⟨b1,o1+j*3,none⟩) hb1];simpa[bN] using hc 0 _ rfl
   have d1:wr.cell? ⟨b1,o1+j*3+1,none⟩=some (.string (bs a.name)):=by rw[HL.out.cell (p:=⟨b1,o1+j*3+1,none⟩) hb1];simpa[bN] using hc 1 _ rfl
   have d2:wr.cell? ⟨b1,o1+j*3+2,none⟩=some xv:=by rw[HL.out.cell (p:=⟨b1,o1+j*3+2,none⟩) hb1];simpa[bN] using hc 2 _ rfl
   obtain⟨xa,xc,rfl⟩:=aB.slice htv;have hdr:body.drop j=a::body.drop (j+1):=by obtain⟨hi,e⟩:=List.getElem?_eq_some_iff.1 ha;rw[List.drop_eq_getElem_cons hi,e]
   have hat:=HBT.out a (List.mem_of_getElem? ha);have hg:=HG.out;rw[hdr] at hg;obtain⟨wa,hwa⟩:∃wa,wa=wr.alloc (.cells #[.bool a.no,.string (bs a.name),.slice xa a.terms.length xc] 79):=⟨_,rfl⟩;have hLa:ak wr wa:=by rw[hwa];exact(ak.refl wr).alloc _
   have hRa:wa.heap[wr.heap.size]?=some (.cells #[.bool a.no,.string (bs a.name),.slice xa a.terms.length xc] 79 (0,0)):=by rw[hwa];exact heap_alloc_new wr _
   obtain⟨c0,c1,c2,hla⟩:=Cb hRa;have hLA:=HL.out.trans hLa;have HTa:=au (aB.aK htv hLA);have HLa:=au hLA;have HWa:=au hwa;have HRa:=au hRa;have HBa:=au (aB.aK HB.out hLa);have HKa:=au (aB.aK HK.out hLa);clear hc ha htv hwa hLa hRa hLA HB HK HL HG hdr;cases hno:a.no with
   |true=>
    rw[Au hno] at hg;rw[hno] at d0 HWa c0;have HG2:=au hg;clear hno hg;generalize bs a.name=nm2 at*
    go_wp2_with (rw[←HWa.out])
    go_roundg (body.length- (j+1))
    case measure=>omega
    case rel=>exact⟨j+1,b,ks,by omega,by go_num,HBa,by omega,HKa,HG2,HLa⟩
   |false=>
    rw[hno] at d0 HWa c0 HRa;cases ks with
    |nil=>
     rw[List.map_nil,xw hno] at hg;have HE:Hid (RR=5):=by show _=_;rw[HRR.out,hg];rfl
     clear hno hg;generalize bs a.name=nm2 at*
     go_wp2_with (rw[←HWa.out])
     go_ret;exact⟨by rw[HE.out];rfl,HL1.out.trans HLa.out⟩
    |cons k ks=>
     rw[List.map_cons] at hg;cases n with
     |zero=>
      obtain⟨c,hc⟩:=Ad HKa.out (x:=k) (by simp);exact hc.elim
     |succ m=>
     obtain⟨b2,o2,s2,kv2,e2,hb2,_,q0,q1,_,_,hs2,_⟩:=pE HKa.out (i:=0) (x:=k) rfl;simp only[Value.slice.injEq] at e2;obtain⟨rfl,_,_⟩:=e2;simp only[Nat.zero_mul,Nat.add_zero] at q0 q1;obtain⟨sa2,sc2,rfl⟩:=aB.slice hs2;have HTl:=au (Ir HKa.out);have hqc:(k::ks).length≤qc:=HKa.out.1.2;simp only[List.length_cons] at hqc;have HMe:Hid (∀w',ak wa w'→Calls Tryz.prog 61 #[.agg #[.bool false,.string (bs a.name),.slice xa a.terms.length xc],.agg #[.string k.fact.1,.slice sa2 k.fact.2.length sc2],.slice la b.length lc] w' fun e w''=>∃v,e=.returned (.tuple #[v,.bool (cZ a k.fact b).isSome])∧RX w' w'' v (cZ a k.fact b)∧Hid (ak w' w'')):=fun w' h=>by have:=KJ a (.slice xa a.terms.length xc) (.agg #[.string k.fact.1,.slice sa2 k.fact.2.length sc2]) (.slice la b.length lc) k.fact b w' (aB.aK HTa.out h) ⟨_,rfl,(iX hs2).later h⟩ (aB.aK HBa.out h) (by omega);rw[hno] at this;exact this
     have HSc:Hid (∀w',ak wa w'→(w'.cell? ⟨wr.heap.size,0,none⟩=some (.bool false)∧w'.cell? ⟨wr.heap.size,0+1,none⟩=some (.string (bs a.name))∧w'.cell? ⟨wr.heap.size,0+2,none⟩=some (.slice xa a.terms.length xc))∧w'.cell? ⟨b2,o2,none⟩=some (.string k.fact.1)∧w'.cell? ⟨b2,o2+1,none⟩=some (.slice sa2 k.fact.2.length sc2)):=fun w' h=>by
      have hra:=(h.block hla).trans HRa.out;refine⟨⟨?_,?_,?_⟩,?_,?_⟩;·rw[cell_of_row _ _ _ _ _ _ hra];rfl
      ·rw[cell_of_row _ _ _ _ _ _ hra];rfl
      ·rw[cell_of_row _ _ _ _ _ _ hra];rfl
      ·rw[h.cell (p:=⟨b2,o2,none⟩) hb2];exact q0
      rw[h.cell (p:=⟨b2,o2+1,none⟩) hb2];exact q1
     obtain⟨o,ho⟩:∃o,o=cZ a k.fact b:=⟨_,rfl⟩;rw[←ho] at HMe;have HO:=au ho;have HNo:=au hno;have HGk:=au hg;obtain⟨⟨kn,Iu⟩,krl,kk⟩:=k;dsimp only[bG.fact,bG.rule,bG.kids] at*;clear hno hg ho hs2 q0 q1 HKa;generalize bs a.name=nm2 at*;have hlp:(0:Int)<((ks.length+1:Nat):Int):=by omega
     have hl1:(1:Int)≤((ks.length+1:Nat):Int):=by omega
     have hle:(((ks.length+1:Nat):Int)==0)=false:=by simp;omega
     go_wp2_with (rw[←HWa.out])
     refine wp_region_held_drew (S:=fun w'=>ak wa w') (by kernel_rfl) (ak.refl wa).drew (fun hHeld=>?_);refine tkY 0 37 hHeld ?_ rfl fun w hSw=>by obtain⟨⟨p0,p1,p2⟩,p3,p4⟩:=HSc.out _ hSw;go_simp;try with_reducible rfl
     refine tkY 1 38 hHeld ?_;refine tkY 2 39 hHeld ?_;refine tkY 3 40 hHeld ?_;refine tkY 4 41 hHeld ?_ rfl fun w hSw=>by obtain⟨⟨p0,p1,p2⟩,p3,p4⟩:=HSc.out _ hSw;go_simp;try with_reducible rfl
     refine tkY 5 42 hHeld ?_;refine tkC 6 fun K hK=>?_;go_simp;refine(HMe.out _ hHeld).mono ?_;rintro e w4 ⟨v4,rfl,hv4,hL4⟩;have hL4':=hHeld.trans hL4.out;have Yn:∃a n c,v4=.slice a n c:=by
      cases o with
      |none=>exact⟨_,_,_,hv4⟩
      |some m=>obtain⟨a,c,e⟩:=aB.aY (K:=bq) hv4;exact⟨a,_,c,e⟩
     obtain⟨a4,n4,c4,rfl⟩:=Yn;refine hK.out _ _ hL4' (fun hHeld=>?_);clear hK K;refine tkY 7 36 hHeld ?_;refine tkY 8 44 hHeld ?_;refine tkY 9 45 hHeld ?_;refine tkY 10 7 hHeld ?_;refine tkY 11 8 hHeld ?_;refine wpAnyH_done (by kernel_rfl) ?_ _;clear hHeld;cases o with
     |none=>
      have HE:Hid (RR=8):=by show _=_;have:=HGk.out;rw[xA HNo.out HO.out.symm] at this;rw[HRR.out,this];rfl
      have HL4:=au (HL1.out.trans (HLa.out.trans hL4'));simp only[Option.isSome_none];clear hL4 hL4' hv4 HMe HSc HGk HO HRR;go_wp2;go_ret;exact⟨by rw[HE.out];rfl,HL4.out⟩
     |some b4=>
      have VE:bq.own 108 wa.drew.heap.size w4 (.slice a4 n4 c4) b4:=hv4;have hb4:=yS HO.out.symm;have hs4:bq.sl bf w4 (.slice a4 n4 c4) b4:=aB.dO (aB.fq VE (by omega));have HG4:Hid (KG=fH (body.drop (j+1)) (ks.map bG.fact) b4):=by show _=_;have:=HGk.out;rw[xB HNo.out HO.out.symm] at this;exact this
      have HS4:=au hs4;have HL4:=au (HLa.out.trans hL4');obtain⟨ta4,Tx⟩:∃z,(if qc=1 then some (⟨b2,o2,none⟩:Addr) else some ⟨b2,o2+4,none⟩)=z:=⟨_,rfl⟩;have HT4:Hid ((kZ (m+1)).sl bf w4 (.slice ta4 ks.length (qc-1)) ks):=by show aB.sl _ _ _ _ _;rw[←Tx];exact aB.aK HTl.out hL4'
      have Yo:b4.length≤4+4*(j+1):=by omega
      simp only[Option.isSome_some];clear hL4 hL4' hv4 VE hs4 HMe HSc HGk HO HTl hb4 HBa;go_wp2
      go_roundg (body.length- (j+1))
      case measure=>omega
      case rel=>exact⟨j+1,b4,ks,by omega,by go_num,HS4,Yo,HT4,HG4,HL4⟩
  have hg:=HG.out;rw[List.drop_eq_nil_of_le (by omega)] at hg;cases ks with
  |cons k ks=>
   have HE:Hid (RR=5):=by show _=_;rw[HRR.out,hg];rfl
   have hlp:(0:Int)<((ks.length+1:Nat):Int):=by omega
   clear hg HG HB HK R9;simp only[List.length_cons] at*;go_wp2;go_ret;exact⟨by rw[HE.out];rfl,HL1.out.trans HL.out⟩
  |nil=>
   have HE:Hid (RR=Kc all body b):=by show _=_;rw[HRR.out,hg];rfl
   have HBr:=au (R9.out b _ wr HL.out HB.out);have hr0:=(HL.out.block (by omega)).trans HR0.out;have hr1:=(HL.out.block (by omega)).trans HR1.out;have g0:wr.cell? ⟨w.heap.size,0,none⟩=some (.slice pa pn pc):=by rw[cell_of_row _ _ _ _ _ _ hr0];rfl
   have g1:wr.cell? ⟨w.heap.size,0+1,none⟩=some (.slice ta tn tc):=by rw[cell_of_row _ _ _ _ _ _ hr0];rfl
   have g2:wr.cell? ⟨w.heap.size,0+2,none⟩=some (.slice aa all.length ac):=by rw[cell_of_row _ _ _ _ _ _ hr0];rfl
   have g3:wr.cell? ⟨w.heap.size+1,3,none⟩=some (.slice ba body.length bc):=by rw[cell_of_row _ _ _ _ _ _ hr1];rfl
   clear hg HG HB HK R9 hr0 hr1;generalize Kc all body b=BE at*
   go_wp2_with fail
   refine HBr.out.mono ?_;rintro e w5 ⟨rfl,hL5⟩;have HL5:=au (HL1.out.trans (HL.out.trans hL5));clear hL5 HBr;go_wp2;go_ret;exact⟨by rw[HE.out];rfl,HL5.out⟩
theorem pK {n:Nat} {B:Nat→Prop} {w:World} {v:Value} {l:List bG} (h:(kZ n).sl B w v l) (hl:l≠[]):∃m,n=m+1:=by
 cases n with
 |succ m=>exact⟨m,rfl⟩
 |zero=>
  cases l with
  |nil=>exact absurd rfl hl
  |cons x l=>
   obtain⟨c,hc⟩:=Ad h (x:=x) (by simp);exact hc.elim
theorem uh {g:bG→Int}:∀{l:List bG} {j:Nat} {x:bG},l[j]?=some x→lG g (l.drop j)=if g x≠0 then g x else lG g (l.drop (j+1)):=fun {l j x} h=>by
 obtain⟨hi,e⟩:=List.getElem?_eq_some_iff.1 h;rw[List.drop_eq_getElem_cons hi,e]
 rfl
theorem uj {p:List aG} {told all:List aA} {n:Nat} {f:aA} {rl:Int} {kids:List bG} (h1:rl= -1) (h2:kids=[]) (h3:inB told f=true):dQ p told all (n+1) (.mk f rl kids)=0:=by subst h1 h2;unfold dQ;show(if(-1:Int)<0 then(if(-1:Int)= -1∧([]:List bG)=[]∧inB told f=true then(0:Int) else 6) else _)=0;rw[if_pos (by decide),if_pos ⟨rfl,rfl,h3⟩]
theorem jF {p:List aG} {told all:List aA} {n:Nat} {f:aA} {rl:Int} {kids:List bG} (h:rl<0) (h1:¬(rl= -1∧kids=[]∧inB told f=true)):dQ p told all (n+1) (.mk f rl kids)=6:=by unfold dQ;show(if rl<0 then(if rl= -1∧kids=[]∧inB told f=true then(0:Int) else 6) else _)=6;rw[if_pos h,if_neg h1]
theorem uo {p:List aG} {told all:List aA} {n i:Nat} {f:aA} {kids:List bG} (h:p[i]?=none):dQ p told all (n+1) (.mk f (i:Int) kids)=1:=by unfold dQ;show(if(i:Int)<0 then _ else match p[((i:Int)).toNat]? with|none=>(1:Int)|some r=>_)=1;rw[if_neg (by omega),Int.toNat_natCast,h]
theorem uq {p:List aG} {told all:List aA} {n i:Nat} {f:aA} {kids:List bG} {r:aG} (h:p[i]?=some r):dQ p told all (n+1) (.mk f (i:Int) kids)=if lQ all r f (kids.map bG.fact)≠0 then lQ all r f (kids.map bG.fact) else lG (dQ p told all n) kids:=by
 conv=>lhs;unfold dQ
 show(if(i:Int)<0 then _ else match p[((i:Int)).toNat]? with|none=>(1:Int)|some r=>if lQ all r f (kids.map bG.fact)≠0 then lQ all r f (kids.map bG.fact) else lG (dQ p told all n) kids)=_;rw[if_neg (by omega),Int.toNat_natCast,h]
theorem Iw (p:List aG) (told all:List aA) (hsh:∀r∈p,r.head.terms.length≤4∧r.body.length≤5∧∀a∈r.body,a.terms.length≤4) (hpl:p.length≤16) (hrt:fP told) (hra:fP all):
  ∀(n:Nat) (x:bG) (pv tv av xv:Value) (w:World),eP.sl bf w pv p→Facts w tv told→Facts w av all→lV n bf w xv x→
  Calls Tryz.prog 15 #[.agg #[pv,tv,av],xv] w fun e w'=>e=.returned (.int .i64 (dQ p told all (n+1) x))∧ak w w'
 |n,x,pv,tv,av,xv,w,hp,ht,ha,hx=>by
  have IH:∀m,n=m+1→∀(k:bG) (kv:Value) (w':World),ak w w'→lV m bf w' kv k→Calls Tryz.prog 15 #[.agg #[pv,tv,av],kv] w' fun e w''=>e=.returned (.int .i64 (dQ p told all n k))∧ak w' w'':=fun m hm k kv w' hL hk=>by have:=Iw p told all hsh hpl hrt hra m k pv tv av kv w' (aB.aK hp hL) (ht.later hL) (ha.later hL) hk;rw[hm];exact this
  obtain⟨s,kv,rfl,hs,hkv⟩:=hx;obtain⟨pa,pc,rfl⟩:=aB.slice hp;obtain⟨ta,tc,rfl⟩:=aF ht;obtain⟨aa,ac,rfl⟩:=aF ha;obtain⟨sa,sc,rfl⟩:=aB.slice hs;obtain⟨ka,kc,rfl⟩:=aB.slice hkv;have hkl:=hkv.1.1;obtain⟨w1,hw1⟩:∃w1,w1=(w.alloc (.cells #[.slice pa p.length pc,.slice ta told.length tc,.slice aa all.length ac] 47)).alloc (.cells #[.string x.fact.1,.slice sa x.fact.2.length sc,.int .i64 x.rule,.slice ka x.kids.length kc] 30):=⟨_,rfl⟩;have hL1:ak w w1:=by rw[hw1];exact((ak.refl w).alloc _).alloc _
  have hs1:w1.heap.size=w.heap.size+2:=by rw[hw1];simp
  have hr0:w1.heap[w.heap.size]?=some (.cells #[.slice pa p.length pc,.slice ta told.length tc,.slice aa all.length ac] 47 (0,0)):=by
   rw[hw1];simp only[bV,World.size_alloc]
   repeat (first|rw[if_pos trivial]|rw[if_pos (by omega)]|rw[if_neg (by omega)])
  have hr1:w1.heap[w.heap.size+1]?=some (.cells #[.string x.fact.1,.slice sa x.fact.2.length sc,.int .i64 x.rule,.slice ka x.kids.length kc] 30 (0,0)):=by
   rw[hw1];simp only[bV,World.size_alloc]
   repeat (first|rw[if_pos trivial]|rw[if_pos (by omega)]|rw[if_neg (by omega)])
  have HIn:=au (inC (.slice ta told.length tc) (.agg #[.string x.fact.1,.slice sa x.fact.2.length sc]) told x.fact w1 (ht.later hL1) ⟨_,rfl,(iX hs).later hL1⟩ hrt);have HIH:=au IH;have HSt:Hid (∀(r:aG) (hv bv:Value) (w':World),r∈p→ak w1 w'→eD.sl bf w' hv r.head.terms→bN.sl bf w' bv r.body→Calls Tryz.prog 32 #[.agg #[.slice pa p.length pc,.slice ta told.length tc,.slice aa all.length ac],.agg #[.bool r.head.no,.string (bs r.head.name),hv,bv],.agg #[.string x.fact.1,.slice sa x.fact.2.length sc,.int .i64 x.rule,.slice ka x.kids.length kc]] w' fun e w''=>e=.returned (.int .i64 (lQ all r x.fact (x.kids.map bG.fact)))∧ak w' w''):=fun r hv bv w' hr h h1 h2=>
   E5 all r x n _ _ _ hv bv _ w' ⟨_,_,_,rfl⟩ ⟨_,_,_,rfl⟩ ((ha.later hL1).later h) hra h1 h2 ⟨_,_,rfl,aB.aK (aB.aK hs hL1) h,aB.aK (aB.aK hkv hL1) h⟩ (hsh r hr).1 (hsh r hr).2.1 (hsh r hr).2.2
  have HPv:=au (aB.aK hp hL1);have HKv:=au (aB.aK hkv hL1);have HL1:=au hL1;have HR0:=au hr0;have HR1:=au hr1;have HW1:=au hw1;have HC:Hid (∀w',ak w1 w'→(w'.cell? ⟨w.heap.size,0,none⟩=some (.slice pa p.length pc)∧w'.cell? ⟨w.heap.size,0+1,none⟩=some (.slice ta told.length tc)∧w'.cell? ⟨w.heap.size,0+2,none⟩=some (.slice aa all.length ac))∧
    (w'.cell? ⟨w.heap.size+1,0,none⟩=some (.string x.fact.1)∧w'.cell? ⟨w.heap.size+1,0+1,none⟩=some (.slice sa x.fact.2.length sc)∧w'.cell? ⟨w.heap.size+1,0+2,none⟩=some (.int .i64 x.rule)∧w'.cell? ⟨w.heap.size+1,0+3,none⟩=some (.slice ka x.kids.length kc))∧w'.cell? ⟨w.heap.size,1,none⟩=some (.slice ta told.length tc)∧w'.cell? ⟨w.heap.size+1,2,none⟩=some (.int .i64 x.rule)∧w'.cell? ⟨w.heap.size+1,3,none⟩=some (.slice ka x.kids.length kc)):=fun w' h=>by
   have h0:=(h.block (by omega)).trans hr0;have h1:=(h.block (by omega)).trans hr1;refine⟨⟨?_,?_,?_⟩,⟨?_,?_,?_,?_⟩,?_,?_,?_⟩;·rw[cell_of_row _ _ _ _ _ _ h0];rfl
   ·rw[cell_of_row _ _ _ _ _ _ h0];rfl
   ·rw[cell_of_row _ _ _ _ _ _ h0];rfl
   ·rw[cell_of_row _ _ _ _ _ _ h1];rfl
   ·rw[cell_of_row _ _ _ _ _ _ h1];rfl
   ·rw[cell_of_row _ _ _ _ _ _ h1];rfl
   ·rw[cell_of_row _ _ _ _ _ _ h1];rfl
   ·rw[cell_of_row _ _ _ _ _ _ h0];rfl
   ·rw[cell_of_row _ _ _ _ _ _ h1];rfl
   ·rw[cell_of_row _ _ _ _ _ _ h1];rfl
  obtain⟨RR,hRR⟩:∃RR:Int,RR=dQ p told all (n+1) x:=⟨_,rfl⟩;rw[←hRR];obtain⟨⟨g0,g1,g2⟩,⟨x0,x1,x2,x3⟩,v1,v2,v3⟩:=HC.out w1 (ak.refl _);clear hp ht ha hs hkv hL1 hr0 hr1 hw1 IH;obtain⟨⟨fn,aH⟩,rl,kids⟩:=x;dsimp only[bG.fact,bG.rule,bG.kids] at*
  by_cases hneg:rl<0
  ·rw[qL] at HIn
   by_cases h1:rl= -1
   ·by_cases h2:kids=[]
    ·have hz:decide (0<kids.length)=false:=by rw[h2];rfl
     cases hi:inB told (fn,aH) with
     |true=>
      rw[uj h1 h2 hi] at hRR;rw[hi] at HIn;have HE:=au hRR;subst h1;clear hRR hi h2 HSt HIH
      go_enter Tryz.func15,Tryz.ntmps15
      go_wp2_with (first|(rw[←HW1.out])|fail)
      refine HIn.out.mono ?_;rintro e w2 ⟨rfl,hL2⟩;have HL2:=au (HL1.out.trans hL2);clear hL2 HIn;go_wp2;go_ret;exact⟨by rw[HE.out];rfl,HL2.out⟩
     |false=>
      rw[jF hneg (by rw[hi];simp)] at hRR;rw[hi] at HIn;have HE:=au hRR;subst h1;clear hRR hi h2 HSt HIH
      go_enter Tryz.func15,Tryz.ntmps15
      go_wp2_with (first|(rw[←HW1.out])|fail)
      refine HIn.out.mono ?_;rintro e w2 ⟨rfl,hL2⟩;have HL2:=au (HL1.out.trans hL2);clear hL2 HIn;go_wp2;go_ret;exact⟨by rw[HE.out];rfl,HL2.out⟩
    have hz:decide (0<kids.length)=true:=decide_eq_true (List.length_pos_iff.2 h2);rw[jF hneg (fun h=>h2 h.2.1)] at hRR;have HE:=au hRR;subst h1;clear hRR h2 HSt HIH HIn
    go_enter Tryz.func15,Tryz.ntmps15
    go_wp2_with (first|(rw[←HW1.out])|fail)
    go_ret;exact⟨by rw[HE.out];rfl,HL1.out⟩
   have hq:(rl != -1)=true:=by simpa using h1
   rw[jF hneg (fun h=>h1 h.1)] at hRR;have HE:=au hRR;clear hRR h1 HSt HIH HIn
   go_enter Tryz.func15,Tryz.ntmps15
   go_wp2_with (first|(rw[←HW1.out])|fail)
   go_ret;exact⟨by rw[HE.out];rfl,HL1.out⟩
  obtain⟨i,hi⟩:∃i:Nat,rl=(i:Int):=⟨rl.toNat,by omega⟩;subst hi
  by_cases hge:p.length≤i
  ·have hgi:((p.length:Int)≤(i:Int)):=by omega
   rw[uo (List.getElem?_eq_none hge)] at hRR;have HE:=au hRR;clear hRR HSt HIH HIn hge
   go_enter Tryz.func15,Tryz.ntmps15
   go_wp2_with (first|(rw[←HW1.out])|fail)
   go_ret;exact⟨by rw[HE.out];rfl,HL1.out⟩
  have hgi:¬((p.length:Int)≤(i:Int)):=by omega
  obtain⟨r,hr⟩:∃r,p[i]?=some r:=⟨_,List.getElem?_eq_getElem (by omega)⟩;rw[uq hr] at hRR;obtain⟨b1,o1,_,e1,hb1,hri,hc⟩:=aB.bO HPv.out hr;subst e1;obtain⟨hv,bv,hce,hhv,hbv⟩:=hri;subst hce;obtain⟨ha',hc',rfl⟩:=aB.slice hhv;obtain⟨ba,bc,rfl⟩:=aB.slice hbv;have HRc:Hid (∀w',ak w1 w'→w'.cell? ⟨b1,o1+i*4,none⟩=some (.bool r.head.no)∧w'.cell? ⟨b1,o1+i*4+1,none⟩=some (.string (bs r.head.name))∧w'.cell? ⟨b1,o1+i*4+2,none⟩=some (.slice ha' r.head.terms.length hc')∧w'.cell? ⟨b1,o1+i*4+3,none⟩=some (.slice ba r.body.length bc)):=fun w' h=>
   ⟨by rw[h.cell (p:=⟨b1,o1+i*4,none⟩) hb1];simpa[eP] using hc 0 _ rfl,by rw[h.cell (p:=⟨b1,o1+i*4+1,none⟩) hb1];simpa[eP] using hc 1 _ rfl,by rw[h.cell (p:=⟨b1,o1+i*4+2,none⟩) hb1];simpa[eP] using hc 2 _ rfl,by rw[h.cell (p:=⟨b1,o1+i*4+3,none⟩) hb1];simpa[eP] using hc 3 _ rfl⟩
  have HS:Hid (∀w',ak w1 w'→_):=fun w' h=>HSt.out r (.slice ha' r.head.terms.length hc') (.slice ba r.body.length bc) w' (List.mem_of_getElem? hr) h (aB.aK hhv h) (aB.aK hbv h);obtain⟨SE,hSE⟩:∃SE,SE=lQ all r (fn,aH) (kids.map bG.fact):=⟨_,rfl⟩;rw[←hSE] at hRR HS;have HRR:=au hRR;have hil:(i:Int)<(p.length:Int):=by omega
  have Yp:i<p.length:=by omega
  have h0i:(0:Int)≤(i:Int):=by omega
  clear hRR hr hc hhv hbv HSt HIn hSE;generalize bs r.head.name=nm at*;generalize r.head.no=no at*
  go_enter Tryz.func15,Tryz.ntmps15
  go_wp2_with (first|(rw[←HW1.out])|fail)
  refine wp_region_held_drew (S:=fun w'=>ak w1 w') (by kernel_rfl) (ak.refl w1).drew (fun hHeld=>?_);refine tkY 0 35 hHeld ?_ rfl fun w hSw=>by obtain⟨⟨p0,p1,p2⟩,⟨p3,p4,p5,p6⟩,p7,p8,p9⟩:=HC.out _ hSw;go_simp;try with_reducible rfl
  refine tkY 1 36 hHeld ?_;refine tkY 2 37 hHeld ?_ rfl fun w hSw=>by obtain⟨⟨p0,p1,p2⟩,⟨p3,p4,p5,p6⟩,p7,p8,p9⟩:=HC.out _ hSw;go_simp;try with_reducible rfl
  refine tkY 3 38 hHeld ?_;refine tkY 4 39 hHeld ?_ rfl fun w hSw=>by obtain⟨⟨p0,p1,p2⟩,⟨p3,p4,p5,p6⟩,p7,p8,p9⟩:=HC.out _ hSw;go_simp;try with_reducible rfl
  refine tkY 5 40 hHeld ?_;refine tkY 6 41 hHeld ?_ rfl fun w hSw=>by obtain⟨p0,p1,p2,p3⟩:=HRc.out _ hSw;go_simp;try with_reducible rfl
  refine tkY 7 42 hHeld ?_ rfl fun w hSw=>by obtain⟨⟨p0,p1,p2⟩,⟨p3,p4,p5,p6⟩,p7,p8,p9⟩:=HC.out _ hSw;go_simp;try with_reducible rfl
  refine tkC 8 fun K hK=>?_;go_simp;refine(HS.out _ hHeld).mono ?_;rintro e w2 ⟨rfl,hL2⟩;have hL2':=hHeld.trans hL2;refine hK.out _ _ hL2' (fun hHeld=>?_);clear hK K;refine tkY 9 5 hHeld ?_;refine wpAnyH_done (by kernel_rfl) ?_ _;clear hHeld hL2;have HL2:=au hL2'
  by_cases h0:SE=0
  ·have HE:Hid (RR=lG (dQ p told all n) kids):=by show _=_;rw[HRR.out,if_neg (by rw[h0];simp)]
   subst h0;have y3':w2.cell? ⟨w.heap.size+1,3,none⟩=some (.slice ka kids.length kc):=(HC.out _ hL2').2.2.2.2;clear hL2' HRR HS;go_wp2;clear y3'
   go_loopg [50] kids.length (fun g i wr=>∃j:Nat,j+g=kids.length∧i=.int .i64 j∧Hid (RR=lG (dQ p told all n) (kids.drop j))∧Hid (ak w1 wr))
   case atStart=>exact⟨0,by omega,rfl,HE,HL2⟩
   clear HE HL2;obtain⟨j,hj,rfl,HE,HL⟩:=hrel
   by_cases hlt:j<kids.length
   ·obtain⟨k,hk⟩:∃k,kids[j]?=some k:=⟨_,List.getElem?_eq_getElem hlt⟩;obtain⟨m,hm⟩:=pK HKv.out (by intro e;rw[e] at hlt;simp at hlt);have hKv:=HKv.out;rw[hm] at hKv;obtain⟨b2,o2,s2,kv2,e2,hb2,_,q0,q1,q2,q3,hs2,hk2⟩:=pE hKv hk;simp only[Value.slice.injEq] at e2;obtain⟨rfl,_,_⟩:=e2;obtain⟨sa2,sc2,rfl⟩:=aB.slice hs2;obtain⟨ka2,kc2,rfl⟩:=aB.slice hk2;have d0:wr.cell? ⟨b2,o2+j*4,none⟩=some (.string k.fact.1):=by rw[HL.out.cell (p:=⟨b2,o2+j*4,none⟩) hb2];exact q0
    have d1:wr.cell? ⟨b2,o2+j*4+1,none⟩=some (.slice sa2 k.fact.2.length sc2):=by rw[HL.out.cell (p:=⟨b2,o2+j*4+1,none⟩) hb2];exact q1
    have d2:wr.cell? ⟨b2,o2+j*4+2,none⟩=some (.int .i64 k.rule):=by rw[HL.out.cell (p:=⟨b2,o2+j*4+2,none⟩) hb2];exact q2
    have d3:wr.cell? ⟨b2,o2+j*4+3,none⟩=some (.slice ka2 k.kids.length kc2):=by rw[HL.out.cell (p:=⟨b2,o2+j*4+3,none⟩) hb2];exact q3
    obtain⟨wk,hwk⟩:∃wk,wk=wr.alloc (.cells #[.string k.fact.1,.slice sa2 k.fact.2.length sc2,.int .i64 k.rule,.slice ka2 k.kids.length kc2] 30):=⟨_,rfl⟩;have hLk:ak wr wk:=by rw[hwk];exact(ak.refl wr).alloc _
    have hRk:wk.heap[wr.heap.size]?=some (.cells #[.string k.fact.1,.slice sa2 k.fact.2.length sc2,.int .i64 k.rule,.slice ka2 k.kids.length kc2] 30 (0,0)):=by rw[hwk];exact heap_alloc_new wr _
    have hLK:=HL.out.trans hLk;have k0:wk.cell? ⟨wr.heap.size,0,none⟩=some (.string k.fact.1):=by rw[cell_of_row _ _ _ _ _ _ hRk];rfl
    have k1:wk.cell? ⟨wr.heap.size,0+1,none⟩=some (.slice sa2 k.fact.2.length sc2):=by rw[cell_of_row _ _ _ _ _ _ hRk];rfl
    have k2:wk.cell? ⟨wr.heap.size,0+2,none⟩=some (.int .i64 k.rule):=by rw[cell_of_row _ _ _ _ _ _ hRk];rfl
    have k3:wk.cell? ⟨wr.heap.size,0+3,none⟩=some (.slice ka2 k.kids.length kc2):=by rw[cell_of_row _ _ _ _ _ _ hRk];rfl
    obtain⟨⟨z0,z1,z2⟩,_⟩:=HC.out wk hLK;have HCl:=au (HIH.out m hm k (.agg #[.string k.fact.1,.slice sa2 k.fact.2.length sc2,.int .i64 k.rule,.slice ka2 k.kids.length kc2]) wk (HL1.out.trans hLK) ⟨_,_,rfl,aB.aK hs2 hLK,aB.aK hk2 hLK⟩);have hfd:=uh (g:=dQ p told all n) hk;have HLK:=au hLK;have HWk:=au hwk;obtain⟨G,hG⟩:∃G,G=dQ p told all n k:=⟨_,rfl⟩;rw[←hG] at HCl hfd;have HFd:=au hfd;obtain⟨⟨kn,Iu⟩,krl,kk⟩:=k;dsimp only[bG.fact,bG.rule,bG.kids] at*;clear hk hKv q0 q1 q2 q3 hs2 hk2 hwk hLk hRk hLK hfd hG hm
    go_wp2_with (first|(rw[←HWk.out])|fail)
    refine HCl.out.mono ?_;rintro e w3 ⟨rfl,hL3⟩;have HL3:=au (HLK.out.trans hL3);clear hL3 HCl d0 d1 d2 d3 k0 k1 k2 k3 z0 z1 z2
    by_cases hG0:G=0
    ·have HE2:Hid (RR=lG (dQ p told all n) (kids.drop (j+1))):=by show _=_;rw[HE.out,HFd.out,if_neg (by rw[hG0];simp)]
     subst hG0;clear HFd HE;go_wp2
     go_roundg (kids.length- (j+1))
     case measure=>omega
     case rel=>exact⟨j+1,by omega,by go_num,HE2,HL3⟩
    have hq:(G != 0)=true:=by simpa using hG0
    have HE2:Hid (RR=G):=by show _=_;rw[HE.out,HFd.out,if_pos hG0]
    clear HFd HE hG0;go_wp2;go_ret;exact⟨by rw[HE2.out];rfl,HL1.out.trans HL3.out⟩
   have HE2:Hid (RR=0):=by show _=_;rw[HE.out,List.drop_eq_nil_of_le (by omega)];rfl
   clear HE;go_wp2;go_ret;exact⟨by rw[HE2.out];rfl,HL1.out.trans HL.out⟩
  have hq:(SE != 0)=true:=by simpa using h0
  have HE:Hid (RR=SE):=by show _=_;rw[HRR.out,if_pos h0]
  clear hL2' HRR HS h0;go_wp2;go_ret;exact⟨by rw[HE.out];rfl,HL1.out.trans HL2.out⟩
theorem iZ {s:ByteArray} (h:isNamed (raw s)=true):s.size≤12:=by unfold isNamed at h;simp only[Bool.and_eq_true,decide_eq_true_eq] at h;rw[bZ] at h;exact h.1.1
theorem j4 {f:aA}:fG f=0↔ni f:=by
 unfold fG ni;rw[lY]
 constructor
 ·intro h;split at h;·simp at h
  rename_i h1;split at h;·simp at h
  rename_i h2;split at h;·simp at h
  rename_i h3;refine⟨by simpa using h1,by omega,fun s hs=>?_⟩;cases e:isNamed (raw s) with
  |true=>rfl
  |false=>
   exfalso
   refine h3 ?_;unfold fV;rw[List.drop_zero,List.any_eq_true];exact⟨s,hs,by rw[lY,e];rfl⟩
 rintro⟨h1,h2,h3⟩;rw[if_neg (by simp[h1]),if_neg (by omega),if_neg];intro h;unfold fV at h;rw[List.drop_zero,List.any_eq_true] at h;obtain⟨s,hs,hn⟩:=h;rw[lY,h3 s hs] at hn;cases hn
end Go.Proofs.YtaallngooaaonaaGreatDoor
