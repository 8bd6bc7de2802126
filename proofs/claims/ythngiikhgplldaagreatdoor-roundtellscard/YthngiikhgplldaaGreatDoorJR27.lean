import Derived.Test.YthngiikhgplldaaGreatDoorJR26
import Derived.Test.YthngiikhgplldaaGreatDoorJR2
import Derived.Test.YthngiikhgplldaaGreatDoorJR24
import Derived.DeepKeys4
open Go.RowKit Go.Sort Go.Maps
set_option maxHeartbeats 8000000
set_option maxRecDepth 100000
namespace Go.Proofs.YthngiikhgplldaaGreatDoor
structure PB (w wr:World) (j:Int) (c0 c1 c2 c3:Value) (n:Nat) (m:bZ) (w':World):Prop where
 below:Below w.heap.size w w'
 row:w'.heap[w.heap.size]?=some (.cells #[.int .i64 0,.int .i64 0] 41 (0,0))
 i:w'.cell? ⟨wr.heap.size,0,none⟩=some (.int .i64 j)
 cells:w'.cell? ⟨wr.heap.size+1,0,none⟩=some c0∧w'.cell? ⟨wr.heap.size+1,1,none⟩=some c1∧w'.cell? ⟨wr.heap.size+1,2,none⟩=some c2∧w'.cell? ⟨wr.heap.size+1,3,none⟩=some c3∧wr.heap.size+1<w'.heap.size
 lo:w.heap.size+2≤wr.heap.size
 map:dx w' (w.heap.size+1) n m
theorem PB.turned {w wr w1 w2:World} {j:Int} {c0 c1 c2 c3:Value} {n n':Nat} {m m':bZ} (h:PB w wr j c0 c1 c2 c3 n m w1) (k:Tn (w.heap.size+1) w1 w2) (hm:dx w2 (w.heap.size+1) n' m'):PB w wr j c0 c1 c2 c3 n' m' w2:=by have hl:=h.cells.2.2.2.2;have hlo:=h.lo;have e:∀q,w2.cell? ⟨wr.heap.size+1,q,none⟩=w1.cell? ⟨wr.heap.size+1,q,none⟩:=fun q=>k.cell (x:=⟨wr.heap.size+1,q,none⟩) hl (by show wr.heap.size+1≠_;omega);refine⟨ak h.below (k.below (n:=w.heap.size) (by omega) (by have:=h.below.size;omega)) (Nat.le_refl _),by rw[k.block _ (by omega) (by omega)];exact h.row,?_,⟨by rw[e];exact h.cells.1,by rw[e];exact h.cells.2.1,by rw[e];exact h.cells.2.2.1,by rw[e];exact h.cells.2.2.2.1,Nat.lt_of_lt_of_le hl k.size⟩,hlo,hm⟩;rw[k.cell (x:=⟨wr.heap.size,0,none⟩) (by show wr.heap.size<_;omega) (by show wr.heap.size≠_;omega)];exact h.i
theorem PB.below' {w wr w1 w2:World} {j:Int} {c0 c1 c2 c3:Value} {n:Nat} {m:bZ} (h:PB w wr j c0 c1 c2 c3 n m w1) (k:Below w1.heap.size w1 w2):PB w wr j c0 c1 c2 c3 n m w2:=h.turned (Tn.of_below k) (h.map.below k)
def wD (r:aD):Prop:=Cg r.head∧∀a∈r.body,Cg a
theorem uq (p:List aD) (v:Value) (w:World) (hv:iy.sl bT w v p) (hk:∀r∈p,wD r):
  Calls Tryz.prog 35 #[v] w fun e w'=>e=.returned (.agg #[.int .i64 (bQ p).1,.int .i64 ((bQ p).2:Nat)])∧Below w.heap.size w w':=by
 obtain⟨sa,cap,rfl⟩:=aB.slice hv;have hl0:=hv.1.1;have HV:=au hv;have HK:=au hk;clear hv hk
 by_cases h16:16<p.length
 ·have F:Hid (bQ p=(5,0)):=by show _=_;unfold bQ;rw[if_pos h16]
  go_enter Tryz.func35,Tryz.ntmps35
  go_wp2;exact bodyPost_ret (v:=.agg #[.int .i64 5,.int .i64 0]) (by simp[results,Tryz.results35,go_sem]) rfl ⟨by rw[F.out];rfl,((by repeat (first|exact aj.refl _|assumption|refine aj.drewN ?_ _|refine aj.drew ?_|refine aj.alloc ?_ _|refine aj.grow ?_ _)):aj w _).below⟩
 have F:Hid (bQ p=fC (fun _=>none) 0 p):=by show _=_;unfold bQ;rw[if_neg h16]
 have hmm:= @run_makeMap Tryz.prog
 go_enter Tryz.func35,Tryz.ntmps35
 go_wp2
 go_loopg [20] p.length (fun k i wr=>∃j:Nat,j+k=p.length∧i=.int .i64 j∧∃m,Hid (bQ p=fC m j (p.drop j))∧Hid (dx wr (w.heap.size+1) (6*j) (more m))∧Hid (Below w.heap.size w wr)∧Hid (wr.heap[w.heap.size]?=some (.cells #[.int .i64 0,.int .i64 0] 41 (0,0)))∧w.heap.size+2≤wr.heap.size)
 case atStart=>
  refine⟨0,by omega,rfl,fun _=>none,F.out,?_,?_,?_,by simp⟩;·have:=iK.made Tryz.prog 9 3 (w.alloc (.cells #[.int .i64 0,.int .i64 0] 41));rw[World.size_alloc] at this;exact this
  ·exact(((aj.refl w).alloc _).alloc _).below
  show _=_;rw[Below.heap_alloc _ _ _ (by simp),heap_alloc_new]
 obtain⟨j,hj,rfl,m,HE,HM,HB,HR,hsz⟩:=hrel
 by_cases hlt:j<p.length
 ·obtain⟨r,hr⟩:∃x,p[j]?=some x:=⟨_,List.getElem?_eq_getElem hlt⟩;obtain⟨b1,o1,_,rfl,hb1,⟨sv,su,rfl,hsv,hsu⟩,hc⟩:=aB.bR HV.out hr;have d0:wr.cell? ⟨b1,o1+j*4,none⟩=some (.bool r.head.no):=by rw[HB.out.cell hb1];exact hc 0 _ rfl
  have d1:wr.cell? ⟨b1,o1+j*4+1,none⟩=some (.string (bs r.head.name)):=by rw[HB.out.cell hb1];exact hc 1 _ rfl
  have d2:wr.cell? ⟨b1,o1+j*4+2,none⟩=some sv:=by rw[HB.out.cell hb1];exact hc 2 _ rfl
  have d3:wr.cell? ⟨b1,o1+j*4+3,none⟩=some su:=by rw[HB.out.cell hb1];exact hc 3 _ rfl
  have hbr:b1<wr.heap.size:=by omega
  have hst:=nV hr m j;have hlr:=HK.out r (List.mem_of_getElem? hr);obtain⟨wA,hwA⟩:∃wA,wA=(wr.alloc (.cells #[.int .i64 j] 3)).alloc (.cells #[.bool r.head.no,.string (bs r.head.name),sv,su] 57):=⟨_,rfl⟩;have hLA:aj wr wA:=by rw[hwA];exact(by repeat (first|exact aj.refl _|assumption|refine aj.drewN ?_ _|refine aj.drew ?_|refine aj.alloc ?_ _|refine aj.grow ?_ _))
  have hPA:PB w wr j (.bool r.head.no) (.string (bs r.head.name)) sv su (6*j) (more m) wA:=by refine⟨ak HB.out hLA.below HB.out.size,by rw[hLA.block (by omega)];exact HR.out,by rw[hwA];simp,by rw[hwA];simp,hsz,HM.out.later hLA⟩
  have PA:=au hPA;have HWA:=au hwA;have HSV:Hid (∀w',Below w.heap.size w w'→gJ.sl bT w' sv r.head.terms):=fun w' h=>aB.aO hsv h;have HSU:Hid (∀w',Below w.heap.size w w'→dY.sl bT w' su r.body):=fun w' h=>aB.aO hsu h;have HAt:=au (rU r.head sv wA (HSV.out wA hPA.below) hlr.1);rw[hwA] at HAt;obtain⟨a2,c2,rfl⟩:=aB.slice hsv;obtain⟨a3,c3,rfl⟩:=aB.slice hsu;have HLr:=au hlr;clear hc hr hsv hsu hwA hLA hPA HM HB HR hlr
  by_cases h1:aL r.head=0
  ·rw[h1] at HAt;have HBd:Hid (∀w',Below w.heap.size w w'→Calls Tryz.prog 57 #[.slice a3 r.body.length c3] w' fun e w''=>e=.returned (.int .i64 (aM r.body))∧Below w'.heap.size w' w''):=fun w' h=>Ac r.body _ w' (HSU.out w' h) HLr.out.2;cases hno:r.head.no
   ·rw[hno] at HAt PA d0 HWA
    by_cases h2:aM r.body=0
    ·rw[h2] at HBd;obtain⟨hl5,hfb⟩:=iY h2;obtain⟨fn,ft,fs⟩:=bL h1;have hkh:Je r.head:=⟨by omega,fun t ht=>dL (fs t ht)⟩;have HBo:Hid (∀w',Below w.heap.size w w'→Calls Tryz.prog 58 #[.agg #[.bool false,.string (bs r.head.name),.slice a2 r.head.terms.length c2],.slice a3 r.body.length c3] w' fun e w''=>e=.returned (.bool ((vars r.head).all (givenBy r.body)))∧Below w'.heap.size w' w''):=fun w' h=>by
      have:=EI r.head _ r.body _ w' (HSV.out w' h) hkh (HSU.out w' h) (fun b hb=>⟨by have:=(bL (hfb b hb)).2.1;omega,fun t ht=>dL ((bL (hfb b hb)).2.2 t ht)⟩)
      rwa [hno] at this
     cases hal:(vars r.head).all (givenBy r.body)
     ·have HE2:Hid (bQ p=(9,j)):=by
       show _=_;have:aU m r=(9,m):=by unfold aU;rw[if_pos h1,hno,if_pos h2,hal];rfl
       rw[HE.out,hst,this,if_neg (by show¬(9:Int)=0;decide)]
      rw[hal] at HBo;clear hst HE h1 h2 hno hal hkh hfb fs HSV HSU HLr HK;generalize bs r.head.name=nm at*
      go_wp2_with fail
      refine HAt.out.mono ?_;rintro e w2 ⟨rfl,hL2⟩;rw[←HWA.out] at hL2;have P2:=au (PA.out.below' hL2.below);obtain⟨y0,y1,y2,y3,yl⟩:=P2.out.cells;have H2:=au (HBd.out w2 P2.out.below);clear hL2 HAt HBd
      go_wp2_with fail
      refine H2.out.mono ?_;rintro e w3 ⟨rfl,hB3⟩;have P3:=au (P2.out.below' hB3);obtain⟨x0,x1,x2,x3,xl⟩:=P3.out.cells;have H3:=au (HBo.out w3 P3.out.below);clear hB3 H2 HBo
      go_wp2_with fail
      refine H3.out.mono ?_;rintro e w4 ⟨rfl,hB4⟩;have P4:=au (P3.out.below' hB4);clear hB4 H3;have yY:=au (Iy 9 j _ w4 P4.out.i)
      go_wp2_with fail
      refine yY.out.mono ?_;rintro e wz ⟨rfl,hLz⟩;have Pz:=au (P4.out.below' hLz.below);have hRz:=Pz.out.row;have q0:wz.cell? ⟨w.heap.size,0,none⟩=some (.int .i64 0):=by rw[cell_of_row _ _ _ _ _ _ hRz];rfl
      have q1:wz.cell? ⟨w.heap.size,1,none⟩=some (.int .i64 0):=by rw[cell_of_row _ _ _ _ _ _ hRz];rfl
      have p0:wz.frozen? ⟨w.heap.size,0,none⟩=false:=aP 0 hRz;have p1:wz.frozen? ⟨w.heap.size,1,none⟩=false:=aP 1 hRz;clear hLz yY hRz;go_wp2;obtain⟨r0,r1⟩:=cu Pz.out.row (.int .i64 9) (.int .i64 j);refine bodyPost_ret (v:=.agg #[.int .i64 9,.int .i64 j]) (by simp[results,Tryz.results35,go_sem,r0,r1]) rfl ⟨fK (by rw[HE2.out]) (by rw[HE2.out]),?_⟩;exact(Pz.out.below.setCell (Nat.le_refl _) _).setCell (Nat.le_refl _) _
     have hWR:=uj (m:=m) h1 hno h2 hal;rw[hal] at HBo;have HFb:Hid (∀a∈r.head::r.body,aL a=0):=fun a ha=>by
      rcases List.mem_cons.1 ha with e|ha;·rw[e];exact h1
      exact hfb a ha
     have HHd:Hid (dY.is bT w [.bool false,.string (bs r.head.name),.slice a2 r.head.terms.length c2] r.head):=⟨_,by rw[hno],HSV.out w (Below.refl _ _)⟩;have K7:Hid (dY.sl bT w (.slice a3 r.body.length c3) r.body):=HSU.out w (Below.refl _ _);have HWR:Hid (bQ p=if(fitAll m (r.head::r.body)).1 then fC (fitAll m (r.head::r.body)).2 (j+1) (p.drop (j+1)) else(8,j)):=by show _=_;rw[HE.out,hst,hWR];cases(fitAll m (r.head::r.body)).1 <;> simp
     clear hst HE h1 h2 hno hal hkh hfb fs HLr HK hWR HSV;generalize hall:r.head::r.body=all at*;have Es:Hid (all=[r.head]++r.body):=hall.symm;have Nt:all.length=r.body.length+1:=by rw[←hall];rfl
     clear hall;generalize bs r.head.name=nm at*
     go_wp2_with fail
     refine HAt.out.mono ?_;rintro e w2 ⟨rfl,hL2⟩;rw[←HWA.out] at hL2;have P2:=au (PA.out.below' hL2.below);obtain⟨y0,y1,y2,y3,yl⟩:=P2.out.cells;have H2:=au (HBd.out w2 P2.out.below);clear hL2 HAt HBd
     go_wp2_with fail
     refine H2.out.mono ?_;rintro e w3 ⟨rfl,hB3⟩;have P3:=au (P2.out.below' hB3);obtain⟨x0,x1,x2,x3,xl⟩:=P3.out.cells;have H3:=au (HBo.out w3 P3.out.below);clear hB3 H2 HBo
     go_wp2_with fail
     refine H3.out.mono ?_;rintro e w4 ⟨rfl,hB4⟩;have P4:=au (P3.out.below' hB4);obtain⟨v0,v1,v2,v3,vl⟩:=P4.out.cells;have hRO:=ow.one (w0:=w) (lo:=w4.heap.size) HHd.out (Nat.le_refl w4.heap.size);have hBA:Below w.heap.size w (w4.alloc (.cells #[.bool false,.string nm,.slice a2 r.head.terms.length c2] 54)):=P4.out.below.alloc P4.out.below.size _;obtain⟨v5,w5,hrun,hRA,hg5⟩:=hRO.many (by simp) hBA K7.out (by simp;omega);have hB5:Below w4.heap.size w4 w5:=ak ((aj.refl w4).alloc (.cells #[.bool false,.string nm,.slice a2 r.head.terms.length c2] 54)).below ⟨hg5.os,hg5.tape,hg5.output,hg5.size,fun k hk=>hg5.block k (by simp;omega) (fun e=>by have:=(ow.lo hRO k e.symm).1;omega)⟩ (Nat.le_refl _);rw[←Es.out] at hRA;have P5:=au (P4.out.below' hB5);have h4:w.heap.size+1<w4.heap.size:=P4.out.map.lt;obtain⟨z5,c5,rfl⟩:=ow.slice hRA;have HSl:=au (hRA.slB P5.out.below (by omega) (b:=w.heap.size+1) (by omega) h4);have HR5:=au hrun;clear hrun hRA hg5 hB5 hRO hBA hB4 H3 HSU K7 HHd h4
     go_wp2_with (at_builtin;refine wpList_append_run rfl (.tmp 57) (.tmp 59) 55 rfl _ _ _ _ rfl rfl HR5.out ?_)
     go_loopg [62] all.length (fun g i wr2=>∃k:Nat,k+g=all.length∧i=.int .i64 k∧∃mk,Hid (fitAll m all=fitAll mk (all.drop k))∧Hid (dx wr2 (w.heap.size+1) (6*j+k) (more mk))∧Hid (Tn (w.heap.size+1) w5 wr2))
     case atStart=>exact⟨0,by omega,rfl,m,(rfl:_=_),P5.out.map,Tn.refl _ _⟩
     obtain⟨k,hk,rfl,mk,HFi,HMk,HTn⟩:=hrel
     by_cases hltk:k<all.length
     ·obtain⟨t,ht⟩:∃x,all[k]?=some x:=⟨_,List.getElem?_eq_getElem hltk⟩;obtain⟨b6,o6,_,rfl,hb6,⟨tv,rfl,htv⟩,hct⟩:=aB.bR (aB.nU HSl.out HTn.out) ht;have e0:wr.cell? ⟨b6,o6+k*3,none⟩=some (.bool t.no):=hct 0 _ rfl;have e1:wr.cell? ⟨b6,o6+k*3+1,none⟩=some (.string (bs t.name)):=hct 1 _ rfl;have e2:wr.cell? ⟨b6,o6+k*3+2,none⟩=some tv:=hct 2 _ rfl;have htl:=htv.1.1;obtain⟨ta,tc,rfl⟩:=aB.slice htv;have hts:t.name.length≤maxLen:=dL (bL (HFb.out t (List.mem_of_getElem? ht))).1;have hmp:=HMk.out.later ((aj.refl wr).alloc (.cells #[.bool t.no,.string (bs t.name),.slice ta t.terms.length tc] 54));have hlk:=iK.Aw (T:=72) hmp Tryz.underlying9 Tryz.underlying3 Tryz.underlying72 (jB _) hts;obtain⟨w7,Gq,hm7,hg7⟩:=iK.store (T:=72) hmp Tryz.underlying9 Tryz.underlying3 Tryz.underlying72 (by simp[maxLen];omega) hts (x:=t.terms.length+1) (pR (by omega));rw[show(((t.terms.length+1:Nat)):Int)=(t.terms.length:Int)+1 by omega] at Gq;have HT7:Hid (Tn (w.heap.size+1) w5 w7):=(HTn.out.trans (Tn.of_below ((aj.refl wr).alloc _).below)).trans (Tn.eG hg7);rw[D5] at hm7;have hf1:=pU ht mk;have hbq:b6<wr.heap.size:=hb6;have hmb:w.heap.size+1<wr.heap.size:=HMk.out.lt;have HBQ:=au HTn.out;cases hmt:mk t.name with
      |none=>
       have e3:numOf (more mk) t.name=0:=by unfold numOf more;rw[hmt];rfl
       have e4:((more mk) t.name).isSome=false:=by unfold more;rw[hmt];rfl
       rw[e3,e4] at hlk;have HF1:Hid (fitAll m all=fitAll (mk.put t.name t.terms.length) (all.drop (k+1))):=by show _=_;rw[HFi.out,hf1];rw[xU hmt];rfl
       have HM7:=au hm7;have HST:=au Gq;clear hct ht htv hmp Gq hm7 hg7 hf1 hmt e3 e4 HFi HMk HTn;generalize bs t.name=nt at*;generalize t.no=tn at*
       go_wp2_with (first
        |(at_mapUpdate;refine aH _ rfl _ _ _ _ rfl _ _ _ _ rfl rfl (by simp[Act.eval]) HST.out ?_)
        |go_in)
       go_roundg (all.length- (k+1))
       case measure=>omega
       case rel=>exact⟨k+1,by omega,by go_num,_,HF1,HM7,HT7⟩
      |some n=>
       have e3:numOf (more mk) t.name=n+1:=by unfold numOf more;rw[hmt];rfl
       have e4:((more mk) t.name).isSome=true:=by unfold more;rw[hmt];rfl
       rw[e3,e4,show(((n+1:Nat)):Int)=(n:Int)+1 by omega] at hlk
       by_cases hnt:n=t.terms.length
       ·have HF1:Hid (fitAll m all=fitAll mk (all.drop (k+1))):=by
         show _=_;rw[HFi.out,hf1];rw[qj hmt,decide_eq_true hnt];rfl
        rw[←hnt,D6 hmt] at hm7;have HM7:=au hm7;have HST:=au Gq;clear hct ht htv hmp Gq hm7 hg7 hf1 hmt e3 e4 HFi HMk HTn;subst hnt;generalize bs t.name=nt at*;generalize t.no=tn at*
        go_wp2_with (first
         |(at_mapUpdate;refine aH _ rfl _ _ _ _ rfl _ _ _ _ rfl rfl (by simp[Act.eval]) HST.out ?_)
         |go_in)
        go_roundg (all.length- (k+1))
        case measure=>omega
        case rel=>exact⟨k+1,by omega,by go_num,_,HF1,HM7,HT7⟩
       have hqn:(((n:Int)+1) != ((t.terms.length:Int)+1))=true:=by rw[bne_iff_ne];omega
       have HE2:Hid (bQ p=(8,j)):=by
        show _=_;have:fitAll m all=(false,mk):=by rw[HFi.out,hf1];rw[qj hmt,decide_eq_false hnt];rfl
        rw[HWR.out,this];rfl
       have PQ:=au ((P5.out.turned HTn.out HMk.out).below' ((aj.refl wr).alloc (.cells #[.bool t.no,.string (bs t.name),.slice ta t.terms.length tc] 54)).below);clear hct ht htv hmp Gq hm7 hg7 hf1 hmt e3 e4 HFi HMk HTn HT7;generalize bs t.name=nt at*;generalize t.no=tn at*;have yY:=au (Iy 8 j _ (wr.alloc (.cells #[.bool tn,.string nt,.slice ta t.terms.length tc] 54)) PQ.out.i)
       go_wp2_with fail
       refine yY.out.mono ?_;rintro e wz ⟨rfl,hLz⟩;have Pz:=au (PQ.out.below' hLz.below);have hRz:=Pz.out.row;have q0:wz.cell? ⟨w.heap.size,0,none⟩=some (.int .i64 0):=by rw[cell_of_row _ _ _ _ _ _ hRz];rfl
       have q1:wz.cell? ⟨w.heap.size,1,none⟩=some (.int .i64 0):=by rw[cell_of_row _ _ _ _ _ _ hRz];rfl
       have p0:wz.frozen? ⟨w.heap.size,0,none⟩=false:=aP 0 hRz;have p1:wz.frozen? ⟨w.heap.size,1,none⟩=false:=aP 1 hRz;clear hLz yY hRz;go_wp2;obtain⟨r0,r1⟩:=cu Pz.out.row (.int .i64 8) (.int .i64 j);refine bodyPost_ret (v:=.agg #[.int .i64 8,.int .i64 j]) (by simp[results,Tryz.results35,go_sem,r0,r1]) rfl ⟨fK (by rw[HE2.out]) (by rw[HE2.out]),?_⟩;exact(Pz.out.below.setCell (Nat.le_refl _) _).setCell (Nat.le_refl _) _
     have e:k=all.length:=by omega
     have HE2:Hid (bQ p=fC mk (j+1) (p.drop (j+1))):=by
      show _=_;have:fitAll m all=(true,mk):=by rw[HFi.out,List.drop_eq_nil_of_le (by omega)];rfl
      rw[HWR.out,this];rfl
     have PQ:=au (P5.out.turned HTn.out HMk.out);have hl6:w.heap.size+2≤wr.heap.size:=by have:=PQ.out.cells.2.2.2.2;have:=PQ.out.lo;omega
     go_wp2
     go_roundg (p.length- (j+1))
     case measure=>omega
     case rel=>exact⟨j+1,by omega,by go_num,mk,HE2,PQ.out.map.mono (by omega),PQ.out.below,PQ.out.row,hl6⟩
    have HE2:Hid (bQ p=(aM r.body,j)):=by
     show _=_;have:aU m r=(aM r.body,m):=by unfold aU;rw[if_pos h1,hno,if_neg h2];rfl
     rw[HE.out,hst,this,if_neg h2]
    have hq:(aM r.body != 0)=true:=by simpa using h2
    clear hst HE h1 h2 hno HSV HSU HLr HK;generalize aM r.body=eb at*;generalize bs r.head.name=nm at*
    go_wp2_with fail
    refine HAt.out.mono ?_;rintro e w2 ⟨rfl,hL2⟩;rw[←HWA.out] at hL2;have P2:=au (PA.out.below' hL2.below);obtain⟨y0,y1,y2,y3,yl⟩:=P2.out.cells;have H2:=au (HBd.out w2 P2.out.below);clear hL2 HAt HBd
    go_wp2_with fail
    refine H2.out.mono ?_;rintro e w3 ⟨rfl,hB3⟩;have P3:=au (P2.out.below' hB3);clear hB3 H2;have yY:=au (Iy eb j _ w3 P3.out.i)
    go_wp2_with fail
    refine yY.out.mono ?_;rintro e wz ⟨rfl,hLz⟩;have Pz:=au (P3.out.below' hLz.below);have hRz:=Pz.out.row;have q0:wz.cell? ⟨w.heap.size,0,none⟩=some (.int .i64 0):=by rw[cell_of_row _ _ _ _ _ _ hRz];rfl
    have q1:wz.cell? ⟨w.heap.size,1,none⟩=some (.int .i64 0):=by rw[cell_of_row _ _ _ _ _ _ hRz];rfl
    have p0:wz.frozen? ⟨w.heap.size,0,none⟩=false:=aP 0 hRz;have p1:wz.frozen? ⟨w.heap.size,1,none⟩=false:=aP 1 hRz;clear hLz yY hRz;go_wp2;obtain⟨r0,r1⟩:=cu Pz.out.row (.int .i64 eb) (.int .i64 j);refine bodyPost_ret (v:=.agg #[.int .i64 eb,.int .i64 j]) (by simp[results,Tryz.results35,go_sem,r0,r1]) rfl ⟨fK (by rw[HE2.out]) (by rw[HE2.out]),?_⟩;exact(Pz.out.below.setCell (Nat.le_refl _) _).setCell (Nat.le_refl _) _
   have HE2:Hid (bQ p=(2,j)):=by
    show _=_;have:aU m r=(2,m):=by unfold aU;rw[if_pos h1,hno];rfl
    rw[HE.out,hst,this,if_neg (by show¬(2:Int)=0;decide)]
   rw[hno] at HAt PA d0 HWA;clear hst HE h1 hno HSV HSU HLr HK HBd;generalize bs r.head.name=nm at*
   go_wp2_with fail
   refine HAt.out.mono ?_;rintro e w2 ⟨rfl,hL2⟩;rw[←HWA.out] at hL2;have P2:=au (PA.out.below' hL2.below);obtain⟨y0,y1,y2,y3,yl⟩:=P2.out.cells;clear hL2 HAt;have yY:=au (Iy 2 j _ w2 P2.out.i)
   go_wp2_with fail
   refine yY.out.mono ?_;rintro e wz ⟨rfl,hLz⟩;have Pz:=au (P2.out.below' hLz.below);have hRz:=Pz.out.row;have q0:wz.cell? ⟨w.heap.size,0,none⟩=some (.int .i64 0):=by rw[cell_of_row _ _ _ _ _ _ hRz];rfl
   have q1:wz.cell? ⟨w.heap.size,1,none⟩=some (.int .i64 0):=by rw[cell_of_row _ _ _ _ _ _ hRz];rfl
   have p0:wz.frozen? ⟨w.heap.size,0,none⟩=false:=aP 0 hRz;have p1:wz.frozen? ⟨w.heap.size,1,none⟩=false:=aP 1 hRz;clear hLz yY hRz;go_wp2;obtain⟨r0,r1⟩:=cu Pz.out.row (.int .i64 2) (.int .i64 j);refine bodyPost_ret (v:=.agg #[.int .i64 2,.int .i64 j]) (by simp[results,Tryz.results35,go_sem,r0,r1]) rfl ⟨fK (by rw[HE2.out]) (by rw[HE2.out]),?_⟩;exact(Pz.out.below.setCell (Nat.le_refl _) _).setCell (Nat.le_refl _) _
  have HE2:Hid (bQ p=(aL r.head,j)):=by
   show _=_;have:aU m r=(aL r.head,m):=by unfold aU;rw[if_neg h1]
   rw[HE.out,hst,this,if_neg h1]
  have hq:(aL r.head != 0)=true:=by simpa using h1
  clear hst HE h1 HSV HSU HLr HK;generalize aL r.head=ex at*;generalize r.head.no=xn at*;generalize bs r.head.name=nm at*
  go_wp2_with fail
  refine HAt.out.mono ?_;rintro e w2 ⟨rfl,hL2⟩;rw[←HWA.out] at hL2;have P2:=au (PA.out.below' hL2.below);clear hL2 HAt;have yY:=au (Iy ex j _ w2 P2.out.i)
  go_wp2_with fail
  refine yY.out.mono ?_;rintro e wz ⟨rfl,hLz⟩;have Pz:=au (P2.out.below' hLz.below);have hRz:=Pz.out.row;have q0:wz.cell? ⟨w.heap.size,0,none⟩=some (.int .i64 0):=by rw[cell_of_row _ _ _ _ _ _ hRz];rfl
  have q1:wz.cell? ⟨w.heap.size,1,none⟩=some (.int .i64 0):=by rw[cell_of_row _ _ _ _ _ _ hRz];rfl
  have p0:wz.frozen? ⟨w.heap.size,0,none⟩=false:=aP 0 hRz;have p1:wz.frozen? ⟨w.heap.size,1,none⟩=false:=aP 1 hRz;clear hLz yY hRz;go_wp2;obtain⟨r0,r1⟩:=cu Pz.out.row (.int .i64 ex) (.int .i64 j);refine bodyPost_ret (v:=.agg #[.int .i64 ex,.int .i64 j]) (by simp[results,Tryz.results35,go_sem,r0,r1]) rfl ⟨fK (by rw[HE2.out]) (by rw[HE2.out]),?_⟩;exact(Pz.out.below.setCell (Nat.le_refl _) _).setCell (Nat.le_refl _) _
 have E2:Hid (bQ p=(0,0)):=by show _=_;rw[HE.out,List.drop_eq_nil_of_le (by omega)];rfl
 have hR2:=HR.out;have q0:wr.cell? ⟨w.heap.size,0,none⟩=some (.int .i64 0):=by rw[cell_of_row _ _ _ _ _ _ hR2];rfl
 have q1:wr.cell? ⟨w.heap.size,1,none⟩=some (.int .i64 0):=by rw[cell_of_row _ _ _ _ _ _ hR2];rfl
 have p0:wr.frozen? ⟨w.heap.size,0,none⟩=false:=aP 0 hR2;have p1:wr.frozen? ⟨w.heap.size,1,none⟩=false:=aP 1 hR2;clear hR2;go_wp2;obtain⟨r0,r1⟩:=cu HR.out (.int .i64 0) (.int .i64 0);refine bodyPost_ret (v:=.agg #[.int .i64 0,.int .i64 0]) (by simp[results,Tryz.results35,go_sem,r0,r1]) rfl ⟨fK (by rw[E2.out]) (by rw[E2.out];rfl),?_⟩;exact(HB.out.setCell (Nat.le_refl _) _).setCell (Nat.le_refl _) _
def Edge (p:List aD) (a b:Bs) (s:Nat):Prop:=∃r∈p,∃x∈r.body,r.head.name=a∧x.name=b∧dU p b∧step x=s
inductive Trail (p:List aD):Bs→List Bs→Nat→Prop
 |nil (a:Bs):Trail p a [] 0
 |cons {a b:Bs} {s n:Nat} {l:List Bs}:Edge p a b s→Trail p b l n→Trail p a (b::l) (s+n)
theorem Edge.le {p:List aD} {a b:Bs} {s:Nat} (h:Edge p a b s):s≤1:=by obtain⟨r,_,x,_,_,_,_,rfl⟩:=h;unfold step;split <;> omega
theorem Trail.split {p:List aD}:∀(l1:List Bs) {a b:Bs} {l2:List Bs} {n:Nat},Trail p a (l1++b::l2) n→∃n1 n2,n=n1+n2∧Trail p a (l1++[b]) n1∧Trail p b l2 n2
 |[],a,b,l2,n,h=>by
  cases h with
  |cons e t=>exact⟨_,_,rfl,by have:=Trail.cons e (Trail.nil b);simpa using this,t⟩
 |c::l1,a,b,l2,n,h=>by
  cases h with
  |cons e t=>
   obtain⟨n1,n2,rfl,t1,t2⟩:=Trail.split l1 t;exact⟨_,n2,(Nat.add_assoc _ _ _).symm,Trail.cons e t1,t2⟩
theorem Trail.heads {p:List aD} {a:Bs} {l:List Bs} {n:Nat} (h:Trail p a l n):∀x∈l,dU p x:=by
 induction h with
 |nil=>intro x hx;cases hx
 |cons e _ ih=>
  intro x hx;obtain⟨_,_,_,_,_,_,hh,_⟩:=e;rcases List.mem_cons.1 hx with rfl|hx
  ·exact hh
  exact ih x hx
theorem Trail.le {p:List aD} {a:Bs} {l:List Bs} {n:Nat} (h:Trail p a l n):n≤l.length:=by
 induction h with
 |nil=>exact Nat.le_refl _
 |cons e _ ih=>have:=e.le;simp;omega
theorem ql:∀(p:List aD) (l:List Bs),l.Nodup→(∀x∈l,∃r∈p,r.head.name=x)→l.length≤p.length
 |[],l,_,h=>by
  cases l with
  |nil=>simp
  |cons x l=>obtain⟨r,hr,_⟩:=h x (by simp);cases hr
 |r::p,l,hn,h=>by
  have h1:=ql p (l.erase r.head.name) (hn.erase _) (fun x hx=>by
   rw[hn.mem_erase_iff] at hx;obtain⟨q,hq,e⟩:=h x hx.2;rcases List.mem_cons.1 hq with rfl|hq
   ·exact absurd e.symm hx.1
   exact⟨q,hq,e⟩)
  by_cases hm:r.head.name∈l
  ·rw[List.length_erase_of_mem hm] at h1;simp;omega
  rw[List.erase_of_not_mem hm] at h1;simp;omega
theorem IC {P:Nat→Prop} (N:Nat) (h0:P 0) (hb:∀n,P n→n≤N):∃m,P m∧∀n,P n→n≤m:=by
 have:∀k,(∃n,P n∧N≤n+k)→∃m,P m∧∀n,P n→n≤m:=by
  intro k
  induction k with
  |zero=>rintro⟨n,hn,hk⟩;exact⟨n,hn,fun m hm=>by have:=hb m hm;omega⟩
  |succ k ih=>
   rintro⟨n,hn,hk⟩
   by_cases hx:∃m,P m∧n<m
   ·obtain⟨m,hm,hlt⟩:=hx;exact ih ⟨m,hm,by omega⟩
   exact⟨n,hn,fun m hm=>Nat.le_of_not_lt fun hlt=>hx ⟨m,hm,hlt⟩⟩
 exact this N ⟨0,h0,by omega⟩
def Far (p:List aD) (a:Bs) (n:Nat):Prop:=∃l,l.Nodup∧a∉l∧Trail p a l n
theorem lH (p:List aD) (a:Bs):∃m,Far p a m∧∀n,Far p a n→n≤m:=
 IC p.length ⟨[],by simp,by simp,Trail.nil a⟩ fun n ⟨l,hn,_,ht⟩=>Nat.le_trans ht.le (ql p l hn fun x hx=>ht.heads x hx)
def F8 (p:List aD):Prop:=∀a mid n,mid.Nodup→Trail p a (mid++[a]) n→n=0
theorem qN {p:List aD} (h:F8 p):∃σ,Sol p σ:=by
 refine⟨fun a=>Classical.choose (lH p a),fun r hr x hx hh=>?_⟩;have hE:Edge p r.head.name x.name (step x):=⟨r,hr,x,hx,rfl,rfl,hh,rfl⟩;obtain⟨⟨l,hn,hnot,ht⟩,_⟩:=Classical.choose_spec (lH p x.name);have hmax:=(Classical.choose_spec (lH p r.head.name)).2;show Classical.choose (lH p x.name)+step x≤Classical.choose (lH p r.head.name);generalize Classical.choose (lH p x.name)=n at*;generalize Classical.choose (lH p r.head.name)=m at*;generalize step x=s at*;generalize r.head.name=a at*;generalize x.name=b at*
 by_cases hab:a=b
 ·subst hab;have h1:=h a [] s (by simp) (by have:=Trail.cons hE (Trail.nil a);simpa using this);have h2:=hmax n ⟨l,hn,hnot,ht⟩;omega
 by_cases hal:a∈l
 ·obtain⟨l1,l2,rfl⟩:=List.append_of_mem hal;obtain⟨n1,n2,rfl,t1,t2⟩:=Trail.split l1 ht;have hn':=hn;rw[List.nodup_append] at hn';obtain⟨hd1,hd2,hd3⟩:=hn';have K8:=List.nodup_cons.1 hd2;have h1:=h a (b::l1) (s+n1) (List.nodup_cons.2 ⟨fun hb=>hnot (by simp[hb]),hd1⟩) (Trail.cons hE t1);have h2:=hmax n2 ⟨l2,K8.2,K8.1,t2⟩;omega
 have h2:=hmax (s+n) ⟨b::l,List.nodup_cons.2 ⟨hnot,hn⟩,by simp[hab,hal],Trail.cons hE ht⟩;omega
abbrev Rel:=Bs→Bs→Bool
def Rel.put (f:Rel) (a b:Bs):Rel:=fun x y=>f x y||(decide (x=a)&&decide (y=b))
def gD (k a b:Bs) (s:Rel×Rel):Rel×Rel:=if s.1 a k&&s.1 k b then(s.1.put a b,if s.2 a k||s.2 k b then s.2.put a b else s.2) else s
def fwB (hs:List Bs) (k a:Bs) (s:Rel×Rel):Rel×Rel:=hs.foldl (fun s b=>gD k a b s) s
def fwA (hs:List Bs) (k:Bs) (s:Rel×Rel):Rel×Rel:=hs.foldl (fun s a=>fwB hs k a s) s
def fwK (hs:List Bs) (ks:List Bs) (s:Rel×Rel):Rel×Rel:=ks.foldl (fun s k=>fwA hs k s) s
def RLe (s t:Rel×Rel):Prop:=∀x y,(s.1 x y=true→t.1 x y=true)∧(s.2 x y=true→t.2 x y=true)
theorem RLe.refl (s:Rel×Rel):RLe s s:=fun _ _=>⟨id,id⟩
theorem RLe.trans {s t u:Rel×Rel} (h:RLe s t) (k:RLe t u):RLe s u:=fun x y=>⟨fun e=>(k x y).1 ((h x y).1 e),fun e=>(k x y).2 ((h x y).2 e)⟩
theorem yZ (f:Rel) (a b x y:Bs) (h:f x y=true):f.put a b x y=true:=by unfold Rel.put;rw[h];rfl
theorem oz (f:Rel) (a b:Bs):f.put a b a b=true:=by unfold Rel.put;simp
theorem wE (k a b:Bs) (s:Rel×Rel):RLe s (gD k a b s):=by
 intro x y;unfold gD;split
 ·refine⟨yZ _ _ _ _ _,fun h=>?_⟩;show(if _ then _ else _:Rel) x y=true;split;·exact yZ _ _ _ _ _ h
  exact h
 exact⟨id,id⟩
theorem uw {α:Type} {f:Rel×Rel→α→Rel×Rel} (hf:∀s x,RLe s (f s x)):∀(l:List α) (s:Rel×Rel),RLe s (l.foldl f s)
 |[],s=>RLe.refl s
 |x::l,s=>(hf s x).trans (uw hf l (f s x))
theorem uy {α:Type} {f:Rel×Rel→α→Rel×Rel} (hf:∀s x,RLe s (f s x)) {Q:Rel×Rel→Prop} (hQ:∀s t,RLe s t→Q s→Q t) {x:α}:∀(l:List α) (s:Rel×Rel),x∈l→(∀t,RLe s t→Q (f t x))→Q (l.foldl f s)
 |[],s,hx,_=>by cases hx
 |y::l,s,hx,h=>by
  rcases List.mem_cons.1 hx with rfl|hx;·exact hQ _ _ (uw hf l _) (h s (RLe.refl s))
  exact uy hf hQ l (f s y) hx fun t ht=>h t ((hf s y).trans ht)
theorem EL (hs:List Bs) (k a:Bs) (s:Rel×Rel):RLe s (fwB hs k a s):=uw (fun s b=>wE k a b s) hs s
theorem EM (hs:List Bs) (k:Bs) (s:Rel×Rel):RLe s (fwA hs k s):=uw (fun s a=>EL hs k a s) hs s
theorem F9 (hs:List Bs) {k a b:Bs} (s:Rel×Rel) (ha:a∈hs) (hb:b∈hs) (h1:s.1 a k=true) (h2:s.1 k b=true):(fwA hs k s).1 a b=true∧((s.2 a k=true∨s.2 k b=true)→(fwA hs k s).2 a b=true):=by
 have hQ:∀u t:Rel×Rel,RLe u t→(u.1 a b=true∧((s.2 a k=true∨s.2 k b=true)→u.2 a b=true))→(t.1 a b=true∧((s.2 a k=true∨s.2 k b=true)→t.2 a b=true)):=fun u t h hu=>⟨(h a b).1 hu.1,fun e=>(h a b).2 (hu.2 e)⟩;refine uy (fun s a=>EL hs k a s) hQ hs s ha fun t ht=>?_;refine uy (fun s b=>wE k a b s) hQ hs t hb fun u hu=>?_;have hsu:=ht.trans hu;have e1:=(hsu a k).1 h1;have e2:=(hsu k b).1 h2;unfold gD;rw[e1,e2];refine⟨oz _ _ _,fun h=>?_⟩;show(if _ then _ else _:Rel) a b=true;have:(u.2 a k||u.2 k b)=true:=by
  rcases h with h|h;·rw[(hsu a k).2 h];rfl
  rw[(hsu k b).2 h];simp
 rw[if_pos this];exact oz _ _ _
def Told (p:List aD) (hs K:List Bs) (s:Rel×Rel):Prop:=∀a b mid n,a∈hs→b∈hs→mid.Nodup→(∀x∈mid,x∈K)→Trail p a (mid++[b]) n→s.1 a b=true∧(0<n→s.2 a b=true)
theorem Ci {p:List aD} {hs K:List Bs} {s:Rel×Rel} {k:Bs} (hk:k∈hs) (h:Told p hs K s):Told p hs (K++[k]) (fwA hs k s):=by
 intro a b mid n ha hb hn hsub ht
 by_cases hm:k∈mid
 ·obtain⟨m1,m2,rfl⟩:=List.append_of_mem hm;rw[List.append_assoc,List.cons_append] at ht;obtain⟨n1,n2,rfl,t1,t2⟩:=Trail.split m1 ht;have hn':=hn;rw[List.nodup_append] at hn';obtain⟨d1,d2,d3⟩:=hn';have d2':=List.nodup_cons.1 d2;have s1:∀x∈m1,x∈K:=fun x hx=>by
   have:=hsub x (by simp[hx]);rcases List.mem_append.1 this with h|h
   ·exact h
   simp at h;subst h;exact absurd rfl (d3 x hx x (by simp))
  have s2:∀x∈m2,x∈K:=fun x hx=>by
   have:=hsub x (by simp[hx]);rcases List.mem_append.1 this with h|h
   ·exact h
   simp at h;subst h;exact absurd hx d2'.1
  obtain⟨r1,o1⟩:=h a k m1 n1 ha hk d1 s1 t1;obtain⟨r2,o2⟩:=h k b m2 n2 hk hb d2'.2 s2 t2;obtain⟨q1,q2⟩:=F9 hs s ha hb r1 r2;refine⟨q1,fun hpos=>q2 ?_⟩
  by_cases h1:0<n1
  ·exact Or.inl (o1 h1)
  exact Or.inr (o2 (by omega))
 have s1:∀x∈mid,x∈K:=fun x hx=>by
  rcases List.mem_append.1 (hsub x hx) with h|h;·exact h
  simp at h;subst h;exact absurd hx hm
 obtain⟨r1,o1⟩:=h a b mid n ha hb hn s1 ht;exact⟨(EM hs k s a b).1 r1,fun hpos=>(EM hs k s a b).2 (o1 hpos)⟩
theorem y5 {p:List aD} {hs:List Bs}:∀(ks K:List Bs) (s:Rel×Rel),(∀k∈ks,k∈hs)→Told p hs K s→Told p hs (K++ks) (fwK hs ks s)
 |[],K,s,_,h=>by rw[List.append_nil];exact h
 |k::ks,K,s,hk,h=>by have h1:=Ci (hk k (by simp)) h;have h2:=y5 ks (K++[k]) (fwA hs k s) (fun x hx=>hk x (by simp[hx])) h1;rw[List.append_assoc] at h2;exact h2
def wF (σ:Bs→Nat) (s:Rel×Rel):Prop:=∀x y,(s.1 x y=true→σ y≤σ x)∧(s.2 x y=true→σ y+1≤σ x)
theorem Cj {σ:Bs→Nat} {s:Rel×Rel} (hs2:∀x y,s.2 x y=true→s.1 x y=true) (h:wF σ s) (k a b:Bs):wF σ (gD k a b s)∧∀x y,(gD k a b s).2 x y=true→(gD k a b s).1 x y=true:=by
 unfold gD;split
 ·rename_i hc;rw[Bool.and_eq_true] at hc;have h1:=(h a k).1 hc.1;have h2:=(h k b).1 hc.2;refine⟨fun x y=>⟨fun e=>?_,fun e=>?_⟩,fun x y e=>?_⟩
  ·unfold Rel.put at e;rw[Bool.or_eq_true] at e;rcases e with e|e
   ·exact(h x y).1 e
   simp at e;rw[e.1,e.2];omega
  ·have e':(if s.2 a k||s.2 k b then s.2.put a b else s.2) x y=true:=e;split at e'
   ·rename_i hc2;unfold Rel.put at e';rw[Bool.or_eq_true] at e' hc2;rcases e' with e'|e'
    ·exact(h x y).2 e'
    simp at e';rw[e'.1,e'.2];rcases hc2 with hc2|hc2
    ·have:=(h a k).2 hc2;omega
    have:=(h k b).2 hc2;omega
   exact(h x y).2 e'
  have e':(if s.2 a k||s.2 k b then s.2.put a b else s.2) x y=true:=e;split at e'
  ·unfold Rel.put at e';rw[Bool.or_eq_true] at e';rcases e' with e'|e'
   ·exact yZ _ _ _ _ _ (hs2 x y e')
   simp at e';rw[e'.1,e'.2];exact oz _ _ _
  exact yZ _ _ _ _ _ (hs2 x y e')
 exact⟨h,hs2⟩
theorem kG {α:Type} {f:Rel×Rel→α→Rel×Rel} {Q:Rel×Rel→Prop} (hf:∀s x,Q s→Q (f s x)):∀(l:List α) (s:Rel×Rel),Q s→Q (l.foldl f s)
 |[],_,h=>h
 |x::l,s,h=>kG hf l _ (hf s x h)
theorem D8 {σ:Bs→Nat} {s:Rel×Rel} (hs2:∀x y,s.2 x y=true→s.1 x y=true) (h:wF σ s) (hs ks:List Bs):wF σ (fwK hs ks s):=by
 have:(wF σ (fwK hs ks s)∧∀x y,(fwK hs ks s).2 x y=true→(fwK hs ks s).1 x y=true):=
  kG (Q:=fun s=>wF σ s∧∀x y,s.2 x y=true→s.1 x y=true) (fun s k h=>kG (Q:=fun s=>wF σ s∧∀x y,s.2 x y=true→s.1 x y=true) (fun s a h=>kG (Q:=fun s=>wF σ s∧∀x y,s.2 x y=true→s.1 x y=true) (fun s b h=>Cj h.2 h.1 k a b) hs s h) hs s h) ks s ⟨h,hs2⟩
 exact this.1
theorem EN {p:List aD} {hs:List Bs} (hh:∀x,x∈hs↔dU p x) {s:Rel×Rel} (h1:∀x y,s.1 x y=true↔∃e,Edge p x y e) (h2:∀x y,s.2 x y=true↔Edge p x y 1):
  (∃σ,Sol p σ)↔∀a∈hs,(fwK hs hs s).2 a a=false:=by
 constructor
 ·rintro⟨σ,hσ⟩ a _;have hE:∀{x y:Bs} {e:Nat},Edge p x y e→σ y+e≤σ x:=fun⟨r,hr,t,ht,e1,e2,e3,e4⟩=>by
   rw[←e1,←e2,←e4];exact hσ r hr t ht (by rw[e2];exact e3)
  have hf:=D8 (σ:=σ) (fun x y e=>(h1 x y).2 ⟨1,(h2 x y).1 e⟩) (fun x y=>⟨fun e=>by obtain⟨k,hk⟩:=(h1 x y).1 e;have:=hE hk;omega,fun e=>hE ((h2 x y).1 e)⟩) hs hs;cases hc:(fwK hs hs s).2 a a with
  |false=>rfl
  |true=>have:=(hf a a).2 hc;omega
 intro hno;refine qN fun a mid n hn ht=>?_;have hbase:Told p hs [] s:=by
  intro x y m k hx hy _ hsub htr;have:m=[]:=by
   cases m with
   |nil=>rfl
   |cons z m=>exact absurd (hsub z (by simp)) (by simp)
  subst this;cases htr with
  |cons e t=>
   cases t;refine⟨(h1 x y).2 ⟨_,e⟩,fun hpos=>(h2 x y).2 ?_⟩;have h1:=e.le;have: ‹Nat› =1:=by omega
   rw[this] at e;exact e
 have hall:=y5 hs [] s (fun k hk=>hk) hbase;rw[List.nil_append] at hall;have EO:=ht.heads;have ha:a∈hs:=(hh a).2 (EO a (by simp));refine Nat.eq_zero_of_not_pos fun hpos=>?_;have:=(hall a a mid n ha ha hn (fun x hx=>(hh x).2 (EO x (by simp[hx]))) ht).2 hpos;rw[hno a ha] at this;cases this
theorem uz:Keyed Tryz.prog 71:=Keyed.of_law (deep_law_laid (m:=3) (by kernel_rfl) (by decide) (of_decide_eq_true (by kernel_rfl)) (by kernel_rfl) (by kernel_rfl))
theorem wG:Tryz.prog.cellsOf 71=2:=by kernel_rfl
theorem Ck:Tryz.prog.cellsOf 9=1:=by kernel_rfl
theorem Ga:Tryz.prog.keyType 71=true:=by kernel_rfl
def pv (a b:Bs):Value:=.agg #[.string (bs a),.string (bs b)]
def pl (a b:Bs):Lit:=.string (keyBytes [.string a,.string b])
theorem oC {a b:Bs} (ha:a.length≤maxLen) (hb:b.length≤maxLen):keyOf Tryz.prog 71 (pv a b)=some (pl a b):=by
 have hf:(pv a b).formed Tryz.prog 71=true:=by unfold pv Value.formed;rw[Tryz.underlying71,wG];rfl
 have hu:Tryz.prog.underlying 71=some (.array 2 9):=Tryz.underlying71;have hs:Tryz.prog.underlying 9=some .string:=Tryz.underlying9;have hpos:0<Tryz.prog.types.size:=of_decide_eq_true (by kernel_rfl);obtain⟨N,hN⟩:∃N,Tryz.prog.types.size=N+1:=⟨Tryz.prog.types.size-1,by omega⟩;have h1:(bs a).size≤maxLen:=by rw[iB];exact ha
 have h2:(bs b).size≤maxLen:=by rw[iB];exact hb
 have hl:Tryz.prog.keyLits (Tryz.prog.types.size+1) 71 (pv a b).cells.toList=some [.string a,.string b]:=by rw[hN];show Tryz.prog.keyLits (N+1+1) 71 [.string (bs a),.string (bs b)]=_;have r:List.range 2=[0,1]:=rfl;simp only[Program.keyLits,hu,hs,wG,Ck,List.length_cons,List.length_nil,if_true,r,List.mapM_cons,List.mapM_nil,Nat.mul_one,List.drop_zero,List.drop_succ_cons,List.take_succ_cons,List.take_zero];rw[if_pos h1,if_pos h2];simp[bs]
 unfold keyOf;rw[hu,Ga,hf];simp only[Bool.and_self,if_true,hl,Option.map_some]
 rfl
theorem IE {a b c d:Bs} (h:pv a b=pv c d):a=c∧b=d:=by unfold pv at h;simp only[Value.agg.injEq,Array.mk.injEq,List.cons.injEq,Value.string.injEq,and_true] at h;exact⟨oD h.1,oD h.2⟩
theorem Kh {a b c d:Bs} (ha:a.length≤maxLen) (hb:b.length≤maxLen) (hc:c.length≤maxLen) (hd:d.length≤maxLen) (h:¬(c=a∧d=b)):pl c d≠pl a b:=fun e=>by have h1:=oC ha hb;have h2:=oC hc hd;rw[e] at h2;exact h (IE (uz.inj h2 h1))
def qD (w:World) (b n:Nat) (f:Rel):Prop:=∃D:DataW Unit,w.ownsMap Tryz.prog 71 (plainElem Tryz.prog 4) b n D∧∀x y:Bs,x.length≤maxLen→y.length≤maxLen→D.atKey (pl x y) (.lit (.bool false))=.lit (.bool (f x y))
theorem qD.made (w:World):qD (w.alloc (.map #[] 0)) w.heap.size 0 (fun _ _=>false):=⟨.map [],World.ownsMap_made _ _ _ _,fun _ _ _ _=>rfl⟩
theorem qD.lt {w:World} {b n:Nat} {f:Rel} (h:qD w b n f):b<w.heap.size:=by obtain⟨D,h,_⟩:=h;exact h.lt
theorem qD.block {w w':World} {b n:Nat} {f:Rel} (h:qD w b n f) (e:w'.heap[b]?=w.heap[b]?):qD w' b n f:=by obtain⟨D,h,hf⟩:=h;exact⟨D,dG h e,hf⟩
theorem qD.later {w w':World} {b n:Nat} {f:Rel} (h:qD w b n f) (k:aj w w'):qD w' b n f:=h.block (k.block h.lt)
theorem qD.mono {w:World} {b n m:Nat} {f:Rel} (h:qD w b n f) (hn:n≤m):qD w b m f:=by obtain⟨D,h,hf⟩:=h;exact⟨D,h.mono hn,hf⟩
theorem qD.look {w:World} {b n:Nat} {f:Rel} (h:qD w b n f) {x y:Bs} (hx:x.length≤maxLen) (hy:y.length≤maxLen):(Instr.lookup 70 (.map (some b)) (pv x y) false).run Tryz.prog w=.ok (.bool (f x y)) w:=by
 obtain⟨D,hown,hf⟩:=h;obtain⟨v,ps,hrun,hv⟩:=hown.lookup uz Tryz.underlying70 (yT w) (plainElem_bool Tryz.underlying4 false) (oC hx hy);rw[hf x y hx hy] at hv;obtain⟨z,rfl,hz⟩:=iR hv;simp only[Prod.mk.injEq] at hz;have hz:=hz.1
 injection hz with hz
 injection hz with hz
 rw[hrun,hz]
theorem Ki (a b:Bs):WideAt.IsKeyLit (pl a b):=trivial
theorem qD.store {w:World} {b n:Nat} {f:Rel} (h:qD w b n f) (hn:n<maxLen) {x y:Bs} (hx:x.length≤maxLen) (hy:y.length≤maxLen):
  ∃w',(Instr.mapUpdate 70 (.map (some b)) (pv x y) (.bool true)).run Tryz.prog w=.ok () w'∧qD w' b (n+1) (f.put x y)∧w.grownBy w' (some b):=by
 obtain⟨D,hown,hf⟩:=h;obtain⟨w',hrun,r1,r2⟩:=hown.update uz Tryz.underlying70 hn (oC hx hy) (plainElem_bool Tryz.underlying4 true);refine⟨w',hrun,⟨_,r1,fun s t hs ht=>?_⟩,r2⟩
 by_cases e:s=x∧t=y
 ·obtain⟨rfl,rfl⟩:=e;rw[atKey_put_same hown.isMap (Ki _ _),oz]
 rw[atKey_put_other (Kh hx hy hs ht e),hf s t hs ht];unfold Rel.put;have:(decide (s=x)&&decide (t=y))=false:=by
  rw[Bool.and_eq_false_iff]
  by_cases h1:s=x
  ·exact Or.inr (by simpa using fun h2=>e ⟨h1,h2⟩)
  exact Or.inl (by simpa using h1)
 rw[this,Bool.or_false]
structure uJ (S:Nat→Prop) (w w':World):Prop where
 os:w'.os=w.os
 tape:w'.tape=w.tape
 output:w'.output=w.output
 size:w.heap.size≤w'.heap.size
 block:∀k,k<w.heap.size→¬S k→w'.heap[k]?=w.heap[k]?
theorem uJ.refl (S:Nat→Prop) (w:World):uJ S w w:=⟨rfl,rfl,rfl,Nat.le_refl _,fun _ _ _=>rfl⟩
theorem uJ.trans {S:Nat→Prop} {a b c:World} (h:uJ S a b) (k:uJ S b c):uJ S a c:=
 ⟨k.os.trans h.os,k.tape.trans h.tape,k.output.trans h.output,Nat.le_trans h.size k.size,fun i hi ho=>(k.block i (Nat.lt_of_lt_of_le hi h.size) ho).trans (h.block i hi ho)⟩
theorem uJ.of_below {S:Nat→Prop} {a b:World} (h:Below a.heap.size a b):uJ S a b:=⟨h.os,h.tape,h.output,h.size,fun k hk _=>h.block k hk⟩
theorem uJ.eG {S:Nat→Prop} {p:Nat} {a b:World} (h:a.grownBy b (some p)) (hp:S p):uJ S a b:=⟨h.os,h.tape,h.output,h.size,fun k hk hS=>h.block k hk (fun e=>by injection e with e;exact hS (e▸hp))⟩
theorem uJ.cell {S:Nat→Prop} {a b:World} (h:uJ S a b) {x:Addr} (hx:x.block<a.heap.size) (ho:¬S x.block):b.cell? x=a.cell? x:=World.cell?_of_block (w:=a) (h.block _ hx ho)
theorem uJ.below {S:Nat→Prop} {n:Nat} {w a b:World} (h:uJ S a b) (hb:Below n w a) (hS:∀k,S k→n≤k) (hn:n≤a.heap.size):Below n w b:=
 ⟨h.os.trans hb.os,h.tape.trans hb.tape,h.output.trans hb.output,Nat.le_trans hb.size h.size,fun k hk=>(h.block k (by omega) (fun e=>by have:=hS k e;omega)).trans (hb.block k hk)⟩
end Go.Proofs.YthngiikhgplldaaGreatDoor
