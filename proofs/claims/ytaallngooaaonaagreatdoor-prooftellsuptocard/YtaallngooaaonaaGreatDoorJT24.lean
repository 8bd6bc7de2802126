import Derived.Test.YtaallngooaaonaaGreatDoorJT23
import Derived.Test.YtaallngooaaonaaGreatDoorJT15
import Derived.Test.YtaallngooaaonaaGreatDoorJT3
open Go.RowKit Go.Sort Go.Maps
set_option maxHeartbeats 4000000
set_option maxRecDepth 100000
namespace Go.Proofs.YtaallngooaaonaaGreatDoor
theorem Co {p:List aG} {l M:List aA} (h:jG p l=(0,M)):dP p∧GoodS p l∧∃τ,Sol p τ∧(aV p).1=p.map (fun r=>τ r.head.name)∧kJ p (p.map fun r=>τ r.head.name) (countP (p.map fun r=>τ r.head.name)) 0 l=(0,M):=by
 unfold jG at h;split at h;·rename_i h1;simp at h;exact absurd h.1 h1
 rename_i h1;split at h;·rename_i h2;simp at h;exact absurd h.1 h2
 rename_i h2;have e1:(aV p).2.1=0:=by simpa using h1
 obtain⟨hw,m,hm,_,_,hs⟩:=kF (p:=p) (l:=(aV p).1) (k:=(aV p).2.2) (by rw[←e1]);have hm':(aV p).1=p.map (fun r=>numOf m r.head.name):=hm;rw[hm'] at h;exact⟨mP.1 hw,mX (by simpa using h2),numOf m,hs,hm',h⟩
theorem uN {p:List aG} {l M:List aA} (h:jG p l=(0,M)):dP p∧GoodS p l∧GoodS p M∧(∀f∈l,f∈M)∧∀r∈p,∀x,gq r M=some x→∀f∈x,f∈M:=by obtain⟨hp,hl,τ,hτ,_,hr⟩:=Co h;obtain⟨h1,h2⟩:=He hp hτ hl hr;exact⟨hp,hl,(G9 hp hτ hl hr).1,h1,h2⟩
def pV (p:List aG) (told:List aA) (n:Nat) (x:bG):Int:=
 if(jG p told).1≠0 then(jG p told).1 else if ig (fT ig (n+2) [x] (0,0)) then 4 else dQ p told (jG p told).2 (n+1) x
theorem uO {p:List aG} (hp:dP p):∀r∈p,r.head.terms.length≤4∧r.body.length≤5∧∀a∈r.body,a.terms.length≤4:=fun r hr=>by have hR:=hp.rules r hr;obtain⟨h5,hat⟩:=fM hR.body;exact⟨(bB hR.head).2.1,h5,fun a ha=>(bB (hat a ha)).2.1⟩
theorem Qz (p:List aG) (told:List aA) (n:Nat) (x:bG) (pv tv xv:Value) (w:World) (hp:eP.sl bf w pv p) (ht:Facts w tv told) (hx:lV n bf w xv x) (hn:cnt (n+1) x≤4000000) (hnn:n≤4000000):
  Calls Tryz.prog 6 #[pv,tv,xv] w fun e w'=>e=.returned (.int .i64 (pV p told n x))∧Below w.heap.size w w':=by
 have hxv:=hx;obtain⟨s,kv,rfl,hs,hkv⟩:=hx;obtain⟨pa,pc,rfl⟩:=aB.slice hp;obtain⟨ta,tc,rfl⟩:=aF ht;obtain⟨sa,sc,rfl⟩:=aB.slice hs;obtain⟨ka,kc,rfl⟩:=aB.slice hkv;obtain⟨w1,hw1⟩:∃w1,w1=w.alloc (.cells #[.string x.fact.1,.slice sa x.fact.2.length sc,.int .i64 x.rule,.slice ka x.kids.length kc] 30):=⟨_,rfl⟩;have hL1:ak w w1:=by rw[hw1];exact(ak.refl w).alloc _
 have hr1:w1.heap[w.heap.size]?=some (.cells #[.string x.fact.1,.slice sa x.fact.2.length sc,.int .i64 x.rule,.slice ka x.kids.length kc] 30 (0,0)):=by rw[hw1];exact heap_alloc_new w _
 have hlt1:w.heap.size<w1.heap.size:=(Array.getElem?_eq_some_iff.1 hr1).1;have HAl:=au (IU p told (.slice pa p.length pc) (.slice ta told.length tc) w1 (aB.aK hp hL1) (ht.later hL1));have HMe:Hid (∀w',Below w.heap.size w w'→Calls Tryz.prog 11 #[.agg #[.string x.fact.1,.slice sa x.fact.2.length sc,.int .i64 x.rule,.slice ka x.kids.length kc],.func (.func 14) #[] #[]] w' fun e w''=>e=.returned (.agg #[.int .i64 (fT ig (n+2) [x] (0,0)).1,.int .i64 (fT ig (n+2) [x] (0,0)).2])∧Below w'.heap.size w' w''):=fun w' h=>
  Dt x n 14 ig _ w' (hxv.below h) hn hnn (fun _ _=>rfl) Np
 have HWr:Hid (∀(M:List aA) (av:Value) (w':World),jG p told=(0,M)→Below w.heap.size w w'→Facts w' av M→Calls Tryz.prog 15 #[.agg #[.slice pa p.length pc,.slice ta told.length tc,av],.agg #[.string x.fact.1,.slice sa x.fact.2.length sc,.int .i64 x.rule,.slice ka x.kids.length kc]] w' fun e w''=>e=.returned (.int .i64 (dQ p told M (n+1) x))∧ak w' w''):=fun M av w' hM h ha=>by obtain⟨h1,h2,h3,_,_⟩:=uN hM;exact Iw p told M (uO h1) h1.few h2.up h3.up n x _ _ av _ w' (aB.aJ hp h) (ht.below h) ha (hxv.below h)
 have HL1:=au hL1;have HR1:=au hr1;have HW1:=au hw1;have HC:Hid (∀w',Below w1.heap.size w1 w'→w'.cell? ⟨w.heap.size,0,none⟩=some (.string x.fact.1)∧w'.cell? ⟨w.heap.size,0+1,none⟩=some (.slice sa x.fact.2.length sc)∧w'.cell? ⟨w.heap.size,0+2,none⟩=some (.int .i64 x.rule)∧w'.cell? ⟨w.heap.size,0+3,none⟩=some (.slice ka x.kids.length kc)):=fun w' h=>by
  have h1:=(h.block _ hlt1).trans hr1;refine⟨?_,?_,?_,?_⟩;·rw[cell_of_row _ _ _ _ _ _ h1];rfl
  ·rw[cell_of_row _ _ _ _ _ _ h1];rfl
  ·rw[cell_of_row _ _ _ _ _ _ h1];rfl
  rw[cell_of_row _ _ _ _ _ _ h1];rfl
 obtain⟨RR,hRR⟩:∃RR:Int,RR=pV p told n x:=⟨_,rfl⟩;rw[←hRR];unfold pV at hRR;obtain⟨er,M,hM⟩:∃er M,jG p told=(er,M):=⟨_,_,rfl⟩;rw[hM] at HAl hRR;dsimp only at hRR;have HM:=au hM;have HRR:=au hRR;obtain⟨ms,hms⟩:∃ms,ms=fT ig (n+2) [x] (0,0):=⟨_,rfl⟩;rw[←hms] at HMe HRR;clear hxv hp ht hs hkv hn hL1 hr1 hw1 hRR hM hms;obtain⟨⟨fn,aH⟩,rl,kids⟩:=x;dsimp only[bG.fact,bG.rule,bG.kids] at*
 go_enter Tryz.func6,Tryz.ntmps6
 go_wp2_with (first|(rw[←HW1.out])|fail)
 refine HAl.out.mono ?_;rintro e w2 ⟨v2,er2,rfl,⟨he2,hT0,hT1⟩,hB2⟩;dsimp only at he2 hT0 hT1;subst he2;have HB2:=au (aj HL1.out.below hB2 HL1.out.size);have hB2':=hB2
 by_cases h0:er2=0
 ·subst h0;have hF2:=hT1 rfl;obtain⟨aa,ac,rfl⟩:=aF hF2;have HF2:=au hF2;have HE:Hid (RR=if ig ms then 4 else dQ p told M (n+1) (.mk (fn,aH) rl kids)):=by show _=_;rw[HRR.out,if_neg (by simp)]
  have H3:=au (HMe.out w2 HB2.out);obtain⟨y0,y1,y2,y3⟩:=HC.out w2 hB2;have QA:=au hB2';obtain⟨mc,md⟩:=ms;dsimp only at H3;clear hT0 hT1 hF2 hB2 hB2' HAl HMe HRR HW1
  go_wp2_with fail
  refine H3.out.mono ?_;rintro e w3 ⟨rfl,hB3⟩;have H4:=au (Np mc md w3);have HB3:=au (aj HB2.out hB3 HB2.out.size);have K6:=aj QA.out hB3 QA.out.size;have HF3:=au (HF2.out.below hB3);clear hB3 H3 y0 y1 y2 y3
  go_wp2_with fail
  refine H4.out.mono ?_;rintro e w4 ⟨rfl,hL4⟩;have HB4:=au (aj HB3.out hL4.below HB3.out.size);have K7:=aj K6 hL4.below K6.size;cases hmu:ig (mc,md) with
  |true=>
   have HE2:Hid (RR=4):=by show _=_;rw[HE.out,hmu];rfl
   clear hmu hL4 K6 K7 H4 HE HWr;go_wp2;go_ret;exact⟨by rw[HE2.out];rfl,HB4.out⟩
  |false=>
   have HE2:Hid (RR=dQ p told M (n+1) (.mk (fn,aH) rl kids)):=by show _=_;rw[HE.out,hmu];rfl
   have H5:=au (HWr.out M (.slice aa M.length ac) w4 HM.out HB4.out (HF3.out.later hL4));obtain⟨y0,y1,y2,y3⟩:=HC.out w4 K7;clear hmu hL4 K6 K7 H4 HE HWr;generalize dQ p told M (n+1) (.mk (fn,aH) rl kids)=WX at*
   go_wp2_with fail
   refine H5.out.mono ?_;rintro e w5 ⟨rfl,hL5⟩;have HB5:=au (aj HB4.out hL5.below HB4.out.size);clear hL5 H5 y0 y1 y2 y3;go_wp2;go_ret;exact⟨by rw[HE2.out];rfl,HB5.out⟩
 have hq:(er2 != 0)=true:=by simpa using h0
 have HE:Hid (RR=er2):=by show _=_;rw[HRR.out,if_pos h0]
 obtain rfl:=hT0 h0;clear hT0 hT1 HRR HMe HWr HAl h0 hB2 hB2';go_wp2;go_ret;exact⟨by rw[HE.out];rfl,HB2.out⟩
theorem TS (n:Nat) (x:bG) (xv:Value) (w:World) (hx:lV n bf w xv x) (hn:cnt (n+1) x≤4000000) (hnn:n≤4000000):
  Calls Tryz.prog 4 #[xv] w fun e w'=>e=.returned (.tuple #[.int .i64 (fT (fun _=>false) (n+2) [x] (0,0)).1,.int .i64 (fT (fun _=>false) (n+2) [x] (0,0)).2])∧Below w.heap.size w w':=by
 have hxv:=hx;obtain⟨s,kv,rfl,hs,hkv⟩:=hx;obtain⟨sa,sc,rfl⟩:=aB.slice hs;obtain⟨ka,kc,rfl⟩:=aB.slice hkv;obtain⟨w1,hw1⟩:∃w1,w1=w.alloc (.cells #[.string x.fact.1,.slice sa x.fact.2.length sc,.int .i64 x.rule,.slice ka x.kids.length kc] 30):=⟨_,rfl⟩;have hL1:ak w w1:=by rw[hw1];exact(ak.refl w).alloc _
 have hr1:w1.heap[w.heap.size]?=some (.cells #[.string x.fact.1,.slice sa x.fact.2.length sc,.int .i64 x.rule,.slice ka x.kids.length kc] 30 (0,0)):=by rw[hw1];exact heap_alloc_new w _
 have y0:w1.cell? ⟨w.heap.size,0,none⟩=some (.string x.fact.1):=by rw[cell_of_row _ _ _ _ _ _ hr1];rfl
 have y1:w1.cell? ⟨w.heap.size,0+1,none⟩=some (.slice sa x.fact.2.length sc):=by rw[cell_of_row _ _ _ _ _ _ hr1];rfl
 have y2:w1.cell? ⟨w.heap.size,0+2,none⟩=some (.int .i64 x.rule):=by rw[cell_of_row _ _ _ _ _ _ hr1];rfl
 have y3:w1.cell? ⟨w.heap.size,0+3,none⟩=some (.slice ka x.kids.length kc):=by rw[cell_of_row _ _ _ _ _ _ hr1];rfl
 have HMe:=au (Dt x n 12 (fun _=>false) _ w1 (hxv.below hL1.below) hn hnn (fun _ _=>rfl) P6);obtain⟨mc,md,hms⟩:∃a b,fT (fun _=>false) (n+2) [x] (0,0)=(a,b):=⟨_,_,rfl⟩;rw[hms] at HMe⊢;have HL1:=au hL1;have HW1:=au hw1;dsimp only at HMe⊢;clear hxv hs hkv hn hL1 hr1 hw1 hms;obtain⟨⟨fn,aH⟩,rl,kids⟩:=x;dsimp only[bG.fact,bG.rule,bG.kids] at*
 go_enter Tryz.func4,Tryz.ntmps4
 go_wp2_with (first|(rw[←HW1.out])|fail)
 refine HMe.out.mono ?_;rintro e w2 ⟨rfl,hB2⟩;have HB2:=au (aj HL1.out.below hB2 HL1.out.size);clear hB2 HMe y0 y1 y2 y3;go_wp2
 go_quiet (fail)
 go_wp2;exact bodyPost_ret (v:=.tuple #[.int .i64 mc,.int .i64 md]) (by simp[results,Tryz.results4,go_sem]) rfl ⟨rfl,below_drewN (HB2.out.alloc HB2.out.size _) _⟩
theorem rJ {body:List aI} {l:List aD} {j:Nat} {a:aI} (h:body[j]?=some a):cu (body.take (j+1)) l=cu (body.take j) l++(if a.no then[] else(bg a l).toList):=by
 unfold cu;rw[List.take_add_one,h,List.filterMap_append]
 congr 1
 simp only[Option.toList,List.filterMap_cons,List.filterMap_nil];cases a.no with
 |true=>rfl
 |false=>
  simp only[Bool.false_eq_true,if_false];cases bg a l <;> rfl
theorem jP (body:List aI) (l:List aD):(cu body l).length≤body.length:=List.length_filterMap_le _ _
theorem Ob (body:List aI) (l:List aD) (bv lv:Value) (w:World) (hb:bN.sl bf w bv body) (hl:bq.sl bf w lv l) (h5:body.length≤1000):
  Calls Tryz.prog 128 #[bv,lv] w fun e w'=>∃v',e=.returned v'∧kE w' w.heap.size v' (cu body l)∧ak w w':=by
 obtain⟨ba,bc,rfl⟩:=aB.slice hb;obtain⟨la,lc,rfl⟩:=aB.slice hl;have HB:=au hb;have HL:=au hl;clear hb hl
 go_enter Tryz.func128,Tryz.ntmps128
 go_wp2
 go_loopg [5,12] body.length (fun g o i wr=>∃j:Nat,j+g=body.length∧i=.int .i64 j∧Hid (kE wr w.heap.size o (cu (body.take j) l))∧Hid (ak w wr))
 case atStart=>exact⟨0,by omega,rfl,(by rw[List.take_zero];exact kE.nil _ _:kE _ _ _ _),ak.refl _⟩
 obtain⟨j,hj,rfl,HO,HW⟩:=hrel;have hol:=jP (body.take j) l;rw[List.length_take] at hol;obtain⟨oa,on,oc,rfl⟩:∃a n c,u5=.slice a n c:=by obtain⟨a,c,e⟩:=aF (HO.out.facts (by omega));exact⟨a,_,c,e⟩
 by_cases hlt:j<body.length
 ·obtain⟨a,ha⟩:∃a,body[j]?=some a:=⟨_,List.getElem?_eq_getElem hlt⟩;obtain⟨b1,o1,_,e1,hb1,⟨xv,hce,htv⟩,hc⟩:=aB.bO HB.out ha;subst e1;subst hce;have d0:wr.cell? ⟨b1,o1+j*3,none⟩=some (.bool a.no):=by rw[HW.out.cell (p:=⟨b1,o1+j*3,none⟩) hb1];simpa[bN] using hc 0 _ rfl
  have d1:wr.cell? ⟨b1,o1+j*3+1,none⟩=some (.string (bs a.name)):=by rw[HW.out.cell (p:=⟨b1,o1+j*3+1,none⟩) hb1];simpa[bN] using hc 1 _ rfl
  have d2:wr.cell? ⟨b1,o1+j*3+2,none⟩=some xv:=by rw[HW.out.cell (p:=⟨b1,o1+j*3+2,none⟩) hb1];simpa[bN] using hc 2 _ rfl
  obtain⟨xa,xc,rfl⟩:=aB.slice htv;have hst:=rJ (l:=l) ha;obtain⟨wa,hwa⟩:∃wa,wa=wr.alloc (.cells #[.bool a.no,.string (bs a.name),.slice xa a.terms.length xc] 79):=⟨_,rfl⟩;have hLa:ak wr wa:=by rw[hwa];exact(ak.refl wr).alloc _
  have hRa:wa.heap[wr.heap.size]?=some (.cells #[.bool a.no,.string (bs a.name),.slice xa a.terms.length xc] 79 (0,0)):=by rw[hwa];exact heap_alloc_new wr _
  obtain⟨c0,c1,c2,hla⟩:=Cb hRa;have c1':wa.cell? ⟨wr.heap.size,0+1,none⟩=some (.string (bs a.name)):=c1;have c2':wa.cell? ⟨wr.heap.size,0+2,none⟩=some (.slice xa a.terms.length xc):=c2;have hLA:=HW.out.trans hLa;have HFi:=au (PV a (.slice xa a.terms.length xc) (.slice la l.length lc) l wa (aB.aK htv hLA) (aB.aK HL.out hLA));have HLa:=au hLA;have HLr:=au hLa;have HRa:=au hRa;have HWa:=au hwa;have VK:=HW.out.size;obtain⟨ok,hok⟩:∃ok,ok=(bg a l).isSome:=⟨_,rfl⟩;rw[←hok] at HFi;have HOk:=au hok;have HSt:=au hst;clear hc ha htv hwa hLa hRa hLA hok hst;generalize bs a.name=nm at*
  go_wp2_with (first|(rw[←HWa.out])|fail)
  refine HFi.out.mono ?_;rintro e w2 ⟨v2,rfl,hfv,hL2,TT⟩;obtain⟨s2,rfl,hs2⟩:=hfv;obtain⟨ya,yc,rfl⟩:=bA hs2;obtain⟨fn,aH,hfl⟩:∃fn aH,filled a l=(fn,aH):=⟨_,_,rfl⟩;rw[hfl] at hs2;rw[hfl] at TT;dsimp only at hs2 TT;simp only[hfl];obtain⟨wf,hwf⟩:∃wf,wf=w2.alloc (.cells #[.string fn,.slice ya aH.length yc] 27):=⟨_,rfl⟩;have hLf:ak w2 wf:=by rw[hwf];exact(ak.refl w2).alloc _
  have hRf:wf.heap[w2.heap.size]?=some (.cells #[.string fn,.slice ya aH.length yc] 27 (0,0)):=by rw[hwf];exact heap_alloc_new w2 _
  have VL:=((hL2.trans hLf).block hla).trans HRa.out;have f0:wf.cell? ⟨w2.heap.size,0,none⟩=some (.string fn):=by rw[cell_of_row _ _ _ _ _ _ hRf];rfl
  have f1:wf.cell? ⟨w2.heap.size,0+1,none⟩=some (.slice ya aH.length yc):=by rw[cell_of_row _ _ _ _ _ _ hRf];rfl
  have g0:wf.cell? ⟨wr.heap.size,0,none⟩=some (.bool a.no):=by rw[cell_of_row _ _ _ _ _ _ VL];rfl
  have HLF:=au (HLa.out.trans (hL2.trans hLf));have HOf:=au (HO.out.later (HLr.out.trans (hL2.trans hLf)));have hSf:=hs2.later hLf;have HWf:=au hwf;obtain⟨n',s',ee,VN⟩:=TT;simp only[Value.agg.injEq,Array.mk.injEq,List.cons.injEq,and_true] at ee;obtain⟨rfl,rfl⟩:=ee;have TU:=HLr.out.size;have VO:=hLf.size;have YA:=HLF.out.size;have K8:∀k,(Value.slice ya aH.length yc).ownBlock=some k→w.heap.size≤k∧k<wf.heap.size∧(Value.slice oa on oc).ownBlock≠some k:=fun k hk=>by obtain⟨q1,q2⟩:=VN k hk;refine⟨by omega,by omega,fun e=>?_⟩;obtain⟨xs,hown,_⟩:=HO.out;have:=(hown.lt k e).2;omega
  clear hs2 hL2 hwf hLf hRf VL HFi VN d0 d1 d2 c0 c1 c2 c1' c2' HO HLr HWa HRa hla;cases ok with
  |false=>
   have hno:bg a l=none:=by
    have:=HOk.out;cases h:bg a l with
    |none=>rfl
    |some f=>rw[h] at this;cases this
   have HO2:Hid (kE wf w.heap.size (.slice oa on oc) (cu (body.take (j+1)) l)):=by show kE _ _ _ _;rw[HSt.out,hno];simpa using HOf.out
   clear HOf HSt HOk hno hSf K8 hfl
   go_wp2_with (rw[←HWf.out])
   go_roundg (body.length- (j+1))
   case measure=>omega
   case rel=>exact⟨j+1,by omega,by go_num,HO2,HLF⟩
  |true=>
   have hso:bg a l=some (fn,aH):=by
    have:=HOk.out;cases h:bg a l with
    |none=>rw[h] at this;cases this
    |some f=>
     unfold filled at hfl;rw[h] at hfl;exact congrArg some hfl
   cases hno:a.no with
   |true=>
    have HO2:Hid (kE wf w.heap.size (.slice oa on oc) (cu (body.take (j+1)) l)):=by show kE _ _ _ _;rw[HSt.out,hno];simpa using HOf.out
    rw[hno] at g0;clear HOf HSt HOk hno hSf K8 hfl hso
    go_wp2_with (rw[←HWf.out])
    go_roundg (body.length- (j+1))
    case measure=>omega
    case rel=>exact⟨j+1,by omega,by go_num,HO2,HLF⟩
   |false=>
    obtain⟨v6,w6,hrun,hO6,hg6,hd6⟩:=kE.append HOf.out (fn,aH) (.slice ya aH.length yc) hSf K8 (by omega) (by omega) rfl;have hL6:=HLF.out.more hg6 hd6 fun k e=>by obtain⟨xs,hown,_⟩:=HOf.out;exact(hown.lt k e).1
    obtain⟨a6,n6,c6,rfl⟩:∃a n c,v6=.slice a n c:=by obtain⟨a,c,e⟩:=aF (hO6.facts (by simp;omega));exact⟨a,_,c,e⟩
    have HO6:Hid (kE w6 w.heap.size (.slice a6 n6 c6) (cu (body.take (j+1)) l)):=by show kE _ _ _ _;rw[HSt.out,hno,hso];exact hO6
    have HL6:=au hL6;have HRn:=au hrun;rw[hno] at g0;clear HOf HSt HOk hno hSf K8 hfl hso hrun hO6 hg6 hd6 hL6
    go_wp2_with (first|(rw[←HWf.out])|(at_builtin;refine wpList_append_run rfl (.tmp 28) (.tmp 30) 24 rfl _ _ _ _ rfl rfl HRn.out ?_))
    go_roundg (body.length- (j+1))
    case measure=>omega
    case rel=>exact⟨j+1,by omega,by go_num,HO6,HL6⟩
 have HO2:Hid (kE wr w.heap.size (.slice oa on oc) (cu body l)):=by have:=HO.out;rw[List.take_of_length_le (by omega)] at this;exact this
 go_wp2;go_ret;exact⟨_,rfl,HO2.out,HW.out⟩
theorem flat_get {size:Nat}:∀(cs:List (List Value)),(∀c∈cs,c.length=size)→∀i c j,cs[i]?=some c→j<size→cs.flatten[i*size+j]?=c[j]?
 |[],_,i,c,j,h,_=>by simp at h
 |d::cs,hl,i,c,j,h,hj=>by
  have hd:d.length=size:=hl d (by simp);cases i with
  |zero=>
   simp at h;subst h;rw[List.flatten_cons,Nat.zero_mul,Nat.zero_add,List.getElem?_append_left (by omega)]
  |succ i=>
   have ih:=flat_get cs (fun c hc=>hl c (by simp[hc])) i c j (by simpa using h) hj;rw[List.flatten_cons,List.getElem?_append_right (by rw[Nat.add_mul];omega),show(i+1)*size+j-d.length=i*size+j by rw[Nat.add_mul];omega];exact ih
theorem sF {size:Nat}:∀(cs:List (List Value)),(∀c∈cs,c.length=size)→cs.flatten.length=cs.length*size
 |[],_=>by simp
 |d::cs,hl=>by have:=sF cs (fun c hc=>hl c (by simp[hc]));have hd:d.length=size:=hl d (by simp);rw[List.flatten_cons,List.length_append,this,hd,List.length_cons,Nat.add_mul];omega
theorem aB.sD {α:Type} {K:aB α} {B:Nat→Prop} {w:World} {a:Addr} {n cap:Nat} {m:List α} (h:K.sl B w (.slice (some a) n cap) m) (hsz:0<K.size):
  ∃cs:List (List Value),cs.length=m.length∧(∀c∈cs,c.length=K.size)∧(∀c∈cs,∀u∈c,u.oneCell'=true)∧(∀(j:Nat) (u:Value),cs.flatten[j]?=some u→w.cell? (a.add j)=some u)∧∀(i:Nat) (c:List Value) (x:α),cs[i]?=some c→m[i]?=some x→K.is B w c x:=by
 by_cases hm:m=[]
 ·subst hm;exact⟨[],rfl,by simp,by simp,by simp,fun i c x h=>by simp at h⟩
 obtain⟨_,a',cap',e,h1⟩:=h;simp only[Value.slice.injEq] at e;obtain⟨rfl,_,_⟩:=e;obtain⟨b,off,e,_,hb,hc⟩:=h1 hm;simp only[Option.some.injEq] at e;subst e;have key:∀i:Fin m.length,∃c,K.is B w c m[i.1]∧∀j u,c[j]?=some u→w.cell? ⟨b,off+i.1*K.size+j,none⟩=some u:=fun i=>hc i.1 _ (List.getElem?_eq_getElem i.2);have get:∀i,(List.ofFn fun i:Fin m.length=>Classical.choose (key i))[i]?=if h:i<m.length then some (Classical.choose (key ⟨i,h⟩)) else none:=fun i=>by rw[List.getElem?_ofFn]
 have hl:∀c∈List.ofFn fun i:Fin m.length=>Classical.choose (key i),c.length=K.size:=fun c hc=>by rw[List.mem_ofFn] at hc;obtain⟨i,rfl⟩:=hc;exact K.len (Classical.choose_spec (key i)).1
 refine⟨List.ofFn fun i:Fin m.length=>Classical.choose (key i),by simp,hl,fun c hc=>?_,fun j u hu=>?_,fun i c x hi hx=>?_⟩;·rw[List.mem_ofFn] at hc;obtain⟨i,rfl⟩:=hc;exact K.one (Classical.choose_spec (key i)).1
 ·have hj:=(List.getElem?_eq_some_iff.1 hu).1;rw[sF _ hl,List.length_ofFn] at hj;have hq:j/K.size<m.length:=(Nat.div_lt_iff_lt_mul hsz).2 hj;have hr:j%K.size<K.size:=Nat.mod_lt _ hsz;have hjq:j/K.size*K.size+j%K.size=j:=by rw[Nat.mul_comm];exact Nat.div_add_mod j K.size
  have hg:=get (j/K.size);rw[dif_pos hq] at hg;have:=flat_get _ hl _ _ (j%K.size) hg hr;rw[hjq,hu] at this;have hcell:=(Classical.choose_spec (key ⟨j/K.size,hq⟩)).2 _ u this.symm;rw[Addr.add_lit];rw[show off+j/K.size*K.size+j%K.size=off+j by omega] at hcell;exact hcell
 rw[get] at hi;split at hi;·rename_i h;rw[List.getElem?_eq_getElem h] at hx;cases hi;cases hx;exact(Classical.choose_spec (key ⟨i,h⟩)).1
 cases hi
theorem aB.uP {α:Type} {P:Program} {K:aB α} {t ty e':TypeId} {lo bytes:Nat} {w:World} {v:Value} {l m:List α} {a:Option Addr} {cap:Nat} (h:K.own ty lo w v l) {i:TypeInfo} {z:Value}
  (ht:P.underlying t=some (.slice ty)) (hi:P.info? ty=some i) (hz:i.zero=some z) (hsize:i.size=K.size) (hby:i.bytes=bytes) (hzs:z.cells.size=K.size) (hsz:0<K.size) (hb:bytes≤100)
  (hs:K.sl (fun k=>lo≤k∧v.ownBlock≠some k) w (.slice a m.length cap) m) (hl:l.length+m.length≤1099511627776) (hlo:lo≤w.heap.size) (_:e'=t):
  ∃v' w',(Builtin.append_ #[t,t] t #[v,.slice a m.length cap]).run P w=.ok v' w'∧K.own ty lo w' v' (l++m)∧w.grownBy w' v.ownBlock∧∀k,v'.ownBlock=some k→v.ownBlock=some k∨w.heap.size≤k:=by
 cases a with
 |none=>
  have hm:m=[]:=by refine Classical.byContradiction fun hne=>?_;obtain⟨_,a',_,e,h1⟩:=hs;simp only[Value.slice.injEq] at e;obtain⟨b,off,e',_⟩:=h1 hne;rw[e'] at e;cases e.1
  subst hm;refine⟨v,w,?_,by rw[List.append_nil];exact h,⟨rfl,rfl,rfl,Nat.le_refl _,fun _ _ _=>rfl⟩,fun k hk=>Or.inl hk⟩;obtain⟨xs,ho,_⟩:=h;rcases ho.2 with⟨rfl,e0⟩|⟨g,c,cur,rfl,_,_,hnc,_⟩
  ·simp[Builtin.append_,run_underlying ht,sizeOf,typeInfo,hi,Builtin.lenOf,Builtin.firstCells]
  simp[Builtin.append_,run_underlying ht,sizeOf,typeInfo,hi,Builtin.lenOf,Builtin.firstCells,hnc,storeCells]
 |some a=>
  obtain⟨cs,cl,Oc,TV,Od,cis⟩:=aB.sD hs hsz;obtain⟨xs,ho,hx⟩:=h;have hxl:xs.length=l.length*K.size:=ho.1;obtain⟨v',w',hrun,r1,r2,r3,r4⟩:=dZ (P:=P) w lo t t ty i z K.size bytes ht hi hz hsize hby hzs hsz v l.length xs ho a m.length cap cs.flatten (by rw[sF _ Oc,cl]) Od
   (fun u hu=>by rw[List.mem_flatten] at hu;obtain⟨c,hc,hu⟩:=hu;exact TV c hc u hu) (by simp only[maxLen];omega) (Nat.le_trans (Nat.mul_le_mul hl hb) (by omega)) hlo
  have own':∀k,k<w.heap.size→v'.ownBlock=some k→v.ownBlock=some k:=fun k hk e=>(r4 k e).elim id fun h=>by omega
  have keep:∀k,k<w.heap.size→(lo≤k∧v.ownBlock≠some k)→w'.heap[k]?=w.heap[k]?:=fun k hk hB=>r2.block k hk (fun e=>hB.2 e.symm);have move:∀{c:List Value} {y:α},K.is (fun k=>lo≤k∧v.ownBlock≠some k) w c y→K.is (fun k=>lo≤k∧v'.ownBlock≠some k) w' c y:=fun {c y} hy=>
   K.kept (K.mono hy fun k hk hB=>(⟨⟨hB.1,fun e=>hB.2 (own' k hk e)⟩,hB⟩:(lo≤k∧v'.ownBlock≠some k)∧(lo≤k∧v.ownBlock≠some k))) r2.size (fun k hk hB=>keep k hk hB.2) |> fun h=>K.mono h fun _ _ hB=>hB.1
  refine⟨v',w',hrun,⟨xs++cs.flatten,by rw[List.length_append];exact r1,fun j y hj=>?_⟩,r2,r4⟩
  by_cases hjl:j<l.length
  ·rw[List.getElem?_append_left hjl] at hj;obtain⟨d,d1,d2⟩:=hx j y hj;refine⟨d,move d1,fun q u hu=>?_⟩;have:=d2 q u hu;rw[List.getElem?_append_left (List.getElem?_eq_some_iff.1 this).1];exact this
  rw[List.getElem?_append_right (by omega)] at hj;have hjm:=(List.getElem?_eq_some_iff.1 hj).1;have hc:cs[j-l.length]?=some (cs[j-l.length]'(by omega)):=List.getElem?_eq_getElem (by omega);refine⟨_,move (cis _ _ y hc hj),fun q u hu=>?_⟩;have hq:q<K.size:=by rw[←Oc _ (List.getElem_mem (by omega:j-l.length<cs.length))];exact(List.getElem?_eq_some_iff.1 hu).1
  have:=flat_get cs Oc _ _ q hc hq;rw[List.getElem?_append_right (by rw[hxl];have:=Nat.mul_le_mul_right K.size (Nat.le_of_not_lt hjl);omega),hxl,
   show j*K.size+q-l.length*K.size=(j-l.length)*K.size+q by rw[Nat.sub_mul];have:=Nat.mul_le_mul_right K.size (Nat.le_of_not_lt hjl);omega,this]
  exact hu
end Go.Proofs.YtaallngooaaonaaGreatDoor
