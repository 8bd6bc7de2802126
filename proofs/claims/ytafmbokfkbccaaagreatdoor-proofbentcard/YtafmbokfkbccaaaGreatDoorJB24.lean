import Derived.Test.YtafmbokfkbccaaaGreatDoorJB21
import Derived.Test.YtafmbokfkbccaaaGreatDoorJB23
import Derived.Test.YtafmbokfkbccaaaGreatDoorJB13
import Derived.Test.YtafmbokfkbccaaaGreatDoorJB15
namespace Go.Proofs.YtafmbokfkbccaaaGreatDoor
open Go.RowKit Go.Sort
def kb (l:Bs):ByteArray:=⟨l.toArray⟩
def Tv : List aA :=
  [⟨⟨false, [116], [(true, [88]), (true, [89])]⟩, [⟨false, [101], [(true, [88]), (true, [89])]⟩]⟩,
   ⟨⟨false, [116], [(true, [88]), (true, [90])]⟩, [⟨false, [116], [(true, [88]), (true, [89])]⟩, ⟨false, [101], [(true, [89]), (true, [90])]⟩]⟩,
   ⟨⟨false, [110], [(true, [88])]⟩, [⟨false, [118], [(true, [88])]⟩, ⟨true, [116], [(false, [97]), (true, [88])]⟩]⟩]
def Tw:List aj:=[(kb [101],[kb [97],kb [98]]),(kb [101],[kb [98],kb [99]]),(kb [118],[kb [97]]),(kb [118],[kb [99]])]
def Uw:List aj:=[(kb [101],[kb [97],kb [98]]),(kb [101],[kb [98],kb [99]]),(kb [110],[kb [97]]),(kb [116],[kb [97],kb [98]]),(kb [116],[kb [97],kb [99]]),(kb [116],[kb [98],kb [99]]),(kb [118],[kb [97]]),(kb [118],[kb [99]])]
def Ux:Bs:=[116,40,88,44,89,41,32,58,45,32,101,40,88,44,89,41,46,32,116,40,88,44,90,41,32,58,45,32,116,40,88,44,89,41,44,32,101,40,89,44,90,41,46,32,110,40,88,41,32,58,45,32,118,40,88,41,44,32,33,116,40,97,44,88,41,46]
theorem Le {w:World} {c:Nat} {a:ByteArray} {t:TypeId} {fr:Nat×Nat} (h:w.heap[c]?=some (.cells #[.string a] t fr)):Strs w (.slice (some ⟨c,0,none⟩) 1 1) [a]:=by
 refine⟨by simp,_,1,rfl,fun _=>⟨c,0,rfl,(Array.getElem?_eq_some_iff.1 h).1,fun i hi=> ?_⟩⟩;rw[cell_of_row _ _ _ _ _ _ h];simp at hi;subst hi
 rfl
end Go.Proofs.YtafmbokfkbccaaaGreatDoor
namespace Go.Proofs.YtafmbokfkbccaaaGreatDoor
open Go.RowKit Go.Sort Go.Maps
theorem AA {p:List aA} {l M:List aj} (h:kS p l=(0,M)):cZ p∧GoodS p l∧∃τ,Sol p τ∧(aS p).1=p.map (fun r=>τ r.head.name)∧gQ p (p.map fun r=>τ r.head.name) (countP (p.map fun r=>τ r.head.name)) 0 l=(0,M):=by
 unfold kS at h;split at h
 ·rename_i h1;simp at h;exact absurd h.1 h1
 ·rename_i h1;split at h
  ·rename_i h2;simp at h;exact absurd h.1 h2
  ·rename_i h2;have e1:(aS p).2.1=0:=by simpa using h1
   obtain⟨hw,m,hm,_,_,hs⟩:=kV (p:=p) (l:=(aS p).1) (k:=(aS p).2.2) (by rw[←e1]);have hm':(aS p).1=p.map (fun r=>numOf m r.head.name):=hm;rw[hm'] at h;exact⟨kX.1 hw,ou (by simpa using h2),numOf m,hs,hm',h⟩
theorem rP {p:List aA} {l M:List aj} (h:kS p l=(0,M)):cZ p∧GoodS p l∧GoodS p M∧(∀f∈l,f∈M)∧∀r∈p,∀x,dM r M=some x→∀f∈x,f∈M:=by
 obtain⟨hp,hl,τ,hτ,_,hr⟩:=AA h;obtain⟨h1,h2⟩:=qm hp hτ hl hr;exact⟨hp,hl,(zI hp hτ hl hr).1,h1,h2⟩
end Go.Proofs.YtafmbokfkbccaaaGreatDoor
namespace Go.Proofs.YtafmbokfkbccaaaGreatDoor
open Go.RowKit Go.Sort
def nI (p:List aA) (told:List aj) (n:Nat) (x:bf):Int:=
 if(kS p told).1≠0 then(kS p told).1 else if kr (fE kr (n+2) [x] (0,0)) then 4 else dR p told (kS p told).2 (n+1) x
theorem AB {p:List aA} (hp:cZ p):∀r∈p,r.head.terms.length≤4∧r.body.length≤5∧∀a∈r.body,a.terms.length≤4:=fun r hr=>by
 have hR:=hp.rules r hr;obtain⟨h5,hat⟩:=ug hR.body;exact⟨(bL hR.head).2.1,h5,fun a ha=>(bL (hat a ha)).2.1⟩
set_option maxRecDepth 100000 in
set_option maxHeartbeats 4000000 in
theorem JR (p:List aA) (told:List aj) (n:Nat) (x:bf) (pv tv xv:Value) (w:World) (hp:eD.sl bJ w pv p) (ht:Facts w tv told) (hx:sI n bJ w xv x) (hn:cnt (n+1) x≤4000000) (hnn:n≤4000000):
  Calls Tryz.prog 16 #[pv,tv,xv] w fun e w'=>e=.returned (.int .i64 (nI p told n x))∧Below w.heap.size w w':=by
 have hxv:=hx;obtain⟨s,kv,rfl,hs,hkv⟩:=hx;obtain⟨pa,pc,rfl⟩:=Kind.slice hp;obtain⟨ta,tc,rfl⟩:=aD ht;obtain⟨sa,sc,rfl⟩:=Kind.slice hs;obtain⟨ka,kc,rfl⟩:=Kind.slice hkv;obtain⟨w1,hw1⟩:∃w1,w1=w.alloc (.cells #[.string x.fact.1,.slice sa x.fact.2.length sc,.int .i64 x.rule,.slice ka x.kids.length kc] 30):=⟨_,rfl⟩;have hL1:Later w w1:=by rw[hw1];exact(Later.refl w).alloc _
 have hr1:w1.heap[w.heap.size]?=some (.cells #[.string x.fact.1,.slice sa x.fact.2.length sc,.int .i64 x.rule,.slice ka x.kids.length kc] 30 (0,0)):=by rw[hw1];exact heap_alloc_new w _
 have hlt1:w.heap.size<w1.heap.size:=(Array.getElem?_eq_some_iff.1 hr1).1;have HAl:=hide (yM p told (.slice pa p.length pc) (.slice ta told.length tc) w1 (Kind.aI hp hL1) (ht.later hL1));have HMe:Hid (∀w',Below w.heap.size w w'→Calls Tryz.prog 52 #[.agg #[.string x.fact.1,.slice sa x.fact.2.length sc,.int .i64 x.rule,.slice ka x.kids.length kc],.func (.func 54) #[] #[]] w' fun e w''=>e=.returned (.agg #[.int .i64 (fE kr (n+2) [x] (0,0)).1,.int .i64 (fE kr (n+2) [x] (0,0)).2])∧Below w'.heap.size w' w''):=fun w' h=>
  BK x n 54 kr _ w' (hxv.below h) hn hnn (fun _ _=>rfl) KA
 have HWr:Hid (∀(M:List aj) (av:Value) (w':World),kS p told=(0,M)→Below w.heap.size w w'→Facts w' av M→Calls Tryz.prog 55 #[.agg #[.slice pa p.length pc,.slice ta told.length tc,av],.agg #[.string x.fact.1,.slice sa x.fact.2.length sc,.int .i64 x.rule,.slice ka x.kids.length kc]] w' fun e w''=>e=.returned (.int .i64 (dR p told M (n+1) x))∧Later w' w''):=fun M av w' hM h ha=>by
  obtain⟨h1,h2,h3,_,_⟩:=rP hM;exact Ga p told M (AB h1) h1.few h2.up h3.up n x _ _ av _ w' (Kind.aR hp h) (ht.below h) ha (hxv.below h)
 have HL1:=hide hL1;have HR1:=hide hr1;have HW1:=hide hw1;have HC:Hid (∀w',Below w1.heap.size w1 w'→w'.cell? ⟨w.heap.size,0,none⟩=some (.string x.fact.1)∧w'.cell? ⟨w.heap.size,0+1,none⟩=some (.slice sa x.fact.2.length sc)∧w'.cell? ⟨w.heap.size,0+2,none⟩=some (.int .i64 x.rule)∧w'.cell? ⟨w.heap.size,0+3,none⟩=some (.slice ka x.kids.length kc)):=fun w' h=>by
  have h1:=(h.block _ hlt1).trans hr1;refine⟨?_,?_,?_,?_⟩
  ·rw[cell_of_row _ _ _ _ _ _ h1];rfl
  ·rw[cell_of_row _ _ _ _ _ _ h1];rfl
  ·rw[cell_of_row _ _ _ _ _ _ h1];rfl
  ·rw[cell_of_row _ _ _ _ _ _ h1];rfl
 obtain⟨RR,hRR⟩:∃RR:Int,RR=nI p told n x:=⟨_,rfl⟩;rw[←hRR];unfold nI at hRR;obtain⟨er,M,hM⟩:∃er M,kS p told=(er,M):=⟨_,_,rfl⟩;rw[hM] at HAl hRR;dsimp only at hRR;have HM:=hide hM;have HRR:=hide hRR;obtain⟨ms,hms⟩:∃ms,ms=fE kr (n+2) [x] (0,0):=⟨_,rfl⟩;rw[←hms] at HMe HRR;clear hxv hp ht hs hkv hn hL1 hr1 hw1 hRR hM hms;obtain⟨⟨fn,aH⟩,rl,kids⟩:=x;dsimp only[bf.fact,bf.rule,bf.kids] at*
 go_enter Tryz.func16,Tryz.ntmps16
 go_wp2_with (first|(rw[←HW1.out])|fail)
 refine HAl.out.mono ?_;rintro e w2 ⟨v2,er2,rfl,⟨he2,hT0,hT1⟩,hB2⟩;dsimp only at he2 hT0 hT1;subst he2;have HB2:=hide (ak HL1.out.below hB2 HL1.out.size);have hB2':=hB2
 by_cases h0:er2=0
 ·subst h0;have hF2:=hT1 rfl;obtain⟨aa,ac,rfl⟩:=aD hF2;have HF2:=hide hF2;have HE:Hid (RR=if kr ms then 4 else dR p told M (n+1) (.mk (fn,aH) rl kids)):=by show _=_;rw[HRR.out,if_neg (by simp)]
  have H3:=hide (HMe.out w2 HB2.out);obtain⟨y0,y1,y2,y3⟩:=HC.out w2 hB2;have L8:=hide hB2';obtain⟨mc,md⟩:=ms;dsimp only at H3;clear hT0 hT1 hF2 hB2 hB2' HAl HMe HRR HW1
  go_wp2_with fail
  refine H3.out.mono ?_;rintro e w3 ⟨rfl,hB3⟩;have H4:=hide (KA mc md w3);have HB3:=hide (ak HB2.out hB3 HB2.out.size);have I5:=ak L8.out hB3 L8.out.size;have HF3:=hide (HF2.out.below hB3);clear hB3 H3 y0 y1 y2 y3
  go_wp2_with fail
  refine H4.out.mono ?_;rintro e w4 ⟨rfl,hL4⟩;have HB4:=hide (ak HB3.out hL4.below HB3.out.size);have PL:=ak I5 hL4.below I5.size;cases hmu:kr (mc,md) with
  |true=>
   have HE2:Hid (RR=4):=by show _=_;rw[HE.out,hmu];rfl
   clear hmu hL4 I5 PL H4 HE HWr;go_wp2;go_ret;exact⟨by rw[HE2.out];rfl,HB4.out⟩
  |false=>
   have HE2:Hid (RR=dR p told M (n+1) (.mk (fn,aH) rl kids)):=by show _=_;rw[HE.out,hmu];rfl
   have H5:=hide (HWr.out M (.slice aa M.length ac) w4 HM.out HB4.out (HF3.out.later hL4));obtain⟨y0,y1,y2,y3⟩:=HC.out w4 PL;clear hmu hL4 I5 PL H4 HE HWr;generalize dR p told M (n+1) (.mk (fn,aH) rl kids)=WX at*
   go_wp2_with fail
   refine H5.out.mono ?_;rintro e w5 ⟨rfl,hL5⟩;have HB5:=hide (ak HB4.out hL5.below HB4.out.size);clear hL5 H5 y0 y1 y2 y3;go_wp2;go_ret;exact⟨by rw[HE2.out];rfl,HB5.out⟩
 ·have hq:(er2 != 0)=true:=by simpa using h0
  have HE:Hid (RR=er2):=by show _=_;rw[HRR.out,if_pos h0]
  obtain rfl:=hT0 h0;clear hT0 hT1 HRR HMe HWr HAl h0 hB2 hB2';go_wp2;go_ret;exact⟨by rw[HE.out];rfl,HB2.out⟩
set_option maxRecDepth 100000 in
set_option maxHeartbeats 2000000 in
theorem PN (n:Nat) (x:bf) (xv:Value) (w:World) (hx:sI n bJ w xv x) (hn:cnt (n+1) x≤4000000) (hnn:n≤4000000):
  Calls Tryz.prog 14 #[xv] w fun e w'=>e=.returned (.tuple #[.int .i64 (fE (fun _=>false) (n+2) [x] (0,0)).1,.int .i64 (fE (fun _=>false) (n+2) [x] (0,0)).2])∧Below w.heap.size w w':=by
 have hxv:=hx;obtain⟨s,kv,rfl,hs,hkv⟩:=hx;obtain⟨sa,sc,rfl⟩:=Kind.slice hs;obtain⟨ka,kc,rfl⟩:=Kind.slice hkv;obtain⟨w1,hw1⟩:∃w1,w1=w.alloc (.cells #[.string x.fact.1,.slice sa x.fact.2.length sc,.int .i64 x.rule,.slice ka x.kids.length kc] 30):=⟨_,rfl⟩;have hL1:Later w w1:=by rw[hw1];exact(Later.refl w).alloc _
 have hr1:w1.heap[w.heap.size]?=some (.cells #[.string x.fact.1,.slice sa x.fact.2.length sc,.int .i64 x.rule,.slice ka x.kids.length kc] 30 (0,0)):=by rw[hw1];exact heap_alloc_new w _
 have y0:w1.cell? ⟨w.heap.size,0,none⟩=some (.string x.fact.1):=by rw[cell_of_row _ _ _ _ _ _ hr1];rfl
 have y1:w1.cell? ⟨w.heap.size,0+1,none⟩=some (.slice sa x.fact.2.length sc):=by rw[cell_of_row _ _ _ _ _ _ hr1];rfl
 have y2:w1.cell? ⟨w.heap.size,0+2,none⟩=some (.int .i64 x.rule):=by rw[cell_of_row _ _ _ _ _ _ hr1];rfl
 have y3:w1.cell? ⟨w.heap.size,0+3,none⟩=some (.slice ka x.kids.length kc):=by rw[cell_of_row _ _ _ _ _ _ hr1];rfl
 have HMe:=hide (BK x n 53 (fun _=>false) _ w1 (hxv.below hL1.below) hn hnn (fun _ _=>rfl) MS);obtain⟨mc,md,hms⟩:∃a b,fE (fun _=>false) (n+2) [x] (0,0)=(a,b):=⟨_,_,rfl⟩;rw[hms] at HMe⊢;have HL1:=hide hL1;have HW1:=hide hw1;dsimp only at HMe⊢;clear hxv hs hkv hn hL1 hr1 hw1 hms;obtain⟨⟨fn,aH⟩,rl,kids⟩:=x;dsimp only[bf.fact,bf.rule,bf.kids] at*
 go_enter Tryz.func14,Tryz.ntmps14
 go_wp2_with (first|(rw[←HW1.out])|fail)
 refine HMe.out.mono ?_;rintro e w2 ⟨rfl,hB2⟩;have HB2:=hide (ak HL1.out.below hB2 HL1.out.size);clear hB2 HMe y0 y1 y2 y3;go_wp2
 go_quiet (fail)
 go_wp2;exact bodyPost_ret (v:=.tuple #[.int .i64 mc,.int .i64 md]) (by simp[results,Tryz.results14,go_sem]) rfl ⟨rfl,below_drewN (HB2.out.alloc HB2.out.size _) _⟩
end Go.Proofs.YtafmbokfkbccaaaGreatDoor
namespace Go.Proofs.YtafmbokfkbccaaaGreatDoor
open Go.RowKit Go.Sort
theorem yY {body:List aF} {l:List aC} {j:Nat} {a:aF} (h:body[j]?=some a):fB (body.take (j+1)) l=fB (body.take j) l++(if a.no then[] else(aQ a l).toList):=by
 unfold fB;rw[List.take_add_one,h,List.filterMap_append]
 congr 1
 simp only[Option.toList,List.filterMap_cons,List.filterMap_nil];cases a.no with
 |true=>rfl
 |false=>
  simp only[Bool.false_eq_true,if_false];cases aQ a l <;> rfl
theorem mg (body:List aF) (l:List aC):(fB body l).length≤body.length:=List.length_filterMap_le _ _
set_option maxRecDepth 100000 in
set_option maxHeartbeats 4000000 in
theorem Lf (body:List aF) (l:List aC) (bv lv:Value) (w:World) (hb:bN.sl bJ w bv body) (hl:bA.sl bJ w lv l) (h5:body.length≤1000):
  Calls Tryz.prog 292 #[bv,lv] w fun e w'=>∃v',e=.returned v'∧gT w' w.heap.size v' (fB body l)∧Later w w':=by
 obtain⟨ba,bc,rfl⟩:=Kind.slice hb;obtain⟨la,lc,rfl⟩:=Kind.slice hl;have HB:=hide hb;have HL:=hide hl;clear hb hl
 go_enter Tryz.func292,Tryz.ntmps292
 go_wp2
 go_loopg [5,12] body.length (fun g o i wr=>∃j:Nat,j+g=body.length∧i=.int .i64 j∧Hid (gT wr w.heap.size o (fB (body.take j) l))∧Hid (Later w wr))
 case atStart=>exact⟨0,by omega,rfl,(by rw[List.take_zero];exact gT.nil _ _:gT _ _ _ _),Later.refl _⟩
 case round=>
  obtain⟨j,hj,rfl,HO,HW⟩:=hrel;have hol:=mg (body.take j) l;rw[List.length_take] at hol;obtain⟨oa,on,oc,rfl⟩:∃a n c,u5=.slice a n c:=by obtain⟨a,c,e⟩:=aD (HO.out.facts (by omega));exact⟨a,_,c,e⟩
  by_cases hlt:j<body.length
  ·obtain⟨a,ha⟩:∃a,body[j]?=some a:=⟨_,List.getElem?_eq_getElem hlt⟩;obtain⟨b1,o1,_,e1,hb1,⟨xv,hce,htv⟩,hc⟩:=Kind.fP HB.out ha;subst e1;subst hce;have d0:wr.cell? ⟨b1,o1+j*3,none⟩=some (.bool a.no):=by rw[HW.out.cell (p:=⟨b1,o1+j*3,none⟩) hb1];simpa[bN] using hc 0 _ rfl
   have d1:wr.cell? ⟨b1,o1+j*3+1,none⟩=some (.string (bs a.name)):=by rw[HW.out.cell (p:=⟨b1,o1+j*3+1,none⟩) hb1];simpa[bN] using hc 1 _ rfl
   have d2:wr.cell? ⟨b1,o1+j*3+2,none⟩=some xv:=by rw[HW.out.cell (p:=⟨b1,o1+j*3+2,none⟩) hb1];simpa[bN] using hc 2 _ rfl
   obtain⟨xa,xc,rfl⟩:=Kind.slice htv;have hst:=yY (l:=l) ha;obtain⟨wa,hwa⟩:∃wa,wa=wr.alloc (.cells #[.bool a.no,.string (bs a.name),.slice xa a.terms.length xc] 85):=⟨_,rfl⟩;have hLa:Later wr wa:=by rw[hwa];exact(Later.refl wr).alloc _
   have hRa:wa.heap[wr.heap.size]?=some (.cells #[.bool a.no,.string (bs a.name),.slice xa a.terms.length xc] 85 (0,0)):=by rw[hwa];exact heap_alloc_new wr _
   obtain⟨c0,c1,c2,hla⟩:=EX hRa;have c1':wa.cell? ⟨wr.heap.size,0+1,none⟩=some (.string (bs a.name)):=c1;have c2':wa.cell? ⟨wr.heap.size,0+2,none⟩=some (.slice xa a.terms.length xc):=c2;have hLA:=HW.out.trans hLa;have HFi:=hide (Mt a (.slice xa a.terms.length xc) (.slice la l.length lc) l wa (Kind.aI htv hLA) (Kind.aI HL.out hLA));have HLa:=hide hLA;have HLr:=hide hLa;have HRa:=hide hRa;have HWa:=hide hwa;have Q0:=HW.out.size;obtain⟨ok,hok⟩:∃ok,ok=(aQ a l).isSome:=⟨_,rfl⟩;rw[←hok] at HFi;have HOk:=hide hok;have HSt:=hide hst;clear hc ha htv hwa hLa hRa hLA hok hst;generalize bs a.name=nm at*
   go_wp2_with (first|(rw[←HWa.out])|fail)
   refine HFi.out.mono ?_;rintro e w2 ⟨v2,rfl,hfv,hL2,PO⟩;obtain⟨s2,rfl,hs2⟩:=hfv;obtain⟨ya,yc,rfl⟩:=aZ hs2;obtain⟨fn,aH,hfl⟩:∃fn aH,filled a l=(fn,aH):=⟨_,_,rfl⟩;rw[hfl] at hs2;rw[hfl] at PO;dsimp only at hs2 PO;simp only[hfl];obtain⟨wf,hwf⟩:∃wf,wf=w2.alloc (.cells #[.string fn,.slice ya aH.length yc] 27):=⟨_,rfl⟩;have hLf:Later w2 wf:=by rw[hwf];exact(Later.refl w2).alloc _
   have hRf:wf.heap[w2.heap.size]?=some (.cells #[.string fn,.slice ya aH.length yc] 27 (0,0)):=by rw[hwf];exact heap_alloc_new w2 _
   have Q5:=((hL2.trans hLf).block hla).trans HRa.out;have f0:wf.cell? ⟨w2.heap.size,0,none⟩=some (.string fn):=by rw[cell_of_row _ _ _ _ _ _ hRf];rfl
   have f1:wf.cell? ⟨w2.heap.size,0+1,none⟩=some (.slice ya aH.length yc):=by rw[cell_of_row _ _ _ _ _ _ hRf];rfl
   have g0:wf.cell? ⟨wr.heap.size,0,none⟩=some (.bool a.no):=by rw[cell_of_row _ _ _ _ _ _ Q5];rfl
   have HLF:=hide (HLa.out.trans (hL2.trans hLf));have HOf:=hide (HO.out.later (HLr.out.trans (hL2.trans hLf)));have hSf:=hs2.later hLf;have HWf:=hide hwf;obtain⟨n',s',ee,Oo⟩:=PO;simp only[Value.agg.injEq,Array.mk.injEq,List.cons.injEq,and_true] at ee;obtain⟨rfl,rfl⟩:=ee;have Tx:=HLr.out.size;have Q6:=hLf.size;have Tz:=HLF.out.size;have I6:∀k,(Value.slice ya aH.length yc).ownBlock=some k→w.heap.size≤k∧k<wf.heap.size∧(Value.slice oa on oc).ownBlock≠some k:=fun k hk=>by
    obtain⟨q1,q2⟩:=Oo k hk;refine⟨by omega,by omega,fun e=> ?_⟩;obtain⟨xs,hown,_⟩:=HO.out;have:=(hown.lt k e).2;omega
   clear hs2 hL2 hwf hLf hRf Q5 HFi Oo d0 d1 d2 c0 c1 c2 c1' c2' HO HLr HWa HRa hla;cases ok with
   |false=>
    have hno:aQ a l=none:=by
     have:=HOk.out;cases h:aQ a l with
     |none=>rfl
     |some f=>rw[h] at this;cases this
    have HO2:Hid (gT wf w.heap.size (.slice oa on oc) (fB (body.take (j+1)) l)):=by
     show gT _ _ _ _;rw[HSt.out,hno];simpa using HOf.out
    clear HOf HSt HOk hno hSf I6 hfl
    go_wp2_with (rw[←HWf.out])
    go_roundg (body.length- (j+1))
    case measure=>omega
    case rel=>exact⟨j+1,by omega,by go_num,HO2,HLF⟩
   |true=>
    have hso:aQ a l=some (fn,aH):=by
     have:=HOk.out;cases h:aQ a l with
     |none=>rw[h] at this;cases this
     |some f=>
      unfold filled at hfl;rw[h] at hfl;exact congrArg some hfl
    cases hno:a.no with
    |true=>
     have HO2:Hid (gT wf w.heap.size (.slice oa on oc) (fB (body.take (j+1)) l)):=by
      show gT _ _ _ _;rw[HSt.out,hno];simpa using HOf.out
     rw[hno] at g0;clear HOf HSt HOk hno hSf I6 hfl hso
     go_wp2_with (rw[←HWf.out])
     go_roundg (body.length- (j+1))
     case measure=>omega
     case rel=>exact⟨j+1,by omega,by go_num,HO2,HLF⟩
    |false=>
     obtain⟨v6,w6,hrun,hO6,hg6,hd6⟩:=gT.append HOf.out (fn,aH) (.slice ya aH.length yc) hSf I6 (by omega) (by omega) rfl;have hL6:=HLF.out.more hg6 hd6 fun k e=>by
      obtain⟨xs,hown,_⟩:=HOf.out;exact(hown.lt k e).1
     obtain⟨a6,n6,c6,rfl⟩:∃a n c,v6=.slice a n c:=by obtain⟨a,c,e⟩:=aD (hO6.facts (by simp;omega));exact⟨a,_,c,e⟩
     have HO6:Hid (gT w6 w.heap.size (.slice a6 n6 c6) (fB (body.take (j+1)) l)):=by
      show gT _ _ _ _;rw[HSt.out,hno,hso];exact hO6
     have HL6:=hide hL6;have HRn:=hide hrun;rw[hno] at g0;clear HOf HSt HOk hno hSf I6 hfl hso hrun hO6 hg6 hd6 hL6
     go_wp2_with (first|(rw[←HWf.out])|(at_builtin;refine wpList_append_run rfl (.tmp 28) (.tmp 30) 24 rfl _ _ _ _ rfl rfl HRn.out ?_))
     go_roundg (body.length- (j+1))
     case measure=>omega
     case rel=>exact⟨j+1,by omega,by go_num,HO6,HL6⟩
  ·have HO2:Hid (gT wr w.heap.size (.slice oa on oc) (fB body l)):=by have:=HO.out;rw[List.take_of_length_le (by omega)] at this;exact this
   go_wp2;go_ret;exact⟨_,rfl,HO2.out,HW.out⟩
end Go.Proofs.YtafmbokfkbccaaaGreatDoor
