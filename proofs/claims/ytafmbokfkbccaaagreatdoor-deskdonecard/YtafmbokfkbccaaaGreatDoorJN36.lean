import Derived.Test.YtafmbokfkbccaaaGreatDoorJN35
import Derived.Test.YtafmbokfkbccaaaGreatDoorJN7
import Derived.Test.YtafmbokfkbccaaaGreatDoorJN34
namespace Go.Proofs.YtafmbokfkbccaaaGreatDoor
open Go.RowKit Go.Sort
theorem Kw {a:aF} {f:au} {l m:List aD} (h:fK a f l=some m):m.length≤l.length+a.terms.length:=by
 have hk:bO l=((bO l).map raw).map bs:=by
  rw[List.map_map]
  conv=>lhs;rw[←List.map_id (bO l)]
  exact List.map_congr_left fun x _=>(jW x).symm
 have h1:=congrArg List.length (oO hk h).2.1;have h2:=qp a.terms ((bO l).map raw);have e:∀q:List aD,(bO q).length=q.length:=fun q=>by unfold bO;rw[List.length_map]
 rw[e,List.length_map] at h1;rw[List.length_map,e] at h2;omega
end Go.Proofs.YtafmbokfkbccaaaGreatDoor
namespace Go.Proofs.YtafmbokfkbccaaaGreatDoor
open Go.RowKit Go.Sort
end Go.Proofs.YtafmbokfkbccaaaGreatDoor
namespace Go.Proofs.YtafmbokfkbccaaaGreatDoor
open Go.RowKit Go.Sort
def Uk (p:List aA) (told:List au) (n:Nat) (x:iT):Int:=
 if(Hf p told).1≠0 then(Hf p told).1 else if AO (Le AO (n+2) [x] (0,0)) then 4 else Lg p told (Hf p told).2 (n+1) x
end Go.Proofs.YtafmbokfkbccaaaGreatDoor
namespace Go.Proofs.YtafmbokfkbccaaaGreatDoor
open Go.RowKit Go.Sort
theorem Bn {body:List aF} {l:List aD} {j:Nat} {a:aF} (h:body[j]?=some a):fO (body.take (j+1)) l=fO (body.take j) l++(if a.no then[] else(aV a l).toList):=by
 unfold fO;rw[List.take_add_one,h,List.filterMap_append]
 congr 1
 simp only[Option.toList,List.filterMap_cons,List.filterMap_nil];cases a.no with
 |true=>rfl
 |false=>
  simp only[Bool.false_eq_true,if_false];cases aV a l <;> rfl
theorem oz (body:List aF) (l:List aD):(fO body l).length≤body.length:=List.length_filterMap_le _ _
set_option maxRecDepth 100000 in
set_option maxHeartbeats 4000000 in
theorem Ng (body:List aF) (l:List aD) (bv lv:Value) (w:World) (hb:bU.sl bZ w bv body) (hl:bL.sl bZ w lv l) (h5:body.length≤1000):
  Calls Tryz.prog 292 #[bv,lv] w fun e w'=>∃v',e=.returned v'∧bY w' w.heap.size v' (fO body l)∧Later w w':=by
 obtain⟨ba,bc,rfl⟩:=Kind.slice hb;obtain⟨la,lc,rfl⟩:=Kind.slice hl;have HB:=hide hb;have HL:=hide hl;clear hb hl
 go_enter Tryz.func292,Tryz.ntmps292
 go_wp2
 go_loopg [5,12] body.length (fun g o i wr=>∃j:Nat,j+g=body.length∧i=.int .i64 j∧Hid (bY wr w.heap.size o (fO (body.take j) l))∧Hid (Later w wr))
 case atStart=>exact⟨0,by omega,rfl,(by rw[List.take_zero];exact bY.nil _ _:bY _ _ _ _),Later.refl _⟩
 case round=>
  obtain⟨j,hj,rfl,HO,HW⟩:=hrel;have hol:=oz (body.take j) l;rw[List.length_take] at hol;obtain⟨oa,on,oc,rfl⟩:∃a n c,u5=.slice a n c:=by obtain⟨a,c,e⟩:=aB (HO.out.facts (by omega));exact⟨a,_,c,e⟩
  by_cases hlt:j<body.length
  ·obtain⟨a,ha⟩:∃a,body[j]?=some a:=⟨_,List.getElem?_eq_getElem hlt⟩;obtain⟨b1,o1,_,e1,hb1,⟨xv,hce,htv⟩,hc⟩:=Kind.fC HB.out ha;subst e1;subst hce;have d0:wr.cell? ⟨b1,o1+j*3,none⟩=some (.bool a.no):=by rw[HW.out.cell (p:=⟨b1,o1+j*3,none⟩) hb1];simpa[bU] using hc 0 _ rfl
   have d1:wr.cell? ⟨b1,o1+j*3+1,none⟩=some (.string (bs a.name)):=by rw[HW.out.cell (p:=⟨b1,o1+j*3+1,none⟩) hb1];simpa[bU] using hc 1 _ rfl
   have d2:wr.cell? ⟨b1,o1+j*3+2,none⟩=some xv:=by rw[HW.out.cell (p:=⟨b1,o1+j*3+2,none⟩) hb1];simpa[bU] using hc 2 _ rfl
   obtain⟨xa,xc,rfl⟩:=Kind.slice htv;have hst:=Bn (l:=l) ha;obtain⟨wa,hwa⟩:∃wa,wa=wr.alloc (.cells #[.bool a.no,.string (bs a.name),.slice xa a.terms.length xc] 85):=⟨_,rfl⟩;have hLa:Later wr wa:=by rw[hwa];exact(Later.refl wr).alloc _
   have hRa:wa.heap[wr.heap.size]?=some (.cells #[.bool a.no,.string (bs a.name),.slice xa a.terms.length xc] 85 (0,0)):=by rw[hwa];exact heap_alloc_new wr _
   obtain⟨c0,c1,c2,hla⟩:=LZ hRa;have c1':wa.cell? ⟨wr.heap.size,0+1,none⟩=some (.string (bs a.name)):=c1;have c2':wa.cell? ⟨wr.heap.size,0+2,none⟩=some (.slice xa a.terms.length xc):=c2;have hLA:=HW.out.trans hLa;have HFi:=hide (LU a (.slice xa a.terms.length xc) (.slice la l.length lc) l wa (Kind.aQ htv hLA) (Kind.aQ HL.out hLA));have HLa:=hide hLA;have HLr:=hide hLa;have HRa:=hide hRa;have HWa:=hide hwa;have Ul:=HW.out.size;obtain⟨ok,hok⟩:∃ok,ok=(aV a l).isSome:=⟨_,rfl⟩;rw[←hok] at HFi;have HOk:=hide hok;have HSt:=hide hst;clear hc ha htv hwa hLa hRa hLA hok hst;generalize bs a.name=nm at*
   go_wp2_with (first|(rw[←HWa.out])|fail)
   refine HFi.out.mono ?_;rintro e w2 ⟨v2,rfl,hfv,hL2,Sl⟩;obtain⟨s2,rfl,hs2⟩:=hfv;obtain⟨ya,yc,rfl⟩:=aW hs2;obtain⟨fn,aJ,hfl⟩:∃fn aJ,filled a l=(fn,aJ):=⟨_,_,rfl⟩;rw[hfl] at hs2;rw[hfl] at Sl;dsimp only at hs2 Sl;simp only[hfl];obtain⟨wf,hwf⟩:∃wf,wf=w2.alloc (.cells #[.string fn,.slice ya aJ.length yc] 27):=⟨_,rfl⟩;have hLf:Later w2 wf:=by rw[hwf];exact(Later.refl w2).alloc _
   have hRf:wf.heap[w2.heap.size]?=some (.cells #[.string fn,.slice ya aJ.length yc] 27 (0,0)):=by rw[hwf];exact heap_alloc_new w2 _
   have Um:=((hL2.trans hLf).block hla).trans HRa.out;have f0:wf.cell? ⟨w2.heap.size,0,none⟩=some (.string fn):=by rw[cell_of_row _ _ _ _ _ _ hRf];rfl
   have f1:wf.cell? ⟨w2.heap.size,0+1,none⟩=some (.slice ya aJ.length yc):=by rw[cell_of_row _ _ _ _ _ _ hRf];rfl
   have g0:wf.cell? ⟨wr.heap.size,0,none⟩=some (.bool a.no):=by rw[cell_of_row _ _ _ _ _ _ Um];rfl
   have HLF:=hide (HLa.out.trans (hL2.trans hLf));have HOf:=hide (HO.out.later (HLr.out.trans (hL2.trans hLf)));have hSf:=hs2.later hLf;have HWf:=hide hwf;obtain⟨n',s',ee,Mw⟩:=Sl;simp only[Value.agg.injEq,Array.mk.injEq,List.cons.injEq,and_true] at ee;obtain⟨rfl,rfl⟩:=ee;have Ue:=HLr.out.size;have RV:=hLf.size;have Wj:=HLF.out.size;have Ky:∀k,(Value.slice ya aJ.length yc).ownBlock=some k→w.heap.size≤k∧k<wf.heap.size∧(Value.slice oa on oc).ownBlock≠some k:=fun k hk=>by
    obtain⟨q1,q2⟩:=Mw k hk;refine⟨by omega,by omega,fun e=> ?_⟩;obtain⟨xs,hown,_⟩:=HO.out;have:=(hown.lt k e).2;omega
   clear hs2 hL2 hwf hLf hRf Um HFi Mw d0 d1 d2 c0 c1 c2 c1' c2' HO HLr HWa HRa hla;cases ok with
   |false=>
    have hno:aV a l=none:=by
     have:=HOk.out;cases h:aV a l with
     |none=>rfl
     |some f=>rw[h] at this;cases this
    have HO2:Hid (bY wf w.heap.size (.slice oa on oc) (fO (body.take (j+1)) l)):=by
     show bY _ _ _ _;rw[HSt.out,hno];simpa using HOf.out
    clear HOf HSt HOk hno hSf Ky hfl
    go_wp2_with (rw[←HWf.out])
    go_roundg (body.length- (j+1))
    case measure=>omega
    case rel=>exact⟨j+1,by omega,by go_num,HO2,HLF⟩
   |true=>
    have hso:aV a l=some (fn,aJ):=by
     have:=HOk.out;cases h:aV a l with
     |none=>rw[h] at this;cases this
     |some f=>
      unfold filled at hfl;rw[h] at hfl;exact congrArg some hfl
    cases hno:a.no with
    |true=>
     have HO2:Hid (bY wf w.heap.size (.slice oa on oc) (fO (body.take (j+1)) l)):=by
      show bY _ _ _ _;rw[HSt.out,hno];simpa using HOf.out
     rw[hno] at g0;clear HOf HSt HOk hno hSf Ky hfl hso
     go_wp2_with (rw[←HWf.out])
     go_roundg (body.length- (j+1))
     case measure=>omega
     case rel=>exact⟨j+1,by omega,by go_num,HO2,HLF⟩
    |false=>
     obtain⟨v6,w6,hrun,hO6,hg6,hd6⟩:=bY.append HOf.out (fn,aJ) (.slice ya aJ.length yc) hSf Ky (by omega) (by omega) rfl;have hL6:=HLF.out.more hg6 hd6 fun k e=>by
      obtain⟨xs,hown,_⟩:=HOf.out;exact(hown.lt k e).1
     obtain⟨a6,n6,c6,rfl⟩:∃a n c,v6=.slice a n c:=by obtain⟨a,c,e⟩:=aB (hO6.facts (by simp;omega));exact⟨a,_,c,e⟩
     have HO6:Hid (bY w6 w.heap.size (.slice a6 n6 c6) (fO (body.take (j+1)) l)):=by
      show bY _ _ _ _;rw[HSt.out,hno,hso];exact hO6
     have HL6:=hide hL6;have HRn:=hide hrun;rw[hno] at g0;clear HOf HSt HOk hno hSf Ky hfl hso hrun hO6 hg6 hd6 hL6
     go_wp2_with (first|(rw[←HWf.out])|(at_builtin;refine wpList_append_run rfl (.tmp 28) (.tmp 30) 24 rfl _ _ _ _ rfl rfl HRn.out ?_))
     go_roundg (body.length- (j+1))
     case measure=>omega
     case rel=>exact⟨j+1,by omega,by go_num,HO6,HL6⟩
  ·have HO2:Hid (bY wr w.heap.size (.slice oa on oc) (fO body l)):=by have:=HO.out;rw[List.take_of_length_le (by omega)] at this;exact this
   go_wp2;go_ret;exact⟨_,rfl,HO2.out,HW.out⟩
end Go.Proofs.YtafmbokfkbccaaaGreatDoor
