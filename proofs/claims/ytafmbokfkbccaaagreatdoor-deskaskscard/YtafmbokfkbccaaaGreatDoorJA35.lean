import Derived.Test.YtafmbokfkbccaaaGreatDoorJA29
import Derived.Test.YtafmbokfkbccaaaGreatDoorJA34
namespace Go.Proofs.YtafmbokfkbccaaaGreatDoor
open Go.RowKit Go.Sort Go.Maps
theorem Iw {p:List aA} {l M:List au} (h:G6 p l=(0,M)):dB p∧GoodS p l∧∃τ,Sol p τ∧(aG p).1=p.map (fun r=>τ r.head.name)∧oP p (p.map fun r=>τ r.head.name) (countP (p.map fun r=>τ r.head.name)) 0 l=(0,M):=by
 unfold G6 at h;split at h
 ·rename_i h1;simp at h;exact absurd h.1 h1
 ·rename_i h1;split at h
  ·rename_i h2;simp at h;exact absurd h.1 h2
  ·rename_i h2;have e1:(aG p).2.1=0:=by simpa using h1
   obtain⟨hw,m,hm,_,_,hs⟩:=kI (p:=p) (l:=(aG p).1) (k:=(aG p).2.2) (by rw[←e1]);have hm':(aG p).1=p.map (fun r=>numOf m r.head.name):=hm;rw[hm'] at h;exact⟨mR.1 hw,qy (by simpa using h2),numOf m,hs,hm',h⟩
theorem Iy {p:List aA} {l M:List au} (h:G6 p l=(0,M)):dB p∧GoodS p l∧GoodS p M∧(∀f∈l,f∈M)∧∀r∈p,∀x,gY r M=some x→∀f∈x,f∈M:=by
 obtain⟨hp,hl,τ,hτ,_,hr⟩:=Iw h;obtain⟨h1,h2⟩:=Ga hp hτ hl hr;exact⟨hp,hl,(F9 hp hτ hl hr).1,h1,h2⟩
end Go.Proofs.YtafmbokfkbccaaaGreatDoor
namespace Go.Proofs.YtafmbokfkbccaaaGreatDoor
open Go.RowKit Go.Sort
def Ui (p:List aA) (told:List au) (n:Nat) (x:iR):Int:=
 if(G6 p told).1≠0 then(G6 p told).1 else if Av (KZ Av (n+2) [x] (0,0)) then 4 else K5 p told (G6 p told).2 (n+1) x
end Go.Proofs.YtafmbokfkbccaaaGreatDoor
namespace Go.Proofs.YtafmbokfkbccaaaGreatDoor
open Go.RowKit Go.Sort
theorem A8 {body:List aF} {l:List aD} {j:Nat} {a:aF} (h:body[j]?=some a):fO (body.take (j+1)) l=fO (body.take j) l++(if a.no then[] else(aV a l).toList):=by
 unfold fO;rw[List.take_add_one,h,List.filterMap_append]
 congr 1
 simp only[Option.toList,List.filterMap_cons,List.filterMap_nil];cases a.no with
 |true=>rfl
 |false=>
  simp only[Bool.false_eq_true,if_false];cases aV a l <;> rfl
theorem ow (body:List aF) (l:List aD):(fO body l).length≤body.length:=List.length_filterMap_le _ _
set_option maxRecDepth 100000 in
set_option maxHeartbeats 4000000 in
theorem Na (body:List aF) (l:List aD) (bv lv:Value) (w:World) (hb:bV.sl bU w bv body) (hl:bL.sl bU w lv l) (h5:body.length≤1000):
  Calls Tryz.prog 292 #[bv,lv] w fun e w'=>∃v',e=.returned v'∧bZ w' w.heap.size v' (fO body l)∧Later w w':=by
 obtain⟨ba,bc,rfl⟩:=Kind.slice hb;obtain⟨la,lc,rfl⟩:=Kind.slice hl;have HB:=hide hb;have HL:=hide hl;clear hb hl
 go_enter Tryz.func292,Tryz.ntmps292
 go_wp2
 go_loopg [5,12] body.length (fun g o i wr=>∃j:Nat,j+g=body.length∧i=.int .i64 j∧Hid (bZ wr w.heap.size o (fO (body.take j) l))∧Hid (Later w wr))
 case atStart=>exact⟨0,by omega,rfl,(by rw[List.take_zero];exact bZ.nil _ _:bZ _ _ _ _),Later.refl _⟩
 case round=>
  obtain⟨j,hj,rfl,HO,HW⟩:=hrel;have hol:=ow (body.take j) l;rw[List.length_take] at hol;obtain⟨oa,on,oc,rfl⟩:∃a n c,u5=.slice a n c:=by obtain⟨a,c,e⟩:=aB (HO.out.facts (by omega));exact⟨a,_,c,e⟩
  by_cases hlt:j<body.length
  ·obtain⟨a,ha⟩:∃a,body[j]?=some a:=⟨_,List.getElem?_eq_getElem hlt⟩;obtain⟨b1,o1,_,e1,hb1,⟨xv,hce,htv⟩,hc⟩:=Kind.eT HB.out ha;subst e1;subst hce;have d0:wr.cell? ⟨b1,o1+j*3,none⟩=some (.bool a.no):=by rw[HW.out.cell (p:=⟨b1,o1+j*3,none⟩) hb1];simpa[bV] using hc 0 _ rfl
   have d1:wr.cell? ⟨b1,o1+j*3+1,none⟩=some (.string (bs a.name)):=by rw[HW.out.cell (p:=⟨b1,o1+j*3+1,none⟩) hb1];simpa[bV] using hc 1 _ rfl
   have d2:wr.cell? ⟨b1,o1+j*3+2,none⟩=some xv:=by rw[HW.out.cell (p:=⟨b1,o1+j*3+2,none⟩) hb1];simpa[bV] using hc 2 _ rfl
   obtain⟨xa,xc,rfl⟩:=Kind.slice htv;have hst:=A8 (l:=l) ha;obtain⟨wa,hwa⟩:∃wa,wa=wr.alloc (.cells #[.bool a.no,.string (bs a.name),.slice xa a.terms.length xc] 85):=⟨_,rfl⟩;have hLa:Later wr wa:=by rw[hwa];exact(Later.refl wr).alloc _
   have hRa:wa.heap[wr.heap.size]?=some (.cells #[.bool a.no,.string (bs a.name),.slice xa a.terms.length xc] 85 (0,0)):=by rw[hwa];exact heap_alloc_new wr _
   obtain⟨c0,c1,c2,hla⟩:=LK hRa;have c1':wa.cell? ⟨wr.heap.size,0+1,none⟩=some (.string (bs a.name)):=c1;have c2':wa.cell? ⟨wr.heap.size,0+2,none⟩=some (.slice xa a.terms.length xc):=c2;have hLA:=HW.out.trans hLa;have HFi:=hide (LC a (.slice xa a.terms.length xc) (.slice la l.length lc) l wa (Kind.aO htv hLA) (Kind.aO HL.out hLA));have HLa:=hide hLA;have HLr:=hide hLa;have HRa:=hide hRa;have HWa:=hide hwa;have Uj:=HW.out.size;obtain⟨ok,hok⟩:∃ok,ok=(aV a l).isSome:=⟨_,rfl⟩;rw[←hok] at HFi;have HOk:=hide hok;have HSt:=hide hst;clear hc ha htv hwa hLa hRa hLA hok hst;generalize bs a.name=nm at*
   go_wp2_with (first|(rw[←HWa.out])|fail)
   refine HFi.out.mono ?_;rintro e w2 ⟨v2,rfl,hfv,hL2,Sm⟩;obtain⟨s2,rfl,hs2⟩:=hfv;obtain⟨ya,yc,rfl⟩:=aW hs2;obtain⟨fn,aJ,hfl⟩:∃fn aJ,filled a l=(fn,aJ):=⟨_,_,rfl⟩;rw[hfl] at hs2;rw[hfl] at Sm;dsimp only at hs2 Sm;simp only[hfl];obtain⟨wf,hwf⟩:∃wf,wf=w2.alloc (.cells #[.string fn,.slice ya aJ.length yc] 27):=⟨_,rfl⟩;have hLf:Later w2 wf:=by rw[hwf];exact(Later.refl w2).alloc _
   have hRf:wf.heap[w2.heap.size]?=some (.cells #[.string fn,.slice ya aJ.length yc] 27 (0,0)):=by rw[hwf];exact heap_alloc_new w2 _
   have Uk:=((hL2.trans hLf).block hla).trans HRa.out;have f0:wf.cell? ⟨w2.heap.size,0,none⟩=some (.string fn):=by rw[cell_of_row _ _ _ _ _ _ hRf];rfl
   have f1:wf.cell? ⟨w2.heap.size,0+1,none⟩=some (.slice ya aJ.length yc):=by rw[cell_of_row _ _ _ _ _ _ hRf];rfl
   have g0:wf.cell? ⟨wr.heap.size,0,none⟩=some (.bool a.no):=by rw[cell_of_row _ _ _ _ _ _ Uk];rfl
   have HLF:=hide (HLa.out.trans (hL2.trans hLf));have HOf:=hide (HO.out.later (HLr.out.trans (hL2.trans hLf)));have hSf:=hs2.later hLf;have HWf:=hide hwf;obtain⟨n',s',ee,Ml⟩:=Sm;simp only[Value.agg.injEq,Array.mk.injEq,List.cons.injEq,and_true] at ee;obtain⟨rfl,rfl⟩:=ee;have Uc:=HLr.out.size;have RQ:=hLf.size;have V8:=HLF.out.size;have Kj:∀k,(Value.slice ya aJ.length yc).ownBlock=some k→w.heap.size≤k∧k<wf.heap.size∧(Value.slice oa on oc).ownBlock≠some k:=fun k hk=>by
    obtain⟨q1,q2⟩:=Ml k hk;refine⟨by omega,by omega,fun e=> ?_⟩;obtain⟨xs,hown,_⟩:=HO.out;have:=(hown.lt k e).2;omega
   clear hs2 hL2 hwf hLf hRf Uk HFi Ml d0 d1 d2 c0 c1 c2 c1' c2' HO HLr HWa HRa hla;cases ok with
   |false=>
    have hno:aV a l=none:=by
     have:=HOk.out;cases h:aV a l with
     |none=>rfl
     |some f=>rw[h] at this;cases this
    have HO2:Hid (bZ wf w.heap.size (.slice oa on oc) (fO (body.take (j+1)) l)):=by
     show bZ _ _ _ _;rw[HSt.out,hno];simpa using HOf.out
    clear HOf HSt HOk hno hSf Kj hfl
    go_wp2_with (rw[←HWf.out])
    go_roundg (body.length- (j+1))
    case measure=>omega
    case rel=>exact⟨j+1,by omega,by go_num,HO2,HLF⟩
   |true=>
    have hso:aV a l=some (fn,aJ):=by
     have:=HOk.out;cases h:aV a l with
     |none=>rw[h] at this;cases this
     |some f=>
      unfold filled at hfl;rw[h] at hfl;exact congrArg some hfl
    cases hno:a.no with
    |true=>
     have HO2:Hid (bZ wf w.heap.size (.slice oa on oc) (fO (body.take (j+1)) l)):=by
      show bZ _ _ _ _;rw[HSt.out,hno];simpa using HOf.out
     rw[hno] at g0;clear HOf HSt HOk hno hSf Kj hfl hso
     go_wp2_with (rw[←HWf.out])
     go_roundg (body.length- (j+1))
     case measure=>omega
     case rel=>exact⟨j+1,by omega,by go_num,HO2,HLF⟩
    |false=>
     obtain⟨v6,w6,hrun,hO6,hg6,hd6⟩:=bZ.append HOf.out (fn,aJ) (.slice ya aJ.length yc) hSf Kj (by omega) (by omega) rfl;have hL6:=HLF.out.more hg6 hd6 fun k e=>by
      obtain⟨xs,hown,_⟩:=HOf.out;exact(hown.lt k e).1
     obtain⟨a6,n6,c6,rfl⟩:∃a n c,v6=.slice a n c:=by obtain⟨a,c,e⟩:=aB (hO6.facts (by simp;omega));exact⟨a,_,c,e⟩
     have HO6:Hid (bZ w6 w.heap.size (.slice a6 n6 c6) (fO (body.take (j+1)) l)):=by
      show bZ _ _ _ _;rw[HSt.out,hno,hso];exact hO6
     have HL6:=hide hL6;have HRn:=hide hrun;rw[hno] at g0;clear HOf HSt HOk hno hSf Kj hfl hso hrun hO6 hg6 hd6 hL6
     go_wp2_with (first|(rw[←HWf.out])|(at_builtin;refine wpList_append_run rfl (.tmp 28) (.tmp 30) 24 rfl _ _ _ _ rfl rfl HRn.out ?_))
     go_roundg (body.length- (j+1))
     case measure=>omega
     case rel=>exact⟨j+1,by omega,by go_num,HO6,HL6⟩
  ·have HO2:Hid (bZ wr w.heap.size (.slice oa on oc) (fO body l)):=by have:=HO.out;rw[List.take_of_length_le (by omega)] at this;exact this
   go_wp2;go_ret;exact⟨_,rfl,HO2.out,HW.out⟩
end Go.Proofs.YtafmbokfkbccaaaGreatDoor
namespace Go.Proofs.YtafmbokfkbccaaaGreatDoor
open Go.RowKit Go.Sort
theorem uN {α:Type} (K:Kind α) (ty:TypeId) (w:World):K.own ty 0 (w.alloc (.cells #[] ty)) (.slice (some ⟨w.heap.size,0,none⟩) 0 0) []:=
 ⟨[],⟨by simp,Or.inr ⟨w.heap.size,0,#[],rfl,Nat.zero_le _,heap_alloc_new _ _,by simp,by simp[maxLen],by simp,by simp⟩⟩,fun i x hi=>by simp at hi⟩
theorem Iz {α:Type} {K:Kind α} {ty:TypeId} {lo g i q:Nat} {w:World} {v u:Value} {l:List α} {x x':α} (h:K.own ty lo w v l) (hv:v.ownBlock=some g) (hi:l[i]?=some x) (hq:q<K.size)
  (hset:∀c,K.is (fun k=>lo≤k∧v.ownBlock≠some k) w c x→K.is (fun k=>lo≤k∧v.ownBlock≠some k) w (c.set q u) x'):K.own ty lo (w.setCell ⟨g,i*K.size+q,none⟩ u) v (l.set i x'):=by
 obtain⟨xs,ho,hx⟩:=h;have hil:=(List.getElem?_eq_some_iff.1 hi).1;rcases ho.2 with⟨rfl,e⟩|⟨g',cap,cur,rfl,hbg,hg,hnc,hcm,hcs,htk⟩
 ·omega
 ·obtain rfl:g'=g:=by simpa[Value.ownBlock] using hv
  have hkept:∀{c:List Value} {y:α},K.is (fun k=>lo≤k∧(Value.slice (some ⟨g',0,none⟩) l.length cap).ownBlock≠some k) w c y→K.is (fun k=>lo≤k∧(Value.slice (some ⟨g',0,none⟩) l.length cap).ownBlock≠some k) (w.setCell ⟨g',i*K.size+q,none⟩ u) c y:=fun {c y} hc=>
   K.kept hc (by rw[size_setCell];exact Nat.le_refl _) fun k _ hB=>heap_setCell_other _ _ _ (by intro e;exact hB.2 (by simp[Value.ownBlock];exact e.symm))
  refine⟨xs.set (i*K.size+q) u,⟨by rw[List.length_set,List.length_set];exact ho.1,Or.inr ⟨g',cap,cur.setIfInBounds (i*K.size+q) u,by rw[List.length_set],hbg,dZ hg u,by rw[List.length_set];exact hnc,hcm,by rw[Array.size_setIfInBounds];exact hcs,?_⟩⟩,fun t y ht=> ?_⟩
  ·rw[List.length_set,Array.toList_setIfInBounds,List.take_set,htk]
  ·by_cases e:t=i
   ·subst e;rw[List.getElem?_set_self (by omega)] at ht;cases ht;obtain⟨c,c1,c2⟩:=hx t x hi;have hcl:=K.len c1;refine⟨c.set q u,hkept (hset c c1),fun j z hz=> ?_⟩;have hxl:t*K.size+q<xs.length:=by
     have h1:=c2 q (c[q]'(by omega)) (List.getElem?_eq_getElem (by omega));exact(List.getElem?_eq_some_iff.1 h1).1
    by_cases ej:j=q
    ·subst ej;rw[List.getElem?_set_self (by omega)] at hz;rw[List.getElem?_set_self hxl];exact hz
    ·rw[List.getElem?_set_ne (by omega)] at hz;rw[List.getElem?_set_ne (by omega)];exact c2 j z hz
   ·rw[List.getElem?_set_ne (fun h=>e h.symm)] at ht;obtain⟨c,c1,c2⟩:=hx t y ht;have hcl:=K.len c1;refine⟨c,hkept c1,fun j z hz=> ?_⟩;have hj:j<K.size:=by rw[←hcl];exact(List.getElem?_eq_some_iff.1 hz).1
    have hne:i*K.size+q≠t*K.size+j:=fun he=>by
     rcases Nat.lt_or_gt_of_ne e with h1|h1
     ·have:=Nat.mul_le_mul_right K.size (show t+1≤i from h1);rw[Nat.add_mul] at this;omega
     ·have:=Nat.mul_le_mul_right K.size (show i+1≤t from h1);rw[Nat.add_mul] at this;omega
    rw[List.getElem?_set_ne hne];exact c2 j z hz
theorem fP {w:World} {g j:Nat} {cs:Array Value} {t:TypeId} (h:w.heap[g]?=some (.cells cs t (0,0))):w.frozen? ⟨g,j,none⟩=false:=by simp[World.frozen?,h]
theorem IB {α:Type} {K:Kind α} {ty:TypeId} {lo:Nat} {w:World} {v:Value} {l:List α} {i:Nat} {x:α} (h:K.own ty lo w v l) (hi:l[i]?=some x):∃g cap cs,v=.slice (some ⟨g,0,none⟩) l.length cap∧g<w.heap.size∧l.length≤cap∧K.is (fun k=>lo≤k∧v.ownBlock≠some k) w cs x∧(∀j u,cs[j]?=some u→w.cell? ⟨g,i*K.size+j,none⟩=some u∧w.frozen? ⟨g,i*K.size+j,none⟩=false):=by
 obtain⟨xs,ho,hx⟩:=h;obtain⟨c,c1,c2⟩:=hx i x hi;have hil:=(List.getElem?_eq_some_iff.1 hi).1;rcases ho.2 with⟨rfl,e⟩|⟨g,cap,cur,rfl,hbg,hg,hnc,hcm,hcs,htk⟩
 ·omega
 ·refine⟨g,cap,c,rfl,(Array.getElem?_eq_some_iff.1 hg).1,hnc,c1,fun j u hu=>⟨?_,?_⟩⟩
  ·have:=ho.cells (g:=g) rfl _ u (c2 j u hu);rw[Addr.add_lit] at this;simpa using this
  ·exact fP hg
theorem IC:∃i z,Tryz.prog.info? 85=some i∧i.zero=some z∧i.size=bV.size∧i.bytes=48∧z.cells.size=bV.size:=⟨Tryz.t85,.agg #[.bool false,.string ByteArray.empty,.slice none 0 0],by kernel_rfl,by kernel_rfl,by kernel_rfl,by kernel_rfl,by kernel_rfl⟩
set_option maxHeartbeats 1000000 in
theorem Fb (l:List aF) (v:Value) (w:World) (h:bV.sl bU w v l) (hl:l.length≤1099511627776):
  Calls Tryz.prog 328 #[v] w fun e w'=>∃v',e=.returned v'∧bV.own 85 0 w' v' l∧(∀k,v'.ownBlock=some k→w.heap.size≤k)∧Below w.heap.size w w':=by
 obtain⟨a,cap,rfl⟩:=Kind.slice h;obtain⟨i,z,i1,i2,i3,i4,i5⟩:=IC;cases a with
 |none=>
  have hl0:l=[]:=by
   refine Classical.byContradiction fun hne=> ?_;obtain⟨_,a',cap',e,h1⟩:=h;simp only[Value.slice.injEq] at e;obtain⟨rfl,_,_⟩:=e;obtain⟨b,off,e,_⟩:=h1 hne;cases e
  subst hl0;have hnil:=fun w=>Lib.run_eql_slice_nil (P:=Tryz.prog) w 73 85 none 0 cap 0 0 Tryz.underlying73;clear h hl;simp only[List.length_nil]
  go_enter Tryz.func328,Tryz.ntmps328
  go_wp2;go_ret;exact⟨_,rfl,bV.iH _ _ _,fun k e=>(by cases e),Below.refl _ _⟩
 |some b=>
  have hnil:=fun w=>Lib.run_eql_slice_nil (P:=Tryz.prog) w 73 85 (some b) l.length cap 0 0 Tryz.underlying73;have h0:bV.own 85 0 (w.alloc (.cells #[] 85)) (.slice (some ⟨w.heap.size,0,none⟩) 0 0) []:=uN bV 85 w;have hs:bV.sl (fun k=>0≤k∧(Value.slice (some ⟨w.heap.size,0,none⟩) 0 0).ownBlock≠some k) (w.alloc (.cells #[] 85)) (.slice (some b) l.length cap) l:=
   Kind.aM (Kind.aH h fun k hk _=>⟨Nat.zero_le _,by simp[Value.ownBlock];omega⟩) (by simp) fun k hk _=>Below.heap_alloc w _ k hk
  obtain⟨v',w',hrun,hR,hg,hk⟩:=Kind.oq (P:=Tryz.prog) (e':=73) h0 Tryz.underlying73 i1 i2 i3 i4 i5 (by decide) (by decide) hs (by simpa using hl) (Nat.zero_le _) rfl;have HB:Hid (Below w.heap.size w w'):=(((Later.refl w).alloc (.cells #[] 85)).below).grown hg (by simp) (fun k e=>by simp[Value.ownBlock] at e;omega);have HK:Hid (∀k,v'.ownBlock=some k→w.heap.size≤k):=fun k e=>by
   rcases hk k e with h1|h1
   ·simp[Value.ownBlock] at h1;omega
   ·simp at h1;omega
  have HR:=hide hrun;have HF:=hide hR;clear hrun hR hg hk h0 hs h
  go_enter Tryz.func328,Tryz.ntmps328
  go_wp2_with (at_builtin;refine wpList_append_run rfl (.tmp 5) (.tmp 6) 73 rfl _ _ _ _ rfl rfl HR.out ?_)
  go_ret;exact⟨v',rfl,by simpa using HF.out,HK.out,HB.out⟩
theorem IE:∃i z,Tryz.prog.info? 187=some i∧i.zero=some z∧i.size=dG.size∧i.bytes=24∧z.cells.size=dG.size:=⟨Tryz.t187,.agg #[.bool false,.string ByteArray.empty],by kernel_rfl,by kernel_rfl,by kernel_rfl,by kernel_rfl,by kernel_rfl⟩
set_option maxHeartbeats 1000000 in
theorem Fe (l:List dF) (v:Value) (w:World) (h:dG.sl bU w v l) (hl:l.length≤1099511627776):
  Calls Tryz.prog 329 #[v] w fun e w'=>∃v',e=.returned v'∧dG.own 187 0 w' v' l∧(∀k,v'.ownBlock=some k→w.heap.size≤k)∧Below w.heap.size w w':=by
 obtain⟨a,cap,rfl⟩:=Kind.slice h;obtain⟨i,z,i1,i2,i3,i4,i5⟩:=IE;cases a with
 |none=>
  have hl0:l=[]:=by
   refine Classical.byContradiction fun hne=> ?_;obtain⟨_,a',cap',e,h1⟩:=h;simp only[Value.slice.injEq] at e;obtain⟨rfl,_,_⟩:=e;obtain⟨b,off,e,_⟩:=h1 hne;cases e
  subst hl0;have hnil:=fun w=>Lib.run_eql_slice_nil (P:=Tryz.prog) w 83 187 none 0 cap 0 0 Tryz.underlying83;clear h hl;simp only[List.length_nil]
  go_enter Tryz.func329,Tryz.ntmps329
  go_wp2;go_ret;exact⟨_,rfl,dG.iH _ _ _,fun k e=>(by cases e),Below.refl _ _⟩
 |some b=>
  have hnil:=fun w=>Lib.run_eql_slice_nil (P:=Tryz.prog) w 83 187 (some b) l.length cap 0 0 Tryz.underlying83;have h0:dG.own 187 0 (w.alloc (.cells #[] 187)) (.slice (some ⟨w.heap.size,0,none⟩) 0 0) []:=uN dG 187 w;have hs:dG.sl (fun k=>0≤k∧(Value.slice (some ⟨w.heap.size,0,none⟩) 0 0).ownBlock≠some k) (w.alloc (.cells #[] 187)) (.slice (some b) l.length cap) l:=
   Kind.aM (Kind.aH h fun k hk _=>⟨Nat.zero_le _,by simp[Value.ownBlock];omega⟩) (by simp) fun k hk _=>Below.heap_alloc w _ k hk
  obtain⟨v',w',hrun,hR,hg,hk⟩:=Kind.oq (P:=Tryz.prog) (e':=83) h0 Tryz.underlying83 i1 i2 i3 i4 i5 (by decide) (by decide) hs (by simpa using hl) (Nat.zero_le _) rfl;have HB:Hid (Below w.heap.size w w'):=(((Later.refl w).alloc (.cells #[] 187)).below).grown hg (by simp) (fun k e=>by simp[Value.ownBlock] at e;omega);have HK:Hid (∀k,v'.ownBlock=some k→w.heap.size≤k):=fun k e=>by
   rcases hk k e with h1|h1
   ·simp[Value.ownBlock] at h1;omega
   ·simp at h1;omega
  have HR:=hide hrun;have HF:=hide hR;clear hrun hR hg hk h0 hs h
  go_enter Tryz.func329,Tryz.ntmps329
  go_wp2_with (at_builtin;refine wpList_append_run rfl (.tmp 5) (.tmp 6) 83 rfl _ _ _ _ rfl rfl HR.out ?_)
  go_ret;exact⟨v',rfl,by simpa using HF.out,HK.out,HB.out⟩
theorem Kk:∃i z,Tryz.prog.info? 9=some i∧i.zero=some z∧i.size=bsK.size∧i.bytes=16∧z.cells.size=bsK.size:=⟨Tryz.t9,.string ByteArray.empty,by kernel_rfl,by kernel_rfl,by kernel_rfl,by kernel_rfl,by kernel_rfl⟩
end Go.Proofs.YtafmbokfkbccaaaGreatDoor
