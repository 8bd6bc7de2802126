import Derived.Test.YtafmbokfkbccaaaGreatDoorJW25
import Derived.Test.YtafmbokfkbccaaaGreatDoorJW6
namespace Go.Proofs.YtafmbokfkbccaaaGreatDoor
open Go.RowKit Go.Sort
theorem zm {body:List aF} {l:List aC} {j:Nat} {a:aF} (h:body[j]?=some a):fF (body.take (j+1)) l=fF (body.take j) l++(if a.no then[] else(aR a l).toList):=by
 unfold fF;rw[List.take_add_one,h,List.filterMap_append]
 congr 1
 simp only[Option.toList,List.filterMap_cons,List.filterMap_nil];cases a.no with
 |true=>rfl
 |false=>
  simp only[Bool.false_eq_true,if_false];cases aR a l <;> rfl
theorem mD (body:List aF) (l:List aC):(fF body l).length≤body.length:=List.length_filterMap_le _ _
set_option maxRecDepth 100000 in
set_option maxHeartbeats 4000000 in
theorem KN (body:List aF) (l:List aC) (bv lv:Value) (w:World) (hb:bP.sl bU w bv body) (hl:bg.sl bU w lv l) (h5:body.length≤1000):
  Calls Tryz.prog 292 #[bv,lv] w fun e w'=>∃v',e=.returned v'∧gN w' w.heap.size v' (fF body l)∧Later w w':=by
 obtain⟨ba,bc,rfl⟩:=Kind.slice hb;obtain⟨la,lc,rfl⟩:=Kind.slice hl;have HB:=hide hb;have HL:=hide hl;clear hb hl
 go_enter Tryz.func292,Tryz.ntmps292
 go_wp2
 go_loopg [5,12] body.length (fun g o i wr=>∃j:Nat,j+g=body.length∧i=.int .i64 j∧Hid (gN wr w.heap.size o (fF (body.take j) l))∧Hid (Later w wr))
 case atStart=>exact⟨0,by omega,rfl,(by rw[List.take_zero];exact gN.nil _ _:gN _ _ _ _),Later.refl _⟩
 case round=>
  obtain⟨j,hj,rfl,HO,HW⟩:=hrel;have hol:=mD (body.take j) l;rw[List.length_take] at hol;obtain⟨oa,on,oc,rfl⟩:∃a n c,u5=.slice a n c:=by obtain⟨a,c,e⟩:=aD (HO.out.facts (by omega));exact⟨a,_,c,e⟩
  by_cases hlt:j<body.length
  ·obtain⟨a,ha⟩:∃a,body[j]?=some a:=⟨_,List.getElem?_eq_getElem hlt⟩;obtain⟨b1,o1,_,e1,hb1,⟨xv,hce,htv⟩,hc⟩:=Kind.fQ HB.out ha;subst e1;subst hce;have d0:wr.cell? ⟨b1,o1+j*3,none⟩=some (.bool a.no):=by rw[HW.out.cell (p:=⟨b1,o1+j*3,none⟩) hb1];simpa[bP] using hc 0 _ rfl
   have d1:wr.cell? ⟨b1,o1+j*3+1,none⟩=some (.string (bs a.name)):=by rw[HW.out.cell (p:=⟨b1,o1+j*3+1,none⟩) hb1];simpa[bP] using hc 1 _ rfl
   have d2:wr.cell? ⟨b1,o1+j*3+2,none⟩=some xv:=by rw[HW.out.cell (p:=⟨b1,o1+j*3+2,none⟩) hb1];simpa[bP] using hc 2 _ rfl
   obtain⟨xa,xc,rfl⟩:=Kind.slice htv;have hst:=zm (l:=l) ha;obtain⟨wa,hwa⟩:∃wa,wa=wr.alloc (.cells #[.bool a.no,.string (bs a.name),.slice xa a.terms.length xc] 85):=⟨_,rfl⟩;have hLa:Later wr wa:=by rw[hwa];exact(Later.refl wr).alloc _
   have hRa:wa.heap[wr.heap.size]?=some (.cells #[.bool a.no,.string (bs a.name),.slice xa a.terms.length xc] 85 (0,0)):=by rw[hwa];exact heap_alloc_new wr _
   obtain⟨c0,c1,c2,hla⟩:=EO hRa;have c1':wa.cell? ⟨wr.heap.size,0+1,none⟩=some (.string (bs a.name)):=c1;have c2':wa.cell? ⟨wr.heap.size,0+2,none⟩=some (.slice xa a.terms.length xc):=c2;have hLA:=HW.out.trans hLa;have HFi:=hide (LX a (.slice xa a.terms.length xc) (.slice la l.length lc) l wa (Kind.aH htv hLA) (Kind.aH HL.out hLA));have HLa:=hide hLA;have HLr:=hide hLa;have HRa:=hide hRa;have HWa:=hide hwa;have QJ:=HW.out.size;obtain⟨ok,hok⟩:∃ok,ok=(aR a l).isSome:=⟨_,rfl⟩;rw[←hok] at HFi;have HOk:=hide hok;have HSt:=hide hst;clear hc ha htv hwa hLa hRa hLA hok hst;generalize bs a.name=nm at*
   go_wp2_with (first|(rw[←HWa.out])|fail)
   refine HFi.out.mono ?_;rintro e w2 ⟨v2,rfl,hfv,hL2,Pe⟩;obtain⟨s2,rfl,hs2⟩:=hfv;obtain⟨ya,yc,rfl⟩:=aW hs2;obtain⟨fn,aI,hfl⟩:∃fn aI,filled a l=(fn,aI):=⟨_,_,rfl⟩;rw[hfl] at hs2;rw[hfl] at Pe;dsimp only at hs2 Pe;simp only[hfl];obtain⟨wf,hwf⟩:∃wf,wf=w2.alloc (.cells #[.string fn,.slice ya aI.length yc] 27):=⟨_,rfl⟩;have hLf:Later w2 wf:=by rw[hwf];exact(Later.refl w2).alloc _
   have hRf:wf.heap[w2.heap.size]?=some (.cells #[.string fn,.slice ya aI.length yc] 27 (0,0)):=by rw[hwf];exact heap_alloc_new w2 _
   have QK:=((hL2.trans hLf).block hla).trans HRa.out;have f0:wf.cell? ⟨w2.heap.size,0,none⟩=some (.string fn):=by rw[cell_of_row _ _ _ _ _ _ hRf];rfl
   have f1:wf.cell? ⟨w2.heap.size,0+1,none⟩=some (.slice ya aI.length yc):=by rw[cell_of_row _ _ _ _ _ _ hRf];rfl
   have g0:wf.cell? ⟨wr.heap.size,0,none⟩=some (.bool a.no):=by rw[cell_of_row _ _ _ _ _ _ QK];rfl
   have HLF:=hide (HLa.out.trans (hL2.trans hLf));have HOf:=hide (HO.out.later (HLr.out.trans (hL2.trans hLf)));have hSf:=hs2.later hLf;have HWf:=hide hwf;obtain⟨n',s',ee,IB⟩:=Pe;simp only[Value.agg.injEq,Array.mk.injEq,List.cons.injEq,and_true] at ee;obtain⟨rfl,rfl⟩:=ee;have Tj:=HLr.out.size;have QL:=hLf.size;have Tk:=HLF.out.size;have IC:∀k,(Value.slice ya aI.length yc).ownBlock=some k→w.heap.size≤k∧k<wf.heap.size∧(Value.slice oa on oc).ownBlock≠some k:=fun k hk=>by
    obtain⟨q1,q2⟩:=IB k hk;refine⟨by omega,by omega,fun e=> ?_⟩;obtain⟨xs,hown,_⟩:=HO.out;have:=(hown.lt k e).2;omega
   clear hs2 hL2 hwf hLf hRf QK HFi IB d0 d1 d2 c0 c1 c2 c1' c2' HO HLr HWa HRa hla;cases ok with
   |false=>
    have hno:aR a l=none:=by
     have:=HOk.out;cases h:aR a l with
     |none=>rfl
     |some f=>rw[h] at this;cases this
    have HO2:Hid (gN wf w.heap.size (.slice oa on oc) (fF (body.take (j+1)) l)):=by
     show gN _ _ _ _;rw[HSt.out,hno];simpa using HOf.out
    clear HOf HSt HOk hno hSf IC hfl
    go_wp2_with (rw[←HWf.out])
    go_roundg (body.length- (j+1))
    case measure=>omega
    case rel=>exact⟨j+1,by omega,by go_num,HO2,HLF⟩
   |true=>
    have hso:aR a l=some (fn,aI):=by
     have:=HOk.out;cases h:aR a l with
     |none=>rw[h] at this;cases this
     |some f=>
      unfold filled at hfl;rw[h] at hfl;exact congrArg some hfl
    cases hno:a.no with
    |true=>
     have HO2:Hid (gN wf w.heap.size (.slice oa on oc) (fF (body.take (j+1)) l)):=by
      show gN _ _ _ _;rw[HSt.out,hno];simpa using HOf.out
     rw[hno] at g0;clear HOf HSt HOk hno hSf IC hfl hso
     go_wp2_with (rw[←HWf.out])
     go_roundg (body.length- (j+1))
     case measure=>omega
     case rel=>exact⟨j+1,by omega,by go_num,HO2,HLF⟩
    |false=>
     obtain⟨v6,w6,hrun,hO6,hg6,hd6⟩:=gN.append HOf.out (fn,aI) (.slice ya aI.length yc) hSf IC (by omega) (by omega) rfl;have hL6:=HLF.out.more hg6 hd6 fun k e=>by
      obtain⟨xs,hown,_⟩:=HOf.out;exact(hown.lt k e).1
     obtain⟨a6,n6,c6,rfl⟩:∃a n c,v6=.slice a n c:=by obtain⟨a,c,e⟩:=aD (hO6.facts (by simp;omega));exact⟨a,_,c,e⟩
     have HO6:Hid (gN w6 w.heap.size (.slice a6 n6 c6) (fF (body.take (j+1)) l)):=by
      show gN _ _ _ _;rw[HSt.out,hno,hso];exact hO6
     have HL6:=hide hL6;have HRn:=hide hrun;rw[hno] at g0;clear HOf HSt HOk hno hSf IC hfl hso hrun hO6 hg6 hd6 hL6
     go_wp2_with (first|(rw[←HWf.out])|(at_builtin;refine wpList_append_run rfl (.tmp 28) (.tmp 30) 24 rfl _ _ _ _ rfl rfl HRn.out ?_))
     go_roundg (body.length- (j+1))
     case measure=>omega
     case rel=>exact⟨j+1,by omega,by go_num,HO6,HL6⟩
  ·have HO2:Hid (gN wr w.heap.size (.slice oa on oc) (fF body l)):=by have:=HO.out;rw[List.take_of_length_le (by omega)] at this;exact this
   go_wp2;go_ret;exact⟨_,rfl,HO2.out,HW.out⟩
end Go.Proofs.YtafmbokfkbccaaaGreatDoor
namespace Go.Proofs.YtafmbokfkbccaaaGreatDoor
open Go.RowKit Go.Sort
theorem flat_get {size:Nat}:∀(cs:List (List Value)),(∀c∈cs,c.length=size)→∀i c j,cs[i]?=some c→j<size→cs.flatten[i*size+j]?=c[j]?
 |[],_,i,c,j,h,_=>by simp at h
 |d::cs,hl,i,c,j,h,hj=>by
  have hd:d.length=size:=hl d (by simp);cases i with
  |zero=>
   simp at h;subst h;rw[List.flatten_cons,Nat.zero_mul,Nat.zero_add,List.getElem?_append_left (by omega)]
  |succ i=>
   have ih:=flat_get cs (fun c hc=>hl c (by simp[hc])) i c j (by simpa using h) hj;rw[List.flatten_cons,List.getElem?_append_right (by rw[Nat.add_mul];omega),show(i+1)*size+j-d.length=i*size+j by rw[Nat.add_mul];omega];exact ih
theorem wS {size:Nat}:∀(cs:List (List Value)),(∀c∈cs,c.length=size)→cs.flatten.length=cs.length*size
 |[],_=>by simp
 |d::cs,hl=>by
  have:=wS cs (fun c hc=>hl c (by simp[hc]));have hd:d.length=size:=hl d (by simp);rw[List.flatten_cons,List.length_append,this,hd,List.length_cons,Nat.add_mul];omega
theorem Kind.vX {α:Type} {K:Kind α} {B:Nat→Prop} {w:World} {a:Addr} {n cap:Nat} {m:List α} (h:K.sl B w (.slice (some a) n cap) m) (hsz:0<K.size):
  ∃cs:List (List Value),cs.length=m.length∧(∀c∈cs,c.length=K.size)∧(∀c∈cs,∀u∈c,u.oneCell'=true)∧(∀(j:Nat) (u:Value),cs.flatten[j]?=some u→w.cell? (a.add j)=some u)∧∀(i:Nat) (c:List Value) (x:α),cs[i]?=some c→m[i]?=some x→K.is B w c x:=by
 by_cases hm:m=[]
 ·subst hm;exact⟨[],rfl,by simp,by simp,by simp,fun i c x h=>by simp at h⟩
 obtain⟨_,a',cap',e,h1⟩:=h;simp only[Value.slice.injEq] at e;obtain⟨rfl,_,_⟩:=e;obtain⟨b,off,e,_,hb,hc⟩:=h1 hm;simp only[Option.some.injEq] at e;subst e;have key:∀i:Fin m.length,∃c,K.is B w c m[i.1]∧∀j u,c[j]?=some u→w.cell? ⟨b,off+i.1*K.size+j,none⟩=some u:=fun i=>hc i.1 _ (List.getElem?_eq_getElem i.2);have get:∀i,(List.ofFn fun i:Fin m.length=>Classical.choose (key i))[i]?=if h:i<m.length then some (Classical.choose (key ⟨i,h⟩)) else none:=fun i=>by rw[List.getElem?_ofFn]
 have hl:∀c∈List.ofFn fun i:Fin m.length=>Classical.choose (key i),c.length=K.size:=fun c hc=>by
  rw[List.mem_ofFn] at hc;obtain⟨i,rfl⟩:=hc;exact K.len (Classical.choose_spec (key i)).1
 refine⟨List.ofFn fun i:Fin m.length=>Classical.choose (key i),by simp,hl,fun c hc=> ?_,fun j u hu=> ?_,fun i c x hi hx=> ?_⟩
 ·rw[List.mem_ofFn] at hc;obtain⟨i,rfl⟩:=hc;exact K.one (Classical.choose_spec (key i)).1
 ·have hj:=(List.getElem?_eq_some_iff.1 hu).1;rw[wS _ hl,List.length_ofFn] at hj;have hq:j/K.size<m.length:=(Nat.div_lt_iff_lt_mul hsz).2 hj;have hr:j%K.size<K.size:=Nat.mod_lt _ hsz;have hjq:j/K.size*K.size+j%K.size=j:=by rw[Nat.mul_comm];exact Nat.div_add_mod j K.size
  have hg:=get (j/K.size);rw[dif_pos hq] at hg;have:=flat_get _ hl _ _ (j%K.size) hg hr;rw[hjq,hu] at this;have hcell:=(Classical.choose_spec (key ⟨j/K.size,hq⟩)).2 _ u this.symm;rw[Addr.add_lit];rw[show off+j/K.size*K.size+j%K.size=off+j by omega] at hcell;exact hcell
 ·rw[get] at hi;split at hi
  ·rename_i h;rw[List.getElem?_eq_getElem h] at hx;cases hi;cases hx;exact(Classical.choose_spec (key ⟨i,h⟩)).1
  ·cases hi
theorem Kind.mE {α:Type} {P:Program} {K:Kind α} {t ty e':TypeId} {lo bytes:Nat} {w:World} {v:Value} {l m:List α} {a:Option Addr} {cap:Nat} (h:K.own ty lo w v l) {i:TypeInfo} {z:Value}
  (ht:P.underlying t=some (.slice ty)) (hi:P.info? ty=some i) (hz:i.zero=some z) (hsize:i.size=K.size) (hby:i.bytes=bytes) (hzs:z.cells.size=K.size) (hsz:0<K.size) (hb:bytes≤100)
  (hs:K.sl (fun k=>lo≤k∧v.ownBlock≠some k) w (.slice a m.length cap) m) (hl:l.length+m.length≤1099511627776) (hlo:lo≤w.heap.size) (_:e'=t):
  ∃v' w',(Builtin.append_ #[t,t] t #[v,.slice a m.length cap]).run P w=.ok v' w'∧K.own ty lo w' v' (l++m)∧w.grownBy w' v.ownBlock∧∀k,v'.ownBlock=some k→v.ownBlock=some k∨w.heap.size≤k:=by
 cases a with
 |none=>
  have hm:m=[]:=by
   refine Classical.byContradiction fun hne=> ?_;obtain⟨_,a',_,e,h1⟩:=hs;simp only[Value.slice.injEq] at e;obtain⟨b,off,e',_⟩:=h1 hne;rw[e'] at e;cases e.1
  subst hm;refine⟨v,w,?_,by rw[List.append_nil];exact h,⟨rfl,rfl,rfl,Nat.le_refl _,fun _ _ _=>rfl⟩,fun k hk=>Or.inl hk⟩;obtain⟨xs,ho,_⟩:=h;rcases ho.2 with⟨rfl,e0⟩|⟨g,c,cur,rfl,_,_,hnc,_⟩
  ·simp[Builtin.append_,run_underlying ht,sizeOf,typeInfo,hi,Builtin.lenOf,Builtin.firstCells]
  ·simp[Builtin.append_,run_underlying ht,sizeOf,typeInfo,hi,Builtin.lenOf,Builtin.firstCells,hnc,storeCells]
 |some a=>
  obtain⟨cs,cl,Pf,Tm,Pg,cis⟩:=Kind.vX hs hsz;obtain⟨xs,ho,hx⟩:=h;have hxl:xs.length=l.length*K.size:=ho.1;obtain⟨v',w',hrun,r1,r2,r3,r4⟩:=eP (P:=P) w lo t t ty i z K.size bytes ht hi hz hsize hby hzs hsz v l.length xs ho a m.length cap cs.flatten (by rw[wS _ Pf,cl]) Pg
   (fun u hu=>by rw[List.mem_flatten] at hu;obtain⟨c,hc,hu⟩:=hu;exact Tm c hc u hu) (by simp only[maxLen];omega) (Nat.le_trans (Nat.mul_le_mul hl hb) (by omega)) hlo
  have own':∀k,k<w.heap.size→v'.ownBlock=some k→v.ownBlock=some k:=fun k hk e=>(r4 k e).elim id fun h=>by omega
  have keep:∀k,k<w.heap.size→(lo≤k∧v.ownBlock≠some k)→w'.heap[k]?=w.heap[k]?:=fun k hk hB=>r2.block k hk (fun e=>hB.2 e.symm);have move:∀{c:List Value} {y:α},K.is (fun k=>lo≤k∧v.ownBlock≠some k) w c y→K.is (fun k=>lo≤k∧v'.ownBlock≠some k) w' c y:=fun {c y} hy=>
   K.kept (K.mono hy fun k hk hB=>(⟨⟨hB.1,fun e=>hB.2 (own' k hk e)⟩,hB⟩:(lo≤k∧v'.ownBlock≠some k)∧(lo≤k∧v.ownBlock≠some k))) r2.size (fun k hk hB=>keep k hk hB.2) |> fun h=>K.mono h fun _ _ hB=>hB.1
  refine⟨v',w',hrun,⟨xs++cs.flatten,by rw[List.length_append];exact r1,fun j y hj=> ?_⟩,r2,r4⟩
  by_cases hjl:j<l.length
  ·rw[List.getElem?_append_left hjl] at hj;obtain⟨d,d1,d2⟩:=hx j y hj;refine⟨d,move d1,fun q u hu=> ?_⟩;have:=d2 q u hu;rw[List.getElem?_append_left (List.getElem?_eq_some_iff.1 this).1];exact this
  ·rw[List.getElem?_append_right (by omega)] at hj;have hjm:=(List.getElem?_eq_some_iff.1 hj).1;have hc:cs[j-l.length]?=some (cs[j-l.length]'(by omega)):=List.getElem?_eq_getElem (by omega);refine⟨_,move (cis _ _ y hc hj),fun q u hu=> ?_⟩;have hq:q<K.size:=by rw[←Pf _ (List.getElem_mem (by omega:j-l.length<cs.length))];exact(List.getElem?_eq_some_iff.1 hu).1
   have:=flat_get cs Pf _ _ q hc hq;rw[List.getElem?_append_right (by rw[hxl];have:=Nat.mul_le_mul_right K.size (Nat.le_of_not_lt hjl);omega),hxl,
    show j*K.size+q-l.length*K.size=(j-l.length)*K.size+q by rw[Nat.sub_mul];have:=Nat.mul_le_mul_right K.size (Nat.le_of_not_lt hjl);omega,this]
   exact hu
end Go.Proofs.YtafmbokfkbccaaaGreatDoor
namespace Go.Proofs.YtafmbokfkbccaaaGreatDoor
open Go.RowKit Go.Sort
theorem rW {α:Type} (K:Kind α) (ty:TypeId) (w:World):K.own ty 0 (w.alloc (.cells #[] ty)) (.slice (some ⟨w.heap.size,0,none⟩) 0 0) []:=
 ⟨[],⟨by simp,Or.inr ⟨w.heap.size,0,#[],rfl,Nat.zero_le _,heap_alloc_new _ _,by simp,by simp[maxLen],by simp,by simp⟩⟩,fun i x hi=>by simp at hi⟩
theorem F4 {α:Type} {K:Kind α} {ty:TypeId} {lo g i q:Nat} {w:World} {v u:Value} {l:List α} {x x':α} (h:K.own ty lo w v l) (hv:v.ownBlock=some g) (hi:l[i]?=some x) (hq:q<K.size)
  (hset:∀c,K.is (fun k=>lo≤k∧v.ownBlock≠some k) w c x→K.is (fun k=>lo≤k∧v.ownBlock≠some k) w (c.set q u) x'):K.own ty lo (w.setCell ⟨g,i*K.size+q,none⟩ u) v (l.set i x'):=by
 obtain⟨xs,ho,hx⟩:=h;have hil:=(List.getElem?_eq_some_iff.1 hi).1;rcases ho.2 with⟨rfl,e⟩|⟨g',cap,cur,rfl,hbg,hg,hnc,hcm,hcs,htk⟩
 ·omega
 ·obtain rfl:g'=g:=by simpa[Value.ownBlock] using hv
  have hkept:∀{c:List Value} {y:α},K.is (fun k=>lo≤k∧(Value.slice (some ⟨g',0,none⟩) l.length cap).ownBlock≠some k) w c y→K.is (fun k=>lo≤k∧(Value.slice (some ⟨g',0,none⟩) l.length cap).ownBlock≠some k) (w.setCell ⟨g',i*K.size+q,none⟩ u) c y:=fun {c y} hc=>
   K.kept hc (by rw[size_setCell];exact Nat.le_refl _) fun k _ hB=>heap_setCell_other _ _ _ (by intro e;exact hB.2 (by simp[Value.ownBlock];exact e.symm))
  refine⟨xs.set (i*K.size+q) u,⟨by rw[List.length_set,List.length_set];exact ho.1,Or.inr ⟨g',cap,cur.setIfInBounds (i*K.size+q) u,by rw[List.length_set],hbg,dJ hg u,by rw[List.length_set];exact hnc,hcm,by rw[Array.size_setIfInBounds];exact hcs,?_⟩⟩,fun t y ht=> ?_⟩
  ·rw[List.length_set,Array.toList_setIfInBounds,List.take_set,htk]
  ·by_cases e:t=i
   ·subst e;rw[List.getElem?_set_self (by omega)] at ht;cases ht;obtain⟨c,c1,c2⟩:=hx t x hi;have hcl:=K.len c1;refine⟨c.set q u,hkept (hset c c1),fun j z hz=> ?_⟩;have hxl:t*K.size+q<xs.length:=by
     have h1:=c2 q (c[q]'(by omega)) (List.getElem?_eq_getElem (by omega));exact(List.getElem?_eq_some_iff.1 h1).1
    by_cases ej:j=q
    ·subst ej;rw[List.getElem?_set_self (by omega)] at hz;rw[List.getElem?_set_self hxl];exact hz
    ·rw[List.getElem?_set_ne (by omega)] at hz;rw[List.getElem?_set_ne (by omega)];exact c2 j z hz
   ·rw[List.getElem?_set_ne (fun h=>e h.symm)] at ht;obtain⟨c,c1,c2⟩:=hx t y ht;have hcl:=K.len c1;refine⟨c,hkept c1,fun j z hz=> ?_⟩;have hj:j<K.size:=by rw[←hcl];exact(List.getElem?_eq_some_iff.1 hz).1
    have hne:i*K.size+q≠t*K.size+j:=fun he=>by
     rcases Nat.lt_or_gt_of_ne e with h1|h1
     ·have:=Nat.mul_le_mul_right K.size (show t+1≤i from h1);rw[Nat.add_mul] at this;omega
     ·have:=Nat.mul_le_mul_right K.size (show i+1≤t from h1);rw[Nat.add_mul] at this;omega
    rw[List.getElem?_set_ne hne];exact c2 j z hz
theorem fG {w:World} {g j:Nat} {cs:Array Value} {t:TypeId} (h:w.heap[g]?=some (.cells cs t (0,0))):w.frozen? ⟨g,j,none⟩=false:=by simp[World.frozen?,h]
theorem F5 {α:Type} {K:Kind α} {ty:TypeId} {lo:Nat} {w:World} {v:Value} {l:List α} {i:Nat} {x:α} (h:K.own ty lo w v l) (hi:l[i]?=some x):∃g cap cs,v=.slice (some ⟨g,0,none⟩) l.length cap∧g<w.heap.size∧l.length≤cap∧K.is (fun k=>lo≤k∧v.ownBlock≠some k) w cs x∧(∀j u,cs[j]?=some u→w.cell? ⟨g,i*K.size+j,none⟩=some u∧w.frozen? ⟨g,i*K.size+j,none⟩=false):=by
 obtain⟨xs,ho,hx⟩:=h;obtain⟨c,c1,c2⟩:=hx i x hi;have hil:=(List.getElem?_eq_some_iff.1 hi).1;rcases ho.2 with⟨rfl,e⟩|⟨g,cap,cur,rfl,hbg,hg,hnc,hcm,hcs,htk⟩
 ·omega
 ·refine⟨g,cap,c,rfl,(Array.getElem?_eq_some_iff.1 hg).1,hnc,c1,fun j u hu=>⟨?_,?_⟩⟩
  ·have:=ho.cells (g:=g) rfl _ u (c2 j u hu);rw[Addr.add_lit] at this;simpa using this
  ·exact fG hg
theorem F6:∃i z,Tryz.prog.info? 85=some i∧i.zero=some z∧i.size=bP.size∧i.bytes=48∧z.cells.size=bP.size:=⟨Tryz.t85,.agg #[.bool false,.string ByteArray.empty,.slice none 0 0],by kernel_rfl,by kernel_rfl,by kernel_rfl,by kernel_rfl,by kernel_rfl⟩
set_option maxHeartbeats 1000000 in
theorem DF (l:List aF) (v:Value) (w:World) (h:bP.sl bU w v l) (hl:l.length≤1099511627776):
  Calls Tryz.prog 328 #[v] w fun e w'=>∃v',e=.returned v'∧bP.own 85 0 w' v' l∧(∀k,v'.ownBlock=some k→w.heap.size≤k)∧Below w.heap.size w w':=by
 obtain⟨a,cap,rfl⟩:=Kind.slice h;obtain⟨i,z,i1,i2,i3,i4,i5⟩:=F6;cases a with
 |none=>
  have hl0:l=[]:=by
   refine Classical.byContradiction fun hne=> ?_;obtain⟨_,a',cap',e,h1⟩:=h;simp only[Value.slice.injEq] at e;obtain⟨rfl,_,_⟩:=e;obtain⟨b,off,e,_⟩:=h1 hne;cases e
  subst hl0;have hnil:=fun w=>Lib.run_eql_slice_nil (P:=Tryz.prog) w 73 85 none 0 cap 0 0 Tryz.underlying73;clear h hl;simp only[List.length_nil]
  go_enter Tryz.func328,Tryz.ntmps328
  go_wp2;go_ret;exact⟨_,rfl,bP.iT _ _ _,fun k e=>(by cases e),Below.refl _ _⟩
 |some b=>
  have hnil:=fun w=>Lib.run_eql_slice_nil (P:=Tryz.prog) w 73 85 (some b) l.length cap 0 0 Tryz.underlying73;have h0:bP.own 85 0 (w.alloc (.cells #[] 85)) (.slice (some ⟨w.heap.size,0,none⟩) 0 0) []:=rW bP 85 w;have hs:bP.sl (fun k=>0≤k∧(Value.slice (some ⟨w.heap.size,0,none⟩) 0 0).ownBlock≠some k) (w.alloc (.cells #[] 85)) (.slice (some b) l.length cap) l:=
   Kind.aT (Kind.aX h fun k hk _=>⟨Nat.zero_le _,by simp[Value.ownBlock];omega⟩) (by simp) fun k hk _=>Below.heap_alloc w _ k hk
  obtain⟨v',w',hrun,hR,hg,hk⟩:=Kind.mE (P:=Tryz.prog) (e':=73) h0 Tryz.underlying73 i1 i2 i3 i4 i5 (by decide) (by decide) hs (by simpa using hl) (Nat.zero_le _) rfl;have HB:Hid (Below w.heap.size w w'):=(((Later.refl w).alloc (.cells #[] 85)).below).grown hg (by simp) (fun k e=>by simp[Value.ownBlock] at e;omega);have HK:Hid (∀k,v'.ownBlock=some k→w.heap.size≤k):=fun k e=>by
   rcases hk k e with h1|h1
   ·simp[Value.ownBlock] at h1;omega
   ·simp at h1;omega
  have HR:=hide hrun;have HF:=hide hR;clear hrun hR hg hk h0 hs h
  go_enter Tryz.func328,Tryz.ntmps328
  go_wp2_with (at_builtin;refine wpList_append_run rfl (.tmp 5) (.tmp 6) 73 rfl _ _ _ _ rfl rfl HR.out ?_)
  go_ret;exact⟨v',rfl,by simpa using HF.out,HK.out,HB.out⟩
theorem F7:∃i z,Tryz.prog.info? 187=some i∧i.zero=some z∧i.size=dn.size∧i.bytes=24∧z.cells.size=dn.size:=⟨Tryz.t187,.agg #[.bool false,.string ByteArray.empty],by kernel_rfl,by kernel_rfl,by kernel_rfl,by kernel_rfl,by kernel_rfl⟩
set_option maxHeartbeats 1000000 in
theorem DI (l:List cO) (v:Value) (w:World) (h:dn.sl bU w v l) (hl:l.length≤1099511627776):
  Calls Tryz.prog 329 #[v] w fun e w'=>∃v',e=.returned v'∧dn.own 187 0 w' v' l∧(∀k,v'.ownBlock=some k→w.heap.size≤k)∧Below w.heap.size w w':=by
 obtain⟨a,cap,rfl⟩:=Kind.slice h;obtain⟨i,z,i1,i2,i3,i4,i5⟩:=F7;cases a with
 |none=>
  have hl0:l=[]:=by
   refine Classical.byContradiction fun hne=> ?_;obtain⟨_,a',cap',e,h1⟩:=h;simp only[Value.slice.injEq] at e;obtain⟨rfl,_,_⟩:=e;obtain⟨b,off,e,_⟩:=h1 hne;cases e
  subst hl0;have hnil:=fun w=>Lib.run_eql_slice_nil (P:=Tryz.prog) w 83 187 none 0 cap 0 0 Tryz.underlying83;clear h hl;simp only[List.length_nil]
  go_enter Tryz.func329,Tryz.ntmps329
  go_wp2;go_ret;exact⟨_,rfl,dn.iT _ _ _,fun k e=>(by cases e),Below.refl _ _⟩
 |some b=>
  have hnil:=fun w=>Lib.run_eql_slice_nil (P:=Tryz.prog) w 83 187 (some b) l.length cap 0 0 Tryz.underlying83;have h0:dn.own 187 0 (w.alloc (.cells #[] 187)) (.slice (some ⟨w.heap.size,0,none⟩) 0 0) []:=rW dn 187 w;have hs:dn.sl (fun k=>0≤k∧(Value.slice (some ⟨w.heap.size,0,none⟩) 0 0).ownBlock≠some k) (w.alloc (.cells #[] 187)) (.slice (some b) l.length cap) l:=
   Kind.aT (Kind.aX h fun k hk _=>⟨Nat.zero_le _,by simp[Value.ownBlock];omega⟩) (by simp) fun k hk _=>Below.heap_alloc w _ k hk
  obtain⟨v',w',hrun,hR,hg,hk⟩:=Kind.mE (P:=Tryz.prog) (e':=83) h0 Tryz.underlying83 i1 i2 i3 i4 i5 (by decide) (by decide) hs (by simpa using hl) (Nat.zero_le _) rfl;have HB:Hid (Below w.heap.size w w'):=(((Later.refl w).alloc (.cells #[] 187)).below).grown hg (by simp) (fun k e=>by simp[Value.ownBlock] at e;omega);have HK:Hid (∀k,v'.ownBlock=some k→w.heap.size≤k):=fun k e=>by
   rcases hk k e with h1|h1
   ·simp[Value.ownBlock] at h1;omega
   ·simp at h1;omega
  have HR:=hide hrun;have HF:=hide hR;clear hrun hR hg hk h0 hs h
  go_enter Tryz.func329,Tryz.ntmps329
  go_wp2_with (at_builtin;refine wpList_append_run rfl (.tmp 5) (.tmp 6) 83 rfl _ _ _ _ rfl rfl HR.out ?_)
  go_ret;exact⟨v',rfl,by simpa using HF.out,HK.out,HB.out⟩
theorem IE:∃i z,Tryz.prog.info? 9=some i∧i.zero=some z∧i.size=bsK.size∧i.bytes=16∧z.cells.size=bsK.size:=⟨Tryz.t9,.string ByteArray.empty,by kernel_rfl,by kernel_rfl,by kernel_rfl,by kernel_rfl,by kernel_rfl⟩
end Go.Proofs.YtafmbokfkbccaaaGreatDoor
namespace Go.Proofs.YtafmbokfkbccaaaGreatDoor
open Go.RowKit Go.Sort
structure Hole (w:World) (v:Value) (n:Nat) (L:List aF) (j:Nat) (a:aF) (u:Value):Prop where
 row:∃xs,w.ownsRow 0 85 3 v n xs∧(∀t x,t≠j→L[t]?=some x→∃c,bP.is (fun k=>v.ownBlock≠some k∧u.ownBlock≠some k) w c x∧∀q z,c[q]?=some z→xs[t*3+q]?=some z)∧xs[j*3]?=some (.bool a.no)∧xs[j*3+1]?=some (.string (bs a.name))∧xs[j*3+2]?=some u
theorem pq {w w':World} {lo:Nat} {ty:TypeId} {sz n:Nat} {v:Value} {xs:List Value} (h:w.ownsRow lo ty sz v n xs) (hk:∀k,v.ownBlock=some k→w'.heap[k]?=w.heap[k]?):w'.ownsRow lo ty sz v n xs:=by
 refine⟨h.1,?_⟩;rcases h.2 with e|⟨g,cap,cur,rfl,hbg,hg,r⟩
 ·exact Or.inl e
 ·exact Or.inr ⟨g,cap,cur,rfl,hbg,by rw[hk g rfl];exact hg,r⟩
theorem Hole.kept {w w':World} {v u:Value} {n j:Nat} {L:List aF} {a:aF} (h:Hole w v n L j a u) (hs:w.heap.size≤w'.heap.size) (hk:∀k,k<w.heap.size→u.ownBlock≠some k→w'.heap[k]?=w.heap[k]?) (hv:∀k,v.ownBlock=some k→k<w.heap.size∧u.ownBlock≠some k):Hole w' v n L j a u:=by
 obtain⟨xs,h1,h2,h3,h4,h5⟩:=h.row;refine⟨xs,pq h1 (fun k e=>hk k (hv k e).1 (hv k e).2),fun t x ht hx=> ?_,h3,h4,h5⟩;obtain⟨c,c1,c2⟩:=h2 t x ht hx;exact⟨c,bP.kept c1 hs fun k hk' hB=>hk k hk' hB.2,c2⟩
theorem Hole.fill {w:World} {v u:Value} {L:List aF} {j:Nat} {a:aF} {ts:List cO} (h:Hole w v L.length L j a u) (hj:j<L.length) (ht:dn.sl (fun k=>v.ownBlock≠some k) w u ts):bP.own 85 0 w v (L.set j ⟨a.no,a.name,ts⟩):=by
 obtain⟨xs,h1,h2,h3,h4,h5⟩:=h.row;refine⟨xs,by rw[List.length_set];exact h1,fun t x hx=> ?_⟩
 by_cases e:t=j
 ·subst e;rw[List.getElem?_set_self hj] at hx;cases hx;refine⟨[.bool a.no,.string (bs a.name),u],⟨u,rfl,Kind.aX ht fun k _ hB=>⟨Nat.zero_le _,hB⟩⟩,fun q z hz=> ?_⟩;rcases q with _|_|_|q
  ·simp at hz;subst hz;exact h3
  ·simp at hz;subst hz;exact h4
  ·simp at hz;subst hz;exact h5
  ·simp at hz
 ·rw[List.getElem?_set_ne (fun h=>e h.symm)] at hx;obtain⟨c,c1,c2⟩:=h2 t x e hx;exact⟨c,bP.mono c1 fun k _ hB=>⟨Nat.zero_le _,hB.1⟩,c2⟩
theorem F8 {w0 w:World} {v u:Value} {g j:Nat} {L:List aF} {a:aF} (h:bP.own 85 0 w0 v L) (hs0:w0.heap.size≤w.heap.size) (hk0:∀k,k<w0.heap.size→w.heap[k]?=w0.heap[k]?) (hv:v.ownBlock=some g) (ha:L[j]?=some a) (hu:∀k,u.ownBlock=some k→w0.heap.size≤k):Hole (w.setCell ⟨g,j*3+2,none⟩ u) v L.length L j a u:=by
 obtain⟨xs,ho,hx⟩:=h;have hjl:=(List.getElem?_eq_some_iff.1 ha).1;rcases ho.2 with⟨rfl,e⟩|⟨g',cap,cur,rfl,hbg,hg,hnc,hcm,hcs,htk⟩
 ·omega
 ·obtain rfl:g'=g:=by simpa[Value.ownBlock] using hv
  obtain⟨c,⟨tv,rfl,_⟩,c2⟩:=hx j a ha;have hs3:bP.size=3:=rfl;rw[hs3] at c2;have hxl:j*3+2<xs.length:=(List.getElem?_eq_some_iff.1 (c2 2 _ rfl)).1;refine⟨xs.set (j*3+2) u,⟨by rw[List.length_set];exact ho.1,Or.inr ⟨g',cap,cur.setIfInBounds (j*3+2) u,rfl,hbg,dJ ((hk0 g' (Array.getElem?_eq_some_iff.1 hg).1).trans hg) u,hnc,hcm,by rw[Array.size_setIfInBounds];exact hcs,?_⟩⟩,fun t y ht hy=> ?_,?_,?_,?_⟩
  ·rw[Array.toList_setIfInBounds,List.take_set];exact congrArg (fun z=>z.set (j*3+2) u) htk
  ·obtain⟨d,d1,d2⟩:=hx t y hy;have hdl:=bP.len d1;rw[hs3] at d2;refine⟨d,?_,fun q z hz=> ?_⟩
   ·refine bP.kept (bP.mono d1 (B':=fun k=>(Value.slice (some ⟨g',0,none⟩) L.length cap).ownBlock≠some k∧u.ownBlock≠some k) fun k hk hB=>⟨hB.2,fun e=>by have:=hu k e;omega⟩) (by rw[size_setCell];exact hs0) fun k hk hB=>(heap_setCell_other _ _ _ (by intro e;exact hB.1 (by simp[Value.ownBlock];exact e.symm))).trans (hk0 k hk)
   ·have hq:q<3:=by have:=(List.getElem?_eq_some_iff.1 hz).1;rw[hdl] at this;exact this
    rw[List.getElem?_set_ne (by omega)];exact d2 q z hz
  ·rw[List.getElem?_set_ne (by omega)];exact c2 0 _ rfl
  ·rw[List.getElem?_set_ne (by omega)];exact c2 1 _ rfl
  ·rw[List.getElem?_set_self hxl]
theorem Hole.cell {w:World} {v u:Value} {n j:Nat} {L:List aF} {a:aF} (h:Hole w v n L j a u) {g cap:Nat} (hv:v=.slice (some ⟨g,0,none⟩) n cap):w.cell? ⟨g,j*3+2,none⟩=some u:=by
 obtain⟨xs,h1,_,_,_,h5⟩:=h.row;have:=h1.cells (g:=g) (by rw[hv];rfl) _ u h5;rw[Addr.add_lit] at this;simpa using this
theorem Ce {α:Type} {g:α→α} {l:List α} {j:Nat} {a:α} (h:l[j]?=some a):((l.take j).map g++l.drop j).set j (g a)=(l.take (j+1)).map g++l.drop (j+1):=by
 obtain⟨hi,e⟩:=List.getElem?_eq_some_iff.1 h;have hl:((l.take j).map g).length=j:=by rw[List.length_map,List.length_take];omega
 rw[List.set_append_right _ _ (by omega),hl,Nat.sub_self,List.drop_eq_getElem_cons hi,List.set_cons_zero,List.take_add_one,h,List.map_append,List.append_assoc]
 rfl
theorem Cg {α:Type} {g:α→α} {l:List α} {j:Nat} {a:α} (h:l[j]?=some a):((l.take j).map g++l.drop j)[j]?=some a:=by
 obtain⟨hi,e⟩:=List.getElem?_eq_some_iff.1 h;have hl:((l.take j).map g).length=j:=by rw[List.length_map,List.length_take];omega
 rw[List.getElem?_append_right (by omega),hl,Nat.sub_self,List.getElem?_drop,Nat.add_zero];exact h
theorem mF {α:Type} {g:α→α} {l:List α} {j:Nat}:((l.take j).map g++l.drop j).length=l.length:=by
 rw[List.length_append,List.length_map,List.length_take,List.length_drop];omega
end Go.Proofs.YtafmbokfkbccaaaGreatDoor
