import Derived.Test.YtafmbokfkbccaaaGreatDoorJB5
import Derived.Test.YtafmbokfkbccaaaGreatDoorJB24
namespace Go.Proofs.YtafmbokfkbccaaaGreatDoor
open Go.RowKit Go.Sort
theorem flat_get {size:Nat}:∀(cs:List (List Value)),(∀c∈cs,c.length=size)→∀i c j,cs[i]?=some c→j<size→cs.flatten[i*size+j]?=c[j]?
 |[],_,i,c,j,h,_=>by simp at h
 |d::cs,hl,i,c,j,h,hj=>by
  have hd:d.length=size:=hl d (by simp);cases i with
  |zero=>
   simp at h;subst h;rw[List.flatten_cons,Nat.zero_mul,Nat.zero_add,List.getElem?_append_left (by omega)]
  |succ i=>
   have ih:=flat_get cs (fun c hc=>hl c (by simp[hc])) i c j (by simpa using h) hj;rw[List.flatten_cons,List.getElem?_append_right (by rw[Nat.add_mul];omega),show(i+1)*size+j-d.length=i*size+j by rw[Nat.add_mul];omega];exact ih
theorem wD {size:Nat}:∀(cs:List (List Value)),(∀c∈cs,c.length=size)→cs.flatten.length=cs.length*size
 |[],_=>by simp
 |d::cs,hl=>by
  have:=wD cs (fun c hc=>hl c (by simp[hc]));have hd:d.length=size:=hl d (by simp);rw[List.flatten_cons,List.length_append,this,hd,List.length_cons,Nat.add_mul];omega
theorem Kind.vJ {α:Type} {K:Kind α} {B:Nat→Prop} {w:World} {a:Addr} {n cap:Nat} {m:List α} (h:K.sl B w (.slice (some a) n cap) m) (hsz:0<K.size):
  ∃cs:List (List Value),cs.length=m.length∧(∀c∈cs,c.length=K.size)∧(∀c∈cs,∀u∈c,u.oneCell'=true)∧(∀(j:Nat) (u:Value),cs.flatten[j]?=some u→w.cell? (a.add j)=some u)∧∀(i:Nat) (c:List Value) (x:α),cs[i]?=some c→m[i]?=some x→K.is B w c x:=by
 by_cases hm:m=[]
 ·subst hm;exact⟨[],rfl,by simp,by simp,by simp,fun i c x h=>by simp at h⟩
 obtain⟨_,a',cap',e,h1⟩:=h;simp only[Value.slice.injEq] at e;obtain⟨rfl,_,_⟩:=e;obtain⟨b,off,e,_,hb,hc⟩:=h1 hm;simp only[Option.some.injEq] at e;subst e;have key:∀i:Fin m.length,∃c,K.is B w c m[i.1]∧∀j u,c[j]?=some u→w.cell? ⟨b,off+i.1*K.size+j,none⟩=some u:=fun i=>hc i.1 _ (List.getElem?_eq_getElem i.2);have get:∀i,(List.ofFn fun i:Fin m.length=>Classical.choose (key i))[i]?=if h:i<m.length then some (Classical.choose (key ⟨i,h⟩)) else none:=fun i=>by rw[List.getElem?_ofFn]
 have hl:∀c∈List.ofFn fun i:Fin m.length=>Classical.choose (key i),c.length=K.size:=fun c hc=>by
  rw[List.mem_ofFn] at hc;obtain⟨i,rfl⟩:=hc;exact K.len (Classical.choose_spec (key i)).1
 refine⟨List.ofFn fun i:Fin m.length=>Classical.choose (key i),by simp,hl,fun c hc=> ?_,fun j u hu=> ?_,fun i c x hi hx=> ?_⟩
 ·rw[List.mem_ofFn] at hc;obtain⟨i,rfl⟩:=hc;exact K.one (Classical.choose_spec (key i)).1
 ·have hj:=(List.getElem?_eq_some_iff.1 hu).1;rw[wD _ hl,List.length_ofFn] at hj;have hq:j/K.size<m.length:=(Nat.div_lt_iff_lt_mul hsz).2 hj;have hr:j%K.size<K.size:=Nat.mod_lt _ hsz;have hjq:j/K.size*K.size+j%K.size=j:=by rw[Nat.mul_comm];exact Nat.div_add_mod j K.size
  have hg:=get (j/K.size);rw[dif_pos hq] at hg;have:=flat_get _ hl _ _ (j%K.size) hg hr;rw[hjq,hu] at this;have hcell:=(Classical.choose_spec (key ⟨j/K.size,hq⟩)).2 _ u this.symm;rw[Addr.add_lit];rw[show off+j/K.size*K.size+j%K.size=off+j by omega] at hcell;exact hcell
 ·rw[get] at hi;split at hi
  ·rename_i h;rw[List.getElem?_eq_getElem h] at hx;cases hi;cases hx;exact(Classical.choose_spec (key ⟨i,h⟩)).1
  ·cases hi
theorem Kind.rQ {α:Type} {P:Program} {K:Kind α} {t ty e':TypeId} {lo bytes:Nat} {w:World} {v:Value} {l m:List α} {a:Option Addr} {cap:Nat} (h:K.own ty lo w v l) {i:TypeInfo} {z:Value}
  (ht:P.underlying t=some (.slice ty)) (hi:P.info? ty=some i) (hz:i.zero=some z) (hsize:i.size=K.size) (hby:i.bytes=bytes) (hzs:z.cells.size=K.size) (hsz:0<K.size) (hb:bytes≤100)
  (hs:K.sl (fun k=>lo≤k∧v.ownBlock≠some k) w (.slice a m.length cap) m) (hl:l.length+m.length≤1099511627776) (hlo:lo≤w.heap.size) (_:e'=t):
  ∃v' w',(Builtin.append_ #[t,t] t #[v,.slice a m.length cap]).run P w=.ok v' w'∧K.own ty lo w' v' (l++m)∧w.grownBy w' v.ownBlock∧∀k,v'.ownBlock=some k→v.ownBlock=some k∨w.heap.size≤k:=by
 cases a with
 |none=>
  have hm:m=[]:=by
   refine Classical.byContradiction fun hne=> ?_;obtain⟨_,a',_,e,h1⟩:=hs;simp only[Value.slice.injEq] at e;obtain⟨b,off,e',_⟩:=h1 hne;rw[e'] at e;cases e.1
  subst hm;refine⟨v,w,?_,by rw[List.append_nil];exact h,⟨rfl,rfl,rfl,Nat.le_refl _,fun _ _ _=>rfl⟩,fun k hk=>Or.inl hk⟩;obtain⟨xs,ho,_⟩:=h;rcases ho.2 with⟨rfl,e0⟩|⟨g,c,cur,rfl,_,_,hnc,_⟩
  ·simp[Builtin.append_,run_underlying ht,sizeOf,typeInfo,hi,Builtin.lenOf,Builtin.firstCells]
  ·simp[Builtin.append_,run_underlying ht,sizeOf,typeInfo,hi,Builtin.lenOf,Builtin.firstCells,hnc,storeCells]
 |some a=>
  obtain⟨cs,cl,PU,TA,PV,cis⟩:=Kind.vJ hs hsz;obtain⟨xs,ho,hx⟩:=h;have hxl:xs.length=l.length*K.size:=ho.1;obtain⟨v',w',hrun,r1,r2,r3,r4⟩:=eT (P:=P) w lo t t ty i z K.size bytes ht hi hz hsize hby hzs hsz v l.length xs ho a m.length cap cs.flatten (by rw[wD _ PU,cl]) PV
   (fun u hu=>by rw[List.mem_flatten] at hu;obtain⟨c,hc,hu⟩:=hu;exact TA c hc u hu) (by simp only[maxLen];omega) (Nat.le_trans (Nat.mul_le_mul hl hb) (by omega)) hlo
  have own':∀k,k<w.heap.size→v'.ownBlock=some k→v.ownBlock=some k:=fun k hk e=>(r4 k e).elim id fun h=>by omega
  have keep:∀k,k<w.heap.size→(lo≤k∧v.ownBlock≠some k)→w'.heap[k]?=w.heap[k]?:=fun k hk hB=>r2.block k hk (fun e=>hB.2 e.symm);have move:∀{c:List Value} {y:α},K.is (fun k=>lo≤k∧v.ownBlock≠some k) w c y→K.is (fun k=>lo≤k∧v'.ownBlock≠some k) w' c y:=fun {c y} hy=>
   K.kept (K.mono hy fun k hk hB=>(⟨⟨hB.1,fun e=>hB.2 (own' k hk e)⟩,hB⟩:(lo≤k∧v'.ownBlock≠some k)∧(lo≤k∧v.ownBlock≠some k))) r2.size (fun k hk hB=>keep k hk hB.2) |> fun h=>K.mono h fun _ _ hB=>hB.1
  refine⟨v',w',hrun,⟨xs++cs.flatten,by rw[List.length_append];exact r1,fun j y hj=> ?_⟩,r2,r4⟩
  by_cases hjl:j<l.length
  ·rw[List.getElem?_append_left hjl] at hj;obtain⟨d,d1,d2⟩:=hx j y hj;refine⟨d,move d1,fun q u hu=> ?_⟩;have:=d2 q u hu;rw[List.getElem?_append_left (List.getElem?_eq_some_iff.1 this).1];exact this
  ·rw[List.getElem?_append_right (by omega)] at hj;have hjm:=(List.getElem?_eq_some_iff.1 hj).1;have hc:cs[j-l.length]?=some (cs[j-l.length]'(by omega)):=List.getElem?_eq_getElem (by omega);refine⟨_,move (cis _ _ y hc hj),fun q u hu=> ?_⟩;have hq:q<K.size:=by rw[←PU _ (List.getElem_mem (by omega:j-l.length<cs.length))];exact(List.getElem?_eq_some_iff.1 hu).1
   have:=flat_get cs PU _ _ q hc hq;rw[List.getElem?_append_right (by rw[hxl];have:=Nat.mul_le_mul_right K.size (Nat.le_of_not_lt hjl);omega),hxl,
    show j*K.size+q-l.length*K.size=(j-l.length)*K.size+q by rw[Nat.sub_mul];have:=Nat.mul_le_mul_right K.size (Nat.le_of_not_lt hjl);omega,this]
   exact hu
end Go.Proofs.YtafmbokfkbccaaaGreatDoor
namespace Go.Proofs.YtafmbokfkbccaaaGreatDoor
open Go.RowKit Go.Sort
theorem rR {α:Type} (K:Kind α) (ty:TypeId) (w:World):K.own ty 0 (w.alloc (.cells #[] ty)) (.slice (some ⟨w.heap.size,0,none⟩) 0 0) []:=
 ⟨[],⟨by simp,Or.inr ⟨w.heap.size,0,#[],rfl,Nat.zero_le _,heap_alloc_new _ _,by simp,by simp[maxLen],by simp,by simp⟩⟩,fun i x hi=>by simp at hi⟩
theorem Gd {α:Type} {K:Kind α} {ty:TypeId} {lo g i q:Nat} {w:World} {v u:Value} {l:List α} {x x':α} (h:K.own ty lo w v l) (hv:v.ownBlock=some g) (hi:l[i]?=some x) (hq:q<K.size)
  (hset:∀c,K.is (fun k=>lo≤k∧v.ownBlock≠some k) w c x→K.is (fun k=>lo≤k∧v.ownBlock≠some k) w (c.set q u) x'):K.own ty lo (w.setCell ⟨g,i*K.size+q,none⟩ u) v (l.set i x'):=by
 obtain⟨xs,ho,hx⟩:=h;have hil:=(List.getElem?_eq_some_iff.1 hi).1;rcases ho.2 with⟨rfl,e⟩|⟨g',cap,cur,rfl,hbg,hg,hnc,hcm,hcs,htk⟩
 ·omega
 ·obtain rfl:g'=g:=by simpa[Value.ownBlock] using hv
  have hkept:∀{c:List Value} {y:α},K.is (fun k=>lo≤k∧(Value.slice (some ⟨g',0,none⟩) l.length cap).ownBlock≠some k) w c y→K.is (fun k=>lo≤k∧(Value.slice (some ⟨g',0,none⟩) l.length cap).ownBlock≠some k) (w.setCell ⟨g',i*K.size+q,none⟩ u) c y:=fun {c y} hc=>
   K.kept hc (by rw[size_setCell];exact Nat.le_refl _) fun k _ hB=>heap_setCell_other _ _ _ (by intro e;exact hB.2 (by simp[Value.ownBlock];exact e.symm))
  refine⟨xs.set (i*K.size+q) u,⟨by rw[List.length_set,List.length_set];exact ho.1,Or.inr ⟨g',cap,cur.setIfInBounds (i*K.size+q) u,by rw[List.length_set],hbg,dY hg u,by rw[List.length_set];exact hnc,hcm,by rw[Array.size_setIfInBounds];exact hcs,?_⟩⟩,fun t y ht=> ?_⟩
  ·rw[List.length_set,Array.toList_setIfInBounds,List.take_set,htk]
  ·by_cases e:t=i
   ·subst e;rw[List.getElem?_set_self (by omega)] at ht;cases ht;obtain⟨c,c1,c2⟩:=hx t x hi;have hcl:=K.len c1;refine⟨c.set q u,hkept (hset c c1),fun j z hz=> ?_⟩;have hxl:t*K.size+q<xs.length:=by
     have h1:=c2 q (c[q]'(by omega)) (List.getElem?_eq_getElem (by omega));exact(List.getElem?_eq_some_iff.1 h1).1
    by_cases ej:j=q
    ·subst ej;rw[List.getElem?_set_self (by omega)] at hz;rw[List.getElem?_set_self hxl];exact hz
    ·rw[List.getElem?_set_ne (by omega)] at hz;rw[List.getElem?_set_ne (by omega)];exact c2 j z hz
   ·rw[List.getElem?_set_ne (fun h=>e h.symm)] at ht;obtain⟨c,c1,c2⟩:=hx t y ht;have hcl:=K.len c1;refine⟨c,hkept c1,fun j z hz=> ?_⟩;have hj:j<K.size:=by rw[←hcl];exact(List.getElem?_eq_some_iff.1 hz).1
    have hne:i*K.size+q≠t*K.size+j:=fun he=>by
     rcases Nat.lt_or_gt_of_ne e with h1|h1
     ·have:=Nat.mul_le_mul_right K.size (show t+1≤i from h1);rw[Nat.add_mul] at this;omega
     ·have:=Nat.mul_le_mul_right K.size (show i+1≤t from h1);rw[Nat.add_mul] at this;omega
    rw[List.getElem?_set_ne hne];exact c2 j z hz
theorem dO {w:World} {g j:Nat} {cs:Array Value} {t:TypeId} (h:w.heap[g]?=some (.cells cs t (0,0))):w.frozen? ⟨g,j,none⟩=false:=by simp[World.frozen?,h]
theorem Gf {α:Type} {K:Kind α} {ty:TypeId} {lo:Nat} {w:World} {v:Value} {l:List α} {i:Nat} {x:α} (h:K.own ty lo w v l) (hi:l[i]?=some x):∃g cap cs,v=.slice (some ⟨g,0,none⟩) l.length cap∧g<w.heap.size∧l.length≤cap∧K.is (fun k=>lo≤k∧v.ownBlock≠some k) w cs x∧(∀j u,cs[j]?=some u→w.cell? ⟨g,i*K.size+j,none⟩=some u∧w.frozen? ⟨g,i*K.size+j,none⟩=false):=by
 obtain⟨xs,ho,hx⟩:=h;obtain⟨c,c1,c2⟩:=hx i x hi;have hil:=(List.getElem?_eq_some_iff.1 hi).1;rcases ho.2 with⟨rfl,e⟩|⟨g,cap,cur,rfl,hbg,hg,hnc,hcm,hcs,htk⟩
 ·omega
 ·refine⟨g,cap,c,rfl,(Array.getElem?_eq_some_iff.1 hg).1,hnc,c1,fun j u hu=>⟨?_,?_⟩⟩
  ·have:=ho.cells (g:=g) rfl _ u (c2 j u hu);rw[Addr.add_lit] at this;simpa using this
  ·exact dO hg
theorem Gg:∃i z,Tryz.prog.info? 85=some i∧i.zero=some z∧i.size=bN.size∧i.bytes=48∧z.cells.size=bN.size:=⟨Tryz.t85,.agg #[.bool false,.string ByteArray.empty,.slice none 0 0],by kernel_rfl,by kernel_rfl,by kernel_rfl,by kernel_rfl,by kernel_rfl⟩
set_option maxHeartbeats 1000000 in
theorem DC (l:List aF) (v:Value) (w:World) (h:bN.sl bJ w v l) (hl:l.length≤1099511627776):
  Calls Tryz.prog 328 #[v] w fun e w'=>∃v',e=.returned v'∧bN.own 85 0 w' v' l∧(∀k,v'.ownBlock=some k→w.heap.size≤k)∧Below w.heap.size w w':=by
 obtain⟨a,cap,rfl⟩:=Kind.slice h;obtain⟨i,z,i1,i2,i3,i4,i5⟩:=Gg;cases a with
 |none=>
  have hl0:l=[]:=by
   refine Classical.byContradiction fun hne=> ?_;obtain⟨_,a',cap',e,h1⟩:=h;simp only[Value.slice.injEq] at e;obtain⟨rfl,_,_⟩:=e;obtain⟨b,off,e,_⟩:=h1 hne;cases e
  subst hl0;have hnil:=fun w=>Lib.run_eql_slice_nil (P:=Tryz.prog) w 73 85 none 0 cap 0 0 Tryz.underlying73;clear h hl;simp only[List.length_nil]
  go_enter Tryz.func328,Tryz.ntmps328
  go_wp2;go_ret;exact⟨_,rfl,bN.jg _ _ _,fun k e=>(by cases e),Below.refl _ _⟩
 |some b=>
  have hnil:=fun w=>Lib.run_eql_slice_nil (P:=Tryz.prog) w 73 85 (some b) l.length cap 0 0 Tryz.underlying73;have h0:bN.own 85 0 (w.alloc (.cells #[] 85)) (.slice (some ⟨w.heap.size,0,none⟩) 0 0) []:=rR bN 85 w;have hs:bN.sl (fun k=>0≤k∧(Value.slice (some ⟨w.heap.size,0,none⟩) 0 0).ownBlock≠some k) (w.alloc (.cells #[] 85)) (.slice (some b) l.length cap) l:=
   Kind.aT (Kind.aW h fun k hk _=>⟨Nat.zero_le _,by simp[Value.ownBlock];omega⟩) (by simp) fun k hk _=>Below.heap_alloc w _ k hk
  obtain⟨v',w',hrun,hR,hg,hk⟩:=Kind.rQ (P:=Tryz.prog) (e':=73) h0 Tryz.underlying73 i1 i2 i3 i4 i5 (by decide) (by decide) hs (by simpa using hl) (Nat.zero_le _) rfl;have HB:Hid (Below w.heap.size w w'):=(((Later.refl w).alloc (.cells #[] 85)).below).grown hg (by simp) (fun k e=>by simp[Value.ownBlock] at e;omega);have HK:Hid (∀k,v'.ownBlock=some k→w.heap.size≤k):=fun k e=>by
   rcases hk k e with h1|h1
   ·simp[Value.ownBlock] at h1;omega
   ·simp at h1;omega
  have HR:=hide hrun;have HF:=hide hR;clear hrun hR hg hk h0 hs h
  go_enter Tryz.func328,Tryz.ntmps328
  go_wp2_with (at_builtin;refine wpList_append_run rfl (.tmp 5) (.tmp 6) 73 rfl _ _ _ _ rfl rfl HR.out ?_)
  go_ret;exact⟨v',rfl,by simpa using HF.out,HK.out,HB.out⟩
theorem Gh:∃i z,Tryz.prog.info? 187=some i∧i.zero=some z∧i.size=dn.size∧i.bytes=24∧z.cells.size=dn.size:=⟨Tryz.t187,.agg #[.bool false,.string ByteArray.empty],by kernel_rfl,by kernel_rfl,by kernel_rfl,by kernel_rfl,by kernel_rfl⟩
set_option maxHeartbeats 1000000 in
theorem DF (l:List dh) (v:Value) (w:World) (h:dn.sl bJ w v l) (hl:l.length≤1099511627776):
  Calls Tryz.prog 329 #[v] w fun e w'=>∃v',e=.returned v'∧dn.own 187 0 w' v' l∧(∀k,v'.ownBlock=some k→w.heap.size≤k)∧Below w.heap.size w w':=by
 obtain⟨a,cap,rfl⟩:=Kind.slice h;obtain⟨i,z,i1,i2,i3,i4,i5⟩:=Gh;cases a with
 |none=>
  have hl0:l=[]:=by
   refine Classical.byContradiction fun hne=> ?_;obtain⟨_,a',cap',e,h1⟩:=h;simp only[Value.slice.injEq] at e;obtain⟨rfl,_,_⟩:=e;obtain⟨b,off,e,_⟩:=h1 hne;cases e
  subst hl0;have hnil:=fun w=>Lib.run_eql_slice_nil (P:=Tryz.prog) w 83 187 none 0 cap 0 0 Tryz.underlying83;clear h hl;simp only[List.length_nil]
  go_enter Tryz.func329,Tryz.ntmps329
  go_wp2;go_ret;exact⟨_,rfl,dn.jg _ _ _,fun k e=>(by cases e),Below.refl _ _⟩
 |some b=>
  have hnil:=fun w=>Lib.run_eql_slice_nil (P:=Tryz.prog) w 83 187 (some b) l.length cap 0 0 Tryz.underlying83;have h0:dn.own 187 0 (w.alloc (.cells #[] 187)) (.slice (some ⟨w.heap.size,0,none⟩) 0 0) []:=rR dn 187 w;have hs:dn.sl (fun k=>0≤k∧(Value.slice (some ⟨w.heap.size,0,none⟩) 0 0).ownBlock≠some k) (w.alloc (.cells #[] 187)) (.slice (some b) l.length cap) l:=
   Kind.aT (Kind.aW h fun k hk _=>⟨Nat.zero_le _,by simp[Value.ownBlock];omega⟩) (by simp) fun k hk _=>Below.heap_alloc w _ k hk
  obtain⟨v',w',hrun,hR,hg,hk⟩:=Kind.rQ (P:=Tryz.prog) (e':=83) h0 Tryz.underlying83 i1 i2 i3 i4 i5 (by decide) (by decide) hs (by simpa using hl) (Nat.zero_le _) rfl;have HB:Hid (Below w.heap.size w w'):=(((Later.refl w).alloc (.cells #[] 187)).below).grown hg (by simp) (fun k e=>by simp[Value.ownBlock] at e;omega);have HK:Hid (∀k,v'.ownBlock=some k→w.heap.size≤k):=fun k e=>by
   rcases hk k e with h1|h1
   ·simp[Value.ownBlock] at h1;omega
   ·simp at h1;omega
  have HR:=hide hrun;have HF:=hide hR;clear hrun hR hg hk h0 hs h
  go_enter Tryz.func329,Tryz.ntmps329
  go_wp2_with (at_builtin;refine wpList_append_run rfl (.tmp 5) (.tmp 6) 83 rfl _ _ _ _ rfl rfl HR.out ?_)
  go_ret;exact⟨v',rfl,by simpa using HF.out,HK.out,HB.out⟩
theorem I7:∃i z,Tryz.prog.info? 9=some i∧i.zero=some z∧i.size=bsK.size∧i.bytes=16∧z.cells.size=bsK.size:=⟨Tryz.t9,.string ByteArray.empty,by kernel_rfl,by kernel_rfl,by kernel_rfl,by kernel_rfl,by kernel_rfl⟩
end Go.Proofs.YtafmbokfkbccaaaGreatDoor
namespace Go.Proofs.YtafmbokfkbccaaaGreatDoor
open Go.RowKit Go.Sort
structure Hole (w:World) (v:Value) (n:Nat) (L:List aF) (j:Nat) (a:aF) (u:Value):Prop where
 row:∃xs,w.ownsRow 0 85 3 v n xs∧(∀t x,t≠j→L[t]?=some x→∃c,bN.is (fun k=>v.ownBlock≠some k∧u.ownBlock≠some k) w c x∧∀q z,c[q]?=some z→xs[t*3+q]?=some z)∧xs[j*3]?=some (.bool a.no)∧xs[j*3+1]?=some (.string (bs a.name))∧xs[j*3+2]?=some u
theorem oV {w w':World} {lo:Nat} {ty:TypeId} {sz n:Nat} {v:Value} {xs:List Value} (h:w.ownsRow lo ty sz v n xs) (hk:∀k,v.ownBlock=some k→w'.heap[k]?=w.heap[k]?):w'.ownsRow lo ty sz v n xs:=by
 refine⟨h.1,?_⟩;rcases h.2 with e|⟨g,cap,cur,rfl,hbg,hg,r⟩
 ·exact Or.inl e
 ·exact Or.inr ⟨g,cap,cur,rfl,hbg,by rw[hk g rfl];exact hg,r⟩
theorem Hole.kept {w w':World} {v u:Value} {n j:Nat} {L:List aF} {a:aF} (h:Hole w v n L j a u) (hs:w.heap.size≤w'.heap.size) (hk:∀k,k<w.heap.size→u.ownBlock≠some k→w'.heap[k]?=w.heap[k]?) (hv:∀k,v.ownBlock=some k→k<w.heap.size∧u.ownBlock≠some k):Hole w' v n L j a u:=by
 obtain⟨xs,h1,h2,h3,h4,h5⟩:=h.row;refine⟨xs,oV h1 (fun k e=>hk k (hv k e).1 (hv k e).2),fun t x ht hx=> ?_,h3,h4,h5⟩;obtain⟨c,c1,c2⟩:=h2 t x ht hx;exact⟨c,bN.kept c1 hs fun k hk' hB=>hk k hk' hB.2,c2⟩
theorem Hole.fill {w:World} {v u:Value} {L:List aF} {j:Nat} {a:aF} {ts:List dh} (h:Hole w v L.length L j a u) (hj:j<L.length) (ht:dn.sl (fun k=>v.ownBlock≠some k) w u ts):bN.own 85 0 w v (L.set j ⟨a.no,a.name,ts⟩):=by
 obtain⟨xs,h1,h2,h3,h4,h5⟩:=h.row;refine⟨xs,by rw[List.length_set];exact h1,fun t x hx=> ?_⟩
 by_cases e:t=j
 ·subst e;rw[List.getElem?_set_self hj] at hx;cases hx;refine⟨[.bool a.no,.string (bs a.name),u],⟨u,rfl,Kind.aW ht fun k _ hB=>⟨Nat.zero_le _,hB⟩⟩,fun q z hz=> ?_⟩;rcases q with _|_|_|q
  ·simp at hz;subst hz;exact h3
  ·simp at hz;subst hz;exact h4
  ·simp at hz;subst hz;exact h5
  ·simp at hz
 ·rw[List.getElem?_set_ne (fun h=>e h.symm)] at hx;obtain⟨c,c1,c2⟩:=h2 t x e hx;exact⟨c,bN.mono c1 fun k _ hB=>⟨Nat.zero_le _,hB.1⟩,c2⟩
theorem Gi {w0 w:World} {v u:Value} {g j:Nat} {L:List aF} {a:aF} (h:bN.own 85 0 w0 v L) (hs0:w0.heap.size≤w.heap.size) (hk0:∀k,k<w0.heap.size→w.heap[k]?=w0.heap[k]?) (hv:v.ownBlock=some g) (ha:L[j]?=some a) (hu:∀k,u.ownBlock=some k→w0.heap.size≤k):Hole (w.setCell ⟨g,j*3+2,none⟩ u) v L.length L j a u:=by
 obtain⟨xs,ho,hx⟩:=h;have hjl:=(List.getElem?_eq_some_iff.1 ha).1;rcases ho.2 with⟨rfl,e⟩|⟨g',cap,cur,rfl,hbg,hg,hnc,hcm,hcs,htk⟩
 ·omega
 ·obtain rfl:g'=g:=by simpa[Value.ownBlock] using hv
  obtain⟨c,⟨tv,rfl,_⟩,c2⟩:=hx j a ha;have hs3:bN.size=3:=rfl;rw[hs3] at c2;have hxl:j*3+2<xs.length:=(List.getElem?_eq_some_iff.1 (c2 2 _ rfl)).1;refine⟨xs.set (j*3+2) u,⟨by rw[List.length_set];exact ho.1,Or.inr ⟨g',cap,cur.setIfInBounds (j*3+2) u,rfl,hbg,dY ((hk0 g' (Array.getElem?_eq_some_iff.1 hg).1).trans hg) u,hnc,hcm,by rw[Array.size_setIfInBounds];exact hcs,?_⟩⟩,fun t y ht hy=> ?_,?_,?_,?_⟩
  ·rw[Array.toList_setIfInBounds,List.take_set];exact congrArg (fun z=>z.set (j*3+2) u) htk
  ·obtain⟨d,d1,d2⟩:=hx t y hy;have hdl:=bN.len d1;rw[hs3] at d2;refine⟨d,?_,fun q z hz=> ?_⟩
   ·refine bN.kept (bN.mono d1 (B':=fun k=>(Value.slice (some ⟨g',0,none⟩) L.length cap).ownBlock≠some k∧u.ownBlock≠some k) fun k hk hB=>⟨hB.2,fun e=>by have:=hu k e;omega⟩) (by rw[size_setCell];exact hs0) fun k hk hB=>(heap_setCell_other _ _ _ (by intro e;exact hB.1 (by simp[Value.ownBlock];exact e.symm))).trans (hk0 k hk)
   ·have hq:q<3:=by have:=(List.getElem?_eq_some_iff.1 hz).1;rw[hdl] at this;exact this
    rw[List.getElem?_set_ne (by omega)];exact d2 q z hz
  ·rw[List.getElem?_set_ne (by omega)];exact c2 0 _ rfl
  ·rw[List.getElem?_set_ne (by omega)];exact c2 1 _ rfl
  ·rw[List.getElem?_set_self hxl]
theorem Hole.cell {w:World} {v u:Value} {n j:Nat} {L:List aF} {a:aF} (h:Hole w v n L j a u) {g cap:Nat} (hv:v=.slice (some ⟨g,0,none⟩) n cap):w.cell? ⟨g,j*3+2,none⟩=some u:=by
 obtain⟨xs,h1,_,_,_,h5⟩:=h.row;have:=h1.cells (g:=g) (by rw[hv];rfl) _ u h5;rw[Addr.add_lit] at this;simpa using this
theorem BQ {α:Type} {g:α→α} {l:List α} {j:Nat} {a:α} (h:l[j]?=some a):((l.take j).map g++l.drop j).set j (g a)=(l.take (j+1)).map g++l.drop (j+1):=by
 obtain⟨hi,e⟩:=List.getElem?_eq_some_iff.1 h;have hl:((l.take j).map g).length=j:=by rw[List.length_map,List.length_take];omega
 rw[List.set_append_right _ _ (by omega),hl,Nat.sub_self,List.drop_eq_getElem_cons hi,List.set_cons_zero,List.take_add_one,h,List.map_append,List.append_assoc]
 rfl
theorem BR {α:Type} {g:α→α} {l:List α} {j:Nat} {a:α} (h:l[j]?=some a):((l.take j).map g++l.drop j)[j]?=some a:=by
 obtain⟨hi,e⟩:=List.getElem?_eq_some_iff.1 h;have hl:((l.take j).map g).length=j:=by rw[List.length_map,List.length_take];omega
 rw[List.getElem?_append_right (by omega),hl,Nat.sub_self,List.getElem?_drop,Nat.add_zero];exact h
theorem mh {α:Type} {g:α→α} {l:List α} {j:Nat}:((l.take j).map g++l.drop j).length=l.length:=by
 rw[List.length_append,List.length_map,List.length_take,List.length_drop];omega
end Go.Proofs.YtafmbokfkbccaaaGreatDoor
namespace Go.Proofs.YtafmbokfkbccaaaGreatDoor
open Go.RowKit Go.Sort
theorem Lg {ty:TypeId} {lo:Nat} {w:World} {v:Value} {l:List dh} (h:dn.own ty lo w v l) (hl:l.length≤8796093022208):dn.sl (jD v) w v l:=by
 obtain⟨xs,ho,hx⟩:=h;rcases ho.2 with⟨rfl,e⟩|⟨g,cap,cur,rfl,hbg,hg,hnc,_⟩
 ·have:l=[]:=List.eq_nil_of_length_eq_zero e;subst this;exact dn.gF _ _ _ _
 ·refine⟨⟨hl,hnc⟩,_,cap,rfl,fun _=>⟨g,0,rfl,rfl,(Array.getElem?_eq_some_iff.1 hg).1,fun i x hi=> ?_⟩⟩;obtain⟨c,c1,c2⟩:=hx i x hi;refine⟨c,c1,fun j u hu=> ?_⟩;have:=ho.cells (g:=g) rfl _ u (c2 j u hu);rw[Addr.add_lit] at this;rw[Nat.add_assoc];exact this
theorem Gj {α:Type} {l:List α} {i:Nat} {x:α} (h:l[i]?=some x):l.set i x=l:=by
 obtain⟨hi,e⟩:=List.getElem?_eq_some_iff.1 h;rw[←e];exact List.set_getElem_self hi
set_option maxRecDepth 100000 in
set_option maxHeartbeats 8000000 in
theorem Nv (b:List aC) (body:List aF) (bv lv:Value) (w:World) (hb:bN.sl bJ w bv body) (hl:bA.sl bJ w lv b) (h5:body.length≤1000) (h4:∀a∈body,a.terms.length≤1000):
  Calls Tryz.prog 291 #[bv,lv] w fun e w'=>∃v',e=.returned v'∧bN.sl bJ w' v' (dS b body)∧Below w.heap.size w w':=by
 have HCl:=hide (DC body bv w hb (by omega));obtain⟨ba,bc,rfl⟩:=Kind.slice hb;obtain⟨la,lc,rfl⟩:=Kind.slice hl;have HB:=hide hb;have HL:=hide hl;have H4:=hide h4;clear hb hl h4
 go_enter Tryz.func291,Tryz.ntmps291
 go_wp2_with fail
 refine HCl.out.mono ?_;rintro e w1 ⟨v1,rfl,hO1,hk1,hB1⟩;have HK1:=hide hk1;have HO1:=hide hO1;have HB1:=hide hB1;obtain⟨va,vn,vc,rfl⟩:∃a n c,v1=.slice a n c:=by obtain⟨a,c,e⟩:=Kind.dI hO1;exact⟨a,_,c,e⟩
 clear hO1 hk1 hB1 HCl;go_wp2
 go_loopg [16] body.length (fun g i wr=>∃j:Nat,j+g=body.length∧i=.int .i64 j∧Hid (bN.own 85 0 wr (.slice va vn vc) ((body.take j).map (eH b)++body.drop j))∧Hid (Below w.heap.size w wr))
 case atStart=>exact⟨0,by omega,rfl,(by rw[List.take_zero,List.drop_zero];exact HO1.out:Kind.own _ _ _ _ _ _),HB1⟩
 case round=>
  clear HO1 HB1;obtain⟨j,hj,rfl,HO,HW⟩:=hrel
  by_cases hlt:j<body.length
  ·obtain⟨a,ha⟩:∃a,body[j]?=some a:=⟨_,List.getElem?_eq_getElem hlt⟩;obtain⟨b1,o1,_,e1,hb1,⟨xv,hce,htv⟩,hc⟩:=Kind.fP HB.out ha;subst e1;subst hce;have d0:wr.cell? ⟨b1,o1+j*3,none⟩=some (.bool a.no):=by rw[HW.out.cell (p:=⟨b1,o1+j*3,none⟩) hb1];simpa[bN] using hc 0 _ rfl
   have d1:wr.cell? ⟨b1,o1+j*3+1,none⟩=some (.string (bs a.name)):=by rw[HW.out.cell (p:=⟨b1,o1+j*3+1,none⟩) hb1];simpa[bN] using hc 1 _ rfl
   have d2:wr.cell? ⟨b1,o1+j*3+2,none⟩=some xv:=by rw[HW.out.cell (p:=⟨b1,o1+j*3+2,none⟩) hb1];simpa[bN] using hc 2 _ rfl
   obtain⟨xa,xc,rfl⟩:=Kind.slice htv;have hat:=H4.out a (List.mem_of_getElem? ha);have Q7:=BR (g:=eH b) ha;obtain⟨g,Uy,cs,hve,hgw,hgc,_,hrow⟩:=Gf HO.out Q7;rw[mh] at hve hgc;simp only[Value.slice.injEq] at hve;obtain⟨rfl,rfl,rfl⟩:=hve;obtain⟨wa,hwa⟩:∃wa,wa=wr.alloc (.cells #[.bool a.no,.string (bs a.name),.slice xa a.terms.length xc] 85):=⟨_,rfl⟩;have hLa:Later wr wa:=by rw[hwa];exact(Later.refl wr).alloc _
   have hRa:wa.heap[wr.heap.size]?=some (.cells #[.bool a.no,.string (bs a.name),.slice xa a.terms.length xc] 85 (0,0)):=by rw[hwa];exact heap_alloc_new wr _
   obtain⟨c0,c1,c2,hla⟩:=EX hRa;have hBa:=ak HW.out hLa.below HW.out.size;have HCt:=hide (DF a.terms (.slice xa a.terms.length xc) wa (Kind.aR htv hBa) (by omega));have HTv:=hide htv;have HBa:=hide hBa;have HLa:=hide hLa;have HWa:=hide hwa;have HRa:=hide hRa;have HA:=hide ha;have Q0:=HW.out.size;clear hc ha htv hwa hLa hRa hBa hrow Q7
   go_wp2_with (first|(rw[←HWa.out])|fail)
   refine HCt.out.mono ?_;rintro e w2 ⟨v2,rfl,hO2,hk2,hB2⟩;have L9:Below wr.heap.size wr w2:=ak HLa.out.below hB2 HLa.out.size;have Q8:=Kind.jA HO.out L9.size fun k hk _=>L9.block k hk;obtain⟨g',TB,cs',hve,Uz,_,hcs',hrow'⟩:=Gf Q8 (BR (g:=eH b) HA.out);simp only[Value.slice.injEq,Option.some.injEq,Addr.mk.injEq] at hve;obtain⟨⟨rfl,-,-⟩,-,-⟩:=hve;obtain⟨tv',rfl,_⟩:=hcs';obtain⟨k2,fz2⟩:=hrow' 2 _ rfl;have k2:w2.cell? ⟨g,j*3+2,none⟩=some tv':=k2;have fz2:w2.frozen? ⟨g,j*3+2,none⟩=false:=fz2;have hsa:=hB2.size;have hsr:=HLa.out.size;obtain⟨w3,hw3⟩:∃w3,w3=w2.setCell ⟨g,j*3+2,none⟩ v2:=⟨_,rfl⟩;have hH3:Hole w3 (.slice (some ⟨g,0,none⟩) body.length vc) body.length ((body.take j).map (eH b)++body.drop j) j a v2:=by
    have:=Gi (u:=v2) HO.out L9.size (fun k hk=>L9.block k hk) rfl (BR (g:=eH b) HA.out) fun k hk=>by have:=hk2 k hk;omega
    rw[mh] at this;rw[hw3];exact this
   have hT3:Tn g w2 w3:=by rw[hw3];exact Tn.setCell (p:=g) (Tn.refl _ _) (x:=⟨g,j*3+2,none⟩) (Or.inl rfl) _
   have hO3:dn.own 187 0 w3 v2 ((a.terms.take 0).map (dD b)++a.terms.drop 0):=by
    rw[List.take_zero,List.map_nil,List.nil_append,List.drop_zero];obtain⟨xs,hown,hx⟩:=hO2;exact⟨xs,oV hown fun k hk=>hT3.block k (hown.lt k hk).2 (by have:=hk2 k hk;omega),hx⟩
   have hgl:w.heap.size≤g:=HK1.out g rfl;have hB3:Below w.heap.size w w3:=ak (ak HW.out L9 HW.out.size) (hT3.below hgl (by omega)) (Nat.le_refl _);have Q9:=(hT3.block _ (by omega) (by omega)).trans ((hB2.block _ hla).trans HRa.out);have r2:w3.cell? ⟨wr.heap.size,2,none⟩=some (.slice xa a.terms.length xc):=by rw[cell_of_row _ _ _ _ _ _ Q9];rfl
   obtain⟨ua,un,uc,rfl⟩:∃a n c,v2=.slice a n c:=by obtain⟨a,c,e⟩:=Kind.dI hO2;exact⟨a,_,c,e⟩
   have HH3:=hide hH3;have HO3:=hide hO3;have HB3:=hide hB3;have HW3:=hide hw3;have HK2:Hid (∀k,(Value.slice ua un uc).ownBlock=some k→wa.heap.size≤k):=hk2;have hs3:=hT3.size;have hjb:(j:Int)<(body.length:Int):=by omega
   have hj0:(0:Int)≤(j:Int):=by omega
   clear hO2 hk2 hB2 L9 Q8 hrow' hw3 hH3 hO3 hB3 hT3 Q9 HCt HO HW d0 d1 d2 c0 c1 HBa HRa
   go_wp2_with (rw[←HW3.out])
   clear r2 k2 fz2 c2 HW3
   go_loopg [31] a.terms.length (fun q i wr=>∃k:Nat,k+q=a.terms.length∧i=.int .i64 k∧Hid (dn.own 187 0 wr (.slice ua un uc) ((a.terms.take k).map (dD b)++a.terms.drop k))∧Hid (Hole wr (.slice (some ⟨g,0,none⟩) body.length vc) body.length ((body.take j).map (eH b)++body.drop j) j a (.slice ua un uc))∧Hid (Below w.heap.size w wr)∧wa.heap.size≤wr.heap.size)
   case atStart=>exact⟨0,by omega,rfl,HO3,HH3,HB3,by omega⟩
   case round=>
    clear HO3 HH3 HB3;obtain⟨k,hk,rfl,HO,HH,HW,hwz⟩:=hrel
    by_cases hltk:k<a.terms.length
    ·obtain⟨t,ht⟩:∃t,a.terms[k]?=some t:=⟨_,List.getElem?_eq_getElem hltk⟩;obtain⟨b2,o2,cs,e2,hb2,hte,hc2⟩:=Kind.fP HTv.out ht;subst e2;have TD:cs=[.bool t.1,.string (bs t.2)]:=hte;subst TD;have d0:wr.cell? ⟨b2,o2+k*2,none⟩=some (.bool t.1):=by rw[HW.out.cell (p:=⟨b2,o2+k*2,none⟩) hb2];simpa[dn] using hc2 0 _ rfl
     have d1:wr.cell? ⟨b2,o2+k*2+1,none⟩=some (.string (bs t.2)):=by rw[HW.out.cell (p:=⟨b2,o2+k*2+1,none⟩) hb2];simpa[dn] using hc2 1 _ rfl
     have hmt:=BR (g:=dD b) ht;have htm:=BQ (g:=dD b) ht;obtain⟨wt,hwt⟩:∃wt,wt=wr.alloc (.cells #[.bool t.1,.string (bs t.2)] 187):=⟨_,rfl⟩;have hLt:Later wr wt:=by rw[hwt];exact(Later.refl wr).alloc _
     have hRt:wt.heap[wr.heap.size]?=some (.cells #[.bool t.1,.string (bs t.2)] 187 (0,0)):=by rw[hwt];exact heap_alloc_new wr _
     obtain⟨c0,c1,_,_,hlt2⟩:=lH hRt;have hBt:=ak HW.out hLt.below HW.out.size;have HGe:=hide (Ob (.slice la b.length lc) b (bs t.2) wt (Kind.aR HL.out hBt));have HLt:=hide hLt;have HRt:=hide hRt;have HWt:=hide hwt;have HMt:=hide hmt;have HTm:=hide htm;have hgg:g<wr.heap.size:=by omega
     obtain⟨gb,hgb⟩:∃gb,gb=bT b (bs t.2):=⟨_,rfl⟩;rw[←hgb] at HGe;have HGb:=hide hgb;unfold j3 at HGe;obtain⟨t1,t2⟩:=t;dsimp only at*;clear hc2 ht hmt htm hwt hLt hRt hBt hgb;generalize htn:bs t2=tn at*;have HTn:=hide htn;clear htn
     go_wp2_with (first|(rw[←HWt.out])|fail)
     refine HGe.out.mono ?_;rintro e w4 ⟨rfl,hL4⟩;have G9:=HLt.out.trans hL4;have hr4:=(hL4.block hlt2).trans HRt.out;have z0:w4.cell? ⟨wr.heap.size,0,none⟩=some (.bool t1):=by rw[cell_of_row _ _ _ _ _ _ hr4];rfl
     have hO4:dn.own 187 0 w4 (.slice ua un uc) ((a.terms.take k).map (dD b)++a.terms.drop k):=Kind.jA HO.out G9.size fun i hi _=>G9.block hi;have hH4:=HH.out.kept (w':=w4) G9.size (fun i hi _=>G9.block hi) (fun i hi=>by
      have e:g=i:=by simpa[Value.ownBlock] using hi
      subst e;exact⟨hgg,fun hc=>by have:=HK2.out _ hc;omega⟩)
     have HB4:=hide (ak HW.out G9.below HW.out.size);have hz4:wa.heap.size≤w4.heap.size:=by have:=G9.size;omega
     have same:(t1=false∨gb=none)→(a.terms.take k).map (dD b)++a.terms.drop k=(a.terms.take (k+1)).map (dD b)++a.terms.drop (k+1):=fun h=>by
      have hbt:dD b (t1,t2)=(t1,t2):=by
       unfold dD;rcases h with h|h
       ·rw[h];rfl
       ·dsimp only;rw[HTn.out,←HGb.out,h];cases t1 <;> rfl
      have h1:=HTm.out;rw[hbt] at h1;rw[←h1];exact(Gj HMt.out).symm
     clear d0 d1 c0 c1 HGe HRt HO HH HW;cases gb with
     |none=>
      have HO5:Hid (dn.own 187 0 w4 (.slice ua un uc) ((a.terms.take (k+1)).map (dD b)++a.terms.drop (k+1))):=by show Kind.own _ _ _ _ _ _;rw[←same (Or.inr rfl)];exact hO4
      have HH4:=hide hH4;simp only[Option.getD_none,Option.isSome_none];clear same hO4 hH4 hL4 G9 hr4 HGb HMt HTm;go_wp2
      go_roundg (a.terms.length- (k+1))
      case measure=>omega
      case rel=>exact⟨k+1,by omega,by go_num,HO5,HH4,HB4,hz4⟩
     |some s=>
      simp only[Option.getD_some,Option.isSome_some];cases t1 with
      |false=>
       have HO5:Hid (dn.own 187 0 w4 (.slice ua un uc) ((a.terms.take (k+1)).map (dD b)++a.terms.drop (k+1))):=by show Kind.own _ _ _ _ _ _;rw[←same (Or.inl rfl)];exact hO4
       have HH4:=hide hH4;clear same hO4 hH4 hL4 G9 hr4 HGb HMt HTm;go_wp2
       go_roundg (a.terms.length- (k+1))
       case measure=>omega
       case rel=>exact⟨k+1,by omega,by go_num,HO5,HH4,HB4,hz4⟩
      |true=>
       have hbt:dD b (true,t2)=(false,raw s):=by
        unfold dD;dsimp only;rw[HTn.out,←HGb.out]
        rfl
       have htm:=HTm.out;rw[hbt] at htm;obtain⟨h,hcap,cs,hve,hhw,hhc,hcs,hrow⟩:=Gf hO4 HMt.out;rw[mh] at hve hhc;simp only[Value.slice.injEq] at hve;obtain⟨rfl,rfl,rfl⟩:=hve;have hcs':cs=[.bool true,.string (bs t2)]:=hcs;subst hcs';obtain⟨y0,y1⟩:=hrow 0 _ rfl;obtain⟨y2,y3⟩:=hrow 1 _ rfl;have y0:w4.cell? ⟨h,k*2,none⟩=some (.bool true):=y0;have y1:w4.frozen? ⟨h,k*2,none⟩=false:=y1;have y2:w4.cell? ⟨h,k*2+1,none⟩=some (.string (bs t2)):=y2;have y3:w4.frozen? ⟨h,k*2+1,none⟩=false:=y3;have hhb:wa.heap.size≤h:=HK2.out h rfl;have hcell:=hH4.cell rfl;have hp1:=Gd (q:=0) (u:=.bool false) (x':=((false,t2):dh)) hO4 rfl HMt.out (by decide) (fun c hc=>by
        have hc':c=[.bool true,.string (bs t2)]:=hc;subst hc';rfl)
       have I8:k<((a.terms.take k).map (dD b)++a.terms.drop k).length:=by rw[mh];exact hltk
       have hp2:=Gd (q:=1) (u:=.string s) (x':=((false,raw s):dh)) hp1 rfl (List.getElem?_set_self I8) (by decide) (fun c hc=>by
        have hc':c=[.bool false,.string (bs t2)]:=hc;subst hc';show[Value.bool false,.string s]=[.bool false,.string (bs (raw s))];rw[jo])
       rw[List.set_set,htm] at hp2;obtain⟨w5,hw5⟩:∃w5,w5=(w4.setCell ⟨h,k*2,none⟩ (.bool false)).setCell ⟨h,k*2+1,none⟩ (.string s):=⟨_,rfl⟩;have hO5:dn.own 187 0 w5 (.slice (some ⟨h,0,none⟩) a.terms.length uc) ((a.terms.take (k+1)).map (dD b)++a.terms.drop (k+1)):=by rw[hw5];exact hp2
       have hT5:Tn h w4 w5:=by
        rw[hw5];exact Tn.setCell (p:=h) (Tn.setCell (p:=h) (Tn.refl _ _) (x:=⟨h,k*2,none⟩) (Or.inl rfl) _) (x:=⟨h,k*2+1,none⟩) (Or.inl rfl) _
       have HH5:=hide (hH4.kept (w':=w5) hT5.size (fun i hi hne=>hT5.block i hi (fun e=>hne (by simp[Value.ownBlock];exact e.symm))) (fun i hi=>by
        have e:g=i:=by simpa[Value.ownBlock] using hi
        subst e;exact⟨by have:=G9.size;omega,fun hc=>by have:=HK2.out _ hc;omega⟩))
       have HO5:=hide hO5;have HB5:=hide (ak HB4.out (hT5.below (n:=w.heap.size) (by omega) HB4.out.size) (Nat.le_refl _));have hz5:wa.heap.size≤w5.heap.size:=by have:=hT5.size;omega
       have HW5:=hide hw5;have hkb:(k:Int)<(a.terms.length:Int):=by omega
       have hk0:(0:Int)≤(k:Int):=by omega
       clear same hO4 hH4 hL4 G9 hr4 HGb HMt HTm hbt htm hrow hcs hp1 hp2 I8 hw5 hO5 hT5
       go_wp2_with (rw[←HW5.out])
       go_roundg (a.terms.length- (k+1))
       case measure=>omega
       case rel=>exact⟨k+1,by omega,by go_num,HO5,HH5,HB5,hz5⟩
    ·have htk:(a.terms.take k).map (dD b)++a.terms.drop k=a.terms.map (dD b):=by rw[List.take_of_length_le (by omega),List.drop_eq_nil_of_le (by omega),List.append_nil]
     have hO:=HO.out;rw[htk] at hO;have hsl:=Lg hO (by rw[List.length_map];omega);have hf:=Hole.fill (L:=(body.take j).map (eH b)++body.drop j) (ts:=a.terms.map (dD b)) (by have:=HH.out;rw[←mh (g:=eH b) (l:=body) (j:=j)] at this;rw[mh] at this⊢;exact HH.out) (by rw[mh];exact hlt) (Kind.aW hsl fun i hi hB=>fun e=>by
      have e':g=i:=by simpa[Value.ownBlock] using e
      subst e';have:=HK2.out _ hB;omega)
     have htm:=BQ (g:=eH b) HA.out;have hba:eH b a=⟨a.no,a.name,a.terms.map (dD b)⟩:=rfl;rw[←hba,htm] at hf;have HF:=hide hf;clear htk hO hsl hf htm hba HO HH;go_wp2
     go_roundg (body.length- (j+1))
     case measure=>omega
     case rel=>exact⟨j+1,by omega,by go_num,HF,HW⟩
  ·have hO:=HO.out;rw[List.take_of_length_le (by omega),List.drop_eq_nil_of_le (by omega),List.append_nil] at hO;have hb:(body.map (eH b)).length≤8796093022208:=by rw[List.length_map];omega
   have HS:=hide (Kind.dN (Kind.gW hO hb));clear hO HO;go_wp2;go_ret;exact⟨_,rfl,HS.out,HW.out⟩
end Go.Proofs.YtafmbokfkbccaaaGreatDoor
