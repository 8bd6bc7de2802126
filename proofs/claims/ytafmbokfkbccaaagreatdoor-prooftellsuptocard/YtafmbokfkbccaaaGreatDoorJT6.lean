import Derived.Test.YtafmbokfkbccaaaGreatDoorJT5
import Derived.Test.YtafmbokfkbccaaaGreatDoorJT3
import Derived.Test.YtafmbokfkbccaaaGreatDoorJT2
namespace Go.Proofs.YtafmbokfkbccaaaGreatDoor
open Go.RowKit Go.Sort
def fT (s:List aO):Prop:=s.Pairwise fun a b=>fQ a b<0
theorem Ti {a b c:aO} (h:fQ a b≤0) (k:fQ b c<0):fQ a c<0:=by
 by_cases e:fQ a b=0
 ·rw[aX.zero _ _ e];exact k
 ·exact aX.trans a b c (by omega) k
theorem lt_irrefl {a:aO} (h:fQ a a<0):False:=by rw[aX.refl] at h;omega
theorem NA {a b:aO} (h:fQ a b<0) (k:fQ b a<0):False:=lt_irrefl (aX.trans a b a h k)
theorem fT.ext:∀{s t:List aO},fT s→fT t→(∀f,f∈s↔f∈t)→s=t
 |[],[],_,_,_=>rfl
 |[],b::t,_,_,h=>by have:=(h b).2 (List.mem_cons_self ..);cases this
 |a::s,[],_,_,h=>by have:=(h a).1 (List.mem_cons_self ..);cases this
 |a::s,b::t,hs,ht,h=>by
  have hs':=List.pairwise_cons.1 hs;have ht':=List.pairwise_cons.1 ht;have e:a=b:=by
   rcases List.mem_cons.1 ((h a).1 (List.mem_cons_self ..)) with e|e
   ·exact e
   ·rcases List.mem_cons.1 ((h b).2 (List.mem_cons_self ..)) with e'|e'
    ·exact e'.symm
    ·exact absurd (ht'.1 a e) fun k=>NA k (hs'.1 b e')
  subst e;rw[fT.ext hs'.2 ht'.2 fun f=>⟨fun hf=> ?_,fun hf=> ?_⟩]
  ·rcases List.mem_cons.1 ((h f).1 (List.mem_cons_of_mem _ hf)) with e|e
   ·subst e;exact absurd (hs'.1 f hf) lt_irrefl
   ·exact e
  ·rcases List.mem_cons.1 ((h f).2 (List.mem_cons_of_mem _ hf)) with e|e
   ·subst e;exact absurd (ht'.1 f hf) lt_irrefl
   ·exact e
def jI (s l:List aO):Prop:=fT s∧(∀f,f∈s↔f∈l)∧s.length≤l.length
theorem getD_mem_take {l:List aO} {i k:Nat} (hi:i<k) (hk:k≤l.length):l.getD i aA∈l.take k:=by
 rw[List.getD_eq_getElem?_getD,List.getElem?_eq_getElem (by omega)];exact List.mem_take_iff_getElem.2 ⟨i,by omega,rfl⟩
theorem o7 {l:List aO} {k:Nat} {f:aO} (h:f∈l.take k):∃i,i<k∧i<l.length∧f=l.getD i aA:=by
 obtain⟨i,hi,rfl⟩:=List.mem_take_iff_getElem.1 h;exact⟨i,by omega,by omega,by rw[List.getD_eq_getElem?_getD,List.getElem?_eq_getElem (by omega)];rfl⟩
theorem take_succ {l:List aO} {k:Nat} (h:k<l.length):l.take (k+1)=l.take k++[l.getD k aA]:=by
 rw[List.take_succ_eq_append_getElem h,List.getD_eq_getElem?_getD,List.getElem?_eq_getElem h];rfl
theorem tJ {l:List aO} (h:l.Pairwise fun a b=>fQ a b≤0) {i j:Nat} (hij:i≤j) (hj:j<l.length):fQ (l.getD i aA) (l.getD j aA)≤0:=by
 by_cases e:i=j
 ·subst e;rw[aX.refl];exact Int.le_refl _
 ·have:=List.pairwise_iff_getElem.1 h i j (by omega) hj (by omega);rw[List.getD_eq_getElem?_getD,List.getD_eq_getElem?_getD,List.getElem?_eq_getElem (by omega),List.getElem?_eq_getElem hj];exact this
def newP (l:List aO) (k:Nat):Bool:=decide (k=0)|| !decide (fQ (l.getD (k-1) aA) (l.getD k aA)=0)
theorem Dt {l:List aO} (h:l.Pairwise fun a b=>fQ a b≤0):∀k,k≤l.length→jI (pick (newP l) l k) (l.take k)
 |0,_=>⟨List.Pairwise.nil,fun f=>by simp[pick],by simp[pick]⟩
 |k+1,hk=>by
  obtain⟨i1,i2,_⟩:=Dt h k (by omega);have hlen:(pick (newP l) l (k+1)).length≤(l.take (k+1)).length:=by
   have:=Cg (newP l) l (k+1);rw[List.length_take];omega
  rw[take_succ (by omega)] at hlen;rw[take_succ (by omega)];cases hp:newP l k with
  |true=>
   have e:pick (newP l) l (k+1)=pick (newP l) l k++[l.getD k aA]:=by simp[pick,hp]
   rw[e];refine⟨?_,fun f=>by rw[List.mem_append,List.mem_append,i2 f],by rw[←e];exact hlen⟩;unfold fT;rw[List.pairwise_append];refine⟨i1,List.pairwise_singleton _ _,fun a ha b hb=> ?_⟩;rw[List.mem_singleton] at hb;subst hb;obtain⟨i,hi,hil,rfl⟩:=o7 ((i2 a).1 ha);refine Ti (tJ h (i:=i) (j:=k-1) (by omega) (by omega)) ?_;have h1:=tJ h (i:=k-1) (j:=k) (by omega) (by omega);have h2:fQ (l.getD (k-1) aA) (l.getD k aA)≠0:=by
    intro e;unfold newP at hp;rw[decide_eq_true e,decide_eq_false (by omega)] at hp;cases hp
   omega
  |false=>
   have e:pick (newP l) l (k+1)=pick (newP l) l k:=by simp[pick,hp]
   rw[e];refine⟨i1,fun f=> ?_,by rw[←e];exact hlen⟩;rw[i2 f,List.mem_append,List.mem_singleton];refine⟨Or.inl,fun hf=>hf.elim id fun hf=> ?_⟩;unfold newP at hp;rw[Bool.or_eq_false_iff,decide_eq_false_iff_not,Bool.not_eq_false',decide_eq_true_eq] at hp;have:=aX.zero _ _ hp.2;rw[hf,←this];exact getD_mem_take (by omega) (by omega)
theorem tK (q:aO→Bool) (l:List aO):∀k,k≤l.length→pick (fun i=>q (l.getD i aA)) l k=(l.take k).filter q
 |0,_=>by simp[pick]
 |k+1,hk=>by
  have e:pick (fun i=>q (l.getD i aA)) l (k+1)=if q (l.getD k aA) then pick (fun i=>q (l.getD i aA)) l k++[l.getD k aA] else pick (fun i=>q (l.getD i aA)) l k:=rfl;rw[e,take_succ (by omega),List.filter_append,←tK q l k (by omega)];generalize l.getD k aA=x;cases hq:q x <;> simp[hq]
theorem jI.same {s t l m:List aO} (h:jI s l) (k:jI t m) (e:∀f,f∈l↔f∈m):s=t:=
 h.1.ext k.1 fun f=>(h.2.1 f).trans ((e f).trans (k.2.1 f).symm)
end Go.Proofs.YtafmbokfkbccaaaGreatDoor
namespace Go.Proofs.YtafmbokfkbccaaaGreatDoor
open Go.RowKit Go.Sort
def bsK:Kind ByteArray where
 size:=1
 is:=fun _ _ c t=>c=[.string t]
 len:=fun h=>by subst h;rfl
 one:=fun h u hu=>by subst h;simp at hu;subst hu;rfl
 kept:=fun h _ _=>h
 mono:=fun h _=>h
theorem Kind.j5 {α:Type} {P:Program} {K:Kind α} {t ty:TypeId} {lo bytes:Nat} {w:World} {v:Value} {l:List α} (h:K.own ty lo w v l) {i:TypeInfo} {z:Value}
  (ht:P.underlying t=some (.slice ty)) (hi:P.info? ty=some i) (hz:i.zero=some z) (hsize:i.size=K.size) (hby:i.bytes=bytes) (hzs:z.cells.size=K.size) (hsz:0<K.size)
  {c:List Value} {x:α} (hc:K.is (fun k=>lo≤k∧v.ownBlock≠some k) w c x) (hl:(l.length+1)*bytes≤140737488355328) (hl2:l.length+1≤maxLen) (hlo:lo≤w.heap.size):
  ∃v' w',(Builtin.append_ #[t,t] t #[v,.slice (some ⟨w.heap.size,0,none⟩) 1 1]).run P (w.alloc (.cells c.toArray ty))=.ok v' w'∧K.own ty lo w' v' (l++[x])∧(w.alloc (.cells c.toArray ty)).grownBy w' v.ownBlock∧w.drawn≤w'.drawn∧
   ∀k,v'.ownBlock=some k→v.ownBlock=some k∨w.heap.size<k:=by
 obtain⟨xs,ho,hx⟩:=h;have hcl:=K.len hc;have hnews:∀j u,c[j]?=some u→(w.alloc (.cells c.toArray ty)).cell? ((⟨w.heap.size,0,none⟩:Addr).add j)=some u:=by
  intro j u hu;rw[Addr.add_lit,Nat.zero_add,cell_of_row _ w.heap.size j c.toArray ty (0,0) (heap_alloc_new w _)];simpa using hu
 obtain⟨v',w',hrun,r1,r2,r3,r4⟩:=eD (P:=P) (w.alloc (.cells c.toArray ty)) lo t t ty i z K.size bytes ht hi hz hsize hby hzs hsz v l.length xs (ho.alloc _) ⟨w.heap.size,0,none⟩ 1 1 c (by rw[hcl];simp) hnews
  (K.one hc) hl2 hl (by simp;omega)
 have hxl:xs.length=l.length*K.size:=ho.1;have own':∀k,v'.ownBlock=some k→v.ownBlock=some k∨w.heap.size<k:=fun k e=>by
  rcases r4 k e with e|e
  ·exact Or.inl e
  ·simp at e;exact Or.inr (by omega)
 have keep:∀k,k<w.heap.size→(lo≤k∧v.ownBlock≠some k)→w'.heap[k]?=w.heap[k]?:=fun k hk hB=>
  (r2.block k (by simp;omega) (fun e=>hB.2 e.symm)).trans (Below.heap_alloc w _ k hk)
 have hsz':w.heap.size≤w'.heap.size:=Nat.le_trans (by simp) r2.size;have move:∀{c:List Value} {y:α},K.is (fun k=>lo≤k∧v.ownBlock≠some k) w c y→K.is (fun k=>lo≤k∧v'.ownBlock≠some k) w' c y:=fun {c y} hy=>
  K.kept (K.mono hy fun k hk hB=>(⟨⟨hB.1,fun e=>by rcases own' k e with e|e;exact hB.2 e;omega⟩,hB⟩:(lo≤k∧v'.ownBlock≠some k)∧(lo≤k∧v.ownBlock≠some k))) hsz' (fun k hk hB=>keep k hk hB.2) |> fun h=>K.mono h fun _ _ hB=>hB.1
 refine⟨v',w',hrun,⟨xs++c,by simpa using r1,fun j y hj=> ?_⟩,r2,r3,own'⟩
 by_cases hjl:j<l.length
 ·rw[List.getElem?_append_left hjl] at hj;obtain⟨d,d1,d2⟩:=hx j y hj;refine⟨d,move d1,fun q u hu=> ?_⟩;have:=d2 q u hu;rw[List.getElem?_append_left (List.getElem?_eq_some_iff.1 this).1];exact this
 ·rw[List.getElem?_append_right (by omega)] at hj;have hj':j=l.length:=by
   have:=(List.getElem?_eq_some_iff.1 hj).1;simp at this;omega
  subst hj';simp at hj;subst hj;refine⟨c,move hc,fun q u hu=> ?_⟩;rw[List.getElem?_append_right (by omega),hxl,Nat.add_sub_cancel_left];exact hu
theorem Later.more {w0 w w':World} {v:Value} {o:Obj} (h:Later w0 w) (hg:(w.alloc o).grownBy w' v.ownBlock) (hd:w.drawn≤w'.drawn) (hv:∀k,v.ownBlock=some k→w0.heap.size≤k):Later w0 w':=
 Later.of_below ((h.alloc o).below.grown hg (h.alloc o).size hv) (Nat.le_trans h.drawn hd)
theorem Du {lo:Nat} {w:World} {v:Value} {l:List ByteArray} (h:bsK.own 9 lo w v l) (hl:l.length≤8796093022208):Strs w v l:=by
 obtain⟨⟨h0,_⟩,a,cap,rfl,h1⟩:=Kind.fA h hl;refine⟨h0,a,cap,rfl,fun hne=> ?_⟩;obtain⟨b,off,rfl,_,hb,hc⟩:=h1 hne;refine⟨b,off,rfl,hb,fun i hi=> ?_⟩;obtain⟨c,rfl,c2⟩:=hc i _ (List.getElem?_eq_getElem hi);have:=c2 0 _ rfl;rw[List.getD_eq_getElem?_getD,List.getElem?_eq_getElem hi];simpa[bsK] using this
theorem Ah {lo:Nat} {w:World} {v:Value} {l:List ByteArray} (h:bsK.own 9 lo w v l) (x:ByteArray) (hl:l.length+1≤8796093022208) (hlo:lo≤w.heap.size):
  ∃v' w',(Builtin.append_ #[25,25] 25 #[v,.slice (some ⟨w.heap.size,0,none⟩) 1 1]).run Tryz.prog (w.alloc (.cells #[.string x] 9))=.ok v' w'∧bsK.own 9 lo w' v' (l++[x])∧(w.alloc (.cells #[.string x] 9)).grownBy w' v.ownBlock∧w.drawn≤w'.drawn∧
   ∀k,v'.ownBlock=some k→v.ownBlock=some k∨w.heap.size<k:=by
 obtain⟨i,i1,i2,i3,i4⟩:=yE;exact Kind.j5 h Tryz.underlying25 i1 i2 i3 i4 rfl (by decide) (c:=[.string x]) rfl (by omega) (by simp[maxLen];omega) hlo
theorem Ai:∀args w,(callFunc 163 args).run Tryz.prog w=.ok (.enter 163 args) w:=enters_of Tryz.func163 (by kernel_rfl) rfl
set_option maxHeartbeats 400000 in
theorem Ht (c:Nat) (u:Value) (l:List aB) (w0:World) (hc:w0.cell? ⟨c,0,none⟩=some u) (hb:c<w0.heap.size) (hu:bq.sl bg w0 u l):Nz 163 #[.pointer (some ⟨c,0,none⟩)] l w0:=by
 intro w v hL;have HG:=hide (Sg u l v w (Kind.aJ hu hL));have hc':w.cell? ⟨c,0,none⟩=some u:=by rw[hL.cell hb];exact hc
 have hb':c<w.heap.size:=Nat.lt_of_lt_of_le hb hL.size;obtain⟨a,cap,rfl⟩:=Kind.slice hu;clear hu hc hb hL;unfold lu at HG⊢;generalize(dG l v).getD ByteArray.empty=s at*;generalize(dG l v).isSome=b at*;show Calls _ _ #[.string v,.pointer (some ⟨c,0,none⟩)] _ _
 go_enter Tryz.func163,Tryz.ntmps163
 go_wp2_with (go_at_call 164;refine HG.out.mono ?_;rintro e w2 ⟨rfl,hL2⟩;replace hL2:=hide hL2)
 go_ret2
 exact⟨rfl,bL hL2⟩
theorem o8 {l:List aB} {ts:List dN} {j:Nat} {t:dN} {r:List ByteArray} (h:ts[j]?=some t) (hr:aU l (ts.take j)=some r):
  aU l (ts.take (j+1))=(bF l t).map fun s=>r++[s]:=by
 have gen:∀(q:List dN) (r:List ByteArray),aU l q=some r→aU l (q++[t])=(bF l t).map fun s=>r++[s]:=by
  intro q
  induction q with
  |nil=>
   intro r hr;cases hr;simp only[List.nil_append,aU];cases bF l t <;> rfl
  |cons x q ih=>
   intro r hr;simp only[List.cons_append,aU] at hr⊢;cases e:bF l x with
   |none=>rw[e] at hr;cases hr
   |some s=>
    rw[e] at hr;dsimp only at hr⊢;cases e2:aU l q with
    |none=>rw[e2] at hr;cases hr
    |some r'=>
     rw[e2] at hr;cases hr;rw[ih r' e2];cases bF l t <;> rfl
 rw[List.take_add_one,h];exact gen _ r hr
theorem o9 {l:List aB}:∀{ts q:List dN},aU l ts=none→aU l (ts++q)=none
 |[],_,h=>by cases h
 |t::ts,q,h=>by
  simp only[List.cons_append,aU] at h⊢;cases e:bF l t with
  |none=>rfl
  |some s=>
   rw[e] at h;dsimp only at h⊢;cases e2:aU l ts with
   |none=>rw[o9 e2]
   |some r=>rw[e2] at h;cases h
theorem pq {l:List aB} {ts:List dN} {j:Nat} (h:aU l (ts.take j)=none):aU l ts=none:=by
 have:=o9 (q:=ts.drop j) h
 rwa [List.take_append_drop] at this
def filled (a:aI) (l:List aB):aO:=(bA a l).getD aA
theorem bY (w:World) (o:Obj) (k:Nat):(w.alloc o).heap[k]?=if k=w.heap.size then some o else w.heap[k]?:=by
 split
 ·rename_i h;subst h;exact heap_alloc_new w o
 ·rename_i h
  by_cases hk:k<w.heap.size
  ·exact Below.heap_alloc w o k hk
  ·rw[Array.getElem?_eq_none (by simp;omega),Array.getElem?_eq_none (by omega)]
theorem Ku {w:World} {R:Nat} {u0:Value} {t:TypeId} (h:w.heap[R]?=some (.cells #[u0] t (0,0))):w.cell? ⟨R,0,none⟩=some u0∧w.frozen? ⟨R,0,none⟩=false∧R<w.heap.size:=
 ⟨by rw[cell_of_row _ _ _ _ _ _ h];rfl,by simp[World.frozen?,h],(Array.getElem?_eq_some_iff.1 h).1⟩
theorem iK {w:World} {R:Nat} {u0 u1:Value} {t:TypeId} (h:w.heap[R]?=some (.cells #[u0,u1] t (0,0))):w.cell? ⟨R,0,none⟩=some u0∧w.cell? ⟨R,1,none⟩=some u1∧w.frozen? ⟨R,0,none⟩=false∧w.frozen? ⟨R,1,none⟩=false∧R<w.heap.size:=
 ⟨by rw[cell_of_row _ _ _ _ _ _ h];rfl,by rw[cell_of_row _ _ _ _ _ _ h];rfl,by simp[World.frozen?,h],by simp[World.frozen?,h],(Array.getElem?_eq_some_iff.1 h).1⟩
theorem dF {w:World} {g j:Nat} {cs:Array Value} {t:TypeId} {fr:Nat×Nat} (h:w.heap[g]?=some (.cells cs t fr)) (u:Value):(w.setCell ⟨g,j,none⟩ u).heap[g]?=some (.cells (cs.setIfInBounds j u) t fr):=by
 simp[World.setCell,Array.getElem?_modify,h]
theorem qH {w:World} {R:Nat} {u0 u1:Value} {t:TypeId} {fr:Nat×Nat} (h:w.heap[R]?=some (.cells #[u0,u1] t fr)) (x y:Value):
  ((w.setCell ⟨R,0,none⟩ x).setCell ⟨R,1,none⟩ y).cell? ⟨R,0,none⟩=some x∧((w.setCell ⟨R,0,none⟩ x).setCell ⟨R,1,none⟩ y).cell? ⟨R,1,none⟩=some y:=by
 have h2:=dF (j:=1) (dF (j:=0) h x) y;exact⟨by rw[cell_of_row _ _ _ _ _ _ h2];rfl,by rw[cell_of_row _ _ _ _ _ _ h2];rfl⟩
theorem wW {w w':World} {n:ByteArray} {s:Value} {r:List ByteArray} {lo:Nat} (h:bsK.own 9 lo w s r) (hl:r.length≤8796093022208) (hk:∀k,lo≤k→w'.heap[k]?=w.heap[k]?) (hs:w.heap.size≤w'.heap.size):dH w' (.agg #[.string n,s]) (n,r):=
 ⟨s,rfl,Du (Kind.dV h hs fun k _ hlo=>hk k hlo) hl⟩
def X6 (w w':World) (v:Value):Prop:=∃n s,v=.agg #[n,s]∧∀k,s.ownBlock=some k→w.heap.size≤k∧k<w'.heap.size
set_option maxRecDepth 100000 in
set_option maxHeartbeats 2000000 in
theorem Qf (a:aI) (tv u:Value) (l:List aB) (w:World) (ht:eH.sl bg w tv a.terms) (hu:bq.sl bg w u l):
  Calls Tryz.prog 90 #[.agg #[.bool a.no,.string (bs a.name),tv],u] w fun e w'=>∃v,e=.returned (.tuple #[v,.bool (bA a l).isSome])∧dH w' v (filled a l)∧Later w w'∧X6 w w' v:=by
 obtain⟨sa,cap,rfl⟩:=Kind.slice ht;obtain⟨sb,EJ,rfl⟩:=Kind.slice hu;have HT:=hide ht;have HU:=hide hu;have hn:=ht.1.1;clear ht hu;obtain⟨no,name,ts⟩:=a;dsimp only at*;have F:Hid (∀r,aU l ts=r→bA ⟨no,name,ts⟩ l=r.map fun x=>(bs name,x)):=fun r h=>by unfold bA;rw[h];cases r <;> rfl
 unfold filled;generalize hfb:bA ⟨no,name,ts⟩ l=fb at*;clear hfb;generalize bs name=nm at*
 go_enter Tryz.func90,Tryz.ntmps90
 go_wp2
 go_loopg [19] ts.length (fun g i wr=>∃j:Nat,j+g=ts.length∧i=.int .i64 j∧∃r o,Hid (aU l (ts.take j)=some r)∧Hid (bsK.own 9 (w.heap.size+4) wr o r)∧Hid (r.length=j)∧Hid (Later w wr)∧w.heap.size+4≤wr.heap.size∧
  Hid (wr.heap[w.heap.size+1]?=some (.cells #[.slice sb l.length EJ] 158 (0,0)))∧Hid (wr.heap[w.heap.size+2]?=some (.cells #[.string {data:=#[]},.slice none 0 0] 27 (0,0)))∧Hid (wr.heap[w.heap.size+3]?=some (.cells #[.string nm,o] 27 (0,0))))
 case atStart=>
  refine⟨0,by omega,rfl,[],.slice none 0 0,(rfl:_=_),bsK.fF _ _ _,(rfl:_=_),((by repeat (first|exact Later.refl _|assumption|refine Later.drewN ?_ _|refine Later.drew ?_|refine Later.alloc ?_ _|refine Later.grow ?_ _)):Later _ _),by simp,?_,?_,?_⟩
  all_goals
   show _=_;simp only[bY,World.size_alloc]
   repeat (first|rw[if_pos trivial]|rw[if_pos (by omega)]|rw[if_neg (by omega)])
 case round=>
  obtain⟨j,hj,rfl,r,o,HR,HO,hrl,HL,hsz,H1,H2,H3⟩:=hrel;obtain⟨ao,co,rfl⟩:=Kind.aV HO.out
  by_cases hlt:j<ts.length
  ·obtain⟨x,hx⟩:∃x,ts[j]?=some x:=⟨_,List.getElem?_eq_getElem hlt⟩;obtain⟨b1,o1,_,rfl,hb1,rfl,hc⟩:=Kind.bQ HT.out hx;have d0:wr.cell? ⟨b1,o1+j*2,none⟩=some (.bool x.1):=by rw[HL.out.cell hb1];exact hc 0 _ rfl
   have d1:wr.cell? ⟨b1,o1+j*2+1,none⟩=some (.string (bs x.2)):=by rw[HL.out.cell hb1];exact hc 1 _ rfl
   have hbr:b1<wr.heap.size:=by omega
   have HS:=hide (o8 hx HR.out);obtain⟨wt,hwt⟩:∃wt,wt=wr.alloc (.cells #[.bool x.1,.string (bs x.2)] 187):=⟨_,rfl⟩;have hLt:Later w wt:=by rw[hwt];exact HL.out.alloc _
   have hst:wt.heap.size=wr.heap.size+1:=by rw[hwt];simp
   have hbl:∀k,k<wr.heap.size→wt.heap[k]?=wr.heap[k]?:=fun k hk=>by rw[hwt];exact Below.heap_alloc _ _ _ hk
   have K1:=Ku ((hbl _ (by omega)).trans H1.out);have HW:Hid (Calls Tryz.prog 165 #[.agg #[.bool x.1,.string (bs x.2)],.func (.func 163) #[] #[.pointer (some ⟨w.heap.size+1,0,none⟩)]] wt fun e w2=>e=.returned (lu (bF l x))∧Later wt w2):=
    ML _ _ Ai x l wt wt (Ht (w.heap.size+1) _ l wt K1.1 K1.2.2 (Kind.aJ HU.out hLt)) (Later.refl _)
   rw[hwt] at HW;have HWT:=hide hwt;clear hc hx K1 hwt;obtain⟨x1,x2⟩:=x;dsimp only at*;cases hw:bF l (x1,x2) with
   |none=>
    rw[hw] at HW HS;have HF:Hid (fb=none):=F.out none (pq HS.out);have hw0:lu none=.tuple #[.string ByteArray.empty,.bool false]:=rfl;rw[hw0] at HW;clear hw hw0 HS;generalize bs x2=kx at*
    go_wp2_with fail
    refine HW.out.mono ?_;rintro e w2 ⟨rfl,hL2⟩;rw[←HWT.out] at hL2;have hb2:∀k,k<wr.heap.size→w2.heap[k]?=wr.heap[k]?:=fun k hk=>(hL2.block (by omega)).trans (hbl k hk);have Z2:=hide ((hb2 _ (by omega)).trans H2.out);obtain⟨q0,q1,p0,p1,q2⟩:=iK Z2.out;have HL2:=hide (hLt.trans hL2);clear hL2 hb2 HW;go_wp2;obtain⟨r0,r1⟩:=qH Z2.out (.string {data:=#[]}) (.slice none 0 0);refine bodyPost_ret (v:=.tuple #[.agg #[.string {data:=#[]},.slice none 0 0],.bool false]) (by simp[results,Tryz.results90,go_sem,r0,r1]) rfl ⟨_,by rw[HF.out];rfl,?_,?_,_,_,rfl,fun k e=>by simp[Value.ownBlock] at e⟩
    ·rw[HF.out];exact⟨_,rfl,by simp[aA],none,0,rfl,fun h=>absurd rfl h⟩
    ·exact(HL2.out.setCell (by show w.heap.size≤w.heap.size+2;omega) _).setCell (by show w.heap.size≤w.heap.size+2;omega) _
   |some s=>
    rw[hw] at HW HS;have HS1:Hid (aU l (ts.take (j+1))=some (r++[s])):=HS.out;have hw0:lu (some s)=.tuple #[.string s,.bool true]:=rfl;rw[hw0] at HW;clear hw hw0 HS;generalize bs x2=kx at*
    go_wp2_with fail
    refine HW.out.mono ?_;rintro e w2 ⟨rfl,hL2⟩;rw[←HWT.out] at hL2;have hb2:∀k,k<wr.heap.size→w2.heap[k]?=wr.heap[k]?:=fun k hk=>(hL2.block (by omega)).trans (hbl k hk);have hs2:wr.heap.size<w2.heap.size:=by have:=hL2.size;omega
    obtain⟨q0,q1,p0,p1,q2⟩:=iK ((hb2 _ (by omega)).trans H3.out);obtain⟨v',w4,hrun,hO4,hg4,hd4,hv4⟩:=Ah (Kind.dV HO.out (Nat.le_of_lt hs2) fun k hk _=>hb2 k hk) s (by have:=hrl.out;omega) (by omega);have hlo:∀k,(Value.slice ao r.length co).ownBlock=some k→w.heap.size+4≤k:=fun k e=>(Kind.bN HO.out e).1;have hb4:∀k,k<w.heap.size+4→w4.heap[k]?=wr.heap[k]?:=fun k hk=>by
     rw[hg4.block k (by simp;omega) (fun e=>by have:=hlo k e.symm;omega),Below.heap_alloc _ _ _ (by omega)];exact hb2 k (by omega)
    have hs4:w2.heap.size<w4.heap.size:=by have:=hg4.size;simp at this;omega
    have HL4:=hide ((hLt.trans hL2).more hg4 hd4 fun k e=>by have:=hlo k e;omega);have Z3:=hide ((hb4 _ (by omega)).trans H3.out);obtain⟨_,y1,_,t1,y2⟩:=iK Z3.out;have Z1:=hide ((hb4 _ (by omega)).trans H1.out);have Z2:=hide ((hb4 _ (by omega)).trans H2.out);obtain⟨a4,n4,c4,rfl⟩:∃a n c,v'=.slice a n c:=by obtain⟨a,c,e⟩:=Kind.aV hO4;exact⟨a,_,c,e⟩
    have HR4:=hide hrun;have HO4:=hide hO4;clear hL2 hb2 HW hrun hO4 hg4 hd4 hv4 hb4
    go_wp2_with (at_builtin;refine wpList_append_run rfl (.tmp 33) (.tmp 35) 25 rfl _ _ _ _ rfl rfl HR4.out ?_)
    go_roundg (ts.length- (j+1))
    case measure=>omega
    case rel=>
     refine⟨j+1,by omega,by go_num,r++[s],.slice a4 n4 c4,HS1,?_,(by simp[hrl.out]:(r++[s]).length=j+1),?_,?_,?_,?_,?_⟩
     ·exact Kind.dV HO4.out (by simp[World.setCell]) fun k _ hk=>Below.heap_setCell _ _ _ _ (by show k≠w.heap.size+3;omega)
     ·exact(Later.setCell HL4.out (p:=⟨w.heap.size+1+1+1,1,none⟩) (by show w.heap.size≤w.heap.size+3;omega) _:Later _ _)
     ·simp[World.setCell];omega
     ·show _=_;rw[Below.heap_setCell _ _ _ _ (by show w.heap.size+1≠w.heap.size+3;omega)];exact Z1.out
     ·show _=_;rw[Below.heap_setCell _ _ _ _ (by show w.heap.size+2≠w.heap.size+3;omega)];exact Z2.out
     ·show _=_;rw[dF Z3.out];rfl
  ·have e:j=ts.length:=by omega
   subst e;have HR1:Hid (fb=some (nm,r)):=by
    have:=HR.out;rw[List.take_length] at this;exact F.out _ this
   obtain⟨q0,q1,p0,p1,q2⟩:=iK H2.out;obtain⟨y0,y1,t0,t1,y2⟩:=iK H3.out;go_wp2;obtain⟨r0,r1⟩:=qH (R:=w.heap.size+1+1) H2.out (.string nm) (.slice ao r.length co);refine bodyPost_ret (v:=.tuple #[.agg #[.string nm,.slice ao r.length co],.bool true]) (by simp[results,Tryz.results90,go_sem,r0,r1]) rfl ⟨_,by rw[HR1.out];rfl,?_,?_,_,_,rfl,fun k e=> ?_⟩
   ·rw[HR1.out];refine wW HO.out (by have:=hrl.out;omega) (fun k hk=> ?_) (by simp[World.setCell]);rw[Below.heap_setCell _ _ _ _ (by show k≠w.heap.size+2;omega),Below.heap_setCell _ _ _ _ (by show k≠w.heap.size+2;omega)]
   ·exact(HL.out.setCell (by show w.heap.size≤w.heap.size+2;omega) _).setCell (by show w.heap.size≤w.heap.size+2;omega) _
   ·have:=Kind.bN HO.out e;rw[size_setCell,size_setCell];omega
theorem NC (a:aI) (tv u:Value) (l:List aB) (w:World) (ht:eH.sl bg w tv a.terms) (hu:bq.sl bg w u l):
  Calls Tryz.prog 90 #[.agg #[.bool a.no,.string (bs a.name),tv],u] w fun e w'=>∃v,e=.returned (.tuple #[v,.bool (bA a l).isSome])∧dH w' v (filled a l)∧Later w w':=
 (Qf a tv u l w ht hu).mono fun _ _ ⟨v,h1,h2,h3,_⟩=>⟨v,h1,h2,h3⟩
end Go.Proofs.YtafmbokfkbccaaaGreatDoor
namespace Go.Proofs.YtafmbokfkbccaaaGreatDoor
open Go.RowKit Go.Sort Go.ChangeShapes Go.WideShapes Go.ChangeAt Go.Deep
variable {H:Type} {enc:TypeId×Value→H} {W:World}
def qI:Kind aO where
 size:=2
 is:=fun B w c f=>∃s,c=[.string f.1,s]∧bsK.sl B w s f.2
 len:=fun⟨s,h,_⟩=>by subst h;rfl
 one:=fun⟨s,h,hs⟩ u hu=>by
  subst h;obtain⟨a,cap,rfl⟩:=Kind.slice hs;simp at hu;rcases hu with rfl|rfl <;> rfl
 kept:=fun⟨v,h,hs⟩ h1 h2=>⟨v,h,Kind.bM hs h1 h2⟩
 mono:=fun⟨v,h,hs⟩ h1=>⟨v,h,Kind.bT hs h1⟩
theorem jd {B:Nat→Prop} {w:World} {v:Value} {l:List ByteArray} (h:bsK.sl B w v l):Strs w v l:=by
 obtain⟨⟨h0,_⟩,a,cap,rfl,h1⟩:=h;refine⟨h0,a,cap,rfl,fun hne=> ?_⟩;obtain⟨b,off,rfl,_,hb,hc⟩:=h1 hne;refine⟨b,off,rfl,hb,fun i hi=> ?_⟩;obtain⟨c,rfl,c2⟩:=hc i _ (List.getElem?_eq_getElem hi);have:=c2 0 _ rfl;rw[List.getD_eq_getElem?_getD,List.getElem?_eq_getElem hi];simpa[bsK] using this
theorem KR {B:Nat→Prop} {w:World} {v:Value} {l:List aO} (h:qI.sl B w v l) (hl:l.length≤3518437208883):Facts w v l:=by
 obtain⟨_,a,cap,rfl,h1⟩:=h;refine⟨hl,a,cap,rfl,fun hne=> ?_⟩;obtain⟨b,off,rfl,_,hb,hc⟩:=h1 hne;refine⟨b,off,rfl,hb,fun i hi=> ?_⟩;obtain⟨c,⟨s,rfl,hs⟩,c2⟩:=hc i _ (List.getElem?_eq_getElem hi);rw[List.getD_eq_getElem?_getD,List.getElem?_eq_getElem hi];exact⟨by simpa[qI] using c2 0 _ rfl,s,by simpa[qI] using c2 1 _ rfl,jd hs⟩
def okS (s:ByteArray):Prop:=s.size≤maxLen
def Py (f:aO):Prop:=okS f.1∧∀s∈f.2,okS s
theorem qJ:Tryz.prog.cellsOf 27=2:=by kernel_rfl
theorem EZ:Tryz.prog.cellsOf 25=1:=by kernel_rfl
theorem wX:Tryz.prog.bytesOf 27=40:=by kernel_rfl
theorem Hu:Tryz.prog.bytesOf 9=16:=by kernel_rfl
set_option maxRecDepth 100000 in
theorem KS:Opens enc W 9 bsK okS:=by
 intro n cs x h _;obtain⟨s,hs,_,hsz⟩:=DataW.trod_string Tryz.underlying9 h;exact⟨s,hs,hsz⟩
set_option maxRecDepth 100000 in
theorem tL:Opens enc W 27 qI Py:=by
 intro n cs x h hw;obtain⟨y0,y1,m,hx,hl,h0,h1⟩:=trod_struct2 Tryz.underlying27 h;rw[qJ] at hl
 match cs,hl with
 |[c0,c1],_=>
  have e0:Tryz.prog.cellsOf 9=1:=oM;have e1:Tryz.prog.cellsOf 25=1:=EZ;simp only[e0,e1,List.drop_zero,List.drop_succ_cons,List.take_succ_cons,List.take_zero] at h0 h1;obtain⟨s,hs,_,hsz⟩:=DataW.trod_string Tryz.underlying9 h0;simp only[List.cons.injEq,and_true] at hs;have hw2:jA 25 y1.1:=by
   unfold jA at hw⊢;rw[hx,DataW.weights,Tryz.underlying27] at hw;simp only[List.map_cons,List.map_nil,DataW.weightsEach,List.all_append,Bool.and_eq_true] at hw;exact hw.2.1
  obtain⟨l,hl,hlk⟩:=Dp Tryz.underlying25 oM (by rw[Hu];decide) (by decide) KS h1 hw2;exact⟨(s,l),⟨c1,by show[c0,c1]=_;rw[hs],hl⟩,hsz,hlk⟩
set_option maxRecDepth 100000 in
theorem E5 {b0:Nat} {v:Value} {d:DataW H} {p:List MemPlace} (hv:Value.okWide Tryz.prog W .any b0 24 v) (h:DataW.Trod enc Tryz.prog W 0 (fun _=>true) true 24 v d p) (hw:jA 24 d):∃l,Facts W v l∧∀f∈l,Py f:=by
 obtain⟨a0,X4,cap0,rfl⟩:=okWide_slice Tryz.underlying24 hv;obtain⟨fuel,hf⟩:=h;obtain⟨l,h1,h2,h3⟩:=G5 Tryz.underlying24 qJ (by rw[wX];decide) (by decide) tL (x:=(d,p)) (by simpa[Value.cells] using hf) hw;rw[wX] at h3;exact⟨l,KR h1 (by unfold reachBytes at h3;omega),h2⟩
end Go.Proofs.YtafmbokfkbccaaaGreatDoor
namespace Go.Proofs.YtafmbokfkbccaaaGreatDoor
open Go.RowKit Go.Sort
def eZ (B:Nat→Prop) (w:World) (v:Value) (l:List au):Prop:=
 l.length≤1000∧∃a cap,v=.slice a l.length cap∧(l≠[]→∃b off,a=some ⟨b,off,none⟩∧B b∧b<w.heap.size∧∀i,i<l.length→w.cell? ⟨b,off+i*2,none⟩=some (.string (l.getD i aA).1)∧∃s,w.cell? ⟨b,off+i*2+1,none⟩=some s∧Strs w s (l.getD i aA).2∧∀k,(l.getD i aA).2≠[]→s.ownBlock=some k→B k)
theorem eZ.nil (B:Nat→Prop) (w:World):eZ B w (.slice none 0 0) []:=⟨by simp,none,0,rfl,fun h=>absurd rfl h⟩
theorem eZ.facts {B:Nat→Prop} {w:World} {v:Value} {l:List au} (h:eZ B w v l):Facts w v l:=by
 obtain⟨h0,a,cap,rfl,h1⟩:=h;refine⟨by omega,a,cap,rfl,fun hl=> ?_⟩;obtain⟨b,off,rfl,_,hb,hc⟩:=h1 hl;refine⟨b,off,rfl,hb,fun i hi=> ?_⟩;obtain⟨c1,s,c2,c3,_⟩:=hc i hi;exact⟨c1,s,c2,c3⟩
theorem eZ.kept {B:Nat→Prop} {w w':World} {v:Value} {l:List au} (h:eZ B w v l) (hs:w.heap.size≤w'.heap.size) (hk:∀k,k<w.heap.size→B k→w'.heap[k]?=w.heap[k]?):eZ B w' v l:=by
 obtain⟨h0,a,cap,rfl,h1⟩:=h;refine⟨h0,a,cap,rfl,fun hl=> ?_⟩;obtain⟨b,off,rfl,hB,hb,hc⟩:=h1 hl;refine⟨b,off,rfl,hB,Nat.lt_of_lt_of_le hb hs,fun i hi=> ?_⟩;obtain⟨c1,s,c2,c3,c4⟩:=hc i hi;have e:=hk b hb hB;refine⟨by rw[World.cell?_of_block (w:=w) e];exact c1,s,by rw[World.cell?_of_block (w:=w) e];exact c2,?_,c4⟩
 by_cases hne:(l.getD i aA).2=[]
 ·rw[hne] at c3⊢;exact c3.nil
 ·exact c3.kept hs fun k e'=>hk k (c3.block_lt hne k e') (c4 k hne e')
theorem eZ.below {B:Nat→Prop} {w w':World} {v:Value} {l:List au} (h:eZ B w v l) (k:Below w.heap.size w w'):eZ B w' v l:=h.kept k.size fun i hi _=>k.block i hi
theorem eZ.mono {B B':Nat→Prop} {w:World} {v:Value} {l:List au} (h:eZ B w v l) (hm:∀k,k<w.heap.size→B k→B' k):eZ B' w v l:=by
 obtain⟨h0,a,cap,rfl,h1⟩:=h;refine⟨h0,a,cap,rfl,fun hl=> ?_⟩;obtain⟨b,off,rfl,hB,hb,hc⟩:=h1 hl;refine⟨b,off,rfl,hm b hb hB,hb,fun i hi=> ?_⟩;obtain⟨c1,s,c2,c3,c4⟩:=hc i hi;exact⟨c1,s,c2,c3,fun k hne e=>hm k (c3.block_lt hne k e) (c4 k hne e)⟩
theorem kI.Qg {base:Nat} {w:World} {v:Value} {l:List au} (h:kI w base v l) (hl:l.length≤1000):eZ (From base) w v l:=by
 obtain⟨xs,ho,hx⟩:=h;rcases ho.2 with⟨rfl,e⟩|⟨g,cap,cur,rfl,hbg,hg,_,_,hcs,htake⟩
 ·have:l=[]:=List.eq_nil_of_length_eq_zero e;subst this;exact eZ.nil _ _
 ·refine⟨hl,_,cap,rfl,fun _=>⟨g,0,rfl,hbg,(Array.getElem?_eq_some_iff.1 hg).1,fun i hi=> ?_⟩⟩;obtain⟨c1,s,c2,c3,c4⟩:=hx i hi;have cellOf:∀j u,xs[j]?=some u→w.cell? ⟨g,0+j,none⟩=some u:=fun j u hu=>by
   have:=ho.cells (g:=g) rfl j u hu
   rwa [Addr.add_lit] at this
  exact⟨cellOf _ _ c1,s,by rw[Nat.add_assoc];exact cellOf _ _ c2,c3,fun k _ e=>(c4 k e).1⟩
end Go.Proofs.YtafmbokfkbccaaaGreatDoor
