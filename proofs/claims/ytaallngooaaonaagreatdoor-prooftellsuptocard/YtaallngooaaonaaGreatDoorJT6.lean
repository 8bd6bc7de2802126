import Derived.Test.YtaallngooaaonaaGreatDoorJT5
import Derived.Test.YtaallngooaaonaaGreatDoorJT3
import Derived.Test.YtaallngooaaonaaGreatDoorJT2
open Go.RowKit Go.Sort Go.ChangeShapes Go.WideShapes Go.ChangeAt Go.Deep
set_option maxHeartbeats 2000000
set_option maxRecDepth 100000
namespace Go.Proofs.YtaallngooaaonaaGreatDoor
def fP (s:List aN):Prop:=s.Pairwise fun a b=>fO a b<0
theorem S9 {a b c:aN} (h:fO a b≤0) (k:fO b c<0):fO a c<0:=by
 by_cases e:fO a b=0
 ·rw[aW.zero _ _ e];exact k
 exact aW.trans a b c (by omega) k
theorem lt_irrefl {a:aN} (h:fO a a<0):False:=by rw[aW.refl] at h;omega
theorem Nh {a b:aN} (h:fO a b<0) (k:fO b a<0):False:=lt_irrefl (aW.trans a b a h k)
theorem fP.ext:∀{s t:List aN},fP s→fP t→(∀f,f∈s↔f∈t)→s=t
 |[],[],_,_,_=>rfl
 |[],b::t,_,_,h=>by have:=(h b).2 (List.mem_cons_self ..);cases this
 |a::s,[],_,_,h=>by have:=(h a).1 (List.mem_cons_self ..);cases this
 |a::s,b::t,hs,ht,h=>by
  have hs':=List.pairwise_cons.1 hs;have ht':=List.pairwise_cons.1 ht;have e:a=b:=by
   rcases List.mem_cons.1 ((h a).1 (List.mem_cons_self ..)) with e|e;·exact e
   rcases List.mem_cons.1 ((h b).2 (List.mem_cons_self ..)) with e'|e';·exact e'.symm
   exact absurd (ht'.1 a e) fun k=>Nh k (hs'.1 b e')
  subst e;rw[fP.ext hs'.2 ht'.2 fun f=>⟨fun hf=>?_,fun hf=>?_⟩]
  ·rcases List.mem_cons.1 ((h f).1 (List.mem_cons_of_mem _ hf)) with e|e;·subst e;exact absurd (hs'.1 f hf) lt_irrefl
   exact e
  rcases List.mem_cons.1 ((h f).2 (List.mem_cons_of_mem _ hf)) with e|e;·subst e;exact absurd (ht'.1 f hf) lt_irrefl
  exact e
def jC (s l:List aN):Prop:=fP s∧(∀f,f∈s↔f∈l)∧s.length≤l.length
theorem getD_mem_take {l:List aN} {i k:Nat} (hi:i<k) (hk:k≤l.length):l.getD i aC∈l.take k:=by rw[List.getD_eq_getElem?_getD,List.getElem?_eq_getElem (by omega)];exact List.mem_take_iff_getElem.2 ⟨i,by omega,rfl⟩
theorem oQ {l:List aN} {k:Nat} {f:aN} (h:f∈l.take k):∃i,i<k∧i<l.length∧f=l.getD i aC:=by obtain⟨i,hi,rfl⟩:=List.mem_take_iff_getElem.1 h;exact⟨i,by omega,by omega,by rw[List.getD_eq_getElem?_getD,List.getElem?_eq_getElem (by omega)];rfl⟩
theorem take_succ {l:List aN} {k:Nat} (h:k<l.length):l.take (k+1)=l.take k++[l.getD k aC]:=by rw[List.take_succ_eq_append_getElem h,List.getD_eq_getElem?_getD,List.getElem?_eq_getElem h];rfl
theorem sZ {l:List aN} (h:l.Pairwise fun a b=>fO a b≤0) {i j:Nat} (hij:i≤j) (hj:j<l.length):fO (l.getD i aC) (l.getD j aC)≤0:=by
 by_cases e:i=j
 ·subst e;rw[aW.refl];exact Int.le_refl _
 have:=List.pairwise_iff_getElem.1 h i j (by omega) hj (by omega);rw[List.getD_eq_getElem?_getD,List.getD_eq_getElem?_getD,List.getElem?_eq_getElem (by omega),List.getElem?_eq_getElem hj];exact this
def newP (l:List aN) (k:Nat):Bool:=decide (k=0)|| !decide (fO (l.getD (k-1) aC) (l.getD k aC)=0)
theorem Di {l:List aN} (h:l.Pairwise fun a b=>fO a b≤0):∀k,k≤l.length→jC (pick (newP l) l k) (l.take k)
 |0,_=>⟨List.Pairwise.nil,fun f=>by simp[pick],by simp[pick]⟩
 |k+1,hk=>by
  obtain⟨i1,i2,_⟩:=Di h k (by omega);have hlen:(pick (newP l) l (k+1)).length≤(l.take (k+1)).length:=by have:=BQ (newP l) l (k+1);rw[List.length_take];omega
  rw[take_succ (by omega)] at hlen;rw[take_succ (by omega)];cases hp:newP l k with
  |true=>
   have e:pick (newP l) l (k+1)=pick (newP l) l k++[l.getD k aC]:=by simp[pick,hp]
   rw[e];refine⟨?_,fun f=>by rw[List.mem_append,List.mem_append,i2 f],by rw[←e];exact hlen⟩;unfold fP;rw[List.pairwise_append];refine⟨i1,List.pairwise_singleton _ _,fun a ha b hb=>?_⟩;rw[List.mem_singleton] at hb;subst hb;obtain⟨i,hi,hil,rfl⟩:=oQ ((i2 a).1 ha);refine S9 (sZ h (i:=i) (j:=k-1) (by omega) (by omega)) ?_;have h1:=sZ h (i:=k-1) (j:=k) (by omega) (by omega);have h2:fO (l.getD (k-1) aC) (l.getD k aC)≠0:=by intro e;unfold newP at hp;rw[decide_eq_true e,decide_eq_false (by omega)] at hp;cases hp
   omega
  |false=>
   have e:pick (newP l) l (k+1)=pick (newP l) l k:=by simp[pick,hp]
   rw[e];refine⟨i1,fun f=>?_,by rw[←e];exact hlen⟩;rw[i2 f,List.mem_append,List.mem_singleton];refine⟨Or.inl,fun hf=>hf.elim id fun hf=>?_⟩;unfold newP at hp;rw[Bool.or_eq_false_iff,decide_eq_false_iff_not,Bool.not_eq_false',decide_eq_true_eq] at hp;have:=aW.zero _ _ hp.2;rw[hf,←this];exact getD_mem_take (by omega) (by omega)
theorem tq (q:aN→Bool) (l:List aN):∀k,k≤l.length→pick (fun i=>q (l.getD i aC)) l k=(l.take k).filter q
 |0,_=>by simp[pick]
 |k+1,hk=>by have e:pick (fun i=>q (l.getD i aC)) l (k+1)=if q (l.getD k aC) then pick (fun i=>q (l.getD i aC)) l k++[l.getD k aC] else pick (fun i=>q (l.getD i aC)) l k:=rfl;rw[e,take_succ (by omega),List.filter_append,←tq q l k (by omega)];generalize l.getD k aC=x;cases hq:q x <;> simp[hq]
theorem jC.same {s t l m:List aN} (h:jC s l) (k:jC t m) (e:∀f,f∈l↔f∈m):s=t:=
 h.1.ext k.1 fun f=>(h.2.1 f).trans ((e f).trans (k.2.1 f).symm)
def bsK:aB ByteArray where
 size:=1
 is:=fun _ _ c t=>c=[.string t]
 len:=fun h=>by subst h;rfl
 one:=fun h u hu=>by subst h;simp at hu;subst hu;rfl
 kept:=fun h _ _=>h
 mono:=fun h _=>h
theorem aB.jY {α:Type} {P:Program} {K:aB α} {t ty:TypeId} {lo bytes:Nat} {w:World} {v:Value} {l:List α} (h:K.own ty lo w v l) {i:TypeInfo} {z:Value}
  (ht:P.underlying t=some (.slice ty)) (hi:P.info? ty=some i) (hz:i.zero=some z) (hsize:i.size=K.size) (hby:i.bytes=bytes) (hzs:z.cells.size=K.size) (hsz:0<K.size)
  {c:List Value} {x:α} (hc:K.is (fun k=>lo≤k∧v.ownBlock≠some k) w c x) (hl:(l.length+1)*bytes≤140737488355328) (hl2:l.length+1≤maxLen) (hlo:lo≤w.heap.size):
  ∃v' w',(Builtin.append_ #[t,t] t #[v,.slice (some ⟨w.heap.size,0,none⟩) 1 1]).run P (w.alloc (.cells c.toArray ty))=.ok v' w'∧K.own ty lo w' v' (l++[x])∧(w.alloc (.cells c.toArray ty)).grownBy w' v.ownBlock∧w.drawn≤w'.drawn∧
   ∀k,v'.ownBlock=some k→v.ownBlock=some k∨w.heap.size<k:=by
 obtain⟨xs,ho,hx⟩:=h;have hcl:=K.len hc;have hnews:∀j u,c[j]?=some u→(w.alloc (.cells c.toArray ty)).cell? ((⟨w.heap.size,0,none⟩:Addr).add j)=some u:=by intro j u hu;rw[Addr.add_lit,Nat.zero_add,cell_of_row _ w.heap.size j c.toArray ty (0,0) (heap_alloc_new w _)];simpa using hu
 obtain⟨v',w',hrun,r1,r2,r3,r4⟩:=dZ (P:=P) (w.alloc (.cells c.toArray ty)) lo t t ty i z K.size bytes ht hi hz hsize hby hzs hsz v l.length xs (ho.alloc _) ⟨w.heap.size,0,none⟩ 1 1 c (by rw[hcl];simp) hnews
  (K.one hc) hl2 hl (by simp;omega)
 have hxl:xs.length=l.length*K.size:=ho.1;have own':∀k,v'.ownBlock=some k→v.ownBlock=some k∨w.heap.size<k:=fun k e=>by
  rcases r4 k e with e|e;·exact Or.inl e
  simp at e;exact Or.inr (by omega)
 have keep:∀k,k<w.heap.size→(lo≤k∧v.ownBlock≠some k)→w'.heap[k]?=w.heap[k]?:=fun k hk hB=>
  (r2.block k (by simp;omega) (fun e=>hB.2 e.symm)).trans (Below.heap_alloc w _ k hk)
 have hsz':w.heap.size≤w'.heap.size:=Nat.le_trans (by simp) r2.size;have move:∀{c:List Value} {y:α},K.is (fun k=>lo≤k∧v.ownBlock≠some k) w c y→K.is (fun k=>lo≤k∧v'.ownBlock≠some k) w' c y:=fun {c y} hy=>
  K.kept (K.mono hy fun k hk hB=>(⟨⟨hB.1,fun e=>by rcases own' k e with e|e;exact hB.2 e;omega⟩,hB⟩:(lo≤k∧v'.ownBlock≠some k)∧(lo≤k∧v.ownBlock≠some k))) hsz' (fun k hk hB=>keep k hk hB.2) |> fun h=>K.mono h fun _ _ hB=>hB.1
 refine⟨v',w',hrun,⟨xs++c,by simpa using r1,fun j y hj=>?_⟩,r2,r3,own'⟩
 by_cases hjl:j<l.length
 ·rw[List.getElem?_append_left hjl] at hj;obtain⟨d,d1,d2⟩:=hx j y hj;refine⟨d,move d1,fun q u hu=>?_⟩;have:=d2 q u hu;rw[List.getElem?_append_left (List.getElem?_eq_some_iff.1 this).1];exact this
 rw[List.getElem?_append_right (by omega)] at hj;have hj':j=l.length:=by have:=(List.getElem?_eq_some_iff.1 hj).1;simp at this;omega
 subst hj';simp at hj;subst hj;refine⟨c,move hc,fun q u hu=>?_⟩;rw[List.getElem?_append_right (by omega),hxl,Nat.add_sub_cancel_left];exact hu
theorem ak.more {w0 w w':World} {v:Value} {o:Obj} (h:ak w0 w) (hg:(w.alloc o).grownBy w' v.ownBlock) (hd:w.drawn≤w'.drawn) (hv:∀k,v.ownBlock=some k→w0.heap.size≤k):ak w0 w':=
 ak.of_below ((h.alloc o).below.grown hg (h.alloc o).size hv) (Nat.le_trans h.drawn hd)
theorem Dj {lo:Nat} {w:World} {v:Value} {l:List ByteArray} (h:bsK.own 9 lo w v l) (hl:l.length≤8796093022208):Strs w v l:=by obtain⟨⟨h0,_⟩,a,cap,rfl,h1⟩:=aB.fq h hl;refine⟨h0,a,cap,rfl,fun hne=>?_⟩;obtain⟨b,off,rfl,_,hb,hc⟩:=h1 hne;refine⟨b,off,rfl,hb,fun i hi=>?_⟩;obtain⟨c,rfl,c2⟩:=hc i _ (List.getElem?_eq_getElem hi);have:=c2 0 _ rfl;rw[List.getD_eq_getElem?_getD,List.getElem?_eq_getElem hi];simpa[bsK] using this
theorem z8 {lo:Nat} {w:World} {v:Value} {l:List ByteArray} (h:bsK.own 9 lo w v l) (x:ByteArray) (hl:l.length+1≤8796093022208) (hlo:lo≤w.heap.size):
  ∃v' w',(Builtin.append_ #[25,25] 25 #[v,.slice (some ⟨w.heap.size,0,none⟩) 1 1]).run Tryz.prog (w.alloc (.cells #[.string x] 9))=.ok v' w'∧bsK.own 9 lo w' v' (l++[x])∧(w.alloc (.cells #[.string x] 9)).grownBy w' v.ownBlock∧w.drawn≤w'.drawn∧
   ∀k,v'.ownBlock=some k→v.ownBlock=some k∨w.heap.size<k:=by
 obtain⟨i,i1,i2,i3,i4⟩:=yu;exact aB.jY h Tryz.underlying25 i1 i2 i3 i4 rfl (by decide) (c:=[.string x]) rfl (by omega) (by simp[maxLen];omega) hlo
theorem Aa:∀args w,(callFunc 122 args).run Tryz.prog w=.ok (.enter 122 args) w:=enters_of Tryz.func122 (by kernel_rfl) rfl
theorem GZ (c:Nat) (u:Value) (l:List aD) (w0:World) (hc:w0.cell? ⟨c,0,none⟩=some u) (hb:c<w0.heap.size) (hu:bq.sl bf w0 u l):Ng 122 #[.pointer (some ⟨c,0,none⟩)] l w0:=by
 intro w v hL;have HG:=au (RU u l v w (aB.aK hu hL));have hc':w.cell? ⟨c,0,none⟩=some u:=by rw[hL.cell hb];exact hc
 have hb':c<w.heap.size:=Nat.lt_of_lt_of_le hb hL.size;obtain⟨a,cap,rfl⟩:=aB.slice hu;clear hu hc hb hL;unfold kX at HG⊢;generalize(dB l v).getD ByteArray.empty=s at*;generalize(dB l v).isSome=b at*;show Calls _ _ #[.string v,.pointer (some ⟨c,0,none⟩)] _ _
 go_enter Tryz.func122,Tryz.ntmps122
 go_wp2_with (go_at_call 89;refine HG.out.mono ?_;rintro e w2 ⟨rfl,hL2⟩;replace hL2:=au hL2)
 go_ret2
 exact⟨rfl,bK hL2⟩
theorem oU {l:List aD} {ts:List dK} {j:Nat} {t:dK} {r:List ByteArray} (h:ts[j]?=some t) (hr:aU l (ts.take j)=some r):
  aU l (ts.take (j+1))=(bE l t).map fun s=>r++[s]:=by
 have gen:∀(q:List dK) (r:List ByteArray),aU l q=some r→aU l (q++[t])=(bE l t).map fun s=>r++[s]:=by
  intro q
  induction q with
  |nil=>
   intro r hr;cases hr;simp only[List.nil_append,aU];cases bE l t <;> rfl
  |cons x q ih=>
   intro r hr;simp only[List.cons_append,aU] at hr⊢;cases e:bE l x with
   |none=>rw[e] at hr;cases hr
   |some s=>
    rw[e] at hr;dsimp only at hr⊢;cases e2:aU l q with
    |none=>rw[e2] at hr;cases hr
    |some r'=>
     rw[e2] at hr;cases hr;rw[ih r' e2];cases bE l t <;> rfl
 rw[List.take_add_one,h];exact gen _ r hr
theorem oV {l:List aD}:∀{ts q:List dK},aU l ts=none→aU l (ts++q)=none
 |[],_,h=>by cases h
 |t::ts,q,h=>by
  simp only[List.cons_append,aU] at h⊢;cases e:bE l t with
  |none=>rfl
  |some s=>
   rw[e] at h;dsimp only at h⊢;cases e2:aU l ts with
   |none=>rw[oV e2]
   |some r=>rw[e2] at h;cases h
theorem oW {l:List aD} {ts:List dK} {j:Nat} (h:aU l (ts.take j)=none):aU l ts=none:=by
 have:=oV (q:=ts.drop j) h
 rwa [List.take_append_drop] at this
def filled (a:aI) (l:List aD):aN:=(bg a l).getD aC
theorem bV (w:World) (o:Obj) (k:Nat):(w.alloc o).heap[k]?=if k=w.heap.size then some o else w.heap[k]?:=by
 split;·rename_i h;subst h;exact heap_alloc_new w o
 rename_i h
 by_cases hk:k<w.heap.size
 ·exact Below.heap_alloc w o k hk
 rw[Array.getElem?_eq_none (by simp;omega),Array.getElem?_eq_none (by omega)]
theorem Ka {w:World} {R:Nat} {u0:Value} {t:TypeId} (h:w.heap[R]?=some (.cells #[u0] t (0,0))):w.cell? ⟨R,0,none⟩=some u0∧w.frozen? ⟨R,0,none⟩=false∧R<w.heap.size:=
 ⟨by rw[cell_of_row _ _ _ _ _ _ h];rfl,by simp[World.frozen?,h],(Array.getElem?_eq_some_iff.1 h).1⟩
theorem iH {w:World} {R:Nat} {u0 u1:Value} {t:TypeId} (h:w.heap[R]?=some (.cells #[u0,u1] t (0,0))):w.cell? ⟨R,0,none⟩=some u0∧w.cell? ⟨R,1,none⟩=some u1∧w.frozen? ⟨R,0,none⟩=false∧w.frozen? ⟨R,1,none⟩=false∧R<w.heap.size:=
 ⟨by rw[cell_of_row _ _ _ _ _ _ h];rfl,by rw[cell_of_row _ _ _ _ _ _ h];rfl,by simp[World.frozen?,h],by simp[World.frozen?,h],(Array.getElem?_eq_some_iff.1 h).1⟩
theorem dz {w:World} {g j:Nat} {cs:Array Value} {t:TypeId} {fr:Nat×Nat} (h:w.heap[g]?=some (.cells cs t fr)) (u:Value):(w.setCell ⟨g,j,none⟩ u).heap[g]?=some (.cells (cs.setIfInBounds j u) t fr):=by simp[World.setCell,Array.getElem?_modify,h]
theorem qB {w:World} {R:Nat} {u0 u1:Value} {t:TypeId} {fr:Nat×Nat} (h:w.heap[R]?=some (.cells #[u0,u1] t fr)) (x y:Value):
  ((w.setCell ⟨R,0,none⟩ x).setCell ⟨R,1,none⟩ y).cell? ⟨R,0,none⟩=some x∧((w.setCell ⟨R,0,none⟩ x).setCell ⟨R,1,none⟩ y).cell? ⟨R,1,none⟩=some y:=by
 have h2:=dz (j:=1) (dz (j:=0) h x) y;exact⟨by rw[cell_of_row _ _ _ _ _ _ h2];rfl,by rw[cell_of_row _ _ _ _ _ _ h2];rfl⟩
theorem wL {w w':World} {n:ByteArray} {s:Value} {r:List ByteArray} {lo:Nat} (h:bsK.own 9 lo w s r) (hl:r.length≤8796093022208) (hk:∀k,lo≤k→w'.heap[k]?=w.heap[k]?) (hs:w.heap.size≤w'.heap.size):dD w' (.agg #[.string n,s]) (n,r):=
 ⟨s,rfl,Dj (aB.dS h hs fun k _ hlo=>hk k hlo) hl⟩
def X4 (w w':World) (v:Value):Prop:=∃n s,v=.agg #[n,s]∧∀k,s.ownBlock=some k→w.heap.size≤k∧k<w'.heap.size
theorem PV (a:aI) (tv u:Value) (l:List aD) (w:World) (ht:eD.sl bf w tv a.terms) (hu:bq.sl bf w u l):
  Calls Tryz.prog 92 #[.agg #[.bool a.no,.string (bs a.name),tv],u] w fun e w'=>∃v,e=.returned (.tuple #[v,.bool (bg a l).isSome])∧dD w' v (filled a l)∧ak w w'∧X4 w w' v:=by
 obtain⟨sa,cap,rfl⟩:=aB.slice ht;obtain⟨sb,Eu,rfl⟩:=aB.slice hu;have HT:=au ht;have HU:=au hu;have hn:=ht.1.1;clear ht hu;obtain⟨no,name,ts⟩:=a;dsimp only at*;have F:Hid (∀r,aU l ts=r→bg ⟨no,name,ts⟩ l=r.map fun x=>(bs name,x)):=fun r h=>by unfold bg;rw[h];cases r <;> rfl
 unfold filled;generalize hfb:bg ⟨no,name,ts⟩ l=fb at*;clear hfb;generalize bs name=nm at*
 go_enter Tryz.func92,Tryz.ntmps92
 go_wp2
 go_loopg [19] ts.length (fun g i wr=>∃j:Nat,j+g=ts.length∧i=.int .i64 j∧∃r o,Hid (aU l (ts.take j)=some r)∧Hid (bsK.own 9 (w.heap.size+4) wr o r)∧Hid (r.length=j)∧Hid (ak w wr)∧w.heap.size+4≤wr.heap.size∧
  Hid (wr.heap[w.heap.size+1]?=some (.cells #[.slice sb l.length Eu] 106 (0,0)))∧Hid (wr.heap[w.heap.size+2]?=some (.cells #[.string {data:=#[]},.slice none 0 0] 27 (0,0)))∧Hid (wr.heap[w.heap.size+3]?=some (.cells #[.string nm,o] 27 (0,0))))
 case atStart=>
  refine⟨0,by omega,rfl,[],.slice none 0 0,(rfl:_=_),bsK.fD _ _ _,(rfl:_=_),((by repeat (first|exact ak.refl _|assumption|refine ak.drewN ?_ _|refine ak.drew ?_|refine ak.alloc ?_ _|refine ak.grow ?_ _)):ak _ _),by simp,?_,?_,?_⟩
  all_goals
   show _=_;simp only[bV,World.size_alloc]
   repeat (first|rw[if_pos trivial]|rw[if_pos (by omega)]|rw[if_neg (by omega)])
 obtain⟨j,hj,rfl,r,o,HR,HO,hrl,HL,hsz,H1,H2,H3⟩:=hrel;obtain⟨ao,co,rfl⟩:=aB.aY HO.out
 by_cases hlt:j<ts.length
 ·obtain⟨x,hx⟩:∃x,ts[j]?=some x:=⟨_,List.getElem?_eq_getElem hlt⟩;obtain⟨b1,o1,_,rfl,hb1,rfl,hc⟩:=aB.bO HT.out hx;have d0:wr.cell? ⟨b1,o1+j*2,none⟩=some (.bool x.1):=by rw[HL.out.cell hb1];exact hc 0 _ rfl
  have d1:wr.cell? ⟨b1,o1+j*2+1,none⟩=some (.string (bs x.2)):=by rw[HL.out.cell hb1];exact hc 1 _ rfl
  have hbr:b1<wr.heap.size:=by omega
  have HS:=au (oU hx HR.out);obtain⟨wt,hwt⟩:∃wt,wt=wr.alloc (.cells #[.bool x.1,.string (bs x.2)] 101):=⟨_,rfl⟩;have hLt:ak w wt:=by rw[hwt];exact HL.out.alloc _
  have hst:wt.heap.size=wr.heap.size+1:=by rw[hwt];simp
  have hbl:∀k,k<wr.heap.size→wt.heap[k]?=wr.heap[k]?:=fun k hk=>by rw[hwt];exact Below.heap_alloc _ _ _ hk
  have K1:=Ka ((hbl _ (by omega)).trans H1.out);have HW:Hid (Calls Tryz.prog 90 #[.agg #[.bool x.1,.string (bs x.2)],.func (.func 122) #[] #[.pointer (some ⟨w.heap.size+1,0,none⟩)]] wt fun e w2=>e=.returned (kX (bE l x))∧ak wt w2):=
   Mv _ _ Aa x l wt wt (GZ (w.heap.size+1) _ l wt K1.1 K1.2.2 (aB.aK HU.out hLt)) (ak.refl _)
  rw[hwt] at HW;have HWT:=au hwt;clear hc hx K1 hwt;obtain⟨x1,x2⟩:=x;dsimp only at*;cases hw:bE l (x1,x2) with
  |none=>
   rw[hw] at HW HS;have HF:Hid (fb=none):=F.out none (oW HS.out);have hw0:kX none=.tuple #[.string ByteArray.empty,.bool false]:=rfl;rw[hw0] at HW;clear hw hw0 HS;generalize bs x2=kx at*
   go_wp2_with fail
   refine HW.out.mono ?_;rintro e w2 ⟨rfl,hL2⟩;rw[←HWT.out] at hL2;have hb2:∀k,k<wr.heap.size→w2.heap[k]?=wr.heap[k]?:=fun k hk=>(hL2.block (by omega)).trans (hbl k hk);have Z2:=au ((hb2 _ (by omega)).trans H2.out);obtain⟨q0,q1,p0,p1,q2⟩:=iH Z2.out;have HL2:=au (hLt.trans hL2);clear hL2 hb2 HW;go_wp2;obtain⟨r0,r1⟩:=qB Z2.out (.string {data:=#[]}) (.slice none 0 0);refine bodyPost_ret (v:=.tuple #[.agg #[.string {data:=#[]},.slice none 0 0],.bool false]) (by simp[results,Tryz.results92,go_sem,r0,r1]) rfl ⟨_,by rw[HF.out];rfl,?_,?_,_,_,rfl,fun k e=>by simp[Value.ownBlock] at e⟩
   ·rw[HF.out];exact⟨_,rfl,by simp[aC],none,0,rfl,fun h=>absurd rfl h⟩
   exact(HL2.out.setCell (by show w.heap.size≤w.heap.size+2;omega) _).setCell (by show w.heap.size≤w.heap.size+2;omega) _
  |some s=>
   rw[hw] at HW HS;have HS1:Hid (aU l (ts.take (j+1))=some (r++[s])):=HS.out;have hw0:kX (some s)=.tuple #[.string s,.bool true]:=rfl;rw[hw0] at HW;clear hw hw0 HS;generalize bs x2=kx at*
   go_wp2_with fail
   refine HW.out.mono ?_;rintro e w2 ⟨rfl,hL2⟩;rw[←HWT.out] at hL2;have hb2:∀k,k<wr.heap.size→w2.heap[k]?=wr.heap[k]?:=fun k hk=>(hL2.block (by omega)).trans (hbl k hk);have hs2:wr.heap.size<w2.heap.size:=by have:=hL2.size;omega
   obtain⟨q0,q1,p0,p1,q2⟩:=iH ((hb2 _ (by omega)).trans H3.out);obtain⟨v',w4,hrun,hO4,hg4,hd4,hv4⟩:=z8 (aB.dS HO.out (Nat.le_of_lt hs2) fun k hk _=>hb2 k hk) s (by have:=hrl.out;omega) (by omega);have hlo:∀k,(Value.slice ao r.length co).ownBlock=some k→w.heap.size+4≤k:=fun k e=>(aB.dL HO.out e).1;have hb4:∀k,k<w.heap.size+4→w4.heap[k]?=wr.heap[k]?:=fun k hk=>by rw[hg4.block k (by simp;omega) (fun e=>by have:=hlo k e.symm;omega),Below.heap_alloc _ _ _ (by omega)];exact hb2 k (by omega)
   have hs4:w2.heap.size<w4.heap.size:=by have:=hg4.size;simp at this;omega
   have HL4:=au ((hLt.trans hL2).more hg4 hd4 fun k e=>by have:=hlo k e;omega);have Z3:=au ((hb4 _ (by omega)).trans H3.out);obtain⟨_,y1,_,t1,y2⟩:=iH Z3.out;have Z1:=au ((hb4 _ (by omega)).trans H1.out);have Z2:=au ((hb4 _ (by omega)).trans H2.out);obtain⟨a4,n4,c4,rfl⟩:∃a n c,v'=.slice a n c:=by obtain⟨a,c,e⟩:=aB.aY hO4;exact⟨a,_,c,e⟩
   have HR4:=au hrun;have HO4:=au hO4;clear hL2 hb2 HW hrun hO4 hg4 hd4 hv4 hb4
   go_wp2_with (at_builtin;refine wpList_append_run rfl (.tmp 33) (.tmp 35) 25 rfl _ _ _ _ rfl rfl HR4.out ?_)
   go_roundg (ts.length- (j+1))
   case measure=>omega
   case rel=>
    refine⟨j+1,by omega,by go_num,r++[s],.slice a4 n4 c4,HS1,?_,(by simp[hrl.out]:(r++[s]).length=j+1),?_,?_,?_,?_,?_⟩;·exact aB.dS HO4.out (by simp[World.setCell]) fun k _ hk=>Below.heap_setCell _ _ _ _ (by show k≠w.heap.size+3;omega)
    ·exact(ak.setCell HL4.out (p:=⟨w.heap.size+1+1+1,1,none⟩) (by show w.heap.size≤w.heap.size+3;omega) _:ak _ _)
    ·simp[World.setCell];omega
    ·show _=_;rw[Below.heap_setCell _ _ _ _ (by show w.heap.size+1≠w.heap.size+3;omega)];exact Z1.out
    ·show _=_;rw[Below.heap_setCell _ _ _ _ (by show w.heap.size+2≠w.heap.size+3;omega)];exact Z2.out
    show _=_;rw[dz Z3.out];rfl
 have e:j=ts.length:=by omega
 subst e;have HR1:Hid (fb=some (nm,r)):=by have:=HR.out;rw[List.take_length] at this;exact F.out _ this
 obtain⟨q0,q1,p0,p1,q2⟩:=iH H2.out;obtain⟨y0,y1,t0,t1,y2⟩:=iH H3.out;go_wp2;obtain⟨r0,r1⟩:=qB (R:=w.heap.size+1+1) H2.out (.string nm) (.slice ao r.length co);refine bodyPost_ret (v:=.tuple #[.agg #[.string nm,.slice ao r.length co],.bool true]) (by simp[results,Tryz.results92,go_sem,r0,r1]) rfl ⟨_,by rw[HR1.out];rfl,?_,?_,_,_,rfl,fun k e=>?_⟩
 ·rw[HR1.out];refine wL HO.out (by have:=hrl.out;omega) (fun k hk=>?_) (by simp[World.setCell]);rw[Below.heap_setCell _ _ _ _ (by show k≠w.heap.size+2;omega),Below.heap_setCell _ _ _ _ (by show k≠w.heap.size+2;omega)]
 ·exact(HL.out.setCell (by show w.heap.size≤w.heap.size+2;omega) _).setCell (by show w.heap.size≤w.heap.size+2;omega) _
 have:=aB.dL HO.out e;rw[size_setCell,size_setCell];omega
theorem Ni (a:aI) (tv u:Value) (l:List aD) (w:World) (ht:eD.sl bf w tv a.terms) (hu:bq.sl bf w u l):
  Calls Tryz.prog 92 #[.agg #[.bool a.no,.string (bs a.name),tv],u] w fun e w'=>∃v,e=.returned (.tuple #[v,.bool (bg a l).isSome])∧dD w' v (filled a l)∧ak w w':=
 (PV a tv u l w ht hu).mono fun _ _ ⟨v,h1,h2,h3,_⟩=>⟨v,h1,h2,h3⟩
section
variable {H:Type} {enc:TypeId×Value→H} {W:World}
def qC:aB aN where
 size:=2
 is:=fun B w c f=>∃s,c=[.string f.1,s]∧bsK.sl B w s f.2
 len:=fun⟨s,h,_⟩=>by subst h;rfl
 one:=fun⟨s,h,hs⟩ u hu=>by subst h;obtain⟨a,cap,rfl⟩:=aB.slice hs;simp at hu;rcases hu with rfl|rfl <;> rfl
 kept:=fun⟨v,h,hs⟩ h1 h2=>⟨v,h,aB.bL hs h1 h2⟩
 mono:=fun⟨v,h,hs⟩ h1=>⟨v,h,aB.bQ hs h1⟩
theorem iX {B:Nat→Prop} {w:World} {v:Value} {l:List ByteArray} (h:bsK.sl B w v l):Strs w v l:=by obtain⟨⟨h0,_⟩,a,cap,rfl,h1⟩:=h;refine⟨h0,a,cap,rfl,fun hne=>?_⟩;obtain⟨b,off,rfl,_,hb,hc⟩:=h1 hne;refine⟨b,off,rfl,hb,fun i hi=>?_⟩;obtain⟨c,rfl,c2⟩:=hc i _ (List.getElem?_eq_getElem hi);have:=c2 0 _ rfl;rw[List.getD_eq_getElem?_getD,List.getElem?_eq_getElem hi];simpa[bsK] using this
theorem KA {B:Nat→Prop} {w:World} {v:Value} {l:List aN} (h:qC.sl B w v l) (hl:l.length≤3518437208883):Facts w v l:=by obtain⟨_,a,cap,rfl,h1⟩:=h;refine⟨hl,a,cap,rfl,fun hne=>?_⟩;obtain⟨b,off,rfl,_,hb,hc⟩:=h1 hne;refine⟨b,off,rfl,hb,fun i hi=>?_⟩;obtain⟨c,⟨s,rfl,hs⟩,c2⟩:=hc i _ (List.getElem?_eq_getElem hi);rw[List.getD_eq_getElem?_getD,List.getElem?_eq_getElem hi];exact⟨by simpa[qC] using c2 0 _ rfl,s,by simpa[qC] using c2 1 _ rfl,iX hs⟩
def okS (s:ByteArray):Prop:=s.size≤maxLen
def Pe (f:aN):Prop:=okS f.1∧∀s∈f.2,okS s
theorem qD:Tryz.prog.cellsOf 27=2:=by kernel_rfl
theorem EK:Tryz.prog.cellsOf 25=1:=by kernel_rfl
theorem wP:Tryz.prog.bytesOf 27=40:=by kernel_rfl
theorem G5:Tryz.prog.bytesOf 9=16:=by kernel_rfl
theorem KC:Opens enc W 9 bsK okS:=by intro n cs x h _;obtain⟨s,hs,_,hsz⟩:=DataW.trod_string Tryz.underlying9 h;exact⟨s,hs,hsz⟩
theorem tu:Opens enc W 27 qC Pe:=by
 intro n cs x h hw;obtain⟨y0,y1,m,hx,hl,h0,h1⟩:=trod_struct2 Tryz.underlying27 h;rw[qD] at hl
 match cs,hl with
 |[c0,c1],_=>
  have e0:Tryz.prog.cellsOf 9=1:=oG;have e1:Tryz.prog.cellsOf 25=1:=EK;simp only[e0,e1,List.drop_zero,List.drop_succ_cons,List.take_succ_cons,List.take_zero] at h0 h1;obtain⟨s,hs,_,hsz⟩:=DataW.trod_string Tryz.underlying9 h0;simp only[List.cons.injEq,and_true] at hs;have hw2:jq 25 y1.1:=by unfold jq at hw⊢;rw[hx,DataW.weights,Tryz.underlying27] at hw;simp only[List.map_cons,List.map_nil,DataW.weightsEach,List.all_append,Bool.and_eq_true] at hw;exact hw.2.1
  obtain⟨l,hl,hlk⟩:=Df Tryz.underlying25 oG (by rw[G5];decide) (by decide) KC h1 hw2;exact⟨(s,l),⟨c1,by show[c0,c1]=_;rw[hs],hl⟩,hsz,hlk⟩
theorem EL {b0:Nat} {v:Value} {d:DataW H} {p:List MemPlace} (hv:Value.okWide Tryz.prog W .any b0 24 v) (h:DataW.Trod enc Tryz.prog W 0 (fun _=>true) true 24 v d p) (hw:jq 24 d):∃l,Facts W v l∧∀f∈l,Pe f:=by obtain⟨a0,X0,cap0,rfl⟩:=okWide_slice Tryz.underlying24 hv;obtain⟨fuel,hf⟩:=h;obtain⟨l,h1,h2,h3⟩:=GH Tryz.underlying24 qD (by rw[wP];decide) (by decide) tu (x:=(d,p)) (by simpa[Value.cells] using hf) hw;rw[wP] at h3;exact⟨l,KA h1 (by unfold reachBytes at h3;omega),h2⟩
end
def eX (B:Nat→Prop) (w:World) (v:Value) (l:List aA):Prop:=
 l.length≤1000∧∃a cap,v=.slice a l.length cap∧(l≠[]→∃b off,a=some ⟨b,off,none⟩∧B b∧b<w.heap.size∧∀i,i<l.length→w.cell? ⟨b,off+i*2,none⟩=some (.string (l.getD i aC).1)∧∃s,w.cell? ⟨b,off+i*2+1,none⟩=some s∧Strs w s (l.getD i aC).2∧∀k,(l.getD i aC).2≠[]→s.ownBlock=some k→B k)
theorem eX.nil (B:Nat→Prop) (w:World):eX B w (.slice none 0 0) []:=⟨by simp,none,0,rfl,fun h=>absurd rfl h⟩
theorem eX.facts {B:Nat→Prop} {w:World} {v:Value} {l:List aA} (h:eX B w v l):Facts w v l:=by obtain⟨h0,a,cap,rfl,h1⟩:=h;refine⟨by omega,a,cap,rfl,fun hl=>?_⟩;obtain⟨b,off,rfl,_,hb,hc⟩:=h1 hl;refine⟨b,off,rfl,hb,fun i hi=>?_⟩;obtain⟨c1,s,c2,c3,_⟩:=hc i hi;exact⟨c1,s,c2,c3⟩
theorem eX.kept {B:Nat→Prop} {w w':World} {v:Value} {l:List aA} (h:eX B w v l) (hs:w.heap.size≤w'.heap.size) (hk:∀k,k<w.heap.size→B k→w'.heap[k]?=w.heap[k]?):eX B w' v l:=by
 obtain⟨h0,a,cap,rfl,h1⟩:=h;refine⟨h0,a,cap,rfl,fun hl=>?_⟩;obtain⟨b,off,rfl,hB,hb,hc⟩:=h1 hl;refine⟨b,off,rfl,hB,Nat.lt_of_lt_of_le hb hs,fun i hi=>?_⟩;obtain⟨c1,s,c2,c3,c4⟩:=hc i hi;have e:=hk b hb hB;refine⟨by rw[World.cell?_of_block (w:=w) e];exact c1,s,by rw[World.cell?_of_block (w:=w) e];exact c2,?_,c4⟩
 by_cases hne:(l.getD i aC).2=[]
 ·rw[hne] at c3⊢;exact c3.nil
 exact c3.kept hs fun k e'=>hk k (c3.block_lt hne k e') (c4 k hne e')
theorem eX.below {B:Nat→Prop} {w w':World} {v:Value} {l:List aA} (h:eX B w v l) (k:Below w.heap.size w w'):eX B w' v l:=h.kept k.size fun i hi _=>k.block i hi
theorem eX.mono {B B':Nat→Prop} {w:World} {v:Value} {l:List aA} (h:eX B w v l) (hm:∀k,k<w.heap.size→B k→B' k):eX B' w v l:=by obtain⟨h0,a,cap,rfl,h1⟩:=h;refine⟨h0,a,cap,rfl,fun hl=>?_⟩;obtain⟨b,off,rfl,hB,hb,hc⟩:=h1 hl;refine⟨b,off,rfl,hm b hb hB,hb,fun i hi=>?_⟩;obtain⟨c1,s,c2,c3,c4⟩:=hc i hi;exact⟨c1,s,c2,c3,fun k hne e=>hm k (c3.block_lt hne k e) (c4 k hne e)⟩
theorem kE.PW {base:Nat} {w:World} {v:Value} {l:List aA} (h:kE w base v l) (hl:l.length≤1000):eX (From base) w v l:=by
 obtain⟨xs,ho,hx⟩:=h;rcases ho.2 with⟨rfl,e⟩|⟨g,cap,cur,rfl,hbg,hg,_,_,hcs,htake⟩;·have:l=[]:=List.eq_nil_of_length_eq_zero e;subst this;exact eX.nil _ _
 refine⟨hl,_,cap,rfl,fun _=>⟨g,0,rfl,hbg,(Array.getElem?_eq_some_iff.1 hg).1,fun i hi=>?_⟩⟩;obtain⟨c1,s,c2,c3,c4⟩:=hx i hi;have cellOf:∀j u,xs[j]?=some u→w.cell? ⟨g,0+j,none⟩=some u:=fun j u hu=>by
  have:=ho.cells (g:=g) rfl j u hu
  rwa [Addr.add_lit] at this
 exact⟨cellOf _ _ c1,s,by rw[Nat.add_assoc];exact cellOf _ _ c2,c3,fun k _ e=>(c4 k e).1⟩
end Go.Proofs.YtaallngooaaonaaGreatDoor
