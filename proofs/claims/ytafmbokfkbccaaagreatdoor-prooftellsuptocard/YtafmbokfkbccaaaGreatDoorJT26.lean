import Derived.Test.YtafmbokfkbccaaaGreatDoorJT14
import Derived.Test.YtafmbokfkbccaaaGreatDoorJT3
import Derived.Test.YtafmbokfkbccaaaGreatDoorJT25
import Derived.Test.YtafmbokfkbccaaaGreatDoorJT21
namespace Go.Proofs.YtafmbokfkbccaaaGreatDoor
open Go.RowKit Go.Sort Go.Maps
def ow (u:Value):Prop:=∃a n c,u=.slice a n c
def nR (lo:Nat) (w:World) (v:Value) (xs:List Value):Prop:=
 ∃g cap cur,v=.slice (some ⟨g,0,none⟩) xs.length cap∧lo≤g∧w.heap[g]?=some (.cells cur 24 (0,0))∧xs.length≤cap∧cap≤maxLen∧cur.size=cap∧cur.toList.take xs.length=xs∧∀u∈cur.toList,ow u
theorem nR.owns {lo:Nat} {w:World} {v:Value} {xs:List Value} (h:nR lo w v xs):w.ownsRow lo 24 1 v xs.length xs:=by
 obtain⟨g,cap,cur,rfl,h1,h2,h3,h4,h5,h6,_⟩:=h;exact⟨by simp,Or.inr ⟨g,cap,cur,rfl,h1,h2,h3,h4,by rw[h5];omega,by rw[Nat.mul_one];exact h6⟩⟩
theorem nR.block {lo:Nat} {w w':World} {v:Value} {xs:List Value} (h:nR lo w v xs) (hk:∀k,k<w.heap.size→lo≤k→w'.heap[k]?=w.heap[k]?):nR lo w' v xs:=by
 obtain⟨g,cap,cur,e,h1,h2,h3⟩:=h;exact⟨g,cap,cur,e,h1,(hk g (Array.getElem?_eq_some_iff.1 h2).1 h1).trans h2,h3⟩
theorem nR.OC {lo:Nat} {w:World} {v:Value} {xs:List Value} (h:nR lo w v xs) {b off:Nat} {s:ByteArray} (hc:w.cell? ⟨b,off,none⟩=some (.string s)):v.ownBlock≠some b:=fun e=>by
 obtain⟨g,cap,cur,rfl,_,h2,_,_,_,_,h7⟩:=h;simp only[Value.ownBlock,Option.some.injEq] at e;subst e;rw[cell_of_row _ _ _ _ _ _ h2] at hc;have hm:(Value.string s)∈cur.toList:=by
  rw[Array.mem_toList_iff];exact Array.mem_of_getElem? hc
 obtain⟨a,n,c,e⟩:=h7 _ hm;cases e
theorem oz {lo:Nat} {w w':World} {v:Value} {xs:List Value} (h:nR lo w v xs) (hg:w.grownBy w' v.ownBlock) {u:Value} {l:List aO} (hf:Facts w u l):Facts w' u l:=by
 have key:∀{b off:Nat} {s:ByteArray},w.cell? ⟨b,off,none⟩=some (.string s)→w'.heap[b]?=w.heap[b]?:=fun {b off s} hc=>
  hg.block b (World.block_lt_of_cell? w _ hc) (fun e=>h.OC hc e.symm)
 have cell_of:∀{b off:Nat},w'.heap[b]?=w.heap[b]?→w'.cell? ⟨b,off,none⟩=w.cell? ⟨b,off,none⟩:=fun {b off} e=>by
  unfold World.cell?;dsimp only;rw[e]
 have strs:∀{q:Value} {r:List ByteArray},Strs w q r→Strs w' q r:=fun {q r} hs=>by
  obtain⟨h0,a,cap,rfl,h1⟩:=hs;refine⟨h0,a,cap,rfl,fun hl=> ?_⟩;obtain⟨b,off,rfl,hb,hc⟩:=h1 hl;refine⟨b,off,rfl,Nat.lt_of_lt_of_le hb hg.size,fun i hi=> ?_⟩;rw[cell_of (key (hc i hi))];exact hc i hi
 obtain⟨h0,a,cap,rfl,h1⟩:=hf;refine⟨h0,a,cap,rfl,fun hl=> ?_⟩;obtain⟨b,off,rfl,hb,hc⟩:=h1 hl;refine⟨b,off,rfl,Nat.lt_of_lt_of_le hb hg.size,fun i hi=> ?_⟩;obtain⟨c1,s,c2,c3⟩:=hc i hi;exact⟨by rw[cell_of (key c1)];exact c1,s,by rw[cell_of (key c1)];exact c2,strs c3⟩
theorem xQ:∃i,Tryz.prog.info? 24=some i∧i.zero=some (.slice none 0 0)∧i.size=1∧i.bytes=24:=⟨Tryz.t24,by kernel_rfl,by kernel_rfl,by kernel_rfl,by kernel_rfl⟩
set_option maxRecDepth 100000 in
theorem nR.more {lo:Nat} {w:World} {v:Value} {xs:List Value} (h:nR lo w v xs) (hlo:lo≤w.heap.size) {u:Value} (hu:ow u) (hl:xs.length+1≤1000000):
  ∃v' w',(Builtin.append_ #[113,113] 113 #[v,.slice (some ⟨w.heap.size,0,none⟩) 1 1]).run Tryz.prog (w.alloc (.cells #[u] 24))=.ok v' w'∧nR lo w' v' (xs++[u])∧(w.alloc (.cells #[u] 24)).grownBy w' v.ownBlock:=by
 obtain⟨i,i1,i2,i3,i4⟩:=xQ;have hown:=(h.owns).alloc (.cells #[u] 24);have hnews:∀j x,[u][j]?=some x→(w.alloc (.cells #[u] 24)).cell? ((⟨w.heap.size,0,none⟩:Addr).add j)=some x:=fun j x hx=>by
  rw[Addr.add_lit,Nat.zero_add,cell_of_row _ w.heap.size j #[u] 24 (0,0) (heap_alloc_new w _)];simpa using hx
 have hone:∀x∈[u],x.oneCell'=true:=fun x hx=>by obtain⟨a,n,c,rfl⟩:=hu;simp at hx;subst hx;rfl
 obtain⟨v',w',hrun,r1,r2,r3,r4⟩:=eD (P:=Tryz.prog) (w.alloc (.cells #[u] 24)) lo 113 113 24 i _ 1 24 Tryz.underlying113 i1 i2 i3 i4 rfl (by omega) v xs.length xs hown ⟨w.heap.size,0,none⟩ 1 1 [u] rfl hnews hone (by simp only[maxLen];omega) (by omega) (by simp;omega);refine⟨v',w',hrun,?_,r2⟩;obtain⟨g,cap,cur,rfl,h1,h2,h3,h4,h5,h6,h7⟩:=h;have h2':(w.alloc (.cells #[u] 24)).heap[g]?=some (.cells cur 24 (0,0)):=by rw[Below.heap_alloc _ _ _ (Array.getElem?_eq_some_iff.1 h2).1];exact h2
 by_cases hroom:xs.length+1≤cap
 ·rw[run_append_room (P:=Tryz.prog) _ 113 113 24 i Tryz.underlying113 i1 g xs.length cap cur h2' ⟨w.heap.size,0,none⟩ 1 1 [u] (by rw[i3];rfl) hnews hone hroom (by rw[i3,h5];simp;omega)] at hrun;simp only[Result.ok.injEq] at hrun;obtain⟨rfl,rfl⟩:=hrun;rw[i3,Nat.mul_one,h6] at r1⊢;rcases r1.2 with⟨e,_⟩|⟨g',cap',cur',e,k1,k2,k3,k4,k5,k6⟩
  ·cases e
  ·injection e with e1 e2 e3
   injection e1 with e1
   injection e1 with e1
   subst e1;subst e3;refine⟨g,cap,cur',by simp,k1,k2,by simpa using k3,k4,by simpa using k5,by simpa using k6,fun y hy=> ?_⟩;have hcur:cur'=(xs++[u]++cur.toList.drop (xs.length+1)).toArray:=by
    have hh:=setRow_heap (w.alloc (.cells #[u] 24)) g cur (xs++[u]++cur.toList.drop (xs.length+[u].length)).toArray 24 _ h2';have hh2:=k2.symm.trans hh;simp only[Option.some.injEq,Obj.cells.injEq] at hh2;exact hh2.1
   rw[hcur] at hy;simp only[List.mem_append,List.mem_singleton] at hy;rcases hy with(hy|hy)|hy
   ·exact h7 y (by rw[←h6] at hy;exact List.mem_of_mem_take hy)
   ·rw[hy];exact hu
   ·exact h7 y (List.mem_of_mem_drop hy)
 ·rw[run_append_grow (P:=Tryz.prog) _ 113 113 24 i _ Tryz.underlying113 i1 i2 ⟨g,0,none⟩ xs.length cap xs (by rw[i3,Nat.mul_one]) (hown.cells (g:=g) rfl) ⟨w.heap.size,0,none⟩ 1 1 [u] (by rw[i3];rfl) hnews (by omega) (by omega) (growslice_fits (by omega) (by rw[i4];omega))] at hrun;simp only[Result.ok.injEq] at hrun;obtain⟨rfl,rfl⟩:=hrun;rcases r1.2 with⟨e,_⟩|⟨g',cap',cur',e,k1,k2,k3,k4,k5,k6⟩
  ·cases e
  ·injection e with e1 e2 e3
   injection e1 with e1
   injection e1 with e1
   subst e1;subst e3;refine⟨_,_,cur',by simp,k1,k2,by simpa using k3,k4,by simpa using k5,by simpa using k6,fun y hy=> ?_⟩;have hn:=heap_alloc_new (w.alloc (.cells #[u] 24)).drew (.cells (xs.toArray++[u].toArray++Builtin.zeroCells (Value.slice none 0 0).cells (grownCap (w.alloc (.cells #[u] 24)) (xs.length+1) cap 24- (xs.length+1))) 24);have k2':=hn.symm.trans k2
   injection k2' with k2'
   injection k2' with k2'
   rw[←k2'] at hy;simp only[Array.toList_append,List.mem_append,List.mem_singleton] at hy;rcases hy with(hy|hy)|hy
   ·exact h7 y (by rw[←h6] at hy;exact List.mem_of_mem_take hy)
   ·rw[hy];exact hu
   ·unfold Builtin.zeroCells at hy;simp only[Value.cells] at hy;rw[Array.mem_toList_iff,Array.mem_map] at hy;obtain⟨q,_,rfl⟩:=hy;exact⟨none,0,0,by simp[Nat.mod_one]⟩
set_option maxRecDepth 100000 in
theorem nR.first {lo:Nat} {w:World} (hlo:lo≤w.heap.size) {u:Value} (hu:ow u):
  ∃v' w',(Builtin.append_ #[113,113] 113 #[.slice none 0 0,.slice (some ⟨w.heap.size,0,none⟩) 1 1]).run Tryz.prog (w.alloc (.cells #[u] 24))=.ok v' w'∧nR lo w' v' [u]∧(w.alloc (.cells #[u] 24)).grownBy w' none:=by
 obtain⟨i,i1,i2,i3,i4⟩:=xQ;have hown:=World.ownsRow_nil (w.alloc (.cells #[u] 24)) lo 24 1;have hnews:∀j x,[u][j]?=some x→(w.alloc (.cells #[u] 24)).cell? ((⟨w.heap.size,0,none⟩:Addr).add j)=some x:=fun j x hx=>by
  rw[Addr.add_lit,Nat.zero_add,cell_of_row _ w.heap.size j #[u] 24 (0,0) (heap_alloc_new w _)];simpa using hx
 have hone:∀x∈[u],x.oneCell'=true:=fun x hx=>by obtain⟨a,n,c,rfl⟩:=hu;simp at hx;subst hx;rfl
 obtain⟨v',w',hrun,r1,r2,r3,r4⟩:=eD (P:=Tryz.prog) (w.alloc (.cells #[u] 24)) lo 113 113 24 i _ 1 24 Tryz.underlying113 i1 i2 i3 i4 rfl (by omega) (.slice none 0 0) 0 [] hown ⟨w.heap.size,0,none⟩ 1 1 [u] rfl hnews hone (by simp only[maxLen];omega) (by omega) (by simp;omega);refine⟨v',w',hrun,?_,r2⟩;rw[run_append_nil (P:=Tryz.prog) _ 113 113 24 i _ Tryz.underlying113 i1 i2 ⟨w.heap.size,0,none⟩ 1 1 [u] (by rw[i3];rfl) hnews (by omega) (by omega) (by rw[i4];omega)] at hrun;simp only[Result.ok.injEq] at hrun;obtain⟨rfl,rfl⟩:=hrun;rcases r1.2 with⟨e,_⟩|⟨g',cap',cur',e,k1,k2,k3,k4,k5,k6⟩
 ·cases e
 ·injection e with e1 e2 e3
  injection e1 with e1
  injection e1 with e1
  subst e1;subst e3;refine⟨_,_,cur',by simp,k1,k2,by simpa using k3,k4,by simpa using k5,by simpa using k6,fun y hy=> ?_⟩;have hn:=heap_alloc_new (w.alloc (.cells #[u] 24)).drew (.cells ([u].toArray++Builtin.zeroCells (Value.slice none 0 0).cells (grownCap (w.alloc (.cells #[u] 24)) 1 0 24-1)) 24);have k2':=hn.symm.trans k2
  injection k2' with k2'
  injection k2' with k2'
  rw[←k2'] at hy;simp only[Array.toList_append,List.mem_append] at hy;rcases hy with hy|hy
  ·simp at hy;rw[hy];exact hu
  ·unfold Builtin.zeroCells at hy;simp only[Value.cells] at hy;rw[Array.mem_toList_iff,Array.mem_map] at hy;obtain⟨q,_,rfl⟩:=hy;exact⟨none,0,0,by simp[Nat.mod_one]⟩
def qh (w:World) (b:Nat):Prop:=∀(off:Nat) (s:ByteArray),w.cell? ⟨b,off,none⟩≠some (.string s)
theorem uX {w w':World} {b:Nat} (h:qh w b) (hg:Tn b w w') {u:Value} {l:List aO} (hf:Facts w u l):Facts w' u l:=by
 have key:∀{q off:Nat} {s:ByteArray},w.cell? ⟨q,off,none⟩=some (.string s)→w'.heap[q]?=w.heap[q]?:=fun {q off s} hc=>
  hg.block q (World.block_lt_of_cell? w _ hc) (fun e=>by subst e;exact h _ _ hc)
 have cell_of:∀{q off:Nat},w'.heap[q]?=w.heap[q]?→w'.cell? ⟨q,off,none⟩=w.cell? ⟨q,off,none⟩:=fun {q off} e=>by
  unfold World.cell?;dsimp only;rw[e]
 have strs:∀{q:Value} {r:List ByteArray},Strs w q r→Strs w' q r:=fun {q r} hs=>by
  obtain⟨h0,a,cap,rfl,h1⟩:=hs;refine⟨h0,a,cap,rfl,fun hl=> ?_⟩;obtain⟨b,off,rfl,hb,hc⟩:=h1 hl;refine⟨b,off,rfl,Nat.lt_of_lt_of_le hb hg.size,fun i hi=> ?_⟩;rw[cell_of (key (hc i hi))];exact hc i hi
 obtain⟨h0,a,cap,rfl,h1⟩:=hf;refine⟨h0,a,cap,rfl,fun hl=> ?_⟩;obtain⟨b,off,rfl,hb,hc⟩:=h1 hl;refine⟨b,off,rfl,Nat.lt_of_lt_of_le hb hg.size,fun i hi=> ?_⟩;obtain⟨c1,s,c2,c3⟩:=hc i hi;exact⟨by rw[cell_of (key c1)];exact c1,s,by rw[cell_of (key c1)];exact c2,strs c3⟩
end Go.Proofs.YtafmbokfkbccaaaGreatDoor
namespace Go.Proofs.YtafmbokfkbccaaaGreatDoor
open Go.RowKit Go.Sort
theorem PrB.xR {w:World} {P:Nat} {pv tv av:Value} {c d:Int} {sv:Value} {m:Nat} (h:PrB w P pv tv av c d sv m) (hp:ow pv) (ht:ow tv) (ha:ow av) (hs:ow sv):qh w P:=fun off s e=>by
 obtain⟨a1,n1,c1,rfl⟩:=hp;obtain⟨a2,n2,c2,rfl⟩:=ht;obtain⟨a3,n3,c3,rfl⟩:=ha;obtain⟨a4,n4,c4,rfl⟩:=hs;rw[cell_of_row _ _ _ _ _ _ h.row] at e;rcases off with _|_|_|_|_|_|_|off <;> simp at e
def wG (lo:Nat) (w:World) (sv:Value) (xs:List Value):Prop:=(xs=[]∧sv=.slice none 0 0)∨nR lo w sv xs
theorem wG.ow {lo:Nat} {w:World} {sv:Value} {xs:List Value} (h:wG lo w sv xs):ow sv:=by
 rcases h with⟨_,rfl⟩|⟨g,cap,cur,rfl,_⟩
 ·exact⟨_,_,_,rfl⟩
 ·exact⟨_,_,_,rfl⟩
theorem wG.lo {lo:Nat} {w:World} {sv:Value} {xs:List Value} (h:wG lo w sv xs):∀k,sv.ownBlock=some k→lo≤k∧k<w.heap.size:=fun k e=>by
 rcases h with⟨_,rfl⟩|h
 ·cases e
 ·exact h.owns.lt k e
theorem wG.more {lo:Nat} {w:World} {sv:Value} {xs:List Value} (h:wG lo w sv xs) (hlo:lo≤w.heap.size) {u:Value} (hu:Go.Proofs.YtafmbokfkbccaaaGreatDoor.ow u) (hl:xs.length+1≤1000000):
  ∃v' w',(Builtin.append_ #[113,113] 113 #[sv,.slice (some ⟨w.heap.size,0,none⟩) 1 1]).run Tryz.prog (w.alloc (.cells #[u] 24))=.ok v' w'∧nR lo w' v' (xs++[u])∧(w.alloc (.cells #[u] 24)).grownBy w' sv.ownBlock∧∀v l,Facts (w.alloc (.cells #[u] 24)) v l→Facts w' v l:=by
 rcases h with⟨rfl,rfl⟩|h
 ·obtain⟨v',w',h1,h2,h3⟩:=nR.first hlo hu
  refine⟨v',w',h1,h2,h3,fun v l hf=>hf.below ⟨h3.os,h3.tape,h3.output,h3.size,fun k hk=>h3.block k hk (fun e=>by cases e)⟩⟩
 ·obtain⟨v',w',h1,h2,h3⟩:=h.more hlo hu hl;refine⟨v',w',h1,h2,h3,fun v l hf=> ?_⟩;have hR:nR lo (w.alloc (.cells #[u] 24)) sv xs:=h.block fun k hk _=>Below.heap_alloc w _ k hk;exact oz hR h3 hf
set_option maxRecDepth 100000 in
set_option maxHeartbeats 4000000 in
theorem Uc (P lo:Nat) (pv tv av u sv:Value) (c d:Int) (mb:Nat) (xs:List Value) (w:World) (hP:PrB w P pv tv av c d sv mb) (hS:wG lo w sv xs) (Sq:P<lo) (hlw:lo≤w.heap.size) (hp:ow pv) (ht:ow tv) (ha:ow av) (hu:ow u) (hl:xs.length+1≤1000000):
  Calls Tryz.prog 102 #[.pointer (some ⟨P,0,none⟩),u] w fun e w'=>e=.returned (.tuple #[])∧∃sv',PrB w' P pv tv u c d sv' mb∧nR lo w' sv' (xs++[u])∧(∀v l,Facts w v l→Facts w' v l)∧(∀k,k<w.heap.size→k≠P→sv.ownBlock≠some k→w'.heap[k]?=w.heap[k]?)∧Below P w w':=by
 have hnt:=hP.xR hp ht ha hS.ow;obtain⟨p0,p1,p2,p3,p4,p5,p6,hPl⟩:=hP.cells;obtain⟨wA,hwA⟩:∃wA,wA=w.setCell ⟨P,2,none⟩ u:=⟨_,rfl⟩;have hTA:Tn P w wA:=by rw[hwA];exact Tn.setCell (p:=P) (Tn.refl _ _) (x:=⟨P,2,none⟩) (Or.inl rfl) _
 have hRA:wA.heap[P]?=some (.cells #[pv,tv,u,.int .i64 c,.int .i64 d,sv,.map (some mb)] 115 (0,0)):=by rw[hwA,dF (j:=2) hP.row];rfl
 have hSA:wG lo wA sv xs:=by
  rcases hS with e|h
  ·exact Or.inl e
  ·exact Or.inr (h.block fun k hk hlo=>hTA.block k hk (by omega))
 have hszA:=hTA.size;obtain⟨v',wB,hrun,hRB,hgB,hFB⟩:=hSA.more (by omega) hu hl;have VY:=hSA.lo;have hlo:=hS.lo;have Jk:wB.heap[P]?=some (.cells #[pv,tv,u,.int .i64 c,.int .i64 d,sv,.map (some mb)] 115 (0,0)):=by
  rw[hgB.block P (by simp;omega) (fun e=>by have:=(VY P e.symm).1;omega),Below.heap_alloc _ _ _ (by omega)];exact hRA
 obtain⟨wC,hwC⟩:∃wC,wC=wB.setCell ⟨P,5,none⟩ v':=⟨_,rfl⟩;have hTC:Tn P wB wC:=by rw[hwC];exact Tn.setCell (p:=P) (Tn.refl _ _) (x:=⟨P,5,none⟩) (Or.inl rfl) _
 have hRC:wC.heap[P]?=some (.cells #[pv,tv,u,.int .i64 c,.int .i64 d,v',.map (some mb)] 115 (0,0)):=by rw[hwC,dF (j:=5) Jk];rfl
 have VZ:=hgB.size;simp only[World.size_alloc] at VZ;have V3:nR lo wC v' (xs++[u]):=hRB.block fun k hk hlo=>hTC.block k hk (by omega);have hsv:ow sv:=hS.ow;have V4:qh wB P:=(PrB.mk Jk).xR hp ht hu hsv;have hkeep:∀k,k<w.heap.size→k≠P→sv.ownBlock≠some k→wC.heap[k]?=w.heap[k]?:=fun k hk hne hns=>by
  rw[hTC.block k (by omega) hne,hgB.block k (by simp;omega) (fun e=>hns e.symm),Below.heap_alloc _ _ _ (by omega)];exact hTA.block k hk hne
 have hFC:∀v l,Facts w v l→Facts wC v l:=fun v l hf=>by
  have h1:=uX hnt hTA hf;have h2:=hFB v l (h1.later ((Later.refl _).alloc _));exact uX V4 hTC h2
 have hBC:Below P w wC:=by
  refine⟨?_,?_,?_,by have:=hTC.size;omega,fun k hk=>hkeep k (by omega) (by omega) (fun e=>by have:=(hlo k e).1;omega)⟩
  ·rw[hTC.os,hgB.os];exact hTA.os
  ·rw[hTC.tape,hgB.tape];exact hTA.tape
  ·rw[hTC.output,hgB.output];exact hTA.output
 have q5:wA.cell? ⟨P,5,none⟩=some sv:=by rw[cell_of_row _ _ _ _ _ _ hRA];rfl
 have z2:w.frozen? ⟨P,2,none⟩=false:=fZ hP.row;have q5b:wB.cell? ⟨P,5,none⟩=some sv:=by rw[cell_of_row _ _ _ _ _ _ Jk];rfl
 have z5:wB.frozen? ⟨P,5,none⟩=false:=fZ Jk;obtain⟨ua,un,uc,rfl⟩:=hu;obtain⟨sa,sn,sc,rfl⟩:=hsv;obtain⟨va,vn,vc,rfl⟩:ow v':=by obtain⟨g,cap,cur,e,_⟩:=hRB;exact⟨_,_,_,e⟩
 have HRn:=hide hrun;have HWA:=hide hwA;have HWC:=hide hwC;have HFin:Hid (PrB wC P pv tv (.slice ua un uc) c d (.slice va vn vc) mb∧nR lo wC (.slice va vn vc) (xs++[.slice ua un uc])∧(∀v l,Facts w v l→Facts wC v l)∧(∀k,k<w.heap.size→k≠P→(Value.slice sa sn sc).ownBlock≠some k→wC.heap[k]?=w.heap[k]?)∧Below P w wC):=⟨⟨hRC⟩,V3,hFC,hkeep,hBC⟩;clear hP hS hnt hp ht ha hl p0 p1 p3 p4 p5 p6 hwA hTA hRA hSA hrun hRB hgB hFB VY hlo Jk hwC hTC hRC V3 V4 hkeep hFC hBC
 go_enter Tryz.func102,Tryz.ntmps102
 go_wp2_with (first|(rw[←HWA.out])|(rw[←HWC.out])|(at_builtin;refine wpList_append_run rfl (.tmp 13) (.tmp 15) 113 rfl _ _ _ _ rfl rfl HRn.out ?_))
 first|go_end0|refine bodyPost_ret (results_none rfl _ _ _) rfl ?_
 exact⟨rfl,_,HFin.out⟩
end Go.Proofs.YtafmbokfkbccaaaGreatDoor
namespace Go.Proofs.YtafmbokfkbccaaaGreatDoor
open Go.RowKit Go.Sort
structure Kp (P lo:Nat) (w w':World):Prop where
 os:w'.os=w.os
 tape:w'.tape=w.tape
 output:w'.output=w.output
 size:w.heap.size≤w'.heap.size
 block:∀k,k<lo→k≠P→w'.heap[k]?=w.heap[k]?
theorem Kp.refl (P lo:Nat) (w:World):Kp P lo w w:=⟨rfl,rfl,rfl,Nat.le_refl _,fun _ _ _=>rfl⟩
theorem Kp.trans {P lo:Nat} {a b c:World} (h:Kp P lo a b) (k:Kp P lo b c):Kp P lo a c:=
 ⟨k.os.trans h.os,k.tape.trans h.tape,k.output.trans h.output,Nat.le_trans h.size k.size,fun i hi ho=>(k.block i hi ho).trans (h.block i hi ho)⟩
theorem Kp.of_below {P lo n:Nat} {a b:World} (h:Below n a b) (hn:lo≤n):Kp P lo a b:=⟨h.os,h.tape,h.output,h.size,fun k hk _=>h.block k (by omega)⟩
theorem Kp.below {P lo n:Nat} {a b:World} (h:Kp P lo a b) (hn:n≤P) (hl:P<lo):Below n a b:=⟨h.os,h.tape,h.output,h.size,fun k hk=>h.block k (by omega) (by omega)⟩
theorem Kp.less {P lo lo':Nat} {a b:World} (h:Kp P lo a b) (hl:lo'≤lo):Kp P lo' a b:=⟨h.os,h.tape,h.output,h.size,fun k hk hne=>h.block k (by omega) hne⟩
structure PrS (w:World) (P lo:Nat) (pv tv:Value) (c d:Int) (mb:Nat) (all:List au) (PS:List (List au)):Prop where
 has:∃av sv xs,PrB w P pv tv av c d sv mb∧wG lo w sv xs∧Facts w av all∧xs.length=PS.length∧∀(i:Nat) u l,xs[i]?=some u→PS[i]?=some l→Facts w u l
theorem PrS.below {w w':World} {P lo:Nat} {pv tv:Value} {c d:Int} {mb:Nat} {all:List au} {PS:List (List au)} (h:PrS w P lo pv tv c d mb all PS) (k:Below w.heap.size w w'):PrS w' P lo pv tv c d mb all PS:=by
 obtain⟨av,sv,xs,h1,h2,h3,h4,h5⟩:=h.has;refine⟨av,sv,xs,h1.below k,?_,h3.below k,h4,fun i u l hu hl=>(h5 i u l hu hl).below k⟩;rcases h2 with e|h2
 ·exact Or.inl e
 ·exact Or.inr (h2.block fun i hi _=>k.block i hi)
theorem PrS.fewer {w:World} {P lo lo':Nat} {pv tv:Value} {c d:Int} {mb:Nat} {all:List au} {PS:List (List au)} (h:PrS w P lo pv tv c d mb all PS) (hl:lo'≤lo):PrS w P lo' pv tv c d mb all PS:=by
 obtain⟨av,sv,xs,h1,h2,h3⟩:=h.has;refine⟨av,sv,xs,h1,?_,h3⟩;rcases h2 with e|⟨g,cap,cur,e,hg,r⟩
 ·exact Or.inl e
 ·exact Or.inr ⟨g,cap,cur,e,by omega,r⟩
theorem QU (P lo:Nat) (pv tv u:Value) (c d:Int) (mb:Nat) (all L:List au) (PS:List (List au)) (w:World) (hS:PrS w P lo pv tv c d mb all PS) (Sq:P<lo) (hlw:lo≤w.heap.size) (hp:ow pv) (ht:ow tv) (hu:Facts w u L) (hl:PS.length+1≤1000000):
  Calls Tryz.prog 102 #[.pointer (some ⟨P,0,none⟩),u] w fun e w'=>e=.returned (.tuple #[])∧PrS w' P lo pv tv c d mb L (PS++[L])∧Kp P lo w w':=by
 obtain⟨av,sv,xs,h1,h2,h3,h4,h5⟩:=hS.has;have hua:ow u:=by obtain⟨a,c,e⟩:=aC hu;exact⟨a,_,c,e⟩
 have haa:ow av:=by obtain⟨a,c,e⟩:=aC h3;exact⟨a,_,c,e⟩
 refine(Uc P lo pv tv av u sv c d mb xs w h1 h2 Sq hlw hp ht haa hua (by omega)).mono fun e w' ⟨he,sv',k1,k2,k3,k4,k5⟩=>⟨he,⟨u,sv',xs++[u],k1,Or.inr k2,k3 u L hu,by simp[h4],fun i z l hz hl=> ?_⟩,⟨k5.os,k5.tape,k5.output,k5.size,fun k hk hne=>k4 k (by omega) hne (fun e=>by have:=(h2.lo k e).1;omega)⟩⟩
 by_cases hi:i<xs.length
 ·rw[List.getElem?_append_left hi] at hz;rw[List.getElem?_append_left (by omega)] at hl;exact k3 z l (h5 i z l hz hl)
 ·rw[List.getElem?_append_right (by omega)] at hz;rw[List.getElem?_append_right (by omega)] at hl;have hi':i=xs.length:=by
   have:=(List.getElem?_eq_some_iff.1 hz).1;simp at this;omega
  subst hi';rw[h4] at hl;simp at hz hl;subst hz hl;exact k3 u L hu
set_option maxRecDepth 100000 in
set_option maxHeartbeats 8000000 in
theorem QV (p:List aD) (hp:dR p) (σ:aD→Nat) (n:Int) (P lo:Nat) (pv tv sv:Value) (c d:Int) (mb:Nat) (L:List au) (PS:List (List au)) (w:World) (hS:PrS w P lo pv tv c d mb L PS) (Sq:P<lo) (hlw:lo≤w.heap.size) (hpv:eU.sl (fun k=>k<P) w pv p) (hsv:lY.sl (fun k=>k<lo∧k≠P) w sv (p.map σ)) (ht:ow tv) (hG:GoodS p L) (hPS:PS.length≤500000):
  Calls Tryz.prog 103 #[.pointer (some ⟨P,0,none⟩),sv,.int .i64 n] w fun e w'=>e=.returned (.int .i64 (aR p (p.map σ) n 201 L).1)∧((aR p (p.map σ) n 201 L).1=0→PrS w' P lo pv tv c d mb (bU L (aR p (p.map σ) n 201 L).2) (PS++(aR p (p.map σ) n 201 L).2))∧Kp P lo w w':=by
 generalize hss:p.map σ=ss at*;have HSS:=hide hss;obtain⟨pa,pc,hpe⟩:=Kind.slice hpv;obtain⟨sa,sc,hse⟩:=Kind.slice hsv;have HPv:Hid (∀w',Kp P lo w w'→eU.sl bg w' pv p):=fun w' h=>Kind.dQ (Kind.bM hpv h.size fun k _ hB=>h.block k (by omega) (by omega));have HSv:Hid (∀w',Kp P lo w w'→lY.sl bg w' sv ss):=fun w' h=>Kind.dQ (Kind.bM hsv h.size fun k _ hB=>h.block k hB.1 hB.2);have HS:=hide hS;have HG:=hide hG;have HRP:=hide hp;obtain⟨O,hO⟩:∃O,O=aR p ss n 201 L:=⟨_,rfl⟩;rw[←hO];have HO:=hide hO;subst hpe;subst hse;clear hss hS hG hp hpv hsv hO;have Oj:=HG.out.few
 go_enter Tryz.func103,Tryz.ntmps103
 go_wp2
 go_loopg [7] 201 (fun g _ wr=>∃(k:Nat) (M:List au) (Q:List (List au)),k=g∧200<M.length+k∧Q.length+k=201∧Hid (PrS wr P lo (.slice pa p.length pc) tv c d mb M (PS++Q))∧Hid (GoodS p M)∧Hid (M=bU L Q)∧Hid (O.1=(aR p ss n k M).1∧((aR p ss n k M).1=0→O.2=Q++(aR p ss n k M).2))∧Hid (Kp P lo w wr))
 case atStart=>exact⟨201,L,[],rfl,by omega,rfl,(by rw[List.append_nil];exact HS.out:PrS _ _ _ _ _ _ _ _ _ _),HG,(rfl:_=_),⟨by rw[HO.out],fun _=>by rw[HO.out];rfl⟩,Kp.refl _ _ _⟩
 case round=>
  clear HS HG Oj;obtain⟨k,M,Q,rfl,YF,hQ,HS,HG,HM,HO,HK⟩:=hrel;have hMf:=HG.out.few;obtain⟨k,rfl⟩:∃m,k=m+1:=⟨k-1,by omega⟩;obtain⟨av,pv',xs,hB,hR,hF,hl,hx⟩:=HS.out.has;obtain⟨aa,ac,hav⟩:=aC hF;subst hav;obtain⟨p0,p1,p2,p3,p4,p5,p6,hPl⟩:=hB.cells;have YG:=HK.out.size;have HCe:Hid (∀w',Below wr.heap.size wr w'→w'.cell? ⟨P,0,none⟩=some (.slice pa p.length pc)∧w'.cell? ⟨P,2,none⟩=some (.slice aa M.length ac)):=fun w' h=>by
   have:=(hB.below h).cells;exact⟨this.1,this.2.2.1⟩
  have HOn:Hid (∀w',Below wr.heap.size wr w'→Calls Tryz.prog 125 #[.slice pa p.length pc,.slice sa ss.length sc,.int .i64 n,.slice aa M.length ac] w' fun e w''=>∃v' er,e=.returned (.tuple #[v',.int .i64 er])∧lZ w'' v' er (bZ p ss n M)∧Hid (Below wr.heap.size wr w'')):=fun w' h=>by
   have hkk:=HK.out.trans (Kp.of_below h (by omega));have:=QJ p ss n M (.slice pa p.length pc) (.slice sa ss.length sc) (.slice aa M.length ac) w' (HPv.out w' hkk) (HSv.out w' hkk) (hF.below h) HRP.out.few hMf (xP HRP.out HG.out) (uM HRP.out HG.out) (fun f hf=>lH (HG.out.right f hf));exact this.mono fun e w'' ⟨v',er,h1,h2,h3⟩=>⟨v',er,h1,h2,aj h h3 h.size⟩
  have HB2:=hide hB;clear hB hR hF hl hx p0 p1 p3 p4 p5 p6;obtain⟨OE,OL,hON⟩:∃a b,bZ p ss n M=(a,b):=⟨_,_,rfl⟩;rw[hON] at HOn;have HON:=hide hON;clear hON;go_wp2;refine wp_region_held_drew (S:=fun w'=>Below wr.heap.size wr w') (by kernel_rfl) (Below.refl _ _).drew (fun hHeld=> ?_);refine ak (i:=0) (d:=some 17) (v:= ?_) rfl rfl hHeld ?_ ?_;rotate_left;focus intro w hSw;(try dsimp only at hSw);go_simp;try with_reducible rfl
  simp only[aK,aL,aze,asu];refine ak (i:=1) (d:=some 18) (v:= ?_) rfl rfl hHeld ?_ ?_;rotate_left;focus intro w hSw;(try dsimp only at hSw);go_simp;try with_reducible rfl
  simp only[aK,aL,aze,asu];refine ak (i:=2) (d:=some 19) (v:= ?_) rfl rfl hHeld ?_ ?_;rotate_left;focus intro w hSw;(try dsimp only at hSw);go_simp;try with_reducible rfl
  simp only[aK,aL,aze,asu];refine ak (i:=3) (d:=some 20) (v:= ?_) rfl rfl hHeld ?_ ?_;rotate_left;focus intro w hSw;(try dsimp only at hSw);go_simp;try with_reducible rfl
  simp only[aK,aL,aze,asu];refine ak (i:=4) (d:=some 21) (v:= ?_) rfl rfl hHeld ?_ ?_;rotate_left;focus intro w hSw;(try dsimp only at hSw);obtain⟨q0,q2⟩:=HCe.out _ hSw;go_simp;try with_reducible rfl
  simp only[aK,aL,aze,asu];refine ak (i:=5) (d:=some 22) (v:= ?_) rfl rfl hHeld ?_ ?_;rotate_left;focus intro w hSw;(try dsimp only at hSw);go_simp;try with_reducible rfl
  simp only[aK,aL,aze,asu];refine ak (i:=6) (d:=some 23) (v:= ?_) rfl rfl hHeld ?_ ?_;rotate_left;focus intro w hSw;(try dsimp only at hSw);go_simp;try with_reducible rfl
  simp only[aK,aL,aze,asu];refine ak (i:=7) (d:=some 24) (v:= ?_) rfl rfl hHeld ?_ ?_;rotate_left;focus intro w hSw;(try dsimp only at hSw);go_simp;try with_reducible rfl
  simp only[aK,aL,aze,asu];refine ak (i:=8) (d:=some 25) (v:= ?_) rfl rfl hHeld ?_ ?_;rotate_left;focus intro w hSw;(try dsimp only at hSw);go_simp;try with_reducible rfl
  simp only[aK,aL,aze,asu];refine ak (i:=9) (d:=some 26) (v:= ?_) rfl rfl hHeld ?_ ?_;rotate_left;focus intro w hSw;(try dsimp only at hSw);go_simp;try with_reducible rfl
  simp only[aK,aL,aze,asu];refine ak (i:=10) (d:=some 27) (v:= ?_) rfl rfl hHeld ?_ ?_;rotate_left;focus intro w hSw;(try dsimp only at hSw);go_simp;try with_reducible rfl
  simp only[aK,aL,aze,asu];refine ak (i:=11) (d:=some 28) (v:= ?_) rfl rfl hHeld ?_ ?_;rotate_left;focus intro w hSw;(try dsimp only at hSw);obtain⟨q0,q2⟩:=HCe.out _ hSw;go_simp;try with_reducible rfl
  simp only[aK,aL,aze,asu];refine wpAnyH_ready (rs:=[12]) (by kernel_rfl) (by simp) ?_;refine AllReadyH.cons rfl (fun K hK=> ?_) AllReadyH.nil;go_simp;refine(HOn.out _ hHeld).mono ?_;rintro e w2 ⟨v2,er2,rfl,⟨he2,hT0,hT1⟩,hB2⟩;dsimp only at he2 hT0 hT1;subst he2;have hv2:ow v2:=by
   by_cases h0:er2=0
   ·obtain⟨a,c,e⟩:=aC (hT1 h0);exact⟨a,_,c,e⟩
   ·exact⟨_,_,_,hT0 h0⟩
  obtain⟨a2,n2,c2,rfl⟩:=hv2;refine hK.out _ _ hB2.out (fun hHeld=> ?_);clear hK K;refine ak (i:=13) (d:=some 16) (v:= ?_) rfl rfl hHeld ?_ ?_;rotate_left;focus intro w hSw;(try dsimp only at hSw);go_simp;try with_reducible rfl
  simp only[aK,aL,aze,asu];refine ak (i:=14) (d:=some 30) (v:= ?_) rfl rfl hHeld ?_ ?_;rotate_left;focus intro w hSw;(try dsimp only at hSw);go_simp;try with_reducible rfl
  simp only[aK,aL,aze,asu];refine ak (i:=15) (d:=some 31) (v:= ?_) rfl rfl hHeld ?_ ?_;rotate_left;focus intro w hSw;(try dsimp only at hSw);go_simp;try with_reducible rfl
  simp only[aK,aL,aze,asu];refine ak (i:=16) (d:=some 8) (v:= ?_) rfl rfl hHeld ?_ ?_;rotate_left;focus intro w hSw;(try dsimp only at hSw);go_simp;try with_reducible rfl
  simp only[aK,aL,aze,asu];refine ak (i:=17) (d:=some 9) (v:= ?_) rfl rfl hHeld ?_ ?_;rotate_left;focus intro w hSw;(try dsimp only at hSw);go_simp;try with_reducible rfl
  simp only[aK,aL,aze,asu];refine wpAnyH_done (by kernel_rfl) ?_ _;clear hHeld;have HK2:=hide (HK.out.trans (Kp.of_below hB2.out (by omega)));have hst:aR p ss n (k+1) M=if er2≠0 then(er2,[]) else if OL.length=M.length then(0,[OL]) else((aR p ss n k OL).1,OL::(aR p ss n k OL).2):=by
   conv=>lhs;unfold aR
   rw[HON.out]
  by_cases h0:er2=0
  ·subst h0;rw[if_neg (by simp)] at hst;have hF2:=hT1 rfl;have hG2:GoodS p OL∧∀f∈M,f∈OL:=by
    have:=HON.out;rw[←HSS.out] at this;exact jr HRP.out σ HG.out this
   have FM:n2=OL.length:=by
    obtain⟨a,c,e⟩:=aC hF2;simp only[Value.slice.injEq] at e;exact e.2.1
   subst FM;have V5:=HS.out.below hB2.out;have hsz2:=hB2.out.size;have HKe:=hide (QU P lo _ tv (.slice a2 OL.length c2) c d mb M OL (PS++Q) w2 V5 Sq (by omega) ⟨_,_,_,rfl⟩ ht hF2 (by simp;omega));have hle:=E8 HG.out.up hG2.2;have HG2:=hide hG2.1;clear hT0 hT1 hF2 hG2 V5 HOn HCe hB2
   go_wp2_with fail
   refine HKe.out.mono ?_;rintro e w3 ⟨rfl,hS3,hK3⟩;have HK3:=hide (HK2.out.trans hK3)
   by_cases hlen:OL.length=M.length
   ·rw[if_pos hlen] at hst;have HR:Hid (O.1=0∧(O.1=0→PrS w3 P lo (.slice pa p.length pc) tv c d mb (bU L O.2) (PS++O.2))):=by
     have h1:=HO.out;rw[hst] at h1;have h2:=h1.2 rfl;refine⟨h1.1,fun _=> ?_⟩;rw[h2,gV,←HM.out,←List.append_assoc];exact hS3
    have hli:((OL.length:Int)==(M.length:Int))=true:=by simp[hlen]
    have YH:(OL.length:Int)=(M.length:Int):=by omega
    clear hS3 hK3 hst HKe HO hlen;go_wp2;go_ret;exact⟨by rw[HR.out.1];rfl,HR.out.2,HK3.out⟩
   ·rw[if_neg hlen] at hst;have HO2:Hid (O.1=(aR p ss n k OL).1∧((aR p ss n k OL).1=0→O.2=(Q++[OL])++(aR p ss n k OL).2)):=by
     have h1:=HO.out;rw[hst] at h1;exact⟨h1.1,fun h=>by rw[h1.2 h];simp⟩
    have HS3:Hid (PrS w3 P lo (.slice pa p.length pc) tv c d mb OL (PS++(Q++[OL]))):=by show PrS _ _ _ _ _ _ _ _ _ _;rw[←List.append_assoc];exact hS3
    have HM3:Hid (OL=bU L (Q++[OL])):=by show _=_;rw[gV];rfl
    have hlt:M.length<OL.length:=by omega
    have hq3:(Q++[OL]).length+k=201:=by simp;omega
    have hli:¬(OL.length:Int)=(M.length:Int):=by omega
    have YH:((OL.length:Int)==(M.length:Int))=false:=by simp;omega
    clear hS3 hK3 hst HKe HO hlen;go_wp2
    go_roundg k
    case measure=>omega
    case rel=>exact⟨k,OL,Q++[OL],rfl,by omega,hq3,HS3,HG2,HM3,HO2,HK3⟩
  ·have hq:(er2 != 0)=true:=by simpa using h0
   rw[if_pos h0] at hst;have HR:Hid (O.1=er2):=by show _=_;rw[HO.out.1,hst]
   have HN:Hid (O.1=0→PrS w2 P lo (.slice pa p.length pc) tv c d mb (bU L O.2) (PS++O.2)):=fun h=>absurd (HR.out.symm.trans h) h0;clear hst hT0 hT1 HOn HCe hB2 h0 HO;go_wp2;go_ret;exact⟨by rw[HR.out];rfl,HN.out,HK2.out⟩
end Go.Proofs.YtafmbokfkbccaaaGreatDoor
namespace Go.Proofs.YtafmbokfkbccaaaGreatDoor
open Go.RowKit Go.Sort
def iT (p:List aD) (told:List au):Int:=if(aW p).2.1≠0 then(aW p).2.1 else if(fq p told).1≠0 then(fq p told).1 else(bD p (aW p).1 (countP (aW p).1) 0 told).1
theorem qY (p:List aD) (told:List au):(jM p told).1=iT p told∧(iT p told=0→jM p told=(0,bU told (bD p (aW p).1 (countP (aW p).1) 0 told).2)):=by
 unfold jM iT
 by_cases h0:(aW p).2.1=0
 ·have h0':¬(aW p).2.1≠0:=fun h=>h h0;simp only[if_neg h0']
  by_cases h1:(fq p told).1=0
  ·have h1':¬(fq p told).1≠0:=fun h=>h h1;simp only[if_neg h1'];exact sH p _ _ 0 told
  ·have h1':(fq p told).1≠0:=h1;simp only[if_pos h1'];exact⟨trivial,fun h=>absurd h h1⟩
 ·have h0':(aW p).2.1≠0:=h0;simp only[if_pos h0'];exact⟨trivial,fun h=>absurd h h0⟩
theorem zx {p:List aD} {ss:List Nat} {n:Int}:∀(k:Nat) (L:List au),(aR p ss n k L).2.length≤k
 |0,_=>by simp[aR]
 |k+1,L=>by
  unfold aR;split
  ·simp
  ·split
   ·simp
   ·have:=zx (p:=p) (ss:=ss) (n:=n) k (bZ p ss n L).2;simp only[List.length_cons];omega
theorem CF {p:List aD} {ss:List Nat}:∀(c n:Nat) (L:List au),(bD p ss c n L).2.length≤c*201
 |0,_,_=>by simp[bD]
 |c+1,n,L=>by
  unfold bD;split
  ·simp
  ·have h1:=zx (p:=p) (ss:=ss) (n:=(n:Int)) 201 L;have h2:=CF (p:=p) (ss:=ss) c (n+1) (bU L (aR p ss n 201 L).2);simp only[List.length_append];omega
set_option maxRecDepth 100000 in
set_option maxHeartbeats 16000000 in
theorem OD (p:List aD) (told:List au) (P mb:Nat) (pv tv:Value) (w0 w:World) (hB:PrB w P pv tv (.slice none 0 0) 0 0 (.slice none 0 0) mb) (hB0:Below w0.heap.size w0 w) (hw0:w0.heap.size≤P) (hpv:eU.sl bg w0 pv p) (ht:Facts w0 tv told):
  Calls Tryz.prog 58 #[.pointer (some ⟨P,0,none⟩)] w fun e w'=>e=.returned (.int .i64 (iT p told))∧(iT p told=0→PrS w' P w.heap.size pv tv 0 0 mb (bU told (bD p (aW p).1 (countP (aW p).1) 0 told).2) (told::(bD p (aW p).1 (countP (aW p).1) 0 told).2))∧Kp P w.heap.size w w':=by
 have hPl:=hB.cells.2.2.2.2.2.2.2;have hpw:=Kind.aF hpv hB0;have htw:=ht.below hB0;obtain⟨pa,pc,rfl⟩:=Kind.slice hpv;obtain⟨ta,tc,rfl⟩:=aC ht;have HSt:=hide (I8 p (.slice pa p.length pc) w hpw);have HPr:=hide hB;have HV0:=hide hpv;have HT0:=hide ht;have HB0:=hide hB0;obtain⟨p0,p1,p2,p3,p4,p5,p6,_⟩:=hB.cells;obtain⟨FE,hFE⟩:∃FE,FE=iT p told:=⟨_,rfl⟩;rw[←hFE];obtain⟨RP,hRP⟩:∃RP,RP=(bD p (aW p).1 (countP (aW p).1) 0 told):=⟨_,rfl⟩;rw[←hRP];unfold iT at hFE;rw[←hRP] at hFE;obtain⟨ss,ex,ea,hse⟩:∃ss ex ea,aW p=(ss,ex,ea):=⟨_,_,_,rfl⟩;rw[hse] at HSt hFE hRP;dsimp only at hFE hRP;have HSE:=hide hse;have HFE:=hide hFE;have V6:=hide hRP;clear hse hFE hRP hpv ht hB hB0 hpw htw
 go_enter Tryz.func58,Tryz.ntmps58
 go_wp2_with fail
 refine HSt.out.mono ?_;rintro e w1 ⟨u,rfl,hu,hB1⟩;dsimp only at hu⊢;have HU:=hide hu;obtain⟨ua,uc,rfl⟩:=Kind.slice hu;have HB1:=hide hB1;clear hu hB1 HSt p0 p1 p2 p3 p4 p5 p6
 by_cases h0:ex=0
 ·subst h0;obtain⟨V7,m,hms,hdm,hlm,hsm⟩:=kJ HSE.out;have hp:=mX.1 V7;have Jc:∀s∈ss,s<16:=fun s hs=>by
   rw[hms] at hs;obtain⟨r,hr,rfl⟩:=List.mem_map.1 hs;have:=pY hlm hsm r hr;have:=hp.few;omega
  have hcs:countP ss≤16:=countP_le Jc;have HMS:Hid (ss=p.map fun r=>numOf m r.head.name):=hms;have HRP:=hide hp;have HSm:=hide Jc;have hFE:=HFE.out;rw[if_neg (by simp)] at hFE;obtain⟨w2,hw2⟩:∃w2,w2=w1.alloc (.cells #[.int .i64 0,.int .i64 (ea:Nat)] 75):=⟨_,rfl⟩;have hL2:Later w1 w2:=by rw[hw2];exact(Later.refl _).alloc _
  have hB2:Below w.heap.size w w2:=aj HB1.out hL2.below HB1.out.size;have HU2:=hide (Kind.bM HU.out hL2.size fun k hk _=>hL2.block hk);have hr2:w2.heap[w1.heap.size]?=some (.cells #[.int .i64 0,.int .i64 (ea:Nat)] 75 (0,0)):=by rw[hw2];exact heap_alloc_new w1 _
  have hc0:w2.cell? ⟨w1.heap.size,0,none⟩=some (.int .i64 0):=by rw[cell_of_row _ _ _ _ _ _ hr2];rfl
  have HCe:Hid (∀w',Below w2.heap.size w2 w'→w'.cell? ⟨P,0,none⟩=some (.slice pa p.length pc)∧w'.cell? ⟨P,1,none⟩=some (.slice ta told.length tc)):=fun w' h=>by
   have:=((HPr.out.below hB2).below h).cells;exact⟨this.1,this.2.1⟩
  obtain⟨fx,fe,hfe⟩:∃fx fe,fq p told=(fx,fe):=⟨_,_,rfl⟩;have HFc:Hid (∀w',Below w2.heap.size w2 w'→Calls Tryz.prog 66 #[.slice pa p.length pc,.slice ta told.length tc] w' fun e w''=>e=.returned (.agg #[.int .i64 fx,.int .i64 fe])∧Below w2.heap.size w2 w''∧Below w'.heap.size w' w''):=fun w' h=>by
   have hh:=aj HB0.out (aj hB2 h hB2.size) HB0.out.size;have:=uP p HRP.out (.slice pa p.length pc) (.slice ta told.length tc) told w' (Kind.aF HV0.out hh) (HT0.out.below hh);rw[hfe] at this;exact this.mono fun e w'' ⟨h1,h2⟩=>⟨h1,aj h h2 h.size,h2⟩
  rw[hfe] at hFE;dsimp only at hFE;have Sr:=hide hFE;have HFx:=hide hfe;have HB2:=hide hB2;have HW2:=hide hw2;have YI:=hB2.size;clear V7 hms hdm hlm hsm hp Jc hL2 hB2 hw2 hr2 hfe hFE HFE HU
  go_wp2_with (rw[←HW2.out])
  refine wp_region_held_drew (S:=fun w'=>Below w2.heap.size w2 w') (by kernel_rfl) (Below.refl _ _).drew (fun hHeld=> ?_);refine ak (i:=0) (d:=some 22) (v:= ?_) rfl rfl hHeld ?_ ?_;rotate_left;focus intro w hSw;(try dsimp only at hSw);go_simp;try with_reducible rfl
  simp only[aK,aL,aze,asu];refine ak (i:=1) (d:=some 23) (v:= ?_) rfl rfl hHeld ?_ ?_;rotate_left;focus intro w hSw;(try dsimp only at hSw);go_simp;try with_reducible rfl
  simp only[aK,aL,aze,asu];refine ak (i:=2) (d:=some 24) (v:= ?_) rfl rfl hHeld ?_ ?_;rotate_left;focus intro w hSw;(try dsimp only at hSw);go_simp;try with_reducible rfl
  simp only[aK,aL,aze,asu];refine ak (i:=3) (d:=some 25) (v:= ?_) rfl rfl hHeld ?_ ?_;rotate_left;focus intro w hSw;(try dsimp only at hSw);go_simp;try with_reducible rfl
  simp only[aK,aL,aze,asu];refine ak (i:=4) (d:=some 26) (v:= ?_) rfl rfl hHeld ?_ ?_;rotate_left;focus intro w hSw;(try dsimp only at hSw);obtain⟨q0,q1⟩:=HCe.out _ hSw;go_simp;try with_reducible rfl
  simp only[aK,aL,aze,asu];refine ak (i:=5) (d:=some 27) (v:= ?_) rfl rfl hHeld ?_ ?_;rotate_left;focus intro w hSw;(try dsimp only at hSw);go_simp;try with_reducible rfl
  simp only[aK,aL,aze,asu];refine ak (i:=6) (d:=some 28) (v:= ?_) rfl rfl hHeld ?_ ?_;rotate_left;focus intro w hSw;(try dsimp only at hSw);go_simp;try with_reducible rfl
  simp only[aK,aL,aze,asu];refine ak (i:=7) (d:=some 29) (v:= ?_) rfl rfl hHeld ?_ ?_;rotate_left;focus intro w hSw;(try dsimp only at hSw);go_simp;try with_reducible rfl
  simp only[aK,aL,aze,asu];refine ak (i:=8) (d:=some 30) (v:= ?_) rfl rfl hHeld ?_ ?_;rotate_left;focus intro w hSw;(try dsimp only at hSw);go_simp;try with_reducible rfl
  simp only[aK,aL,aze,asu];refine ak (i:=9) (d:=some 31) (v:= ?_) rfl rfl hHeld ?_ ?_;rotate_left;focus intro w hSw;(try dsimp only at hSw);obtain⟨q0,q1⟩:=HCe.out _ hSw;go_simp;try with_reducible rfl
  simp only[aK,aL,aze,asu];have hBe:Below w2.heap.size w2 w2.drew:=(Below.refl _ _).drew;refine wpAnyH_ready (rs:=[10,11]) (by kernel_rfl) (by simp) ?_;refine AllReadyH.cons rfl (fun K' hK=> ?ga) (AllReadyH.cons rfl (fun K' hK=> ?gb) AllReadyH.nil)
  case' ga=>
   go_simp;refine(HFc.out _ hBe).mono ?_;rintro e wx ⟨rfl,hB1,_⟩;refine hK.out _ _ hB1 (fun hHeld=> ?_);clear hK K' hBe;have hBe:=hB1;refine wpAnyH_ready (rs:=[11]) (by kernel_rfl) (by simp) ?_;refine AllReadyH.cons rfl (fun K' hK=> ?_) AllReadyH.nil;go_simp;have hzN:=heap_alloc_new wx (.cells #[.int .i64 0,.int .i64 0] 75);have zy:=aj hBe ((Later.refl wx).alloc (.cells #[.int .i64 0,.int .i64 0] 75)).below hBe.size;have hbx:w2.heap.size≤wx.heap.size:=hBe.size;refine hK.out _ _ zy (fun hHeld=> ?_);clear hK K' hBe hHeld hB1;generalize wx.heap.size=bx at*;generalize wx.alloc (.cells #[.int .i64 0,.int .i64 0] 75)=wf at*;have hBe:=zy;have hHeld:=zy;clear zy
  case' gb=>
   go_simp;have hzN:((w2.alloc (.cells #[.int .i64 0,.int .i64 0] 75)).drew).heap[w2.heap.size]?=some (.cells #[.int .i64 0,.int .i64 0] 75 (0,0)):=heap_alloc_new w2 _;have zy:Below w2.heap.size w2 ((w2.alloc (.cells #[.int .i64 0,.int .i64 0] 75)).drew):=((Later.refl w2).alloc (.cells #[.int .i64 0,.int .i64 0] 75)).drew.below;have hbl:w2.heap.size<((w2.alloc (.cells #[.int .i64 0,.int .i64 0] 75)).drew).heap.size:=by simp
   obtain⟨bx,QW⟩:∃bx,w2.heap.size=bx:=⟨_,rfl⟩;rw[QW] at hzN hbl;have hbx:w2.heap.size≤bx:=by omega
   refine hK.out _ _ zy (fun hHeld=> ?_);clear hK K' hBe hHeld;generalize((w2.alloc (.cells #[.int .i64 0,.int .i64 0] 75)).drew)=wz at*;have hBe:=zy;have hHeld:=zy;clear zy;refine wpAnyH_ready (rs:=[10]) (by kernel_rfl) (by simp) ?_;refine AllReadyH.cons rfl (fun K' hK=> ?_) AllReadyH.nil;go_simp;refine(HFc.out _ hBe).mono ?_;rintro e wf ⟨rfl,hB1,OG⟩;have hzN:=(OG.block _ hbl).trans hzN;refine hK.out _ _ hB1 (fun hHeld=> ?_);clear hK K' hBe OG hbl QW;have hBe:=hB1;clear hB1
  all_goals
   refine wpAnyH_ready (rs:=[12]) (by kernel_rfl) (by simp) ?_;refine AllReadyH.cons rfl (fun K' hK=> ?_) AllReadyH.nil;obtain⟨b0,b1,g0,g1,_⟩:=iK hzN;go_simp;have Ea:Below w2.heap.size w2 ((wf.setCell ⟨bx,0,none⟩ (.int .i64 fx)).setCell ⟨bx,1,none⟩ (.int .i64 fe)):=Below.setCell (Below.setCell hBe hbx _) hbx _;refine hK.out _ _ Ea (fun hHeld=> ?_);clear hK K' hHeld;refine wpAnyH_done (by kernel_rfl) ?_ _;obtain⟨w3,hw3⟩:∃w3,w3=(wf.setCell ⟨bx,0,none⟩ (.int .i64 fx)).setCell ⟨bx,1,none⟩ (.int .i64 fe):=⟨_,rfl⟩;have hR3:w3.heap[bx]?=some (.cells #[.int .i64 fx,.int .i64 fe] 75 (0,0)):=by rw[hw3,dF (j:=1) (dF (j:=0) hzN _) _];rfl
   rw[←hw3] at Ea⊢;have c0:w3.cell? ⟨bx,0,none⟩=some (.int .i64 fx):=by rw[cell_of_row _ _ _ _ _ _ hR3];rfl
   have HB3:=hide (aj HB2.out Ea HB2.out.size);have Lv:=hide Ea;clear hzN hBe hbx b0 b1 g0 g1 hw3 hR3 Ea HW2 hc0 HFc HCe
   by_cases h1:fx=0
   ·subst h1;have hgood:GoodS p told:=nA (by rw[HFx.out]);have V8:Hid (FE=RP.1):=by show _=_;rw[Sr.out,if_neg (by simp)]
    have hszz:=HB3.out.size;have Ud:=HPr.out.below HB3.out;have hS3:PrS w3 P w3.heap.size (.slice pa p.length pc) (.slice ta told.length tc) 0 0 mb [] []:=⟨_,_,[],Ud,Or.inl ⟨rfl,rfl⟩,uy w3,rfl,fun i u l h=>by simp at h⟩;have Sv:=aj HB0.out HB3.out HB0.out.size;have HKe:=hide (QU P w3.heap.size (.slice pa p.length pc) (.slice ta told.length tc) (.slice ta told.length tc) 0 0 mb [] told [] w3 hS3 (by omega) (Nat.le_refl _) ⟨_,_,_,rfl⟩ ⟨_,_,_,rfl⟩ (HT0.out.below Sv) (by simp));have q1:=Ud.cells.2.1;have HG:=hide hgood;have HU3:=hide (Kind.bM HU2.out Lv.out.size fun k hk _=>Lv.out.block k hk);have hu3:lY.sl (fun k=>k<w3.heap.size∧k≠P) w3 (.slice ua ss.length uc) ss:=Kind.bT HU3.out fun k hk hB=>⟨hk,by have:w.heap.size≤k:=hB;omega⟩;have HUS:=hide hu3;have hp3:eU.sl (fun k=>k<P) w3 (.slice pa p.length pc) p:=Kind.bM (Kind.bT HV0.out fun k hk _=>by omega) Sv.size fun k hk _=>Sv.block k hk;have HPS:=hide hp3;clear hgood Ud hS3 Sv hu3 hp3 Sr HFx;generalize hlo:w3.heap.size=lo at*
    go_wp2_with fail
    refine HKe.out.mono ?_;rintro e w4 ⟨rfl,hS4,hK4⟩;rw[List.nil_append] at hS4;have HS4:=hide hS4;have HK4:=hide hK4;have Ue:=hK4.size;have hu4:lY.sl bg w4 (.slice ua ss.length uc) ss:=Kind.dQ (Kind.bM HUS.out (by omega) fun k _ hB=>hK4.block k hB.1 hB.2);have HCn:=hide (MW ss (.slice ua ss.length uc) w4 hu4 (fun s hs=>by have:=HSm.out s hs;omega));clear hS4 hK4 hu4 HKe q1 c0
    go_wp2_with fail
    refine HCn.out.mono ?_;rintro e w5 ⟨rfl,hL5⟩;have HS5:=hide (HS4.out.below hL5.below);have HK5:=hide (HK4.out.trans (Kp.of_below hL5.below (by omega)));have YJ:RP.2.length≤16*201:=by
     rw[V6.out];exact Nat.le_trans (CF _ _ _) (Nat.mul_le_mul_right _ hcs)
    clear hL5 HCn HS4 HK4 Ue;obtain⟨cc,hcc⟩:∃cc,cc=countP ss:=⟨_,rfl⟩;have HX:Hid (RP=bD p ss cc 0 told):=by show _=_;rw[V6.out,hcc]
    rw[←hcc] at hcs⊢;clear hcc;go_wp2
    go_loopg [47] cc (fun g i wr=>∃(j k:Nat) (L:List au) (Q:List (List au)),k=g∧j+k=cc∧i=.int .i64 j∧Hid (PrS wr P lo (.slice pa p.length pc) (.slice ta told.length tc) 0 0 mb L (told::Q))∧Hid (GoodS p L)∧Hid (L=bU told Q)∧Q.length≤j*201∧Hid (RP.1=(bD p ss k j L).1∧((bD p ss k j L).1=0→RP.2=Q++(bD p ss k j L).2))∧Hid (Kp P lo w3 wr))
    case atStart=>exact⟨0,cc,told,[],rfl,by omega,rfl,HS5,HG,(rfl:_=_),by simp,⟨by rw[HX.out],fun _=>by rw[HX.out];rfl⟩,HK5⟩
    case round=>
     clear HS5 HG HX HK5;obtain⟨j,k,L,Q,hkg,hj,rfl,HS,HG,HLl,hQl,HX,HK⟩:=hrel;have YG:=HK.out.size
     by_cases hlt:j<cc
     ·obtain⟨k',rfl⟩:∃k',k=k'+1:=⟨k-1,by omega⟩;have hltz:(j:Int)<(cc:Int):=by omega
      have hOC:=QV p HRP.out (fun r=>numOf m r.head.name) j P lo (.slice pa p.length pc) (.slice ta told.length tc) (.slice ua ss.length uc) 0 0 mb L (told::Q) wr HS.out (by omega) (by omega) (Kind.bM HPS.out HK.out.size fun i _ hB=>HK.out.block i (by omega) (by omega)) (by rw[←HMS.out];exact Kind.bM HUS.out HK.out.size fun i _ hB=>HK.out.block i hB.1 hB.2) ⟨_,_,_,rfl⟩ HG.out (by simp only[List.length_cons];have:=Nat.mul_le_mul_right 201 (show j≤16 by omega);omega);rw[←HMS.out] at hOC;have HOC:=hide hOC;obtain⟨er,S,hSo⟩:∃er S,aR p ss (j:Int) 201 L=(er,S):=⟨_,_,rfl⟩;rw[hSo] at HOC;have hst:bD p ss (k'+1) j L=if er≠0 then(er,[]) else((bD p ss k' (j+1) (bU L S)).1,S++(bD p ss k' (j+1) (bU L S)).2):=by
       conv=>lhs;unfold bD
       rw[hSo]
      have hSl:S.length≤201:=by have:=zx (p:=p) (ss:=ss) (n:=(j:Int)) 201 L;rw[hSo] at this;exact this
      have hgS:er=0→GoodS p (bU L S):=fun h=>by
       have hS2:=hSo;rw[HMS.out,h] at hS2;exact(jS HRP.out _ 201 HG.out hS2 (by omega)).1
      have HST:=hide hst;have HGS:=hide hgS;clear hOC hst hgS hSo
      go_wp2_with fail
      refine HOC.out.mono ?_;rintro e w7 ⟨rfl,hS7,hK7⟩;dsimp only at hS7⊢;have HK7:=hide (HK.out.trans hK7)
      by_cases he:er=0
      ·subst he;have HS7:Hid (PrS w7 P lo (.slice pa p.length pc) (.slice ta told.length tc) 0 0 mb (bU L S) (told::(Q++S))):=hS7 rfl;have HG7:=hide (HGS.out rfl);have HL7:Hid (bU L S=bU told (Q++S)):=by show _=_;rw[gV,←HLl.out]
       have HX7:Hid (RP.1=(bD p ss k' (j+1) (bU L S)).1∧((bD p ss k' (j+1) (bU L S)).1=0→RP.2=(Q++S)++(bD p ss k' (j+1) (bU L S)).2)):=by
        have h1:=HX.out;rw[HST.out,if_neg (by simp)] at h1;exact⟨h1.1,fun h=>by rw[h1.2 h,List.append_assoc]⟩
       have hQ7:(Q++S).length≤(j+1)*201:=by rw[List.length_append,Nat.add_mul];omega
       clear hS7 hK7 HOC HST HGS;go_wp2
       go_roundg k'
       case measure=>omega
       case rel=>exact⟨j+1,k',bU L S,Q++S,rfl,by omega,by go_num,HS7,HG7,HL7,hQ7,HX7,HK7⟩
      ·have hne:(er != 0)=true:=by simpa using he
       have HR:Hid (FE=er):=by show _=_;rw[V8.out,HX.out.1,HST.out,if_pos he]
       have HN:Hid (FE=0→PrS w7 P w.heap.size (.slice pa p.length pc) (.slice ta told.length tc) 0 0 mb (bU told RP.2) (told::RP.2)):=fun h=>absurd (HR.out.symm.trans h) he;have HKK:=hide ((Kp.of_below (P:=P) HB3.out (Nat.le_refl _)).trans (HK7.out.less (by omega)));clear hS7 hK7 HOC HST HGS he;go_wp2;go_ret;exact⟨by rw[HR.out];rfl,HN.out,HKK.out⟩
     ·have hk0:k=0:=by omega
      have HR:Hid (FE=0∧PrS wr P w.heap.size (.slice pa p.length pc) (.slice ta told.length tc) 0 0 mb (bU told RP.2) (told::RP.2)):=by
       have h1:=HX.out;rw[hk0] at h1;have h2:RP.2=Q++[]:=h1.2 rfl;rw[List.append_nil] at h2;refine⟨by rw[V8.out,h1.1];rfl,?_⟩;rw[h2,←HLl.out];exact HS.out.fewer (by omega)
      have HKK:=hide ((Kp.of_below (P:=P) HB3.out (Nat.le_refl _)).trans (HK.out.less (by omega)));clear hk0 HX;go_wp2;go_ret;exact⟨by rw[HR.out.1];rfl,fun _=>HR.out.2,HKK.out⟩
   ·have hne:(fx != 0)=true:=by simpa using h1
    have HR:Hid (FE=fx):=by show _=_;rw[Sr.out,if_pos h1]
    have HN:Hid (FE=0→PrS w3 P w.heap.size (.slice pa p.length pc) (.slice ta told.length tc) 0 0 mb (bU told RP.2) (told::RP.2)):=fun h=>absurd (HR.out.symm.trans h) h1;have HKK:=hide (Kp.of_below (P:=P) HB3.out (Nat.le_refl _));clear Sr h1;go_wp2;go_ret;exact⟨by rw[HR.out];rfl,HN.out,HKK.out⟩
 ·have hne:(ex != 0)=true:=by simpa using h0
  have HR:Hid (FE=ex):=by show _=_;rw[HFE.out,if_pos h0]
  have HN:Hid (∀w',FE=0→PrS w' P w.heap.size (.slice pa p.length pc) (.slice ta told.length tc) 0 0 mb (bU told RP.2) (told::RP.2)):=fun w' h=>absurd (HR.out.symm.trans h) h0;have HKK:Hid (Kp P w.heap.size w (w1.alloc (.cells #[.int .i64 ex,.int .i64 (ea:Nat)] 75))):=Kp.of_below (aj HB1.out ((Later.refl _).alloc _).below HB1.out.size) (Nat.le_refl _);clear HFE h0;go_wp2;go_ret;exact⟨by rw[HR.out];rfl,HN.out _,HKK.out⟩
end Go.Proofs.YtafmbokfkbccaaaGreatDoor
