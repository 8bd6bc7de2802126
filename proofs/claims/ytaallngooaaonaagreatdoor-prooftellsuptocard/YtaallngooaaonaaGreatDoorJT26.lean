import Derived.Test.YtaallngooaaonaaGreatDoorJT14
import Derived.Test.YtaallngooaaonaaGreatDoorJT3
import Derived.Test.YtaallngooaaonaaGreatDoorJT25
import Derived.Test.YtaallngooaaonaaGreatDoorJT21
open Go.RowKit Go.Sort Go.Maps
set_option maxHeartbeats 16000000
set_option maxRecDepth 100000
namespace Go.Proofs.YtaallngooaaonaaGreatDoor
def og (u:Value):Prop:=∃a n c,u=.slice a n c
def nL (lo:Nat) (w:World) (v:Value) (xs:List Value):Prop:=
 ∃g cap cur,v=.slice (some ⟨g,0,none⟩) xs.length cap∧lo≤g∧w.heap[g]?=some (.cells cur 24 (0,0))∧xs.length≤cap∧cap≤maxLen∧cur.size=cap∧cur.toList.take xs.length=xs∧∀u∈cur.toList,og u
theorem nL.owns {lo:Nat} {w:World} {v:Value} {xs:List Value} (h:nL lo w v xs):w.ownsRow lo 24 1 v xs.length xs:=by obtain⟨g,cap,cur,rfl,h1,h2,h3,h4,h5,h6,_⟩:=h;exact⟨by simp,Or.inr ⟨g,cap,cur,rfl,h1,h2,h3,h4,by rw[h5];omega,by rw[Nat.mul_one];exact h6⟩⟩
theorem nL.block {lo:Nat} {w w':World} {v:Value} {xs:List Value} (h:nL lo w v xs) (hk:∀k,k<w.heap.size→lo≤k→w'.heap[k]?=w.heap[k]?):nL lo w' v xs:=by obtain⟨g,cap,cur,e,h1,h2,h3⟩:=h;exact⟨g,cap,cur,e,h1,(hk g (Array.getElem?_eq_some_iff.1 h2).1 h1).trans h2,h3⟩
theorem nL.Og {lo:Nat} {w:World} {v:Value} {xs:List Value} (h:nL lo w v xs) {b off:Nat} {s:ByteArray} (hc:w.cell? ⟨b,off,none⟩=some (.string s)):v.ownBlock≠some b:=fun e=>by
 obtain⟨g,cap,cur,rfl,_,h2,_,_,_,_,h7⟩:=h;simp only[Value.ownBlock,Option.some.injEq] at e;subst e;rw[cell_of_row _ _ _ _ _ _ h2] at hc;have hm:(Value.string s)∈cur.toList:=by rw[Array.mem_toList_iff];exact Array.mem_of_getElem? hc
 obtain⟨a,n,c,e⟩:=h7 _ hm;cases e
theorem oh {lo:Nat} {w w':World} {v:Value} {xs:List Value} (h:nL lo w v xs) (hg:w.grownBy w' v.ownBlock) {u:Value} {l:List aN} (hf:Facts w u l):Facts w' u l:=by
 have key:∀{b off:Nat} {s:ByteArray},w.cell? ⟨b,off,none⟩=some (.string s)→w'.heap[b]?=w.heap[b]?:=fun {b off s} hc=>
  hg.block b (World.block_lt_of_cell? w _ hc) (fun e=>h.Og hc e.symm)
 have cell_of:∀{b off:Nat},w'.heap[b]?=w.heap[b]?→w'.cell? ⟨b,off,none⟩=w.cell? ⟨b,off,none⟩:=fun {b off} e=>by unfold World.cell?;dsimp only;rw[e]
 have strs:∀{q:Value} {r:List ByteArray},Strs w q r→Strs w' q r:=fun {q r} hs=>by obtain⟨h0,a,cap,rfl,h1⟩:=hs;refine⟨h0,a,cap,rfl,fun hl=>?_⟩;obtain⟨b,off,rfl,hb,hc⟩:=h1 hl;refine⟨b,off,rfl,Nat.lt_of_lt_of_le hb hg.size,fun i hi=>?_⟩;rw[cell_of (key (hc i hi))];exact hc i hi
 obtain⟨h0,a,cap,rfl,h1⟩:=hf;refine⟨h0,a,cap,rfl,fun hl=>?_⟩;obtain⟨b,off,rfl,hb,hc⟩:=h1 hl;refine⟨b,off,rfl,Nat.lt_of_lt_of_le hb hg.size,fun i hi=>?_⟩;obtain⟨c1,s,c2,c3⟩:=hc i hi;exact⟨by rw[cell_of (key c1)];exact c1,s,by rw[cell_of (key c1)];exact c2,strs c3⟩
theorem xI:∃i,Tryz.prog.info? 24=some i∧i.zero=some (.slice none 0 0)∧i.size=1∧i.bytes=24:=⟨Tryz.t24,by kernel_rfl,by kernel_rfl,by kernel_rfl,by kernel_rfl⟩
theorem nL.more {lo:Nat} {w:World} {v:Value} {xs:List Value} (h:nL lo w v xs) (hlo:lo≤w.heap.size) {u:Value} (hu:og u) (hl:xs.length+1≤1000000):
  ∃v' w',(Builtin.append_ #[51,51] 51 #[v,.slice (some ⟨w.heap.size,0,none⟩) 1 1]).run Tryz.prog (w.alloc (.cells #[u] 24))=.ok v' w'∧nL lo w' v' (xs++[u])∧(w.alloc (.cells #[u] 24)).grownBy w' v.ownBlock:=by
 obtain⟨i,i1,i2,i3,i4⟩:=xI;have hown:=(h.owns).alloc (.cells #[u] 24);have hnews:∀j x,[u][j]?=some x→(w.alloc (.cells #[u] 24)).cell? ((⟨w.heap.size,0,none⟩:Addr).add j)=some x:=fun j x hx=>by rw[Addr.add_lit,Nat.zero_add,cell_of_row _ w.heap.size j #[u] 24 (0,0) (heap_alloc_new w _)];simpa using hx
 have hone:∀x∈[u],x.oneCell'=true:=fun x hx=>by obtain⟨a,n,c,rfl⟩:=hu;simp at hx;subst hx;rfl
 obtain⟨v',w',hrun,r1,r2,r3,r4⟩:=dZ (P:=Tryz.prog) (w.alloc (.cells #[u] 24)) lo 51 51 24 i _ 1 24 Tryz.underlying51 i1 i2 i3 i4 rfl (by omega) v xs.length xs hown ⟨w.heap.size,0,none⟩ 1 1 [u] rfl hnews hone (by simp only[maxLen];omega) (by omega) (by simp;omega);refine⟨v',w',hrun,?_,r2⟩;obtain⟨g,cap,cur,rfl,h1,h2,h3,h4,h5,h6,h7⟩:=h;have h2':(w.alloc (.cells #[u] 24)).heap[g]?=some (.cells cur 24 (0,0)):=by rw[Below.heap_alloc _ _ _ (Array.getElem?_eq_some_iff.1 h2).1];exact h2
 by_cases hroom:xs.length+1≤cap
 ·rw[run_append_room (P:=Tryz.prog) _ 51 51 24 i Tryz.underlying51 i1 g xs.length cap cur h2' ⟨w.heap.size,0,none⟩ 1 1 [u] (by rw[i3];rfl) hnews hone hroom (by rw[i3,h5];simp;omega)] at hrun;simp only[Result.ok.injEq] at hrun;obtain⟨rfl,rfl⟩:=hrun;rw[i3,Nat.mul_one,h6] at r1⊢;rcases r1.2 with⟨e,_⟩|⟨g',cap',cur',e,k1,k2,k3,k4,k5,k6⟩
  ·cases e
  injection e with e1 e2 e3
  injection e1 with e1
  injection e1 with e1
  subst e1;subst e3;refine⟨g,cap,cur',by simp,k1,k2,by simpa using k3,k4,by simpa using k5,by simpa using k6,fun y hy=>?_⟩;have hcur:cur'=(xs++[u]++cur.toList.drop (xs.length+1)).toArray:=by have hh:=setRow_heap (w.alloc (.cells #[u] 24)) g cur (xs++[u]++cur.toList.drop (xs.length+[u].length)).toArray 24 _ h2';have hh2:=k2.symm.trans hh;simp only[Option.some.injEq,Obj.cells.injEq] at hh2;exact hh2.1
  rw[hcur] at hy;simp only[List.mem_append,List.mem_singleton] at hy;rcases hy with(hy|hy)|hy
  ·exact h7 y (by rw[←h6] at hy;exact List.mem_of_mem_take hy)
  ·rw[hy];exact hu
  exact h7 y (List.mem_of_mem_drop hy)
 rw[run_append_grow (P:=Tryz.prog) _ 51 51 24 i _ Tryz.underlying51 i1 i2 ⟨g,0,none⟩ xs.length cap xs (by rw[i3,Nat.mul_one]) (hown.cells (g:=g) rfl) ⟨w.heap.size,0,none⟩ 1 1 [u] (by rw[i3];rfl) hnews (by omega) (by omega) (growslice_fits (by omega) (by rw[i4];omega))] at hrun;simp only[Result.ok.injEq] at hrun;obtain⟨rfl,rfl⟩:=hrun;rcases r1.2 with⟨e,_⟩|⟨g',cap',cur',e,k1,k2,k3,k4,k5,k6⟩
 ·cases e
 injection e with e1 e2 e3
 injection e1 with e1
 injection e1 with e1
 subst e1;subst e3;refine⟨_,_,cur',by simp,k1,k2,by simpa using k3,k4,by simpa using k5,by simpa using k6,fun y hy=>?_⟩;have hn:=heap_alloc_new (w.alloc (.cells #[u] 24)).drew (.cells (xs.toArray++[u].toArray++Builtin.zeroCells (Value.slice none 0 0).cells (grownCap (w.alloc (.cells #[u] 24)) (xs.length+1) cap 24- (xs.length+1))) 24);have k2':=hn.symm.trans k2
 injection k2' with k2'
 injection k2' with k2'
 rw[←k2'] at hy;simp only[Array.toList_append,List.mem_append,List.mem_singleton] at hy;rcases hy with(hy|hy)|hy
 ·exact h7 y (by rw[←h6] at hy;exact List.mem_of_mem_take hy)
 ·rw[hy];exact hu
 unfold Builtin.zeroCells at hy;simp only[Value.cells] at hy;rw[Array.mem_toList_iff,Array.mem_map] at hy;obtain⟨q,_,rfl⟩:=hy;exact⟨none,0,0,by simp[Nat.mod_one]⟩
theorem nL.first {lo:Nat} {w:World} (hlo:lo≤w.heap.size) {u:Value} (hu:og u):
  ∃v' w',(Builtin.append_ #[51,51] 51 #[.slice none 0 0,.slice (some ⟨w.heap.size,0,none⟩) 1 1]).run Tryz.prog (w.alloc (.cells #[u] 24))=.ok v' w'∧nL lo w' v' [u]∧(w.alloc (.cells #[u] 24)).grownBy w' none:=by
 obtain⟨i,i1,i2,i3,i4⟩:=xI;have hown:=World.ownsRow_nil (w.alloc (.cells #[u] 24)) lo 24 1;have hnews:∀j x,[u][j]?=some x→(w.alloc (.cells #[u] 24)).cell? ((⟨w.heap.size,0,none⟩:Addr).add j)=some x:=fun j x hx=>by rw[Addr.add_lit,Nat.zero_add,cell_of_row _ w.heap.size j #[u] 24 (0,0) (heap_alloc_new w _)];simpa using hx
 have hone:∀x∈[u],x.oneCell'=true:=fun x hx=>by obtain⟨a,n,c,rfl⟩:=hu;simp at hx;subst hx;rfl
 obtain⟨v',w',hrun,r1,r2,r3,r4⟩:=dZ (P:=Tryz.prog) (w.alloc (.cells #[u] 24)) lo 51 51 24 i _ 1 24 Tryz.underlying51 i1 i2 i3 i4 rfl (by omega) (.slice none 0 0) 0 [] hown ⟨w.heap.size,0,none⟩ 1 1 [u] rfl hnews hone (by simp only[maxLen];omega) (by omega) (by simp;omega);refine⟨v',w',hrun,?_,r2⟩;rw[run_append_nil (P:=Tryz.prog) _ 51 51 24 i _ Tryz.underlying51 i1 i2 ⟨w.heap.size,0,none⟩ 1 1 [u] (by rw[i3];rfl) hnews (by omega) (by omega) (by rw[i4];omega)] at hrun;simp only[Result.ok.injEq] at hrun;obtain⟨rfl,rfl⟩:=hrun;rcases r1.2 with⟨e,_⟩|⟨g',cap',cur',e,k1,k2,k3,k4,k5,k6⟩;·cases e
 injection e with e1 e2 e3
 injection e1 with e1
 injection e1 with e1
 subst e1;subst e3;refine⟨_,_,cur',by simp,k1,k2,by simpa using k3,k4,by simpa using k5,by simpa using k6,fun y hy=>?_⟩;have hn:=heap_alloc_new (w.alloc (.cells #[u] 24)).drew (.cells ([u].toArray++Builtin.zeroCells (Value.slice none 0 0).cells (grownCap (w.alloc (.cells #[u] 24)) 1 0 24-1)) 24);have k2':=hn.symm.trans k2
 injection k2' with k2'
 injection k2' with k2'
 rw[←k2'] at hy;simp only[Array.toList_append,List.mem_append] at hy;rcases hy with hy|hy
 ·simp at hy;rw[hy];exact hu
 unfold Builtin.zeroCells at hy;simp only[Value.cells] at hy;rw[Array.mem_toList_iff,Array.mem_map] at hy;obtain⟨q,_,rfl⟩:=hy;exact⟨none,0,0,by simp[Nat.mod_one]⟩
def pW (w:World) (b:Nat):Prop:=∀(off:Nat) (s:ByteArray),w.cell? ⟨b,off,none⟩≠some (.string s)
theorem uR {w w':World} {b:Nat} (h:pW w b) (hg:Tn b w w') {u:Value} {l:List aN} (hf:Facts w u l):Facts w' u l:=by
 have key:∀{q off:Nat} {s:ByteArray},w.cell? ⟨q,off,none⟩=some (.string s)→w'.heap[q]?=w.heap[q]?:=fun {q off s} hc=>
  hg.block q (World.block_lt_of_cell? w _ hc) (fun e=>by subst e;exact h _ _ hc)
 have cell_of:∀{q off:Nat},w'.heap[q]?=w.heap[q]?→w'.cell? ⟨q,off,none⟩=w.cell? ⟨q,off,none⟩:=fun {q off} e=>by unfold World.cell?;dsimp only;rw[e]
 have strs:∀{q:Value} {r:List ByteArray},Strs w q r→Strs w' q r:=fun {q r} hs=>by obtain⟨h0,a,cap,rfl,h1⟩:=hs;refine⟨h0,a,cap,rfl,fun hl=>?_⟩;obtain⟨b,off,rfl,hb,hc⟩:=h1 hl;refine⟨b,off,rfl,Nat.lt_of_lt_of_le hb hg.size,fun i hi=>?_⟩;rw[cell_of (key (hc i hi))];exact hc i hi
 obtain⟨h0,a,cap,rfl,h1⟩:=hf;refine⟨h0,a,cap,rfl,fun hl=>?_⟩;obtain⟨b,off,rfl,hb,hc⟩:=h1 hl;refine⟨b,off,rfl,Nat.lt_of_lt_of_le hb hg.size,fun i hi=>?_⟩;obtain⟨c1,s,c2,c3⟩:=hc i hi;exact⟨by rw[cell_of (key c1)];exact c1,s,by rw[cell_of (key c1)];exact c2,strs c3⟩
theorem PrB.xJ {w:World} {P:Nat} {pv tv av:Value} {c d:Int} {sv:Value} {m:Nat} (h:PrB w P pv tv av c d sv m) (hp:og pv) (ht:og tv) (ha:og av) (hs:og sv):pW w P:=fun off s e=>by obtain⟨a1,n1,c1,rfl⟩:=hp;obtain⟨a2,n2,c2,rfl⟩:=ht;obtain⟨a3,n3,c3,rfl⟩:=ha;obtain⟨a4,n4,c4,rfl⟩:=hs;rw[cell_of_row _ _ _ _ _ _ h.row] at e;rcases off with _|_|_|_|_|_|_|off <;> simp at e
def vW (lo:Nat) (w:World) (sv:Value) (xs:List Value):Prop:=(xs=[]∧sv=.slice none 0 0)∨nL lo w sv xs
theorem vW.og {lo:Nat} {w:World} {sv:Value} {xs:List Value} (h:vW lo w sv xs):og sv:=by
 rcases h with⟨_,rfl⟩|⟨g,cap,cur,rfl,_⟩;·exact⟨_,_,_,rfl⟩
 exact⟨_,_,_,rfl⟩
theorem vW.lo {lo:Nat} {w:World} {sv:Value} {xs:List Value} (h:vW lo w sv xs):∀k,sv.ownBlock=some k→lo≤k∧k<w.heap.size:=fun k e=>by
 rcases h with⟨_,rfl⟩|h;·cases e
 exact h.owns.lt k e
theorem vW.more {lo:Nat} {w:World} {sv:Value} {xs:List Value} (h:vW lo w sv xs) (hlo:lo≤w.heap.size) {u:Value} (hu:Go.Proofs.YtaallngooaaonaaGreatDoor.og u) (hl:xs.length+1≤1000000):
  ∃v' w',(Builtin.append_ #[51,51] 51 #[sv,.slice (some ⟨w.heap.size,0,none⟩) 1 1]).run Tryz.prog (w.alloc (.cells #[u] 24))=.ok v' w'∧nL lo w' v' (xs++[u])∧(w.alloc (.cells #[u] 24)).grownBy w' sv.ownBlock∧∀v l,Facts (w.alloc (.cells #[u] 24)) v l→Facts w' v l:=by
 rcases h with⟨rfl,rfl⟩|h
 ·obtain⟨v',w',h1,h2,h3⟩:=nL.first hlo hu
  refine⟨v',w',h1,h2,h3,fun v l hf=>hf.below ⟨h3.os,h3.tape,h3.output,h3.size,fun k hk=>h3.block k hk (fun e=>by cases e)⟩⟩
 obtain⟨v',w',h1,h2,h3⟩:=h.more hlo hu hl;refine⟨v',w',h1,h2,h3,fun v l hf=>?_⟩;have hR:nL lo (w.alloc (.cells #[u] 24)) sv xs:=h.block fun k hk _=>Below.heap_alloc w _ k hk;exact oh hR h3 hf
theorem TW (P lo:Nat) (pv tv av u sv:Value) (c d:Int) (mb:Nat) (xs:List Value) (w:World) (hP:PrB w P pv tv av c d sv mb) (hS:vW lo w sv xs) (Sc:P<lo) (hlw:lo≤w.heap.size) (hp:og pv) (ht:og tv) (ha:og av) (hu:og u) (hl:xs.length+1≤1000000):
  Calls Tryz.prog 35 #[.pointer (some ⟨P,0,none⟩),u] w fun e w'=>e=.returned (.tuple #[])∧∃sv',PrB w' P pv tv u c d sv' mb∧nL lo w' sv' (xs++[u])∧(∀v l,Facts w v l→Facts w' v l)∧(∀k,k<w.heap.size→k≠P→sv.ownBlock≠some k→w'.heap[k]?=w.heap[k]?)∧Below P w w':=by
 have hnt:=hP.xJ hp ht ha hS.og;obtain⟨p0,p1,p2,p3,p4,p5,p6,hPl⟩:=hP.cells;obtain⟨wA,hwA⟩:∃wA,wA=w.setCell ⟨P,2,none⟩ u:=⟨_,rfl⟩;have hTA:Tn P w wA:=by rw[hwA];exact Tn.setCell (p:=P) (Tn.refl _ _) (x:=⟨P,2,none⟩) (Or.inl rfl) _
 have hRA:wA.heap[P]?=some (.cells #[pv,tv,u,.int .i64 c,.int .i64 d,sv,.map (some mb)] 53 (0,0)):=by rw[hwA,dz (j:=2) hP.row];rfl
 have hSA:vW lo wA sv xs:=by
  rcases hS with e|h;·exact Or.inl e
  exact Or.inr (h.block fun k hk hlo=>hTA.block k hk (by omega))
 have hszA:=hTA.size;obtain⟨v',wB,hrun,hRB,hgB,hFB⟩:=hSA.more (by omega) hu hl;have VT:=hSA.lo;have hlo:=hS.lo;have I6:wB.heap[P]?=some (.cells #[pv,tv,u,.int .i64 c,.int .i64 d,sv,.map (some mb)] 53 (0,0)):=by rw[hgB.block P (by simp;omega) (fun e=>by have:=(VT P e.symm).1;omega),Below.heap_alloc _ _ _ (by omega)];exact hRA
 obtain⟨wC,hwC⟩:∃wC,wC=wB.setCell ⟨P,5,none⟩ v':=⟨_,rfl⟩;have hTC:Tn P wB wC:=by rw[hwC];exact Tn.setCell (p:=P) (Tn.refl _ _) (x:=⟨P,5,none⟩) (Or.inl rfl) _
 have hRC:wC.heap[P]?=some (.cells #[pv,tv,u,.int .i64 c,.int .i64 d,v',.map (some mb)] 53 (0,0)):=by rw[hwC,dz (j:=5) I6];rfl
 have VU:=hgB.size;simp only[World.size_alloc] at VU;have VW:nL lo wC v' (xs++[u]):=hRB.block fun k hk hlo=>hTC.block k hk (by omega);have hsv:og sv:=hS.og;have VX:pW wB P:=(PrB.mk I6).xJ hp ht hu hsv;have hkeep:∀k,k<w.heap.size→k≠P→sv.ownBlock≠some k→wC.heap[k]?=w.heap[k]?:=fun k hk hne hns=>by rw[hTC.block k (by omega) hne,hgB.block k (by simp;omega) (fun e=>hns e.symm),Below.heap_alloc _ _ _ (by omega)];exact hTA.block k hk hne
 have hFC:∀v l,Facts w v l→Facts wC v l:=fun v l hf=>by have h1:=uR hnt hTA hf;have h2:=hFB v l (h1.later ((ak.refl _).alloc _));exact uR VX hTC h2
 have hBC:Below P w wC:=by
  refine⟨?_,?_,?_,by have:=hTC.size;omega,fun k hk=>hkeep k (by omega) (by omega) (fun e=>by have:=(hlo k e).1;omega)⟩
  ·rw[hTC.os,hgB.os];exact hTA.os
  ·rw[hTC.tape,hgB.tape];exact hTA.tape
  rw[hTC.output,hgB.output];exact hTA.output
 have q5:wA.cell? ⟨P,5,none⟩=some sv:=by rw[cell_of_row _ _ _ _ _ _ hRA];rfl
 have z2:w.frozen? ⟨P,2,none⟩=false:=fU hP.row;have q5b:wB.cell? ⟨P,5,none⟩=some sv:=by rw[cell_of_row _ _ _ _ _ _ I6];rfl
 have z5:wB.frozen? ⟨P,5,none⟩=false:=fU I6;obtain⟨ua,un,uc,rfl⟩:=hu;obtain⟨sa,sn,sc,rfl⟩:=hsv;obtain⟨va,vn,vc,rfl⟩:og v':=by obtain⟨g,cap,cur,e,_⟩:=hRB;exact⟨_,_,_,e⟩
 have HRn:=au hrun;have HWA:=au hwA;have HWC:=au hwC;have HFin:Hid (PrB wC P pv tv (.slice ua un uc) c d (.slice va vn vc) mb∧nL lo wC (.slice va vn vc) (xs++[.slice ua un uc])∧(∀v l,Facts w v l→Facts wC v l)∧(∀k,k<w.heap.size→k≠P→(Value.slice sa sn sc).ownBlock≠some k→wC.heap[k]?=w.heap[k]?)∧Below P w wC):=⟨⟨hRC⟩,VW,hFC,hkeep,hBC⟩;clear hP hS hnt hp ht ha hl p0 p1 p3 p4 p5 p6 hwA hTA hRA hSA hrun hRB hgB hFB VT hlo I6 hwC hTC hRC VW VX hkeep hFC hBC
 go_enter Tryz.func35,Tryz.ntmps35
 go_wp2_with (first|(rw[←HWA.out])|(rw[←HWC.out])|(at_builtin;refine wpList_append_run rfl (.tmp 13) (.tmp 15) 51 rfl _ _ _ _ rfl rfl HRn.out ?_))
 first|go_end0|refine bodyPost_ret (results_none rfl _ _ _) rfl ?_
 exact⟨rfl,_,HFin.out⟩
structure Kp (P lo:Nat) (w w':World):Prop where
 os:w'.os=w.os
 tape:w'.tape=w.tape
 output:w'.output=w.output
 size:w.heap.size≤w'.heap.size
 block:∀k,k<lo→k≠P→w'.heap[k]?=w.heap[k]?
theorem Kp.refl (P lo:Nat) (w:World):Kp P lo w w:=⟨rfl,rfl,rfl,Nat.le_refl _,fun _ _ _=>rfl⟩
theorem Kp.trans {P lo:Nat} {a b c:World} (h:Kp P lo a b) (k:Kp P lo b c):Kp P lo a c:=
 ⟨k.os.trans h.os,k.tape.trans h.tape,k.output.trans h.output,Nat.le_trans h.size k.size,fun i hi ho=>(k.block i hi ho).trans (h.block i hi ho)⟩
theorem Kp.of_below {P lo n:Nat} {a b:World} (h:Below n a b) (hn:lo≤n):Kp P lo a b:=⟨h.os,h.tape,h.output,h.size,fun k hk _=>h.block k (by omega)⟩
theorem Kp.below {P lo n:Nat} {a b:World} (h:Kp P lo a b) (hn:n≤P) (hl:P<lo):Below n a b:=⟨h.os,h.tape,h.output,h.size,fun k hk=>h.block k (by omega) (by omega)⟩
theorem Kp.less {P lo lo':Nat} {a b:World} (h:Kp P lo a b) (hl:lo'≤lo):Kp P lo' a b:=⟨h.os,h.tape,h.output,h.size,fun k hk hne=>h.block k (by omega) hne⟩
structure PrS (w:World) (P lo:Nat) (pv tv:Value) (c d:Int) (mb:Nat) (all:List aA) (PS:List (List aA)):Prop where
 has:∃av sv xs,PrB w P pv tv av c d sv mb∧vW lo w sv xs∧Facts w av all∧xs.length=PS.length∧∀(i:Nat) u l,xs[i]?=some u→PS[i]?=some l→Facts w u l
theorem PrS.below {w w':World} {P lo:Nat} {pv tv:Value} {c d:Int} {mb:Nat} {all:List aA} {PS:List (List aA)} (h:PrS w P lo pv tv c d mb all PS) (k:Below w.heap.size w w'):PrS w' P lo pv tv c d mb all PS:=by
 obtain⟨av,sv,xs,h1,h2,h3,h4,h5⟩:=h.has;refine⟨av,sv,xs,h1.below k,?_,h3.below k,h4,fun i u l hu hl=>(h5 i u l hu hl).below k⟩;rcases h2 with e|h2;·exact Or.inl e
 exact Or.inr (h2.block fun i hi _=>k.block i hi)
theorem PrS.fewer {w:World} {P lo lo':Nat} {pv tv:Value} {c d:Int} {mb:Nat} {all:List aA} {PS:List (List aA)} (h:PrS w P lo pv tv c d mb all PS) (hl:lo'≤lo):PrS w P lo' pv tv c d mb all PS:=by
 obtain⟨av,sv,xs,h1,h2,h3⟩:=h.has;refine⟨av,sv,xs,h1,?_,h3⟩;rcases h2 with e|⟨g,cap,cur,e,hg,r⟩;·exact Or.inl e
 exact Or.inr ⟨g,cap,cur,e,by omega,r⟩
theorem QD (P lo:Nat) (pv tv u:Value) (c d:Int) (mb:Nat) (all L:List aA) (PS:List (List aA)) (w:World) (hS:PrS w P lo pv tv c d mb all PS) (Sc:P<lo) (hlw:lo≤w.heap.size) (hp:og pv) (ht:og tv) (hu:Facts w u L) (hl:PS.length+1≤1000000):
  Calls Tryz.prog 35 #[.pointer (some ⟨P,0,none⟩),u] w fun e w'=>e=.returned (.tuple #[])∧PrS w' P lo pv tv c d mb L (PS++[L])∧Kp P lo w w':=by
 obtain⟨av,sv,xs,h1,h2,h3,h4,h5⟩:=hS.has;have hua:og u:=by obtain⟨a,c,e⟩:=aF hu;exact⟨a,_,c,e⟩
 have haa:og av:=by obtain⟨a,c,e⟩:=aF h3;exact⟨a,_,c,e⟩
 refine(TW P lo pv tv av u sv c d mb xs w h1 h2 Sc hlw hp ht haa hua (by omega)).mono fun e w' ⟨he,sv',k1,k2,k3,k4,k5⟩=>⟨he,⟨u,sv',xs++[u],k1,Or.inr k2,k3 u L hu,by simp[h4],fun i z l hz hl=>?_⟩,⟨k5.os,k5.tape,k5.output,k5.size,fun k hk hne=>k4 k (by omega) hne (fun e=>by have:=(h2.lo k e).1;omega)⟩⟩
 by_cases hi:i<xs.length
 ·rw[List.getElem?_append_left hi] at hz;rw[List.getElem?_append_left (by omega)] at hl;exact k3 z l (h5 i z l hz hl)
 rw[List.getElem?_append_right (by omega)] at hz;rw[List.getElem?_append_right (by omega)] at hl;have hi':i=xs.length:=by have:=(List.getElem?_eq_some_iff.1 hz).1;simp at this;omega
 subst hi';rw[h4] at hl;simp at hz hl;subst hz hl;exact k3 u L hu
theorem QE (p:List aG) (hp:dP p) (σ:aG→Nat) (n:Int) (P lo:Nat) (pv tv sv:Value) (c d:Int) (mb:Nat) (L:List aA) (PS:List (List aA)) (w:World) (hS:PrS w P lo pv tv c d mb L PS) (Sc:P<lo) (hlw:lo≤w.heap.size) (hpv:eP.sl (fun k=>k<P) w pv p) (hsv:lS.sl (fun k=>k<lo∧k≠P) w sv (p.map σ)) (ht:og tv) (hG:GoodS p L) (hPS:PS.length≤500000):
  Calls Tryz.prog 36 #[.pointer (some ⟨P,0,none⟩),sv,.int .i64 n] w fun e w'=>e=.returned (.int .i64 (aR p (p.map σ) n 201 L).1)∧((aR p (p.map σ) n 201 L).1=0→PrS w' P lo pv tv c d mb (bR L (aR p (p.map σ) n 201 L).2) (PS++(aR p (p.map σ) n 201 L).2))∧Kp P lo w w':=by
 generalize hss:p.map σ=ss at*;have HSS:=au hss;obtain⟨pa,pc,hpe⟩:=aB.slice hpv;obtain⟨sa,sc,hse⟩:=aB.slice hsv;have HPv:Hid (∀w',Kp P lo w w'→eP.sl bf w' pv p):=fun w' h=>aB.dO (aB.bL hpv h.size fun k _ hB=>h.block k (by omega) (by omega));have HSv:Hid (∀w',Kp P lo w w'→lS.sl bf w' sv ss):=fun w' h=>aB.dO (aB.bL hsv h.size fun k _ hB=>h.block k hB.1 hB.2);have HS:=au hS;have HG:=au hG;have HRP:=au hp;obtain⟨O,hO⟩:∃O,O=aR p ss n 201 L:=⟨_,rfl⟩;rw[←hO];have HO:=au hO;subst hpe;subst hse;clear hss hS hG hp hpv hsv hO;have NU:=HG.out.few
 go_enter Tryz.func36,Tryz.ntmps36
 go_wp2
 go_loopg [7] 201 (fun g _ wr=>∃(k:Nat) (M:List aA) (Q:List (List aA)),k=g∧200<M.length+k∧Q.length+k=201∧Hid (PrS wr P lo (.slice pa p.length pc) tv c d mb M (PS++Q))∧Hid (GoodS p M)∧Hid (M=bR L Q)∧Hid (O.1=(aR p ss n k M).1∧((aR p ss n k M).1=0→O.2=Q++(aR p ss n k M).2))∧Hid (Kp P lo w wr))
 case atStart=>exact⟨201,L,[],rfl,by omega,rfl,(by rw[List.append_nil];exact HS.out:PrS _ _ _ _ _ _ _ _ _ _),HG,(rfl:_=_),⟨by rw[HO.out],fun _=>by rw[HO.out];rfl⟩,Kp.refl _ _ _⟩
 clear HS HG NU;obtain⟨k,M,Q,rfl,YD,hQ,HS,HG,HM,HO,HK⟩:=hrel;have hMf:=HG.out.few;obtain⟨k,rfl⟩:∃m,k=m+1:=⟨k-1,by omega⟩;obtain⟨av,pv',xs,hB,hR,hF,hl,hx⟩:=HS.out.has;obtain⟨aa,ac,hav⟩:=aF hF;subst hav;obtain⟨p0,p1,p2,p3,p4,p5,p6,hPl⟩:=hB.cells;have YE:=HK.out.size;have HCe:Hid (∀w',Below wr.heap.size wr w'→w'.cell? ⟨P,0,none⟩=some (.slice pa p.length pc)∧w'.cell? ⟨P,2,none⟩=some (.slice aa M.length ac)):=fun w' h=>by have:=(hB.below h).cells;exact⟨this.1,this.2.2.1⟩
 have HOn:Hid (∀w',Below wr.heap.size wr w'→Calls Tryz.prog 60 #[.slice pa p.length pc,.slice sa ss.length sc,.int .i64 n,.slice aa M.length ac] w' fun e w''=>∃v' er,e=.returned (.tuple #[v',.int .i64 er])∧lT w'' v' er (bW p ss n M)∧Hid (Below wr.heap.size wr w'')):=fun w' h=>by have hkk:=HK.out.trans (Kp.of_below h (by omega));have:=Qw p ss n M (.slice pa p.length pc) (.slice sa ss.length sc) (.slice aa M.length ac) w' (HPv.out w' hkk) (HSv.out w' hkk) (hF.below h) HRP.out.few hMf (xH HRP.out HG.out) (uG HRP.out HG.out) (fun f hf=>lu (HG.out.right f hf));exact this.mono fun e w'' ⟨v',er,h1,h2,h3⟩=>⟨v',er,h1,h2,aj h h3 h.size⟩
 have HB2:=au hB;clear hB hR hF hl hx p0 p1 p3 p4 p5 p6;obtain⟨OE,OL,hON⟩:∃a b,bW p ss n M=(a,b):=⟨_,_,rfl⟩;rw[hON] at HOn;have HON:=au hON;clear hON;go_wp2;refine wp_region_held_drew (S:=fun w'=>Below wr.heap.size wr w') (by kernel_rfl) (Below.refl _ _).drew (fun hHeld=>?_);refine tkY 0 17 hHeld ?_;refine tkY 1 18 hHeld ?_;refine tkY 2 19 hHeld ?_;refine tkY 3 20 hHeld ?_;refine tkY 4 21 hHeld ?_ rfl fun w hSw=>by obtain⟨q0,q2⟩:=HCe.out _ hSw;go_simp;try with_reducible rfl
 refine tkY 5 22 hHeld ?_;refine tkY 6 23 hHeld ?_;refine tkY 7 24 hHeld ?_;refine tkY 8 25 hHeld ?_;refine tkY 9 26 hHeld ?_;refine tkY 10 27 hHeld ?_;refine tkY 11 28 hHeld ?_ rfl fun w hSw=>by obtain⟨q0,q2⟩:=HCe.out _ hSw;go_simp;try with_reducible rfl
 refine tkC 12 fun K hK=>?_;go_simp;refine(HOn.out _ hHeld).mono ?_;rintro e w2 ⟨v2,er2,rfl,⟨he2,hT0,hT1⟩,hB2⟩;dsimp only at he2 hT0 hT1;subst he2;have hv2:og v2:=by
  by_cases h0:er2=0
  ·obtain⟨a,c,e⟩:=aF (hT1 h0);exact⟨a,_,c,e⟩
  exact⟨_,_,_,hT0 h0⟩
 obtain⟨a2,n2,c2,rfl⟩:=hv2;refine hK.out _ _ hB2.out (fun hHeld=>?_);clear hK K;refine tkY 13 16 hHeld ?_;refine tkY 14 30 hHeld ?_;refine tkY 15 31 hHeld ?_;refine tkY 16 8 hHeld ?_;refine tkY 17 9 hHeld ?_;refine wpAnyH_done (by kernel_rfl) ?_ _;clear hHeld;have HK2:=au (HK.out.trans (Kp.of_below hB2.out (by omega)));have hst:aR p ss n (k+1) M=if er2≠0 then(er2,[]) else if OL.length=M.length then(0,[OL]) else((aR p ss n k OL).1,OL::(aR p ss n k OL).2):=by
  conv=>lhs;unfold aR
  rw[HON.out]
 by_cases h0:er2=0
 ·subst h0;rw[if_neg (by simp)] at hst;have hF2:=hT1 rfl;have hG2:GoodS p OL∧∀f∈M,f∈OL:=by
   have:=HON.out;rw[←HSS.out] at this;exact jl HRP.out σ HG.out this
  have Fu:n2=OL.length:=by obtain⟨a,c,e⟩:=aF hF2;simp only[Value.slice.injEq] at e;exact e.2.1
  subst Fu;have VY:=HS.out.below hB2.out;have hsz2:=hB2.out.size;have HKe:=au (QD P lo _ tv (.slice a2 OL.length c2) c d mb M OL (PS++Q) w2 VY Sc (by omega) ⟨_,_,_,rfl⟩ ht hF2 (by simp;omega));have hle:=EN HG.out.up hG2.2;have HG2:=au hG2.1;clear hT0 hT1 hF2 hG2 VY HOn HCe hB2
  go_wp2_with fail
  refine HKe.out.mono ?_;rintro e w3 ⟨rfl,hS3,hK3⟩;have HK3:=au (HK2.out.trans hK3)
  by_cases hlen:OL.length=M.length
  ·rw[if_pos hlen] at hst;have HR:Hid (O.1=0∧(O.1=0→PrS w3 P lo (.slice pa p.length pc) tv c d mb (bR L O.2) (PS++O.2))):=by
    have h1:=HO.out;rw[hst] at h1;have h2:=h1.2 rfl;refine⟨h1.1,fun _=>?_⟩;rw[h2,gT,←HM.out,←List.append_assoc];exact hS3
   have hli:((OL.length:Int)==(M.length:Int))=true:=by simp[hlen]
   have YF:(OL.length:Int)=(M.length:Int):=by omega
   clear hS3 hK3 hst HKe HO hlen;go_wp2;go_ret;exact⟨by rw[HR.out.1];rfl,HR.out.2,HK3.out⟩
  rw[if_neg hlen] at hst;have HO2:Hid (O.1=(aR p ss n k OL).1∧((aR p ss n k OL).1=0→O.2=(Q++[OL])++(aR p ss n k OL).2)):=by have h1:=HO.out;rw[hst] at h1;exact⟨h1.1,fun h=>by rw[h1.2 h];simp⟩
  have HS3:Hid (PrS w3 P lo (.slice pa p.length pc) tv c d mb OL (PS++(Q++[OL]))):=by show PrS _ _ _ _ _ _ _ _ _ _;rw[←List.append_assoc];exact hS3
  have HM3:Hid (OL=bR L (Q++[OL])):=by show _=_;rw[gT];rfl
  have hlt:M.length<OL.length:=by omega
  have hq3:(Q++[OL]).length+k=201:=by simp;omega
  have hli:¬(OL.length:Int)=(M.length:Int):=by omega
  have YF:((OL.length:Int)==(M.length:Int))=false:=by simp;omega
  clear hS3 hK3 hst HKe HO hlen;go_wp2
  go_roundg k
  case measure=>omega
  case rel=>exact⟨k,OL,Q++[OL],rfl,by omega,hq3,HS3,HG2,HM3,HO2,HK3⟩
 have hq:(er2 != 0)=true:=by simpa using h0
 rw[if_pos h0] at hst;have HR:Hid (O.1=er2):=by show _=_;rw[HO.out.1,hst]
 have HN:Hid (O.1=0→PrS w2 P lo (.slice pa p.length pc) tv c d mb (bR L O.2) (PS++O.2)):=fun h=>absurd (HR.out.symm.trans h) h0;clear hst hT0 hT1 HOn HCe hB2 h0 HO;go_wp2;go_ret;exact⟨by rw[HR.out];rfl,HN.out,HK2.out⟩
def iP (p:List aG) (told:List aA):Int:=if(aV p).2.1≠0 then(aV p).2.1 else if(eY p told).1≠0 then(eY p told).1 else(bC p (aV p).1 (countP (aV p).1) 0 told).1
theorem qQ (p:List aG) (told:List aA):(jG p told).1=iP p told∧(iP p told=0→jG p told=(0,bR told (bC p (aV p).1 (countP (aV p).1) 0 told).2)):=by
 unfold jG iP
 by_cases h0:(aV p).2.1=0
 ·have h0':¬(aV p).2.1≠0:=fun h=>h h0;simp only[if_neg h0']
  by_cases h1:(eY p told).1=0
  ·have h1':¬(eY p told).1≠0:=fun h=>h h1;simp only[if_neg h1'];exact r9 p _ _ 0 told
  have h1':(eY p told).1≠0:=h1;simp only[if_pos h1'];exact⟨trivial,fun h=>absurd h h1⟩
 have h0':(aV p).2.1≠0:=h0;simp only[if_pos h0'];exact⟨trivial,fun h=>absurd h h0⟩
theorem zh {p:List aG} {ss:List Nat} {n:Int}:∀(k:Nat) (L:List aA),(aR p ss n k L).2.length≤k
 |0,_=>by simp[aR]
 |k+1,L=>by
  unfold aR;split;·simp
  split;·simp
  have:=zh (p:=p) (ss:=ss) (n:=n) k (bW p ss n L).2;simp only[List.length_cons];omega
theorem Cq {p:List aG} {ss:List Nat}:∀(c n:Nat) (L:List aA),(bC p ss c n L).2.length≤c*201
 |0,_,_=>by simp[bC]
 |c+1,n,L=>by
  unfold bC;split;·simp
  have h1:=zh (p:=p) (ss:=ss) (n:=(n:Int)) 201 L;have h2:=Cq (p:=p) (ss:=ss) c (n+1) (bR L (aR p ss n 201 L).2);simp only[List.length_append];omega
theorem Oh (p:List aG) (told:List aA) (P mb:Nat) (pv tv:Value) (w0 w:World) (hB:PrB w P pv tv (.slice none 0 0) 0 0 (.slice none 0 0) mb) (hB0:Below w0.heap.size w0 w) (hw0:w0.heap.size≤P) (hpv:eP.sl bf w0 pv p) (ht:Facts w0 tv told):
  Calls Tryz.prog 18 #[.pointer (some ⟨P,0,none⟩)] w fun e w'=>e=.returned (.int .i64 (iP p told))∧(iP p told=0→PrS w' P w.heap.size pv tv 0 0 mb (bR told (bC p (aV p).1 (countP (aV p).1) 0 told).2) (told::(bC p (aV p).1 (countP (aV p).1) 0 told).2))∧Kp P w.heap.size w w':=by
 have hPl:=hB.cells.2.2.2.2.2.2.2;have hpw:=aB.aJ hpv hB0;have htw:=ht.below hB0;obtain⟨pa,pc,rfl⟩:=aB.slice hpv;obtain⟨ta,tc,rfl⟩:=aF ht;have HSt:=au (IK p (.slice pa p.length pc) w hpw);have HPr:=au hB;have HV0:=au hpv;have HT0:=au ht;have HB0:=au hB0;obtain⟨p0,p1,p2,p3,p4,p5,p6,_⟩:=hB.cells;obtain⟨FE,hFE⟩:∃FE,FE=iP p told:=⟨_,rfl⟩;rw[←hFE];obtain⟨RP,hRP⟩:∃RP,RP=(bC p (aV p).1 (countP (aV p).1) 0 told):=⟨_,rfl⟩;rw[←hRP];unfold iP at hFE;rw[←hRP] at hFE;obtain⟨ss,ex,ea,hse⟩:∃ss ex ea,aV p=(ss,ex,ea):=⟨_,_,_,rfl⟩;rw[hse] at HSt hFE hRP;dsimp only at hFE hRP;have HSE:=au hse;have HFE:=au hFE;have VZ:=au hRP;clear hse hFE hRP hpv ht hB hB0 hpw htw
 go_enter Tryz.func18,Tryz.ntmps18
 go_wp2_with fail
 refine HSt.out.mono ?_;rintro e w1 ⟨u,rfl,hu,hB1⟩;dsimp only at hu⊢;have HU:=au hu;obtain⟨ua,uc,rfl⟩:=aB.slice hu;have HB1:=au hB1;clear hu hB1 HSt p0 p1 p2 p3 p4 p5 p6
 by_cases h0:ex=0
 ·subst h0;obtain⟨V3,m,hms,hdm,hlm,hsm⟩:=kF HSE.out;have hp:=mP.1 V3;have IV:∀s∈ss,s<16:=fun s hs=>by
   rw[hms] at hs;obtain⟨r,hr,rfl⟩:=List.mem_map.1 hs;have:=pR hlm hsm r hr;have:=hp.few;omega
  have hcs:countP ss≤16:=countP_le IV;have HMS:Hid (ss=p.map fun r=>numOf m r.head.name):=hms;have HRP:=au hp;have HSm:=au IV;have hFE:=HFE.out;rw[if_neg (by simp)] at hFE;obtain⟨w2,hw2⟩:∃w2,w2=w1.alloc (.cells #[.int .i64 0,.int .i64 (ea:Nat)] 69):=⟨_,rfl⟩;have hL2:ak w1 w2:=by rw[hw2];exact(ak.refl _).alloc _
  have hB2:Below w.heap.size w w2:=aj HB1.out hL2.below HB1.out.size;have HU2:=au (aB.bL HU.out hL2.size fun k hk _=>hL2.block hk);have hr2:w2.heap[w1.heap.size]?=some (.cells #[.int .i64 0,.int .i64 (ea:Nat)] 69 (0,0)):=by rw[hw2];exact heap_alloc_new w1 _
  have hc0:w2.cell? ⟨w1.heap.size,0,none⟩=some (.int .i64 0):=by rw[cell_of_row _ _ _ _ _ _ hr2];rfl
  have HCe:Hid (∀w',Below w2.heap.size w2 w'→w'.cell? ⟨P,0,none⟩=some (.slice pa p.length pc)∧w'.cell? ⟨P,1,none⟩=some (.slice ta told.length tc)):=fun w' h=>by have:=((HPr.out.below hB2).below h).cells;exact⟨this.1,this.2.1⟩
  obtain⟨fx,fe,hfe⟩:∃fx fe,eY p told=(fx,fe):=⟨_,_,rfl⟩;have HFc:Hid (∀w',Below w2.heap.size w2 w'→Calls Tryz.prog 28 #[.slice pa p.length pc,.slice ta told.length tc] w' fun e w''=>e=.returned (.agg #[.int .i64 fx,.int .i64 fe])∧Below w2.heap.size w2 w''∧Below w'.heap.size w' w''):=fun w' h=>by have hh:=aj HB0.out (aj hB2 h hB2.size) HB0.out.size;have:=uJ p HRP.out (.slice pa p.length pc) (.slice ta told.length tc) told w' (aB.aJ HV0.out hh) (HT0.out.below hh);rw[hfe] at this;exact this.mono fun e w'' ⟨h1,h2⟩=>⟨h1,aj h h2 h.size,h2⟩
  rw[hfe] at hFE;dsimp only at hFE;have Sd:=au hFE;have HFx:=au hfe;have HB2:=au hB2;have HW2:=au hw2;have YG:=hB2.size;clear V3 hms hdm hlm hsm hp IV hL2 hB2 hw2 hr2 hfe hFE HFE HU
  go_wp2_with (rw[←HW2.out])
  refine wp_region_held_drew (S:=fun w'=>Below w2.heap.size w2 w') (by kernel_rfl) (Below.refl _ _).drew (fun hHeld=>?_);refine tkY 0 22 hHeld ?_;refine tkY 1 23 hHeld ?_;refine tkY 2 24 hHeld ?_;refine tkY 3 25 hHeld ?_;refine tkY 4 26 hHeld ?_ rfl fun w hSw=>by obtain⟨q0,q1⟩:=HCe.out _ hSw;go_simp;try with_reducible rfl
  refine tkY 5 27 hHeld ?_;refine tkY 6 28 hHeld ?_;refine tkY 7 29 hHeld ?_;refine tkY 8 30 hHeld ?_;refine tkY 9 31 hHeld ?_ rfl fun w hSw=>by obtain⟨q0,q1⟩:=HCe.out _ hSw;go_simp;try with_reducible rfl
  have hBe:Below w2.heap.size w2 w2.drew:=(Below.refl _ _).drew;refine wpAnyH_ready (rs:=[10,11]) (by kernel_rfl) (by simp) ?_;refine AllReadyH.cons rfl (fun K' hK=> ?ga) (AllReadyH.cons rfl (fun K' hK=> ?gb) AllReadyH.nil)
  case' ga=>
   go_simp;refine(HFc.out _ hBe).mono ?_;rintro e wx ⟨rfl,hB1,_⟩;refine hK.out _ _ hB1 (fun hHeld=>?_);clear hK K' hBe;have hBe:=hB1;refine tkC 11 fun K' hK=>?_;go_simp;have hzN:=heap_alloc_new wx (.cells #[.int .i64 0,.int .i64 0] 69);have zi:=aj hBe ((ak.refl wx).alloc (.cells #[.int .i64 0,.int .i64 0] 69)).below hBe.size;have hbx:w2.heap.size≤wx.heap.size:=hBe.size;refine hK.out _ _ zi (fun hHeld=>?_);clear hK K' hBe hHeld hB1;generalize wx.heap.size=bx at*;generalize wx.alloc (.cells #[.int .i64 0,.int .i64 0] 69)=wf at*;have hBe:=zi;have hHeld:=zi;clear zi
  case' gb=>
   go_simp;have hzN:((w2.alloc (.cells #[.int .i64 0,.int .i64 0] 69)).drew).heap[w2.heap.size]?=some (.cells #[.int .i64 0,.int .i64 0] 69 (0,0)):=heap_alloc_new w2 _;have zi:Below w2.heap.size w2 ((w2.alloc (.cells #[.int .i64 0,.int .i64 0] 69)).drew):=((ak.refl w2).alloc (.cells #[.int .i64 0,.int .i64 0] 69)).drew.below;have hbl:w2.heap.size<((w2.alloc (.cells #[.int .i64 0,.int .i64 0] 69)).drew).heap.size:=by simp
   obtain⟨bx,QF⟩:∃bx,w2.heap.size=bx:=⟨_,rfl⟩;rw[QF] at hzN hbl;have hbx:w2.heap.size≤bx:=by omega
   refine hK.out _ _ zi (fun hHeld=>?_);clear hK K' hBe hHeld;generalize((w2.alloc (.cells #[.int .i64 0,.int .i64 0] 69)).drew)=wz at*;have hBe:=zi;have hHeld:=zi;clear zi;refine tkC 10 fun K' hK=>?_;go_simp;refine(HFc.out _ hBe).mono ?_;rintro e wf ⟨rfl,hB1,Oi⟩;have hzN:=(Oi.block _ hbl).trans hzN;refine hK.out _ _ hB1 (fun hHeld=>?_);clear hK K' hBe Oi hbl QF;have hBe:=hB1;clear hB1
  all_goals
   refine tkC 12 fun K' hK=>?_;obtain⟨b0,b1,g0,g1,_⟩:=iH hzN;go_simp;have DW:Below w2.heap.size w2 ((wf.setCell ⟨bx,0,none⟩ (.int .i64 fx)).setCell ⟨bx,1,none⟩ (.int .i64 fe)):=Below.setCell (Below.setCell hBe hbx _) hbx _;refine hK.out _ _ DW (fun hHeld=>?_);clear hK K' hHeld;refine wpAnyH_done (by kernel_rfl) ?_ _;obtain⟨w3,hw3⟩:∃w3,w3=(wf.setCell ⟨bx,0,none⟩ (.int .i64 fx)).setCell ⟨bx,1,none⟩ (.int .i64 fe):=⟨_,rfl⟩;have hR3:w3.heap[bx]?=some (.cells #[.int .i64 fx,.int .i64 fe] 69 (0,0)):=by rw[hw3,dz (j:=1) (dz (j:=0) hzN _) _];rfl
   rw[←hw3] at DW⊢;have c0:w3.cell? ⟨bx,0,none⟩=some (.int .i64 fx):=by rw[cell_of_row _ _ _ _ _ _ hR3];rfl
   have HB3:=au (aj HB2.out DW HB2.out.size);have Lb:=au DW;clear hzN hBe hbx b0 b1 g0 g1 hw3 hR3 DW HW2 hc0 HFc HCe
   by_cases h1:fx=0
   ·subst h1;have hgood:GoodS p told:=mX (by rw[HFx.out]);have V4:Hid (FE=RP.1):=by show _=_;rw[Sd.out,if_neg (by simp)]
    have hszz:=HB3.out.size;have TY:=HPr.out.below HB3.out;have hS3:PrS w3 P w3.heap.size (.slice pa p.length pc) (.slice ta told.length tc) 0 0 mb [] []:=⟨_,_,[],TY,Or.inl ⟨rfl,rfl⟩,ug w3,rfl,fun i u l h=>by simp at h⟩;have Sg:=aj HB0.out HB3.out HB0.out.size;have HKe:=au (QD P w3.heap.size (.slice pa p.length pc) (.slice ta told.length tc) (.slice ta told.length tc) 0 0 mb [] told [] w3 hS3 (by omega) (Nat.le_refl _) ⟨_,_,_,rfl⟩ ⟨_,_,_,rfl⟩ (HT0.out.below Sg) (by simp));have q1:=TY.cells.2.1;have HG:=au hgood;have HU3:=au (aB.bL HU2.out Lb.out.size fun k hk _=>Lb.out.block k hk);have hu3:lS.sl (fun k=>k<w3.heap.size∧k≠P) w3 (.slice ua ss.length uc) ss:=aB.bQ HU3.out fun k hk hB=>⟨hk,by have:w.heap.size≤k:=hB;omega⟩;have HUS:=au hu3;have hp3:eP.sl (fun k=>k<P) w3 (.slice pa p.length pc) p:=aB.bL (aB.bQ HV0.out fun k hk _=>by omega) Sg.size fun k hk _=>Sg.block k hk;have HPS:=au hp3;clear hgood TY hS3 Sg hu3 hp3 Sd HFx;generalize hlo:w3.heap.size=lo at*
    go_wp2_with fail
    refine HKe.out.mono ?_;rintro e w4 ⟨rfl,hS4,hK4⟩;rw[List.nil_append] at hS4;have HS4:=au hS4;have HK4:=au hK4;have T9:=hK4.size;have hu4:lS.sl bf w4 (.slice ua ss.length uc) ss:=aB.dO (aB.bL HUS.out (by omega) fun k _ hB=>hK4.block k hB.1 hB.2);have HCn:=au (MI ss (.slice ua ss.length uc) w4 hu4 (fun s hs=>by have:=HSm.out s hs;omega));clear hS4 hK4 hu4 HKe q1 c0
    go_wp2_with fail
    refine HCn.out.mono ?_;rintro e w5 ⟨rfl,hL5⟩;have HS5:=au (HS4.out.below hL5.below);have HK5:=au (HK4.out.trans (Kp.of_below hL5.below (by omega)));have YH:RP.2.length≤16*201:=by rw[VZ.out];exact Nat.le_trans (Cq _ _ _) (Nat.mul_le_mul_right _ hcs)
    clear hL5 HCn HS4 HK4 T9;obtain⟨cc,hcc⟩:∃cc,cc=countP ss:=⟨_,rfl⟩;have HX:Hid (RP=bC p ss cc 0 told):=by show _=_;rw[VZ.out,hcc]
    rw[←hcc] at hcs⊢;clear hcc;go_wp2
    go_loopg [47] cc (fun g i wr=>∃(j k:Nat) (L:List aA) (Q:List (List aA)),k=g∧j+k=cc∧i=.int .i64 j∧Hid (PrS wr P lo (.slice pa p.length pc) (.slice ta told.length tc) 0 0 mb L (told::Q))∧Hid (GoodS p L)∧Hid (L=bR told Q)∧Q.length≤j*201∧Hid (RP.1=(bC p ss k j L).1∧((bC p ss k j L).1=0→RP.2=Q++(bC p ss k j L).2))∧Hid (Kp P lo w3 wr))
    case atStart=>exact⟨0,cc,told,[],rfl,by omega,rfl,HS5,HG,(rfl:_=_),by simp,⟨by rw[HX.out],fun _=>by rw[HX.out];rfl⟩,HK5⟩
    clear HS5 HG HX HK5;obtain⟨j,k,L,Q,hkg,hj,rfl,HS,HG,HLl,hQl,HX,HK⟩:=hrel;have YE:=HK.out.size
    by_cases hlt:j<cc
    ·obtain⟨k',rfl⟩:∃k',k=k'+1:=⟨k-1,by omega⟩;have hltz:(j:Int)<(cc:Int):=by omega
     have hOC:=QE p HRP.out (fun r=>numOf m r.head.name) j P lo (.slice pa p.length pc) (.slice ta told.length tc) (.slice ua ss.length uc) 0 0 mb L (told::Q) wr HS.out (by omega) (by omega) (aB.bL HPS.out HK.out.size fun i _ hB=>HK.out.block i (by omega) (by omega)) (by rw[←HMS.out];exact aB.bL HUS.out HK.out.size fun i _ hB=>HK.out.block i hB.1 hB.2) ⟨_,_,_,rfl⟩ HG.out (by simp only[List.length_cons];have:=Nat.mul_le_mul_right 201 (show j≤16 by omega);omega);rw[←HMS.out] at hOC;have HOC:=au hOC;obtain⟨er,S,hSo⟩:∃er S,aR p ss (j:Int) 201 L=(er,S):=⟨_,_,rfl⟩;rw[hSo] at HOC;have hst:bC p ss (k'+1) j L=if er≠0 then(er,[]) else((bC p ss k' (j+1) (bR L S)).1,S++(bC p ss k' (j+1) (bR L S)).2):=by
      conv=>lhs;unfold bC
      rw[hSo]
     have hSl:S.length≤201:=by have:=zh (p:=p) (ss:=ss) (n:=(j:Int)) 201 L;rw[hSo] at this;exact this
     have hgS:er=0→GoodS p (bR L S):=fun h=>by have hS2:=hSo;rw[HMS.out,h] at hS2;exact(jN HRP.out _ 201 HG.out hS2 (by omega)).1
     have HST:=au hst;have HGS:=au hgS;clear hOC hst hgS hSo
     go_wp2_with fail
     refine HOC.out.mono ?_;rintro e w7 ⟨rfl,hS7,hK7⟩;dsimp only at hS7⊢;have HK7:=au (HK.out.trans hK7)
     by_cases he:er=0
     ·subst he;have HS7:Hid (PrS w7 P lo (.slice pa p.length pc) (.slice ta told.length tc) 0 0 mb (bR L S) (told::(Q++S))):=hS7 rfl;have HG7:=au (HGS.out rfl);have HL7:Hid (bR L S=bR told (Q++S)):=by show _=_;rw[gT,←HLl.out]
      have HX7:Hid (RP.1=(bC p ss k' (j+1) (bR L S)).1∧((bC p ss k' (j+1) (bR L S)).1=0→RP.2=(Q++S)++(bC p ss k' (j+1) (bR L S)).2)):=by have h1:=HX.out;rw[HST.out,if_neg (by simp)] at h1;exact⟨h1.1,fun h=>by rw[h1.2 h,List.append_assoc]⟩
      have hQ7:(Q++S).length≤(j+1)*201:=by rw[List.length_append,Nat.add_mul];omega
      clear hS7 hK7 HOC HST HGS;go_wp2
      go_roundg k'
      case measure=>omega
      case rel=>exact⟨j+1,k',bR L S,Q++S,rfl,by omega,by go_num,HS7,HG7,HL7,hQ7,HX7,HK7⟩
     have hne:(er != 0)=true:=by simpa using he
     have HR:Hid (FE=er):=by show _=_;rw[V4.out,HX.out.1,HST.out,if_pos he]
     have HN:Hid (FE=0→PrS w7 P w.heap.size (.slice pa p.length pc) (.slice ta told.length tc) 0 0 mb (bR told RP.2) (told::RP.2)):=fun h=>absurd (HR.out.symm.trans h) he;have HKK:=au ((Kp.of_below (P:=P) HB3.out (Nat.le_refl _)).trans (HK7.out.less (by omega)));clear hS7 hK7 HOC HST HGS he;go_wp2;go_ret;exact⟨by rw[HR.out];rfl,HN.out,HKK.out⟩
    have hk0:k=0:=by omega
    have HR:Hid (FE=0∧PrS wr P w.heap.size (.slice pa p.length pc) (.slice ta told.length tc) 0 0 mb (bR told RP.2) (told::RP.2)):=by have h1:=HX.out;rw[hk0] at h1;have h2:RP.2=Q++[]:=h1.2 rfl;rw[List.append_nil] at h2;refine⟨by rw[V4.out,h1.1];rfl,?_⟩;rw[h2,←HLl.out];exact HS.out.fewer (by omega)
    have HKK:=au ((Kp.of_below (P:=P) HB3.out (Nat.le_refl _)).trans (HK.out.less (by omega)));clear hk0 HX;go_wp2;go_ret;exact⟨by rw[HR.out.1];rfl,fun _=>HR.out.2,HKK.out⟩
   ·have hne:(fx != 0)=true:=by simpa using h1
    have HR:Hid (FE=fx):=by show _=_;rw[Sd.out,if_pos h1]
    have HN:Hid (FE=0→PrS w3 P w.heap.size (.slice pa p.length pc) (.slice ta told.length tc) 0 0 mb (bR told RP.2) (told::RP.2)):=fun h=>absurd (HR.out.symm.trans h) h1;have HKK:=au (Kp.of_below (P:=P) HB3.out (Nat.le_refl _));clear Sd h1;go_wp2;go_ret;exact⟨by rw[HR.out];rfl,HN.out,HKK.out⟩
 have hne:(ex != 0)=true:=by simpa using h0
 have HR:Hid (FE=ex):=by show _=_;rw[HFE.out,if_pos h0]
 have HN:Hid (∀w',FE=0→PrS w' P w.heap.size (.slice pa p.length pc) (.slice ta told.length tc) 0 0 mb (bR told RP.2) (told::RP.2)):=fun w' h=>absurd (HR.out.symm.trans h) h0;have HKK:Hid (Kp P w.heap.size w (w1.alloc (.cells #[.int .i64 ex,.int .i64 (ea:Nat)] 69))):=Kp.of_below (aj HB1.out ((ak.refl _).alloc _).below HB1.out.size) (Nat.le_refl _);clear HFE h0;go_wp2;go_ret;exact⟨by rw[HR.out];rfl,HN.out _,HKK.out⟩
end Go.Proofs.YtaallngooaaonaaGreatDoor
