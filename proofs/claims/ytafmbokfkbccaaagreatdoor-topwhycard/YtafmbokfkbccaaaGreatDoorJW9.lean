import Derived.Test.YtafmbokfkbccaaaGreatDoorJW8
import Derived.Test.YtafmbokfkbccaaaGreatDoorJW6
import Derived.Test.YtafmbokfkbccaaaGreatDoorJW3
import Derived.Test.YtafmbokfkbccaaaGreatDoorJW7
namespace Go.Proofs.YtafmbokfkbccaaaGreatDoor
open Go.RowKit Go.Sort
def dQ (B:Nat→Prop) (w:World) (v:Value) (l:List aj):Prop:=
 l.length≤1000∧∃a cap,v=.slice a l.length cap∧(l≠[]→∃b off,a=some ⟨b,off,none⟩∧B b∧b<w.heap.size∧∀i,i<l.length→w.cell? ⟨b,off+i*2,none⟩=some (.string (l.getD i aB).1)∧∃s,w.cell? ⟨b,off+i*2+1,none⟩=some s∧Strs w s (l.getD i aB).2∧∀k,(l.getD i aB).2≠[]→s.ownBlock=some k→B k)
theorem dQ.nil (B:Nat→Prop) (w:World):dQ B w (.slice none 0 0) []:=⟨by simp,none,0,rfl,fun h=>absurd rfl h⟩
theorem dQ.facts {B:Nat→Prop} {w:World} {v:Value} {l:List aj} (h:dQ B w v l):Facts w v l:=by
 obtain⟨h0,a,cap,rfl,h1⟩:=h;refine⟨by omega,a,cap,rfl,fun hl=> ?_⟩;obtain⟨b,off,rfl,_,hb,hc⟩:=h1 hl;refine⟨b,off,rfl,hb,fun i hi=> ?_⟩;obtain⟨c1,s,c2,c3,_⟩:=hc i hi;exact⟨c1,s,c2,c3⟩
theorem dQ.kept {B:Nat→Prop} {w w':World} {v:Value} {l:List aj} (h:dQ B w v l) (hs:w.heap.size≤w'.heap.size) (hk:∀k,k<w.heap.size→B k→w'.heap[k]?=w.heap[k]?):dQ B w' v l:=by
 obtain⟨h0,a,cap,rfl,h1⟩:=h;refine⟨h0,a,cap,rfl,fun hl=> ?_⟩;obtain⟨b,off,rfl,hB,hb,hc⟩:=h1 hl;refine⟨b,off,rfl,hB,Nat.lt_of_lt_of_le hb hs,fun i hi=> ?_⟩;obtain⟨c1,s,c2,c3,c4⟩:=hc i hi;have e:=hk b hb hB;refine⟨by rw[World.cell?_of_block (w:=w) e];exact c1,s,by rw[World.cell?_of_block (w:=w) e];exact c2,?_,c4⟩
 by_cases hne:(l.getD i aB).2=[]
 ·rw[hne] at c3⊢;exact c3.nil
 ·exact c3.kept hs fun k e'=>hk k (c3.block_lt hne k e') (c4 k hne e')
theorem dQ.below {B:Nat→Prop} {w w':World} {v:Value} {l:List aj} (h:dQ B w v l) (k:Below w.heap.size w w'):dQ B w' v l:=h.kept k.size fun i hi _=>k.block i hi
theorem dQ.mono {B B':Nat→Prop} {w:World} {v:Value} {l:List aj} (h:dQ B w v l) (hm:∀k,k<w.heap.size→B k→B' k):dQ B' w v l:=by
 obtain⟨h0,a,cap,rfl,h1⟩:=h;refine⟨h0,a,cap,rfl,fun hl=> ?_⟩;obtain⟨b,off,rfl,hB,hb,hc⟩:=h1 hl;refine⟨b,off,rfl,hm b hb hB,hb,fun i hi=> ?_⟩;obtain⟨c1,s,c2,c3,c4⟩:=hc i hi;exact⟨c1,s,c2,c3,fun k hne e=>hm k (c3.block_lt hne k e) (c4 k hne e)⟩
theorem gN.Mh {base:Nat} {w:World} {v:Value} {l:List aj} (h:gN w base v l) (hl:l.length≤1000):dQ (From base) w v l:=by
 obtain⟨xs,ho,hx⟩:=h;rcases ho.2 with⟨rfl,e⟩|⟨g,cap,cur,rfl,hbg,hg,_,_,hcs,htake⟩
 ·have:l=[]:=List.eq_nil_of_length_eq_zero e;subst this;exact dQ.nil _ _
 ·refine⟨hl,_,cap,rfl,fun _=>⟨g,0,rfl,hbg,(Array.getElem?_eq_some_iff.1 hg).1,fun i hi=> ?_⟩⟩;obtain⟨c1,s,c2,c3,c4⟩:=hx i hi;have cellOf:∀j u,xs[j]?=some u→w.cell? ⟨g,0+j,none⟩=some u:=fun j u hu=>by
   have:=ho.cells (g:=g) rfl j u hu
   rwa [Addr.add_lit] at this
  exact⟨cellOf _ _ c1,s,by rw[Nat.add_assoc];exact cellOf _ _ c2,c3,fun k _ e=>(c4 k e).1⟩
end Go.Proofs.YtafmbokfkbccaaaGreatDoor
namespace Go.Proofs.YtafmbokfkbccaaaGreatDoor
inductive bE where
 |mk (fact:aj) (rule:Int) (kids:List bE):bE
def bE.fact:bE→aj
 | .mk f _ _=>f
def bE.rule:bE→Int
 | .mk _ r _=>r
def bE.kids:bE→List bE
 | .mk _ _ k=>k
def Deep:Nat→bE→Prop
 |0,_=>False
 |n+1,x=>∀k∈x.kids,Deep n k
theorem Deep.mono:∀{n m:Nat} {x:bE},Deep n x→n≤m→Deep m x
 |0,_,_,h,_=>h.elim
 |n+1,0,_,_,h=>by omega
 |n+1,m+1,x,h,hm=>fun k hk=>(h k hk).mono (by omega)
def gW (en:Nat×Nat→Bool):Nat→List bE→Nat×Nat→Nat×Nat
 |0,_,s=>s
 |n+1,L,s=>if L=[]∨en s=true then s else gW en n (L.flatMap bE.kids) (s.1+L.length,s.2+1)
def j5 (s:Nat×Nat):Bool:=decide (400<s.1)||decide (60<s.2)
def dN:List aF→List aj→List aC→Int×List aC
 |[],[],b=>(0,b)
 |[],_::_,_=>(5,[])
 |a::as',ks,b=>if a.no then dN as' ks b else match ks with
  |[]=>(5,[])
  |k::ks=>match dH a k b with
   |none=>(8,[])
   |some b'=>dN as' ks b'
def Jr (all:List aj) (body:List aF) (b:List aC):Int:=
 if body.any (fun a=>a.no&&(match aR a b with|none=>true|some f=>inB all f)) then 10 else 0
def jk (all:List aj) (r:aA) (f:aj) (ks:List aj):Int:=match dH r.head f [] with
 |none=>8
 |some b=>if(dN r.body ks b).1≠0 then(dN r.body ks b).1 else Jr all r.body (dN r.body ks b).2
def kr (g:bE→Int):List bE→Int
 |[]=>0
 |k::ks=>if g k≠0 then g k else kr g ks
def eD (p:List aA) (told all:List aj):Nat→bE→Int
 |0,_=>0
 |n+1,x=>if x.rule<0 then(if x.rule= -1∧x.kids=[]∧inB told x.fact=true then 0 else 6) else match p[x.rule.toNat]? with
  |none=>1
  |some r=>if jk all r x.fact (x.kids.map bE.fact)≠0 then jk all r x.fact (x.kids.map bE.fact) else kr (eD p told all n) x.kids
theorem yF {g:bE→Int}:∀{ks:List bE},(∀k∈ks,g k=0)→kr g ks=0
 |[],_=>rfl
 |k::ks,h=>by
  unfold kr;rw[if_neg (by rw[h k (by simp)];simp)];exact yF fun y hy=>h y (by simp[hy])
theorem q9:∀{body:List aF} {ks:List aj} {b b':List aC} {K:List Bs},bH b=K.map bs→dN body ks b=(0,b')→
  (∃r,b'=b++r)∧bH b'=(dS K body).map bs∧∀a∈body,a.no=false→∃k∈ks,aR a b'=some k
 |[],[],b,b',K,hk,h=>by
  simp only[dN,Prod.mk.injEq,true_and] at h;subst h;exact⟨⟨[],by simp⟩,hk,fun a ha=>by cases ha⟩
 |[],_::_,b,b',K,hk,h=>by simp[dN] at h
 |a::as',ks,b,b',K,hk,h=>by
  unfold dN at h;rw[iN];cases hno:a.no with
  |true=>
   rw[hno] at h;simp only[if_true] at h⊢;obtain⟨h1,h2,h3⟩:=q9 hk h;refine⟨h1,h2,fun c hc hcn=> ?_⟩;rcases List.mem_cons.1 hc with rfl|hc
   ·rw[hno] at hcn;cases hcn
   ·exact h3 c hc hcn
  |false=>
   rw[hno] at h;simp only[Bool.false_eq_true,if_false] at h⊢;cases ks with
   |nil=>simp at h
   |cons k ks=>
    dsimp only at h;cases hm:dH a k b with
    |none=>rw[hm] at h;simp at h
    |some b1=>
     rw[hm] at h;obtain⟨⟨r,hr⟩,hk1,hf1⟩:=iy hk hm;obtain⟨⟨s,hs⟩,h2,h3⟩:=q9 hk1 h;refine⟨⟨r++s,by rw[hs,hr,List.append_assoc]⟩,h2,fun c hc hcn=> ?_⟩;rcases List.mem_cons.1 hc with rfl|hc
     ·exact⟨k,by simp,by rw[hs];exact oO hf1⟩
     ·obtain⟨q,hq,e⟩:=h3 c hc hcn;exact⟨q,by simp[hq],e⟩
theorem J7 {all:List aj} {body:List aF} {b:List aC} (h:∀a∈body,a.no=true→∃f,aR a b=some f∧inB all f=false):Jr all body b=0:=by
 unfold Jr;rw[if_neg];intro h0;obtain⟨a,ha,hc⟩:=List.any_eq_true.1 h0;rw[Bool.and_eq_true] at hc;obtain⟨f,hf,hi⟩:=h a ha hc.1;rw[hf] at hc;rw[show(match some f with|none=>true|some f=>inB all f)=inB all f from rfl,hi] at hc;cases hc.2
inductive Sub:bE→bE→Prop where
 |here (x:bE):Sub x x
 |kid {x k y:bE} (hk:k∈x.kids) (h:Sub k y):Sub x y
end Go.Proofs.YtafmbokfkbccaaaGreatDoor
namespace Go.Proofs.YtafmbokfkbccaaaGreatDoor
open Go.RowKit Go.Sort
def noK:Kind bE:={size:=4,is:=fun _ _ _ _=>False,len:=fun h=>h.elim,one:=fun h=>h.elim,kept:=fun h _ _=>h,mono:=fun h _=>h}
def Sr (K:Kind bE):Kind bE where
 size:=4
 is:=fun B w c x=>∃s kv,c=[.string x.fact.1,s,.int .i64 x.rule,kv]∧bsK.sl B w s x.fact.2∧K.sl B w kv x.kids
 len:=fun⟨s,kv,h,_⟩=>by subst h;rfl
 one:=fun⟨s,kv,h,h1,h2⟩ u hu=>by
  subst h;obtain⟨a,cap,rfl⟩:=Kind.slice h1;obtain⟨a',cap',rfl⟩:=Kind.slice h2;simp at hu;rcases hu with rfl|rfl|rfl|rfl <;> rfl
 kept:=fun⟨s,kv,h,h1,h2⟩ k1 k2=>⟨s,kv,h,Kind.aT h1 k1 k2,Kind.aT h2 k1 k2⟩
 mono:=fun⟨s,kv,h,h1,h2⟩ k1=>⟨s,kv,h,Kind.aX h1 k1,Kind.aX h2 k1⟩
def ru:Nat→Kind bE
 |0=>noK
 |n+1=>Sr (ru n)
theorem BN {α:Type} {K:Kind α} {B:Nat→Prop} {w:World} {v:Value} {l:List α} (h:K.sl B w v l) {x:α} (hx:x∈l):∃c,K.is B w c x:=by
 obtain⟨i,hi,e⟩:=List.getElem_of_mem hx;obtain⟨_,a,cap,_,h1⟩:=h;obtain⟨b,off,_,_,_,hc⟩:=h1 (by intro e;rw[e] at hx;cases hx);obtain⟨c,c1,_⟩:=hc i x (by rw[List.getElem?_eq_getElem hi,e]);exact⟨c,c1⟩
theorem BO {B:Nat→Prop} {w:World}:∀(n:Nat) (c:List Value) (x:bE),(ru n).is B w c x→Deep n x
 |0,_,_,h=>h.elim
 |n+1,c,x,⟨s,kv,_,_,h2⟩=>fun k hk=>by
  obtain⟨d,hd⟩:=BN h2 hk;exact BO n d k hd
def sN (n:Nat) (B:Nat→Prop) (w:World) (v:Value) (x:bE):Prop:=∃s kv,v=.agg #[.string x.fact.1,s,.int .i64 x.rule,kv]∧bsK.sl B w s x.fact.2∧(ru n).sl B w kv x.kids
theorem sN.kept {n:Nat} {B:Nat→Prop} {w w':World} {v:Value} {x:bE} (h:sN n B w v x) (hs:w.heap.size≤w'.heap.size) (hk:∀k,k<w.heap.size→B k→w'.heap[k]?=w.heap[k]?):sN n B w' v x:=by
 obtain⟨s,kv,rfl,h1,h2⟩:=h;exact⟨s,kv,rfl,Kind.aT h1 hs hk,Kind.aT h2 hs hk⟩
theorem sN.below {n:Nat} {B:Nat→Prop} {w w':World} {v:Value} {x:bE} (h:sN n B w v x) (k:Below w.heap.size w w'):sN n B w' v x:=h.kept k.size fun i hi _=>k.block i hi
theorem sN.fact {n:Nat} {B:Nat→Prop} {w:World} {s kv:Value} {x:bE} {nm:ByteArray} {r:Int} (h:sN n B w (.agg #[.string nm,s,.int .i64 r,kv]) x):bW w (.agg #[.string nm,s]) x.fact:=by
 obtain⟨s',kv',e,h1,_⟩:=h;simp only[Value.agg.injEq,Array.mk.injEq,List.cons.injEq,Value.string.injEq,and_true] at e;obtain⟨rfl,rfl,_,_⟩:=e;exact⟨_,rfl,qI h1⟩
def og {α:Type} (K:Kind α) (ty:TypeId) (B:Nat→Prop) (w0:World) (lo:Nat) (w:World) (v:Value) (l:List (List α)):Prop:=
 ∃xs,w.ownsRow lo ty 1 v l.length xs∧∀(i:Nat) a,l[i]?=some a→∃u,K.sl B w0 u a∧xs[i]?=some u
section
variable {α:Type} {K:Kind α} {ty:TypeId} {B:Nat→Prop} {w0:World} {lo:Nat} {w:World} {v:Value} {l:List (List α)}
theorem og.nil (K:Kind α) (ty:TypeId) (B:Nat→Prop) (w0:World) (lo:Nat) (w:World):og K ty B w0 lo w (.slice none 0 0) []:=⟨[],World.ownsRow_nil w _ _ _,fun i a h=>by simp at h⟩
theorem og.slice (h:og K ty B w0 lo w v l):∃a cap,v=.slice a l.length cap:=by
 obtain⟨xs,ho,_⟩:=h;rcases ho.2 with⟨rfl,e⟩|⟨g,cap,cur,rfl,_⟩
 ·exact⟨none,0,by rw[e]⟩
 ·exact⟨_,cap,rfl⟩
theorem og.lo_le (h:og K ty B w0 lo w v l):∀k,v.ownBlock=some k→lo≤k∧k<w.heap.size:=fun k e=>by
 obtain⟨xs,ho,_⟩:=h;exact ho.lt k e
theorem og.kept {w':World} (h:og K ty B w0 lo w v l) (hk:∀k,v.ownBlock=some k→w'.heap[k]?=w.heap[k]?):og K ty B w0 lo w' v l:=by
 obtain⟨xs,ho,hx⟩:=h;refine⟨xs,⟨ho.1,?_⟩,hx⟩;rcases ho.2 with e|⟨g,cap,cur,rfl,hbg,hg,r⟩
 ·exact Or.inl e
 ·exact Or.inr ⟨g,cap,cur,rfl,hbg,by rw[hk g rfl];exact hg,r⟩
theorem og.more {T:TypeId} {i:TypeInfo} (h:og K ty B w0 lo w v l) (hT:Tryz.prog.underlying T=some (.slice ty)) (i1:Tryz.prog.info? ty=some i) (i2:i.zero=some (.slice none 0 0)) (i3:i.size=1) (i4:i.bytes=24) (hs:lo≤w.heap.size) {u:Value} {a:List α} (hc:K.sl B w0 u a) (hl:l.length+1≤1099511627776):
  ∃v' w',(Builtin.append_ #[T,T] T #[v,.slice (some ⟨w.heap.size,0,none⟩) 1 1]).run Tryz.prog (w.alloc (.cells #[u] ty))=.ok v' w'∧og K ty B w0 lo w' v' (l++[a])∧(w.alloc (.cells #[u] ty)).grownBy w' v.ownBlock∧w.drawn≤w'.drawn:=by
 obtain⟨xs,ho,hx⟩:=h;have hnews:∀j x,([u]:List Value)[j]?=some x→(w.alloc (.cells #[u] ty)).cell? ((⟨w.heap.size,0,none⟩:Addr).add j)=some x:=by
  intro j x hx;rw[Addr.add_lit,Nat.zero_add,cell_of_row _ w.heap.size j #[u] ty (0,0) (heap_alloc_new w _)];simpa using hx
 have hone:∀x∈[u],Value.oneCell' x=true:=by
  intro x hx;simp at hx;subst hx;obtain⟨a,cap,rfl⟩:=Kind.slice hc
  rfl
 obtain⟨v',w',hrun,r1,r2,r3,r4⟩:=eP (P:=Tryz.prog) (w.alloc (.cells #[u] ty)) lo T T ty i _ 1 24 hT i1 i2 i3 i4 rfl (by omega) v l.length xs (ho.alloc _) ⟨w.heap.size,0,none⟩ 1 1 [u] rfl hnews hone (by simp only[maxLen];omega) (by omega) (by simp;omega);have hxl:xs.length=l.length:=by have:=ho.1;omega
 refine⟨v',w',hrun,⟨xs++[u],by simpa using r1,fun j b hj=> ?_⟩,r2,r3⟩
 by_cases hjl:j<l.length
 ·rw[List.getElem?_append_left hjl] at hj;obtain⟨q,q1,q2⟩:=hx j b hj;exact⟨q,q1,by rw[List.getElem?_append_left (by omega)];exact q2⟩
 ·rw[List.getElem?_append_right (by omega)] at hj;have hj':j=l.length:=by
   have:=(List.getElem?_eq_some_iff.1 hj).1;simp at this;omega
  subst hj';simp at hj;subst hj;exact⟨u,hc,by rw[List.getElem?_append_right (by omega),hxl];simp⟩
theorem og.at (h:og K ty B w0 lo w v l) {i:Nat} {a:List α} (hi:l[i]?=some a):∃g cap u,v=.slice (some ⟨g,0,none⟩) l.length cap∧g<w.heap.size∧K.sl B w0 u a∧w.cell? ⟨g,i,none⟩=some u:=by
 obtain⟨xs,ho,hx⟩:=h;obtain⟨u,hu,hxu⟩:=hx i a hi;rcases ho.2 with⟨rfl,e⟩|⟨g,cap,cur,rfl,hbg,hg,hnc,_⟩
 ·have:=(List.getElem?_eq_some_iff.1 hi).1;omega
 ·refine⟨g,cap,u,rfl,(Array.getElem?_eq_some_iff.1 hg).1,hu,?_⟩;have:=ho.cells (g:=g) rfl i u hxu;rw[Addr.add_lit] at this;simpa using this
end
end Go.Proofs.YtafmbokfkbccaaaGreatDoor
namespace Go.Proofs.YtafmbokfkbccaaaGreatDoor
def aP (p:List aA) (ss:List Nat) (n:Int):Nat→List aj→Int×List (List aj)
 |0,_=>(0,[])
 |k+1,l=>if(bT p ss n l).1≠0 then((bT p ss n l).1,[]) else if(bT p ss n l).2.length=l.length then(0,[(bT p ss n l).2])
  else((aP p ss n k (bT p ss n l).2).1,(bT p ss n l).2::(aP p ss n k (bT p ss n l).2).2)
def aY (l:List aj) (ps:List (List aj)):List aj:=ps.getLast?.getD l
theorem gB (l m:List aj) (ps:List (List aj)):aY l (m::ps)=aY m ps:=by
 unfold aY;cases ps with
 |nil=>rfl
 |cons a ps=>rw[List.getLast?_cons_cons];rw[List.getLast?_cons];rfl
theorem fZ (l:List aj) (ps qs:List (List aj)):aY l (ps++qs)=aY (aY l ps) qs:=by
 induction ps generalizing l with
 |nil=>rfl
 |cons a ps ih=>rw[List.cons_append,gB,gB,ih]
def bA (p:List aA) (ss:List Nat):Nat→Nat→List aj→Int×List (List aj)
 |0,_,_=>(0,[])
 |c+1,n,l=>if(aP p ss n 201 l).1≠0 then((aP p ss n 201 l).1,[])
  else((bA p ss c (n+1) (aY l (aP p ss n 201 l).2)).1,(aP p ss n 201 l).2++(bA p ss c (n+1) (aY l (aP p ss n 201 l).2)).2)
theorem yG (p:List aA) (ss:List Nat) (n:Int):∀(k:Nat) (l:List aj),(dI p ss n k l).1=(aP p ss n k l).1∧((aP p ss n k l).1=0→dI p ss n k l=(0,aY l (aP p ss n k l).2))
 |0,l=>⟨rfl,fun _=>rfl⟩
 |k+1,l=>by
  unfold dI aP
  by_cases h0:(bT p ss n l).1=0
  ·have h0':¬(bT p ss n l).1≠0:=fun h=>h h0;simp only[if_neg h0']
   by_cases h1:(bT p ss n l).2.length=l.length
   ·simp only[if_pos h1];exact⟨trivial,fun _=>rfl⟩
   ·simp only[if_neg h1];obtain⟨h2,h3⟩:=yG p ss n k (bT p ss n l).2;exact⟨h2,fun h=>by rw[h3 h,gB]⟩
  ·have h0':(bT p ss n l).1≠0:=h0;simp only[if_pos h0'];exact⟨trivial,fun h=>absurd h h0⟩
theorem wE (p:List aA) (ss:List Nat):∀(c n:Nat) (l:List aj),(gZ p ss c n l).1=(bA p ss c n l).1∧((bA p ss c n l).1=0→gZ p ss c n l=(0,aY l (bA p ss c n l).2))
 |0,n,l=>⟨rfl,fun _=>rfl⟩
 |c+1,n,l=>by
  obtain⟨o1,o2⟩:=yG p ss n 201 l;unfold gZ bA
  by_cases h0:(aP p ss n 201 l).1=0
  ·have o3:=o2 h0;have h1:¬(dI p ss n 201 l).1≠0:=fun h=>h (o1.trans h0);have h2:¬(aP p ss n 201 l).1≠0:=fun h=>h h0;simp only[if_neg h1,if_neg h2];rw[o3];obtain⟨h2,h3⟩:=wE p ss c (n+1) (aY l (aP p ss n 201 l).2);exact⟨h2,fun h=>by rw[h3 h,fZ]⟩
  ·have h1:(dI p ss n 201 l).1≠0:=fun h=>h0 (o1.symm.trans h);have h2:(aP p ss n 201 l).1≠0:=h0;simp only[if_pos h1,if_pos h2];exact⟨o1,fun h=>absurd h h0⟩
def dB (b:List aC) (t:cO):cO:=if t.1 then(match bQ b (bs t.2) with|some s=>(false,raw s)|none=>t) else t
def eG (b:List aC) (a:aF):aF:=⟨a.no,a.name,a.terms.map (dB b)⟩
def dR (b:List aC) (body:List aF):List aF:=body.map (eG b)
def fF (body:List aF) (l:List aC):List aj:=body.filterMap fun a=>if a.no then none else aR a l
def oV (body:List aF) (all:List aj) (er:Int):List (List aC):=if er≠0 then[] else(lW (fun _=>all) body).getD []
def byP (err:List aF→Int) (all old:List aj) (r:aA) (f:aj):Option (List aj):=match dH r.head f [] with
 |none=>none
 |some b=>((oV (dR b r.body) all (err (dR b r.body))).map (fF (dR b r.body))).find? fun of=>of.all (inB old)
def fK (ps:List (List aj)) (f:aj):Nat:=ps.findIdx fun l=>inB l f
def iC (g:aA→Option (List aj)):Nat→List aA→Int×List aj
 |_,[]=>(-1,[])
 |i,r::p=>match g r with
  |some of=>(i,of)
  |none=>iC g (i+1) p
def lK (err:List aF→Int) (p:List aA) (told all:List aj) (ps:List (List aj)) (f:aj):Int×List aj:=
 if inB told f then(-1,[]) else iC (fun r=>byP err all (ps.getD (fK ps f-1) []) r f) 0 p
def iF (g:aj→Nat×Nat→Option bE×(Nat×Nat)):List aj→Nat×Nat→Option (List bE)×(Nat×Nat)
 |[],s=>(some [],s)
 |f::fs,s=>match(g f s).1 with
  |none=>(none,(g f s).2)
  |some k=>match(iF g fs (g f s).2).1 with
   |none=>(none,(iF g fs (g f s).2).2)
   |some ks=>(some (k::ks),(iF g fs (g f s).2).2)
def bC (how:aj→Int×List aj):Nat→aj→Nat→Nat×Nat→Option bE×(Nat×Nat)
 |0,_,_,s=>(none,s)
 |n+1,f,d,s=>if j5 (s.1+1,max s.2 d) then(none,(s.1+1,max s.2 d))
  else match(iF (fun g s=>bC how n g (d+1) s) (how f).2 (s.1+1,max s.2 d)).1 with
   |none=>(none,(iF (fun g s=>bC how n g (d+1) s) (how f).2 (s.1+1,max s.2 d)).2)
   |some ks=>(some (.mk f (how f).1 ks),(iF (fun g s=>bC how n g (d+1) s) (how f).2 (s.1+1,max s.2 d)).2)
end Go.Proofs.YtafmbokfkbccaaaGreatDoor
