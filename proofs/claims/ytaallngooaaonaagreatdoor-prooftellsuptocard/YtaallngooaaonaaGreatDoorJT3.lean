import Derived.Test.YtaallngooaaonaaGreatDoorJT1
import Derived.Test.YtaallngooaaonaaGreatDoorJT2
import Derived.Deep.LoopGhost
import Derived.BigQuiet
import Derived.Shelf.SlSortCmp.QuietGrown
import Derived.Deep.QuietTactic
import Derived.ProofKit
import Derived.SliceStrings
import Derived.Deep.Slices
import Derived.Deep.Strs
import Derived.Lib.SmallJoins
import Derived.SizedLaws
open Go.RowKit Go.Sort Go.ChangeShapes Go.WideShapes Go.ChangeAt Go.Deep
set_option maxRecDepth 100000
namespace Go.Proofs.YtaallngooaaonaaGreatDoor
def Gz:Bool→Bs→Bs
 |_,[]=>[]
 |false,c::t=>if c=32∨c=10 then Gz false t else if c=37 then Gz true t else c::t
 |true,c::t=>if c=10 then Gz false t else Gz true t
abbrev skip (l:Bs):Bs:=Gz false l
inductive Res (α:Type) where
 |ok (a:α) (r:Bs)
 |bad (e:Int) (r:Bs)
def Res.next {α β:Type} (x:Res α) (f:α→Bs→Res β):Res β:=
 match x with
 | .ok a r=>f a r
 | .bad e r=>.bad e r
def took (g l:Bs):Bool×Bs:=if g.isPrefixOf (skip l) then(true,(skip l).drop g.length) else(false,skip l)
def word (fits:Bs→Bool) (l:Bs):Res Bs:=
 if(skip l).takeWhile gJ=[] then .bad 2 (skip l)
 else if fits ((skip l).takeWhile gJ) then .ok ((skip l).takeWhile gJ) ((skip l).drop ((skip l).takeWhile gJ).length)
 else .bad 7 (skip l)
def Ms {α:Type} (part:Bs→Res α):Nat→List α→Bs→Res (List α)
 |n,out,l=>if(took [44] l).1 then
   match n with
   |0=>.bad 5 (took [44] l).2
   |n+1=>(part (took [44] l).2).next fun a r=>Ms part n (out++[a]) r
  else .ok out (took [44] l).2
def PK {α:Type} (part:Bs→Res α) (most:Nat) (l:Bs):Res (List α):=(part l).next fun a r=>Ms part (most-1) [a] r
def yx {α:Type} (g:Bs) (a:α) (l:Bs):Res α:=if(took g l).1 then .ok a (took g l).2 else .bad 2 (took g l).2
abbrev dK:=Bool×Bs
structure aI where
 no:Bool
 name:Bs
 terms:List dK
deriving DecidableEq
structure aG where
 head:aI
 body:List aI
deriving DecidableEq
def Ku (w:Bs):Bool:=isNamed w||isVar w
def term (l:Bs):Res dK:=(word Ku l).next fun w r=>.ok (isVar w,w) r
def atom (l:Bs):Res aI:=(word isNamed l).next fun w r=>
 if(took [40] r).1 then(PK term 4 (took [40] r).2).next fun ts r=>yx [41] ⟨false,w,ts⟩ r else .ok ⟨false,w,[]⟩ (took [40] r).2
def Kv (l:Bs):Res aI:=(atom (took [33] l).2).next fun a r=>.ok {a with no:=(took [33] l).1} r
def body (l:Bs):Res (List aI):=PK Kv 5 l
def rule (l:Bs):Res aG:=(atom l).next fun a r=>
 if(took [58,45] r).1 then(body (took [58,45] r).2).next fun b r=>yx [46] ⟨a,b⟩ r else yx [46] ⟨a,[]⟩ (took [58,45] r).2
def GA:Nat→List aG→Bs→Res (List aG)
 |n,out,l=>if skip l=[] then .ok out [] else
  match n with
  |0=>.bad 5 (skip l)
  |n+1=>(rule (skip l)).next fun a r=>GA n (out++[a]) r
def Kw (l:Bs):Res (List aI):=(body l).next fun b r=>if skip r=[] then .ok b [] else .bad 2 (skip r)
def Local {α:Type} (P:Bs→Res α):Prop:=∀l a r t,P l=.ok a r→r≠[]→P (l++10::t)=.ok a (r++10::t)
def Ends {α:Type} (P:Bs→Res α):Prop:=∀a r,P []=.ok a r→r=[]
structure Tn (p:Nat) (w w':World):Prop where
 os:w'.os=w.os
 tape:w'.tape=w.tape
 output:w'.output=w.output
 size:w.heap.size≤w'.heap.size
 block:∀k,k<w.heap.size→k≠p→w'.heap[k]?=w.heap[k]?
theorem Tn.refl (p:Nat) (w:World):Tn p w w:=⟨rfl,rfl,rfl,Nat.le_refl _,fun _ _ _=>rfl⟩
theorem Tn.trans {p:Nat} {a b c:World} (h:Tn p a b) (k:Tn p b c):Tn p a c:=
 ⟨k.os.trans h.os,k.tape.trans h.tape,k.output.trans h.output,Nat.le_trans h.size k.size,fun i hi ho=>(k.block i (Nat.lt_of_lt_of_le hi h.size) ho).trans (h.block i hi ho)⟩
theorem Tn.of_below {p:Nat} {a b:World} (h:Below a.heap.size a b):Tn p a b:=⟨h.os,h.tape,h.output,h.size,fun k hk _=>h.block k hk⟩
theorem Tn.below {p n:Nat} {a b:World} (h:Tn p a b) (hp:n≤p) (hn:n≤a.heap.size):Below n a b:=
 ⟨h.os,h.tape,h.output,h.size,fun k hk=>h.block k (by omega) (by omega)⟩
theorem Tn.cell {p:Nat} {a b:World} (h:Tn p a b) {x:Addr} (hx:x.block<a.heap.size) (ho:x.block≠p):b.cell? x=a.cell? x:=World.cell?_of_block (w:=a) (h.block _ hx ho)
theorem Tn.drewN {p:Nat} {a b:World} (h:Tn p a b) (n:Nat):Tn p a (b.drewN n):=⟨h.os,h.tape,h.output,h.size,h.block⟩
theorem Tn.drew {p:Nat} {a b:World} (h:Tn p a b):Tn p a b.drew:=⟨h.os,h.tape,h.output,h.size,h.block⟩
theorem Tn.alloc {p:Nat} {a b:World} (h:Tn p a b) (o:Obj):Tn p a (b.alloc o):=
 h.trans (Tn.of_below (((ak.refl b).alloc o).below))
theorem heap_setCell_other (w:World) (x:Addr) (v:Value) {k:Nat} (h:k≠x.block):(w.setCell x v).heap[k]?=w.heap[k]?:=by simp only[World.setCell,Array.getElem?_modify];rw[if_neg (fun e=>h e.symm)]
theorem size_setCell (w:World) (x:Addr) (v:Value):(w.setCell x v).heap.size=w.heap.size:=by simp[World.setCell]
theorem Tn.setCell {p:Nat} {a b:World} (h:Tn p a b) {x:Addr} (hx:x.block=p∨a.heap.size≤x.block) (v:Value):Tn p a (b.setCell x v):=
 ⟨h.os,h.tape,h.output,by rw[size_setCell];exact h.size,fun k hk ho=>by rw[heap_setCell_other _ _ _ (by rcases hx with e|e <;> omega)];exact h.block k hk ho⟩
section
theorem aj {n m:Nat} {a b c:World} (h:Below n a b) (k:Below m b c) (hm:n≤m:=by omega):Below n a c:=
 ⟨k.os.trans h.os,k.tape.trans h.tape,k.output.trans h.output,Nat.le_trans h.size k.size,fun i hi=>(k.block i (Nat.lt_of_lt_of_le hi hm)).trans (h.block i hi)⟩
structure aB (α:Type) where
 size:Nat
 is:(Nat→Prop)→World→List Value→α→Prop
 len:∀{B:Nat→Prop} {w:World} {c:List Value} {a:α},is B w c a→c.length=size
 one:∀{B:Nat→Prop} {w:World} {c:List Value} {a:α},is B w c a→∀u∈c,u.oneCell'=true
 kept:∀{B:Nat→Prop} {w w':World} {c:List Value} {a:α},is B w c a→w.heap.size≤w'.heap.size→(∀k,k<w.heap.size→B k→w'.heap[k]?=w.heap[k]?)→is B w' c a
 mono:∀{B B':Nat→Prop} {w:World} {c:List Value} {a:α},is B w c a→(∀k,k<w.heap.size→B k→B' k)→is B' w c a
variable {α:Type}
def SX:Value→Prop
 | .slice _ n c=>n≤c
 |_=>True
def aB.sl (K:aB α) (B:Nat→Prop) (w:World) (v:Value) (l:List α):Prop:=
 (l.length≤8796093022208∧SX v)∧∃a cap,v=.slice a l.length cap∧(l≠[]→∃b off,a=some ⟨b,off,none⟩∧B b∧b<w.heap.size∧
  ∀i x,l[i]?=some x→∃c,K.is B w c x∧∀j u,c[j]?=some u→w.cell? ⟨b,off+i*K.size+j,none⟩=some u)
theorem aB.eH (K:aB α) (B:Nat→Prop) (w:World) (a:Option Addr) (cap:Nat):K.sl B w (.slice a 0 cap) []:=⟨⟨by simp,Nat.zero_le _⟩,a,cap,rfl,fun h=>absurd rfl h⟩
theorem aB.bL {K:aB α} {B:Nat→Prop} {w w':World} {v:Value} {l:List α} (h:K.sl B w v l) (hs:w.heap.size≤w'.heap.size) (hk:∀k,k<w.heap.size→B k→w'.heap[k]?=w.heap[k]?):K.sl B w' v l:=by obtain⟨h0,a,cap,rfl,h1⟩:=h;refine⟨h0,a,cap,rfl,fun hl=>?_⟩;obtain⟨b,off,rfl,hB,hb,hc⟩:=h1 hl;refine⟨b,off,rfl,hB,Nat.lt_of_lt_of_le hb hs,fun i x hx=>?_⟩;obtain⟨c,c1,c2⟩:=hc i x hx;exact⟨c,K.kept c1 hs hk,fun j u hu=>by rw[World.cell?_of_block (w:=w) (hk b hb hB)];exact c2 j u hu⟩
theorem aB.bQ {K:aB α} {B B':Nat→Prop} {w:World} {v:Value} {l:List α} (h:K.sl B w v l) (hk:∀k,k<w.heap.size→B k→B' k):K.sl B' w v l:=by obtain⟨h0,a,cap,rfl,h1⟩:=h;refine⟨h0,a,cap,rfl,fun hl=>?_⟩;obtain⟨b,off,rfl,hB,hb,hc⟩:=h1 hl;refine⟨b,off,rfl,hk b hb hB,hb,fun i x hx=>?_⟩;obtain⟨c,c1,c2⟩:=hc i x hx;exact⟨c,K.mono c1 hk,c2⟩
theorem aB.slice {K:aB α} {B:Nat→Prop} {w:World} {v:Value} {l:List α} (h:K.sl B w v l):∃a cap,v=.slice a l.length cap:=by obtain⟨_,a,cap,rfl,_⟩:=h;exact⟨a,cap,rfl⟩
abbrev From (lo:Nat):Nat→Prop:=fun k=>lo≤k
def aB.own (K:aB α) (ty:TypeId) (lo:Nat) (w:World) (v:Value) (l:List α):Prop:=
 ∃xs,w.ownsRow lo ty K.size v l.length xs∧∀i x,l[i]?=some x→∃c,K.is (fun k=>lo≤k∧v.ownBlock≠some k) w c x∧∀j u,c[j]?=some u→xs[i*K.size+j]?=some u
theorem aB.fD (K:aB α) (ty:TypeId) (lo:Nat) (w:World):K.own ty lo w (.slice none 0 0) []:=⟨[],World.ownsRow_nil w lo ty K.size,fun i x h=>by simp at h⟩
theorem aB.dI {K:aB α} {ty:TypeId} {p lo:Nat} {w w':World} {v:Value} {l:List α} (h:K.own ty lo w v l) (k:Tn p w w') (hp:p<lo):K.own ty lo w' v l:=by
 obtain⟨xs,ho,hx⟩:=h;refine⟨xs,⟨ho.1,?_⟩,fun i x hi=>?_⟩
 ·rcases ho.2 with e|⟨g,cap,cur,rfl,hbg,hg,r⟩;·exact Or.inl e
  exact Or.inr ⟨g,cap,cur,rfl,hbg,by rw[k.block g (Array.getElem?_eq_some_iff.1 hg).1 (by omega)];exact hg,r⟩
 obtain⟨c,c1,c2⟩:=hx i x hi;exact⟨c,K.kept c1 k.size fun j hj hB=>k.block j hj (by have:=hB.1;omega),c2⟩
theorem aB.dL {K:aB α} {ty:TypeId} {lo:Nat} {w:World} {v:Value} {l:List α} (h:K.own ty lo w v l) {k:Nat} (hk:v.ownBlock=some k):lo≤k∧k<w.heap.size:=by obtain⟨xs,ho,_⟩:=h;exact ho.lt k hk
theorem aB.aY {K:aB α} {ty:TypeId} {lo:Nat} {w:World} {v:Value} {l:List α} (h:K.own ty lo w v l):∃a cap,v=.slice a l.length cap:=by
 obtain⟨xs,ho,_⟩:=h;rcases ho.2 with⟨rfl,e⟩|⟨g,cap,cur,rfl,_⟩;·exact⟨none,0,by rw[e]⟩
 exact⟨_,cap,rfl⟩
theorem aB.fq {K:aB α} {ty:TypeId} {lo:Nat} {w:World} {v:Value} {l:List α} (h:K.own ty lo w v l) (hl:l.length≤8796093022208):K.sl (From lo) w v l:=by
 obtain⟨xs,ho,hx⟩:=h;rcases ho.2 with⟨rfl,e⟩|⟨g,cap,cur,rfl,hbg,hg,hnc,_⟩;·have:l=[]:=List.eq_nil_of_length_eq_zero e;subst this;exact K.eH _ _ _ _
 refine⟨⟨hl,hnc⟩,_,cap,rfl,fun _=>⟨g,0,rfl,hbg,(Array.getElem?_eq_some_iff.1 hg).1,fun i x hi=>?_⟩⟩;obtain⟨c,c1,c2⟩:=hx i x hi;refine⟨c,K.mono c1 fun k _ h=>h.1,fun j u hu=>?_⟩;have:=ho.cells (g:=g) rfl _ u (c2 j u hu);rw[Addr.add_lit] at this;rw[Nat.add_assoc];exact this
theorem aB.GD {K:aB α} {ty:TypeId} {lo:Nat} {w:World} {c:List Value} {x:α} (hc:K.is (From lo) w c x) (hlo:lo≤w.heap.size):K.own ty lo (w.alloc (.cells c.toArray ty)) (.slice (some ⟨w.heap.size,0,none⟩) 1 1) [x]:=by
 refine⟨c,?_,fun i y hi=>?_⟩;·refine⟨by rw[K.len hc];simp,Or.inr ⟨w.heap.size,1,c.toArray,rfl,hlo,?_,by simp,by simp[maxLen],by simp[K.len hc],by have:=K.len hc;simp[←this]⟩⟩;exact heap_alloc_new w _
 cases i with
 |zero=>
  simp at hi;subst hi;refine⟨c,K.kept (K.mono hc fun k hk h=>⟨h,by simp[Value.ownBlock];omega⟩) (by simp) fun k hk _=>Below.heap_alloc w _ k hk,fun j u hu=>by rw[Nat.zero_mul,Nat.zero_add];exact hu⟩
 |succ i=>simp at hi
theorem aB.wI {P:Program} {K:aB α} {t ty:TypeId} {lo bytes:Nat} {w:World} {v:Value} {l:List α} (h:K.own ty lo w v l) {i:TypeInfo} {z:Value}
  (ht:P.underlying t=some (.slice ty)) (hi:P.info? ty=some i) (hz:i.zero=some z) (hsize:i.size=K.size) (hby:i.bytes=bytes) (hzs:z.cells.size=K.size) (hsz:0<K.size) (hb:bytes≤100)
  {c:List Value} {x:α} (hc:K.is (fun k=>lo≤k∧v.ownBlock≠some k) w c x) (hl:l.length+1≤1099511627776) (hlo:lo≤w.heap.size):
  ∃v' w',(Builtin.append_ #[t,t] t #[v,.slice (some ⟨w.heap.size,0,none⟩) 1 1]).run P (w.alloc (.cells c.toArray ty))=.ok v' w'∧K.own ty lo w' v' (l++[x])∧(w.alloc (.cells c.toArray ty)).grownBy w' v.ownBlock:=by
 obtain⟨xs,ho,hx⟩:=h;have hcl:=K.len hc;have hnews:∀j u,c[j]?=some u→(w.alloc (.cells c.toArray ty)).cell? ((⟨w.heap.size,0,none⟩:Addr).add j)=some u:=by intro j u hu;rw[Addr.add_lit,Nat.zero_add,cell_of_row _ w.heap.size j c.toArray ty (0,0) (heap_alloc_new w _)];simpa using hu
 obtain⟨v',w',hrun,r1,r2,r3,r4⟩:=dZ (P:=P) (w.alloc (.cells c.toArray ty)) lo t t ty i z K.size bytes ht hi hz hsize hby hzs hsz v l.length xs (ho.alloc _) ⟨w.heap.size,0,none⟩ 1 1 c (by rw[hcl];simp) hnews
  (K.one hc) (by simp only[maxLen];omega) (Nat.le_trans (Nat.mul_le_mul hl hb) (by omega)) (by simp;omega)
 have hxl:xs.length=l.length*K.size:=ho.1;have own':∀k,k<w.heap.size→v'.ownBlock=some k→v.ownBlock=some k:=fun k hk e=>by
  rcases r4 k e with e|e;·exact e
  simp at e;omega
 have keep:∀k,k<w.heap.size→(lo≤k∧v.ownBlock≠some k)→w'.heap[k]?=w.heap[k]?:=fun k hk hB=>
  (r2.block k (by simp;omega) (fun e=>hB.2 e.symm)).trans (Below.heap_alloc w _ k hk)
 have hsz':w.heap.size≤w'.heap.size:=Nat.le_trans (by simp) r2.size;have move:∀{c:List Value} {y:α},K.is (fun k=>lo≤k∧v.ownBlock≠some k) w c y→K.is (fun k=>lo≤k∧v'.ownBlock≠some k) w' c y:=fun {c y} hy=>
  K.kept (K.mono hy fun k hk hB=>(⟨⟨hB.1,fun e=>hB.2 (own' k hk e)⟩,hB⟩:(lo≤k∧v'.ownBlock≠some k)∧(lo≤k∧v.ownBlock≠some k))) hsz' (fun k hk hB=>keep k hk hB.2) |> fun h=>K.mono h fun _ _ hB=>hB.1
 refine⟨v',w',hrun,⟨xs++c,by simpa using r1,fun j y hj=>?_⟩,r2⟩
 by_cases hjl:j<l.length
 ·rw[List.getElem?_append_left hjl] at hj;obtain⟨d,d1,d2⟩:=hx j y hj;refine⟨d,move d1,fun q u hu=>?_⟩;have:=d2 q u hu;rw[List.getElem?_append_left (List.getElem?_eq_some_iff.1 this).1];exact this
 rw[List.getElem?_append_right (by omega)] at hj;have hj':j=l.length:=by have:=(List.getElem?_eq_some_iff.1 hj).1;simp at this;omega
 subst hj';simp at hj;subst hj;refine⟨c,move hc,fun q u hu=>?_⟩;rw[List.getElem?_append_right (by omega),hxl,Nat.add_sub_cancel_left];exact hu
def eD:aB dK where
 size:=2
 is:=fun _ _ c t=>c=[.bool t.1,.string (bs t.2)]
 len:=fun h=>by subst h;rfl
 one:=fun h u hu=>by subst h;simp at hu;rcases hu with rfl|rfl <;> rfl
 kept:=fun h _ _=>h
 mono:=fun h _=>h
def jS:aB Bs where
 size:=1
 is:=fun _ _ c t=>c=[.string (bs t)]
 len:=fun h=>by subst h;rfl
 one:=fun h u hu=>by subst h;simp at hu;subst hu;rfl
 kept:=fun h _ _=>h
 mono:=fun h _=>h
def bN:aB aI where
 size:=3
 is:=fun B w c a=>∃v,c=[.bool a.no,.string (bs a.name),v]∧eD.sl B w v a.terms
 len:=fun⟨v,h,_⟩=>by subst h;rfl
 one:=fun⟨v,h,hs⟩ u hu=>by subst h;obtain⟨a,cap,rfl⟩:=aB.slice hs;simp at hu;rcases hu with rfl|rfl|rfl <;> rfl
 kept:=fun⟨v,h,hs⟩ h1 h2=>⟨v,h,aB.bL hs h1 h2⟩
 mono:=fun⟨v,h,hs⟩ h1=>⟨v,h,aB.bQ hs h1⟩
def eP:aB aG where
 size:=4
 is:=fun B w c a=>∃v u,c=[.bool a.head.no,.string (bs a.head.name),v,u]∧eD.sl B w v a.head.terms∧bN.sl B w u a.body
 len:=fun⟨v,u,h,_,_⟩=>by subst h;rfl
 one:=fun⟨v,x,h,hs,hb⟩ u hu=>by subst h;obtain⟨a,cap,rfl⟩:=aB.slice hs;obtain⟨a,cap,rfl⟩:=aB.slice hb;simp at hu;rcases hu with rfl|rfl|rfl|rfl <;> rfl
 kept:=fun⟨v,u,h,hs,hb⟩ h1 h2=>⟨v,u,h,aB.bL hs h1 h2,aB.bL hb h1 h2⟩
 mono:=fun⟨v,u,h,hs,hb⟩ h1=>⟨v,u,h,aB.bQ hs h1,aB.bQ hb h1⟩
def aB.val (K:aB α) (lo:Nat) (w:World) (v:Value) (a:α):Prop:=∃c,v=.agg c.toArray∧K.is (From lo) w c a
theorem aB.bO {α:Type} {K:aB α} {B:Nat→Prop} {w:World} {a:Option Addr} {n cap i:Nat} {l:List α} {x:α} (h:K.sl B w (.slice a n cap) l) (hi:l[i]?=some x):
  ∃b off c,a=some ⟨b,off,none⟩∧b<w.heap.size∧K.is B w c x∧∀j u,c[j]?=some u→w.cell? ⟨b,off+i*K.size+j,none⟩=some u:=by
 obtain⟨_,a',cap',e,h1⟩:=h;simp only[Value.slice.injEq] at e;obtain⟨rfl,_,_⟩:=e;obtain⟨b,off,rfl,_,hb,hc⟩:=h1 (by intro e;rw[e] at hi;simp at hi);obtain⟨c,c1,c2⟩:=hc i x hi;exact⟨b,off,c,rfl,hb,c1,c2⟩
abbrev bf:Nat→Prop:=fun _=>True
theorem aB.dO {α:Type} {K:aB α} {B:Nat→Prop} {w:World} {v:Value} {l:List α} (h:K.sl B w v l):K.sl bf w v l:=aB.bQ h fun _ _ _=>trivial
theorem aB.aK {α:Type} {K:aB α} {w w':World} {v:Value} {l:List α} (h:K.sl bf w v l) (k:ak w w'):K.sl bf w' v l:=aB.bL h k.size fun _ hi _=>k.block hi
theorem aB.aJ {α:Type} {K:aB α} {w w':World} {v:Value} {l:List α} (h:K.sl bf w v l) (k:Below w.heap.size w w'):K.sl bf w' v l:=aB.bL h k.size fun i hi _=>k.block i hi
end
section
variable {H:Type} {enc:TypeId×Value→H} {W:World}
theorem XZ:ownKnob Tryz.prog.godebug=none:=by kernel_rfl
theorem oF:laidOutB Tryz.prog=true:=by kernel_rfl
theorem oG:Tryz.prog.cellsOf 9=1:=by kernel_rfl
theorem sO {a:Addr} {v:Value} (h:W.cell? (a.add 0)=some v):∃b off,a=⟨b,off,none⟩:=by
 obtain⟨b,off,spot⟩:=a;have hspot:spot=none:=by simpa[Addr.add] using World.cell?_spot h
 subst hspot;exact⟨b,off,rfl⟩
def jq (t:TypeId) (d:DataW H):Prop:=(d.weights Tryz.prog t).all (· ≤reachBytes)=true
def Opens {α:Type} (enc:TypeId×Value→H) (W:World) (ty:TypeId) (K:aB α) (ok:α→Prop):Prop:=
 ∀n cs x,DataW.trod enc Tryz.prog W 0 (fun _=>true) true n ty cs=some x→jq ty x.1→∃a,K.is bf W cs a∧ok a
theorem zM {e:TypeId} {l:List (DataW H)} (h:(DataW.weightsAll Tryz.prog e l).all (· ≤reachBytes)=true):∀d∈l,jq e d:=by
 induction l with
 |nil=>intro d hd;cases hd
 |cons x r ih=>
  simp only[DataW.weightsAll,List.all_append,Bool.and_eq_true] at h;intro d hd;rcases List.mem_cons.1 hd with rfl|hd
  ·exact h.1
  exact ih h.2 d hd
theorem GH {α:Type} {K:aB α} {T ty:TypeId} {ok:α→Prop} (hT:Tryz.prog.underlying T=some (.slice ty)) (hc:Tryz.prog.cellsOf ty=K.size) (hby:16≤Tryz.prog.bytesOf ty) (hsz:0<K.size) (E:Opens enc W ty K ok)
  {n:Nat} {v:Value} {x:DataW H×List MemPlace} (hf:DataW.trod enc Tryz.prog W 0 (fun _=>true) true n T [v]=some x) (hw:jq T x.1):∃l,K.sl bf W v l∧(∀a∈l,ok a)∧l.length*Tryz.prog.bytesOf ty≤reachBytes:=by
 rcases open_slice hT hf with⟨hcs,_⟩|⟨a,len,cap,m,k,D,Pl,hcs,_,hl,hm,hmm,hx,hel⟩;·simp only[List.cons.injEq,and_true] at hcs;exact⟨[],by rw[hcs];exact K.eH _ _ _ _,fun a ha=>(by cases ha),by simp⟩
 simp only[List.cons.injEq,and_true] at hcs;simp only[if_true] at hmm;subst hmm;rw[hc] at hel;have hd:x.1=.slice ((List.range len).map D) ((List.range (m-len)).map fun j=>D (len+j)):=by rw[hx]
 have hw2:(decide ((len+(m-len))*Tryz.prog.bytesOf ty≤reachBytes)&&((DataW.weightsAll Tryz.prog ty ((List.range len).map D)).all (· ≤reachBytes)&&(DataW.weightsAll Tryz.prog ty ((List.range (m-len)).map fun j=>D (len+j))).all (· ≤reachBytes)))=true:=by have:=hw;unfold jq at this;rw[hd,DataW.weights,hT] at this;simpa using this
 simp only[Bool.and_eq_true] at hw2;have hlen:len≤8796093022208:=by have h1:(len+(m-len))*Tryz.prog.bytesOf ty≤reachBytes:=of_decide_eq_true hw2.1;have h2:len*16≤(len+(m-len))*Tryz.prog.bytesOf ty:=Nat.mul_le_mul (by omega) hby;unfold reachBytes at h1;omega
 have each:∀i:Fin len,∃z:α,∃cs',W.cells? 0 (a.add (i.1*K.size)) K.size=some cs'∧K.is bf W cs' z∧ok z:=fun i=>by obtain⟨cs',k1,k2⟩:=hel i.1 (by omega);obtain⟨z,hz,hk⟩:=E _ _ _ k2 (zM hw2.2.1 _ (List.mem_map.2 ⟨i.1,List.mem_range.2 i.2,rfl⟩));exact⟨z,cs',k1,hz,hk⟩
 refine⟨List.ofFn fun i=>Classical.choose (each i),⟨⟨by simpa using hlen,?_⟩,some a,m,by rw[hcs];simp,fun hne=>?_⟩,fun z hz=>?_,?_⟩
 ·rw[hcs];show len≤m;omega
 rotate_left
 rotate_left
 ·have h1:(len+(m-len))*Tryz.prog.bytesOf ty≤reachBytes:=of_decide_eq_true hw2.1;rw[List.length_ofFn];exact Nat.le_trans (Nat.mul_le_mul_right _ (by omega)) h1
 rotate_left
 ·rw[List.mem_ofFn] at hz;obtain⟨i,rfl⟩:=hz;obtain⟨_,_,_,hok⟩:=Classical.choose_spec (each i);exact hok
 have h0:0<len:=by refine Nat.pos_of_ne_zero fun e=>hne ?_;subst e;rfl
 have first:∀i:Fin len,∀cs',W.cells? 0 (a.add (i.1*K.size)) K.size=some cs'→∀j u,cs'[j]?=some u→W.cell? ((a.add (i.1*K.size)).add j)=some u:=fun i cs' k1 j u hu=>by obtain⟨h1,_,hcell⟩:=World.cells?_some k1;have hj:j<cs'.length:=(List.getElem?_eq_some_iff.1 hu).1;have:=hcell j (by omega);rw[this];exact hu
 have hplain:∃b off,a=⟨b,off,none⟩:=by
  obtain⟨cs',k0,k1,_⟩:=Classical.choose_spec (each ⟨0,h0⟩);have hl:=K.len k1;have hu:cs'[0]?=some (cs'[0]'(by omega)):=List.getElem?_eq_getElem (by omega);have:=first ⟨0,h0⟩ cs' k0 0 _ hu
  exact sO (W:=W) (v:=cs'[0]'(by omega)) (by simpa[Addr.add] using this)
 obtain⟨b,off,rfl⟩:=hplain;have hlt:b<W.heap.size:=by
  obtain⟨cs',k0,k1,_⟩:=Classical.choose_spec (each ⟨0,h0⟩);have hl:=K.len k1;have hu:cs'[0]?=some (cs'[0]'(by omega)):=List.getElem?_eq_getElem (by omega);have:=first ⟨0,h0⟩ cs' k0 0 _ hu
  rw[Addr.add_lit,Addr.add_lit] at this;exact World.block_lt_of_cell? W _ this
 refine⟨b,off,rfl,trivial,hlt,fun i z hi=>?_⟩;have hi':i<len:=by simpa using(List.getElem?_eq_some_iff.1 hi).1
 rw[List.getElem?_ofFn,dif_pos hi'] at hi
 injection hi with hi
 subst hi;obtain⟨cs',k0,k1,_⟩:=Classical.choose_spec (each ⟨i,hi'⟩);refine⟨cs',k1,fun j u hu=>?_⟩;have:=first ⟨i,hi'⟩ cs' k0 j u hu
 rw[Addr.add_lit,Addr.add_lit] at this;exact this
theorem Df {α:Type} {K:aB α} {T ty:TypeId} {ok:α→Prop} (hT:Tryz.prog.underlying T=some (.slice ty)) (hc:Tryz.prog.cellsOf ty=K.size) (hby:16≤Tryz.prog.bytesOf ty) (hsz:0<K.size) (E:Opens enc W ty K ok)
  {n:Nat} {v:Value} {x:DataW H×List MemPlace} (hf:DataW.trod enc Tryz.prog W 0 (fun _=>true) true n T [v]=some x) (hw:jq T x.1):∃l,K.sl bf W v l∧∀a∈l,ok a:=by
 obtain⟨l,h1,h2,_⟩:=GH hT hc hby hsz E hf hw;exact⟨l,h1,h2⟩
def okT (t:dK):Prop:=t.2.length≤maxLen
def okA (a:aI):Prop:=a.name.length≤maxLen∧∀t∈a.terms,okT t
def okR (r:aG):Prop:=okA r.head∧∀a∈r.body,okA a
theorem zN:Tryz.prog.cellsOf 101=2:=by kernel_rfl
theorem EC:Tryz.prog.cellsOf 77=1:=by kernel_rfl
theorem sP:Tryz.prog.cellsOf 79=3:=by kernel_rfl
theorem ED:Tryz.prog.cellsOf 80=1:=by kernel_rfl
theorem zO:Tryz.prog.cellsOf 4=1:=by kernel_rfl
theorem GI:Tryz.prog.bytesOf 101=24:=by kernel_rfl
theorem GJ:Tryz.prog.bytesOf 79=48:=by kernel_rfl
theorem zP:Tryz.prog.cellsOf 82=4:=by kernel_rfl
theorem GK:Tryz.prog.bytesOf 82=72:=by kernel_rfl
theorem GL:Opens enc W 101 eD okT:=by
 intro n cs x h _;obtain⟨y0,y1,m,hx,hl,h0,h1⟩:=trod_struct2 Tryz.underlying101 h;rw[zN] at hl
 match cs,hl with
 |[c0,c1],_=>
  have e0:Tryz.prog.cellsOf 4=1:=zO;have e1:Tryz.prog.cellsOf 9=1:=oG;simp only[e0,e1,List.drop_zero,List.drop_succ_cons,List.take_succ_cons,List.take_zero] at h0 h1;obtain⟨b,hb,_⟩:=DataW.trod_bool Tryz.underlying4 h0;obtain⟨s,hs,_,hsz⟩:=DataW.trod_string Tryz.underlying9 h1;simp only[List.cons.injEq,and_true] at hb hs;exact⟨(b,raw s),by show[c0,c1]=_;rw[hb,hs,iT],by show(raw s).length≤_;rw[bZ];exact hsz⟩
theorem zQ:Opens enc W 79 bN okA:=by
 intro n cs x h hw;obtain⟨y0,y1,y2,m,hx,hl,h0,h1,h2⟩:=trod_struct3 Tryz.underlying79 h;rw[sP] at hl
 match cs,hl with
 |[c0,c1,c2],_=>
  have e0:Tryz.prog.cellsOf 4=1:=zO;have e1:Tryz.prog.cellsOf 9=1:=oG;have e2:Tryz.prog.cellsOf 77=1:=EC;simp only[e0,e1,e2,List.drop_zero,List.drop_succ_cons,List.take_succ_cons,List.take_zero] at h0 h1 h2;obtain⟨b,hb,_⟩:=DataW.trod_bool Tryz.underlying4 h0;obtain⟨s,hs,_,hsz⟩:=DataW.trod_string Tryz.underlying9 h1;simp only[List.cons.injEq,and_true] at hb hs;have hw2:jq 77 y2.1:=by unfold jq at hw⊢;rw[hx,DataW.weights,Tryz.underlying79] at hw;simp only[List.map_cons,List.map_nil,DataW.weightsEach,List.all_append,Bool.and_eq_true] at hw;exact hw.2.2.1
  obtain⟨l,hl,hlk⟩:=Df Tryz.underlying77 zN (by rw[GI];decide) (by decide) GL h2 hw2;exact⟨⟨b,raw s,l⟩,⟨c2,by show[c0,c1,c2]=_;rw[hb,hs,iT],hl⟩,by show(raw s).length≤_;rw[bZ];exact hsz,hlk⟩
theorem GN:Opens enc W 82 eP okR:=by
 intro n cs x h hw;obtain⟨y0,y1,m,hx,hl,h0,h1⟩:=trod_struct2 Tryz.underlying82 h;rw[zP] at hl
 match cs,hl with
 |[c0,c1,c2,c3],_=>
  have e0:Tryz.prog.cellsOf 79=3:=sP;have e1:Tryz.prog.cellsOf 80=1:=ED;simp only[e0,e1,List.drop_zero,List.drop_succ_cons,List.take_succ_cons,List.take_zero] at h0 h1;have hws:jq 79 y0.1∧jq 80 y1.1:=by unfold jq at hw⊢;rw[hx,DataW.weights,Tryz.underlying82] at hw;simp only[List.map_cons,List.map_nil,DataW.weightsEach,List.all_append,Bool.and_eq_true] at hw;exact⟨hw.1,hw.2.1⟩
  obtain⟨a,⟨v,ev,hv⟩,hak⟩:=zQ _ _ _ h0 hws.1;obtain⟨l,hl,hlk⟩:=Df Tryz.underlying80 sP (by rw[GJ];decide) (by decide) zQ h1 hws.2;simp only[List.cons.injEq,and_true] at ev;exact⟨⟨a,l⟩,⟨v,c3,by show[c0,c1,c2,c3]=_;rw[ev.1,ev.2.1,ev.2.2],hv,hl⟩,hak,hlk⟩
theorem GQ {b0:Nat} {v:Value} {d:DataW H} {p:List MemPlace} (hv:Value.okWide Tryz.prog W .any b0 23 v) (h:DataW.Trod enc Tryz.prog W 0 (fun _=>true) true 23 v d p) (hw:jq 23 d):∃l,eP.sl bf W v l∧∀r∈l,okR r:=by obtain⟨a0,X0,cap0,rfl⟩:=okWide_slice Tryz.underlying23 hv;obtain⟨fuel,hf⟩:=h;exact Df Tryz.underlying23 zP (by rw[GK];decide) (by decide) GN (x:=(d,p)) (by simpa[Value.cells] using hf) hw
theorem rX {ts:List TypeId} {ds:List (DataW H)} (h:(DataW.weightsEach Tryz.prog ts ds).all (· ≤reachBytes)=true) {j:Nat} {t:TypeId} {d:DataW H} (ht:ts[j]?=some t) (hd:ds[j]?=some d):jq t d:=
 List.all_eq_true.2 fun k hk=>List.all_eq_true.1 h _ (DataW.weights_mem_each ht hd k hk)
end
end Go.Proofs.YtaallngooaaonaaGreatDoor
