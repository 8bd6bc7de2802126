import Derived.Test.YtafmbokfkbccaaaGreatDoorJN1
import Derived.Test.YtafmbokfkbccaaaGreatDoorJN2
import Derived.Deep.LoopGhost
import Derived.BigQuiet
import Derived.Shelf.SlSortCmp.QuietGrown
import Derived.Deep.QuietTactic
namespace Go.Proofs.YtafmbokfkbccaaaGreatDoor
def kD:Bool→Bs→Bs
 |_,[]=>[]
 |false,c::t=>if c=32∨c=10 then kD false t else if c=37 then kD true t else c::t
 |true,c::t=>if c=10 then kD false t else kD true t
abbrev skip (l:Bs):Bs:=kD false l
inductive Res (α:Type) where
 |ok (a:α) (r:Bs)
 |bad (e:Int) (r:Bs)
def Res.next {α β:Type} (x:Res α) (f:α→Bs→Res β):Res β:=
 match x with
 | .ok a r=>f a r
 | .bad e r=>.bad e r
def took (g l:Bs):Bool×Bs:=if g.isPrefixOf (skip l) then(true,(skip l).drop g.length) else(false,skip l)
def word (fits:Bs→Bool) (l:Bs):Res Bs:=
 if(skip l).takeWhile dM=[] then .bad 2 (skip l)
 else if fits ((skip l).takeWhile dM) then .ok ((skip l).takeWhile dM) ((skip l).drop ((skip l).takeWhile dM).length)
 else .bad 7 (skip l)
def jf {α:Type} (part:Bs→Res α):Nat→List α→Bs→Res (List α)
 |n,out,l=>if(took [44] l).1 then
   match n with
   |0=>.bad 5 (took [44] l).2
   |n+1=>(part (took [44] l).2).next fun a r=>jf part n (out++[a]) r
  else .ok out (took [44] l).2
def jg {α:Type} (part:Bs→Res α) (most:Nat) (l:Bs):Res (List α):=(part l).next fun a r=>jf part (most-1) [a] r
def dS {α:Type} (g:Bs) (a:α) (l:Bs):Res α:=if(took g l).1 then .ok a (took g l).2 else .bad 2 (took g l).2
abbrev dH:=Bool×Bs
structure aF where
 no:Bool
 name:Bs
 terms:List dH
deriving DecidableEq
structure aA where
 head:aF
 body:List aF
deriving DecidableEq
def rW (w:Bs):Bool:=isNamed w||isVar w
def term (l:Bs):Res dH:=(word rW l).next fun w r=>.ok (isVar w,w) r
def atom (l:Bs):Res aF:=(word isNamed l).next fun w r=>
 if(took [40] r).1 then(jg term 4 (took [40] r).2).next fun ts r=>dS [41] ⟨false,w,ts⟩ r else .ok ⟨false,w,[]⟩ (took [40] r).2
def dN (l:Bs):Res aF:=(atom (took [33] l).2).next fun a r=>.ok {a with no:=(took [33] l).1} r
def body (l:Bs):Res (List aF):=jg dN 5 l
def rule (l:Bs):Res aA:=(atom l).next fun a r=>
 if(took [58,45] r).1 then(body (took [58,45] r).2).next fun b r=>dS [46] ⟨a,b⟩ r else dS [46] ⟨a,[]⟩ (took [58,45] r).2
def fV:Nat→List aA→Bs→Res (List aA)
 |n,out,l=>if skip l=[] then .ok out [] else
  match n with
  |0=>.bad 5 (skip l)
  |n+1=>(rule (skip l)).next fun a r=>fV n (out++[a]) r
def jX (l:Bs):Res (List aF):=(body l).next fun b r=>if skip r=[] then .ok b [] else .bad 2 (skip r)
theorem Res.sF {α β:Type} {x:Res α} {f:α→Bs→Res β} {b:β} {r:Bs} (h:x.next f=.ok b r):∃a r',x=.ok a r'∧f a r'=.ok b r:=by
 cases x with
 |ok a r'=>exact⟨a,r',rfl,h⟩
 |bad e r'=>cases h
theorem vO {c:UInt8} {t:Bs} (h:c=32∨c=10):kD false (c::t)=kD false t:=by simp only[kD,if_pos h]
theorem F7 {t:Bs}:kD false (37::t)=kD true t:=by simp[kD]
theorem D8 {c:UInt8} {t:Bs} (h:¬(c=32∨c=10)) (h2:¬c=37):kD false (c::t)=c::t:=by simp only[kD,if_neg h,if_neg h2]
theorem Jv {t:Bs}:kD true (10::t)=kD false t:=by simp[kD]
theorem F8 {c:UInt8} {t:Bs} (h:¬c=10):kD true (c::t)=kD true t:=by simp only[kD,if_neg h]
def Local {α:Type} (P:Bs→Res α):Prop:=∀l a r t,P l=.ok a r→r≠[]→P (l++10::t)=.ok a (r++10::t)
def Ends {α:Type} (P:Bs→Res α):Prop:=∀a r,P []=.ok a r→r=[]
theorem BM {α:Type} {g l r:Bs} {a b:α} (h:dS g a l=.ok b r):(took g l).1=true∧b=a∧r=(took g l).2:=by
 unfold dS at h;split at h
 ·cases h;exact⟨by assumption,rfl,rfl⟩
 ·cases h
theorem BN (n:Nat) (out:List aA) {l:Bs} (h:skip l=[]):fV n out l=.ok out []:=by
 unfold fV;exact if_pos h
end Go.Proofs.YtafmbokfkbccaaaGreatDoor
namespace Go.Proofs.YtafmbokfkbccaaaGreatDoor
open Go.RowKit Go.Sort
structure Tn (p:Nat) (w w':World):Prop where
 os:w'.os=w.os
 tape:w'.tape=w.tape
 output:w'.output=w.output
 size:w.heap.size≤w'.heap.size
 block:∀k,k<w.heap.size→k≠p→w'.heap[k]?=w.heap[k]?
theorem Tn.refl (p:Nat) (w:World):Tn p w w:=⟨rfl,rfl,rfl,Nat.le_refl _,fun _ _ _=>rfl⟩
theorem Tn.trans {p:Nat} {a b c:World} (h:Tn p a b) (k:Tn p b c):Tn p a c:=
 ⟨k.os.trans h.os,k.tape.trans h.tape,k.output.trans h.output,Nat.le_trans h.size k.size,fun i hi ho=>(k.block i (Nat.lt_of_lt_of_le hi h.size) ho).trans (h.block i hi ho)⟩
theorem Tn.of_below {p:Nat} {a b:World} (h:Below a.heap.size a b):Tn p a b:=⟨h.os,h.tape,h.output,h.size,fun k hk _=>h.block k hk⟩
theorem Tn.below {p n:Nat} {a b:World} (h:Tn p a b) (hp:n≤p) (hn:n≤a.heap.size):Below n a b:=
 ⟨h.os,h.tape,h.output,h.size,fun k hk=>h.block k (by omega) (by omega)⟩
theorem Tn.cell {p:Nat} {a b:World} (h:Tn p a b) {x:Addr} (hx:x.block<a.heap.size) (ho:x.block≠p):b.cell? x=a.cell? x:=World.cell?_of_block (w:=a) (h.block _ hx ho)
theorem Tn.drewN {p:Nat} {a b:World} (h:Tn p a b) (n:Nat):Tn p a (b.drewN n):=⟨h.os,h.tape,h.output,h.size,h.block⟩
theorem Tn.drew {p:Nat} {a b:World} (h:Tn p a b):Tn p a b.drew:=⟨h.os,h.tape,h.output,h.size,h.block⟩
theorem Tn.alloc {p:Nat} {a b:World} (h:Tn p a b) (o:Obj):Tn p a (b.alloc o):=
 h.trans (Tn.of_below (((Later.refl b).alloc o).below))
theorem heap_setCell_other (w:World) (x:Addr) (v:Value) {k:Nat} (h:k≠x.block):(w.setCell x v).heap[k]?=w.heap[k]?:=by
 simp only[World.setCell,Array.getElem?_modify];rw[if_neg (fun e=>h e.symm)]
theorem size_setCell (w:World) (x:Addr) (v:Value):(w.setCell x v).heap.size=w.heap.size:=by simp[World.setCell]
theorem Tn.setCell {p:Nat} {a b:World} (h:Tn p a b) {x:Addr} (hx:x.block=p∨a.heap.size≤x.block) (v:Value):Tn p a (b.setCell x v):=
 ⟨h.os,h.tape,h.output,by rw[size_setCell];exact h.size,fun k hk ho=>by rw[heap_setCell_other _ _ _ (by rcases hx with e|e <;> omega)];exact h.block k hk ho⟩
end Go.Proofs.YtafmbokfkbccaaaGreatDoor
namespace Go.Proofs.YtafmbokfkbccaaaGreatDoor
open Go.RowKit Go.Sort
theorem aj {n m:Nat} {a b c:World} (h:Below n a b) (k:Below m b c) (hm:n≤m:=by omega):Below n a c:=
 ⟨k.os.trans h.os,k.tape.trans h.tape,k.output.trans h.output,Nat.le_trans h.size k.size,fun i hi=>(k.block i (Nat.lt_of_lt_of_le hi hm)).trans (h.block i hi)⟩
structure Kind (α:Type) where
 size:Nat
 is:(Nat→Prop)→World→List Value→α→Prop
 len:∀{B:Nat→Prop} {w:World} {c:List Value} {a:α},is B w c a→c.length=size
 one:∀{B:Nat→Prop} {w:World} {c:List Value} {a:α},is B w c a→∀u∈c,u.oneCell'=true
 kept:∀{B:Nat→Prop} {w w':World} {c:List Value} {a:α},is B w c a→w.heap.size≤w'.heap.size→(∀k,k<w.heap.size→B k→w'.heap[k]?=w.heap[k]?)→is B w' c a
 mono:∀{B B':Nat→Prop} {w:World} {c:List Value} {a:α},is B w c a→(∀k,k<w.heap.size→B k→B' k)→is B' w c a
variable {α:Type}
def NV:Value→Prop
 | .slice _ n c=>n≤c
 |_=>True
def Kind.sl (K:Kind α) (B:Nat→Prop) (w:World) (v:Value) (l:List α):Prop:=
 (l.length≤8796093022208∧NV v)∧∃a cap,v=.slice a l.length cap∧(l≠[]→∃b off,a=some ⟨b,off,none⟩∧B b∧b<w.heap.size∧
  ∀i x,l[i]?=some x→∃c,K.is B w c x∧∀j u,c[j]?=some u→w.cell? ⟨b,off+i*K.size+j,none⟩=some u)
theorem Kind.dw (K:Kind α) (B:Nat→Prop) (w:World) (a:Option Addr) (cap:Nat):K.sl B w (.slice a 0 cap) []:=⟨⟨by simp,Nat.zero_le _⟩,a,cap,rfl,fun h=>absurd rfl h⟩
theorem Kind.aM {K:Kind α} {B:Nat→Prop} {w w':World} {v:Value} {l:List α} (h:K.sl B w v l) (hs:w.heap.size≤w'.heap.size) (hk:∀k,k<w.heap.size→B k→w'.heap[k]?=w.heap[k]?):K.sl B w' v l:=by
 obtain⟨h0,a,cap,rfl,h1⟩:=h;refine⟨h0,a,cap,rfl,fun hl=> ?_⟩;obtain⟨b,off,rfl,hB,hb,hc⟩:=h1 hl;refine⟨b,off,rfl,hB,Nat.lt_of_lt_of_le hb hs,fun i x hx=> ?_⟩;obtain⟨c,c1,c2⟩:=hc i x hx;exact⟨c,K.kept c1 hs hk,fun j u hu=>by rw[World.cell?_of_block (w:=w) (hk b hb hB)];exact c2 j u hu⟩
theorem Kind.aH {K:Kind α} {B B':Nat→Prop} {w:World} {v:Value} {l:List α} (h:K.sl B w v l) (hk:∀k,k<w.heap.size→B k→B' k):K.sl B' w v l:=by
 obtain⟨h0,a,cap,rfl,h1⟩:=h;refine⟨h0,a,cap,rfl,fun hl=> ?_⟩;obtain⟨b,off,rfl,hB,hb,hc⟩:=h1 hl;refine⟨b,off,rfl,hk b hb hB,hb,fun i x hx=> ?_⟩;obtain⟨c,c1,c2⟩:=hc i x hx;exact⟨c,K.mono c1 hk,c2⟩
theorem Kind.slice {K:Kind α} {B:Nat→Prop} {w:World} {v:Value} {l:List α} (h:K.sl B w v l):∃a cap,v=.slice a l.length cap:=by
 obtain⟨_,a,cap,rfl,_⟩:=h;exact⟨a,cap,rfl⟩
abbrev From (lo:Nat):Nat→Prop:=fun k=>lo≤k
theorem Kind.fB {K:Kind α} {p lo:Nat} {w w':World} {v:Value} {l:List α} (h:K.sl (From lo) w v l) (k:Tn p w w') (hp:p<lo):K.sl (From lo) w' v l:=
 Kind.aM h k.size fun i hi hB=>k.block i hi (by have:lo≤i:=hB;omega)
def Kind.own (K:Kind α) (ty:TypeId) (lo:Nat) (w:World) (v:Value) (l:List α):Prop:=
 ∃xs,w.ownsRow lo ty K.size v l.length xs∧∀i x,l[i]?=some x→∃c,K.is (fun k=>lo≤k∧v.ownBlock≠some k) w c x∧∀j u,c[j]?=some u→xs[i*K.size+j]?=some u
theorem Kind.iW (K:Kind α) (ty:TypeId) (lo:Nat) (w:World):K.own ty lo w (.slice none 0 0) []:=⟨[],World.ownsRow_nil w lo ty K.size,fun i x h=>by simp at h⟩
theorem Kind.bR {K:Kind α} {ty:TypeId} {p lo:Nat} {w w':World} {v:Value} {l:List α} (h:K.own ty lo w v l) (k:Tn p w w') (hp:p<lo):K.own ty lo w' v l:=by
 obtain⟨xs,ho,hx⟩:=h;refine⟨xs,⟨ho.1,?_⟩,fun i x hi=> ?_⟩
 ·rcases ho.2 with e|⟨g,cap,cur,rfl,hbg,hg,r⟩
  ·exact Or.inl e
  ·exact Or.inr ⟨g,cap,cur,rfl,hbg,by rw[k.block g (Array.getElem?_eq_some_iff.1 hg).1 (by omega)];exact hg,r⟩
 ·obtain⟨c,c1,c2⟩:=hx i x hi;exact⟨c,K.kept c1 k.size fun j hj hB=>k.block j hj (by have:=hB.1;omega),c2⟩
theorem Kind.eT {K:Kind α} {ty:TypeId} {lo:Nat} {w:World} {v:Value} {l:List α} (h:K.own ty lo w v l) {k:Nat} (hk:v.ownBlock=some k):lo≤k∧k<w.heap.size:=by
 obtain⟨xs,ho,_⟩:=h;exact ho.lt k hk
theorem Kind.bT {K:Kind α} {ty:TypeId} {lo:Nat} {w:World} {v:Value} {l:List α} (h:K.own ty lo w v l):∃a cap,v=.slice a l.length cap:=by
 obtain⟨xs,ho,_⟩:=h;rcases ho.2 with⟨rfl,e⟩|⟨g,cap,cur,rfl,_⟩
 ·exact⟨none,0,by rw[e]⟩
 ·exact⟨_,cap,rfl⟩
theorem Kind.iV {K:Kind α} {ty:TypeId} {lo:Nat} {w:World} {v:Value} {l:List α} (h:K.own ty lo w v l) (hl:l.length≤8796093022208):K.sl (From lo) w v l:=by
 obtain⟨xs,ho,hx⟩:=h;rcases ho.2 with⟨rfl,e⟩|⟨g,cap,cur,rfl,hbg,hg,hnc,_⟩
 ·have:l=[]:=List.eq_nil_of_length_eq_zero e;subst this;exact K.dw _ _ _ _
 ·refine⟨⟨hl,hnc⟩,_,cap,rfl,fun _=>⟨g,0,rfl,hbg,(Array.getElem?_eq_some_iff.1 hg).1,fun i x hi=> ?_⟩⟩;obtain⟨c,c1,c2⟩:=hx i x hi;refine⟨c,K.mono c1 fun k _ h=>h.1,fun j u hu=> ?_⟩;have:=ho.cells (g:=g) rfl _ u (c2 j u hu);rw[Addr.add_lit] at this;rw[Nat.add_assoc];exact this
theorem Kind.BO {K:Kind α} {ty:TypeId} {lo:Nat} {w:World} {c:List Value} {x:α} (hc:K.is (From lo) w c x) (hlo:lo≤w.heap.size):K.own ty lo (w.alloc (.cells c.toArray ty)) (.slice (some ⟨w.heap.size,0,none⟩) 1 1) [x]:=by
 refine⟨c,?_,fun i y hi=> ?_⟩
 ·refine⟨by rw[K.len hc];simp,Or.inr ⟨w.heap.size,1,c.toArray,rfl,hlo,?_,by simp,by simp[maxLen],by simp[K.len hc],by have:=K.len hc;simp[←this]⟩⟩;exact heap_alloc_new w _
 ·cases i with
  |zero=>
   simp at hi;subst hi;refine⟨c,K.kept (K.mono hc fun k hk h=>⟨h,by simp[Value.ownBlock];omega⟩) (by simp) fun k hk _=>Below.heap_alloc w _ k hk,fun j u hu=>by rw[Nat.zero_mul,Nat.zero_add];exact hu⟩
  |succ i=>simp at hi
theorem Kind.kE {P:Program} {K:Kind α} {t ty:TypeId} {lo bytes:Nat} {w:World} {v:Value} {l:List α} (h:K.own ty lo w v l) {i:TypeInfo} {z:Value}
  (ht:P.underlying t=some (.slice ty)) (hi:P.info? ty=some i) (hz:i.zero=some z) (hsize:i.size=K.size) (hby:i.bytes=bytes) (hzs:z.cells.size=K.size) (hsz:0<K.size) (hb:bytes≤100)
  {c:List Value} {x:α} (hc:K.is (fun k=>lo≤k∧v.ownBlock≠some k) w c x) (hl:l.length+1≤1099511627776) (hlo:lo≤w.heap.size):
  ∃v' w',(Builtin.append_ #[t,t] t #[v,.slice (some ⟨w.heap.size,0,none⟩) 1 1]).run P (w.alloc (.cells c.toArray ty))=.ok v' w'∧K.own ty lo w' v' (l++[x])∧(w.alloc (.cells c.toArray ty)).grownBy w' v.ownBlock:=by
 obtain⟨xs,ho,hx⟩:=h;have hcl:=K.len hc;have hnews:∀j u,c[j]?=some u→(w.alloc (.cells c.toArray ty)).cell? ((⟨w.heap.size,0,none⟩:Addr).add j)=some u:=by
  intro j u hu;rw[Addr.add_lit,Nat.zero_add,cell_of_row _ w.heap.size j c.toArray ty (0,0) (heap_alloc_new w _)];simpa using hu
 obtain⟨v',w',hrun,r1,r2,r3,r4⟩:=dY (P:=P) (w.alloc (.cells c.toArray ty)) lo t t ty i z K.size bytes ht hi hz hsize hby hzs hsz v l.length xs (ho.alloc _) ⟨w.heap.size,0,none⟩ 1 1 c (by rw[hcl];simp) hnews
  (K.one hc) (by simp only[maxLen];omega) (Nat.le_trans (Nat.mul_le_mul hl hb) (by omega)) (by simp;omega)
 have hxl:xs.length=l.length*K.size:=ho.1;have own':∀k,k<w.heap.size→v'.ownBlock=some k→v.ownBlock=some k:=fun k hk e=>by
  rcases r4 k e with e|e
  ·exact e
  ·simp at e;omega
 have keep:∀k,k<w.heap.size→(lo≤k∧v.ownBlock≠some k)→w'.heap[k]?=w.heap[k]?:=fun k hk hB=>
  (r2.block k (by simp;omega) (fun e=>hB.2 e.symm)).trans (Below.heap_alloc w _ k hk)
 have hsz':w.heap.size≤w'.heap.size:=Nat.le_trans (by simp) r2.size;have move:∀{c:List Value} {y:α},K.is (fun k=>lo≤k∧v.ownBlock≠some k) w c y→K.is (fun k=>lo≤k∧v'.ownBlock≠some k) w' c y:=fun {c y} hy=>
  K.kept (K.mono hy fun k hk hB=>(⟨⟨hB.1,fun e=>hB.2 (own' k hk e)⟩,hB⟩:(lo≤k∧v'.ownBlock≠some k)∧(lo≤k∧v.ownBlock≠some k))) hsz' (fun k hk hB=>keep k hk hB.2) |> fun h=>K.mono h fun _ _ hB=>hB.1
 refine⟨v',w',hrun,⟨xs++c,by simpa using r1,fun j y hj=> ?_⟩,r2⟩
 by_cases hjl:j<l.length
 ·rw[List.getElem?_append_left hjl] at hj;obtain⟨d,d1,d2⟩:=hx j y hj;refine⟨d,move d1,fun q u hu=> ?_⟩;have:=d2 q u hu;rw[List.getElem?_append_left (List.getElem?_eq_some_iff.1 this).1];exact this
 ·rw[List.getElem?_append_right (by omega)] at hj;have hj':j=l.length:=by
   have:=(List.getElem?_eq_some_iff.1 hj).1;simp at this;omega
  subst hj';simp at hj;subst hj;refine⟨c,move hc,fun q u hu=> ?_⟩;rw[List.getElem?_append_right (by omega),hxl,Nat.add_sub_cancel_left];exact hu
def dL:Kind dH where
 size:=2
 is:=fun _ _ c t=>c=[.bool t.1,.string (bs t.2)]
 len:=fun h=>by subst h;rfl
 one:=fun h u hu=>by subst h;simp at hu;rcases hu with rfl|rfl <;> rfl
 kept:=fun h _ _=>h
 mono:=fun h _=>h
def sG:Kind Bs where
 size:=1
 is:=fun _ _ c t=>c=[.string (bs t)]
 len:=fun h=>by subst h;rfl
 one:=fun h u hu=>by subst h;simp at hu;subst hu;rfl
 kept:=fun h _ _=>h
 mono:=fun h _=>h
def bU:Kind aF where
 size:=3
 is:=fun B w c a=>∃v,c=[.bool a.no,.string (bs a.name),v]∧dL.sl B w v a.terms
 len:=fun⟨v,h,_⟩=>by subst h;rfl
 one:=fun⟨v,h,hs⟩ u hu=>by
  subst h;obtain⟨a,cap,rfl⟩:=Kind.slice hs;simp at hu;rcases hu with rfl|rfl|rfl <;> rfl
 kept:=fun⟨v,h,hs⟩ h1 h2=>⟨v,h,Kind.aM hs h1 h2⟩
 mono:=fun⟨v,h,hs⟩ h1=>⟨v,h,Kind.aH hs h1⟩
def dU:Kind aA where
 size:=4
 is:=fun B w c a=>∃v u,c=[.bool a.head.no,.string (bs a.head.name),v,u]∧dL.sl B w v a.head.terms∧bU.sl B w u a.body
 len:=fun⟨v,u,h,_,_⟩=>by subst h;rfl
 one:=fun⟨v,x,h,hs,hb⟩ u hu=>by
  subst h;obtain⟨a,cap,rfl⟩:=Kind.slice hs;obtain⟨a,cap,rfl⟩:=Kind.slice hb;simp at hu;rcases hu with rfl|rfl|rfl|rfl <;> rfl
 kept:=fun⟨v,u,h,hs,hb⟩ h1 h2=>⟨v,u,h,Kind.aM hs h1 h2,Kind.aM hb h1 h2⟩
 mono:=fun⟨v,u,h,hs,hb⟩ h1=>⟨v,u,h,Kind.aH hs h1,Kind.aH hb h1⟩
def Kind.val (K:Kind α) (lo:Nat) (w:World) (v:Value) (a:α):Prop:=∃c,v=.agg c.toArray∧K.is (From lo) w c a
theorem Kind.fC {α:Type} {K:Kind α} {B:Nat→Prop} {w:World} {a:Option Addr} {n cap i:Nat} {l:List α} {x:α} (h:K.sl B w (.slice a n cap) l) (hi:l[i]?=some x):
  ∃b off c,a=some ⟨b,off,none⟩∧b<w.heap.size∧K.is B w c x∧∀j u,c[j]?=some u→w.cell? ⟨b,off+i*K.size+j,none⟩=some u:=by
 obtain⟨_,a',cap',e,h1⟩:=h;simp only[Value.slice.injEq] at e;obtain⟨rfl,_,_⟩:=e;obtain⟨b,off,rfl,_,hb,hc⟩:=h1 (by intro e;rw[e] at hi;simp at hi);obtain⟨c,c1,c2⟩:=hc i x hi;exact⟨b,off,c,rfl,hb,c1,c2⟩
abbrev bZ:Nat→Prop:=fun _=>True
theorem Kind.dz {α:Type} {K:Kind α} {B:Nat→Prop} {w:World} {v:Value} {l:List α} (h:K.sl B w v l):K.sl bZ w v l:=Kind.aH h fun _ _ _=>trivial
theorem Kind.aQ {α:Type} {K:Kind α} {w w':World} {v:Value} {l:List α} (h:K.sl bZ w v l) (k:Later w w'):K.sl bZ w' v l:=Kind.aM h k.size fun _ hi _=>k.block hi
theorem Kind.aY {α:Type} {K:Kind α} {w w':World} {v:Value} {l:List α} (h:K.sl bZ w v l) (k:Below w.heap.size w w'):K.sl bZ w' v l:=Kind.aM h k.size fun i hi _=>k.block i hi
end Go.Proofs.YtafmbokfkbccaaaGreatDoor
namespace Go.Proofs.YtafmbokfkbccaaaGreatDoor
def eY (l:List Bs) (s:Bs):List Bs:=if l.contains s then l else l++[s]
def cO (l:List Bs) (ts:List dH):List Bs:=ts.foldl (fun l t=>if t.1 then eY l t.2 else l) l
def vars (a:aF):List Bs:=cO [] a.terms
def bN (t:dH):Bool:=if t.1 then !isVar t.2 else !isNamed t.2
def aR (a:aF):Int:=if isNamed a.name=false then 7 else if 4<a.terms.length then 5 else if a.terms.any bN then 7 else 0
def givenBy (l:List aF) (s:Bs):Bool:=l.any fun a=> !a.no&&(vars a).contains s
def bG:List aF→Int
 |[]=>0
 |a::l=>if aR a=0 then bG l else aR a
def aO (l:List aF):Int:=if 5<l.length then 5 else if bG l=0 then(if l.all (fun a=>(vars a).all (givenBy l)) then 0 else 9) else bG l
abbrev fI:=Bs→Option Nat
def fI.put (m:fI) (s:Bs) (n:Nat):fI:=fun t=>if t=s then some n else m t
def dA (m:fI) (a:aF):Bool×fI:=match m a.name with
 |none=>(true,m.put a.name a.terms.length)
 |some n=>(decide (n=a.terms.length),m)
def fitAll:fI→List aF→Bool×fI
 |m,[]=>(true,m)
 |m,a::l=>if(dA m a).1 then fitAll (dA m a).2 l else(false,(dA m a).2)
def bf (m:fI) (r:aA):Int×fI:=
 if aR r.head=0 then
  if r.head.no then(2,m) else
  if aO r.body=0 then
   if(vars r.head).all (givenBy r.body) then
    if(dA m r.head).1 then(if(fitAll (dA m r.head).2 r.body).1 then 0 else 8,(fitAll (dA m r.head).2 r.body).2) else(8,(dA m r.head).2)
   else(9,m)
  else(aO r.body,m)
 else(aR r.head,m)
def jC:fI→Nat→List aA→Int×Nat
 |_,_,[]=>(0,0)
 |m,i,r::l=>if(bf m r).1=0 then jC (bf m r).2 (i+1) l else((bf m r).1,i)
def gX (p:List aA):Int×Nat:=if 16<p.length then(5,0) else jC (fun _=>none) 0 p
def behind (m:fI) (a:aF):Nat:=match m a.name with
 |none=>0
 |some n=>if a.no then n+1 else n
def numOf (m:fI) (s:Bs):Nat:=(m s).getD 0
def bI (h:Bs) (x:fI×Bool) (a:aF):fI×Bool:=if numOf x.1 h<behind x.1 a then(x.1.put h (behind x.1 a),true) else x
def jK (x:fI×Bool) (r:aA):fI×Bool:=r.body.foldl (bI r.head.name) x
def liftAll (x:fI×Bool) (p:List aA):fI×Bool:=p.foldl jK x
def j6 (m:fI) (p:List aA):fI:=p.foldl (fun m r=>m.put r.head.name 0) m
def start (p:List aA):fI:=j6 (fun _=>none) p
def iw (p:List aA):Nat→fI→Option fI
 |0,_=>none
 |n+1,m=>if(liftAll (m,false) p).2 then iw p n (liftAll (m,false) p).1 else some (liftAll (m,false) p).1
def each (m:fI) (p:List aA):List Nat:=p.map fun r=>numOf m r.head.name
def aG (p:List aA):List Nat×Int×Nat:=
 if(gX p).1=0 then match iw p (p.length+1) (start p) with
  |some m=>(each m p,0,0)
  |none=>([],10,0)
 else([],gX p)
def oL (p:List aA) (s:Bs):Prop:=∃r∈p,r.head.name=s
def step (a:aF):Nat:=if a.no then 1 else 0
def Sol (p:List aA) (σ:Bs→Nat):Prop:=∀r∈p,∀a∈r.body,oL p a.name→σ a.name+step a≤σ r.head.name
def Bz (p:List aA) (m:fI):Prop:=∀s,(m s).isSome↔oL p s
def rD (p:List aA) (m:fI):Prop:=∀σ,Sol p σ→∀s,numOf m s≤σ s
theorem zo {p:List aA} {m:fI} (hd:Bz p m) (a:aF) (h:oL p a.name):behind m a=numOf m a.name+step a:=by
 unfold behind numOf step;have:=(hd a.name).2 h;obtain⟨n,hn⟩:=Option.isSome_iff_exists.1 this;rw[hn];cases a.no <;> simp
theorem BQ {p:List aA} {m:fI} (hd:Bz p m) (a:aF) (h:¬oL p a.name):behind m a=0:=by
 unfold behind;have:m a.name=none:=by
  cases e:m a.name with
  |none=>rfl
  |some n=>exact absurd ((hd a.name).1 (by rw[e];rfl)) h
 rw[this]
theorem kF (m:fI) (s t:Bs) (n:Nat):numOf (m.put s n) t=if t=s then n else numOf m t:=by
 unfold numOf fI.put
 by_cases h:t=s <;> simp[h]
theorem Bz.put {p:List aA} {m:fI} (hd:Bz p m) {s:Bs} (hs:oL p s) (n:Nat):Bz p (m.put s n):=by
 intro t;unfold fI.put
 by_cases h:t=s
 ·subst h;simp[hs]
 ·rw[if_neg h];exact hd t
theorem xQ {p:List aA} {r:aA} (hr:r∈p) {x:fI×Bool} (hd:Bz p x.1) (hl:rD p x.1) {a:aF} (ha:a∈r.body):
  Bz p (bI r.head.name x a).1∧rD p (bI r.head.name x a).1∧∀s,numOf x.1 s≤numOf (bI r.head.name x a).1 s:=by
 unfold bI;split
 ·rename_i hlt;refine⟨hd.put ⟨r,hr,rfl⟩ _,fun σ hσ s=> ?_,fun s=> ?_⟩
  ·show numOf (x.1.put _ _) s≤_;rw[kF];split
   ·rename_i h;subst h
    by_cases hh:oL p a.name
    ·rw[zo hd a hh];have h1:=hσ r hr a ha hh;have h2:=hl σ hσ a.name;omega
    ·rw[BQ hd a hh];omega
   ·exact hl σ hσ s
  ·show _≤numOf (x.1.put _ _) s;rw[kF];split
   ·rename_i h;subst h;omega
   ·exact Nat.le_refl _
 ·exact⟨hd,hl,fun _=>Nat.le_refl _⟩
theorem xR {p:List aA} {r:aA} (hr:r∈p) (l:List aF):∀{x:fI×Bool},Bz p x.1→rD p x.1→(∀a∈l,a∈r.body)→
  Bz p (l.foldl (bI r.head.name) x).1∧rD p (l.foldl (bI r.head.name) x).1∧∀s,numOf x.1 s≤numOf (l.foldl (bI r.head.name) x).1 s:=by
 induction l with
 |nil=>intro x hd hl _;exact⟨hd,hl,fun _=>Nat.le_refl _⟩
 |cons a l ih=>
  intro x hd hl ha;obtain⟨d1,l1,u1⟩:=xQ hr hd hl (ha a (by simp));obtain⟨d2,l2,u2⟩:=ih d1 l1 (fun b hb=>ha b (by simp[hb]));exact⟨d2,l2,fun s=>Nat.le_trans (u1 s) (u2 s)⟩
theorem zq {p:List aA} (l:List aA):∀{x:fI×Bool},Bz p x.1→rD p x.1→(∀r∈l,r∈p)→
  Bz p (liftAll x l).1∧rD p (liftAll x l).1∧∀s,numOf x.1 s≤numOf (liftAll x l).1 s:=by
 induction l with
 |nil=>intro x hd hl _;exact⟨hd,hl,fun _=>Nat.le_refl _⟩
 |cons r l ih=>
  intro x hd hl hr;obtain⟨d1,l1,u1⟩:=xR (hr r (by simp)) r.body hd hl (fun a h=>h);obtain⟨d2,l2,u2⟩:=ih d1 l1 (fun b hb=>hr b (by simp[hb]));exact⟨d2,l2,fun s=>Nat.le_trans (u1 s) (u2 s)⟩
theorem xS (h:Bs) (x:fI×Bool) (a:aF) (hx:x.2=true):(bI h x a).2=true:=by unfold bI;split <;> simp[hx]
theorem oM (h:Bs) (l:List aF):∀x:fI×Bool,x.2=true→(l.foldl (bI h) x).2=true:=by
 induction l with
 |nil=>intro x hx;exact hx
 |cons a l ih=>intro x hx;exact ih _ (xS h x a hx)
theorem zu (l:List aA):∀x:fI×Bool,x.2=true→(liftAll x l).2=true:=by
 induction l with
 |nil=>intro x hx;exact hx
 |cons r l ih=>intro x hx;exact ih _ (oM _ _ x hx)
theorem xU (h:Bs) (l:List aF):∀m:fI,(l.foldl (bI h) (m,false)).2=false→l.foldl (bI h) (m,false)=(m,false)∧∀a∈l,behind m a≤numOf m h:=by
 induction l with
 |nil=>intro m _;exact⟨rfl,by simp⟩
 |cons a l ih=>
  intro m hm;rw[List.foldl_cons] at hm⊢
  by_cases hlt:numOf m h<behind m a
  ·have:(bI h (m,false) a).2=true:=by unfold bI;rw[if_pos hlt]
   rw[oM h l _ this] at hm;cases hm
  ·have e:bI h (m,false) a=(m,false):=by unfold bI;rw[if_neg hlt]
   rw[e] at hm⊢;obtain⟨h1,h2⟩:=ih m hm;refine⟨h1,fun b hb=> ?_⟩;rcases List.mem_cons.1 hb with rfl|hb
   ·omega
   ·exact h2 b hb
theorem zw (l:List aA):∀m:fI,(liftAll (m,false) l).2=false→liftAll (m,false) l=(m,false)∧∀r∈l,∀a∈r.body,behind m a≤numOf m r.head.name:=by
 induction l with
 |nil=>intro m _;exact⟨rfl,by simp⟩
 |cons r l ih=>
  intro m hm;unfold liftAll at hm⊢;rw[List.foldl_cons] at hm⊢;have h0:(jK (m,false) r).2=false:=by
   cases hc:(jK (m,false) r).2 with
   |false=>rfl
   |true=>have:=zu l _ hc;unfold liftAll at this;rw[this] at hm;cases hm
  obtain⟨e,h1⟩:=xU _ _ m h0;have e':jK (m,false) r=(m,false):=e;rw[e'] at hm⊢;obtain⟨h2,h3⟩:=ih m hm;refine⟨h2,fun q hq=> ?_⟩;rcases List.mem_cons.1 hq with rfl|hq
  ·exact h1
  ·exact h3 q hq
theorem BR (l:List aA):∀(m:fI) (s:Bs),(j6 m l s).isSome↔((m s).isSome∨oL l s):=by
 induction l with
 |nil=>intro m s;simp[j6,oL]
 |cons r l ih=>
  intro m s;show(j6 (m.put r.head.name 0) l s).isSome↔_;rw[ih];unfold fI.put oL
  by_cases h:s=r.head.name
  ·subst h;simp
  ·have h':¬r.head.name=s:=fun e=>h e.symm;simp[h,h']
theorem zx (l:List aA):∀(m:fI),(∀s,numOf m s=0)→∀s,numOf (j6 m l) s=0:=by
 induction l with
 |nil=>intro m h;exact h
 |cons r l ih=>
  intro m h;exact ih _ fun s=>by rw[kF];split <;> simp[h]
theorem F9 (p:List aA):Bz p (start p):=fun s=>by unfold start;rw[BR];simp
theorem vP (p:List aA) (s:Bs):numOf (start p) s=0:=zx p _ (fun _=>rfl) s
theorem BS (p:List aA):rD p (start p):=fun σ _ s=>by rw[vP];exact Nat.zero_le _
theorem xV {p:List aA}:∀(n:Nat) (m m':fI),Bz p m→rD p m→iw p n m=some m'→Bz p m'∧rD p m'∧∀r∈p,∀a∈r.body,behind m' a≤numOf m' r.head.name:=by
 intro n
 induction n with
 |zero=>intro m m' _ _ h;cases h
 |succ n ih=>
  intro m m' hd hl h;unfold iw at h;split at h
  ·obtain⟨d1,l1,_⟩:=zq p hd hl (x:=(m,false)) (fun _ h=>h);exact ih _ _ d1 l1 h
  ·rename_i hf;obtain⟨e,h1⟩:=zw p m (by simpa using hf);rw[e] at h;cases h;exact⟨hd,hl,h1⟩
theorem NW {p:List aA} {m:fI} (hd:Bz p m) (h:∀r∈p,∀a∈r.body,behind m a≤numOf m r.head.name):Sol p (numOf m):=fun r hr a ha hh=>by
 rw[←zo hd a hh];exact h r hr a ha
theorem kG {p:List aA} {l:List Nat} {k:Nat} (h:aG p=(l,0,k)):(gX p).1=0∧∃m,l=each m p∧Bz p m∧rD p m∧Sol p (numOf m):=by
 unfold aG at h;split at h
 ·rename_i h0;split at h
  ·rename_i m hm;obtain⟨d,le,s⟩:=xV _ _ _ (F9 p) (BS p) hm;simp at h;exact⟨h0,m,h.1.symm,d,le,NW d s⟩
  ·simp at h
 ·rename_i h0;rw[Prod.mk.injEq] at h;exact absurd (congrArg Prod.fst h.2) h0
theorem NY {p:List aA} {m:fI} (hl:rD p m) (hs:Sol p (numOf m)) (k:Nat) (hk:∀r∈p,numOf m r.head.name≠k):∀r∈p,numOf m r.head.name<k:=by
 intro r hr;have hσ:Sol p (fun s=>if numOf m s>k then numOf m s-1 else numOf m s):=by
  intro q hq a ha hh;have h1:=hs q hq a ha hh;have h2:=hk q hq;obtain⟨q',hq',e'⟩:=hh;have h3:=hk q' hq';rw[e'] at h3;have h4:step a≤1:=by unfold step;split <;> omega
  show(if numOf m a.name>k then _ else _)+_≤(if numOf m q.head.name>k then _ else _);split <;> split <;> omega
 have h1:numOf m r.head.name≤(if numOf m r.head.name>k then numOf m r.head.name-1 else numOf m r.head.name):=hl _ hσ r.head.name;have h2:=hk r hr;split at h1 <;> omega
theorem NZ {p:List aA} {f g:aA→Nat} (h:∀r∈p,f r≤g r):(p.map f).sum≤(p.map g).sum:=by
 induction p with
 |nil=>simp
 |cons a p ih=>
  have:=ih fun r hr=>h r (by simp[hr]);have:=h a (by simp);simp;omega
theorem sum_lt {p:List aA} {f g:aA→Nat} (h:∀r∈p,f r≤g r) (hx:∃r∈p,f r<g r):(p.map f).sum<(p.map g).sum:=by
 induction p with
 |nil=>obtain⟨r,hr,_⟩:=hx;simp at hr
 |cons a p ih=>
  have h1:=NZ fun r hr=>h r (List.mem_cons_of_mem a hr);have h2:=h a (by simp);obtain⟨r,hr,hlt⟩:=hx;rcases List.mem_cons.1 hr with rfl|hr
  ·simp;omega
  ·have:=ih (fun r hr=>h r (by simp[hr])) ⟨r,hr,hlt⟩;simp;omega
def settled (p:List aA) (τ:Bs→Nat) (m:fI):Nat:=(p.map fun r=>if numOf m r.head.name=τ r.head.name then 1 else 0).sum
end Go.Proofs.YtafmbokfkbccaaaGreatDoor
