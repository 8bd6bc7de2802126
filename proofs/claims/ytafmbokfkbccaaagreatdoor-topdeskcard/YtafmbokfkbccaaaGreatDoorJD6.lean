import Derived.Test.YtafmbokfkbccaaaGreatDoorJD2
import Derived.Deep.LoopGhost
import Derived.BigQuiet
import Derived.Shelf.SlSortCmp.QuietGrown
import Derived.Deep.QuietTactic
import Derived.Test.YtafmbokfkbccaaaGreatDoorJD5
import Derived.Shelf.Strings.BuilderK
import Derived.Test.YtafmbokfkbccaaaGreatDoorJD4
import Derived.RangeFuncNested
import Derived.RangeFuncBound
import Derived.RangeFuncCalls
import Derived.RangeFuncLeaves
import Derived.Shelf.AbstractIn
import Derived.Shelf.Abstract
import Derived.Sort.MapsRangeIn
import Derived.Sort.KeysCollected
import Derived.Maps.OwnIn
import Derived.Maps.AppendAt
import Derived.WalkKit
import Derived.OwnWalkIn
import Derived.TacticsInMore
import Derived.RegionIn
import Derived.LoopNIn
import Derived.LoopIn
namespace Go.Proofs.YtafmbokfkbccaaaGreatDoor
open Go.RowKit Go.Sort
structure Tn (p:Nat) (w w':World):Prop where
 os:w'.os=w.os
 tape:w'.tape=w.tape
 output:w'.output=w.output
 size:w.heap.size≤w'.heap.size
 block:∀k,k<w.heap.size→k≠p→w'.heap[k]?=w.heap[k]?
theorem Tn.refl (p:Nat) (w:World):Tn p w w:=⟨rfl,rfl,rfl,Nat.le_refl _,fun _ _ _=>rfl⟩
theorem Tn.trans {p:Nat} {a b c:World} (h:Tn p a b) (k:Tn p b c):Tn p a c:=
 ⟨k.os.trans h.os,k.tape.trans h.tape,k.output.trans h.output,Nat.le_trans h.size k.size,fun i hi ho=>(k.block i (Nat.lt_of_lt_of_le hi h.size) ho).trans (h.block i hi ho)⟩
theorem Tn.of_below {p:Nat} {a b:World} (h:Below a.heap.size a b):Tn p a b:=⟨h.os,h.tape,h.output,h.size,fun k hk _=>h.block k hk⟩
theorem Tn.below {p n:Nat} {a b:World} (h:Tn p a b) (hp:n≤p) (hn:n≤a.heap.size):Below n a b:=
 ⟨h.os,h.tape,h.output,h.size,fun k hk=>h.block k (by omega) (by omega)⟩
theorem Tn.cell {p:Nat} {a b:World} (h:Tn p a b) {x:Addr} (hx:x.block<a.heap.size) (ho:x.block≠p):b.cell? x=a.cell? x:=World.cell?_of_block (w:=a) (h.block _ hx ho)
theorem Tn.drewN {p:Nat} {a b:World} (h:Tn p a b) (n:Nat):Tn p a (b.drewN n):=⟨h.os,h.tape,h.output,h.size,h.block⟩
theorem Tn.drew {p:Nat} {a b:World} (h:Tn p a b):Tn p a b.drew:=⟨h.os,h.tape,h.output,h.size,h.block⟩
theorem Tn.alloc {p:Nat} {a b:World} (h:Tn p a b) (o:Obj):Tn p a (b.alloc o):=
 h.trans (Tn.of_below (((Later.refl b).alloc o).below))
theorem heap_setCell_other (w:World) (x:Addr) (v:Value) {k:Nat} (h:k≠x.block):(w.setCell x v).heap[k]?=w.heap[k]?:=by
 simp only[World.setCell,Array.getElem?_modify];rw[if_neg (fun e=>h e.symm)]
theorem size_setCell (w:World) (x:Addr) (v:Value):(w.setCell x v).heap.size=w.heap.size:=by simp[World.setCell]
theorem Tn.setCell {p:Nat} {a b:World} (h:Tn p a b) {x:Addr} (hx:x.block=p∨a.heap.size≤x.block) (v:Value):Tn p a (b.setCell x v):=
 ⟨h.os,h.tape,h.output,by rw[size_setCell];exact h.size,fun k hk ho=>by rw[heap_setCell_other _ _ _ (by rcases hx with e|e <;> omega)];exact h.block k hk ho⟩
end Go.Proofs.YtafmbokfkbccaaaGreatDoor
namespace Go.Proofs.YtafmbokfkbccaaaGreatDoor
open Go.RowKit Go.Sort
theorem below_trans {n m:Nat} {a b c:World} (h:Below n a b) (k:Below m b c) (hm:n≤m:=by omega):Below n a c:=
 ⟨k.os.trans h.os,k.tape.trans h.tape,k.output.trans h.output,Nat.le_trans h.size k.size,fun i hi=>(k.block i (Nat.lt_of_lt_of_le hi hm)).trans (h.block i hi)⟩
structure Kind (α:Type) where
 size:Nat
 is:(Nat→Prop)→World→List Value→α→Prop
 len:∀{B:Nat→Prop} {w:World} {c:List Value} {a:α},is B w c a→c.length=size
 one:∀{B:Nat→Prop} {w:World} {c:List Value} {a:α},is B w c a→∀u∈c,u.oneCell'=true
 kept:∀{B:Nat→Prop} {w w':World} {c:List Value} {a:α},is B w c a→w.heap.size≤w'.heap.size→(∀k,k<w.heap.size→B k→w'.heap[k]?=w.heap[k]?)→is B w' c a
 mono:∀{B B':Nat→Prop} {w:World} {c:List Value} {a:α},is B w c a→(∀k,k<w.heap.size→B k→B' k)→is B' w c a
variable {α:Type}
def lenOk:Value→Prop
 | .slice _ n c=>n≤c
 |_=>True
def Kind.sl (K:Kind α) (B:Nat→Prop) (w:World) (v:Value) (l:List α):Prop:=
 (l.length≤8796093022208∧lenOk v)∧∃a cap,v=.slice a l.length cap∧(l≠[]→∃b off,a=some ⟨b,off,none⟩∧B b∧b<w.heap.size∧
  ∀i x,l[i]?=some x→∃c,K.is B w c x∧∀j u,c[j]?=some u→w.cell? ⟨b,off+i*K.size+j,none⟩=some u)
theorem Kind.sl_nil (K:Kind α) (B:Nat→Prop) (w:World) (a:Option Addr) (cap:Nat):K.sl B w (.slice a 0 cap) []:=⟨⟨by simp,Nat.zero_le _⟩,a,cap,rfl,fun h=>absurd rfl h⟩
theorem Kind.sl_kept {K:Kind α} {B:Nat→Prop} {w w':World} {v:Value} {l:List α} (h:K.sl B w v l) (hs:w.heap.size≤w'.heap.size) (hk:∀k,k<w.heap.size→B k→w'.heap[k]?=w.heap[k]?):K.sl B w' v l:=by
 obtain⟨h0,a,cap,rfl,h1⟩:=h;refine⟨h0,a,cap,rfl,fun hl=> ?_⟩;obtain⟨b,off,rfl,hB,hb,hc⟩:=h1 hl;refine⟨b,off,rfl,hB,Nat.lt_of_lt_of_le hb hs,fun i x hx=> ?_⟩;obtain⟨c,c1,c2⟩:=hc i x hx;exact⟨c,K.kept c1 hs hk,fun j u hu=>by rw[World.cell?_of_block (w:=w) (hk b hb hB)];exact c2 j u hu⟩
theorem Kind.sl_mono {K:Kind α} {B B':Nat→Prop} {w:World} {v:Value} {l:List α} (h:K.sl B w v l) (hk:∀k,k<w.heap.size→B k→B' k):K.sl B' w v l:=by
 obtain⟨h0,a,cap,rfl,h1⟩:=h;refine⟨h0,a,cap,rfl,fun hl=> ?_⟩;obtain⟨b,off,rfl,hB,hb,hc⟩:=h1 hl;refine⟨b,off,rfl,hk b hb hB,hb,fun i x hx=> ?_⟩;obtain⟨c,c1,c2⟩:=hc i x hx;exact⟨c,K.mono c1 hk,c2⟩
theorem Kind.slice {K:Kind α} {B:Nat→Prop} {w:World} {v:Value} {l:List α} (h:K.sl B w v l):∃a cap,v=.slice a l.length cap:=by
 obtain⟨_,a,cap,rfl,_⟩:=h;exact⟨a,cap,rfl⟩
abbrev From (lo:Nat):Nat→Prop:=fun k=>lo≤k
theorem Kind.sl_turned {K:Kind α} {p lo:Nat} {w w':World} {v:Value} {l:List α} (h:K.sl (From lo) w v l) (k:Tn p w w') (hp:p<lo):K.sl (From lo) w' v l:=
 Kind.sl_kept h k.size fun i hi hB=>k.block i hi (by have:lo≤i:=hB;omega)
def Kind.own (K:Kind α) (ty:TypeId) (lo:Nat) (w:World) (v:Value) (l:List α):Prop:=
 ∃xs,w.ownsRow lo ty K.size v l.length xs∧∀i x,l[i]?=some x→∃c,K.is (fun k=>lo≤k∧v.ownBlock≠some k) w c x∧∀j u,c[j]?=some u→xs[i*K.size+j]?=some u
theorem Kind.own_nil (K:Kind α) (ty:TypeId) (lo:Nat) (w:World):K.own ty lo w (.slice none 0 0) []:=⟨[],World.ownsRow_nil w lo ty K.size,fun i x h=>by simp at h⟩
theorem Kind.own_turned {K:Kind α} {ty:TypeId} {p lo:Nat} {w w':World} {v:Value} {l:List α} (h:K.own ty lo w v l) (k:Tn p w w') (hp:p<lo):K.own ty lo w' v l:=by
 obtain⟨xs,ho,hx⟩:=h;refine⟨xs,⟨ho.1,?_⟩,fun i x hi=> ?_⟩
 ·rcases ho.2 with e|⟨g,cap,cur,rfl,hbg,hg,r⟩
  ·exact Or.inl e
  ·exact Or.inr ⟨g,cap,cur,rfl,hbg,by rw[k.block g (Array.getElem?_eq_some_iff.1 hg).1 (by omega)];exact hg,r⟩
 ·obtain⟨c,c1,c2⟩:=hx i x hi;exact⟨c,K.kept c1 k.size fun j hj hB=>k.block j hj (by have:=hB.1;omega),c2⟩
theorem Kind.own_lt {K:Kind α} {ty:TypeId} {lo:Nat} {w:World} {v:Value} {l:List α} (h:K.own ty lo w v l) {k:Nat} (hk:v.ownBlock=some k):lo≤k∧k<w.heap.size:=by
 obtain⟨xs,ho,_⟩:=h;exact ho.lt k hk
theorem Kind.own_slice {K:Kind α} {ty:TypeId} {lo:Nat} {w:World} {v:Value} {l:List α} (h:K.own ty lo w v l):∃a cap,v=.slice a l.length cap:=by
 obtain⟨xs,ho,_⟩:=h;rcases ho.2 with⟨rfl,e⟩|⟨g,cap,cur,rfl,_⟩
 ·exact⟨none,0,by rw[e]⟩
 ·exact⟨_,cap,rfl⟩
theorem Kind.own_sl {K:Kind α} {ty:TypeId} {lo:Nat} {w:World} {v:Value} {l:List α} (h:K.own ty lo w v l) (hl:l.length≤8796093022208):K.sl (From lo) w v l:=by
 obtain⟨xs,ho,hx⟩:=h;rcases ho.2 with⟨rfl,e⟩|⟨g,cap,cur,rfl,hbg,hg,hnc,_⟩
 ·have:l=[]:=List.eq_nil_of_length_eq_zero e;subst this;exact K.sl_nil _ _ _ _
 ·refine⟨⟨hl,hnc⟩,_,cap,rfl,fun _=>⟨g,0,rfl,hbg,(Array.getElem?_eq_some_iff.1 hg).1,fun i x hi=> ?_⟩⟩;obtain⟨c,c1,c2⟩:=hx i x hi;refine⟨c,K.mono c1 fun k _ h=>h.1,fun j u hu=> ?_⟩;have:=ho.cells (g:=g) rfl _ u (c2 j u hu);rw[Addr.add_lit] at this;rw[Nat.add_assoc];exact this
theorem Kind.own_one {K:Kind α} {ty:TypeId} {lo:Nat} {w:World} {c:List Value} {x:α} (hc:K.is (From lo) w c x) (hlo:lo≤w.heap.size):K.own ty lo (w.alloc (.cells c.toArray ty)) (.slice (some ⟨w.heap.size,0,none⟩) 1 1) [x]:=by
 refine⟨c,?_,fun i y hi=> ?_⟩
 ·refine⟨by rw[K.len hc];simp,Or.inr ⟨w.heap.size,1,c.toArray,rfl,hlo,?_,by simp,by simp[maxLen],by simp[K.len hc],by have:=K.len hc;simp[←this]⟩⟩;exact heap_alloc_new w _
 ·cases i with
  |zero=>
   simp at hi;subst hi;refine⟨c,K.kept (K.mono hc fun k hk h=>⟨h,by simp[Value.ownBlock];omega⟩) (by simp) fun k hk _=>Below.heap_alloc w _ k hk,fun j u hu=>by rw[Nat.zero_mul,Nat.zero_add];exact hu⟩
  |succ i=>simp at hi
theorem Kind.own_append {P:Program} {K:Kind α} {t ty:TypeId} {lo bytes:Nat} {w:World} {v:Value} {l:List α} (h:K.own ty lo w v l) {i:TypeInfo} {z:Value}
  (ht:P.underlying t=some (.slice ty)) (hi:P.info? ty=some i) (hz:i.zero=some z) (hsize:i.size=K.size) (hby:i.bytes=bytes) (hzs:z.cells.size=K.size) (hsz:0<K.size) (hb:bytes≤100)
  {c:List Value} {x:α} (hc:K.is (fun k=>lo≤k∧v.ownBlock≠some k) w c x) (hl:l.length+1≤1099511627776) (hlo:lo≤w.heap.size):
  ∃v' w',(Builtin.append_ #[t,t] t #[v,.slice (some ⟨w.heap.size,0,none⟩) 1 1]).run P (w.alloc (.cells c.toArray ty))=.ok v' w'∧K.own ty lo w' v' (l++[x])∧(w.alloc (.cells c.toArray ty)).grownBy w' v.ownBlock:=by
 obtain⟨xs,ho,hx⟩:=h;have hcl:=K.len hc;have hnews:∀j u,c[j]?=some u→(w.alloc (.cells c.toArray ty)).cell? ((⟨w.heap.size,0,none⟩:Addr).add j)=some u:=by
  intro j u hu;rw[Addr.add_lit,Nat.zero_add,cell_of_row _ w.heap.size j c.toArray ty (0,0) (heap_alloc_new w _)];simpa using hu
 obtain⟨v',w',hrun,r1,r2,r3,r4⟩:=append_own (P:=P) (w.alloc (.cells c.toArray ty)) lo t t ty i z K.size bytes ht hi hz hsize hby hzs hsz v l.length xs (ho.alloc _) ⟨w.heap.size,0,none⟩ 1 1 c (by rw[hcl];simp) hnews
  (K.one hc) (by simp only[maxLen];omega) (Nat.le_trans (Nat.mul_le_mul hl hb) (by omega)) (by simp;omega)
 have hxl:xs.length=l.length*K.size:=ho.1;have own':∀k,k<w.heap.size→v'.ownBlock=some k→v.ownBlock=some k:=fun k hk e=>by
  rcases r4 k e with e|e
  ·exact e
  ·simp at e;omega
 have keep:∀k,k<w.heap.size→(lo≤k∧v.ownBlock≠some k)→w'.heap[k]?=w.heap[k]?:=fun k hk hB=>
  (r2.block k (by simp;omega) (fun e=>hB.2 e.symm)).trans (Below.heap_alloc w _ k hk)
 have hsz':w.heap.size≤w'.heap.size:=Nat.le_trans (by simp) r2.size;have move:∀{c:List Value} {y:α},K.is (fun k=>lo≤k∧v.ownBlock≠some k) w c y→K.is (fun k=>lo≤k∧v'.ownBlock≠some k) w' c y:=fun {c y} hy=>
  K.kept (K.mono hy fun k hk hB=>(⟨⟨hB.1,fun e=>hB.2 (own' k hk e)⟩,hB⟩:(lo≤k∧v'.ownBlock≠some k)∧(lo≤k∧v.ownBlock≠some k))) hsz' (fun k hk hB=>keep k hk hB.2) |> fun h=>K.mono h fun _ _ hB=>hB.1
 refine⟨v',w',hrun,⟨xs++c,by simpa using r1,fun j y hj=> ?_⟩,r2⟩
 by_cases hjl:j<l.length
 ·rw[List.getElem?_append_left hjl] at hj;obtain⟨d,d1,d2⟩:=hx j y hj;refine⟨d,move d1,fun q u hu=> ?_⟩;have:=d2 q u hu;rw[List.getElem?_append_left (List.getElem?_eq_some_iff.1 this).1];exact this
 ·rw[List.getElem?_append_right (by omega)] at hj;have hj':j=l.length:=by
   have:=(List.getElem?_eq_some_iff.1 hj).1;simp at this;omega
  subst hj';simp at hj;subst hj;refine⟨c,move hc,fun q u hu=> ?_⟩;rw[List.getElem?_append_right (by omega),hxl,Nat.add_sub_cancel_left];exact hu
def termK:Kind TermD where
 size:=2
 is:=fun _ _ c t=>c=[.bool t.1,.string (bs t.2)]
 len:=fun h=>by subst h;rfl
 one:=fun h u hu=>by subst h;simp at hu;rcases hu with rfl|rfl <;> rfl
 kept:=fun h _ _=>h
 mono:=fun h _=>h
def strK:Kind Bs where
 size:=1
 is:=fun _ _ c t=>c=[.string (bs t)]
 len:=fun h=>by subst h;rfl
 one:=fun h u hu=>by subst h;simp at hu;subst hu;rfl
 kept:=fun h _ _=>h
 mono:=fun h _=>h
def atomK:Kind AtomD where
 size:=3
 is:=fun B w c a=>∃v,c=[.bool a.no,.string (bs a.name),v]∧termK.sl B w v a.terms
 len:=fun⟨v,h,_⟩=>by subst h;rfl
 one:=fun⟨v,h,hs⟩ u hu=>by
  subst h;obtain⟨a,cap,rfl⟩:=Kind.slice hs;simp at hu;rcases hu with rfl|rfl|rfl <;> rfl
 kept:=fun⟨v,h,hs⟩ h1 h2=>⟨v,h,Kind.sl_kept hs h1 h2⟩
 mono:=fun⟨v,h,hs⟩ h1=>⟨v,h,Kind.sl_mono hs h1⟩
def ruleK:Kind RuleD where
 size:=4
 is:=fun B w c a=>∃v u,c=[.bool a.head.no,.string (bs a.head.name),v,u]∧termK.sl B w v a.head.terms∧atomK.sl B w u a.body
 len:=fun⟨v,u,h,_,_⟩=>by subst h;rfl
 one:=fun⟨v,x,h,hs,hb⟩ u hu=>by
  subst h;obtain⟨a,cap,rfl⟩:=Kind.slice hs;obtain⟨a,cap,rfl⟩:=Kind.slice hb;simp at hu;rcases hu with rfl|rfl|rfl|rfl <;> rfl
 kept:=fun⟨v,u,h,hs,hb⟩ h1 h2=>⟨v,u,h,Kind.sl_kept hs h1 h2,Kind.sl_kept hb h1 h2⟩
 mono:=fun⟨v,u,h,hs,hb⟩ h1=>⟨v,u,h,Kind.sl_mono hs h1,Kind.sl_mono hb h1⟩
def Kind.val (K:Kind α) (lo:Nat) (w:World) (v:Value) (a:α):Prop:=∃c,v=.agg c.toArray∧K.is (From lo) w c a
theorem Kind.sl_at {α:Type} {K:Kind α} {B:Nat→Prop} {w:World} {a:Option Addr} {n cap i:Nat} {l:List α} {x:α} (h:K.sl B w (.slice a n cap) l) (hi:l[i]?=some x):
  ∃b off c,a=some ⟨b,off,none⟩∧b<w.heap.size∧K.is B w c x∧∀j u,c[j]?=some u→w.cell? ⟨b,off+i*K.size+j,none⟩=some u:=by
 obtain⟨_,a',cap',e,h1⟩:=h;simp only[Value.slice.injEq] at e;obtain⟨rfl,_,_⟩:=e;obtain⟨b,off,rfl,_,hb,hc⟩:=h1 (by intro e;rw[e] at hi;simp at hi);obtain⟨c,c1,c2⟩:=hc i x hi;exact⟨b,off,c,rfl,hb,c1,c2⟩
abbrev Anyw:Nat→Prop:=fun _=>True
theorem Kind.sl_any {α:Type} {K:Kind α} {B:Nat→Prop} {w:World} {v:Value} {l:List α} (h:K.sl B w v l):K.sl Anyw w v l:=Kind.sl_mono h fun _ _ _=>trivial
theorem Kind.sl_later {α:Type} {K:Kind α} {w w':World} {v:Value} {l:List α} (h:K.sl Anyw w v l) (k:Later w w'):K.sl Anyw w' v l:=Kind.sl_kept h k.size fun _ hi _=>k.block hi
theorem Kind.sl_below {α:Type} {K:Kind α} {w w':World} {v:Value} {l:List α} (h:K.sl Anyw w v l) (k:Below w.heap.size w w'):K.sl Anyw w' v l:=Kind.sl_kept h k.size fun i hi _=>k.block i hi
end Go.Proofs.YtafmbokfkbccaaaGreatDoor
namespace Go.Proofs.YtafmbokfkbccaaaGreatDoor
open Go.RowKit Go.Sort Go.Shelf
def bldRen:Go.Shelf.Ren:=⟨fun|166=>228|167=>230|240=>272|276=>316|n=>n,fun|0=>0|3=>3|4=>4|5=>5|9=>9|20=>20|37=>48|70=>295|72=>297|75=>299|80=>138|164=>367|n=>n,fun|n=>n⟩
theorem laysWS:Go.Proofs.Lays.n166 Tryz.prog bldRen:={
 mixed:=by kernel_rfl
 f166:=Tryz.func228.trans (congrArg some (by kernel_rfl))
 f240:=Tryz.func272.trans (congrArg some (by kernel_rfl))
 f276:=Tryz.func316.trans (congrArg some (by kernel_rfl))
 t0:=Tryz.underlying0
 a0:=Tryz.isAgg0
 z0:=Tryz.sizeOf0
 v0:=Tryz.zeroValue0
 t3:=Tryz.underlying3
 a3:=Tryz.isAgg3
 z3:=Tryz.sizeOf3
 v3:=Tryz.zeroValue3
 t4:=Tryz.underlying4
 a4:=Tryz.isAgg4
 z4:=Tryz.sizeOf4
 v4:=Tryz.zeroValue4
 t9:=Tryz.underlying9
 a9:=Tryz.isAgg9
 z9:=Tryz.sizeOf9
 v9:=Tryz.zeroValue9
 t20:=Tryz.underlying20
 a20:=Tryz.isAgg20
 z20:=Tryz.sizeOf20
 v20:=Tryz.zeroValue20
 t37:=Tryz.underlying48
 a37:=Tryz.isAgg48
 z37:=Tryz.sizeOf48
 v37:=Tryz.zeroValue48
 t70:=Tryz.underlying295
 a70:=Tryz.isAgg295
 z70:=Tryz.sizeOf295
 v70:=Tryz.zeroValue295
 t72:=Tryz.underlying297
 a72:=Tryz.isAgg297
 z72:=Tryz.sizeOf297
 v72:=Tryz.zeroValue297
 t75:=Tryz.underlying299
 a75:=Tryz.isAgg299
 z75:=Tryz.sizeOf299
 v75:=Tryz.zeroValue299
 t164:=Tryz.underlying367
 a164:=Tryz.isAgg367
 z164:=Tryz.sizeOf367
 v164:=Tryz.zeroValue367}
theorem laysWB:Go.Proofs.Lays.n167 Tryz.prog bldRen:={
 mixed:=by kernel_rfl
 f167:=Tryz.func230.trans (congrArg some (by kernel_rfl))
 f240:=Tryz.func272.trans (congrArg some (by kernel_rfl))
 f276:=Tryz.func316.trans (congrArg some (by kernel_rfl))
 t0:=Tryz.underlying0
 a0:=Tryz.isAgg0
 z0:=Tryz.sizeOf0
 v0:=Tryz.zeroValue0
 t4:=Tryz.underlying4
 a4:=Tryz.isAgg4
 z4:=Tryz.sizeOf4
 v4:=Tryz.zeroValue4
 t5:=Tryz.underlying5
 a5:=Tryz.isAgg5
 z5:=Tryz.sizeOf5
 v5:=Tryz.zeroValue5
 t9:=Tryz.underlying9
 a9:=Tryz.isAgg9
 z9:=Tryz.sizeOf9
 v9:=Tryz.zeroValue9
 t20:=Tryz.underlying20
 a20:=Tryz.isAgg20
 z20:=Tryz.sizeOf20
 v20:=Tryz.zeroValue20
 t37:=Tryz.underlying48
 a37:=Tryz.isAgg48
 z37:=Tryz.sizeOf48
 v37:=Tryz.zeroValue48
 t70:=Tryz.underlying295
 a70:=Tryz.isAgg295
 z70:=Tryz.sizeOf295
 v70:=Tryz.zeroValue295
 t72:=Tryz.underlying297
 a72:=Tryz.isAgg297
 z72:=Tryz.sizeOf297
 v72:=Tryz.zeroValue297
 t75:=Tryz.underlying299
 a75:=Tryz.isAgg299
 z75:=Tryz.sizeOf299
 v75:=Tryz.zeroValue299
 t164:=Tryz.underlying367
 a164:=Tryz.isAgg367
 z164:=Tryz.sizeOf367
 v164:=Tryz.zeroValue367}
theorem bldExtra:Builder.Extra Tryz.prog bldRen:={
 sizeBuilder:=by kernel_rfl
 liesBuilder:=by kernel_rfl
 t5:=Tryz.underlying5
 a5:=Tryz.isAgg5
 z5:=Tryz.sizeOf5
 v5:=Tryz.zeroValue5
 infoByte:=by kernel_rfl
 cellsByte:=by kernel_rfl
 sizeByte:=by kernel_rfl
 neB5:=by decide}
def BldN (B:Nat) (l:Bs) (w:World):Prop:=Lib.IsBuilderF 297 5 B B (Lib.byteCells l) w
theorem BldN.new (w:World):BldN w.heap.size [] (w.alloc (.cells #[.pointer none,.slice none 0 0] 297)):=
 Lib.IsBuilderF.of (Or.inl ⟨Nat.le_refl _,.slice none 0 0,heap_alloc_new w _,World.ownsRow_nil _ _ _ _,by simp[Value.ownBlock]⟩)
theorem BldN.lt {B:Nat} {l:Bs} {w:World} (h:BldN B l w):B<w.heap.size:=h.elim Lib.BuilderAtF.lt Lib.BuilderAtF.lt
theorem BldN.drewN {B:Nat} {l:Bs} {w:World} (h:BldN B l w) (q:Nat):BldN B l (w.drewN q):=h
theorem writeS (B:Nat) (l x:Bs) (w:World) (h:BldN B l w) (hlen:l.length+x.length≤140737488355328):
  Calls Tryz.prog 228 #[.pointer (some ⟨B,0,none⟩),.string (bs x)] w fun e w'=>e=.returned (.tuple #[.int .i64 x.length,.nilIface])∧BldN B (l++x) w'∧Below B w w'∧Lib.OthersKept 5 (some B) w w':=by
 refine(Any.Builder_WriteString_k laysWS bldExtra B B _ (bs x) w h (by rw[Lib.byteCells_length,size_bs];exact hlen) (Nat.le_of_lt h.lt)).mono ?_;rintro e w' ⟨rfl,h1,h2,h3⟩;refine⟨by rw[size_bs],Or.inr ?_,h2,h3⟩;rw[Lib.byteCells_append];have:Lib.strCells (bs x)=Lib.byteCells x:=rfl;rw[←this];exact h1
theorem writeB (B:Nat) (l:Bs) (c:UInt8) (w:World) (h:BldN B l w) (hlen:l.length+1≤140737488355328):
  Calls Tryz.prog 230 #[.pointer (some ⟨B,0,none⟩),.int .u8 c.toNat] w fun e w'=>e=.returned .nilIface∧BldN B (l++[c]) w'∧Below B w w'∧Lib.OthersKept 5 (some B) w w':=by
 refine(Any.Builder_WriteByte_k laysWB bldExtra B B _ c.toNat w h (by rw[Lib.byteCells_length];exact hlen) (Nat.le_of_lt h.lt)).mono ?_;rintro e w' ⟨rfl,h1,h2,h3⟩;refine⟨rfl,Or.inr ?_,h2,h3⟩;rw[Lib.byteCells_append];have:[Value.int .u8 (c.toNat:Int)]=Lib.byteCells [c]:=rfl;rw[←this];exact h1
theorem stringS (B:Nat) (l:Bs) (w:World) (h:BldN B l w):
  Calls Tryz.prog 231 #[.pointer (some ⟨B,0,none⟩)] w fun e w'=>e=.returned (.string (bs l))∧Below B w w':=by
 refine(Tryz.Builder_String_any_k B B l w h (Nat.le_of_lt h.lt)).mono ?_;rintro e w' ⟨rfl,h1,h2,h3⟩;exact⟨rfl,h2⟩
set_option maxHeartbeats 1000000 in
theorem apart1 (B:Nat) (l s:Bs) (w:World) (h:BldN B l w) (hs:s.length<100) (hl:l.length≤1000000):
  Calls Tryz.prog 227 #[.string (bs s),.pointer (some ⟨B,0,none⟩)] w fun e w'=>(∃v,e=.returned v)∧BldN B (l++partK s) w'∧Below B w w'∧Lib.OthersKept 5 (some B) w w':=by
 have hd:(Lib.decDigits s.length).length≤2:=by
  by_cases h1:s.length<10
  ·rw[Lib.decDigits_one h1];simp
  ·rw[Lib.decDigits_two h1 hs];simp
 have HI:Hid (∀w,Calls Tryz.prog 229 #[.int .i64 (s.length:Nat)] w fun e w'=>e=.returned (.string (bs (Lib.decDigits s.length)))∧w'=w):=fun w=>Tryz.strconv_Itoa_small s.length hs w;have H1:=hide (writeS B l (Lib.decDigits s.length) w h (by omega));have hz:(bs s).size=s.length:=size_bs s
 go_enter Tryz.func227,Tryz.ntmps227
 go_wp2_with fail
 refine(HI.out _).mono ?_;rintro e w1 ⟨rfl,rfl⟩
 go_wp2_with fail
 refine H1.out.mono ?_;rintro e w2 ⟨rfl,hB2,hb2,ho2⟩;have H2:=hide (writeB B _ 32 w2 hB2 (by rw[List.length_append];omega));have Hb2:=hide hb2;have Ho2:=hide ho2;clear hB2 hb2 ho2
 go_wp2_with fail
 refine H2.out.mono ?_;rintro e w3 ⟨rfl,hB3,hb3,ho3⟩;have H3:=hide (writeS B _ s w3 hB3 (by rw[List.length_append,List.length_append,List.length_singleton];omega));have Hb3:=hide hb3;have Ho3:=hide ho3;clear hB3 hb3 ho3
 go_wp2_with fail
 refine H3.out.mono ?_;rintro e w4 ⟨rfl,hB4,hb4,ho4⟩;have HB4:=hide hB4;have Hb4:=hide hb4;have Ho4:=hide ho4;clear hB4 hb4 ho4;go_wp2;go_end0;refine⟨⟨_,rfl⟩,?_,(Hb2.out.trans Hb3.out).trans Hb4.out,(Ho2.out.trans Ho3.out).trans Ho4.out⟩;have e:l++partK s=l++Lib.decDigits s.length++[32]++s:=by simp[partK]
 rw[e];exact HB4.out
def ShortF (f:FactB):Prop:=f.1.size<100∧f.2.length≤4∧∀s∈f.2,s.size<100
theorem partK_len {s:Bs} (h:s.length<100):(partK s).length≤102:=by
 have hd:(Lib.decDigits s.length).length≤2:=by
  by_cases h1:s.length<10
  ·rw[Lib.decDigits_one h1];simp
  ·rw[Lib.decDigits_two h1 h];simp
 unfold partK;rw[List.length_append,List.length_cons];omega
theorem partsK_len:∀{l:List ByteArray},(∀s∈l,s.size<100)→(partsK l).length≤102*l.length
 |[],_=>by simp[partsK]
 |s::l,h=>by
  have h1:=partsK_len (l:=l) fun t ht=>h t (by simp[ht]);have h2:=partK_len (s:=raw s) (by rw[length_raw];exact h s (by simp));simp only[partsK,List.length_append,List.length_cons];omega
theorem keyF_len {f:FactB} (h:ShortF f):(keyF f).length≤510:=by
 have:=partsK_len (l:=f.1::f.2) (fun s hs=>(List.mem_cons.1 hs).elim (fun e=>e▸h.1) (h.2.2 s));have:=h.2.1;simp only[List.length_cons] at*;unfold keyF;omega
set_option maxHeartbeats 1000000 in
theorem apartC (v:Value) (f:FactB) (w:World) (hv:FactV w v f) (hs:ShortF f):
  Calls Tryz.prog 166 #[v] w fun e w'=>e=.returned (.string (bs (keyF f)))∧Below w.heap.size w w':=by
 obtain⟨u,rfl,hu⟩:=hv;obtain⟨n,args⟩:=f;obtain⟨a,cap,rfl⟩:=sliceStr hu;dsimp only at*;have HU:=hide hu;have hl:=hs.2.1;dsimp only at hl;obtain⟨w1,hw1⟩:∃w1,w1=(w.alloc (.cells #[.string n,.slice a args.length cap] 27)).alloc (.cells #[.pointer none,.slice none 0 0] 297):=⟨_,rfl⟩;have hB1:BldN (w.heap.size+1) [] w1:=by
  rw[hw1];have:=BldN.new (w.alloc (.cells #[.string n,.slice a args.length cap] 27));simpa using this
 have hL1:Later w w1:=by rw[hw1];exact((Later.refl w).alloc _).alloc _
 have hA1:w1.heap[w.heap.size]?=some (.cells #[.string n,.slice a args.length cap] 27 (0,0)):=by
  rw[hw1,Below.heap_alloc _ _ _ (by simp)];exact heap_alloc_new w _
 have H1:=hide (apart1 (w.heap.size+1) [] (raw n) w1 hB1 (by rw[length_raw];exact hs.1) (by simp));rw[bs_raw] at H1;have HS:=hide hs;have HB0:=hide hL1.below;have c0:w1.cell? ⟨w.heap.size,0,none⟩=some (.string n):=by rw[cell_of_row _ _ _ _ _ _ hA1];rfl
 have HA1:=hide hA1;rw[hw1] at c0 H1;have hmf:∀(fn:Fn) (first cap:Array Value) (w:World),(Instr.makeFunc fn first cap).run Tryz.prog w=.ok (.func fn first cap) w:=fun _ _ _ _=>rfl;clear hu hs hB1 hL1 hA1
 go_enter Tryz.func166,Tryz.ntmps166
 go_wp2_with fail
 refine H1.out.mono ?_;rintro e w2 ⟨⟨u,rfl⟩,hB2,hb2,ho2⟩;rw[←hw1] at hb2 ho2;have hA2:w2.heap[w.heap.size]?=some (.cells #[.string n,.slice a args.length cap] 27 (0,0)):=ho2 _ _ HA1.out (by simp) (fun c fz e=>by injection e with _ h _;exact absurd h (by decide));have c1:w2.cell? ⟨w.heap.size,1,none⟩=some (.slice a args.length cap):=by rw[cell_of_row _ _ _ _ _ _ hA2];rfl
 have HB2:Hid (BldN (w.heap.size+1) (partsK (n::args.take 0)) w2):=by show BldN _ _ _;simpa[partsK] using hB2
 have HL2:Hid (Below w.heap.size w w2):=HB0.out.trans (hb2.mono (Nat.le_succ _));clear hB2 hb2 ho2 hA2 c0 H1 HA1 hw1 HB0 hmf;go_wp2
 go_loopg [15] args.length (fun k i wr=>∃j:Nat,j+k=args.length∧i=.int .i64 j∧Hid (BldN (w.heap.size+1) (partsK (n::args.take j)) wr)∧Hid (Below w.heap.size w wr))
 case atStart=>exact⟨0,by omega,rfl,HB2,HL2⟩
 case round=>
  obtain⟨j,hj,rfl,HBr,HLr⟩:=hrel
  by_cases hlt:j<args.length
  ·obtain⟨x,hx⟩:∃x,args[j]?=some x:=⟨_,List.getElem?_eq_getElem hlt⟩;have hxm:x∈args:=List.mem_of_getElem? hx;obtain⟨_,a',cap',ea,hc⟩:=HU.out
   injection ea with e1 e2 e3
   subst e1;subst e3;obtain⟨b,off,rfl,hb,hc⟩:=hc (by intro e;rw[e] at hlt;simp at hlt);have d0:wr.cell? ⟨b,off+j,none⟩=some (.string x):=by
    rw[HLr.out.cell (p:=⟨b,off+j,none⟩) hb,hc j hlt,List.getD_eq_getElem?_getD,hx];rfl
   have hx':partsK (n::args.take (j+1))=partsK (n::args.take j)++partK (raw x):=by
    rw[List.take_add_one,hx,←List.cons_append,partsK_append];simp[partsK]
   have hlen:=partsK_len (l:=n::args.take j) (fun s hs=>(List.mem_cons.1 hs).elim (fun e=>e▸HS.out.1) (fun h=>HS.out.2.2 s (List.mem_of_mem_take h)));rw[List.length_cons,List.length_take] at hlen;have HC:=hide (apart1 (w.heap.size+1) _ (raw x) wr HBr.out (by rw[length_raw];exact HS.out.2.2 x hxm) (by omega));rw[←hx',bs_raw] at HC;clear hc hx hx' hlen hxm
   go_wp2_with fail
   refine HC.out.mono ?_;rintro e w4 ⟨⟨u4,rfl⟩,hB4,hb4,_⟩;have HB4:=hide hB4;have Hb4:=hide hb4;clear hB4 hb4;go_wp2
   go_roundg (args.length- (j+1))
   case measure=>omega
   case rel=>exact⟨j+1,by omega,by go_num,HB4,HLr.out.trans (Hb4.out.mono (Nat.le_succ _))⟩
  ·have hj':j=args.length:=by omega
   subst hj';rw[List.take_length] at HBr;have HF:=hide (stringS _ _ wr HBr.out)
   go_wp2_with fail
   refine HF.out.mono ?_;rintro e w5 ⟨rfl,hb5⟩;have Hb5:=hide hb5;clear hb5;go_wp2;go_ret;exact⟨rfl,HLr.out.trans (Hb5.out.mono (Nat.le_succ _))⟩
end Go.Proofs.YtafmbokfkbccaaaGreatDoor
namespace Go.Proofs.YtafmbokfkbccaaaGreatDoor
open Go.RowKit Go.Maps Go.Sort Go.Shelf
attribute [local go_sem] Oper.semAt_some
def AllT (D:DataW Two) (ps:List (Bs×Two)):Prop:=(ps.map (·.1)).Nodup∧(∀x,x∈ps.map (·.1)↔Maps.has D (.string x)=true)∧(∀p∈ps,∀zd,D.atKey (.string p.1) zd=.held p.2)∧ps.length≤Maps.size D
set_option maxRecDepth 100000 in
set_option maxHeartbeats 1000000 in
theorem values1 (n:Nat) (hn:1≤n) (l Bm b nn:Nat) (D0:DataW Two) (J Jx:List Two→World→Prop)
  (hY:∀pre x W,J pre W→pre.length<Maps.size D0→YieldAt Fence.wide (n-1) Tryz.prog l #[encT x] W fun e W'=>
   (e=.returned (.bool true)∧J (pre++[x]) W'∧KeepsWalks W W')∨(e=.returned (.bool false)∧Jx (pre++[x]) W'))
  (W:World) (hJ:AbidesFrom W.heap.size J) (hm:W.cell? ⟨Bm,0,none⟩=some (.map (some b))) (hown:W.ownsMap Tryz.prog 9 twoElem b nn D0) (h0:J [] W):
  CallsIn Fence.wide n Tryz.prog 233 #[.func (.yield l) #[] #[],.pointer (some ⟨Bm,0,none⟩)] W fun e W'=>(∃v,e=.returned v)∧
   ((∃xs,(∃ps,AllT D0 ps∧xs=ps.map (·.2))∧J xs W')∨(∃pre,True∧Jx pre W')):=by
 refine callsIn_of_wp Tryz.func233 rfl trivial ?_ rfl;simp only[Tryz.ntmps233,List.size_toArray,List.length_cons,List.length_nil,Nat.reduceAdd,Nat.reduceSub,Array.replicate_succ,Array.replicate_zero,List.push_toArray,List.append_toArray,List.nil_append,List.cons_append]
 gi_wp2_with (first
  |(gi_at_range;refine wpListIn_range_own _ rfl _ 160 rfl 9 27 (string_keyed Tryz.underlying9) Tryz.underlying160 _ b nn _ rfl hown ?_;intro w0 hrg0 hg0 hs0)
  |gi_in)
 go_frame
 gi_loopw [7] (fun _ wr=>∃(left:Lit→Bool) (cnt:Nat) (ps:List (Bs×Two)),wr.ranges Tryz.prog 9 twoElem b W.heap.size nn D0 left cnt∧ps.length+cnt≤Maps.size D0∧Collected D0 left (ps.map (·.1))∧(∀p∈ps,∀zd,D0.atKey (.string p.1) zd=.held p.2)∧J (ps.map (·.2)) wr)
  (fun _ wr=>wr.rangeLeft b W.heap.size)
 case atStart=>
  exact⟨_,_,[],hrg0,by simp,Collected.start D0,by simp,hJ [] W w0 none h0 hg0 (fun r e=>by cases e)⟩
 case round=>
  obtain⟨left,cnt,ps,hrg,hcs,hC,hV,hJs⟩:=hrel
  gi_wp2_with (first
   |(gi_at_next;refine wpListIn_next_ranges _ rfl _ rfl 9 (string_keyed Tryz.underlying9) twoElem encStr encT (fun key kl hk=>by obtain⟨x,hx,_⟩:=Maps.keyOf_str Tryz.underlying9 hk;exact⟨x,hx⟩) (fun v y hv=>by obtain⟨c,rfl,_⟩:=twoElem_inv hv;exact⟨c,rfl⟩) b W.heap.size nn _ _ _ rfl hrg ?_ ?_)
   |gi_in)
  ·intro hc0 hl0
   gi_wp2
   go_end0;exact⟨⟨_,rfl⟩,.inl ⟨_,⟨ps,⟨hC.1,fun x=>by rw[hC.2 x,hl0];simp,hV,by omega⟩,rfl⟩,hJs⟩⟩
  ·intro x c1 c2 c3 c4 kl yd yp w2 cnt2 hkey hlk hv hat hrg2 hlt hg2 hs2 hen;obtain⟨x',ex,rfl,_⟩:=Maps.keyOf_str Tryz.underlying9 hkey;obtain rfl:x=x':=encStr_inj ex;obtain⟨c',ec,ez⟩:=twoElem_inv hv;obtain rfl:=(encT_inj ec).symm;obtain rfl:yd=.held (c1,c2,c3,c4):=(Prod.mk.inj ez).1;have hJ2:J (ps.map (·.2)) w2:=hJ _ wr w2 (some W.heap.size) hJs hg2 (fun r e=>by cases e;exact⟨Nat.le_refl _,hrg.iter_walk⟩);have hk3:KeepsWalks w2 (w2.alloc (.cells #[.string c1,.slice c2 c3 c4] 27)):=(KeepsOthers.alloc _ _).walks;have hJ3:J (ps.map (·.2)) (w2.alloc (.cells #[.string c1,.slice c2 c3 c4] 27)):=hJ _ w2 _ none hJ2 (World.grownBy_alloc w2 _ none) (fun r e=>by cases e);have hrg3':=hrg2.of_walks hk3;obtain⟨fn,tmps,assign,body,hy,hR⟩:=hY (ps.map (·.2)) (c1,c2,c3,c4) _ hJ3 (by simp;omega);have hen':(Instr.entry (.pointer (some ⟨W.heap.size,0,none⟩))).run Tryz.prog w2=.ok (.tuple #[encStr x,.agg #[.string c1,.slice c2 c3 c4]]) w2:=hen;clear hs2 hen;show wpListIn _ _ _ _ _ _ _ _;unfold encT at hy⊢;dsimp only at hy⊢
   gi_wp2
   refine hR.mono ?_;have hC2:Collected D0 (fun z=>left z&& !z.sameKey (.string x)) ((ps++[(x,(c1,c2,c3,c4))]).map (·.1)):=by simpa using hC.step hlk hat
   have hV2:∀p∈ps++[(x,(c1,c2,c3,c4))],∀zd,D0.atKey (.string p.1) zd=.held p.2:=fun p hp=>(List.mem_append.1 hp).elim (hV p) (fun e=>by simp only[List.mem_singleton] at e;subst e;exact hat);rintro e W3 (⟨rfl,hJ4,hk4⟩|⟨rfl,hJx3⟩)
   ·gi_wp2
    have hrg3:=hrg3'.of_walks hk4
    go_roundw
    case rel=>exact⟨_,cnt2,ps++[(x,(c1,c2,c3,c4))],hrg3,by simp;omega,hC2,hV2,by simpa using hJ4⟩
    case measure=>rw[hrg3.left_eq,hrg.left_eq];exact hlt
   ·gi_wp2
    refine bodyPost_ret (results_none rfl _ _ _) rfl ?_;exact⟨⟨_,rfl⟩,.inr ⟨_,trivial,hJx3⟩⟩
def cellsT (l:List Two):List Value:=l.flatMap fun x=>[.string x.1,.slice x.2.1 x.2.2.1 x.2.2.2]
theorem cellsT_len (l:List Two):(cellsT l).length=l.length*2:=by
 induction l with
 |nil=>rfl
 |cons x l ih=>simp only[cellsT,List.flatMap_cons,List.length_append,List.length_cons,List.length_nil] at ih⊢;omega
theorem cellsT_append (l m:List Two):cellsT (l++m)=cellsT l++cellsT m:=by simp[cellsT]
set_option maxHeartbeats 1000000 in
theorem valuesC (mb:Option Nat) (w:World):
  Calls Tryz.prog 168 #[.map mb] w fun e w'=>e=.returned (.func (.func 233) #[] #[.pointer (some ⟨w.heap.size,0,none⟩)])∧w'=w.alloc (.cells #[.map mb] 160):=by
 go_enter Tryz.func168,Tryz.ntmps168
 go_wp2;go_ret;exact⟨rfl,rfl⟩
theorem values_stops (n:Nat) (hn:1≤n) (Bm b nn:Nat) (D0:DataW Two) (w:World) (hBm:Bm<w.heap.size) (hm:w.cell? ⟨Bm,0,none⟩=some (.map (some b))) (hown:w.ownsMap Tryz.prog 9 twoElem b nn D0):
  SeqStopsK Fence.wide n Tryz.prog 233 #[.pointer (some ⟨Bm,0,none⟩)] (fun x:Two=>#[encT x]) KeepsWalks (fun xs=>∃ps,AllT D0 ps∧xs=ps.map (·.2)) (fun _=>True) (Maps.size D0) w:=
 fun l J Jx W hW hJ _ hY h0=>values1 n hn l Bm b nn D0 J Jx hY W hJ ((hW.cell (p:=⟨Bm,0,none⟩) hBm).trans hm) (owns_block hown (hW.block b hown.lt)) h0
theorem row_own (B:Nat) (t:TypeId) (cs:Array Value) {X Y:World} {row:Option Nat} (h:X.heap[B]?=some (.cells cs t (0,0))) (hg:X.grownBy Y row) (hr:∀r,row=some r→∃o:Obj,X.heap[r]?=some o∧o.isCells=false):Y.heap[B]?=some (.cells cs t (0,0)):=by
 rw[hg.block B (Array.getElem?_eq_some_iff.1 h).1 (fun e=>by obtain⟨o,ho,hc⟩:=hr B e.symm;rw[h] at ho;cases ho;cases hc)];exact h
theorem infoFactV:(Tryz.prog.info? 27).map (fun i=>(i.zero,i.size,i.bytes))=some (some (.agg #[.string {data:=#[]},.slice none 0 0]),2,40):=by kernel_rfl
set_option maxRecDepth 100000 in
set_option maxHeartbeats 2000000 in
theorem appendSeqC (b nn Bm:Nat) (D0:DataW Two) (w:World) (hBm:Bm<w.heap.size) (hm:w.cell? ⟨Bm,0,none⟩=some (.map (some b))) (hown:w.ownsMap Tryz.prog 9 twoElem b nn D0) (hN:Maps.size D0≤3518437208883):
  CallsIn Fence.wide 3 Tryz.prog 232 #[.slice none 0 0,.func (.func 233) #[] #[.pointer (some ⟨Bm,0,none⟩)]] w
   fun e w'=>∃v xs,e=.returned v∧(∃ps,AllT D0 ps∧xs=ps.map (·.2))∧w'.ownsRow w.heap.size 27 2 v xs.length (cellsT xs)∧Below w.heap.size w w':=by
 refine callsIn_of_wp_marks Tryz.func232 rfl trivial ?_ rfl;simp only[Tryz.ntmps232,List.size_toArray,List.length_cons,List.length_nil,Nat.reduceAdd,Nat.reduceSub,Array.replicate_succ,Array.replicate_zero,List.push_toArray,List.append_toArray,List.nil_append,List.cons_append]
 gi_wp2
 have bS:=Boxed.new w 24 (.slice none 0 0);have hB0:Below w.heap.size w (w.alloc (.cells #[.slice none 0 0] 24)):=(Below.refl _ w).alloc (Nat.le_refl _) _;have hsz:(w.alloc (.cells #[.slice none 0 0] 24)).heap.size=w.heap.size+1:=by simp
 obtain⟨W0,hW0⟩:∃W0,w.alloc (.cells #[.slice none 0 0] 24)=W0:=⟨_,rfl⟩;rw[hW0] at bS hB0 hsz⊢;clear hW0;refine wpIn_rangeFunc_ownH rfl (by omega) (gf:=233) (lb:=#[.pointer (some ⟨Bm,0,none⟩)]) rfl trivial (enters_of Tryz.func233 (by kernel_rfl) rfl)
  (values_stops 2 (by omega) Bm b nn D0 W0 (by omega) ((hB0.cell (p:=⟨Bm,0,none⟩) hBm).trans hm) (owns_block hown (hB0.block b hown.lt))) walksK_t walksK_b (Below.refl _ _) (fun _=>rfl)
  (fun pre W=>(∃v,Boxed W w.heap.size 24 v∧W.ownsRow w.heap.size 27 2 v pre.length (cellsT pre)∧True)∧Below w.heap.size w W)
  (fun _ _ _=>False)
  (OwnFrom.and (Own.from (holdsRow_own w.heap.size w.heap.size 24 27 2 (fun pre=>pre.length) (fun pre=>cellsT pre) (fun _ _=>True)) _) (ownFrom_below (Nat.le_refl _) (by omega)))
  (fun _ _ _ _ _ hs _ _=>hs)
  ⟨⟨_,bS,World.ownsRow_nil _ _ _ _,trivial⟩,hB0⟩
  (fun x a' W=>∃Bx,w.heap.size<Bx∧W.heap[Bx]?=some (.cells #[.string x.1,.slice x.2.1 x.2.2.1 x.2.2.2] 27 (0,0))∧a'={tmps:=#[.slice none 0 0,.func (.func 233) #[] #[.pointer (some ⟨Bm,0,none⟩)],.pointer (some ⟨w.heap.size,0,none⟩),undef,.slice none 0 0,.pointer (some ⟨Bx,0,none⟩),.func (.func 233) #[] #[.pointer (some ⟨Bm,0,none⟩)],encT x,undef,undef,undef,undef,undef],defers:=[]})
  (fun x a' _ X Y row hs hg hr=>by obtain⟨Bx,h1,h2,h3⟩:=hs;exact⟨Bx,h1,row_own Bx _ _ h2 hg (fun r e=>(hr r e).2),h3⟩)
  ?assign ?body ?done ?stop
 case assign=>
  rintro l pre ⟨c1,c2,c3,c4⟩ W K ⟨⟨v,bS1,hrow,_⟩,hB1⟩ hK;unfold encT;dsimp only
  gi_wp2
  exact hK _ _ ((KeepsOthers.alloc _ _).from _) ((KeepsOthers.alloc _ _).walks) ⟨⟨v,bS1.alloc _,hrow.alloc _,trivial⟩,hB1.alloc hB1.size _⟩ ⟨W.heap.size,bS1.lt,World.alloc_heap_new W _,rfl⟩
 case body=>
  rintro l pre ⟨c1,c2,c3,c4⟩ a' W hl ⟨r,hr⟩ ⟨⟨v,bS1,hrow,_⟩,hB1⟩ ⟨Bx,hBx,bX,rfl⟩ hlt;have cS:=bS1.cell;have cX0:W.cell? ⟨Bx,0,none⟩=some (.string c1):=by simp[World.cell?,bX]
  have cX1:W.cell? ⟨Bx,1,none⟩=some (.slice c2 c3 c4):=by simp[World.cell?,bX]
  obtain⟨i0,hi,hz0,hz1,hz2⟩:=info_parts infoFactV;have hnew:∀j u,[Value.string c1,Value.slice c2 c3 c4][j]?=some u→(W.alloc (.cells #[.string c1,.slice c2 c3 c4] 27)).cell? (Addr.add ⟨W.heap.size,0,none⟩ j)=some u:=fun j u hj=>by
   have hb:=World.alloc_heap_new W (.cells #[.string c1,.slice c2 c3 c4] 27)
   match j,hj with
   |0,hj=>simp at hj;subst hj;show World.cell? _ ⟨W.heap.size,0,none⟩=_;unfold World.cell?;dsimp only;rw[hb];rfl
   |1,hj=>simp at hj;subst hj;show World.cell? _ ⟨W.heap.size,1,none⟩=_;unfold World.cell?;dsimp only;rw[hb];rfl
  have hone:∀u∈[Value.string c1,Value.slice c2 c3 c4],u.oneCell'=true:=fun u hu=>by
   simp at hu;rcases hu with rfl|rfl <;> rfl
  have hk63:pre.length+1≤maxLen:=by unfold maxLen;omega
  have hkb:(pre.length+1)*40≤140737488355328:=by omega
  have hsW:=hB1.size
  gi_wp2_with (gi_at_builtin;refine wpListIn_append_own _ rfl _ _ 24 rfl w.heap.size 27 i0 (.agg #[.string {data:=#[]},.slice none 0 0]) 2 40 Tryz.underlying24 hi hz0 hz1 hz2 rfl (by decide) _ _ _ rfl (hrow.alloc _) ⟨W.heap.size,0,none⟩ 1 1 [.string c1,.slice c2 c3 c4] rfl rfl hnew hone hk63 hkb (by simp;omega) ?_;intro v' w1 hown' hgrow _;obtain⟨g',cap',rfl⟩:=ownsRow_succ hown';obtain⟨hv1,hv2,hr2,hk2,hb2⟩:=bS1.appended (by decide) hrow hB1.size (Nat.le_refl _) hown' hgrow;have hc1:=hv1.cell;have hf1:=hv1.frozen)
  have hr3:(w1.setCell ⟨w.heap.size,0,none⟩ (.slice (some ⟨g',0,none⟩) (pre.length+1) cap')).ownsRow w.heap.size 27 2 (.slice (some ⟨g',0,none⟩) (pre.length+1) cap') (pre++[((c1,c2,c3,c4):Two)]).length (cellsT (pre++[((c1,c2,c3,c4):Two)])):=by
   rw[cellsT_append,List.length_append];exact hr2
  exact⟨hk2.from _,hk2.walks,⟨_,hv2,hr3⟩,hB1.trans hb2⟩
 case done=>
  rintro D zs W hD hS ⟨⟨v,bS1,hrow,_⟩,hB1⟩ hK;have cS:=bS1.cell
  gi_wp2
  refine⟨by simp,.inl ⟨_,_,rfl,run_takeDeferred hK,?_⟩⟩;exact⟨_,results_tmp rfl _ _ _,v,zs,rfl,hS,ownsRow_putObj hrow _ hK rfl,hB1.trans (belowK_b (w:=w) (Nat.le_refl _) W D _ _ (by omega) hK rfl rfl)⟩
 case stop=>
  rintro D c pre W _ _ h _;exact h.elim
set_option maxHeartbeats 1000000 in
theorem collectC (b nn Bm:Nat) (D0:DataW Two) (w:World) (hBm:Bm<w.heap.size) (hm:w.cell? ⟨Bm,0,none⟩=some (.map (some b))) (hown:w.ownsMap Tryz.prog 9 twoElem b nn D0) (hN:Maps.size D0≤3518437208883):
  Calls Tryz.prog 167 #[.func (.func 233) #[] #[.pointer (some ⟨Bm,0,none⟩)]] w
   fun e w'=>∃v xs,e=.returned v∧(∃ps,AllT D0 ps∧xs=ps.map (·.2))∧w'.ownsRow w.heap.size 27 2 v xs.length (cellsT xs)∧Below w.heap.size w w':=by
 have H:=hide (callsIn_wide.1 (appendSeqC b nn Bm D0 w hBm hm hown hN))
 go_enter Tryz.func167,Tryz.ntmps167
 go_wp2_with fail
 refine H.out.mono ?_;rintro e w1 ⟨v,xs,rfl,h1,h2,h3⟩;have H1:=hide h1;have H2:=hide h2;have H3:=hide h3;clear h1 h2 h3;go_wp2;go_ret;exact⟨v,xs,rfl,H1.out,H2.out,H3.out⟩
theorem strs_below {w w':World} {v:Value} {l:List ByteArray} (h:Strs w v l) (k:Below w.heap.size w w'):Strs w' v l:=by
 obtain⟨h0,a,cap,rfl,h1⟩:=h;refine⟨h0,a,cap,rfl,fun hl=> ?_⟩;obtain⟨b,off,rfl,hb,hc⟩:=h1 hl;exact⟨b,off,rfl,Nat.lt_of_lt_of_le hb k.size,fun i hi=>by rw[k.cell (p:=⟨b,off+i,none⟩) hb];exact hc i hi⟩
theorem factV_below {w w':World} {v:Value} {f:FactD} (h:FactV w v f) (k:Below w.heap.size w w'):FactV w' v f:=by
 obtain⟨s,rfl,h1⟩:=h;exact⟨s,rfl,strs_below h1 k⟩
theorem KnownM.below {P:Program} {K:TypeId} {w w':World} {b n:Nat} {L:List FactB} (h:KnownM P K w b n L) (k:Below w.heap.size w w'):KnownM P K w' b n L:=by
 obtain⟨D,h,h1,h2,h3⟩:=h;exact⟨D,owns_block h (k.block b h.lt),h1,fun f hf=>by obtain⟨x,e,hx⟩:=h2 f hf;exact⟨x,e,factV_below hx k⟩,h3⟩
theorem cellsT_at:∀{l:List Two} {i:Nat} {x:Two},l[i]?=some x→(cellsT l)[i*2]?=some (.string x.1)∧(cellsT l)[i*2+1]?=some (.slice x.2.1 x.2.2.1 x.2.2.2)
 |y::l,0,x,h=>by simp at h;subst h;exact⟨rfl,rfl⟩
 |y::l,i+1,x,h=>by
  simp at h;have:=cellsT_at h;have e:cellsT (y::l)=[.string y.1,.slice y.2.1 y.2.2.1 y.2.2.2]++cellsT l:=rfl;rw[e,show(i+1)*2=2+i*2 by omega,show 2+i*2+1=2+(i*2+1) by omega,List.getElem?_append_right (by simp),List.getElem?_append_right (by simp)];simpa using this
open Classical in
noncomputable def factOf (L:List FactB) (s:Bs):FactB:=if h:∃f∈L,keyF f=s then Classical.choose h else noFact
theorem factOf_key {L:List FactB} {s:Bs} (h:∃f∈L,keyF f=s):factOf L s∈L∧keyF (factOf L s)=s:=by
 unfold factOf;rw[dif_pos h];exact Classical.choose_spec h
theorem known_facts {w w':World} {L:List FactB} {v:Value} {D:DataW Two} {ps:List (Bs×Two)} (h1:∀s,Maps.has D (.string s)=true↔∃f∈L,keyF f=s) (h2:∀f∈L,∃x,D.atKey (.string (keyF f)) .nil=.held x∧FactV w (encT x) f) (h3:Maps.size D≤3518437208883)
  (hA:AllT D ps) (hr:w'.ownsRow w.heap.size 27 2 v (ps.map (·.2)).length (cellsT (ps.map (·.2)))) (hB:Below w.heap.size w w'):∃l:List FactB,(∀f,f∈l↔f∈L)∧Facts w' v l:=by
 have hk:∀p∈ps,∃f∈L,keyF f=p.1:=fun p hp=>(h1 _).1 ((hA.2.1 _).1 (List.mem_map.2 ⟨p,hp,rfl⟩));refine⟨ps.map fun p=>factOf L p.1,fun f=> ?_,?_⟩
 ·rw[List.mem_map]
  constructor
  ·rintro⟨p,hp,rfl⟩;exact(factOf_key (hk p hp)).1
  ·intro hf;obtain⟨p,hp,hpf⟩:=List.mem_map.1 ((hA.2.1 (keyF f)).2 ((h1 _).2 ⟨f,hf,rfl⟩));exact⟨p,hp,keyF_inj ((factOf_key (hk p hp)).2.trans hpf)⟩
 ·have hlen:=hA.2.2.2;refine RowF.facts (base:=w.heap.size) ⟨cellsT (ps.map (·.2)),by simpa using hr,fun i hi=> ?_⟩ (by simp;omega);rw[List.length_map] at hi;obtain⟨p,hp⟩:∃p,ps[i]?=some p:=⟨_,List.getElem?_eq_getElem hi⟩;have hpm:p∈ps:=by obtain⟨_,rfl⟩:=List.getElem?_eq_some_iff.1 hp;exact List.getElem_mem _
  have eg:(ps.map fun p=>factOf L p.1).getD i noFact=factOf L p.1:=by
   rw[List.getD_eq_getElem?_getD,List.getElem?_map,hp];rfl
  rw[eg];obtain⟨c0,c1⟩:=cellsT_at (l:=ps.map (·.2)) (i:=i) (x:=p.2) (by rw[List.getElem?_map,hp];rfl);obtain⟨g1,g2⟩:=factOf_key (hk p hpm);obtain⟨x,hx,s,hs,hS⟩:=h2 _ g1;rw[g2,hA.2.2.1 p hpm] at hx
  injection hx with hx
  subst hx;unfold encT at hs
  injection hs with hs
  have hs':=congrArg Array.toList hs;simp only[List.cons.injEq,Value.string.injEq,and_true] at hs';obtain⟨e1,e2⟩:=hs';refine⟨by rw[c0,e1],s,by rw[c1,e2],strs_below hS hB,fun k hk hne=> ?_⟩;obtain⟨_,a,cap,rfl,hb⟩:=hS;obtain⟨b,off,rfl,hlt,_⟩:=hb hne;simp[Value.ownBlock] at hk;omega
end Go.Proofs.YtafmbokfkbccaaaGreatDoor
