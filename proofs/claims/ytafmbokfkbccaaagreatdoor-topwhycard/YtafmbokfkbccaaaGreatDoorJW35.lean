import Derived.Test.YtafmbokfkbccaaaGreatDoorJW20
import Derived.Test.YtafmbokfkbccaaaGreatDoorJW34
import Derived.Test.YtafmbokfkbccaaaGreatDoorJW15
import Derived.Test.YtafmbokfkbccaaaGreatDoorJW3
import Derived.Test.YtafmbokfkbccaaaGreatDoorJW21
import Derived.BigQuiet
import Derived.Test.YtafmbokfkbccaaaGreatDoorJW22
namespace Go.Proofs.YtafmbokfkbccaaaGreatDoor
open Go.RowKit Go.Sort Go.Maps
theorem gN.stay {base:Nat} {w w':World} {v:Value} {l:List aG} (h:gN w base v l) (hs:w.heap.size≤w'.heap.size) (hk:∀k,k<w.heap.size→base≤k→w'.heap[k]?=w.heap[k]?):gN w' base v l:=by
 obtain⟨xs,ho,hx⟩:=h;refine⟨xs,⟨ho.1,?_⟩,fun i hi'=> ?_⟩
 ·rcases ho.2 with e|⟨g,cap,cur,rfl,hbg,hg,r⟩
  ·exact Or.inl e
  ·exact Or.inr ⟨g,cap,cur,rfl,hbg,by rw[hk g (Array.getElem?_eq_some_iff.1 hg).1 hbg];exact hg,r⟩
 ·obtain⟨c1,s,c2,c3,c4⟩:=hx i hi';exact⟨c1,s,c2,c3.kept' hs fun j hj e=>hk j hj (c4 j e).1,fun j e=>⟨(c4 j e).1,Nat.lt_of_lt_of_le (c4 j e).2.1 hs,(c4 j e).2.2⟩⟩
theorem gN.lt {base:Nat} {w:World} {v:Value} {l:List aG} (h:gN w base v l) {k:Nat} (hk:v.ownBlock=some k):base≤k∧k<w.heap.size:=by
 obtain⟨xs,ho,_⟩:=h;exact ho.lt k hk
theorem gN.slice {base:Nat} {w:World} {v:Value} {l:List aG} (h:gN w base v l):∃a cap,v=.slice a l.length cap:=by
 obtain⟨xs,ho,_⟩:=h;rcases ho.2 with⟨rfl,e⟩|⟨g,cap,cur,rfl,_⟩
 ·exact⟨none,0,by rw[e]⟩
 ·exact⟨_,cap,rfl⟩
def MkB (mb:Nat) (kv nv:Value) (D:List aj) (w:World):Prop:=∃dv,w.heap[mb]?=some (.cells #[kv,nv,dv] 280 (0,0))∧gN w (mb+1) dv D
theorem MkB.below {mb:Nat} {kv nv:Value} {D:List aj} {w w':World} (h:MkB mb kv nv D w) (k:Below w.heap.size w w'):MkB mb kv nv D w':=by
 obtain⟨dv,h1,h2⟩:=h;exact⟨dv,(k.block _ (Array.getElem?_eq_some_iff.1 h1).1).trans h1,h2.stay k.size fun j hj _=>k.block j hj⟩
theorem MkB.drewN {mb:Nat} {kv nv:Value} {D:List aj} {w:World} (h:MkB mb kv nv D w) (q:Nat):MkB mb kv nv D (w.drewN q):=h.below ⟨rfl,rfl,rfl,Nat.le_refl _,fun _ _=>rfl⟩
theorem MkB.lt {mb:Nat} {kv nv:Value} {D:List aj} {w:World} (h:MkB mb kv nv D w):mb<w.heap.size:=by
 obtain⟨dv,h1,_⟩:=h;exact(Array.getElem?_eq_some_iff.1 h1).1
def RL (K D L:List aj):List aj:=if K.length+D.length≤200 then eY (D++L.filter fun f=> !inB K f) else D
structure Bl (K D acc:List aj):Prop where
 up:Up D
 of:∀f∈D,f∈acc∧f∉K
 all:K.length+D.length≤200→∀f∈acc,f∉K→f∈D
 few:D.length≤20400
theorem Bl.nil (K:List aj):Bl K [] []:=⟨List.Pairwise.nil,fun _ h=>(by cases h),fun _ _ h=>(by cases h),by simp⟩
theorem Bl.add {K D acc:List aj} (h:Bl K D acc) (L:List aj) (hL:L.length≤20000):Bl K (RL K D L) (acc++L):=by
 unfold RL;split
 ·rename_i hc;have hm:∀f,f∈eY (D++L.filter fun f=> !inB K f)↔f∈D∨(f∈L∧f∉K):=fun f=>by
   rw[bO,List.mem_append,List.mem_filter];refine or_congr Iff.rfl (and_congr Iff.rfl ?_);rw[Bool.not_eq_true',←Bool.not_eq_true,aN]
  refine⟨gF _,fun f hf=> ?_,fun _ f hf hn=> ?_,?_⟩
  ·rcases(hm f).1 hf with h1|⟨h1,h2⟩
   ·exact⟨List.mem_append.2 (Or.inl (h.of f h1).1),(h.of f h1).2⟩
   ·exact⟨List.mem_append.2 (Or.inr h1),h2⟩
  ·rcases List.mem_append.1 hf with h1|h1
   ·exact(hm f).2 (Or.inl (h.all hc f h1 hn))
   ·exact(hm f).2 (Or.inr ⟨h1,hn⟩)
  ·have h1:=mU (D++L.filter fun f=> !inB K f);have h2:=List.length_filter_le (fun f=> !inB K f) L;rw[List.length_append] at h1;omega
 ·rename_i hc;exact⟨h.up,fun f hf=>⟨List.mem_append.2 (Or.inl (h.of f hf).1),(h.of f hf).2⟩,fun h'=>absurd h' hc,h.few⟩
end Go.Proofs.YtafmbokfkbccaaaGreatDoor
namespace Go.Proofs.YtafmbokfkbccaaaGreatDoor
open Go.RowKit Go.Sort Go.Maps
def UK (K N:List aj) (r:aA) (acc:List aj) (mb:Nat) (kv nv:Value) (er:Int) (w:World):Prop:=match Jq K N r acc with
 |none=>er=4
 |some acc'=>er=0∧∃D',MkB mb kv nv D' w∧Bl K D' acc'
end Go.Proofs.YtafmbokfkbccaaaGreatDoor
namespace Go.Proofs.YtafmbokfkbccaaaGreatDoor
open Go.RowKit Go.Sort Go.Maps
def RN (b:Nat) (w:World) (v:Value) (er:Int) (p:List aA) (ss:List Nat) (r:kN):Prop:=match fV r.known r.fresh r.level p ss [] with
 |none=>v=.slice none 0 0∧er=4
 |some acc=>er=0∧∃D,gN w b v D∧Bl r.known D acc
end Go.Proofs.YtafmbokfkbccaaaGreatDoor
namespace Go.Proofs.YtafmbokfkbccaaaGreatDoor
open Go.RowKit Go.Sort Go.Maps
def Qf (w:World) (v:Value) (r:kN):Prop:=∃kv nv,v=.agg #[kv,nv,.int .i64 r.level,.int .i64 r.rounds,.bool r.done]∧Facts w kv r.known∧Facts w nv r.fresh
def I9 (b:Nat) (w:World) (v:Value) (r:kN):Prop:=∃kv nv,v=.agg #[kv,nv,.int .i64 r.level,.int .i64 r.rounds,.bool r.done]∧gN w b kv r.known∧gN w b nv r.fresh
theorem I9.none (b:Nat) (w:World):I9 b w (.agg #[.slice none 0 0,.slice none 0 0,.int .i64 0,.int .i64 0,.bool false]) l7:=⟨_,_,rfl,gN.nil _ _,gN.nil _ _⟩
theorem Qf.below {w w':World} {v:Value} {r:kN} (h:Qf w v r) (k:Below w.heap.size w w'):Qf w' v r:=by
 obtain⟨kv,nv,h1,h2,h3⟩:=h;exact⟨kv,nv,h1,h2.below k,h3.below k⟩
theorem I9.stay {b:Nat} {w w':World} {v:Value} {r:kN} (h:I9 b w v r) (hs:w.heap.size≤w'.heap.size) (hk:∀k,k<w.heap.size→b≤k→w'.heap[k]?=w.heap[k]?):I9 b w' v r:=by
 obtain⟨kv,nv,h1,h2,h3⟩:=h;exact⟨kv,nv,h1,h2.stay hs hk,h3.stay hs hk⟩
theorem I9.base {b b':Nat} {w:World} {v:Value} {r:kN} (h:I9 b w v r) (hb:b'≤b):I9 b' w v r:=by
 obtain⟨kv,nv,h1,h2,h3⟩:=h;exact⟨kv,nv,h1,h2.base hb,h3.base hb⟩
def Oj (w:World) (R:Nat) (x0 x1 x2 x3 x4:Value):World:=((((w.setCell ⟨R,0,none⟩ x0).setCell ⟨R,1,none⟩ x1).setCell ⟨R,2,none⟩ x2).setCell ⟨R,3,none⟩ x3).setCell ⟨R,4,none⟩ x4
theorem gN.put {base R j:Nat} {w:World} {v x:Value} {l:List aG} (h:gN w base v l) (hR:R<base):gN (w.setCell ⟨R,j,none⟩ x) base v l:=
 h.stay (by rw[size_setCell];exact Nat.le_refl _) fun k _ hk=>heap_setCell_other _ _ _ (by show k≠R;omega)
theorem gN.Oj {base R:Nat} {w:World} {v x0 x1 x2 x3 x4:Value} {l:List aG} (h:gN w base v l) (hR:R<base):gN (Oj w R x0 x1 x2 x3 x4) base v l:=
 ((((h.put hR).put hR).put hR).put hR).put hR
theorem Below.put {n R j:Nat} {a b:World} {x:Value} (h:Below n a b) (hR:n≤R):Below n a (b.setCell ⟨R,j,none⟩ x):=h.setCell hR x
theorem Below.Oj {n R:Nat} {a b:World} {x0 x1 x2 x3 x4:Value} (h:Below n a b) (hR:n≤R):Below n a (Oj b R x0 x1 x2 x3 x4):=
 ((((Below.put h hR).setCell hR _).setCell hR _).setCell hR _).setCell hR _
def T9 (b:Nat) (w:World) (v:Value) (er:Int) (x:Int×kN):Prop:=er=x.1∧I9 b w v x.2
end Go.Proofs.YtafmbokfkbccaaaGreatDoor
