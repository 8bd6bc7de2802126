import Derived.Test.YtafmbokfkbccaaaGreatDoorJB33
import Derived.Test.YtafmbokfkbccaaaGreatDoorJB20
import Derived.BigQuiet
import Derived.Test.YtafmbokfkbccaaaGreatDoorJB21
import Derived.Test.YtafmbokfkbccaaaGreatDoorJB3
import Derived.Laws.Rows
namespace Go.Proofs.YtafmbokfkbccaaaGreatDoor
open Go.RowKit Go.Sort Go.Maps
def UN (K N:List aj) (r:aA) (acc:List aj) (mb:Nat) (kv nv:Value) (er:Int) (w:World):Prop:=match JO K N r acc with
 |none=>er=4
 |some acc'=>er=0∧∃D',MkB mb kv nv D' w∧Ai K D' acc'
end Go.Proofs.YtafmbokfkbccaaaGreatDoor
namespace Go.Proofs.YtafmbokfkbccaaaGreatDoor
open Go.RowKit Go.Sort Go.Maps
def R8 (b:Nat) (w:World) (v:Value) (er:Int) (p:List aA) (ss:List Nat) (r:nO):Prop:=match fV r.known r.fresh r.level p ss [] with
 |none=>v=.slice none 0 0∧er=4
 |some acc=>er=0∧∃D,gT w b v D∧Ai r.known D acc
end Go.Proofs.YtafmbokfkbccaaaGreatDoor
namespace Go.Proofs.YtafmbokfkbccaaaGreatDoor
open Go.RowKit Go.Sort Go.Maps
def Qr (w:World) (v:Value) (r:nO):Prop:=∃kv nv,v=.agg #[kv,nv,.int .i64 r.level,.int .i64 r.rounds,.bool r.done]∧Facts w kv r.known∧Facts w nv r.fresh
def Jo (b:Nat) (w:World) (v:Value) (r:nO):Prop:=∃kv nv,v=.agg #[kv,nv,.int .i64 r.level,.int .i64 r.rounds,.bool r.done]∧gT w b kv r.known∧gT w b nv r.fresh
theorem Jo.none (b:Nat) (w:World):Jo b w (.agg #[.slice none 0 0,.slice none 0 0,.int .i64 0,.int .i64 0,.bool false]) pq:=⟨_,_,rfl,gT.nil _ _,gT.nil _ _⟩
theorem Qr.below {w w':World} {v:Value} {r:nO} (h:Qr w v r) (k:Below w.heap.size w w'):Qr w' v r:=by
 obtain⟨kv,nv,h1,h2,h3⟩:=h;exact⟨kv,nv,h1,h2.below k,h3.below k⟩
theorem Jo.stay {b:Nat} {w w':World} {v:Value} {r:nO} (h:Jo b w v r) (hs:w.heap.size≤w'.heap.size) (hk:∀k,k<w.heap.size→b≤k→w'.heap[k]?=w.heap[k]?):Jo b w' v r:=by
 obtain⟨kv,nv,h1,h2,h3⟩:=h;exact⟨kv,nv,h1,h2.stay hs hk,h3.stay hs hk⟩
theorem Jo.base {b b':Nat} {w:World} {v:Value} {r:nO} (h:Jo b w v r) (hb:b'≤b):Jo b' w v r:=by
 obtain⟨kv,nv,h1,h2,h3⟩:=h;exact⟨kv,nv,h1,h2.base hb,h3.base hb⟩
def OJ (w:World) (R:Nat) (x0 x1 x2 x3 x4:Value):World:=((((w.setCell ⟨R,0,none⟩ x0).setCell ⟨R,1,none⟩ x1).setCell ⟨R,2,none⟩ x2).setCell ⟨R,3,none⟩ x3).setCell ⟨R,4,none⟩ x4
theorem gT.put {base R j:Nat} {w:World} {v x:Value} {l:List aG} (h:gT w base v l) (hR:R<base):gT (w.setCell ⟨R,j,none⟩ x) base v l:=
 h.stay (by rw[size_setCell];exact Nat.le_refl _) fun k _ hk=>heap_setCell_other _ _ _ (by show k≠R;omega)
theorem gT.OJ {base R:Nat} {w:World} {v x0 x1 x2 x3 x4:Value} {l:List aG} (h:gT w base v l) (hR:R<base):gT (OJ w R x0 x1 x2 x3 x4) base v l:=
 ((((h.put hR).put hR).put hR).put hR).put hR
theorem Below.put {n R j:Nat} {a b:World} {x:Value} (h:Below n a b) (hR:n≤R):Below n a (b.setCell ⟨R,j,none⟩ x):=h.setCell hR x
theorem Below.OJ {n R:Nat} {a b:World} {x0 x1 x2 x3 x4:Value} (h:Below n a b) (hR:n≤R):Below n a (OJ b R x0 x1 x2 x3 x4):=
 ((((Below.put h hR).setCell hR _).setCell hR _).setCell hR _).setCell hR _
def Uf (b:Nat) (w:World) (v:Value) (er:Int) (x:Int×nO):Prop:=er=x.1∧Jo b w v x.2
end Go.Proofs.YtafmbokfkbccaaaGreatDoor
namespace Go.Proofs.YtafmbokfkbccaaaGreatDoor
open Go.RowKit Go.Sort
def nL (f:Nat→Nat→Bool):Array Value:=((List.range 64).map fun i=>Value.bool (f (i/8) (i%8))).toArray
theorem mD (f:Nat→Nat→Bool):(nL f).size=64:=by simp[nL]
theorem rX (f:Nat→Nat→Bool) {i:Nat} (h:i<64):(nL f)[i]?=some (.bool (f (i/8) (i%8))):=by simp[nL,h]
theorem DX (f:Nat→Nat→Bool) {a c:Nat} (ha:a<8) (hc:c<8) (v:Bool):(nL f).setIfInBounds (a*8+c) (.bool v)=nL fun x y=>if x=a∧y=c then v else f x y:=by
 refine Array.ext_getElem? fun i=> ?_;rw[Array.getElem?_setIfInBounds,mD]
 by_cases hi:i<64
 ·rw[rX _ hi,rX _ hi]
  by_cases e:a*8+c=i
  ·rw[if_pos e,if_pos (by omega),if_pos (by omega)]
  ·rw[if_neg e,if_neg (by omega)]
 ·rw[if_neg (by omega),Array.getElem?_eq_none (by rw[mD];omega),Array.getElem?_eq_none (by rw[mD];omega)]
theorem Mf (f:Nat→Nat→Bool):∀v∈(nL f).toList,v.oneCell'=true:=by
 intro v hv;simp only[nL,List.mem_map] at hv;obtain⟨_,_,rfl⟩:=hv
 rfl
def Cb (T:TypeId) (w:World) (b:Nat) (f:Nat→Nat→Bool):Prop:=w.heap[b]?=some (.cells (nL f) T (0,0))
theorem Cb.cell {T:TypeId} {w:World} {b a c:Nat} {f:Nat→Nat→Bool} (h:Cb T w b f) (ha:a<8) (hc:c<8):w.cell? ⟨b,a*8+c,none⟩=some (.bool (f a c)):=by
 rw[cell_of_row _ _ _ _ _ _ h,rX _ (by omega),show(a*8+c)/8=a by omega,show(a*8+c)%8=c by omega]
theorem Cb.free {T:TypeId} {w:World} {b j:Nat} {f:Nat→Nat→Bool} (h:Cb T w b f):w.frozen? ⟨b,j,none⟩=false:=by unfold Cb at h;simp[World.frozen?,h]
theorem Cb.lt {T:TypeId} {w:World} {b:Nat} {f:Nat→Nat→Bool} (h:Cb T w b f):b<w.heap.size:=(Array.getElem?_eq_some_iff.1 h).1
theorem Cb.set {T:TypeId} {w:World} {b a c:Nat} {f:Nat→Nat→Bool} (h:Cb T w b f) (ha:a<8) (hc:c<8) (v:Bool):Cb T (w.setCell ⟨b,a*8+c,none⟩ (.bool v)) b fun x y=>if x=a∧y=c then v else f x y:=by
 unfold Cb at*;rw[←DX f ha hc];simp[World.setCell,Array.getElem?_modify,h]
def Gy (b a d c:Nat) (x0 x1 x2:Bool) (w:World):Prop:=(x0=false→w.cell? ⟨b,a*8+d,none⟩=some (.bool x1))∧(x0=false→x1=true→w.cell? ⟨b,d*8+c,none⟩=some (.bool x2))
theorem Gy.one {b a d c:Nat} {x1 x2:Bool} {w:World} (h:Gy b a d c false x1 x2 w):w.cell? ⟨b,a*8+d,none⟩=some (.bool x1):=h.1 rfl
theorem Gy.two {b a d c:Nat} {x2:Bool} {w:World} (h:Gy b a d c false true x2 w):w.cell? ⟨b,d*8+c,none⟩=some (.bool x2):=h.2 rfl rfl
theorem Cb.keep {T:TypeId} {w:World} {b a d c:Nat} {f:Nat→Nat→Bool} (h:Cb T w b f) (ha:a<8) (hd:d<8) (hc:c<8) {u:Bool} (hu:u=(f a c||(f a d&&f d c))):
  Gy b a d c (f a c) (f a d) (f d c) (w.setCell ⟨b,a*8+c,none⟩ (.bool u)):=by
 have h':=h.set ha hc u;subst hu;refine⟨fun h0=> ?_,fun h0 h1=> ?_⟩
 ·rw[h'.cell ha hd]
  by_cases e:d=c
  ·subst e;simp[h0]
  ·simp[e]
 ·rw[h'.cell hd hc]
  by_cases e:d=a
  ·subst e;simp[h0]
  ·simp[e]
end Go.Proofs.YtafmbokfkbccaaaGreatDoor
