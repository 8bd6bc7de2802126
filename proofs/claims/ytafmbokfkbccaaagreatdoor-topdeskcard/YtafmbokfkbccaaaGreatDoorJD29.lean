import Derived.Test.YtafmbokfkbccaaaGreatDoorJD28
import Derived.Test.YtafmbokfkbccaaaGreatDoorJD9
import Derived.Test.YtafmbokfkbccaaaGreatDoorJD20
import Derived.Defers
import Derived.Recover
import Derived.Test.YtafmbokfkbccaaaGreatDoorJD5
import Derived.Test.YtafmbokfkbccaaaGreatDoorJD27
import Derived.Test.YtafmbokfkbccaaaGreatDoorJD6
import Derived.Test.YtafmbokfkbccaaaGreatDoorJD21
import Derived.Test.YtafmbokfkbccaaaGreatDoorJD15
namespace Go.Proofs.YtafmbokfkbccaaaGreatDoor
open Go.RowKit Go.Sort
def noK:Kind PrfD:={size:=4,is:=fun _ _ _ _=>False,len:=fun h=>h.elim,one:=fun h=>h.elim,kept:=fun h _ _=>h,mono:=fun h _=>h}
def prfS (K:Kind PrfD):Kind PrfD where
 size:=4
 is:=fun B w c x=>∃s kv,c=[.string x.fact.1,s,.int .i64 x.rule,kv]∧bsK.sl B w s x.fact.2∧K.sl B w kv x.kids
 len:=fun⟨s,kv,h,_⟩=>by subst h;rfl
 one:=fun⟨s,kv,h,h1,h2⟩ u hu=>by
  subst h;obtain⟨a,cap,rfl⟩:=Kind.slice h1;obtain⟨a',cap',rfl⟩:=Kind.slice h2;simp at hu;rcases hu with rfl|rfl|rfl|rfl <;> rfl
 kept:=fun⟨s,kv,h,h1,h2⟩ k1 k2=>⟨s,kv,h,Kind.sl_kept h1 k1 k2,Kind.sl_kept h2 k1 k2⟩
 mono:=fun⟨s,kv,h,h1,h2⟩ k1=>⟨s,kv,h,Kind.sl_mono h1 k1,Kind.sl_mono h2 k1⟩
def prfK:Nat→Kind PrfD
 |0=>noK
 |n+1=>prfS (prfK n)
def PrfV (n:Nat) (B:Nat→Prop) (w:World) (v:Value) (x:PrfD):Prop:=∃s kv,v=.agg #[.string x.fact.1,s,.int .i64 x.rule,kv]∧bsK.sl B w s x.fact.2∧(prfK n).sl B w kv x.kids
theorem PrfV.kept {n:Nat} {B:Nat→Prop} {w w':World} {v:Value} {x:PrfD} (h:PrfV n B w v x) (hs:w.heap.size≤w'.heap.size) (hk:∀k,k<w.heap.size→B k→w'.heap[k]?=w.heap[k]?):PrfV n B w' v x:=by
 obtain⟨s,kv,rfl,h1,h2⟩:=h;exact⟨s,kv,rfl,Kind.sl_kept h1 hs hk,Kind.sl_kept h2 hs hk⟩
theorem PrfV.below {n:Nat} {B:Nat→Prop} {w w':World} {v:Value} {x:PrfD} (h:PrfV n B w v x) (k:Below w.heap.size w w'):PrfV n B w' v x:=h.kept k.size fun i hi _=>k.block i hi
theorem PrfV.fact {n:Nat} {B:Nat→Prop} {w:World} {s kv:Value} {x:PrfD} {nm:ByteArray} {r:Int} (h:PrfV n B w (.agg #[.string nm,s,.int .i64 r,kv]) x):FactV w (.agg #[.string nm,s]) x.fact:=by
 obtain⟨s',kv',e,h1,_⟩:=h;simp only[Value.agg.injEq,Array.mk.injEq,List.cons.injEq,Value.string.injEq,and_true] at e;obtain⟨rfl,rfl,_,_⟩:=e;exact⟨_,rfl,sl_strs h1⟩
def RowG {α:Type} (K:Kind α) (ty:TypeId) (B:Nat→Prop) (w0:World) (lo:Nat) (w:World) (v:Value) (l:List (List α)):Prop:=
 ∃xs,w.ownsRow lo ty 1 v l.length xs∧∀(i:Nat) a,l[i]?=some a→∃u,K.sl B w0 u a∧xs[i]?=some u
section
variable {α:Type} {K:Kind α} {ty:TypeId} {B:Nat→Prop} {w0:World} {lo:Nat} {w:World} {v:Value} {l:List (List α)}
theorem RowG.nil (K:Kind α) (ty:TypeId) (B:Nat→Prop) (w0:World) (lo:Nat) (w:World):RowG K ty B w0 lo w (.slice none 0 0) []:=⟨[],World.ownsRow_nil w _ _ _,fun i a h=>by simp at h⟩
theorem RowG.slice (h:RowG K ty B w0 lo w v l):∃a cap,v=.slice a l.length cap:=by
 obtain⟨xs,ho,_⟩:=h;rcases ho.2 with⟨rfl,e⟩|⟨g,cap,cur,rfl,_⟩
 ·exact⟨none,0,by rw[e]⟩
 ·exact⟨_,cap,rfl⟩
theorem RowG.lo_le (h:RowG K ty B w0 lo w v l):∀k,v.ownBlock=some k→lo≤k∧k<w.heap.size:=fun k e=>by
 obtain⟨xs,ho,_⟩:=h;exact ho.lt k e
theorem RowG.kept {w':World} (h:RowG K ty B w0 lo w v l) (hk:∀k,v.ownBlock=some k→w'.heap[k]?=w.heap[k]?):RowG K ty B w0 lo w' v l:=by
 obtain⟨xs,ho,hx⟩:=h;refine⟨xs,⟨ho.1,?_⟩,hx⟩;rcases ho.2 with e|⟨g,cap,cur,rfl,hbg,hg,r⟩
 ·exact Or.inl e
 ·exact Or.inr ⟨g,cap,cur,rfl,hbg,by rw[hk g rfl];exact hg,r⟩
theorem RowG.more {T:TypeId} {i:TypeInfo} (h:RowG K ty B w0 lo w v l) (hT:Tryz.prog.underlying T=some (.slice ty)) (i1:Tryz.prog.info? ty=some i) (i2:i.zero=some (.slice none 0 0)) (i3:i.size=1) (i4:i.bytes=24) (hs:lo≤w.heap.size) {u:Value} {a:List α} (hc:K.sl B w0 u a) (hl:l.length+1≤1099511627776):
  ∃v' w',(Builtin.append_ #[T,T] T #[v,.slice (some ⟨w.heap.size,0,none⟩) 1 1]).run Tryz.prog (w.alloc (.cells #[u] ty))=.ok v' w'∧RowG K ty B w0 lo w' v' (l++[a])∧(w.alloc (.cells #[u] ty)).grownBy w' v.ownBlock∧w.drawn≤w'.drawn:=by
 obtain⟨xs,ho,hx⟩:=h;have hnews:∀j x,([u]:List Value)[j]?=some x→(w.alloc (.cells #[u] ty)).cell? ((⟨w.heap.size,0,none⟩:Addr).add j)=some x:=by
  intro j x hx;rw[Addr.add_lit,Nat.zero_add,cell_of_row _ w.heap.size j #[u] ty (0,0) (heap_alloc_new w _)];simpa using hx
 have hone:∀x∈[u],Value.oneCell' x=true:=by
  intro x hx;simp at hx;subst hx;obtain⟨a,cap,rfl⟩:=Kind.slice hc
  rfl
 obtain⟨v',w',hrun,r1,r2,r3,r4⟩:=append_own (P:=Tryz.prog) (w.alloc (.cells #[u] ty)) lo T T ty i _ 1 24 hT i1 i2 i3 i4 rfl (by omega) v l.length xs (ho.alloc _) ⟨w.heap.size,0,none⟩ 1 1 [u] rfl hnews hone (by simp only[maxLen];omega) (by omega) (by simp;omega);have hxl:xs.length=l.length:=by have:=ho.1;omega
 refine⟨v',w',hrun,⟨xs++[u],by simpa using r1,fun j b hj=> ?_⟩,r2,r3⟩
 by_cases hjl:j<l.length
 ·rw[List.getElem?_append_left hjl] at hj;obtain⟨q,q1,q2⟩:=hx j b hj;exact⟨q,q1,by rw[List.getElem?_append_left (by omega)];exact q2⟩
 ·rw[List.getElem?_append_right (by omega)] at hj;have hj':j=l.length:=by
   have:=(List.getElem?_eq_some_iff.1 hj).1;simp at this;omega
  subst hj';simp at hj;subst hj;exact⟨u,hc,by rw[List.getElem?_append_right (by omega),hxl];simp⟩
theorem RowG.at (h:RowG K ty B w0 lo w v l) {i:Nat} {a:List α} (hi:l[i]?=some a):∃g cap u,v=.slice (some ⟨g,0,none⟩) l.length cap∧g<w.heap.size∧K.sl B w0 u a∧w.cell? ⟨g,i,none⟩=some u:=by
 obtain⟨xs,ho,hx⟩:=h;obtain⟨u,hu,hxu⟩:=hx i a hi;rcases ho.2 with⟨rfl,e⟩|⟨g,cap,cur,rfl,hbg,hg,hnc,_⟩
 ·have:=(List.getElem?_eq_some_iff.1 hi).1;omega
 ·refine⟨g,cap,u,rfl,(Array.getElem?_eq_some_iff.1 hg).1,hu,?_⟩;have:=ho.cells (g:=g) rfl i u hxu;rw[Addr.add_lit] at this;simpa using this
end
end Go.Proofs.YtafmbokfkbccaaaGreatDoor
namespace Go.Proofs.YtafmbokfkbccaaaGreatDoor
open Go.RowKit Go.Sort
set_option maxRecDepth 100000 in
set_option maxHeartbeats 1000000 in
theorem catchAtom (b:Nat) (x y:Int) (u0 u1:Value) (w:World) (c0:w.cell? ⟨b,0,none⟩=some u0) (c1:w.cell? ⟨b,1,none⟩=some u1) (f0:w.frozen? ⟨b,0,none⟩=false) (f1:w.frozen? ⟨b,1,none⟩=false):
  CallsD Tryz.prog 152 #[.pointer (some ⟨b,0,none⟩)] (.panicking [{v:=.iface 220 (.agg #[.int .i64 x,.int .i64 y]),recovered:=false}]) w fun e u' w'=>
   e=.returned (.tuple #[])∧u'=.panicking [{v:=.iface 220 (.agg #[.int .i64 x,.int .i64 y]),recovered:=true}]∧w'=(w.setCell ⟨b,0,none⟩ (.int .i64 x)).setCell ⟨b,1,none⟩ (.int .i64 y):=by
 have hta:∀(v:Value) (w:World),(Instr.typeAssert (.iface 220 v) 20 220 false).run Tryz.prog w=.ok v w:=assertThrown;have hfl:=fieldThrown;refine callsD_of_wpS Tryz.func152 rfl fun c₀ cs hu=> ?_
 apply wpS_seq
 apply wpS_region
 simp[wpOpsS,go_sem,recoverD,hu,Tryz.ntmps152,Exit.thenS];refine wpS_of_wp ?_;go_wp2;simp[bodyPostS,results,Tryz.results152]
set_option maxRecDepth 100000 in
set_option maxHeartbeats 1000000 in
theorem idleAtom (b:Nat) (w:World):
  CallsD Tryz.prog 152 #[.pointer (some ⟨b,0,none⟩)] .returning w fun e u' w'=>e=.returned (.tuple #[])∧u'=.returning∧w'=w:=by
 refine callsD_of_wpS Tryz.func152 rfl fun c₀ cs hu=> ?_
 apply wpS_seq
 apply wpS_region
 simp[wpOpsS,go_sem,recoverD,hu,Tryz.ntmps152,Exit.thenS];refine wpS_of_wp ?_;go_wp2;cases c₀
 simp_all [bodyPostS,results,Tryz.results152]
def toldAtom (s:Bs):List AtomD×Int×Nat:=
 if 3000<s.length then([],4,0) else match onlyBody s with
  | .ok out _=>(out,0,0)
  | .bad n r=>([],n,s.length-r.length)
set_option maxRecDepth 100000 in
set_option maxHeartbeats 2000000 in
theorem readAtom (s:ByteArray) (w:World) (m:Int) (hm:w.cell? ⟨1,0,none⟩=some (.int .i64 m)):
  Calls Tryz.prog 86 #[.string s,.func (.func 87) #[] #[]] w fun e w'=>∃v,e=.returned (.tuple #[v,.agg #[.int .i64 (toldAtom (raw s)).2.1,.int .i64 (toldAtom (raw s)).2.2]])∧atomK.sl (From w.heap.size) w' v (toldAtom (raw s)).1∧Below w.heap.size w w':=by
 have hmf:∀(fn:Fn) (first cap:Array Value) (w:World),(Instr.makeFunc fn first cap).run Tryz.prog w=.ok (.func fn first cap) w:=fun _ _ _ _=>rfl
 by_cases hs:3000<s.size
 ·have HX:Hid (toldAtom (raw s)=([],4,0)):=by show _=_;unfold toldAtom;rw[if_pos (by rw[length_raw];exact hs)]
  have hs':(3000:Int)<s.size:=by omega
  go_enter_defers Tryz.func86,Tryz.ntmps86
  go_wp2;simp only[bodyPostD];refine⟨.tuple #[.slice none 0 0,.agg #[.int .i64 4,.int .i64 0]],by simp[results,Tryz.results86,go_sem],?_⟩;exact⟨_,by rw[HX.out];rfl,by rw[HX.out];exact atomK.sl_nil _ _ _ _,((Later.refl w).alloc _).below⟩
 ·have h0:1<w.heap.size:=World.block_lt_of_cell? w _ hm;have hRd:Rd ((w.alloc (.cells #[.int .i64 0,.int .i64 0] 75)).alloc (.cells #[.string s,.int .i64 0] 224)) (w.heap.size+1) s (raw s):=by
   have hr:((w.alloc (.cells #[.int .i64 0,.int .i64 0] 75)).alloc (.cells #[.string s,.int .i64 0] 224)).heap[w.heap.size+1]?=some (.cells #[.string s,.int .i64 0] 224 (0,0)):=by
    have:=heap_alloc_new (w.alloc (.cells #[.int .i64 0,.int .i64 0] 75)) (.cells #[.string s,.int .i64 0] 224);simpa using this
   refine⟨by omega,List.suffix_refl _,by simp,by omega,by rw[cell_of_row _ _ _ _ _ _ hr];rfl,?_,frozen_row hr,m,?_⟩
   ·rw[cell_of_row _ _ _ _ _ _ hr,pos,length_raw,Nat.sub_self];rfl
   ·rw[(((Later.refl w).alloc (.cells #[.int .i64 0,.int .i64 0] 75)).alloc (.cells #[.string s,.int .i64 0] 224)).cell (p:=⟨1,0,none⟩) h0];exact hm
  have HC:=hide (onlyBodyC _ s _ _ hRd);have hs':¬(3000:Int)<s.size:=by omega
  go_enter_defers Tryz.func86,Tryz.ntmps86
  go_wp2_with fail
  refine HC.out.mono ?_;intro e w1 hE;have hBB:Below w.heap.size w ((w.alloc (.cells #[.int .i64 0,.int .i64 0] 75)).alloc (.cells #[.string s,.int .i64 0] 224)):=(((Later.refl w).alloc _).alloc _).below;have hfr:((w.alloc (.cells #[.int .i64 0,.int .i64 0] 75)).alloc (.cells #[.string s,.int .i64 0] 224)).heap[w.heap.size]?=some (.cells #[.int .i64 0,.int .i64 0] 75 (0,0)):=by
   rw[Below.heap_alloc _ _ _ (by simp)];exact heap_alloc_new w _
  have hsz:((w.alloc (.cells #[.int .i64 0,.int .i64 0] 75)).alloc (.cells #[.string s,.int .i64 0] 224)).heap.size=w.heap.size+2:=by simp
  rw[hsz] at hE;generalize(w.alloc (.cells #[.int .i64 0,.int .i64 0] 75)).alloc (.cells #[.string s,.int .i64 0] 224)=wb at*;obtain⟨hT,⟨a,r,v,hx,rfl,hV,hR⟩|⟨n,r,hx,rfl,hR⟩⟩:=hE.split
  all_goals
   have hrow:=hT.row hfr (b:=w.heap.size) (by omega);have z0:w1.cell? ⟨w.heap.size,0,none⟩=some (.int .i64 0):=by rw[cell_of_row _ _ _ _ _ _ hrow];rfl
   have z1:w1.cell? ⟨w.heap.size,1,none⟩=some (.int .i64 0):=by rw[cell_of_row _ _ _ _ _ _ hrow];rfl
   have f0:=frozen_row (j:=0) hrow;have f1:=frozen_row (j:=1) hrow;have hB1:Below w.heap.size w w1:=⟨hT.os.trans hBB.os,hT.tape.trans hBB.tape,hT.output.trans hBB.output,by have:=hT.size;omega,fun k hk=>(hT.block k (by omega) (by omega)).trans (hBB.block k hk)⟩
  ·have HX:Hid (toldAtom (raw s)=(a,0,0)):=by show _=_;unfold toldAtom;rw[if_neg (by rw[length_raw];exact hs),hx]
   have HV:=hide hV;have HB:=hide hB1;obtain⟨av,cv,rfl⟩:=Kind.slice hV;clear hE hT hx hR hBB hfr hRd HC hB1 hV hrow;go_wp2;refine leaves_cons (f:=152) (args:=#[.pointer (some ⟨w.heap.size,0,none⟩)]) (by simp) (by simp[go_sem]) ?_;refine(idleAtom _ _).mono ?_;rintro e u' w'' ⟨rfl,rfl,rfl⟩;refine⟨.tuple #[.slice av a.length cv,.agg #[.int .i64 0,.int .i64 0]],by simp[results,Tryz.results86,go_sem,z0,z1],_,by rw[HX.out];rfl,?_,?_⟩
   ·rw[HX.out];exact Kind.sl_mono (Kind.sl_turned HV.out (((Tn.refl w.heap.size w1).moved _ _).moved _ _) (by omega)) (fun k _ hB=>by have:w.heap.size+2≤k:=hB;show w.heap.size≤k;omega)
   ·exact(HB.out.setCell (Nat.le_refl _) _).setCell (Nat.le_refl _) _
  ·have HX:Hid (toldAtom (raw s)=([],n,pos s r)):=by show _=_;unfold toldAtom;rw[if_neg (by rw[length_raw];exact hs),hx,length_raw];rfl
   refine leaves_cons (f:=152) (args:=#[.pointer (some ⟨w.heap.size,0,none⟩)]) (by simp) (by simp[go_sem]) ?_;refine(catchAtom _ _ _ _ _ _ z0 z1 f0 f1).mono ?_;rintro e u' w'' ⟨rfl,rfl,rfl⟩;refine⟨.tuple #[.slice none 0 0,.agg #[.int .i64 n,.int .i64 (pos s r)]],by simp[results,Tryz.results86,go_sem,z0,z1],_,by rw[HX.out],?_,?_⟩
   ·rw[HX.out];exact atomK.sl_nil _ _ _ _
   ·exact(hB1.setCell (Nat.le_refl _) _).setCell (Nat.le_refl _) _
set_option maxHeartbeats 1000000 in
theorem bodyFC (s:ByteArray) (w:World) (m:Int) (hm:w.cell? ⟨1,0,none⟩=some (.int .i64 m)):
  Calls Tryz.prog 39 #[.string s] w fun e w'=>∃v,e=.returned (.tuple #[v,.agg #[.int .i64 (toldAtom (raw s)).2.1,.int .i64 (toldAtom (raw s)).2.2]])∧atomK.sl (From w.heap.size) w' v (toldAtom (raw s)).1∧Below w.heap.size w w':=by
 have hb0:=World.block_lt_of_cell? w _ hm;have hA:=((Later.refl w).alloc (.cells #[.int .i64 0,.int .i64 0] 75));have HC:=hide (readAtom s (w.alloc (.cells #[.int .i64 0,.int .i64 0] 75)) m (by rw[hA.cell (p:=⟨1,0,none⟩) hb0];exact hm))
 go_enter Tryz.func39,Tryz.ntmps39
 go_wp2_with fail
 refine HC.out.mono ?_;rintro e w1 ⟨v,rfl,hV,hB⟩;have hrow:w1.heap[w.heap.size]?=some (.cells #[.int .i64 0,.int .i64 0] 75 (0,0)):=by
  rw[hB.block _ (by simp)];exact heap_alloc_new w _
 have z0:w1.cell? ⟨w.heap.size,0,none⟩=some (.int .i64 0):=by rw[cell_of_row _ _ _ _ _ _ hrow];rfl
 have z1:w1.cell? ⟨w.heap.size,1,none⟩=some (.int .i64 0):=by rw[cell_of_row _ _ _ _ _ _ hrow];rfl
 have f0:=frozen_row (j:=0) hrow;have f1:=frozen_row (j:=1) hrow;have HB:Hid (Below w.heap.size w w1):=⟨hB.os.trans hA.below.os,hB.tape.trans hA.below.tape,hB.output.trans hA.below.output,by have:=hB.size;simp at this;omega,fun k hk=>(hB.block k (by simp;omega)).trans (hA.below.block k hk)⟩;have HV:=hide hV;obtain⟨av,cv,rfl⟩:=Kind.slice hV;clear hV hB hA HC hrow hm;generalize hy:toldAtom (raw s)=y at HV⊢;have HY:=hide hy;clear hy;obtain⟨out,n,k⟩:=y;dsimp only at HV⊢;go_wp2;refine bodyPost_ret (v:=.tuple #[.slice av out.length cv,.agg #[.int .i64 n,.int .i64 k]]) (by simp[results,Tryz.results39,go_sem,z0,z1]) rfl ?_;refine⟨.slice av out.length cv,by rw[HY.out],?_,(HB.out.setCell (Nat.le_refl _) _).setCell (Nat.le_refl _) _⟩;rw[HY.out];exact Kind.sl_mono (Kind.sl_turned HV.out (((Tn.refl w.heap.size w1).moved _ _).moved _ _) (by simp)) (fun k _ hB=>by have:(w.alloc _).heap.size≤k:=hB;simp at this;show w.heap.size≤k;omega)
end Go.Proofs.YtafmbokfkbccaaaGreatDoor
namespace Go.Proofs.YtafmbokfkbccaaaGreatDoor
open Go.RowKit Go.Sort
def FactsB (B:Nat→Prop) (w:World) (v:Value) (l:List FactB):Prop:=
 l.length≤1000∧∃a cap,v=.slice a l.length cap∧(l≠[]→∃b off,a=some ⟨b,off,none⟩∧B b∧b<w.heap.size∧∀i,i<l.length→w.cell? ⟨b,off+i*2,none⟩=some (.string (l.getD i noFact).1)∧∃s,w.cell? ⟨b,off+i*2+1,none⟩=some s∧Strs w s (l.getD i noFact).2∧∀k,(l.getD i noFact).2≠[]→s.ownBlock=some k→B k)
theorem FactsB.nil (B:Nat→Prop) (w:World):FactsB B w (.slice none 0 0) []:=⟨by simp,none,0,rfl,fun h=>absurd rfl h⟩
theorem FactsB.facts {B:Nat→Prop} {w:World} {v:Value} {l:List FactB} (h:FactsB B w v l):Facts w v l:=by
 obtain⟨h0,a,cap,rfl,h1⟩:=h;refine⟨by omega,a,cap,rfl,fun hl=> ?_⟩;obtain⟨b,off,rfl,_,hb,hc⟩:=h1 hl;refine⟨b,off,rfl,hb,fun i hi=> ?_⟩;obtain⟨c1,s,c2,c3,_⟩:=hc i hi;exact⟨c1,s,c2,c3⟩
theorem FactsB.kept {B:Nat→Prop} {w w':World} {v:Value} {l:List FactB} (h:FactsB B w v l) (hs:w.heap.size≤w'.heap.size) (hk:∀k,k<w.heap.size→B k→w'.heap[k]?=w.heap[k]?):FactsB B w' v l:=by
 obtain⟨h0,a,cap,rfl,h1⟩:=h;refine⟨h0,a,cap,rfl,fun hl=> ?_⟩;obtain⟨b,off,rfl,hB,hb,hc⟩:=h1 hl;refine⟨b,off,rfl,hB,Nat.lt_of_lt_of_le hb hs,fun i hi=> ?_⟩;obtain⟨c1,s,c2,c3,c4⟩:=hc i hi;have e:=hk b hb hB;refine⟨by rw[World.cell?_of_block (w:=w) e];exact c1,s,by rw[World.cell?_of_block (w:=w) e];exact c2,?_,c4⟩
 by_cases hne:(l.getD i noFact).2=[]
 ·rw[hne] at c3⊢;exact c3.nil
 ·exact c3.kept hs fun k e'=>hk k (c3.block_lt hne k e') (c4 k hne e')
theorem FactsB.below {B:Nat→Prop} {w w':World} {v:Value} {l:List FactB} (h:FactsB B w v l) (k:Below w.heap.size w w'):FactsB B w' v l:=h.kept k.size fun i hi _=>k.block i hi
theorem FactsB.mono {B B':Nat→Prop} {w:World} {v:Value} {l:List FactB} (h:FactsB B w v l) (hm:∀k,k<w.heap.size→B k→B' k):FactsB B' w v l:=by
 obtain⟨h0,a,cap,rfl,h1⟩:=h;refine⟨h0,a,cap,rfl,fun hl=> ?_⟩;obtain⟨b,off,rfl,hB,hb,hc⟩:=h1 hl;refine⟨b,off,rfl,hm b hb hB,hb,fun i hi=> ?_⟩;obtain⟨c1,s,c2,c3,c4⟩:=hc i hi;exact⟨c1,s,c2,c3,fun k hne e=>hm k (c3.block_lt hne k e) (c4 k hne e)⟩
theorem OwnF.factsB {base:Nat} {w:World} {v:Value} {l:List FactB} (h:OwnF w base v l) (hl:l.length≤1000):FactsB (From base) w v l:=by
 obtain⟨xs,ho,hx⟩:=h;rcases ho.2 with⟨rfl,e⟩|⟨g,cap,cur,rfl,hbg,hg,_,_,hcs,htake⟩
 ·have:l=[]:=List.eq_nil_of_length_eq_zero e;subst this;exact FactsB.nil _ _
 ·refine⟨hl,_,cap,rfl,fun _=>⟨g,0,rfl,hbg,(Array.getElem?_eq_some_iff.1 hg).1,fun i hi=> ?_⟩⟩;obtain⟨c1,s,c2,c3,c4⟩:=hx i hi;have cellOf:∀j u,xs[j]?=some u→w.cell? ⟨g,0+j,none⟩=some u:=fun j u hu=>by
   have:=ho.cells (g:=g) rfl j u hu
   rwa [Addr.add_lit] at this
  exact⟨cellOf _ _ c1,s,by rw[Nat.add_assoc];exact cellOf _ _ c2,c3,fun k _ e=>(c4 k e).1⟩
end Go.Proofs.YtafmbokfkbccaaaGreatDoor
namespace Go.Proofs.YtafmbokfkbccaaaGreatDoor
open Go.RowKit Go.Sort
structure DeskD where
 told:List FactB
 rules:List RuleD
 running:Bool
 run:RunD
 saved:Bs
structure DoD where
 kind:Int
 n:Int
 fact:FactB
 text:ByteArray
structure AnsD where
 err:Int
 place:Int
 n:Int
 binds:List (List BindD)
 prf:PrfD
def noPrf:PrfD:=.mk (ByteArray.empty,[]) 0 []
def noDesk:DeskD:=⟨[],[],false,noRun,[]⟩
def ansA (e a:Int):AnsD:=⟨e,a,0,[],noPrf⟩
def ansE (e:Int):AnsD:=ansA e 0
def ansN (n:Nat):AnsD:=⟨0,0,n,[],noPrf⟩
def tellP (d:DeskD) (f:FactB):DeskD×AnsD:=if wrongF f≠0 then(d,ansE (wrongF f)) else
 if 200<(setF (d.told++[f])).length then(d,ansE 5) else({d with told:=setF (d.told++[f])},ansN (setF (d.told++[f])).length)
def ruleP (d:DeskD) (t:ByteArray):DeskD×AnsD:=if(toldRule (raw t)).2.1≠0 then(d,ansA (toldRule (raw t)).2.1 (toldRule (raw t)).2.2) else
 if(strataP (toldRule (raw t)).1).2.1≠0 then(d,ansA (strataP (toldRule (raw t)).1).2.1 (strataP (toldRule (raw t)).1).2.2) else(⟨d.told,(toldRule (raw t)).1,false,noRun,[]⟩,ansN (toldRule (raw t)).1.length)
def runsP (d:DeskD) (x:Int×RunD):DeskD×AnsD:=if x.1≠0 then(d,ansE x.1) else({d with running:=true,run:=x.2},ansN x.2.known.length)
def stepD (d:DeskD) (n:Int):DeskD×AnsD:=if d.running=false then(d,ansE 11) else runsP d (stepsF d.rules d.run n)
def saveD (d:DeskD):DeskD×AnsD:=if d.running=false then(d,ansE 11) else if(saveP d.rules d.run).1≠0 then(d,ansE (saveP d.rules d.run).1) else
 ({d with saved:=(saveP d.rules d.run).2},ansN (saveP d.rules d.run).2.length)
def backD (d:DeskD):DeskD×AnsD:=if d.saved=[] then(d,ansE 6) else runsP d (loadP d.rules d.saved)
def allW (body:List AtomD) (fs:List FactB):Int×List (List BindD):=if errW body fs []≠0 then(errW body fs [],[]) else match allB (pickB fs (-1) []) body with
 |none=>(4,[])
 |some R=>(0,R)
def askD (d:DeskD) (t:ByteArray):AnsD:=if(toldAtom (raw t)).2.1≠0 then ansA (toldAtom (raw t)).2.1 (toldAtom (raw t)).2.2 else
 if(!d.running|| !d.run.done)=true then ansE 11 else if(allW (toldAtom (raw t)).1 d.run.known).1≠0 then ansE (allW (toldAtom (raw t)).1 d.run.known).1 else
 ⟨0,0,(allW (toldAtom (raw t)).1 d.run.known).2.length,(allW (toldAtom (raw t)).1 d.run.known).2,noPrf⟩
abbrev Prover:=List RuleD→List FactB→FactB→Int×Option PrfD
def proveD (φ:Prover) (d:DeskD) (f:FactB):AnsD:=match(φ d.rules d.told f).2 with
 |none=>ansE (φ d.rules d.told f).1
 |some x=>⟨0,0,0,[],x⟩
def doP (φ:Prover) (d:DeskD) (x:DoD):DeskD×AnsD:=
 if x.kind=1 then tellP d x.fact else if x.kind=2 then ruleP d x.text else if x.kind=3 then runsP d (beginP d.rules d.told) else if x.kind=4 then stepD d x.n else
 if x.kind=5 then(d,askD d x.text) else if x.kind=6 then(d,proveD φ d x.fact) else if x.kind=7 then saveD d else if x.kind=8 then backD d else(d,ansE 1)
def playGo (φ:Prover):DeskD→List DoD→DeskD×List AnsD
 |d,[]=>(d,[])
 |d,x::l=>((playGo φ (doP φ d x).1 l).1,(doP φ d x).2::(playGo φ (doP φ d x).1 l).2)
def playP (φ:Prover) (l:List DoD):DeskD×List AnsD×Int:=if 60<l.length then(noDesk,[],5) else((playGo φ noDesk l).1,(playGo φ noDesk l).2,0)
theorem right_few {p:List RuleD} {c:Nat} {r:RunD} (h:RightN p c r):r.known.length≤200∧r.fresh.length≤200:=⟨h.good.few,Nat.le_trans (up_le h.up h.sub) h.good.few⟩
theorem stepsF_few {p:List RuleD} {r:RunD} {n:Int} (h:(stepsF p r n).1=0):(stepsF p r n).2.known.length≤200∧(stepsF p r n).2.fresh.length≤200:=by
 unfold stepsF at h⊢;split at h
 ·rename_i h1;exact absurd h h1
 ·rename_i h1;rw[if_neg h1];split at h
  ·simp at h
  ·rename_i h2;rw[if_neg h2];have h1:=Classical.byContradiction h1;obtain⟨hf,hR⟩:=wrongRun_zero h1;obtain⟨hp,_,τ,_,hs,_⟩:=forE_zero hf;have e:(strataP p).1=p.map fun r=>τ r.head.name:=by rw[hs]
   rw[e] at hR h⊢;exact right_few (steps_right hp (fun r=>τ r.head.name) n.toNat hR (Prod.ext h rfl))
theorem beginP_few {p:List RuleD} {l:List FactB} (h:(beginP p l).1=0):(beginP p l).2.known.length≤200∧(beginP p l).2.fresh.length≤200:=by
 unfold beginP at h⊢;split at h
 ·rename_i h1;exact absurd h h1
 ·rename_i h1;rw[if_neg h1];obtain⟨_,hg,_⟩:=forE_zero (Classical.byContradiction h1);exact⟨hg.few,hg.few⟩
theorem loadP_few {p:List RuleD} {b:Bs}:(loadP p b).2.known.length≤200∧(loadP p b).2.fresh.length≤200:=by
 unfold loadP;split
 ·simp[noRun]
 ·split
  ·simp[noRun]
  ·rename_i h1;exact right_few (wrongRun_zero (Classical.byContradiction h1)).2
theorem saveP_few {p:List RuleD} {r:RunD}:(saveP p r).2.length≤17001000:=by
 unfold saveP;split
 ·simp
 ·rename_i h1;have h:=wMore_len (byteR_of (Classical.byContradiction h1)).1 r.known.length;rw[wMore_end (Nat.le_refl _)] at h;exact h
structure DeskW (p:Nat) (B:Nat→Prop) (w:World) (d:DeskD) (tv rv kv nv sv:Value):Prop where
 row:w.heap[p]?=some (.cells #[tv,rv,.bool d.running,kv,nv,.int .i64 d.run.level,.int .i64 d.run.rounds,.bool d.run.done,sv] 140 (0,0))
 told:FactsB B w tv d.told
 rules:ruleK.sl B w rv d.rules
 known:FactsB B w kv d.run.known
 fresh:FactsB B w nv d.run.fresh
 saved:byteK.sl B w sv d.saved
theorem DeskW.lt {p:Nat} {B:Nat→Prop} {w:World} {d:DeskD} {tv rv kv nv sv:Value} (h:DeskW p B w d tv rv kv nv sv):p<w.heap.size:=(Array.getElem?_eq_some_iff.1 h.row).1
theorem DeskW.kept {p:Nat} {B:Nat→Prop} {w w':World} {d:DeskD} {tv rv kv nv sv:Value} (h:DeskW p B w d tv rv kv nv sv) (hs:w.heap.size≤w'.heap.size) (hp:w'.heap[p]?=w.heap[p]?) (hk:∀k,k<w.heap.size→B k→w'.heap[k]?=w.heap[k]?):DeskW p B w' d tv rv kv nv sv:=
 ⟨hp.trans h.row,h.told.kept hs hk,Kind.sl_kept h.rules hs hk,h.known.kept hs hk,h.fresh.kept hs hk,Kind.sl_kept h.saved hs hk⟩
theorem DeskW.below {p:Nat} {B:Nat→Prop} {w w':World} {d:DeskD} {tv rv kv nv sv:Value} (h:DeskW p B w d tv rv kv nv sv) (k:Below w.heap.size w w'):DeskW p B w' d tv rv kv nv sv:=
 h.kept k.size (k.block p h.lt) fun i hi _=>k.block i hi
theorem DeskW.mono {p:Nat} {B B':Nat→Prop} {w:World} {d:DeskD} {tv rv kv nv sv:Value} (h:DeskW p B w d tv rv kv nv sv) (hm:∀k,k<w.heap.size→B k→B' k):DeskW p B' w d tv rv kv nv sv:=
 ⟨h.row,h.told.mono hm,Kind.sl_mono h.rules hm,h.known.mono hm,h.fresh.mono hm,Kind.sl_mono h.saved hm⟩
theorem FactsB.slice {B:Nat→Prop} {w:World} {v:Value} {l:List FactB} (h:FactsB B w v l):∃a c,v=.slice a l.length c:=by
 obtain⟨_,a,c,e,_⟩:=h;exact⟨a,c,e⟩
theorem DeskW.slices {p:Nat} {B:Nat→Prop} {w:World} {d:DeskD} {tv rv kv nv sv:Value} (h:DeskW p B w d tv rv kv nv sv):
  (∃a c,tv=.slice a d.told.length c)∧(∃a c,rv=.slice a d.rules.length c)∧(∃a c,kv=.slice a d.run.known.length c)∧(∃a c,nv=.slice a d.run.fresh.length c)∧∃a c,sv=.slice a d.saved.length c:=
 ⟨h.told.slice,Kind.slice h.rules,h.known.slice,h.fresh.slice,Kind.slice h.saved⟩
theorem row9 {w:World} {R:Nat} {u0 u1 u2 u3 u4 u5 u6 u7 u8:Value} {t:TypeId} (h:w.heap[R]?=some (.cells #[u0,u1,u2,u3,u4,u5,u6,u7,u8] t (0,0))):
  (w.cell? ⟨R,0,none⟩=some u0∧w.cell? ⟨R,1,none⟩=some u1∧w.cell? ⟨R,2,none⟩=some u2∧w.cell? ⟨R,3,none⟩=some u3∧w.cell? ⟨R,4,none⟩=some u4∧w.cell? ⟨R,5,none⟩=some u5∧w.cell? ⟨R,6,none⟩=some u6∧w.cell? ⟨R,7,none⟩=some u7∧w.cell? ⟨R,8,none⟩=some u8)∧
  (∀j,w.frozen? ⟨R,j,none⟩=false)∧R<w.heap.size:=by
 refine⟨⟨?_,?_,?_,?_,?_,?_,?_,?_,?_⟩,fun j=>by simp[World.frozen?,h],(Array.getElem?_eq_some_iff.1 h).1⟩ <;> (rw[cell_of_row _ _ _ _ _ _ h];rfl)
def AnsV (B:Nat→Prop) (w:World) (v:Value) (a:AnsD):Prop:=∃bv sv kv,v=.agg #[.int .i64 a.err,.int .i64 a.place,.int .i64 a.n,bv,.string a.prf.fact.1,sv,.int .i64 a.prf.rule,kv]∧listK.sl B w bv a.binds∧bsK.sl B w sv a.prf.fact.2∧(prfK 60).sl B w kv a.prf.kids
def zansV (e a n:Int):Value:=.agg #[.int .i64 e,.int .i64 a,.int .i64 n,.slice none 0 0,.string ⟨#[]⟩,.slice none 0 0,.int .i64 0,.slice none 0 0]
theorem AnsV.plain (B:Nat→Prop) (w:World) (e a n:Int):AnsV B w (zansV e a n) ⟨e,a,n,[],noPrf⟩:=⟨_,_,_,rfl,listK.sl_nil _ _ _ _,bsK.sl_nil _ _ _ _,(prfK 60).sl_nil _ _ _ _⟩
def put8 (w:World) (R:Nat) (x0 x1 x2 x3 x4 x5 x6 x7:Value):World:=(((((((w.setCell ⟨R,0,none⟩ x0).setCell ⟨R,1,none⟩ x1).setCell ⟨R,2,none⟩ x2).setCell ⟨R,3,none⟩ x3).setCell ⟨R,4,none⟩ x4).setCell ⟨R,5,none⟩ x5).setCell ⟨R,6,none⟩ x6).setCell ⟨R,7,none⟩ x7
theorem put8_row {w:World} {R:Nat} {u0 u1 u2 u3 u4 u5 u6 u7:Value} {t:TypeId} (h:w.heap[R]?=some (.cells #[u0,u1,u2,u3,u4,u5,u6,u7] t (0,0))) (x0 x1 x2 x3 x4 x5 x6 x7:Value):(put8 w R x0 x1 x2 x3 x4 x5 x6 x7).heap[R]?=some (.cells #[x0,x1,x2,x3,x4,x5,x6,x7] t (0,0)):=by
 have h0:(w.setCell ⟨R,0,none⟩ x0).heap[R]?=some (.cells #[x0,u1,u2,u3,u4,u5,u6,u7] t (0,0)):=set_row (j:=0) h x0;have h1:((w.setCell ⟨R,0,none⟩ x0).setCell ⟨R,1,none⟩ x1).heap[R]?=some (.cells #[x0,x1,u2,u3,u4,u5,u6,u7] t (0,0)):=set_row (j:=1) h0 x1;have h2:(((w.setCell ⟨R,0,none⟩ x0).setCell ⟨R,1,none⟩ x1).setCell ⟨R,2,none⟩ x2).heap[R]?=some (.cells #[x0,x1,x2,u3,u4,u5,u6,u7] t (0,0)):=set_row (j:=2) h1 x2;have h3:((((w.setCell ⟨R,0,none⟩ x0).setCell ⟨R,1,none⟩ x1).setCell ⟨R,2,none⟩ x2).setCell ⟨R,3,none⟩ x3).heap[R]?=some (.cells #[x0,x1,x2,x3,u4,u5,u6,u7] t (0,0)):=set_row (j:=3) h2 x3;have h4:(((((w.setCell ⟨R,0,none⟩ x0).setCell ⟨R,1,none⟩ x1).setCell ⟨R,2,none⟩ x2).setCell ⟨R,3,none⟩ x3).setCell ⟨R,4,none⟩ x4).heap[R]?=some (.cells #[x0,x1,x2,x3,x4,u5,u6,u7] t (0,0)):=set_row (j:=4) h3 x4;have h5:((((((w.setCell ⟨R,0,none⟩ x0).setCell ⟨R,1,none⟩ x1).setCell ⟨R,2,none⟩ x2).setCell ⟨R,3,none⟩ x3).setCell ⟨R,4,none⟩ x4).setCell ⟨R,5,none⟩ x5).heap[R]?=some (.cells #[x0,x1,x2,x3,x4,x5,u6,u7] t (0,0)):=set_row (j:=5) h4 x5;have h6:(((((((w.setCell ⟨R,0,none⟩ x0).setCell ⟨R,1,none⟩ x1).setCell ⟨R,2,none⟩ x2).setCell ⟨R,3,none⟩ x3).setCell ⟨R,4,none⟩ x4).setCell ⟨R,5,none⟩ x5).setCell ⟨R,6,none⟩ x6).heap[R]?=some (.cells #[x0,x1,x2,x3,x4,x5,x6,u7] t (0,0)):=set_row (j:=6) h5 x6
 have h7:((((((((w.setCell ⟨R,0,none⟩ x0).setCell ⟨R,1,none⟩ x1).setCell ⟨R,2,none⟩ x2).setCell ⟨R,3,none⟩ x3).setCell ⟨R,4,none⟩ x4).setCell ⟨R,5,none⟩ x5).setCell ⟨R,6,none⟩ x6).setCell ⟨R,7,none⟩ x7).heap[R]?=some (.cells #[x0,x1,x2,x3,x4,x5,x6,x7] t (0,0)):=set_row (j:=7) h6 x7;exact h7
theorem put8_tn (w:World) (b:Nat) (x0 x1 x2 x3 x4 x5 x6 x7:Value):Tn b w (put8 w b x0 x1 x2 x3 x4 x5 x6 x7):=
 ((((((((Tn.refl b w).setCell (Or.inl rfl) _).setCell (Or.inl rfl) _).setCell (Or.inl rfl) _).setCell (Or.inl rfl) _).setCell (Or.inl rfl) _).setCell (Or.inl rfl) _).setCell (Or.inl rfl) _).setCell (Or.inl rfl) _
theorem row8 {w:World} {R:Nat} {u0 u1 u2 u3 u4 u5 u6 u7:Value} {t:TypeId} (h:w.heap[R]?=some (.cells #[u0,u1,u2,u3,u4,u5,u6,u7] t (0,0))):
  (w.cell? ⟨R,0,none⟩=some u0∧w.cell? ⟨R,1,none⟩=some u1∧w.cell? ⟨R,2,none⟩=some u2∧w.cell? ⟨R,3,none⟩=some u3∧w.cell? ⟨R,4,none⟩=some u4∧w.cell? ⟨R,5,none⟩=some u5∧w.cell? ⟨R,6,none⟩=some u6∧w.cell? ⟨R,7,none⟩=some u7)∧
  (∀j,w.frozen? ⟨R,j,none⟩=false)∧R<w.heap.size:=by
 refine⟨⟨?_,?_,?_,?_,?_,?_,?_,?_⟩,fun j=>by simp[World.frozen?,h],(Array.getElem?_eq_some_iff.1 h).1⟩ <;> (rw[cell_of_row _ _ _ _ _ _ h];rfl)
set_option maxRecDepth 100000 in
set_option maxHeartbeats 1000000 in
theorem refusedC (e:Int) (w:World):Calls Tryz.prog 141 #[.int .i64 e] w fun r w'=>r=.returned (zansV e 0 0)∧Below w.heap.size w w':=by
 obtain⟨w1,hw1⟩:∃w1,w1=w.alloc (.cells #[.int .i64 0,.int .i64 0,.int .i64 0,.slice none 0 0,.string ⟨#[]⟩,.slice none 0 0,.int .i64 0,.slice none 0 0] 64):=⟨_,rfl⟩;have hL1:Later w w1:=by rw[hw1];exact(Later.refl w).alloc _
 have hr1:w1.heap[w.heap.size]?=some (.cells #[.int .i64 0,.int .i64 0,.int .i64 0,.slice none 0 0,.string ⟨#[]⟩,.slice none 0 0,.int .i64 0,.slice none 0 0] 64 (0,0)):=by rw[hw1];exact heap_alloc_new w _
 obtain⟨⟨q0,q1,q2,q3,q4,q5,q6,q7⟩,hfz,hlt⟩:=row8 hr1;have HR:=hide hr1;have HW1:=hide hw1;have HL1:=hide hL1;clear hw1 hr1 hL1
 go_enter Tryz.func141,Tryz.ntmps141
 go_wp2_with (rw[←HW1.out])
 have hrow:=put8_row HR.out (.int .i64 e) (.int .i64 0) (.int .i64 0) (.slice none 0 0) (.string ⟨#[]⟩) (.slice none 0 0) (.int .i64 0) (.slice none 0 0);obtain⟨⟨r0,r1,r2,r3,r4,r5,r6,r7⟩,_,_⟩:=row8 hrow;unfold put8 at r0 r1 r2 r3 r4 r5 r6 r7;exact bodyPost_ret (v:=zansV e 0 0) (by simp[results,Tryz.results141,go_sem,r0,r1,r2,r3,r4,r5,r6,r7,zansV]) rfl ⟨rfl,by
  have hT:=put8_tn w1 w.heap.size (.int .i64 e) (.int .i64 0) (.int .i64 0) (.slice none 0 0) (.string ⟨#[]⟩) (.slice none 0 0) (.int .i64 0) (.slice none 0 0);unfold put8 at hT;exact HL1.out.below.trans (hT.below (Nat.le_refl _) HL1.out.size)⟩
end Go.Proofs.YtafmbokfkbccaaaGreatDoor
