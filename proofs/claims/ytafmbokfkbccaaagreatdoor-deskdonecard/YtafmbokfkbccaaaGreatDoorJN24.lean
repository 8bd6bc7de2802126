import Derived.Test.YtafmbokfkbccaaaGreatDoorJN23
import Derived.Test.YtafmbokfkbccaaaGreatDoorJN7
import Derived.Test.YtafmbokfkbccaaaGreatDoorJN3
import Derived.Test.YtafmbokfkbccaaaGreatDoorJN12
namespace Go.Proofs.YtafmbokfkbccaaaGreatDoor
open Go.RowKit Go.Sort
def noK:Kind iT:={size:=4,is:=fun _ _ _ _=>False,len:=fun h=>h.elim,one:=fun h=>h.elim,kept:=fun h _ _=>h,mono:=fun h _=>h}
def VT (K:Kind iT):Kind iT where
 size:=4
 is:=fun B w c x=>∃s kv,c=[.string x.fact.1,s,.int .i64 x.rule,kv]∧bsK.sl B w s x.fact.2∧K.sl B w kv x.kids
 len:=fun⟨s,kv,h,_⟩=>by subst h;rfl
 one:=fun⟨s,kv,h,h1,h2⟩ u hu=>by
  subst h;obtain⟨a,cap,rfl⟩:=Kind.slice h1;obtain⟨a',cap',rfl⟩:=Kind.slice h2;simp at hu;rcases hu with rfl|rfl|rfl|rfl <;> rfl
 kept:=fun⟨s,kv,h,h1,h2⟩ k1 k2=>⟨s,kv,h,Kind.aM h1 k1 k2,Kind.aM h2 k1 k2⟩
 mono:=fun⟨s,kv,h,h1,h2⟩ k1=>⟨s,kv,h,Kind.aH h1 k1,Kind.aH h2 k1⟩
def FU:Nat→Kind iT
 |0=>noK
 |n+1=>VT (FU n)
def EX (n:Nat) (B:Nat→Prop) (w:World) (v:Value) (x:iT):Prop:=∃s kv,v=.agg #[.string x.fact.1,s,.int .i64 x.rule,kv]∧bsK.sl B w s x.fact.2∧(FU n).sl B w kv x.kids
theorem EX.kept {n:Nat} {B:Nat→Prop} {w w':World} {v:Value} {x:iT} (h:EX n B w v x) (hs:w.heap.size≤w'.heap.size) (hk:∀k,k<w.heap.size→B k→w'.heap[k]?=w.heap[k]?):EX n B w' v x:=by
 obtain⟨s,kv,rfl,h1,h2⟩:=h;exact⟨s,kv,rfl,Kind.aM h1 hs hk,Kind.aM h2 hs hk⟩
theorem EX.below {n:Nat} {B:Nat→Prop} {w w':World} {v:Value} {x:iT} (h:EX n B w v x) (k:Below w.heap.size w w'):EX n B w' v x:=h.kept k.size fun i hi _=>k.block i hi
theorem EX.fact {n:Nat} {B:Nat→Prop} {w:World} {s kv:Value} {x:iT} {nm:ByteArray} {r:Int} (h:EX n B w (.agg #[.string nm,s,.int .i64 r,kv]) x):dF w (.agg #[.string nm,s]) x.fact:=by
 obtain⟨s',kv',e,h1,_⟩:=h;simp only[Value.agg.injEq,Array.mk.injEq,List.cons.injEq,Value.string.injEq,and_true] at e;obtain⟨rfl,rfl,_,_⟩:=e;exact⟨_,rfl,MP h1⟩
def AP {α:Type} (K:Kind α) (ty:TypeId) (B:Nat→Prop) (w0:World) (lo:Nat) (w:World) (v:Value) (l:List (List α)):Prop:=
 ∃xs,w.ownsRow lo ty 1 v l.length xs∧∀(i:Nat) a,l[i]?=some a→∃u,K.sl B w0 u a∧xs[i]?=some u
section
variable {α:Type} {K:Kind α} {ty:TypeId} {B:Nat→Prop} {w0:World} {lo:Nat} {w:World} {v:Value} {l:List (List α)}
theorem AP.nil (K:Kind α) (ty:TypeId) (B:Nat→Prop) (w0:World) (lo:Nat) (w:World):AP K ty B w0 lo w (.slice none 0 0) []:=⟨[],World.ownsRow_nil w _ _ _,fun i a h=>by simp at h⟩
theorem AP.slice (h:AP K ty B w0 lo w v l):∃a cap,v=.slice a l.length cap:=by
 obtain⟨xs,ho,_⟩:=h;rcases ho.2 with⟨rfl,e⟩|⟨g,cap,cur,rfl,_⟩
 ·exact⟨none,0,by rw[e]⟩
 ·exact⟨_,cap,rfl⟩
theorem AP.lo_le (h:AP K ty B w0 lo w v l):∀k,v.ownBlock=some k→lo≤k∧k<w.heap.size:=fun k e=>by
 obtain⟨xs,ho,_⟩:=h;exact ho.lt k e
theorem AP.kept {w':World} (h:AP K ty B w0 lo w v l) (hk:∀k,v.ownBlock=some k→w'.heap[k]?=w.heap[k]?):AP K ty B w0 lo w' v l:=by
 obtain⟨xs,ho,hx⟩:=h;refine⟨xs,⟨ho.1,?_⟩,hx⟩;rcases ho.2 with e|⟨g,cap,cur,rfl,hbg,hg,r⟩
 ·exact Or.inl e
 ·exact Or.inr ⟨g,cap,cur,rfl,hbg,by rw[hk g rfl];exact hg,r⟩
theorem AP.more {T:TypeId} {i:TypeInfo} (h:AP K ty B w0 lo w v l) (hT:Tryz.prog.underlying T=some (.slice ty)) (i1:Tryz.prog.info? ty=some i) (i2:i.zero=some (.slice none 0 0)) (i3:i.size=1) (i4:i.bytes=24) (hs:lo≤w.heap.size) {u:Value} {a:List α} (hc:K.sl B w0 u a) (hl:l.length+1≤1099511627776):
  ∃v' w',(Builtin.append_ #[T,T] T #[v,.slice (some ⟨w.heap.size,0,none⟩) 1 1]).run Tryz.prog (w.alloc (.cells #[u] ty))=.ok v' w'∧AP K ty B w0 lo w' v' (l++[a])∧(w.alloc (.cells #[u] ty)).grownBy w' v.ownBlock∧w.drawn≤w'.drawn:=by
 obtain⟨xs,ho,hx⟩:=h;have hnews:∀j x,([u]:List Value)[j]?=some x→(w.alloc (.cells #[u] ty)).cell? ((⟨w.heap.size,0,none⟩:Addr).add j)=some x:=by
  intro j x hx;rw[Addr.add_lit,Nat.zero_add,cell_of_row _ w.heap.size j #[u] ty (0,0) (heap_alloc_new w _)];simpa using hx
 have hone:∀x∈[u],Value.oneCell' x=true:=by
  intro x hx;simp at hx;subst hx;obtain⟨a,cap,rfl⟩:=Kind.slice hc
  rfl
 obtain⟨v',w',hrun,r1,r2,r3,r4⟩:=dY (P:=Tryz.prog) (w.alloc (.cells #[u] ty)) lo T T ty i _ 1 24 hT i1 i2 i3 i4 rfl (by omega) v l.length xs (ho.alloc _) ⟨w.heap.size,0,none⟩ 1 1 [u] rfl hnews hone (by simp only[maxLen];omega) (by omega) (by simp;omega);have hxl:xs.length=l.length:=by have:=ho.1;omega
 refine⟨v',w',hrun,⟨xs++[u],by simpa using r1,fun j b hj=> ?_⟩,r2,r3⟩
 by_cases hjl:j<l.length
 ·rw[List.getElem?_append_left hjl] at hj;obtain⟨q,q1,q2⟩:=hx j b hj;exact⟨q,q1,by rw[List.getElem?_append_left (by omega)];exact q2⟩
 ·rw[List.getElem?_append_right (by omega)] at hj;have hj':j=l.length:=by
   have:=(List.getElem?_eq_some_iff.1 hj).1;simp at this;omega
  subst hj';simp at hj;subst hj;exact⟨u,hc,by rw[List.getElem?_append_right (by omega),hxl];simp⟩
theorem AP.at (h:AP K ty B w0 lo w v l) {i:Nat} {a:List α} (hi:l[i]?=some a):∃g cap u,v=.slice (some ⟨g,0,none⟩) l.length cap∧g<w.heap.size∧K.sl B w0 u a∧w.cell? ⟨g,i,none⟩=some u:=by
 obtain⟨xs,ho,hx⟩:=h;obtain⟨u,hu,hxu⟩:=hx i a hi;rcases ho.2 with⟨rfl,e⟩|⟨g,cap,cur,rfl,hbg,hg,hnc,_⟩
 ·have:=(List.getElem?_eq_some_iff.1 hi).1;omega
 ·refine⟨g,cap,u,rfl,(Array.getElem?_eq_some_iff.1 hg).1,hu,?_⟩;have:=ho.cells (g:=g) rfl i u hxu;rw[Addr.add_lit] at this;simpa using this
end
end Go.Proofs.YtafmbokfkbccaaaGreatDoor
namespace Go.Proofs.YtafmbokfkbccaaaGreatDoor
open Go.RowKit Go.Sort
def pos (s:ByteArray) (l:Bs):Nat:=s.size-l.length
structure Rd (w:World) (p:Nat) (s:ByteArray) (l:Bs):Prop where
 short:s.size≤3000
 suf:l<:+raw s
 lt:p<w.heap.size
 ne:1<p
 c0:w.cell? ⟨p,0,none⟩=some (.string s)
 c1:w.cell? ⟨p,1,none⟩=some (.int .i64 (pos s l))
 fz:w.frozen? ⟨p,1,none⟩=false
 g:∃m,w.cell? ⟨1,0,none⟩=some (.int .i64 m)
theorem DC {s:ByteArray} {l:Bs} (h:l<:+raw s):(raw s).drop (pos s l)=l:=by
 obtain⟨t,e⟩:=h;have:(raw s).length=t.length+l.length:=by rw[←e,List.length_append]
 rw[aP] at this;rw[←e,pos,this,Nat.add_sub_cancel,List.drop_left]
theorem xq (s:ByteArray) (l:Bs):pos s l≤s.size:=Nat.sub_le _ _
theorem qX {s:ByteArray} {l:Bs} (h:l<:+raw s):l.length≤s.size:=by rw[←aP];exact h.length_le
theorem Hq {s:ByteArray} {l:Bs} (h:l<:+raw s) {n:Nat} (hn:n≤l.length):pos s (l.drop n)=pos s l+n:=by
 have:=qX h;simp only[pos,List.length_drop];omega
theorem J8 {s:ByteArray} {l:Bs} (h:l<:+raw s) (n:Nat):l.drop n<:+raw s:=(List.drop_suffix n l).trans h
theorem Hr {s:ByteArray} {l:Bs} (h:l<:+raw s):s.extract (pos s l) s.size=bs l:=by
 apply FZ
 rw[iD];have e:=DC h;unfold raw at e⊢;rw[ByteArray.data_extract];simp only[Array.toList_extract,List.extract_eq_take_drop];rw[e,List.take_of_length_le];simp only[pos];have:=qX h;omega
theorem Rd.turned {w w':World} {p q:Nat} {s:ByteArray} {l:Bs} (h:Rd w p s l) (k:Tn q w w') (hq:q≠p) (h0:p<q):Rd w' p s l:=
 ⟨h.short,h.suf,Nat.lt_of_lt_of_le h.lt k.size,h.ne,by rw[k.cell (x:=⟨p,0,none⟩) h.lt (fun e=>hq e.symm)];exact h.c0,by rw[k.cell (x:=⟨p,1,none⟩) h.lt (fun e=>hq e.symm)];exact h.c1,
  by rw[World.frozen?_of_block (w:=w) (a:=⟨p,1,none⟩) (k.block p h.lt (fun e=>hq e.symm))];exact h.fz,
  by obtain⟨m,e⟩:=h.g;exact⟨m,by rw[k.cell (x:=⟨1,0,none⟩) (by have:=h.lt;have:=h.ne;show 1<w.heap.size;omega) (fun e'=>by have h1:=h.ne;have e2:1=q:=e';omega)];exact e⟩⟩
theorem Rd.below {w w':World} {p:Nat} {s:ByteArray} {l:Bs} (h:Rd w p s l) (k:Below w.heap.size w w'):Rd w' p s l:=
 h.turned (Tn.of_below (p:=p+1) k) (by omega) (by omega)
theorem Rd.set {w:World} {p:Nat} {s:ByteArray} {l:Bs} (h:Rd w p s l) {r:Bs} (hr:r<:+raw s):Rd (w.setCell ⟨p,1,none⟩ (.int .i64 (pos s r))) p s r:=by
 have hc:=h.c1;refine⟨h.short,hr,by rw[size_setCell];exact h.lt,h.ne,?_,?_,?_,?_⟩
 ·rw[World.cell?_setCell_other _ _ _ _ (by simp)];exact h.c0
 ·exact World.cell?_setCell_same _ _ _ hc
 ·rw[World.frozen?_setCell];exact h.fz
 ·obtain⟨m,e⟩:=h.g;exact⟨m,by rw[World.cell?_setCell_other _ _ _ _ (by intro e;simp at e)];exact e⟩
theorem Rd.drewN {w:World} {p:Nat} {s:ByteArray} {l:Bs} (h:Rd w p s l) (q:Nat):Rd (w.drewN q) p s l:=⟨h.short,h.suf,h.lt,h.ne,h.c0,h.c1,h.fz,h.g⟩
theorem Rd.moved {w:World} {p:Nat} {s:ByteArray} {l:Bs} (h:Rd w p s l) {n:Nat} (hn:n≤l.length) {x:Int} (hx:x=(pos s l:Int)+n):Rd (w.setCell ⟨p,1,none⟩ (.int .i64 x)) p s (l.drop n):=by
 have:=h.set (J8 h.suf n);rw[Hq h.suf hn] at this;rw[hx];exact this
theorem Tn.moved {w w':World} {p:Nat} (h:Tn p w w') (v:Value) (o:Nat):Tn p w (w'.setCell ⟨p,o,none⟩ v):=h.setCell (Or.inl rfl) v
end Go.Proofs.YtafmbokfkbccaaaGreatDoor
namespace Go.Proofs.YtafmbokfkbccaaaGreatDoor
open Go.RowKit Go.Sort
theorem O9:∀l:Bs,(Lib.cut l [10]).1=l.takeWhile (fun c=>c != 10):=by
 intro l
 induction l with
 |nil=>simp[Lib.cut,Lib.index]
 |cons c t ih=>
  by_cases h:c=10
  ·subst h;simp[Lib.cut,Lib.index,List.isPrefixOf]
  ·have h':¬(10:UInt8)=c:=fun e=>h e.symm;rw[List.takeWhile_cons,if_pos (by simpa using h)];have hg:=Lib.index_ge t [10];unfold Lib.cut at ih⊢;have e:Lib.index (c::t) [10]=if Lib.index t [10]== -1 then-1 else Lib.index t [10]+1:=by
    rw[Lib.index];simp[List.isPrefixOf,h']
   rw[e]
   by_cases hi:Lib.index t [10]= -1
   ·rw[hi] at ih⊢;simp at ih⊢;exact ih
   ·have h0:0≤Lib.index t [10]:=by omega
    have hb:(Lib.index t [10]== -1)=false:=by simpa using hi
    rw[hb,if_neg (c:=false=true) (by simp),if_pos (by omega)];rw[if_pos h0] at ih;rw[show(Lib.index t [10]+1).toNat=(Lib.index t [10]).toNat+1 by omega,List.take_succ_cons];exact congrArg _ ih
theorem Ht:∀l:Bs,skip (l.drop (l.takeWhile (fun c=>c != 10)).length)=kD true l:=by
 intro l
 induction l with
 |nil=>rfl
 |cons c t ih=>
  by_cases h:c=10
  ·subst h;simp[Jv,skip,vO]
  ·rw[F8 h,List.takeWhile_cons,if_pos (by simpa using h)];simpa using ih
set_option maxHeartbeats 1000000 in
theorem J9 (p:Nat) (s:ByteArray) (l:Bs) (w:World) (h:Rd w p s l):
  Calls Tryz.prog 268 #[.pointer (some ⟨p,0,none⟩)] w fun e w'=>e=.returned (.tuple #[])∧Rd w' p s (l.drop (l.takeWhile (fun c=>c != 10)).length)∧Tn p w w':=by
 have H:=hide h;have c0:=h.c0;have c1:=h.c1;have fz:=h.fz;obtain⟨m,hm⟩:=h.g;have hcut:=Hr h.suf;have hps:=xq s l;have hs:=h.short;have hll:=qX h.suf;have HC:Hid (∀q,Calls Tryz.prog 299 #[.string (bs l),.string {data:=#[10]}] (w.drewN q) fun e w'=>e=.returned (.tuple #[.string (bs (l.takeWhile (fun c=>c != 10))),.string ⟨(Lib.cut l [10]).2.1.toArray⟩,.bool (Lib.cut l [10]).2.2])∧∃n,w'=(w.drewN q).drewN n):=fun q=>by
  have:=Tryz.strings_Cut (bs l) {data:=#[10]} m (w.drewN q) (by rw[jB];omega) hm;have e:(bs l).data.toList=l:=iD l;rw[e] at this;refine this.mono ?_;rintro e w' ⟨rfl,hw⟩;exact⟨by rw[←O9];rfl,hw⟩
 generalize ht:l.takeWhile (fun c=>c != 10)=t at HC⊢;have hle:t.length≤l.length:=by rw[←ht];exact(List.takeWhile_prefix _).length_le
 have hn:(bs t).size=t.length:=jB t;have HP:=hide (Hq h.suf hle);clear h hm ht
 go_enter Tryz.func268,Tryz.ntmps268
 go_wp2
 go_quiet ((go_at_call 299;exact Calls.quiet_of (HC.out _)))
 go_wp2;go_end0;exact⟨rfl,(H.out.drewN _).moved hle rfl,((Tn.refl p w).drewN _).moved _ _⟩
theorem MQ {s:ByteArray} {l:Bs} {c:UInt8} (h:(c::l)<:+raw s):∃hk:pos s (c::l)<s.size,s[pos s (c::l)]=c:=by
 have hl:=qX h;have hk:pos s (c::l)<s.size:=by simp only[pos,List.length_cons] at*;omega
 refine⟨hk,?_⟩;have e:=DC h;have hk':pos s (c::l)<(raw s).length:=by rw[aP];exact hk
 rw[List.drop_eq_getElem_cons hk'] at e;have:=(List.cons.inj e).1;rw[zi hk hk'] at this;exact this
theorem Cz {c d:UInt8} (h:¬c=d):((c.toNat:Int)==(d.toNat:Int))=false:=by
 rw[beq_eq_false_iff_ne];intro e;exact h (UInt8.toNat_inj.1 (by omega))
set_option maxHeartbeats 2000000 in
theorem MR (p:Nat) (s:ByteArray) (l:Bs) (w:World) (h:Rd w p s l):
  Calls Tryz.prog 215 #[.pointer (some ⟨p,0,none⟩)] w fun e w'=>e=.returned (.tuple #[])∧Rd w' p s (skip l)∧Tn p w w':=by
 have H:=hide h;clear h
 go_enter Tryz.func215,Tryz.ntmps215
 go_wp2
 go_loopg [] (l.length+1) (fun k wr=>∃l',l'.length<k∧Rd wr p s l'∧skip l'=skip l∧Tn p w wr)
 case atStart=>exact⟨l,by omega,H.out,rfl,Tn.refl _ _⟩
 case round=>
  obtain⟨l',hk,hR,hE,hT⟩:=hrel;have HR:=hide hR;have HE:=hide hE;have HT:=hide hT;have c0:=hR.c0;have c1:=hR.c1;have fz:=hR.fz;have hps:=xq s l';have hs:=hR.short;have RQ:=hR.suf;clear hR hE hT;cases l' with
  |nil=>
   have hend:¬pos s []<s.size:=by simp[pos]
   go_wp2
   go_quiet (fail)
   go_wp2;go_end0;refine⟨rfl,?_,HT.out.drewN _⟩;have:Rd wr p s []:=HR.out;rw[←HE.out];exact this.drewN _
  |cons c t=>
   obtain⟨hlt,hget⟩:=MQ RQ;have HS:=hide RQ;clear RQ
   by_cases hb:c=32∨c=10
   ·have HQ:Hid (skip t=skip l):=by show _=_;rw[←HE.out,skip,skip,vO hb]
    have HM:Hid (∀q,Rd ((wr.drewN q).setCell ⟨p,1,none⟩ (.int .i64 ((pos s (c::t):Int)+1))) p s t):=fun q=>(HR.out.drewN q).moved (n:=1) (by simp) rfl;have HN:=hide (by simpa using hk:t.length+1<gk);rcases hb with rfl|rfl
    ·generalize pos s (32::t)=k at*;go_wp2
     go_quiet (fail)
     go_wp2
     go_quiet (fail)
     go_wp2
     go_roundg (t.length+1)
     case measure=>exact HN.out
     case rel=>exact⟨t,by omega,HM.out _,HQ.out,(HT.out.drewN _).moved _ _⟩
    ·generalize pos s (10::t)=k at*;go_wp2
     go_quiet (fail)
     go_wp2
     go_quiet (fail)
     go_wp2
     go_roundg (t.length+1)
     case measure=>exact HN.out
     case rel=>exact⟨t,by omega,HM.out _,HQ.out,(HT.out.drewN _).moved _ _⟩
   ·by_cases h37:c=37
    ·subst h37;have HQ:Hid (skip ((37::t).drop ((37::t).takeWhile (fun c=>c != 10)).length)=skip l):=by
      show _=_;rw[←HE.out,Ht,skip,F7,F8 (by decide)]
     have HN:Hid (((37::t).drop ((37::t).takeWhile (fun c=>c != 10)).length).length+1<gk):=by
      show _<_;rw[List.takeWhile_cons,if_pos (by decide)];simp at hk⊢;omega
     have HC:=hide (fun w' (hw:Rd w' p s (37::t))=>J9 p s (37::t) w' hw);generalize(37::t).drop ((37::t).takeWhile (fun c=>c != 10)).length=t' at*;generalize pos s (37::t)=k at*;go_wp2
     go_quiet (fail)
     go_wp2
     go_quiet (fail)
     go_wp2_with fail
     refine(HC.out _ (HR.out.drewN _)).mono ?_;rintro e w1 ⟨rfl,hR1,hT1⟩;have HR1:=hide hR1;have HT1:=hide ((HT.out.drewN _).trans hT1);clear hR1 hT1;go_wp2
     go_roundg (t'.length+1)
     case measure=>exact HN.out
     case rel=>exact⟨t',by omega,HR1.out,HQ.out,HT1.out⟩
    ·have HQ:Hid (c::t=skip l):=by show _=_;rw[←HE.out,skip,D8 hb h37]
     have n1:((c.toNat:Int)==32)=false:=Cz (d:=32) (fun e=>hb (Or.inl e));have n2:((c.toNat:Int)==10)=false:=Cz (d:=10) (fun e=>hb (Or.inr e));have n3:((c.toNat:Int)==37)=false:=Cz (d:=37) h37;clear hb h37;generalize pos s (c::t)=k at*;go_wp2
     go_quiet (fail)
     go_wp2
     go_quiet (fail)
     go_wp2
     first|go_end0|refine bodyPost_ret (results_none rfl _ _ _) rfl ?_
     refine⟨rfl,?_,HT.out.drewN _⟩;rw[←HQ.out];exact HR.out.drewN _
end Go.Proofs.YtafmbokfkbccaaaGreatDoor
namespace Go.Proofs.YtafmbokfkbccaaaGreatDoor
open Go.RowKit Go.Sort
set_option maxHeartbeats 1000000 in
theorem Lh (p:Nat) (s:ByteArray) (l:Bs) (w:World) (h:Rd w p s l):
  Calls Tryz.prog 155 #[.pointer (some ⟨p,0,none⟩)] w fun e w'=>e=.returned (.bool (decide (skip l=[])))∧Rd w' p s (skip l)∧Tn p w w':=by
 have HC:=hide (MR p s l w h);clear h
 go_enter Tryz.func155,Tryz.ntmps155
 go_wp2_with fail
 refine HC.out.mono ?_;rintro e w1 ⟨rfl,hR,hT⟩;have HR:=hide hR;have HT:=hide hT;have c0:=hR.c0;have c1:=hR.c1;have hps:=xq s (skip l);have hs:=hR.short;have HE:Hid (((pos s (skip l):Int)==s.size)=decide (skip l=[])):=by
  show _=_;have hl:=qX hR.suf;rw[Bool.eq_iff_iff,beq_iff_eq,decide_eq_true_iff]
  constructor
  ·intro e;simp only[pos] at e;exact List.eq_nil_of_length_eq_zero (by omega)
  ·intro e;rw[e];simp[pos]
 clear hR hT;generalize hk:pos s (skip l)=k at*;clear hk;go_wp2
 go_quiet (fail)
 go_wp2;go_ret;exact⟨cK HE.out,HR.out.drewN _,HT.out.drewN _⟩
set_option maxHeartbeats 1000000 in
theorem AQ (p:Nat) (s:ByteArray) (l g:Bs) (w:World) (h:Rd w p s l):
  Calls Tryz.prog 235 #[.pointer (some ⟨p,0,none⟩),.string (bs g)] w fun e w'=>e=.returned (.bool (took g l).1)∧Rd w' p s (took g l).2∧Tn p w w':=by
 have HC:=hide (MR p s l w h);clear h
 go_enter Tryz.func235,Tryz.ntmps235
 go_wp2_with fail
 refine HC.out.mono ?_;rintro e w1 ⟨rfl,hR,hT⟩;have HR:=hide hR;have HT:=hide hT;have c0:=hR.c0;have c1:=hR.c1;have fz:=hR.fz;have hps:=xq s (skip l);have hs:=hR.short;have hcut:=Hr hR.suf;have hgz:(bs g).size=g.length:=jB g;have HP:Hid (∀q,Calls Tryz.prog 277 #[.string (bs (skip l)),.string (bs g)] (w1.drewN q) fun e w'=>e=.returned (.bool (g.isPrefixOf (skip l)))∧w'=w1.drewN q):=fun q=>by
  have:=Tryz.strings_HasPrefix (bs (skip l)) (bs g) (w1.drewN q);have e1:(bs (skip l)).data.toList=skip l:=iD _;have e2:(bs g).data.toList=g:=iD _;rw[e1,e2] at this;exact this
 have hll:=qX hR.suf;clear hR hT;cases hpre:g.isPrefixOf (skip l)
 ·have HE:Hid (took g l=(false,skip l)):=by show _=_;unfold took;rw[hpre];rfl
  rw[hpre] at HP;clear hpre;generalize hk:pos s (skip l)=k at*;clear hk;go_wp2
  go_quiet ((go_at_call 277;exact Calls.quiet_of_same (HP.out _)))
  go_wp2;go_ret;rw[HE.out];exact⟨rfl,HR.out.drewN _,HT.out.drewN _⟩
 ·have hle:g.length≤(skip l).length:=(List.isPrefixOf_iff_prefix.1 hpre).length_le;have HE:Hid (took g l=(true,(skip l).drop g.length)):=by show _=_;unfold took;rw[hpre];rfl
  have VU:pos s (skip l)+g.length≤s.size:=by simp only[pos];omega
  have HM:=hide (fun q=>(HR.out.drewN q).moved hle rfl);rw[hpre] at HP;clear hpre;generalize hk:pos s (skip l)=k at*;clear hk;go_wp2
  go_quiet ((go_at_call 277;exact Calls.quiet_of_same (HP.out _)))
  go_wp2;go_ret;rw[HE.out];exact⟨rfl,HM.out _,(HT.out.drewN _).moved _ _⟩
set_option maxHeartbeats 1000000 in
theorem Pb (p:Nat) (s:ByteArray) (l:Bs) (w:World) (h:Rd w p s l):
  Calls Tryz.prog 318 #[.pointer (some ⟨p,0,none⟩)] w fun e w'=>e=.returned (.string (bs ((skip l).takeWhile dM)))∧Rd w' p s (skip l)∧Tn p w w':=by
 have HC:=hide (MR p s l w h);clear h
 go_enter Tryz.func318,Tryz.ntmps318
 go_wp2_with fail
 refine HC.out.mono ?_;rintro e w1 ⟨rfl,hR,hT⟩;have HR:=hide hR;have HT:=hide hT;have c0:=hR.c0;have c1:=hR.c1;have fz:=hR.fz;have hps:=xq s (skip l);have hs:=hR.short;have hcut:=Hr hR.suf;have hll:=qX hR.suf;have HP:Hid (∀q,Calls Tryz.prog 178 #[.string (bs (skip l))] (w1.drewN q) fun e w'=>e=.returned (.string (bs ((skip l).takeWhile dM)))∧w'=w1.drewN q):=fun q=>by
  have:=LH (bs (skip l)) (w1.drewN q) (by rw[jB];omega);rw[iD] at this;exact this
 clear hR hT;generalize hk:pos s (skip l)=k at*;clear hk;go_wp2
 go_quiet ((go_at_call 178;exact Calls.quiet_of_same (HP.out _)))
 go_wp2;go_ret;exact⟨rfl,HR.out.drewN _,HT.out.drewN _⟩
def qF (e:Int) (s:ByteArray) (r:Bs):Ending:=.panicked [{v:=.iface 220 (.agg #[.int .i64 e,.int .i64 (pos s r)]),recovered:=false}]
set_option maxHeartbeats 1000000 in
theorem Hu (p:Nat) (s:ByteArray) (l:Bs) (x:Int) (w:World) (h:Rd w p s l):
  Calls Tryz.prog 171 #[.pointer (some ⟨p,0,none⟩),.int .i64 x] w fun e w'=>e=qF x s l∧w'=w:=by
 have c0:=h.c0;have c1:=h.c1;clear h;unfold qF
 go_enter Tryz.func171,Tryz.ntmps171
 go_wp2;exact⟨rfl,rfl,rfl⟩
set_option maxHeartbeats 1000000 in
theorem EY (p:Nat) (s:ByteArray) (l:Bs) (b:Bool) (w:World) (h:Rd w p s l):
  Calls Tryz.prog 154 #[.pointer (some ⟨p,0,none⟩),.bool b] w fun e w'=>e=(if b then .returned (.tuple #[]) else qF 2 s l)∧w'=w:=by
 have HF:=hide (Hu p s l 2 w h);clear h;cases b
 ·go_enter Tryz.func154,Tryz.ntmps154
  go_wp2_with fail
  refine HF.out.mono ?_;rintro e w1 ⟨rfl,rfl⟩;exact⟨rfl,rfl,rfl⟩
 ·go_enter Tryz.func154,Tryz.ntmps154
  go_wp2;go_end0;exact⟨rfl,rfl⟩
def oq {α:Type} (p:Nat) (s:ByteArray) (w:World) (V:World→Value→α→Prop) (x:Res α) (e:Ending) (w':World):Prop:=
 Tn p w w'∧match x with
  | .ok a r=>(∃v,e=.returned v∧V w' v a)∧Rd w' p s r
  | .bad n r=>e=qF n s r∧Rd w' p s r
theorem mK {α:Type} {p:Nat} {s:ByteArray} {w w':World} {V:World→Value→α→Prop} {x:Res α} {a:α} {r:Bs} {v:Value} (hx:x=.ok a r) (hT:Tn p w w') (hV:V w' v a) (hR:Rd w' p s r):oq p s w V x (.returned v) w':=by
 subst hx;exact⟨hT,⟨v,rfl,hV⟩,hR⟩
theorem eO {α:Type} {p:Nat} {s:ByteArray} {w w':World} {V:World→Value→α→Prop} {x:Res α} {n:Int} {r:Bs} (hx:x=.bad n r) (hT:Tn p w w') (hR:Rd w' p s r):oq p s w V x (qF n s r) w':=by
 subst hx;exact⟨hT,rfl,hR⟩
def Fits (g:Nat) (f:Bs→Bool):Prop:=∀l w,l.length≤3000→Calls Tryz.prog g #[.string (bs l)] w fun e w'=>e=.returned (.bool (f l))∧w'=w
theorem AR:Fits 104 isNamed:=fun l w _=>by
 have:=named (bs l) w;rw[lU,iD] at this;exact this
theorem toList_none:(bs []).toList=[]:=by
 unfold ByteArray.toList ByteArray.toList.loop
 rfl
set_option maxHeartbeats 400000 in
theorem Pd (s:ByteArray) (w:World) (hs:s.size≤281474976710656):Calls Tryz.prog 319 #[.string s] w fun e w'=>e=.returned (.string s)∧Below w.heap.size w w':=by
 have HC:=hide (Tryz.stringslite_Clone s w hs)
 go_enter Tryz.func319,Tryz.ntmps319
 go_wp2_with fail
 refine HC.out.mono ?_;rintro e w1 ⟨rfl,hB⟩;have HB:=hide hB;clear hB;go_wp2;go_ret;exact⟨rfl,HB.out⟩
theorem Pe (x:Bs) (h:x≠[]):(bs x).toList.isEmpty=false:=by
 cases hx:(bs x).toList.isEmpty with
 |false=>rfl
 |true=>
  exfalso
  apply h
  have e:(bs x).toList=(bs []).toList:=by
   rw[List.isEmpty_iff.1 hx,toList_none]
  exact qO (toList_inj e)
set_option maxHeartbeats 2000000 in
theorem Pf (g:Nat) (f:Bs→Bool) (hg:Fits g f) (eg:∀args w,(callFunc g args).run Tryz.prog w=.ok (.enter g args) w) (p:Nat) (s:ByteArray) (l:Bs) (w:World) (h:Rd w p s l):
  Calls Tryz.prog 274 #[.pointer (some ⟨p,0,none⟩),.func (.func g) #[] #[]] w fun e w'=>oq p s w (fun _ v a=>v=.string (bs a)) (word f l) e w':=by
 have HC:=hide (Pb p s l w h);have HG:=hide hg;clear h hg
 go_enter Tryz.func274,Tryz.ntmps274
 go_wp2_with fail
 refine HC.out.mono ?_;rintro e w1 ⟨rfl,hR,hT⟩;have HR:=hide hR;have HT:=hide hT;have c0:=hR.c0;have c1:=hR.c1;have fz:=hR.fz;have hps:=xq s (skip l);have hs:=hR.short;have hll:=qX hR.suf;have hle:((skip l).takeWhile dM).length≤(skip l).length:=(List.takeWhile_prefix _).length_le;have VU:pos s (skip l)+((skip l).takeWhile dM).length≤s.size:=by simp only[pos];omega
 have HM:=hide (fun w' (h':Rd w' p s (skip l))=>h'.moved hle rfl);have hz:=jB ((skip l).takeWhile dM)
 by_cases h0:(skip l).takeWhile dM=[]
 ·have HW:Hid (word f l=.bad 2 (skip l)):=by show _=_;unfold word;rw[if_pos h0]
  rw[h0] at hz⊢;have HF:=hide (EY p s (skip l) false w1 hR);have he:(bs []).toList.isEmpty=true:=by rw[toList_none];rfl
  clear hR hT h0
  go_wp2_with fail
  refine HF.out.mono ?_;rintro e w2 ⟨rfl,rfl⟩;exact⟨rfl,eO HW.out HT.out HR.out⟩
 ·have he:=Pe _ h0;have HF:=hide (EY p s (skip l) true w1 hR);have HFT:=hide (Hu p s (skip l) 7 w1 hR);have HB:Hid (((skip l).takeWhile dM).length≤3000):=by show _≤_;omega
  have HCl:=hide (fun w'=>Pd (bs ((skip l).takeWhile dM)) w' (by rw[jB];omega));have HW:Hid (word f l=if f ((skip l).takeWhile dM) then .ok ((skip l).takeWhile dM) ((skip l).drop ((skip l).takeWhile dM).length) else .bad 7 (skip l)):=by
   show _=_;unfold word;rw[if_neg h0]
  clear hR hT h0;generalize(skip l).takeWhile dM=x at*;cases hf:f x
  ·rw[hf] at HW
   go_wp2_with fail
   refine HF.out.mono ?_;rintro e w2 ⟨rfl,rfl⟩
   go_wp2_with fail
   refine(HG.out x _ HB.out).mono ?_;rintro e w2 ⟨rfl,rfl⟩;rw[hf]
   go_wp2_with fail
   refine HFT.out.mono ?_;rintro e w2 ⟨rfl,rfl⟩;exact⟨rfl,eO HW.out HT.out HR.out⟩
  ·rw[hf] at HW
   go_wp2_with fail
   refine HF.out.mono ?_;rintro e w2 ⟨rfl,rfl⟩
   go_wp2_with fail
   refine(HG.out x _ HB.out).mono ?_;rintro e w2 ⟨rfl,rfl⟩;rw[hf];have HM1:=hide (HM.out _ HR.out);have HT1:=hide (HT.out.moved (.int .i64 ((pos s (skip l):Int)+x.length)) 1);generalize hk:pos s (skip l)=k at*;clear hk
   go_wp2_with fail
   refine(HCl.out _).mono ?_;rintro e w3 ⟨rfl,hB⟩;have HB3:=hide hB;clear hB;go_wp2;go_ret;exact mK HW.out (HT1.out.trans (Tn.of_below HB3.out)) rfl (HM1.out.below HB3.out)
end Go.Proofs.YtafmbokfkbccaaaGreatDoor
