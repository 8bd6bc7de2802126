import Derived.Test.YtafmbokfkbccaaaGreatDoorJB13
import Derived.Test.YtafmbokfkbccaaaGreatDoorJB17
import Derived.Shelf.SlSortCmp.WholeK
import Derived.Shelf.SlSortCmp.NoneTotal
import Derived.Test.YtafmbokfkbccaaaGreatDoorJB6
import Derived.Test.YtafmbokfkbccaaaGreatDoorJB12
import Derived.Test.YtafmbokfkbccaaaGreatDoorJB5
import Derived.Test.YtafmbokfkbccaaaGreatDoorJB3
import Derived.Test.YtafmbokfkbccaaaGreatDoorJB14
namespace Go.Proofs.YtafmbokfkbccaaaGreatDoor
open Go.RowKit Go.Sort Go.Shelf
structure Elem (w:World) (blk:Nat):Type where
 n:ByteArray
 s:Value
 args:List ByteArray
 hs:Strs w s args
 hb:∀k,s.ownBlock=some k→args≠[]→k≠blk
def Elem.fact {w:World} {blk:Nat} (x:Elem w blk):aG:=(x.n,x.args)
def Elem.enc {w:World} {blk:Nat} (x:Elem w blk):List Value:=[.string x.n,x.s]
def Elem.no (w:World) (blk:Nat):Elem w blk:=⟨ByteArray.empty,.slice none 0 0,[],⟨by simp,none,0,rfl,fun h=>absurd rfl h⟩,fun _ _ h=>absurd rfl h⟩
def Elem.cmp {w:World} {blk:Nat} (x y:Elem w blk):Int:=fM x.fact y.fact
theorem Elem.swo (w:World) (blk:Nat):SWO (ltOf (Elem.cmp (w:=w) (blk:=blk))) where
 irrefl x:=by unfold ltOf Elem.cmp;rw[aM.refl];rfl
 trans x y z h1 h2:=by
  unfold ltOf at*;rw[decide_eq_true_eq] at*;exact aM.trans _ _ _ h1 h2
 ntrans x y z h1 h2:=by
  unfold ltOf at*;rw[decide_eq_false_iff_not] at*;have:=zy (a:=x.fact) (b:=y.fact) (c:=z.fact) (Int.not_lt.1 h1) (Int.not_lt.1 h2);exact Int.not_lt.2 this
theorem MZ:∀w,(isAgg 27).run Tryz.prog w=.ok true w:=Tryz.isAgg27
theorem KH:∀w,(Go.sizeOf 27).run Tryz.prog w=.ok 2 w:=Tryz.sizeOf27
theorem Df:∀args w,(callFunc 128 args).run Tryz.prog w=.ok (.enter 128 args) w:=enters_of Tryz.func128 (by kernel_rfl) rfl
theorem lQ {α:Type} (inst:Inhabited α) (enc:α→List Value) (w:World) (blk off m:Nat) (d:Array α) (os:Array Obj) (k:Nat) (hk:k<w.heap.size) (hne:k≠blk):
  (@sortWorldK α inst enc 2 w blk off m d os).heap[k]?=w.heap[k]?:=by
 unfold sortWorldK;rw[heap_grow_old _ _ (by rw[size_putRowK];exact hk)];simp only[putRowK,putRow,mapBlock];rw[Array.getElem?_modify,if_neg (fun e=>hne e.symm)]
 rfl
theorem lS {α:Type} (inst:Inhabited α) (enc:α→List Value) (w:World) (blk off m:Nat) (d:Array α) (os:Array Obj):w.heap.size≤(@sortWorldK α inst enc 2 w blk off m d os).heap.size:=by
 unfold sortWorldK;rw[size_grow,size_putRowK];exact Nat.le_add_right _ _
theorem Elem.KI {w W:World} {blk:Nat} (x:Elem w blk) (hs:w.heap.size≤W.heap.size) (hk:∀k,k<w.heap.size→k≠blk→W.heap[k]?=w.heap[k]?):bW W (.agg #[.string x.n,x.s]) x.fact:=by
 refine⟨x.s,rfl,?_⟩
 by_cases hl:x.args=[]
 ·have:=x.hs;show Strs W x.s x.args;rw[hl] at this⊢;exact this.nil
 ·exact x.hs.kept hs fun k e=>hk k (x.hs.block_lt hl k e) (x.hb k e hl)
theorem KJ (w:World) (blk off size:Nat): @CmpLays (Elem w blk) ⟨Elem.no w blk⟩ Tryz.prog 128 #[] Elem.enc 2 Elem.cmp blk off size w:=by
 intro m os dk hd x y;have hs:=lS ⟨Elem.no w blk⟩ Elem.enc w blk off m dk os;have hk:=lQ ⟨Elem.no w blk⟩ Elem.enc w blk off m dk os;exact(jZ _ _ x.fact y.fact _ (x.KI hs hk) (y.KI hs hk)).mono fun e w' ⟨he,hw⟩=>⟨he,hw⟩
theorem qx.elems {w:World} {base g n cap:Nat} {l:List aG} (h:qx w base (.slice (some ⟨g,0,none⟩) n cap) l):
  g<w.heap.size∧base≤g∧n=l.length∧∃d:Array (Elem w g),d.toList.map Elem.fact=l∧ @HoldsK (Elem w g) ⟨Elem.no w g⟩ Elem.enc 2 w g 0 d:=by
 obtain⟨xs,ho,hx⟩:=h;have ho2:=ho.2;rcases ho2 with⟨e,_⟩|⟨g',cap',cur,e,hb,hg,hnc,hcm,hcs,htake⟩
 ·cases e
 ·simp only[Value.slice.injEq,Option.some.injEq,Addr.mk.injEq] at e;obtain⟨⟨rfl,_⟩,rfl,rfl⟩:=e;have hgl:g<w.heap.size:=(Array.getElem?_eq_some_iff.1 hg).1;refine⟨hgl,hb,rfl,?_⟩;have hsv:∀i:Fin l.length,∃x:Elem w g,x.fact=l.getD i aB∧xs[i.1*2]?=some (.string x.n)∧xs[i.1*2+1]?=some x.s:=fun i=>by
   obtain⟨c1,s,c2,c3,c4⟩:=hx i.1 i.2;exact⟨⟨(l.getD i aB).1,s,(l.getD i aB).2,c3,fun k hk ha e=>by have:=c4 k hk ha;omega⟩,rfl,c1,c2⟩
  refine⟨Array.ofFn fun i=>Classical.choose (hsv i),?_,?_⟩
  ·apply List.ext_getElem
   ·simp
   ·intro i h1 h2;have:=(Classical.choose_spec (hsv ⟨i,h2⟩)).1;simp only[List.getElem_map,Array.getElem_toList,Array.getElem_ofFn];rw[this,List.getD_eq_getElem?_getD,List.getElem?_eq_getElem h2];rfl
  ·letI:Inhabited (Elem w g):=⟨Elem.no w g⟩
   intro j hj;rw[size_flatK,Array.size_ofFn] at hj;have hj2:j/2<l.length:=by omega
   rw[get_flatK _ _ _ _ (by rw[Array.size_ofFn];exact hj)];have e1:(Array.ofFn fun i=>Classical.choose (hsv i))[j/2]! =Classical.choose (hsv ⟨j/2,hj2⟩):=by
    rw[getElem!_pos _ _ (by rw[Array.size_ofFn];exact hj2),Array.getElem_ofFn]
   rw[e1];have sp:=(Classical.choose_spec (hsv ⟨j/2,hj2⟩)).2;generalize Classical.choose (hsv ⟨j/2,hj2⟩)=x at sp;have cellOf:∀u,xs[j]?=some u→w.cell? ⟨g,0+j,none⟩=some u:=fun u hu=>by
    have:=ho.cells (g:=g) rfl j u hu
    rwa [Addr.add_lit] at this
   refine⟨?_,frozen_of_row _ hg⟩;rcases Nat.mod_two_eq_zero_or_one j with hm|hm
   ·rw[hm];refine cellOf _ ?_;have:j/2*2=j:=by omega
    rw[←this];exact sp.1
   ·rw[hm];refine cellOf _ ?_;have:j/2*2+1=j:=by omega
    rw[←this];exact sp.2
theorem KL {α:Type} (inst:Inhabited α) {d d':Array α} (h:PermIn 0 d.size d d'):d'.toList.Perm d.toList:=by
 obtain⟨h1,_,h3⟩:=h;have e:d'.extract 0 d.size=d':=by rw[←h1];simp
 rw[e] at h3;simpa using h3
theorem Ae {w W:World} {g cap:Nat} (d:Array (Elem w g)) (hs:w.heap.size≤W.heap.size) (hk:∀k,k<w.heap.size→k≠g→W.heap[k]?=w.heap[k]?) (hg:g<W.heap.size) (hd:d.size≤3518437208883)
  (h: @HoldsK (Elem w g) ⟨Elem.no w g⟩ Elem.enc 2 W g 0 d):Facts W (.slice (some ⟨g,0,none⟩) d.size cap) (d.toList.map Elem.fact):=by
 letI:Inhabited (Elem w g):=⟨Elem.no w g⟩
 refine⟨by simpa using hd,some ⟨g,0,none⟩,cap,by simp,fun _=>⟨g,0,rfl,hg,fun i hi=> ?_⟩⟩;have hi':i<d.size:=by simpa using hi
 have c0:=(h.cell (i:=i) (c:=0) hi' (by omega)).1;have c1:=(h.cell (i:=i) (c:=1) hi' (by omega)).1;have e:d[i]! =d[i]:=getElem!_pos d i hi';have e2:(d.toList.map Elem.fact).getD i aB=d[i].fact:=by
  rw[List.getD_eq_getElem?_getD,List.getElem?_map];simp[hi']
 rw[e2];rw[e] at c0 c1;obtain⟨s,es,hs'⟩:=d[i].KI hs hk;simp only[Value.agg.injEq] at es;refine⟨c0,d[i].s,c1,?_⟩;have e3:d[i].fact.fst=d[i].n∧s=d[i].s:=by simpa using es.symm
 rw[e3.2] at hs';exact hs'
theorem Pg (w:World) (base:Nat) (v:Value) (l:List aG) (h:qx w base v l) (hl:l.length≤3518437208883):
  Calls Tryz.prog 173 #[v,.func (.func 128) #[] #[]] w fun e w'=>e=.returned (.tuple #[])∧∃l',l'.Perm l∧l'.Pairwise (fun a b=>fM a b≤0)∧Facts w' v l'∧Only base w.heap.size w w':=by
 rcases h.choose_spec.1.2 with⟨rfl,e⟩|⟨g,cap,cur,rfl,_⟩
 ·have:l=[]:=List.eq_nil_of_length_eq_zero e;subst this;exact(AnyF.slices_SortFunc_none Tryz.sortFacts none 0 _ w).mono fun e w' ⟨he,hw⟩=>⟨he,[],List.Perm.refl _,List.Pairwise.nil,by rw[hw];exact⟨by simp,none,0,rfl,fun h=>absurd rfl h⟩,by rw[hw];exact Only.refl _ _ _⟩
 ·obtain⟨hgl,hb,_,d,hd,hH⟩:=h.elems
  letI:Inhabited (Elem w g):=⟨Elem.no w g⟩
  have hsz:d.size=l.length:=by rw[←hd];simp
  have hc:=AnyQ.slices_SortFunc Tryz.sortFacts 2 MZ KH Elem.enc (fun _=>rfl) (fun x v hv=>by
   simp[Elem.enc] at hv;rcases hv with rfl|rfl
   ·rfl
   ·obtain⟨a,c,e⟩:=aZ x.hs;rw[e];rfl) Elem.cmp (Elem.swo w g) 128 #[] g 0 cap d w Df (KJ w g 0 d.size) hH hgl (by omega)
  rw[hsz] at hc;refine hc.mono ?_;rintro e w' ⟨he,d',n,os,hp,hs,rfl⟩;have hp':PermIn 0 d.size d d':=by rw[hsz];exact hp
  have hd':d'.size=d.size:=hp'.1;have hkk:=lQ ⟨Elem.no w g⟩ Elem.enc w g 0 n d' os;have hss:=lS ⟨Elem.no w g⟩ Elem.enc w g 0 n d' os;refine⟨he,d'.toList.map Elem.fact,?_,?_,?_,?_⟩
  ·rw[←hd];exact(KL _ hp').map _
  ·rw[List.pairwise_map];rw[List.pairwise_iff_getElem];intro i j hi hj hij;have:=hs i j (Nat.zero_le _) hij (by simp at hj;omega);have e1:d'[i]! =d'.toList[i]:=by rw[getElem!_pos d' i (by simpa using hi)];simp
   have e2:d'[j]! =d'.toList[j]:=by rw[getElem!_pos d' j (by simpa using hj)];simp
   rw[e1,e2] at this;unfold ltOf Elem.cmp at this;rw[decide_eq_false_iff_not] at this;have:=aM.swap d'.toList[i].fact d'.toList[j].fact;omega
  ·have:=Ae (cap:=cap) d' hss hkk (Nat.lt_of_lt_of_le hgl hss) (by omega) (holdsK_sortWorldK_c Elem.enc 2 w g 0 d d' n os hH hgl hd');rw[hd',hsz] at this;exact this
  ·refine⟨rfl,rfl,rfl,Nat.le_add_right _ _,hss,fun k hk ho=>hkk k hk (by omega)⟩
end Go.Proofs.YtafmbokfkbccaaaGreatDoor
namespace Go.Proofs.YtafmbokfkbccaaaGreatDoor
open Go.RowKit Go.Sort
theorem yC {w:World} {base n:Nat} {v:Value} {xs:List Value} {e:TypeId} {sz:Nat} (h:w.ownsRow base e sz v n xs):∃a cap,v=.slice a n cap:=by
 rcases h.2 with⟨rfl,rfl⟩|⟨g,cap,cur,rfl,_⟩
 ·exact⟨none,0,rfl⟩
 ·exact⟨_,cap,rfl⟩
set_option maxHeartbeats 400000 in
theorem rise (w:World) (base:Nat) (v:Value) (l:List aG) (h:qx w base v l) (hl:l.length≤3518437208883):
  Calls Tryz.prog 97 #[v] w fun e w'=>∃v' s,e=.returned v'∧CF s l∧gT w' w.heap.size v' s∧Only base w.heap.size w w':=by
 have hS:=hide (Pg w base v l h hl);obtain⟨a,cap,rfl⟩:=yC h.choose_spec.1;clear h
 go_enter Tryz.func97,Tryz.ntmps97
 go_wp2_with fail
 refine hS.out.mono ?_;rintro e w1 ⟨rfl,l',hp,hs,hF,hO⟩;have hle:l'.length=l.length:=hp.length_eq
 go_wp2_with fail
 refine(CX w1).mono ?_;rintro e w2 ⟨rfl,hL2,hz2,hlast⟩;have hK:=hide (keep 238 #[.pointer (some ⟨w1.heap.size+1,0,none⟩),.pointer (some ⟨w1.heap.size,0,none⟩)] CW w1.heap.size (w1.heap.size+2) w1 w2 (.slice a l.length cap) l' (newP l') (MF w1 w1.heap.size l') hF hL2 (Nat.le_refl _) (by omega) (Il w1 l')
  ⟨ByteArray.empty,none,0,0,hlast,fun h=>absurd h (Nat.lt_irrefl _)⟩)
 have HL:=hide hlast;clear hlast
 go_wp2_with fail
 refine hK.out.mono ?_;rintro e w3 ⟨v',rfl,hOw,hO3,_⟩;have hset:=Br hs l'.length (Nat.le_refl _);rw[List.take_length] at hset;have HS:=hide hset;have HW:=hide hOw;clear hset hOw;go_wp2;go_ret;have SY:Later w1 w3:=hO3.later hL2 (Nat.le_refl _);refine⟨v',_,rfl,⟨HS.out.1,fun f=>(HS.out.2.1 f).trans hp.mem_iff,by rw[←hle];exact HS.out.2.2⟩,?_,hO.trans SY.only⟩;have hsz:w.heap.size≤w2.heap.size:=Nat.le_trans hO.size hL2.size;obtain⟨xs,ho,hx⟩:=HW.out;refine⟨xs,⟨ho.1,?_⟩,fun i hi=> ?_⟩
 ·rcases ho.2 with e|⟨g,cp,cur,e,hg,r⟩
  ·exact Or.inl e
  ·exact Or.inr ⟨g,cp,cur,e,Nat.le_trans hsz hg,r⟩
 ·obtain⟨c1,s,c2,c3,c4⟩:=hx i hi;exact⟨c1,s,c2,c3,fun k hk=>⟨Nat.le_trans hsz (c4 k hk).1,(c4 k hk).2⟩⟩
set_option maxHeartbeats 400000 in
theorem ofC (v:Value) (l:List aG) (w:World) (h:Facts w v l):
  Calls Tryz.prog 50 #[v] w fun e w'=>∃v' s,e=.returned v'∧CF s l∧gT w' w.heap.size v' s∧Later w w':=by
 have hC:=hide (clone v l w h);have hl:=h.1;obtain⟨a,cap,rfl⟩:=aD h;clear h
 go_enter Tryz.func50,Tryz.ntmps50
 go_wp2_with fail
 refine hC.out.mono ?_;rintro e w1 ⟨v1,rfl,hR,hL⟩;have hr:=hide (rise w1 w.heap.size v1 l hR hl);obtain⟨a1,SH,rfl⟩:=yC hR.choose_spec.1;clear hR
 go_wp2_with fail
 refine hr.out.mono ?_;rintro e w2 ⟨v2,s,rfl,hs,hO,hW⟩;have HS:=hide hs;have HO:=hide hO;clear hs hO;go_wp2;go_ret;exact⟨v2,s,rfl,HS.out,HO.out.base hL.size,hW.later hL (Nat.le_refl _)⟩
end Go.Proofs.YtafmbokfkbccaaaGreatDoor
namespace Go.Proofs.YtafmbokfkbccaaaGreatDoor
open Go.RowKit Go.Sort Go.Maps
theorem kQ {w:World} {b:Nat} {es:Array MapEntry} {c:Nat} {x:Addr} {v:Value} (hb:w.heap[b]?=some (.map es c)) (hx:w.cell? x=some v):x.block≠b:=by
 intro e;subst e;simp[World.cell?,hb] at hx
theorem yD {P:Program} {K:TypeId} {w:World} {b n:Nat} {L:List aj} (h:fF P K w b n L):∃es c,w.heap[b]?=some (.map es c):=by
 obtain⟨D,⟨es,c,hb,_⟩,_⟩:=h;exact⟨es,c,hb⟩
theorem Af {w w':World} {b:Nat} {v:Value} {l:List ByteArray} (h:Strs w v l) (hb:∃es c,w.heap[b]?=some (.map es c)) (k:Tn b w w'):Strs w' v l:=by
 obtain⟨es,c,hb⟩:=hb;obtain⟨h0,a,cap,rfl,h1⟩:=h;refine⟨h0,a,cap,rfl,fun hl=> ?_⟩;obtain⟨b1,off,rfl,hlt,hc⟩:=h1 hl;refine⟨b1,off,rfl,Nat.lt_of_lt_of_le hlt k.size,fun i hi=> ?_⟩;rw[k.cell (x:=⟨b1,off+i,none⟩) hlt (kQ hb (hc i hi))];exact hc i hi
theorem Iy {w w':World} {b:Nat} {v:Value} {f:aG} (h:bW w v f) (hb:∃es c,w.heap[b]?=some (.map es c)) (k:Tn b w w'):bW w' v f:=by
 obtain⟨s,rfl,h1⟩:=h;exact⟨s,rfl,Af h1 hb k⟩
theorem vV {w w':World} {b:Nat} {v:Value} {l:List aG} (h:Facts w v l) (hb:∃es c,w.heap[b]?=some (.map es c)) (k:Tn b w w'):Facts w' v l:=by
 obtain⟨h0,a,cap,rfl,h1⟩:=h;refine⟨h0,a,cap,rfl,fun hl=> ?_⟩;obtain⟨b1,off,rfl,hlt,hc⟩:=h1 hl;refine⟨b1,off,rfl,Nat.lt_of_lt_of_le hlt k.size,fun i hi=> ?_⟩;obtain⟨c1,s,c2,c3⟩:=hc i hi;obtain⟨es,c,hb'⟩:=hb;exact⟨by rw[k.cell (x:=⟨b1,off+i*2,none⟩) hlt (kQ hb' c1)];exact c1,s,by rw[k.cell (x:=⟨b1,off+i*2+1,none⟩) hlt (kQ hb' c2)];exact c2,Af c3 ⟨es,c,hb'⟩ k⟩
theorem fU {b:Nat} {w w':World} (h:w.grownBy w' (some b)):Tn b w w':=⟨h.os,h.tape,h.output,h.size,fun k hk hb=>h.block k hk (fun e=>hb (by cases e;rfl))⟩
abbrev KnN (w:World) (b n:Nat) (L:List aj):Prop:=fF Tryz.prog 9 w b n L
set_option maxHeartbeats 2000000 in
theorem vW (b n:Nat) (L:List aj) (v:Value) (l:List aj) (w:World) (hK:KnN w b n L) (hv:Facts w v l) (hs:∀f∈l,kM f) (hn:n+l.length<1000000):
  Calls Tryz.prog 91 #[.map (some b),v] w fun e w'=>(∃u,e=.returned u)∧KnN w' b (n+l.length) (L++l)∧Tn b w w':=by
 obtain⟨a,cap,rfl,hl,hz⟩:=hv.addr;have hM:=yD hK;have HM:=hide hM;have HV:=hide hv;have HS:=hide hs;have HK:Hid (KnN w b (n+0) (L++l.take 0)):=by show KnN _ _ _ _;simpa using hK
 clear hv hs hK hM
 go_enter Tryz.func91,Tryz.ntmps91
 go_wp2
 go_loopg [8] l.length (fun k i wr=>∃j:Nat,j+k=l.length∧i=.int .i64 j∧Hid (KnN wr b (n+j) (L++l.take j))∧Hid (Tn b w wr))
 case atStart=>exact⟨0,by omega,rfl,HK,Tn.refl _ _⟩
 case round=>
  clear HK;obtain⟨j,hj,rfl,HK,HT⟩:=hrel
  by_cases hlt:j<l.length
  ·rcases hz with rfl|⟨b1,off,rfl⟩
   ·simp at hlt
   have hltz:(j:Int)<(l.length:Int):=by omega
   have hFr:=vV HV.out HM.out HT.out;obtain⟨hb,ax,lx,cx,g1,g2,fx⟩:=hFr.at hlt;have hfm:l.getD j aB∈l:=by rw[List.getD_eq_getElem?_getD,List.getElem?_eq_getElem hlt];exact List.getElem_mem hlt
   have htk:l.take (j+1)=l.take j++[l.getD j aB]:=by rw[List.take_add_one,List.getD_eq_getElem?_getD,List.getElem?_eq_getElem hlt];rfl
   have hsh:=HS.out _ hfm;obtain⟨wb,hwb⟩:∃wb,wb=wr.alloc (.cells #[.string (l.getD j aB).1,.slice ax lx cx] 27):=⟨_,rfl⟩;have hLb:Later wr wb:=by rw[hwb];exact(Later.refl _).alloc _
   have hrb:wb.heap[wr.heap.size]?=some (.cells #[.string (l.getD j aB).1,.slice ax lx cx] 27 (0,0)):=by rw[hwb];exact heap_alloc_new wr _
   have hfb:=fx.later hLb;have hKb:=HK.out.later hLb;have HC:Hid (∀w',Below wb.heap.size wb w'→Calls Tryz.prog 166 #[.agg #[.string (l.getD j aB).1,.slice ax lx cx]] w' fun e w''=>e=.returned (.string (bs (qN (l.getD j aB))))∧Hid (Below wb.heap.size wb w'')):=fun w' hw=>
    (MO _ _ w' (lX hfb hw) hsh).mono fun e w'' ⟨he,h2⟩=>⟨he,ak hw h2 hw.size⟩
   have hcell:∀w',Below wb.heap.size wb w'→w'.cell? ⟨wr.heap.size,0,none⟩=some (.string (l.getD j aB).1)∧w'.cell? ⟨wr.heap.size,0+1,none⟩=some (.slice ax lx cx):=fun w' hw=>by
    have hlt':wr.heap.size<wb.heap.size:=(Array.getElem?_eq_some_iff.1 hrb).1
    constructor
    ·rw[hw.cell (p:=⟨wr.heap.size,0,none⟩) hlt',cell_of_row _ _ _ _ _ _ hrb];rfl
    ·rw[hw.cell (p:=⟨wr.heap.size,0+1,none⟩) hlt',cell_of_row _ _ _ _ _ _ hrb];rfl
   have HU:Hid (∀w',Below wb.heap.size wb w'→∃w'',(Instr.mapUpdate 160 (.map (some b)) (.string (bs (qN (l.getD j aB)))) (.agg #[.string (l.getD j aB).1,.slice ax lx cx])).run Tryz.prog w'=.ok () w''∧KnN w'' b (n+(j+1)) (L++l.take (j+1))∧Tn b w w''∧w''.cell? ⟨wr.heap.size,0,none⟩=some (.string (l.getD j aB).1)∧w''.cell? ⟨wr.heap.size,0+1,none⟩=some (.slice ax lx cx)):=fun w' hw=>by
    have hK':KnN w' b (n+j) (L++l.take j):=hKb.below hw;have hf':=lX hfb hw;have hkl:=Io hsh;obtain⟨w'',hrun,hg,hkn⟩:=hK'.store Tryz.underlying9 Tryz.underlying160 (by unfold maxLen;omega) hf' (by unfold maxLen;omega);refine⟨w'',hrun,?_,?_,?_⟩
    ·rw[htk,←List.append_assoc,show n+(j+1)=n+j+1 by omega];exact hkn fun g _ u hu=>Iy hu (yD hK') (fU hg)
    ·exact((HT.out.trans (Tn.of_below hLb.below)).trans (Tn.of_below hw)).trans (fU hg)
    ·have hblt:b<wr.heap.size:=HK.out.lt;have hlt':wr.heap.size<w'.heap.size:=Nat.lt_of_lt_of_le (Array.getElem?_eq_some_iff.1 hrb).1 hw.size;obtain⟨q0,q1⟩:=hcell w' hw;exact⟨by rw[(fU hg).cell (x:=⟨wr.heap.size,0,none⟩) hlt' (by show wr.heap.size≠b;omega)];exact q0,by rw[(fU hg).cell (x:=⟨wr.heap.size,0+1,none⟩) hlt' (by show wr.heap.size≠b;omega)];exact q1⟩
   have M0:=hide hcell;generalize bs (qN (l.getD j aB))=kb at*;generalize(l.getD j aB).1=nk at*;clear hcell htk hsh hfm hrb hfb hKb hFr fx hLb;go_wp2;rw[←hwb];clear hwb;refine wp_region_held_drew (S:=fun w'=>w'.cell? ⟨wr.heap.size,0,none⟩=some (.string nk)∧w'.cell? ⟨wr.heap.size,0+1,none⟩=some (.slice ax lx cx)) (by kernel_rfl) (M0.out _ (Below.refl _ _).drew) (fun hHeld=> ?_);refine au (i:=0) (d:=some 12) (v:= ?_) rfl rfl hHeld ?_ ?_;rotate_left;focus intro w hSw;(try dsimp only at hSw);go_simp;try with_reducible rfl
   simp only[bP,bQ,aze,asu];refine au (i:=1) (d:=some 13) (v:= ?_) rfl rfl hHeld ?_ ?_;rotate_left;focus intro w hSw;(try dsimp only at hSw);obtain⟨q0,q1⟩:=hSw;go_simp;try with_reducible rfl
   simp only[bP,bQ,aze,asu];refine au (i:=3) (d:=some 15) (v:= ?_) rfl rfl hHeld ?_ ?_;rotate_left;focus intro w hSw;(try dsimp only at hSw);obtain⟨q0,q1⟩:=hSw;go_simp;try with_reducible rfl
   simp only[bP,bQ,aze,asu];refine wpAnyH_ready (rs:=[2]) (by kernel_rfl) (by simp) ?_;refine AllReadyH.cons rfl (fun K hK=> ?_) AllReadyH.nil;go_simp;refine(HC.out _ (Below.refl _ _).drew).mono ?_;rintro e w5 ⟨rfl,hB5⟩;dsimp only;refine hK.out _ _ (M0.out _ hB5.out) (fun hHeld=> ?_);clear hK K;refine wpAnyH_ready (rs:=[4]) (by kernel_rfl) (by simp) ?_;obtain⟨w6,hrun,hK6,hT6,hc6⟩:=HU.out _ hB5.out;have HK6:=hide hK6;have HT6:=hide hT6;clear hK6 hT6;refine AllReadyH.cons rfl (fun K hK=> ?_) AllReadyH.nil;go_simp;refine hK.out _ _ hc6 (fun hHeld=> ?_);clear hK K;refine wpAnyH_done (by kernel_rfl) ?_ _;clear hc6 hHeld hrun;go_wp2
   go_roundg (l.length- (j+1))
   case measure=>omega
   case rel=>exact⟨j+1,by omega,by go_num,HK6,HT6⟩
  ·have hj':j=l.length:=by omega
   subst hj';rw[List.take_length] at HK;go_wp2;go_end0;exact⟨⟨_,rfl⟩,HK.out,HT.out⟩
set_option maxHeartbeats 1000000 in
theorem BL (b n:Nat) (L:List aj) (w:World) (hK:KnN w b n L) (hn:n≤1000000):
  Calls Tryz.prog 92 #[.map (some b)] w fun e w'=>∃v',e=.returned v'∧Facts w' v' (fO L)∧Below w.heap.size w w':=by
 obtain⟨D,hown,h1,h2,h3⟩:=hK;have hsz:Maps.size D≤3518437208883:=by have:=hown.size_le;omega
 have hL1:Later w (w.alloc (.cells #[.map (some b)] 160)):=(Later.refl w).alloc _;have hr1:(w.alloc (.cells #[.map (some b)] 160)).heap[w.heap.size]?=some (.cells #[.map (some b)] 160 (0,0)):=heap_alloc_new w _;have HV:=hide (Ku (some b) w);have HC:=hide (Ip b n w.heap.size D (w.alloc (.cells #[.map (some b)] 160)) (by simp) (by rw[cell_of_row _ _ _ _ _ _ hr1];rfl) (eU hown (hL1.block hown.lt)) hsz);have H1:=hide h1;have H2:Hid (∀f∈L,∃x,D.atKey (.string (qN f)) .nil=.held x∧bW (w.alloc (.cells #[.map (some b)] 160)) (x9 x) f):=fun f hf=>by
  obtain⟨x,e,hx⟩:=h2 f hf;exact⟨x,e,hx.later hL1⟩
 have HL1:=hide hL1.below;clear h1 h2 h3 hown hL1 hr1
 go_enter Tryz.func92,Tryz.ntmps92
 go_wp2_with fail
 refine HV.out.mono ?_;rintro e w1 ⟨rfl,rfl⟩;clear HV
 go_wp2_with fail
 refine HC.out.mono ?_;rintro e w2 ⟨v,xs,rfl,⟨ps,hA,rfl⟩,hr,hB⟩;obtain⟨l,hl,hF⟩:=zZ H1.out H2.out hsz hA hr hB;have HO:=hide (ofC v l w2 hF);have HB:Hid (Below w.heap.size w w2):=ak HL1.out hB (by simp);have HLL:=hide hl;have hl0:=hF.1;obtain⟨a,cap,rfl⟩:=aD hF;clear hA hr hB hl hF HC H1 H2 HL1
 go_wp2_with fail
 refine HO.out.mono ?_;rintro e w3 ⟨v',s,rfl,hS,hOw,hL3⟩;have es:s=fO L:=uV hS.1 fun f=>by rw[hS.2.1 f,HLL.out f]
 have HF:Hid (Facts w3 v' (fO L)):=by rw[←es];exact hOw.facts (Nat.le_trans hS.2.2 hl0)
 have HB3:Hid (Below w.heap.size w w3):=ak HB.out hL3.below HB.out.size;clear hS hOw hL3 es;go_wp2;go_ret;exact⟨v',rfl,HF.out,HB3.out⟩
end Go.Proofs.YtafmbokfkbccaaaGreatDoor
namespace Go.Proofs.YtafmbokfkbccaaaGreatDoor
open Go.RowKit Go.Sort Go.Maps
theorem j4 (pick:Nat→List aj):∀(ats:List aF) (n:Nat) (ls ms:List (List aC)),ls.length≤20000→eu pick n ats ls=some ms→ms.length≤20000
 |[],_,ls,ms,h,e=>by cases e;exact h
 |a::ats,n,ls,ms,h,e=>by
  unfold eu at e;split at e
  ·exact j4 pick ats _ ls ms h e
  ·split at e
   ·cases e
   ·exact j4 pick ats _ _ ms (by omega) e
theorem oh {pick:Nat→List aj} {body:List aF} {R:List (List aC)} (h:lF pick body=some R):R.length≤20000:=by
 unfold lF at h;cases e:eu pick 0 body [[]] with
 |none=>rw[e] at h;cases h
 |some ms=>
  rw[e] at h;cases h;have:=j4 pick body 0 [[]] ms (by simp) e;rw[(cK _).length_eq,List.length_map];exact Nat.le_trans (List.length_filter_le _ _) this
theorem yE (fs:List aG):gM fs (-1) []=fun _=>fs:=by
 funext n
 unfold gM;rw[if_neg (by omega)]
def oO (w:World) (v:Value) (er:Int) (r:aA) (fs:List aj):Prop:=
 if pO r.body fs []≠0 then v=.slice none 0 0∧er=pO r.body fs [] else match dM r fs with
  |none=>v=.slice none 0 0∧er=4
  |some x=>er=0∧Facts w v x
theorem Iz {w:World} {g:Nat} {f:aj} {s:Value} (h:w.heap[g]?=some (.cells #[.string f.1,s] 27 (0,0))) (hs:Strs w s f.2):Facts w (.slice (some ⟨g,0,none⟩) 1 1) [f]:=by
 refine⟨by simp,_,1,rfl,fun _=>⟨g,0,rfl,(Array.getElem?_eq_some_iff.1 h).1,fun i hi=> ?_⟩⟩;have:i=0:=by simp at hi;omega
 subst this;exact⟨by rw[cell_of_row _ _ _ _ _ _ h];rfl,s,by rw[cell_of_row _ _ _ _ _ _ h];rfl,hs⟩
set_option maxHeartbeats 4000000 in
theorem M4 (r:aA) (tv bv fv:Value) (fs:List aj) (w:World) (ht:dn.sl bJ w tv r.head.terms) (hb:bN.sl bJ w bv r.body) (hf:Facts w fv fs)
  (hs:∀R,lF (fun _=>fs) r.body=some R→∀l∈R,∀f,aQ r.head l=some f→kM f):
  Calls Tryz.prog 42 #[.agg #[.bool r.head.no,.string (bs r.head.name),tv,bv],fv] w fun e w'=>∃v' er,e=.returned (.tuple #[v',.int .i64 er])∧oO w' v' er r fs∧Below w.heap.size w w':=by
 obtain⟨ta,tc,rfl⟩:=Kind.slice ht;obtain⟨ba,bc,rfl⟩:=Kind.slice hb;obtain⟨fa,fc,rfl⟩:=aD hf;obtain⟨wb,hwb⟩:∃wb,wb=w.alloc (.cells #[.bool r.head.no,.string (bs r.head.name),.slice ta r.head.terms.length tc,.slice ba r.body.length bc] 87):=⟨_,rfl⟩;have hLb:Later w wb:=by rw[hwb];exact(Later.refl w).alloc _
 have hrb:wb.heap[w.heap.size]?=some (.cells #[.bool r.head.no,.string (bs r.head.name),.slice ta r.head.terms.length tc,.slice ba r.body.length bc] 87 (0,0)):=by rw[hwb];exact heap_alloc_new w _
 have HA:=hide (QG r.body (.slice ba r.body.length bc) (.slice fa fs.length fc) fs wb (Kind.aI hb hLb) (hf.later hLb));have HTm:=hide (Kind.aI ht hLb);have HS:=hide hs;have HLb:=hide hLb;have HRb:=hide hrb;have c3:wb.cell? ⟨w.heap.size,3,none⟩=some (.slice ba r.body.length bc):=by rw[cell_of_row _ _ _ _ _ _ hrb];rfl
 have HWB:=hide hwb;clear ht hb hf hs hLb hrb
 go_enter Tryz.func42,Tryz.ntmps42
 rw[hwb] at c3;clear hwb
 go_wp2_with fail
 rw[←HWB.out];clear c3;refine HA.out.mono ?_;rintro e w1 ⟨v1,er,rfl,hT,hB1⟩;clear HA;unfold Dc at hT;rw[yE] at hT;have HB1:Hid (Below w.heap.size w w1):=ak HLb.out.below hB1 HLb.out.size;have QH:w.heap.size<wb.heap.size:=(Array.getElem?_eq_some_iff.1 HRb.out).1;have HR1:Hid (w1.heap[w.heap.size]?=some (.cells #[.bool r.head.no,.string (bs r.head.name),.slice ta r.head.terms.length tc,.slice ba r.body.length bc] 87 (0,0))):=by
  show _=_;rw[hB1.block _ QH];exact HRb.out
 have HT1:=hide (Kind.aR HTm.out hB1);clear hB1 HTm HRb HLb HWB QH
 by_cases h0:pO r.body fs []=0
 ·rw[if_neg (by simp[h0])] at hT;cases hR:lF (fun _=>fs) r.body with
  |none=>
   rw[hR] at hT;obtain⟨rfl,rfl⟩:=hT;have HH:Hid (∀w',oO w' (.slice none 0 0) 4 r fs):=fun w'=>by unfold oO dM;rw[if_neg (by simp[h0]),hR];exact⟨rfl,rfl⟩
   clear h0 hR HS HR1 HT1;go_wp2;exact bodyPost_ret (v:=.tuple #[.slice none 0 0,.int .i64 4]) (by simp[results,Tryz.results42,go_sem]) rfl ⟨_,4,rfl,HH.out _,HB1.out⟩
  |some R=>
   rw[hR] at hT;obtain⟨rfl,hsl⟩:=hT;have hsmall:=oh hR;have HSh:=hide (HS.out R hR);have HH:Hid (∀w' v',Facts w' v' (fO (R.filterMap fun l=>aQ r.head l))→oO w' v' 0 r fs):=fun w' v' h=>by unfold oO dM;rw[if_neg (by simp[h0]),hR];exact⟨rfl,h⟩
   have HRL:=hide hsl;obtain⟨ra,rc,rfl⟩:=Kind.slice hsl;clear h0 hR hsl HS;have hmm:= @run_makeMap Tryz.prog;obtain⟨w2,hw2⟩:∃w2,w2=w1.alloc (.map #[] 0):=⟨_,rfl⟩;have HK2:Hid (KnN w2 w1.heap.size 0 ((R.take 0).filterMap fun l=>aQ r.head l)):=by show KnN _ _ _ _;rw[hw2];exact fF.made _ _ _
   have HB2:Hid (Below w1.heap.size w1 w2):=by show Below _ _ _;rw[hw2];exact((Later.refl w1).alloc _).below
   have HW2:=hide hw2;clear hw2;go_wp2;rw[←HW2.out];clear hmm HW2
   go_loopg [26] R.length (fun g i wr=>∃j:Nat,j+g=R.length∧i=.int .i64 j∧Hid (KnN wr w1.heap.size j ((R.take j).filterMap fun l=>aQ r.head l))∧Hid (Below w1.heap.size w1 wr))
   case atStart=>exact⟨0,by omega,rfl,HK2,HB2⟩
   case round=>
    clear HK2 HB2;obtain⟨j,hj,rfl,HK,HBr⟩:=hrel
    by_cases hlt:j<R.length
    ·obtain⟨l,hx⟩:∃x,R[j]?=some x:=⟨_,List.getElem?_eq_getElem hlt⟩;obtain⟨b1,o1,_,rfl,hb1,⟨lv,rfl,hlv⟩,hc⟩:=Kind.fP HRL.out hx;have d0:wr.cell? ⟨b1,o1+j,none⟩=some lv:=by rw[HBr.out.cell (p:=⟨b1,o1+j,none⟩) hb1];simpa[slK] using hc 0 _ rfl
     have HLV:=hide hlv;obtain⟨la,lc,rfl⟩:=Kind.slice hlv;have hbw:w.heap.size<w1.heap.size:=(Array.getElem?_eq_some_iff.1 HR1.out).1;have hrr:wr.heap[w.heap.size]?=some (.cells #[.bool r.head.no,.string (bs r.head.name),.slice ta r.head.terms.length tc,.slice ba r.body.length bc] 87 (0,0)):=by rw[HBr.out.block _ hbw];exact HR1.out
     have r0:wr.cell? ⟨w.heap.size,0,none⟩=some (.bool r.head.no):=by rw[cell_of_row _ _ _ _ _ _ hrr];rfl
     have r1:wr.cell? ⟨w.heap.size,0+1,none⟩=some (.string (bs r.head.name)):=by rw[cell_of_row _ _ _ _ _ _ hrr];rfl
     have r2:wr.cell? ⟨w.heap.size,0+2,none⟩=some (.slice ta r.head.terms.length tc):=by rw[cell_of_row _ _ _ _ _ _ hrr];rfl
     have HFc:=hide (Kg r.head _ (.slice la l.length lc) l wr (Kind.aR HT1.out HBr.out) (Kind.aR HLV.out HBr.out));have htk:R.take (j+1)=R.take j++[l]:=by rw[List.take_add_one,hx];rfl
     have hSl:=HSh.out l (List.mem_of_getElem? hx);unfold filled at HFc;clear hc hx hlv hrr;cases hfl:aQ r.head l with
     |none=>
      rw[hfl] at HFc;have HK':Hid (KnN wr w1.heap.size (j+1) ((R.take (j+1)).filterMap fun l=>aQ r.head l)):=by
       show KnN _ _ _ _;rw[htk,List.filterMap_append];simp only[List.filterMap_cons,hfl,List.filterMap_nil,List.append_nil];exact HK.out.mono (Nat.le_succ _)
      clear hfl htk hSl;generalize bs r.head.name=nm at*;generalize r.head.no=no at*
      go_wp2_with fail
      refine HFc.out.mono ?_;rintro e w3 ⟨f3,rfl,hfv,hL3⟩;obtain⟨s,rfl,hs⟩:=hfv;obtain⟨sA',sC',rfl⟩:=aZ hs;simp only[Option.isSome_none];have HL3:Hid (Later wr w3):=hL3;clear hs hL3;go_wp2
      go_roundg (R.length- (j+1))
      case measure=>omega
      case rel=>exact⟨j+1,by omega,by go_num,HK'.out.later (HL3.out.alloc _),ak HBr.out (HL3.out.alloc _).below HBr.out.size⟩
     |some f=>
      rw[hfl] at HFc;have hsf:=hSl f hfl;have hfm:(R.take (j+1)).filterMap (fun l=>aQ r.head l)=(R.take j).filterMap (fun l=>aQ r.head l)++[f]:=by
       rw[htk,List.filterMap_append];simp only[List.filterMap_cons,hfl,List.filterMap_nil]
      have HFM:=hide hfm;have HSF:=hide hsf;clear hfl htk hSl hfm hsf;generalize bs r.head.name=nm at*;generalize r.head.no=no at*
      go_wp2_with fail
      refine HFc.out.mono ?_;rintro e w3 ⟨f3,rfl,hfv,hL3⟩;simp only[Option.isSome_some,Option.getD_some] at hfv⊢;obtain⟨s,rfl,hs⟩:=hfv;obtain⟨sA',sC',rfl⟩:=aZ hs;obtain⟨fn,aH⟩:=f;dsimp only at*;obtain⟨w4,hw4⟩:∃w4,w4=(w3.alloc (.cells #[.string fn,.slice sA' aH.length sC'] 27)).alloc (.cells #[.string fn,.slice sA' aH.length sC'] 27):=⟨_,rfl⟩;have hL4:Later w3 w4:=by rw[hw4];exact((Later.refl _).alloc _).alloc _
      have hr4:w4.heap[w3.heap.size+1]?=some (.cells #[.string fn,.slice sA' aH.length sC'] 27 (0,0)):=by
       rw[hw4];have:=heap_alloc_new (w3.alloc (.cells #[.string fn,.slice sA' aH.length sC'] 27)) (.cells #[.string fn,.slice sA' aH.length sC'] 27);simpa using this
      have HAd:=hide (vW w1.heap.size j _ (.slice (some ⟨w3.heap.size+1,0,none⟩) 1 1) [(fn,aH)] w4 (HK.out.later (hL3.trans hL4)) (Iz (f:=(fn,aH)) hr4 (hs.later hL4)) (fun g hg=>by simp only[List.mem_singleton] at hg;subst hg;exact HSF.out) (by simp;omega));have HL4:Hid (Later wr w4):=hL3.trans hL4;have HW4:=hide hw4;clear hs hL3 hL4 hr4 hw4 HFc
      go_wp2_with fail
      rw[←HW4.out];refine HAd.out.mono ?_;rintro e w5 ⟨⟨u5,rfl⟩,hK5,hT5⟩;have HK5:Hid (KnN w5 w1.heap.size (j+1) ((R.take (j+1)).filterMap fun l=>aQ r.head l)):=by show KnN _ _ _ _;rw[HFM.out];exact hK5
      have hs4:w1.heap.size≤w4.heap.size:=Nat.le_trans HBr.out.size HL4.out.size;have HB5:Hid (Below w1.heap.size w1 w5):=(ak HBr.out HL4.out.below HBr.out.size).trans (hT5.below (Nat.le_refl _) hs4);clear hK5 hT5 HAd HW4;go_wp2
      go_roundg (R.length- (j+1))
      case measure=>omega
      case rel=>exact⟨j+1,by omega,by go_num,HK5,HB5⟩
    ·have hj':j=R.length:=by omega
     subst hj';rw[List.take_length] at HK;have HF:=hide (BL _ _ _ wr HK.out (by omega))
     go_wp2_with fail
     refine HF.out.mono ?_;rintro e w6 ⟨v6,rfl,hF6,hB6⟩;have HT6:=hide (HH.out _ _ hF6);have HB6:Hid (Below w.heap.size w w6):=ak (ak HB1.out HBr.out HB1.out.size) hB6 (Nat.le_trans HB1.out.size HBr.out.size);obtain⟨a6,c6,rfl⟩:=aD hF6;clear hF6 hB6;go_wp2;exact bodyPost_ret (v:=.tuple #[.slice a6 (fO (R.filterMap fun l=>aQ r.head l)).length c6,.int .i64 0]) (by simp[results,Tryz.results42,go_sem]) rfl ⟨_,0,rfl,HT6.out,HB6.out⟩
 ·rw[if_pos h0] at hT;obtain⟨rfl,rfl⟩:=hT;have HH:Hid (∀w',oO w' (.slice none 0 0) (pO r.body fs []) r fs):=fun w'=>by unfold oO;rw[if_pos h0];exact⟨rfl,rfl⟩
  clear HS HR1 HT1;generalize pO r.body fs []=er at*;go_wp2;exact bodyPost_ret (v:=.tuple #[.slice none 0 0,.int .i64 er]) (by simp[results,Tryz.results42,go_sem]) rfl ⟨_,er,rfl,HH.out _,HB1.out⟩
end Go.Proofs.YtafmbokfkbccaaaGreatDoor
