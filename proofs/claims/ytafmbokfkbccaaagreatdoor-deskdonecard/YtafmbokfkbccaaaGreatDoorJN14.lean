import Derived.Test.YtafmbokfkbccaaaGreatDoorJN6
import Derived.Test.YtafmbokfkbccaaaGreatDoorJN13
import Derived.Shelf.SlSortCmp.WholeK
import Derived.Shelf.SlSortCmp.NoneTotal
import Derived.Test.YtafmbokfkbccaaaGreatDoorJN7
import Derived.Test.YtafmbokfkbccaaaGreatDoorJN11
import Derived.Test.YtafmbokfkbccaaaGreatDoorJN3
import Derived.Test.YtafmbokfkbccaaaGreatDoorJN12
import Derived.Lib.SliceRun
namespace Go.Proofs.YtafmbokfkbccaaaGreatDoor
open Go.RowKit Go.Sort Go.Shelf
structure Elem (w:World) (blk:Nat):Type where
 n:ByteArray
 s:Value
 args:List ByteArray
 hs:Strs w s args
 hb:∀k,s.ownBlock=some k→args≠[]→k≠blk
def Elem.fact {w:World} {blk:Nat} (x:Elem w blk):aI:=(x.n,x.args)
def Elem.enc {w:World} {blk:Nat} (x:Elem w blk):List Value:=[.string x.n,x.s]
def Elem.no (w:World) (blk:Nat):Elem w blk:=⟨ByteArray.empty,.slice none 0 0,[],⟨by simp,none,0,rfl,fun h=>absurd rfl h⟩,fun _ _ h=>absurd rfl h⟩
def Elem.cmp {w:World} {blk:Nat} (x y:Elem w blk):Int:=gM x.fact y.fact
theorem Elem.swo (w:World) (blk:Nat):SWO (ltOf (Elem.cmp (w:=w) (blk:=blk))) where
 irrefl x:=by unfold ltOf Elem.cmp;rw[aU.refl];rfl
 trans x y z h1 h2:=by
  unfold ltOf at*;rw[decide_eq_true_eq] at*;exact aU.trans _ _ _ h1 h2
 ntrans x y z h1 h2:=by
  unfold ltOf at*;rw[decide_eq_false_iff_not] at*;have:=BF (a:=x.fact) (b:=y.fact) (c:=z.fact) (Int.not_lt.1 h1) (Int.not_lt.1 h2);exact Int.not_lt.2 this
theorem OA:∀w,(isAgg 27).run Tryz.prog w=.ok true w:=Tryz.isAgg27
theorem Mf:∀w,(Go.sizeOf 27).run Tryz.prog w=.ok 2 w:=Tryz.sizeOf27
theorem EB:∀args w,(callFunc 128 args).run Tryz.prog w=.ok (.enter 128 args) w:=enters_of Tryz.func128 (by kernel_rfl) rfl
theorem nK {α:Type} (inst:Inhabited α) (enc:α→List Value) (w:World) (blk off m:Nat) (d:Array α) (os:Array Obj) (k:Nat) (hk:k<w.heap.size) (hne:k≠blk):
  (@sortWorldK α inst enc 2 w blk off m d os).heap[k]?=w.heap[k]?:=by
 unfold sortWorldK;rw[heap_grow_old _ _ (by rw[size_putRowK];exact hk)];simp only[putRowK,putRow,mapBlock];rw[Array.getElem?_modify,if_neg (fun e=>hne e.symm)]
 rfl
theorem nL {α:Type} (inst:Inhabited α) (enc:α→List Value) (w:World) (blk off m:Nat) (d:Array α) (os:Array Obj):w.heap.size≤(@sortWorldK α inst enc 2 w blk off m d os).heap.size:=by
 unfold sortWorldK;rw[size_grow,size_putRowK];exact Nat.le_add_right _ _
theorem Elem.Mg {w W:World} {blk:Nat} (x:Elem w blk) (hs:w.heap.size≤W.heap.size) (hk:∀k,k<w.heap.size→k≠blk→W.heap[k]?=w.heap[k]?):dF W (.agg #[.string x.n,x.s]) x.fact:=by
 refine⟨x.s,rfl,?_⟩
 by_cases hl:x.args=[]
 ·have:=x.hs;show Strs W x.s x.args;rw[hl] at this⊢;exact this.nil
 ·exact x.hs.kept hs fun k e=>hk k (x.hs.block_lt hl k e) (x.hb k e hl)
theorem Mh (w:World) (blk off size:Nat): @CmpLays (Elem w blk) ⟨Elem.no w blk⟩ Tryz.prog 128 #[] Elem.enc 2 Elem.cmp blk off size w:=by
 intro m os dk hd x y;have hs:=nL ⟨Elem.no w blk⟩ Elem.enc w blk off m dk os;have hk:=nK ⟨Elem.no w blk⟩ Elem.enc w blk off m dk os;exact(kV _ _ x.fact y.fact _ (x.Mg hs hk) (y.Mg hs hk)).mono fun e w' ⟨he,hw⟩=>⟨he,hw⟩
theorem oF.elems {w:World} {base g n cap:Nat} {l:List aI} (h:oF w base (.slice (some ⟨g,0,none⟩) n cap) l):
  g<w.heap.size∧base≤g∧n=l.length∧∃d:Array (Elem w g),d.toList.map Elem.fact=l∧ @HoldsK (Elem w g) ⟨Elem.no w g⟩ Elem.enc 2 w g 0 d:=by
 obtain⟨xs,ho,hx⟩:=h;have ho2:=ho.2;rcases ho2 with⟨e,_⟩|⟨g',cap',cur,e,hb,hg,hnc,hcm,hcs,htake⟩
 ·cases e
 ·simp only[Value.slice.injEq,Option.some.injEq,Addr.mk.injEq] at e;obtain⟨⟨rfl,_⟩,rfl,rfl⟩:=e;have hgl:g<w.heap.size:=(Array.getElem?_eq_some_iff.1 hg).1;refine⟨hgl,hb,rfl,?_⟩;have hsv:∀i:Fin l.length,∃x:Elem w g,x.fact=l.getD i aC∧xs[i.1*2]?=some (.string x.n)∧xs[i.1*2+1]?=some x.s:=fun i=>by
   obtain⟨c1,s,c2,c3,c4⟩:=hx i.1 i.2;exact⟨⟨(l.getD i aC).1,s,(l.getD i aC).2,c3,fun k hk ha e=>by have:=c4 k hk ha;omega⟩,rfl,c1,c2⟩
  refine⟨Array.ofFn fun i=>Classical.choose (hsv i),?_,?_⟩
  ·apply List.ext_getElem
   ·simp
   ·intro i h1 h2;have:=(Classical.choose_spec (hsv ⟨i,h2⟩)).1;simp only[List.getElem_map,Array.getElem_toList,Array.getElem_ofFn];rw[this,List.getD_eq_getElem?_getD,List.getElem?_eq_getElem h2];rfl
  ·letI:Inhabited (Elem w g):=⟨Elem.no w g⟩
   intro j hj;rw[size_flatK,Array.size_ofFn] at hj;have hj2:j/2<l.length:=by omega
   rw[get_flatK _ _ _ _ (by rw[Array.size_ofFn];exact hj)];have e1:(Array.ofFn fun i=>Classical.choose (hsv i))[j/2]! =Classical.choose (hsv ⟨j/2,hj2⟩):=by
    rw[getElem!_pos _ _ (by rw[Array.size_ofFn];exact hj2),Array.getElem_ofFn]
   rw[e1];have sp:=(Classical.choose_spec (hsv ⟨j/2,hj2⟩)).2;generalize Classical.choose (hsv ⟨j/2,hj2⟩)=x at sp;have cellOf:∀u,xs[j]?=some u→w.cell? ⟨g,0+j,none⟩=some u:=fun u hu=>by
    have:=ho.cells (g:=g) rfl j u hu
    rwa [Addr.add_lit] at this
   refine⟨?_,frozen_of_row _ hg⟩;rcases Nat.mod_two_eq_zero_or_one j with hm|hm
   ·rw[hm];refine cellOf _ ?_;have:j/2*2=j:=by omega
    rw[←this];exact sp.1
   ·rw[hm];refine cellOf _ ?_;have:j/2*2+1=j:=by omega
    rw[←this];exact sp.2
theorem Mi {α:Type} (inst:Inhabited α) {d d':Array α} (h:PermIn 0 d.size d d'):d'.toList.Perm d.toList:=by
 obtain⟨h1,_,h3⟩:=h;have e:d'.extract 0 d.size=d':=by rw[←h1];simp
 rw[e] at h3;simpa using h3
theorem Cn {w W:World} {g cap:Nat} (d:Array (Elem w g)) (hs:w.heap.size≤W.heap.size) (hk:∀k,k<w.heap.size→k≠g→W.heap[k]?=w.heap[k]?) (hg:g<W.heap.size) (hd:d.size≤3518437208883)
  (h: @HoldsK (Elem w g) ⟨Elem.no w g⟩ Elem.enc 2 W g 0 d):Facts W (.slice (some ⟨g,0,none⟩) d.size cap) (d.toList.map Elem.fact):=by
 letI:Inhabited (Elem w g):=⟨Elem.no w g⟩
 refine⟨by simpa using hd,some ⟨g,0,none⟩,cap,by simp,fun _=>⟨g,0,rfl,hg,fun i hi=> ?_⟩⟩;have hi':i<d.size:=by simpa using hi
 have c0:=(h.cell (i:=i) (c:=0) hi' (by omega)).1;have c1:=(h.cell (i:=i) (c:=1) hi' (by omega)).1;have e:d[i]! =d[i]:=getElem!_pos d i hi';have e2:(d.toList.map Elem.fact).getD i aC=d[i].fact:=by
  rw[List.getD_eq_getElem?_getD,List.getElem?_map];simp[hi']
 rw[e2];rw[e] at c0 c1;obtain⟨s,es,hs'⟩:=d[i].Mg hs hk;simp only[Value.agg.injEq] at es;refine⟨c0,d[i].s,c1,?_⟩;have e3:d[i].fact.fst=d[i].n∧s=d[i].s:=by simpa using es.symm
 rw[e3.2] at hs';exact hs'
theorem Q8 (w:World) (base:Nat) (v:Value) (l:List aI) (h:oF w base v l) (hl:l.length≤3518437208883):
  Calls Tryz.prog 173 #[v,.func (.func 128) #[] #[]] w fun e w'=>e=.returned (.tuple #[])∧∃l',l'.Perm l∧l'.Pairwise (fun a b=>gM a b≤0)∧Facts w' v l'∧Only base w.heap.size w w':=by
 rcases h.choose_spec.1.2 with⟨rfl,e⟩|⟨g,cap,cur,rfl,_⟩
 ·have:l=[]:=List.eq_nil_of_length_eq_zero e;subst this;exact(AnyF.slices_SortFunc_none Tryz.sortFacts none 0 _ w).mono fun e w' ⟨he,hw⟩=>⟨he,[],List.Perm.refl _,List.Pairwise.nil,by rw[hw];exact⟨by simp,none,0,rfl,fun h=>absurd rfl h⟩,by rw[hw];exact Only.refl _ _ _⟩
 ·obtain⟨hgl,hb,_,d,hd,hH⟩:=h.elems
  letI:Inhabited (Elem w g):=⟨Elem.no w g⟩
  have hsz:d.size=l.length:=by rw[←hd];simp
  have hc:=AnyQ.slices_SortFunc Tryz.sortFacts 2 OA Mf Elem.enc (fun _=>rfl) (fun x v hv=>by
   simp[Elem.enc] at hv;rcases hv with rfl|rfl
   ·rfl
   ·obtain⟨a,c,e⟩:=aW x.hs;rw[e];rfl) Elem.cmp (Elem.swo w g) 128 #[] g 0 cap d w EB (Mh w g 0 d.size) hH hgl (by omega)
  rw[hsz] at hc;refine hc.mono ?_;rintro e w' ⟨he,d',n,os,hp,hs,rfl⟩;have hp':PermIn 0 d.size d d':=by rw[hsz];exact hp
  have hd':d'.size=d.size:=hp'.1;have hkk:=nK ⟨Elem.no w g⟩ Elem.enc w g 0 n d' os;have hss:=nL ⟨Elem.no w g⟩ Elem.enc w g 0 n d' os;refine⟨he,d'.toList.map Elem.fact,?_,?_,?_,?_⟩
  ·rw[←hd];exact(Mi _ hp').map _
  ·rw[List.pairwise_map];rw[List.pairwise_iff_getElem];intro i j hi hj hij;have:=hs i j (Nat.zero_le _) hij (by simp at hj;omega);have e1:d'[i]! =d'.toList[i]:=by rw[getElem!_pos d' i (by simpa using hi)];simp
   have e2:d'[j]! =d'.toList[j]:=by rw[getElem!_pos d' j (by simpa using hj)];simp
   rw[e1,e2] at this;unfold ltOf Elem.cmp at this;rw[decide_eq_false_iff_not] at this;have:=aU.swap d'.toList[i].fact d'.toList[j].fact;omega
  ·have:=Cn (cap:=cap) d' hss hkk (Nat.lt_of_lt_of_le hgl hss) (by omega) (holdsK_sortWorldK_c Elem.enc 2 w g 0 d d' n os hH hgl hd');rw[hd',hsz] at this;exact this
  ·refine⟨rfl,rfl,rfl,Nat.le_add_right _ _,hss,fun k hk ho=>hkk k hk (by omega)⟩
end Go.Proofs.YtafmbokfkbccaaaGreatDoor
namespace Go.Proofs.YtafmbokfkbccaaaGreatDoor
open Go.RowKit Go.Sort
theorem tT {w:World} {base n:Nat} {v:Value} {xs:List Value} {e:TypeId} {sz:Nat} (h:w.ownsRow base e sz v n xs):∃a cap,v=.slice a n cap:=by
 rcases h.2 with⟨rfl,rfl⟩|⟨g,cap,cur,rfl,_⟩
 ·exact⟨none,0,rfl⟩
 ·exact⟨_,cap,rfl⟩
set_option maxHeartbeats 400000 in
theorem rise (w:World) (base:Nat) (v:Value) (l:List aI) (h:oF w base v l) (hl:l.length≤3518437208883):
  Calls Tryz.prog 97 #[v] w fun e w'=>∃v' s,e=.returned v'∧x9 s l∧bY w' w.heap.size v' s∧Only base w.heap.size w w':=by
 have hS:=hide (Q8 w base v l h hl);obtain⟨a,cap,rfl⟩:=tT h.choose_spec.1;clear h
 go_enter Tryz.func97,Tryz.ntmps97
 go_wp2_with fail
 refine hS.out.mono ?_;rintro e w1 ⟨rfl,l',hp,hs,hF,hO⟩;have hle:l'.length=l.length:=hp.length_eq
 go_wp2_with fail
 refine(Em w1).mono ?_;rintro e w2 ⟨rfl,hL2,hz2,hlast⟩;have hK:=hide (keep 238 #[.pointer (some ⟨w1.heap.size+1,0,none⟩),.pointer (some ⟨w1.heap.size,0,none⟩)] El w1.heap.size (w1.heap.size+2) w1 w2 (.slice a l.length cap) l' (newP l') (Oc w1 w1.heap.size l') hF hL2 (Nat.le_refl _) (by omega) (JC w1 l')
  ⟨ByteArray.empty,none,0,0,hlast,fun h=>absurd h (Nat.lt_irrefl _)⟩)
 have HL:=hide hlast;clear hlast
 go_wp2_with fail
 refine hK.out.mono ?_;rintro e w3 ⟨v',rfl,hOw,hO3,_⟩;have hset:=Di hs l'.length (Nat.le_refl _);rw[List.take_length] at hset;have HS:=hide hset;have HW:=hide hOw;clear hset hOw;go_wp2;go_ret;have Vu:Later w1 w3:=hO3.later hL2 (Nat.le_refl _);refine⟨v',_,rfl,⟨HS.out.1,fun f=>(HS.out.2.1 f).trans hp.mem_iff,by rw[←hle];exact HS.out.2.2⟩,?_,hO.trans Vu.only⟩;have hsz:w.heap.size≤w2.heap.size:=Nat.le_trans hO.size hL2.size;obtain⟨xs,ho,hx⟩:=HW.out;refine⟨xs,⟨ho.1,?_⟩,fun i hi=> ?_⟩
 ·rcases ho.2 with e|⟨g,cp,cur,e,hg,r⟩
  ·exact Or.inl e
  ·exact Or.inr ⟨g,cp,cur,e,Nat.le_trans hsz hg,r⟩
 ·obtain⟨c1,s,c2,c3,c4⟩:=hx i hi;exact⟨c1,s,c2,c3,fun k hk=>⟨Nat.le_trans hsz (c4 k hk).1,(c4 k hk).2⟩⟩
set_option maxHeartbeats 400000 in
theorem ofC (v:Value) (l:List aI) (w:World) (h:Facts w v l):
  Calls Tryz.prog 50 #[v] w fun e w'=>∃v' s,e=.returned v'∧x9 s l∧bY w' w.heap.size v' s∧Later w w':=by
 have hC:=hide (clone v l w h);have hl:=h.1;obtain⟨a,cap,rfl⟩:=aB h;clear h
 go_enter Tryz.func50,Tryz.ntmps50
 go_wp2_with fail
 refine hC.out.mono ?_;rintro e w1 ⟨v1,rfl,hR,hL⟩;have hr:=hide (rise w1 w.heap.size v1 l hR hl);obtain⟨a1,WY,rfl⟩:=tT hR.choose_spec.1;clear hR
 go_wp2_with fail
 refine hr.out.mono ?_;rintro e w2 ⟨v2,s,rfl,hs,hO,hW⟩;have HS:=hide hs;have HO:=hide hO;clear hs hO;go_wp2;go_ret;exact⟨v2,s,rfl,HS.out,HO.out.base hL.size,hW.later hL (Nat.le_refl _)⟩
end Go.Proofs.YtafmbokfkbccaaaGreatDoor
namespace Go.Proofs.YtafmbokfkbccaaaGreatDoor
open Go.RowKit Go.Sort Go.Maps
theorem mH {w:World} {b:Nat} {es:Array MapEntry} {c:Nat} {x:Addr} {v:Value} (hb:w.heap[b]?=some (.map es c)) (hx:w.cell? x=some v):x.block≠b:=by
 intro e;subst e;simp[World.cell?,hb] at hx
theorem Ai {P:Program} {K:TypeId} {w:World} {b n:Nat} {L:List au} (h:fT P K w b n L):∃es c,w.heap[b]?=some (.map es c):=by
 obtain⟨D,⟨es,c,hb,_⟩,_⟩:=h;exact⟨es,c,hb⟩
theorem Co {w w':World} {b:Nat} {v:Value} {l:List ByteArray} (h:Strs w v l) (hb:∃es c,w.heap[b]?=some (.map es c)) (k:Tn b w w'):Strs w' v l:=by
 obtain⟨es,c,hb⟩:=hb;obtain⟨h0,a,cap,rfl,h1⟩:=h;refine⟨h0,a,cap,rfl,fun hl=> ?_⟩;obtain⟨b1,off,rfl,hlt,hc⟩:=h1 hl;refine⟨b1,off,rfl,Nat.lt_of_lt_of_le hlt k.size,fun i hi=> ?_⟩;rw[k.cell (x:=⟨b1,off+i,none⟩) hlt (mH hb (hc i hi))];exact hc i hi
theorem JQ {w w':World} {b:Nat} {v:Value} {f:aI} (h:dF w v f) (hb:∃es c,w.heap[b]?=some (.map es c)) (k:Tn b w w'):dF w' v f:=by
 obtain⟨s,rfl,h1⟩:=h;exact⟨s,rfl,Co h1 hb k⟩
theorem yK {w w':World} {b:Nat} {v:Value} {l:List aI} (h:Facts w v l) (hb:∃es c,w.heap[b]?=some (.map es c)) (k:Tn b w w'):Facts w' v l:=by
 obtain⟨h0,a,cap,rfl,h1⟩:=h;refine⟨h0,a,cap,rfl,fun hl=> ?_⟩;obtain⟨b1,off,rfl,hlt,hc⟩:=h1 hl;refine⟨b1,off,rfl,Nat.lt_of_lt_of_le hlt k.size,fun i hi=> ?_⟩;obtain⟨c1,s,c2,c3⟩:=hc i hi;obtain⟨es,c,hb'⟩:=hb;exact⟨by rw[k.cell (x:=⟨b1,off+i*2,none⟩) hlt (mH hb' c1)];exact c1,s,by rw[k.cell (x:=⟨b1,off+i*2+1,none⟩) hlt (mH hb' c2)];exact c2,Co c3 ⟨es,c,hb'⟩ k⟩
theorem gJ {b:Nat} {w w':World} (h:w.grownBy w' (some b)):Tn b w w':=⟨h.os,h.tape,h.output,h.size,fun k hk hb=>h.block k hk (fun e=>hb (by cases e;rfl))⟩
abbrev KnN (w:World) (b n:Nat) (L:List au):Prop:=fT Tryz.prog 9 w b n L
set_option maxHeartbeats 2000000 in
theorem yL (b n:Nat) (L:List au) (v:Value) (l:List au) (w:World) (hK:KnN w b n L) (hv:Facts w v l) (hs:∀f∈l,mG f) (hn:n+l.length<1000000):
  Calls Tryz.prog 91 #[.map (some b),v] w fun e w'=>(∃u,e=.returned u)∧KnN w' b (n+l.length) (L++l)∧Tn b w w':=by
 obtain⟨a,cap,rfl,hl,hz⟩:=hv.addr;have hM:=Ai hK;have HM:=hide hM;have HV:=hide hv;have HS:=hide hs;have HK:Hid (KnN w b (n+0) (L++l.take 0)):=by show KnN _ _ _ _;simpa using hK
 clear hv hs hK hM
 go_enter Tryz.func91,Tryz.ntmps91
 go_wp2
 go_loopg [8] l.length (fun k i wr=>∃j:Nat,j+k=l.length∧i=.int .i64 j∧Hid (KnN wr b (n+j) (L++l.take j))∧Hid (Tn b w wr))
 case atStart=>exact⟨0,by omega,rfl,HK,Tn.refl _ _⟩
 case round=>
  clear HK;obtain⟨j,hj,rfl,HK,HT⟩:=hrel
  by_cases hlt:j<l.length
  ·rcases hz with rfl|⟨b1,off,rfl⟩
   ·simp at hlt
   have hltz:(j:Int)<(l.length:Int):=by omega
   have hFr:=yK HV.out HM.out HT.out;obtain⟨hb,ax,lx,cx,g1,g2,fx⟩:=hFr.at hlt;have hfm:l.getD j aC∈l:=by rw[List.getD_eq_getElem?_getD,List.getElem?_eq_getElem hlt];exact List.getElem_mem hlt
   have htk:l.take (j+1)=l.take j++[l.getD j aC]:=by rw[List.take_add_one,List.getD_eq_getElem?_getD,List.getElem?_eq_getElem hlt];rfl
   have hsh:=HS.out _ hfm;obtain⟨wb,hwb⟩:∃wb,wb=wr.alloc (.cells #[.string (l.getD j aC).1,.slice ax lx cx] 27):=⟨_,rfl⟩;have hLb:Later wr wb:=by rw[hwb];exact(Later.refl _).alloc _
   have hrb:wb.heap[wr.heap.size]?=some (.cells #[.string (l.getD j aC).1,.slice ax lx cx] 27 (0,0)):=by rw[hwb];exact heap_alloc_new wr _
   have hfb:=fx.later hLb;have hKb:=HK.out.later hLb;have HC:Hid (∀w',Below wb.heap.size wb w'→Calls Tryz.prog 166 #[.agg #[.string (l.getD j aC).1,.slice ax lx cx]] w' fun e w''=>e=.returned (.string (bs (tO (l.getD j aC))))∧Hid (Below wb.heap.size wb w'')):=fun w' hw=>
    (Oy _ _ w' (nV hfb hw) hsh).mono fun e w'' ⟨he,h2⟩=>⟨he,aj hw h2 hw.size⟩
   have hcell:∀w',Below wb.heap.size wb w'→w'.cell? ⟨wr.heap.size,0,none⟩=some (.string (l.getD j aC).1)∧w'.cell? ⟨wr.heap.size,0+1,none⟩=some (.slice ax lx cx):=fun w' hw=>by
    have hlt':wr.heap.size<wb.heap.size:=(Array.getElem?_eq_some_iff.1 hrb).1
    constructor
    ·rw[hw.cell (p:=⟨wr.heap.size,0,none⟩) hlt',cell_of_row _ _ _ _ _ _ hrb];rfl
    ·rw[hw.cell (p:=⟨wr.heap.size,0+1,none⟩) hlt',cell_of_row _ _ _ _ _ _ hrb];rfl
   have HU:Hid (∀w',Below wb.heap.size wb w'→∃w'',(Instr.mapUpdate 160 (.map (some b)) (.string (bs (tO (l.getD j aC)))) (.agg #[.string (l.getD j aC).1,.slice ax lx cx])).run Tryz.prog w'=.ok () w''∧KnN w'' b (n+(j+1)) (L++l.take (j+1))∧Tn b w w''∧w''.cell? ⟨wr.heap.size,0,none⟩=some (.string (l.getD j aC).1)∧w''.cell? ⟨wr.heap.size,0+1,none⟩=some (.slice ax lx cx)):=fun w' hw=>by
    have hK':KnN w' b (n+j) (L++l.take j):=hKb.below hw;have hf':=nV hfb hw;have hkl:=JN hsh;obtain⟨w'',hrun,hg,hkn⟩:=hK'.store Tryz.underlying9 Tryz.underlying160 (by unfold maxLen;omega) hf' (by unfold maxLen;omega);refine⟨w'',hrun,?_,?_,?_⟩
    ·rw[htk,←List.append_assoc,show n+(j+1)=n+j+1 by omega];exact hkn fun g _ u hu=>JQ hu (Ai hK') (gJ hg)
    ·exact((HT.out.trans (Tn.of_below hLb.below)).trans (Tn.of_below hw)).trans (gJ hg)
    ·have hblt:b<wr.heap.size:=HK.out.lt;have hlt':wr.heap.size<w'.heap.size:=Nat.lt_of_lt_of_le (Array.getElem?_eq_some_iff.1 hrb).1 hw.size;obtain⟨q0,q1⟩:=hcell w' hw;exact⟨by rw[(gJ hg).cell (x:=⟨wr.heap.size,0,none⟩) hlt' (by show wr.heap.size≠b;omega)];exact q0,by rw[(gJ hg).cell (x:=⟨wr.heap.size,0+1,none⟩) hlt' (by show wr.heap.size≠b;omega)];exact q1⟩
   have jT:=hide hcell;generalize bs (tO (l.getD j aC))=kb at*;generalize(l.getD j aC).1=nk at*;clear hcell htk hsh hfm hrb hfb hKb hFr fx hLb;go_wp2;rw[←hwb];clear hwb;refine wp_region_held_drew (S:=fun w'=>w'.cell? ⟨wr.heap.size,0,none⟩=some (.string nk)∧w'.cell? ⟨wr.heap.size,0+1,none⟩=some (.slice ax lx cx)) (by kernel_rfl) (jT.out _ (Below.refl _ _).drew) (fun hHeld=> ?_);refine ak (i:=0) (d:=some 12) (v:= ?_) rfl rfl hHeld ?_ ?_;rotate_left;focus intro w hSw;(try dsimp only at hSw);go_simp;try with_reducible rfl
   simp only[aK,aL,aze,asu];refine ak (i:=1) (d:=some 13) (v:= ?_) rfl rfl hHeld ?_ ?_;rotate_left;focus intro w hSw;(try dsimp only at hSw);obtain⟨q0,q1⟩:=hSw;go_simp;try with_reducible rfl
   simp only[aK,aL,aze,asu];refine ak (i:=3) (d:=some 15) (v:= ?_) rfl rfl hHeld ?_ ?_;rotate_left;focus intro w hSw;(try dsimp only at hSw);obtain⟨q0,q1⟩:=hSw;go_simp;try with_reducible rfl
   simp only[aK,aL,aze,asu];refine wpAnyH_ready (rs:=[2]) (by kernel_rfl) (by simp) ?_;refine AllReadyH.cons rfl (fun K hK=> ?_) AllReadyH.nil;go_simp;refine(HC.out _ (Below.refl _ _).drew).mono ?_;rintro e w5 ⟨rfl,hB5⟩;dsimp only;refine hK.out _ _ (jT.out _ hB5.out) (fun hHeld=> ?_);clear hK K;refine wpAnyH_ready (rs:=[4]) (by kernel_rfl) (by simp) ?_;obtain⟨w6,hrun,hK6,hT6,hc6⟩:=HU.out _ hB5.out;have HK6:=hide hK6;have HT6:=hide hT6;clear hK6 hT6;refine AllReadyH.cons rfl (fun K hK=> ?_) AllReadyH.nil;go_simp;refine hK.out _ _ hc6 (fun hHeld=> ?_);clear hK K;refine wpAnyH_done (by kernel_rfl) ?_ _;clear hc6 hHeld hrun;go_wp2
   go_roundg (l.length- (j+1))
   case measure=>omega
   case rel=>exact⟨j+1,by omega,by go_num,HK6,HT6⟩
  ·have hj':j=l.length:=by omega
   subst hj';rw[List.take_length] at HK;go_wp2;go_end0;exact⟨⟨_,rfl⟩,HK.out,HT.out⟩
set_option maxHeartbeats 1000000 in
theorem Du (b n:Nat) (L:List au) (w:World) (hK:KnN w b n L) (hn:n≤1000000):
  Calls Tryz.prog 92 #[.map (some b)] w fun e w'=>∃v',e=.returned v'∧Facts w' v' (dK L)∧Below w.heap.size w w':=by
 obtain⟨D,hown,h1,h2,h3⟩:=hK;have hsz:Maps.size D≤3518437208883:=by have:=hown.size_le;omega
 have hL1:Later w (w.alloc (.cells #[.map (some b)] 160)):=(Later.refl w).alloc _;have hr1:(w.alloc (.cells #[.map (some b)] 160)).heap[w.heap.size]?=some (.cells #[.map (some b)] 160 (0,0)):=heap_alloc_new w _;have HV:=hide (Md (some b) w);have HC:=hide (JO b n w.heap.size D (w.alloc (.cells #[.map (some b)] 160)) (by simp) (by rw[cell_of_row _ _ _ _ _ _ hr1];rfl) (eP hown (hL1.block hown.lt)) hsz);have H1:=hide h1;have H2:Hid (∀f∈L,∃x,D.atKey (.string (tO f)) .nil=.held x∧dF (w.alloc (.cells #[.map (some b)] 160)) (Af x) f):=fun f hf=>by
  obtain⟨x,e,hx⟩:=h2 f hf;exact⟨x,e,hx.later hL1⟩
 have HL1:=hide hL1.below;clear h1 h2 h3 hown hL1 hr1
 go_enter Tryz.func92,Tryz.ntmps92
 go_wp2_with fail
 refine HV.out.mono ?_;rintro e w1 ⟨rfl,rfl⟩;clear HV
 go_wp2_with fail
 refine HC.out.mono ?_;rintro e w2 ⟨v,xs,rfl,⟨ps,hA,rfl⟩,hr,hB⟩;obtain⟨l,hl,hF⟩:=Cm H1.out H2.out hsz hA hr hB;have HO:=hide (ofC v l w2 hF);have HB:Hid (Below w.heap.size w w2):=aj HL1.out hB (by simp);have HLL:=hide hl;have hl0:=hF.1;obtain⟨a,cap,rfl⟩:=aB hF;clear hA hr hB hl hF HC H1 H2 HL1
 go_wp2_with fail
 refine HO.out.mono ?_;rintro e w3 ⟨v',s,rfl,hS,hOw,hL3⟩;have es:s=dK L:=p8 hS.1 fun f=>by rw[hS.2.1 f,HLL.out f]
 have HF:Hid (Facts w3 v' (dK L)):=by rw[←es];exact hOw.facts (Nat.le_trans hS.2.2 hl0)
 have HB3:Hid (Below w.heap.size w w3):=aj HB.out hL3.below HB.out.size;clear hS hOw hL3 es;go_wp2;go_ret;exact⟨v',rfl,HF.out,HB3.out⟩
end Go.Proofs.YtafmbokfkbccaaaGreatDoor
namespace Go.Proofs.YtafmbokfkbccaaaGreatDoor
open Go.RowKit Go.Sort Go.Maps
theorem iK.setCell {p:Option Nat} {a b:World} (h:iK p a b) {x:Addr} (hx:p=some x.block) (v:Value):iK p a (b.setCell x v):=
 ⟨h.os,h.tape,h.output,h.drawn,by simpa[World.setCell] using h.size,fun k hk ho=>by
  rw[Below.heap_setCell _ _ _ _ (fun e=>ho (by rw[hx,e]))];exact h.block k hk ho⟩
theorem pI (g:Nat):∀(vs:List Value) (o:Nat) (w:World),iK (some g) w (w.setCells g o vs)
 |[],_,_=>iK.refl _ _
 |v::r,o,w=>((iK.refl (some g) w).setCell (x:=⟨g,o,none⟩) rfl v).trans (pI g r (o+1) _)
theorem qV (g:Nat):∀(vs:List Value) (o:Nat) (w:World) (cur:Array Value) (t:TypeId) (fr:Nat×Nat),w.heap[g]?=some (.cells cur t fr)→
  ∃cur',(w.setCells g o vs).heap[g]?=some (.cells cur' t fr)∧cur'.size=cur.size∧∀q,q<o→cur'[q]?=cur[q]?
 |[],_,w,cur,t,fr,h=>⟨cur,h,rfl,fun _ _=>rfl⟩
 |v::r,o,w,cur,t,fr,h=>by
  obtain⟨cur',h1,h2,h3⟩:=qV g r (o+1) (w.setCell ⟨g,o,none⟩ v) (cur.setIfInBounds o v) t fr (eu h v);refine⟨cur',h1,by rw[h2];simp,fun q hq=> ?_⟩;rw[h3 q (by omega),Array.getElem?_setIfInBounds_ne (by omega)]
set_option maxHeartbeats 1000000 in
theorem OB (v:Value) (ls:List (List aD)) (g:Nat) (cb:Array Value) (eg:∀args w,(callFunc g args).run Tryz.prog w=.ok (.enter g args) w) (p:List aD→Bool) (n:Nat) (w0 w:World) (hd:Q6 g cb p n w0) (hw:Below n w0 w) (hn:n≤w.heap.size) (hv:lu.sl bZ w v ls):
  Calls Tryz.prog 219 #[v,.func (.func g) #[] cb] w fun e w'=>∃r:Int,e=.returned (.int .i64 r)∧((r= -1∧∀l∈ls,p l=false)∨∃k l,r=(k:Nat)∧ls[k]?=some l∧p l=true∧∀l∈ls.take k,p l=false)∧Later w w':=by
 obtain⟨a,cap,rfl⟩:=Kind.slice hv;have hl:=hv.1.1;have HV:=hide hv;have HC:Hid (∀w' u l,Later w w'→bL.sl bZ w' u l→Calls Tryz.prog g (#[u]++cb) w' fun e w''=>e=.returned (.bool (p l))∧Hid (Later w w'')):=fun w' u l hL hu=>
  (hd w' u l (aj hw hL.below hn) hu).mono fun e w'' ⟨he,hL2⟩=>⟨he,hL.trans hL2⟩
 clear hv hd hw
 go_enter Tryz.func219,Tryz.ntmps219
 go_wp2
 go_loopg [8] ls.length (fun gg i wr=>∃k:Nat,k+gg=ls.length∧i=.int .i64 k∧Hid (∀l∈ls.take k,p l=false)∧Hid (Later w wr))
 case atStart=>exact⟨0,by omega,rfl,(fun l hl=>by simp at hl),Later.refl _⟩
 case round=>
  obtain⟨k,hk,rfl,HE,HL⟩:=hrel
  by_cases hlt:k<ls.length
  ·obtain⟨l,hx⟩:∃x,ls[k]?=some x:=⟨_,List.getElem?_eq_getElem hlt⟩;obtain⟨b1,o1,_,rfl,hb1,⟨u,rfl,hu⟩,hcl⟩:=Kind.fC HV.out hx;have d0:wr.cell? ⟨b1,o1+k,none⟩=some u:=by rw[HL.out.cell hb1];simpa[slK] using hcl 0 _ rfl
   have hbr:b1<wr.heap.size:=Nat.lt_of_lt_of_le hb1 HL.out.size;have HCk:=hide (HC.out wr u l HL.out (Kind.aQ hu HL.out));obtain⟨ua,uc,rfl⟩:=Kind.slice hu;have HX:=hide hx;clear hcl hx hu;cases hq:p l
   ·have HE1:Hid (∀l∈ls.take (k+1),p l=false):=fun x hx'=>by
     rw[List.take_add_one,HX.out] at hx';rcases List.mem_append.1 hx' with h|h
     ·exact HE.out x h
     ·simp at h;rw[h];exact hq
    rw[hq] at HCk;clear hq HE
    go_wp2_with fail
    refine HCk.out.mono ?_;rintro e w2 ⟨rfl,hL2⟩;go_wp2
    go_roundg (ls.length- (k+1))
    case measure=>omega
    case rel=>exact⟨k+1,by omega,by go_num,HE1,hL2⟩
   ·have HQ:=hide hq;rw[hq] at HCk;clear hq
    go_wp2_with fail
    refine HCk.out.mono ?_;rintro e w2 ⟨rfl,hL2⟩;go_wp2;go_ret;exact⟨_,rfl,Or.inr ⟨k,l,rfl,HX.out,HQ.out,HE.out⟩,hL2.out⟩
  ·have HE1:Hid (∀l∈ls,p l=false):=by
    have:=HE.out;rw[List.take_of_length_le (by omega)] at this;exact this
   go_wp2;go_ret;exact⟨_,rfl,Or.inl ⟨rfl,HE1.out⟩,HL.out⟩
theorem GV:∀w,(zeroValue 158).run Tryz.prog w=.ok (.slice none 0 0) w:=Tryz.zeroValue158
def jU (p:List aD→Bool) (ps:List (Value×List aD)):List (Value×List aD):=ps.filter fun q=> !p q.2
theorem wP {p:List aD→Bool} {ps:List (Value×List aD)} {j:Nat} {q:Value×List aD} (h:ps[j]?=some q):jU p (ps.take (j+1))=if p q.2 then jU p (ps.take j) else jU p (ps.take j)++[q]:=by
 unfold jU;rw[List.take_add_one,h,List.filter_append];cases e:p q.2 <;> simp[e]
set_option maxRecDepth 100000 in
set_option maxHeartbeats 4000000 in
theorem Mj (v:Value) (ps:List (Value×List aD)) (g:Nat) (cb:Array Value) (eg:∀args w,(callFunc g args).run Tryz.prog w=.ok (.enter g args) w) (p:List aD→Bool) (n lo:Nat) (w0 w:World) (hd:Q6 g cb p n w0) (hw:Below n w0 w) (hn:n≤lo) (hlo:lo≤w.heap.size) (hv:Lists 158 190 lo w v ps) (hl:ps.length≤20000) (hs:∀q∈ps,q.2.length≤20):
  Calls Tryz.prog 159 #[v,.func (.func g) #[] cb] w fun e w'=>∃v',e=.returned v'∧Lists 158 190 lo w' v' (jU p ps)∧v'.ownBlock=v.ownBlock∧iK v.ownBlock w w':=by
 have HI:=hide (OB v (ps.map (·.2)) g cb eg p n w0 w hd hw (by omega) (Kind.dz (hv.sl (by omega) fun q hq=>by have:=hs q hq;omega)));obtain⟨a,cap,rfl⟩:=hv.slice;have HV:=hide hv;have HD:Hid (∀w' u l,iK (Value.slice a ps.length cap).ownBlock w w'→bL.sl bZ w' u l→Calls Tryz.prog g (#[u]++cb) w' fun e w''=>e=.returned (.bool (p l))∧Later w' w''):=fun w' u l hO hu=>by
  refine hd w' u l (aj hw ⟨hO.os,hO.tape,hO.output,hO.size,fun k hk=>hO.block k (by omega) fun e=> ?_⟩ (Nat.le_refl _)) hu;have:=hv.lo_le k e;omega
 have HS:=hide hs;clear hv hd hw hs
 go_enter Tryz.func159,Tryz.ntmps159
 go_wp2_with fail
 refine HI.out.mono ?_;rintro e w1 ⟨r,rfl,h,hL1⟩;have HL1:=hide hL1;clear HI hL1;rcases h with⟨rfl,h⟩|⟨k0,l0,rfl,hk0,hp0,hbe⟩
 ·have HK:Hid (jU p ps=ps):=by
   show _=_;unfold jU;rw[List.filter_eq_self];intro q hq;rw[h q.2 (List.mem_map.2 ⟨q,hq,rfl⟩)];rfl
  clear h;go_wp2;go_ret;exact⟨_,rfl,by rw[HK.out];exact HV.out.later HL1.out,rfl,iK.of_later HL1.out⟩
 ·have Vv:k0<ps.length:=by simpa using(List.getElem?_eq_some_iff.1 hk0).1
  obtain⟨q0,hq0⟩:∃q,ps[k0]?=some q:=⟨_,List.getElem?_eq_getElem Vv⟩;have Tj:q0.2=l0:=by
   rw[List.getElem?_map,hq0] at hk0;simpa using hk0
  have HKs:Hid (jU p (ps.take (k0+1))=ps.take k0):=by
   show _=_;rw[wP hq0,Tj,hp0,if_pos rfl];unfold jU;rw[List.filter_eq_self];intro q hq;rw[hbe q.2 (by rw[←List.map_take];exact List.mem_map.2 ⟨q,hq,rfl⟩)];rfl
  obtain⟨ho,hpw⟩:=HV.out;rcases ho.2 with⟨e,e'⟩|⟨gb,cap',cur,e,hbg,hg,hnc,hcm,hcs,htk⟩
  ·omega
  ·simp only[Value.slice.injEq] at e;obtain⟨rfl,_,rfl⟩:=e;have hgl:gb<w.heap.size:=(Array.getElem?_eq_some_iff.1 hg).1;have hne1:((k0:Int)== -1)=false:=beq_eq_false_iff_ne.2 (by omega);have HPW:=hide hpw;have hcur:∀q,q<ps.length→cur[q]?=some ((ps.map (·.1))[q]?.getD (.slice none 0 0)):=fun q hq=>by
    have e1:(cur.toList.take (ps.length*1))[q]?=(ps.map (·.1))[q]?:=by rw[htk]
    rw[List.getElem?_take,if_pos (by omega)] at e1;rw[←Array.getElem?_toList,e1,List.getElem?_eq_getElem (by simpa using hq)];rfl
   have Q9:=hide hcur;have HG:=hide hg;have HCS:=hide hcs;clear hk0 hp0 hbe hq0 Tj ho hpw hg hcs htk hcur;go_wp2
   go_loopg [5,6,7] ps.length (fun gg s5 s6 _ wr=>∃(i j:Nat) (cr:Array Value),s5=.int .i64 i∧s6=.int .i64 j∧(ps.length≤j+gg∧j≤ps.length)∧i<j∧Hid (i=(jU p (ps.take j)).length)∧Hid (wr.heap[gb]?=some (.cells cr 158 (0,0)))∧Hid (cr.size=cap)∧
    Hid (∀q,q<i→cr[q]?=some (((jU p (ps.take j)).map (·.1))[q]?.getD (.slice none 0 0)))∧Hid (∀q,j≤q→q<ps.length→cr[q]?=some ((ps.map (·.1))[q]?.getD (.slice none 0 0)))∧Hid (iK (some gb) w wr))
   case atStart=>
    refine⟨k0,k0+1,cur,rfl,by go_num,by omega,by omega,?_,((HL1.out.block hgl).trans HG.out:_=_),(by rw[HCS.out];omega:_=_),?_,(fun q _ hq=>Q9.out q hq),iK.of_later HL1.out⟩
    ·show _=_;rw[HKs.out,List.length_take];omega
    ·intro q hq;rw[HKs.out,List.map_take,List.getElem?_take,if_pos hq];exact Q9.out q (by omega)
   case round=>
    clear HL1 HKs HG HCS Q9;obtain⟨i,j,cr,rfl,rfl,hj,hij,HI,HB,HZ,HLo,HHi,HO⟩:=hrel;have hcr:=HZ.out;have hgr:gb<wr.heap.size:=Nat.lt_of_lt_of_le hgl HO.out.size;have Tk:∀q∈ps,bL.own 190 lo wr q.1 q.2:=fun q hq=>kL (HPW.out.1 q hq).1 fun k e=>HO.out.block k (Kind.eT (HPW.out.1 q hq).1 e).2 (fun e'=>(HPW.out.1 q hq).2 k e e');have HOw:=hide Tk;clear Tk
    by_cases hlt:j<ps.length
    ·obtain⟨q,hq⟩:∃q,ps[j]?=some q:=⟨_,List.getElem?_eq_getElem hlt⟩;have hqm:=List.mem_of_getElem? hq;have hcj:cr[j]?=some q.1:=by
      rw[HHi.out j (Nat.le_refl _) hlt,List.getElem?_map,hq];rfl
     have hci:∃old,cr[i]?=some old:=⟨_,Array.getElem?_eq_getElem (by omega)⟩;obtain⟨old,hci⟩:=hci;have cj:wr.cell? ⟨gb,j,none⟩=some q.1:=by rw[cell_of_row _ _ _ _ _ _ HB.out];exact hcj
     have HSt:=hide (wP (p:=p) hq);have HCl:=hide (HD.out wr q.1 q.2 HO.out (Kind.dz (Kind.iV (HOw.out q hqm) (by have:=HS.out q hqm;omega))));obtain⟨ua,un,uc,hqu⟩:∃a n c,q.1=.slice a n c:=by obtain⟨a,c,e⟩:=Kind.bT (HOw.out q hqm);exact⟨a,_,c,e⟩
     rw[hqu] at cj HCl hcj;have HQ1:=hide hqu;have HCI:=hide hci;have HQ:=hide hq;have hltz:(j:Int)<(ps.length:Int):=by omega
     clear hq hqm hqu hcj hci;cases hpq:p q.2
     ·rw[hpq] at HCl HSt;have OC:Hid (jU p (ps.take (j+1))=jU p (ps.take j)++[q]):=HSt.out;clear hpq HSt
      go_wp2_with fail
      refine HCl.out.mono ?_;rintro e w2 ⟨rfl,hL2⟩;have HB2:=hide ((hL2.block hgr).trans HB.out);have ci:w2.cell? ⟨gb,i,none⟩=some old:=by rw[cell_of_row _ _ _ _ _ _ HB2.out];exact HCI.out
      have fi:w2.frozen? ⟨gb,i,none⟩=false:=pF i HB2.out;have hg2:gb<w2.heap.size:=(Array.getElem?_eq_some_iff.1 HB2.out).1;have HO2:=hide (HO.out.trans (iK.of_later hL2));have hiz:(i:Int)<(ps.length:Int):=by omega
      clear hL2 HCl;go_wp2
      go_roundg (ps.length- (j+1))
      case measure=>omega
      case rel=>
       refine⟨i+1,j+1,cr.setIfInBounds i (.slice ua un uc),by go_num,by go_num,by omega,by omega,?_,(eu HB2.out _:_=_),(by simpa using hcr:_=_),?_,?_,(HO2.out.setCell (x:=⟨gb,i,none⟩) rfl _:iK _ _ _)⟩
       ·show _=_;rw[OC.out,List.length_append,←HI.out];rfl
       ·intro t ht;rw[OC.out,List.map_append]
        by_cases hti:t=i
        ·subst hti;rw[Array.getElem?_setIfInBounds_self_of_lt (by omega),List.getElem?_append_right (by rw[List.length_map,←HI.out];omega),List.length_map,←HI.out,Nat.sub_self];simp[HQ1.out]
        ·rw[Array.getElem?_setIfInBounds_ne (by omega),HLo.out t (by omega),List.getElem?_append_left (by rw[List.length_map,←HI.out];omega)]
       ·intro t h1 h2;rw[Array.getElem?_setIfInBounds_ne (by omega)];exact HHi.out t (by omega) h2
     ·rw[hpq] at HCl HSt;have OC:Hid (jU p (ps.take (j+1))=jU p (ps.take j)):=HSt.out;clear hpq HSt
      go_wp2_with fail
      refine HCl.out.mono ?_;rintro e w2 ⟨rfl,hL2⟩;have HB2:=hide ((hL2.block hgr).trans HB.out);have HO2:=hide (HO.out.trans (iK.of_later hL2));clear hL2 HCl;go_wp2
      go_roundg (ps.length- (j+1))
      case measure=>omega
      case rel=>
       refine⟨i,j+1,cr,rfl,by go_num,by omega,by omega,?_,HB2,HZ,?_,(fun t h1 h2=>HHi.out t (by omega) h2),HO2⟩
       ·show _=_;rw[OC.out];exact HI.out
       ·show∀t,_;rw[OC.out];exact HLo.out
    ·obtain rfl:j=ps.length:=by omega
     have hltz:¬(ps.length:Int)<(ps.length:Int):=by omega
     have hcl:∀ty,(Builtin.clear_ #[62] ty #[.slice (some ⟨gb,i,none⟩) (ps.length-i) (cap-i)]).run Tryz.prog wr=.ok (.tuple #[]) (wr.setCells gb i (List.replicate (ps.length-i) (.slice none 0 0))):=fun ty=>
      Lib.run_clear_slice wr _ _ ty _ Tryz.underlying62 GV rfl rfl gb i _ _ (by omega) (fun t ht=>by rw[cell_of_row _ _ _ _ _ _ HB.out,Array.getElem?_eq_getElem (by omega)];rfl) (fun t ht=>pF _ HB.out)
     have hiz:(i:Int)≤(ps.length:Int):=by omega
     have hic:(i:Int)≤(cap:Int):=by omega
     have WZ:¬cap=i:=by omega
     have hpz:(ps.length:Int)≤(cap:Int):=by omega
     go_wp2;go_ret;obtain⟨cr',h1,h2,h3⟩:=qV gb (List.replicate (ps.length-i) (.slice none 0 0)) i wr cr _ _ HB.out;have hO2:=HO.out.trans (pI gb (List.replicate (ps.length-i) (.slice none 0 0)) i wr);have hk:jU p (ps.take ps.length)=jU p ps:=by rw[List.take_length]
     have hil:i=(jU p ps).length:=by rw[←hk];exact HI.out
     refine⟨.slice (some ⟨gb,0,none⟩) i cap,rfl,⟨?_,fun q hq=> ?_,?_⟩,rfl,hO2⟩
     ·rw[←hil];refine⟨by rw[List.length_map,←hil];omega,Or.inr ⟨gb,cap,cr',rfl,hbg,h1,by omega,hcm,by rw[h2];omega,?_⟩⟩
      apply List.ext_getElem?
      intro t;rw[Nat.mul_one,List.getElem?_take]
      by_cases ht:t<i
      ·rw[if_pos ht,Array.getElem?_toList,h3 t ht,HLo.out t ht,hk,List.getElem?_eq_getElem (by rw[List.length_map,←hil];exact ht)];rfl
      ·rw[if_neg ht,List.getElem?_eq_none (by rw[List.length_map,←hil];omega)]
     ·have hqm:q∈ps:=(List.mem_filter.1 hq).1;exact⟨kL (HPW.out.1 q hqm).1 fun k e=>hO2.block k (Kind.eT (HPW.out.1 q hqm).1 e).2 (fun e'=>(HPW.out.1 q hqm).2 k e e'),(HPW.out.1 q hqm).2⟩
     ·exact HPW.out.2.filter _
end Go.Proofs.YtafmbokfkbccaaaGreatDoor
