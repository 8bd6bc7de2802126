import Derived.Test.YtafmbokfkbccaaaGreatDoorJW15
import Derived.Lib.SliceRun
import Derived.Shelf.SlSortCmp.WholeK
import Derived.Test.YtafmbokfkbccaaaGreatDoorProg
import Derived.Shelf.SlSortCmp.NoneTotal
namespace Go.Proofs.YtafmbokfkbccaaaGreatDoor
open Go.RowKit Go.Sort
set_option maxHeartbeats 400000 in
theorem Dv (b:Addr) (cap:Nat) (l:List aG) (w:World) (h:Facts w (.slice (some b) l.length cap) l):
  Calls Tryz.prog 98 #[.slice (some b) l.length cap] w fun e w'=>∃v',e=.returned v'∧qm w' w.heap.size v' l∧Later w w':=by
 have hnil:=fun w=>Lib.run_eql_slice_nil (P:=Tryz.prog) w 24 27 (some b) l.length cap 0 0 Tryz.underlying24;have h0:qm (w.alloc (.cells #[] 27)) w.heap.size (.slice (some ⟨w.heap.size,0,none⟩) 0 0) []:=
  ⟨[],World.ownsRow_made w #[] 0 (Nat.le_refl _) (by simp) (by simp),fun i hi=>by simp at hi⟩
 obtain⟨v',w',hrun,hR,hL,_⟩:=h0.append ((Later.refl w).alloc _) h (by have:=h.1;simpa using this);have HR:=hide hrun;have HF:=hide hR;clear hrun hR h0 h
 go_enter Tryz.func98,Tryz.ntmps98
 go_wp2_with (at_builtin;refine wpList_append_run rfl (.tmp 5) (.tmp 6) 24 rfl _ _ _ _ rfl rfl HR.out ?_)
 go_ret;exact⟨v',rfl,HF.out,hL⟩
set_option maxHeartbeats 400000 in
theorem Dw (n cap:Nat) (w:World):
  Calls Tryz.prog 98 #[.slice none n cap] w fun e w'=>e=.returned (.slice none 0 0)∧w'=w:=by
 have hnil:=fun w=>Lib.run_eql_slice_nil (P:=Tryz.prog) w 24 27 none n cap 0 0 Tryz.underlying24
 go_enter Tryz.func98,Tryz.ntmps98
 go_wp2;go_ret;exact⟨rfl,rfl⟩
theorem clone (v:Value) (l:List aG) (w:World) (h:Facts w v l):
  Calls Tryz.prog 98 #[v] w fun e w'=>∃v',e=.returned v'∧qm w' w.heap.size v' l∧Later w w':=by
 obtain⟨a,cap,rfl,hn,hz⟩:=h.addr;cases a with
 |some b=>exact Dv b cap l w h
 |none=>
  rcases hz with rfl|⟨b,off,e⟩
  ·exact(Dw _ cap w).mono fun e w' ⟨he,hw⟩=>⟨_,he,by rw[hw];exact⟨[],World.ownsRow_nil w _ _ _,fun i hi=>by simp at hi⟩,by rw[hw];exact Later.refl _⟩
  ·cases e
end Go.Proofs.YtafmbokfkbccaaaGreatDoor
namespace Go.Proofs
open Go.Shelf
def Tryz.sortFacts_ren:Go.Shelf.Ren:=⟨fun|6=>173|15=>237|14=>236|28=>286|29=>287|20=>278|21=>279|22=>280|23=>281|24=>282|25=>283|26=>284|27=>285|46=>323|47=>324|48=>325|49=>326|50=>327|57=>343|n=>n,fun|22=>24|24=>27|25=>201|3=>3|39=>202|0=>0|53=>343|55=>345|4=>4|46=>337|45=>336|50=>199|5=>5|9=>9|66=>370|70=>374|76=>389|77=>31|n=>n,fun|n=>n⟩
theorem Tryz.sortFacts:Go.Proofs.SlLaysF0.n6 Tryz.prog Tryz.sortFacts_ren:={
 mixed:=by kernel_rfl
 f6:=⟨Tryz.f173.name,by decide,Tryz.func173.trans (congrArg some (by kernel_rfl))⟩
 f14:=⟨Tryz.f236.name,by decide,Tryz.func236.trans (congrArg some (by kernel_rfl))⟩
 f15:=Tryz.func237.trans (congrArg some (by kernel_rfl))
 f20:=⟨Tryz.f278.name,by decide,Tryz.func278.trans (congrArg some (by kernel_rfl))⟩
 f21:=⟨Tryz.f279.name,by decide,Tryz.func279.trans (congrArg some (by kernel_rfl))⟩
 f22:=⟨Tryz.f280.name,by decide,Tryz.func280.trans (congrArg some (by kernel_rfl))⟩
 f23:=⟨Tryz.f281.name,by decide,Tryz.func281.trans (congrArg some (by kernel_rfl))⟩
 f24:=⟨Tryz.f282.name,by decide,Tryz.func282.trans (congrArg some (by kernel_rfl))⟩
 f25:=⟨Tryz.f283.name,by decide,Tryz.func283.trans (congrArg some (by kernel_rfl))⟩
 f26:=⟨Tryz.f284.name,by decide,Tryz.func284.trans (congrArg some (by kernel_rfl))⟩
 f27:=⟨Tryz.f285.name,by decide,Tryz.func285.trans (congrArg some (by kernel_rfl))⟩
 f28:=Tryz.func286.trans (congrArg some (by kernel_rfl))
 f29:=Tryz.func287.trans (congrArg some (by kernel_rfl))
 f46:=⟨Tryz.f323.name,by decide,Tryz.func323.trans (congrArg some (by kernel_rfl))⟩
 f47:=Tryz.func324.trans (congrArg some (by kernel_rfl))
 f48:=Tryz.func325.trans (congrArg some (by kernel_rfl))
 f49:=⟨Tryz.f326.name,by decide,Tryz.func326.trans (congrArg some (by kernel_rfl))⟩
 f50:=⟨Tryz.f327.name,by decide,Tryz.func327.trans (congrArg some (by kernel_rfl))⟩
 f57:=⟨Tryz.f343.name,by decide,Tryz.func343.trans (congrArg some (by kernel_rfl))⟩
 t0:=Tryz.underlying0
 a0:=Tryz.isAgg0
 z0:=Tryz.sizeOf0
 v0:=Tryz.zeroValue0
 t3:=Tryz.underlying3
 a3:=Tryz.isAgg3
 z3:=Tryz.sizeOf3
 v3:=Tryz.zeroValue3
 t4:=Tryz.underlying4
 a4:=Tryz.isAgg4
 z4:=Tryz.sizeOf4
 v4:=Tryz.zeroValue4
 t5:=Tryz.underlying5
 a5:=Tryz.isAgg5
 z5:=Tryz.sizeOf5
 v5:=Tryz.zeroValue5
 t9:=Tryz.underlying9
 a9:=Tryz.isAgg9
 z9:=Tryz.sizeOf9
 v9:=Tryz.zeroValue9
 t22:=Tryz.underlying24
 a22:=Tryz.isAgg24
 z22:=Tryz.sizeOf24
 v22:=Tryz.zeroValue24
 t25:=Tryz.underlying201
 a25:=Tryz.isAgg201
 z25:=Tryz.sizeOf201
 v25:=Tryz.zeroValue201
 t39:=Tryz.underlying202
 a39:=Tryz.isAgg202
 z39:=Tryz.sizeOf202
 v39:=Tryz.zeroValue202
 t45:=Tryz.underlying336
 a45:=Tryz.isAgg336
 z45:=Tryz.sizeOf336
 v45:=Tryz.zeroValue336
 t46:=Tryz.underlying337
 a46:=Tryz.isAgg337
 z46:=Tryz.sizeOf337
 v46:=Tryz.zeroValue337
 t50:=Tryz.underlying199
 a50:=Tryz.isAgg199
 z50:=Tryz.sizeOf199
 v50:=Tryz.zeroValue199
 t53:=Tryz.underlying343
 a53:=Tryz.isAgg343
 z53:=Tryz.sizeOf343
 v53:=Tryz.zeroValue343
 t55:=Tryz.underlying345
 a55:=Tryz.isAgg345
 z55:=Tryz.sizeOf345
 v55:=Tryz.zeroValue345
 t66:=Tryz.underlying370
 a66:=Tryz.isAgg370
 z66:=Tryz.sizeOf370
 v66:=Tryz.zeroValue370
 t70:=Tryz.underlying374
 a70:=Tryz.isAgg374
 z70:=Tryz.sizeOf374
 v70:=Tryz.zeroValue374
 t76:=Tryz.underlying389
 a76:=Tryz.isAgg389
 z76:=Tryz.sizeOf389
 v76:=Tryz.zeroValue389
 t77:=Tryz.underlying31
 a77:=Tryz.isAgg31
 z77:=Tryz.sizeOf31
 v77:=Tryz.zeroValue31}
end Go.Proofs
namespace Go.Proofs.YtafmbokfkbccaaaGreatDoor
open Go.RowKit Go.Sort Go.Shelf
structure Elem (w:World) (blk:Nat):Type where
 n:ByteArray
 s:Value
 args:List ByteArray
 hs:Strs w s args
 hb:∀k,s.ownBlock=some k→args≠[]→k≠blk
def Elem.fact {w:World} {blk:Nat} (x:Elem w blk):aG:=(x.n,x.args)
def Elem.enc {w:World} {blk:Nat} (x:Elem w blk):List Value:=[.string x.n,x.s]
def Elem.no (w:World) (blk:Nat):Elem w blk:=⟨ByteArray.empty,.slice none 0 0,[],⟨by simp,none,0,rfl,fun h=>absurd rfl h⟩,fun _ _ h=>absurd rfl h⟩
def Elem.cmp {w:World} {blk:Nat} (x y:Elem w blk):Int:=gu x.fact y.fact
theorem Elem.swo (w:World) (blk:Nat):SWO (ltOf (Elem.cmp (w:=w) (blk:=blk))) where
 irrefl x:=by unfold ltOf Elem.cmp;rw[aQ.refl];rfl
 trans x y z h1 h2:=by
  unfold ltOf at*;rw[decide_eq_true_eq] at*;exact aQ.trans _ _ _ h1 h2
 ntrans x y z h1 h2:=by
  unfold ltOf at*;rw[decide_eq_false_iff_not] at*;have:=zR (a:=x.fact) (b:=y.fact) (c:=z.fact) (Int.not_lt.1 h1) (Int.not_lt.1 h2);exact Int.not_lt.2 this
theorem MQ:∀w,(isAgg 27).run Tryz.prog w=.ok true w:=Tryz.isAgg27
theorem Kv:∀w,(Go.sizeOf 27).run Tryz.prog w=.ok 2 w:=Tryz.sizeOf27
theorem Dx:∀args w,(callFunc 128 args).run Tryz.prog w=.ok (.enter 128 args) w:=enters_of Tryz.func128 (by kernel_rfl) rfl
theorem lU {α:Type} (inst:Inhabited α) (enc:α→List Value) (w:World) (blk off m:Nat) (d:Array α) (os:Array Obj) (k:Nat) (hk:k<w.heap.size) (hne:k≠blk):
  (@sortWorldK α inst enc 2 w blk off m d os).heap[k]?=w.heap[k]?:=by
 unfold sortWorldK;rw[heap_grow_old _ _ (by rw[size_putRowK];exact hk)];simp only[putRowK,putRow,mapBlock];rw[Array.getElem?_modify,if_neg (fun e=>hne e.symm)]
 rfl
theorem lV {α:Type} (inst:Inhabited α) (enc:α→List Value) (w:World) (blk off m:Nat) (d:Array α) (os:Array Obj):w.heap.size≤(@sortWorldK α inst enc 2 w blk off m d os).heap.size:=by
 unfold sortWorldK;rw[size_grow,size_putRowK];exact Nat.le_add_right _ _
theorem Elem.Kw {w W:World} {blk:Nat} (x:Elem w blk) (hs:w.heap.size≤W.heap.size) (hk:∀k,k<w.heap.size→k≠blk→W.heap[k]?=w.heap[k]?):bW W (.agg #[.string x.n,x.s]) x.fact:=by
 refine⟨x.s,rfl,?_⟩
 by_cases hl:x.args=[]
 ·have:=x.hs;show Strs W x.s x.args;rw[hl] at this⊢;exact this.nil
 ·exact x.hs.kept hs fun k e=>hk k (x.hs.block_lt hl k e) (x.hb k e hl)
theorem Ky (w:World) (blk off size:Nat): @CmpLays (Elem w blk) ⟨Elem.no w blk⟩ Tryz.prog 128 #[] Elem.enc 2 Elem.cmp blk off size w:=by
 intro m os dk hd x y;have hs:=lV ⟨Elem.no w blk⟩ Elem.enc w blk off m dk os;have hk:=lU ⟨Elem.no w blk⟩ Elem.enc w blk off m dk os;exact(jT _ _ x.fact y.fact _ (x.Kw hs hk) (y.Kw hs hk)).mono fun e w' ⟨he,hw⟩=>⟨he,hw⟩
theorem qm.elems {w:World} {base g n cap:Nat} {l:List aG} (h:qm w base (.slice (some ⟨g,0,none⟩) n cap) l):
  g<w.heap.size∧base≤g∧n=l.length∧∃d:Array (Elem w g),d.toList.map Elem.fact=l∧ @HoldsK (Elem w g) ⟨Elem.no w g⟩ Elem.enc 2 w g 0 d:=by
 obtain⟨xs,ho,hx⟩:=h;have ho2:=ho.2;rcases ho2 with⟨e,_⟩|⟨g',cap',cur,e,hb,hg,hnc,hcm,hcs,htake⟩
 ·cases e
 ·simp only[Value.slice.injEq,Option.some.injEq,Addr.mk.injEq] at e;obtain⟨⟨rfl,_⟩,rfl,rfl⟩:=e;have hgl:g<w.heap.size:=(Array.getElem?_eq_some_iff.1 hg).1;refine⟨hgl,hb,rfl,?_⟩;have hsv:∀i:Fin l.length,∃x:Elem w g,x.fact=l.getD i aB∧xs[i.1*2]?=some (.string x.n)∧xs[i.1*2+1]?=some x.s:=fun i=>by
   obtain⟨c1,s,c2,c3,c4⟩:=hx i.1 i.2;exact⟨⟨(l.getD i aB).1,s,(l.getD i aB).2,c3,fun k hk ha e=>by have:=c4 k hk ha;omega⟩,rfl,c1,c2⟩
  refine⟨Array.ofFn fun i=>Classical.choose (hsv i),?_,?_⟩
  ·apply List.ext_getElem
   ·simp
   ·intro i h1 h2;have:=(Classical.choose_spec (hsv ⟨i,h2⟩)).1;simp only[List.getElem_map,Array.getElem_toList,Array.getElem_ofFn];rw[this,List.getD_eq_getElem?_getD,List.getElem?_eq_getElem h2];rfl
  ·letI:Inhabited (Elem w g):=⟨Elem.no w g⟩
   intro j hj;rw[size_flatK,Array.size_ofFn] at hj;have hj2:j/2<l.length:=by omega
   rw[get_flatK _ _ _ _ (by rw[Array.size_ofFn];exact hj)];have e1:(Array.ofFn fun i=>Classical.choose (hsv i))[j/2]! =Classical.choose (hsv ⟨j/2,hj2⟩):=by
    rw[getElem!_pos _ _ (by rw[Array.size_ofFn];exact hj2),Array.getElem_ofFn]
   rw[e1];have sp:=(Classical.choose_spec (hsv ⟨j/2,hj2⟩)).2;generalize Classical.choose (hsv ⟨j/2,hj2⟩)=x at sp;have cellOf:∀u,xs[j]?=some u→w.cell? ⟨g,0+j,none⟩=some u:=fun u hu=>by
    have:=ho.cells (g:=g) rfl j u hu
    rwa [Addr.add_lit] at this
   refine⟨?_,frozen_of_row _ hg⟩;rcases Nat.mod_two_eq_zero_or_one j with hm|hm
   ·rw[hm];refine cellOf _ ?_;have:j/2*2=j:=by omega
    rw[←this];exact sp.1
   ·rw[hm];refine cellOf _ ?_;have:j/2*2+1=j:=by omega
    rw[←this];exact sp.2
theorem Kz {α:Type} (inst:Inhabited α) {d d':Array α} (h:PermIn 0 d.size d d'):d'.toList.Perm d.toList:=by
 obtain⟨h1,_,h3⟩:=h;have e:d'.extract 0 d.size=d':=by rw[←h1];simp
 rw[e] at h3;simpa using h3
theorem AQ {w W:World} {g cap:Nat} (d:Array (Elem w g)) (hs:w.heap.size≤W.heap.size) (hk:∀k,k<w.heap.size→k≠g→W.heap[k]?=w.heap[k]?) (hg:g<W.heap.size) (hd:d.size≤3518437208883)
  (h: @HoldsK (Elem w g) ⟨Elem.no w g⟩ Elem.enc 2 W g 0 d):Facts W (.slice (some ⟨g,0,none⟩) d.size cap) (d.toList.map Elem.fact):=by
 letI:Inhabited (Elem w g):=⟨Elem.no w g⟩
 refine⟨by simpa using hd,some ⟨g,0,none⟩,cap,by simp,fun _=>⟨g,0,rfl,hg,fun i hi=> ?_⟩⟩;have hi':i<d.size:=by simpa using hi
 have c0:=(h.cell (i:=i) (c:=0) hi' (by omega)).1;have c1:=(h.cell (i:=i) (c:=1) hi' (by omega)).1;have e:d[i]! =d[i]:=getElem!_pos d i hi';have e2:(d.toList.map Elem.fact).getD i aB=d[i].fact:=by
  rw[List.getD_eq_getElem?_getD,List.getElem?_map];simp[hi']
 rw[e2];rw[e] at c0 c1;obtain⟨s,es,hs'⟩:=d[i].Kw hs hk;simp only[Value.agg.injEq] at es;refine⟨c0,d[i].s,c1,?_⟩;have e3:d[i].fact.fst=d[i].n∧s=d[i].s:=by simpa using es.symm
 rw[e3.2] at hs';exact hs'
theorem OZ (w:World) (base:Nat) (v:Value) (l:List aG) (h:qm w base v l) (hl:l.length≤3518437208883):
  Calls Tryz.prog 173 #[v,.func (.func 128) #[] #[]] w fun e w'=>e=.returned (.tuple #[])∧∃l',l'.Perm l∧l'.Pairwise (fun a b=>gu a b≤0)∧Facts w' v l'∧Only base w.heap.size w w':=by
 rcases h.choose_spec.1.2 with⟨rfl,e⟩|⟨g,cap,cur,rfl,_⟩
 ·have:l=[]:=List.eq_nil_of_length_eq_zero e;subst this;exact(AnyF.slices_SortFunc_none Tryz.sortFacts none 0 _ w).mono fun e w' ⟨he,hw⟩=>⟨he,[],List.Perm.refl _,List.Pairwise.nil,by rw[hw];exact⟨by simp,none,0,rfl,fun h=>absurd rfl h⟩,by rw[hw];exact Only.refl _ _ _⟩
 ·obtain⟨hgl,hb,_,d,hd,hH⟩:=h.elems
  letI:Inhabited (Elem w g):=⟨Elem.no w g⟩
  have hsz:d.size=l.length:=by rw[←hd];simp
  have hc:=AnyQ.slices_SortFunc Tryz.sortFacts 2 MQ Kv Elem.enc (fun _=>rfl) (fun x v hv=>by
   simp[Elem.enc] at hv;rcases hv with rfl|rfl
   ·rfl
   ·obtain⟨a,c,e⟩:=aW x.hs;rw[e];rfl) Elem.cmp (Elem.swo w g) 128 #[] g 0 cap d w Dx (Ky w g 0 d.size) hH hgl (by omega)
  rw[hsz] at hc;refine hc.mono ?_;rintro e w' ⟨he,d',n,os,hp,hs,rfl⟩;have hp':PermIn 0 d.size d d':=by rw[hsz];exact hp
  have hd':d'.size=d.size:=hp'.1;have hkk:=lU ⟨Elem.no w g⟩ Elem.enc w g 0 n d' os;have hss:=lV ⟨Elem.no w g⟩ Elem.enc w g 0 n d' os;refine⟨he,d'.toList.map Elem.fact,?_,?_,?_,?_⟩
  ·rw[←hd];exact(Kz _ hp').map _
  ·rw[List.pairwise_map];rw[List.pairwise_iff_getElem];intro i j hi hj hij;have:=hs i j (Nat.zero_le _) hij (by simp at hj;omega);have e1:d'[i]! =d'.toList[i]:=by rw[getElem!_pos d' i (by simpa using hi)];simp
   have e2:d'[j]! =d'.toList[j]:=by rw[getElem!_pos d' j (by simpa using hj)];simp
   rw[e1,e2] at this;unfold ltOf Elem.cmp at this;rw[decide_eq_false_iff_not] at this;have:=aQ.swap d'.toList[i].fact d'.toList[j].fact;omega
  ·have:=AQ (cap:=cap) d' hss hkk (Nat.lt_of_lt_of_le hgl hss) (by omega) (holdsK_sortWorldK_c Elem.enc 2 w g 0 d d' n os hH hgl hd');rw[hd',hsz] at this;exact this
  ·refine⟨rfl,rfl,rfl,Nat.le_add_right _ _,hss,fun k hk ho=>hkk k hk (by omega)⟩
end Go.Proofs.YtafmbokfkbccaaaGreatDoor
namespace Go.Proofs.YtafmbokfkbccaaaGreatDoor
open Go.RowKit Go.Sort
theorem yY {w:World} {base n:Nat} {v:Value} {xs:List Value} {e:TypeId} {sz:Nat} (h:w.ownsRow base e sz v n xs):∃a cap,v=.slice a n cap:=by
 rcases h.2 with⟨rfl,rfl⟩|⟨g,cap,cur,rfl,_⟩
 ·exact⟨none,0,rfl⟩
 ·exact⟨_,cap,rfl⟩
set_option maxHeartbeats 400000 in
theorem rise (w:World) (base:Nat) (v:Value) (l:List aG) (h:qm w base v l) (hl:l.length≤3518437208883):
  Calls Tryz.prog 97 #[v] w fun e w'=>∃v' s,e=.returned v'∧CQ s l∧gN w' w.heap.size v' s∧Only base w.heap.size w w':=by
 have hS:=hide (OZ w base v l h hl);obtain⟨a,cap,rfl⟩:=yY h.choose_spec.1;clear h
 go_enter Tryz.func97,Tryz.ntmps97
 go_wp2_with fail
 refine hS.out.mono ?_;rintro e w1 ⟨rfl,l',hp,hs,hF,hO⟩;have hle:l'.length=l.length:=hp.length_eq
 go_wp2_with fail
 refine(CZ w1).mono ?_;rintro e w2 ⟨rfl,hL2,hz2,hlast⟩;have hK:=hide (keep 238 #[.pointer (some ⟨w1.heap.size+1,0,none⟩),.pointer (some ⟨w1.heap.size,0,none⟩)] CY w1.heap.size (w1.heap.size+2) w1 w2 (.slice a l.length cap) l' (newP l') (Mc w1 w1.heap.size l') hF hL2 (Nat.le_refl _) (by omega) (Hz w1 l')
  ⟨ByteArray.empty,none,0,0,hlast,fun h=>absurd h (Nat.lt_irrefl _)⟩)
 have HL:=hide hlast;clear hlast
 go_wp2_with fail
 refine hK.out.mono ?_;rintro e w3 ⟨v',rfl,hOw,hO3,_⟩;have hset:=Bz hs l'.length (Nat.le_refl _);rw[List.take_length] at hset;have HS:=hide hset;have HW:=hide hOw;clear hset hOw;go_wp2;go_ret;have SS:Later w1 w3:=hO3.later hL2 (Nat.le_refl _);refine⟨v',_,rfl,⟨HS.out.1,fun f=>(HS.out.2.1 f).trans hp.mem_iff,by rw[←hle];exact HS.out.2.2⟩,?_,hO.trans SS.only⟩;have hsz:w.heap.size≤w2.heap.size:=Nat.le_trans hO.size hL2.size;obtain⟨xs,ho,hx⟩:=HW.out;refine⟨xs,⟨ho.1,?_⟩,fun i hi=> ?_⟩
 ·rcases ho.2 with e|⟨g,cp,cur,e,hg,r⟩
  ·exact Or.inl e
  ·exact Or.inr ⟨g,cp,cur,e,Nat.le_trans hsz hg,r⟩
 ·obtain⟨c1,s,c2,c3,c4⟩:=hx i hi;exact⟨c1,s,c2,c3,fun k hk=>⟨Nat.le_trans hsz (c4 k hk).1,(c4 k hk).2⟩⟩
set_option maxHeartbeats 400000 in
theorem ofC (v:Value) (l:List aG) (w:World) (h:Facts w v l):
  Calls Tryz.prog 50 #[v] w fun e w'=>∃v' s,e=.returned v'∧CQ s l∧gN w' w.heap.size v' s∧Later w w':=by
 have hC:=hide (clone v l w h);have hl:=h.1;obtain⟨a,cap,rfl⟩:=aD h;clear h
 go_enter Tryz.func50,Tryz.ntmps50
 go_wp2_with fail
 refine hC.out.mono ?_;rintro e w1 ⟨v1,rfl,hR,hL⟩;have hr:=hide (rise w1 w.heap.size v1 l hR hl);obtain⟨a1,Sw,rfl⟩:=yY hR.choose_spec.1;clear hR
 go_wp2_with fail
 refine hr.out.mono ?_;rintro e w2 ⟨v2,s,rfl,hs,hO,hW⟩;have HS:=hide hs;have HO:=hide hO;clear hs hO;go_wp2;go_ret;exact⟨v2,s,rfl,HS.out,HO.out.base hL.size,hW.later hL (Nat.le_refl _)⟩
end Go.Proofs.YtafmbokfkbccaaaGreatDoor
