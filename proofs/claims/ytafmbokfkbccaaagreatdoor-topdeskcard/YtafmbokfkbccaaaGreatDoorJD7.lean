import Derived.Test.YtafmbokfkbccaaaGreatDoorJD5
import Derived.Shelf.Abstract
import Derived.Lib.SliceRun
namespace Go.Proofs.YtafmbokfkbccaaaGreatDoor
open Go.RowKit Go.Sort
def pick (p:Nat→Bool) (l:List FactD):Nat→List FactD
 |0=>[]
 |k+1=>if p k then pick p l k++[l.getD k noFact] else pick p l k
theorem pick_le (p:Nat→Bool) (l:List FactD):∀k,(pick p l k).length≤k
 |0=>Nat.le_refl _
 |k+1=>by
  have:=pick_le p l k;unfold pick;split <;> simp <;> omega
structure Asked (g:Nat) (cb:Array Value) (lo hi:Nat) (w0:World) (l:List FactD) (p:Nat→Bool) (S:Nat→World→Prop):Prop where
 ask:∀k w' v,k<l.length→Later w0 w'→hi≤w'.heap.size→S k w'→FactV w0 v (l.getD k noFact)→
  Calls Tryz.prog g (#[v]++cb) w' fun e w''=>e=.returned (.bool (p k))∧Only lo hi w' w''∧S (k+1) w''
 kept:∀k w' w'',S k w'→(∀j,j<hi→w''.heap[j]?=w'.heap[j]?)→w'.heap.size≤w''.heap.size→S k w''
set_option maxHeartbeats 1000000 in
theorem keep (g:Nat) (cb:Array Value) (eg:∀args w,(callFunc g args).run Tryz.prog w=.ok (.enter g args) w) (lo hi:Nat) (w0 w:World) (v:Value) (l:List FactD) (p:Nat→Bool) (S:Nat→World→Prop)
  (hf:Facts w0 v l) (h0:Later w0 w) (hlo:w0.heap.size≤lo) (hhi:hi≤w.heap.size) (hA:Asked g cb lo hi w0 l p S) (hS:S 0 w):
  Calls Tryz.prog 93 #[v,.func (.func g) #[] cb] w fun e w'=>∃v',e=.returned v'∧OwnF w' w.heap.size v' (pick p l l.length)∧Only lo hi w w'∧S l.length w':=by
 have HF:=hide hf;have HA:=hide hA;have HS:=hide hS;obtain⟨a,cap,rfl,hn,hz⟩:=hf.addr;clear hf hA hS
 go_enter Tryz.func93,Tryz.ntmps93
 go_wp2
 go_loopw [5,10] (fun o i wr=>∃k:Nat,k≤l.length∧i=.int .i64 k∧Hid (OwnF wr w.heap.size o (pick p l k))∧Hid (Only lo hi w wr)∧Hid (S k wr)) (fun _ i _=>l.length- (intOf i).toNat)
 case atStart=>exact⟨0,by omega,rfl,OwnF.nil _ _,Only.refl _ _ _,HS⟩
 case round=>
  obtain⟨k,hk,rfl,HO,HW,HK⟩:=hrel
  by_cases hlt:k<l.length
  ·rcases hz with rfl|⟨b,off,rfl⟩
   ·simp at hlt
   have hL0:Later w0 wr:=HW.out.later h0 hlo;obtain⟨hb0,ax,lx,cx,g1,g2,fx⟩:=HF.out.at hlt;have hb:b<wr.heap.size:=Nat.lt_of_lt_of_le hb0 hL0.size;rw[←hL0.cell (p:=⟨b,off+k*2,none⟩) hb0] at g1;rw[←hL0.cell (p:=⟨b,off+k*2+1,none⟩) hb0] at g2;have hltz:(k:Int)<(l.length:Int):=by omega
   have hwr:w.heap.size≤wr.heap.size:=HW.out.size;have hp:pick p l (k+1)=if p k then pick p l k++[l.getD k noFact] else pick p l k:=rfl;have hpl:=pick_le p l k;have hlast:pick p l (k+1)=pick p l (k+1):=rfl;generalize hfk:l.getD k noFact=f at*;have HFK:=hide hfk;have HP:=hide hp;clear hfk hp hlast;obtain⟨nk,lk⟩:=f;dsimp only at*;have hcall:=fun w' (h1:Later w0 w') (h2:hi≤w'.heap.size) (h3:S k w')=>HA.out.ask k w' (.agg #[.string nk,.slice ax lx cx]) hlt h1 h2 h3 (by rw[HFK.out];exact fx);have HC:=hide hcall;clear hcall;have hS1:S k (wr.alloc (.cells #[.string nk,.slice ax lx cx] 27)):=HA.out.kept k wr _ HK.out (fun j hj=>Below.heap_alloc _ _ _ (by omega)) (by simp)
   go_wp2_with fail
   refine(HC.out _ (hL0.alloc _) (by simp;omega) hS1).mono ?_;rintro e w1 ⟨rfl,hO1,hS2⟩;have z0:w1.cell? ⟨wr.heap.size,0,none⟩=some (.string nk):=by rw[hO1.cell (by simp) (Or.inr (by show hi≤wr.heap.size;omega))];simp
   have z1:w1.cell? ⟨wr.heap.size,1,none⟩=some (.slice ax lx cx):=by rw[hO1.cell (by simp) (Or.inr (by show hi≤wr.heap.size;omega))];simp
   have hsz:wr.heap.size<w1.heap.size:=by have:=hO1.size;simp at this;omega
   have hW1:Only lo hi w w1:=HW.out.trans ((((Later.refl wr).alloc _).only).trans hO1);have hOw:OwnF w1 w.heap.size u5 (pick p l k):=((HO.out.later ((Later.refl wr).alloc _)).only hO1 hhi);have hL1:Later w0 w1:=hW1.later h0 hlo;have HO1:=hide hOw;have HW1:=hide hW1;have HS2:=hide hS2;clear hOw hW1 hS2;cases hpk:p k
   ·have HN:Hid (pick p l (k+1)=pick p l k):=by show _=_;rw[HP.out,hpk];rfl
    go_wp2
    go_roundw
    case rel=>exact⟨k+1,by omega,by go_num,(by rw[HN.out];exact HO1.out:OwnF _ _ _ _),HW1,HS2⟩
    case measure=>simp[intOf];omega
   ·have HN:Hid (pick p l (k+1)=pick p l k++[(nk,lk)]):=by show _=_;rw[HP.out,hpk];rfl
    go_wp2_with fail
    refine(copied _ (nk,lk) _ (fx.later hL1)).mono ?_;rintro e w2 ⟨sv,rfl,hs,hL2,hsb⟩;have HO2:=hide (HO1.out.later hL2);obtain⟨a3,c3,rfl⟩:=sliceStr hs;obtain⟨v',w',hrun,hO3,hg3,hd3⟩:=HO2.out.append (nk,lk) _ hs (fun q hq=>⟨by have:=(hsb q hq).1;omega,(hsb q hq).2,fun e=>by
     obtain⟨xs,ho,_⟩:=HO1.out;have:=(ho.lt q e).2;have:=(hsb q hq).1;omega⟩) (by omega) (by have:=hL2.size;omega) rfl
    dsimp only at hrun hg3 hd3;have hown:∀q,u5.ownBlock=some q→w.heap.size≤q:=fun q e=>by obtain⟨xs,ho,_⟩:=HO1.out;exact(ho.lt q e).1
    have HR:=hide hrun;have HW3:Hid (Only lo hi w w'):=Only.grown (HW1.out.trans ((hL2.alloc _).only)) hg3 hd3 hown rfl rfl;have HO3:=hide hO3;have HS3:Hid (S (k+1) w'):=HA.out.kept (k+1) w1 _ HS2.out (fun j hj=>by
     rw[hg3.block j (by have:=hL2.size;simp;omega) (fun e=>by have:=hown j e.symm;omega),Below.heap_alloc _ _ _ (by have:=hL2.size;omega)];exact hL2.block (by omega)) (by have:=hg3.size;have:=hL2.size;simp at*;omega)
    clear hrun hO3 hg3
    go_wp2_with (at_builtin;refine wpList_append_run rfl (.tmp 17) (.tmp 20) 24 rfl _ _ _ _ rfl rfl HR.out ?_)
    go_roundw
    case rel=>exact⟨k+1,by omega,by go_num,(by rw[HN.out];exact HO3.out:OwnF _ _ _ _),HW3,HS3⟩
    case measure=>simp[intOf];omega
  ·go_wp2;go_ret;obtain rfl:k=l.length:=by omega
   exact⟨_,rfl,HO.out,HW.out,HK.out⟩
end Go.Proofs.YtafmbokfkbccaaaGreatDoor
namespace Go.Proofs.YtafmbokfkbccaaaGreatDoor
open Go.RowKit Go.Sort
def Rises (s:List FactD):Prop:=s.Pairwise fun a b=>cmpF a b<0
theorem le_lt {a b c:FactD} (h:cmpF a b≤0) (k:cmpF b c<0):cmpF a c<0:=by
 by_cases e:cmpF a b=0
 ·rw[three_cmpF.zero _ _ e];exact k
 ·exact three_cmpF.trans a b c (by omega) k
theorem lt_irrefl {a:FactD} (h:cmpF a a<0):False:=by rw[three_cmpF.refl] at h;omega
theorem lt_asym {a b:FactD} (h:cmpF a b<0) (k:cmpF b a<0):False:=lt_irrefl (three_cmpF.trans a b a h k)
theorem Rises.ext:∀{s t:List FactD},Rises s→Rises t→(∀f,f∈s↔f∈t)→s=t
 |[],[],_,_,_=>rfl
 |[],b::t,_,_,h=>by have:=(h b).2 (List.mem_cons_self ..);cases this
 |a::s,[],_,_,h=>by have:=(h a).1 (List.mem_cons_self ..);cases this
 |a::s,b::t,hs,ht,h=>by
  have hs':=List.pairwise_cons.1 hs;have ht':=List.pairwise_cons.1 ht;have e:a=b:=by
   rcases List.mem_cons.1 ((h a).1 (List.mem_cons_self ..)) with e|e
   ·exact e
   ·rcases List.mem_cons.1 ((h b).2 (List.mem_cons_self ..)) with e'|e'
    ·exact e'.symm
    ·exact absurd (ht'.1 a e) fun k=>lt_asym k (hs'.1 b e')
  subst e;rw[Rises.ext hs'.2 ht'.2 fun f=>⟨fun hf=> ?_,fun hf=> ?_⟩]
  ·rcases List.mem_cons.1 ((h f).1 (List.mem_cons_of_mem _ hf)) with e|e
   ·subst e;exact absurd (hs'.1 f hf) lt_irrefl
   ·exact e
  ·rcases List.mem_cons.1 ((h f).2 (List.mem_cons_of_mem _ hf)) with e|e
   ·subst e;exact absurd (ht'.1 f hf) lt_irrefl
   ·exact e
def SetOf (s l:List FactD):Prop:=Rises s∧(∀f,f∈s↔f∈l)∧s.length≤l.length
theorem getD_mem_take {l:List FactD} {i k:Nat} (hi:i<k) (hk:k≤l.length):l.getD i noFact∈l.take k:=by
 rw[List.getD_eq_getElem?_getD,List.getElem?_eq_getElem (by omega)];exact List.mem_take_iff_getElem.2 ⟨i,by omega,rfl⟩
theorem mem_take_getD {l:List FactD} {k:Nat} {f:FactD} (h:f∈l.take k):∃i,i<k∧i<l.length∧f=l.getD i noFact:=by
 obtain⟨i,hi,rfl⟩:=List.mem_take_iff_getElem.1 h;exact⟨i,by omega,by omega,by rw[List.getD_eq_getElem?_getD,List.getElem?_eq_getElem (by omega)];rfl⟩
theorem take_succ {l:List FactD} {k:Nat} (h:k<l.length):l.take (k+1)=l.take k++[l.getD k noFact]:=by
 rw[List.take_succ_eq_append_getElem h,List.getD_eq_getElem?_getD,List.getElem?_eq_getElem h];rfl
theorem sorted_getD {l:List FactD} (h:l.Pairwise fun a b=>cmpF a b≤0) {i j:Nat} (hij:i≤j) (hj:j<l.length):cmpF (l.getD i noFact) (l.getD j noFact)≤0:=by
 by_cases e:i=j
 ·subst e;rw[three_cmpF.refl];exact Int.le_refl _
 ·have:=List.pairwise_iff_getElem.1 h i j (by omega) hj (by omega);rw[List.getD_eq_getElem?_getD,List.getD_eq_getElem?_getD,List.getElem?_eq_getElem (by omega),List.getElem?_eq_getElem hj];exact this
def newP (l:List FactD) (k:Nat):Bool:=decide (k=0)|| !decide (cmpF (l.getD (k-1) noFact) (l.getD k noFact)=0)
theorem pick_new {l:List FactD} (h:l.Pairwise fun a b=>cmpF a b≤0):∀k,k≤l.length→SetOf (pick (newP l) l k) (l.take k)
 |0,_=>⟨List.Pairwise.nil,fun f=>by simp[pick],by simp[pick]⟩
 |k+1,hk=>by
  obtain⟨i1,i2,_⟩:=pick_new h k (by omega);have hlen:(pick (newP l) l (k+1)).length≤(l.take (k+1)).length:=by
   have:=pick_le (newP l) l (k+1);rw[List.length_take];omega
  rw[take_succ (by omega)] at hlen;rw[take_succ (by omega)];cases hp:newP l k with
  |true=>
   have e:pick (newP l) l (k+1)=pick (newP l) l k++[l.getD k noFact]:=by simp[pick,hp]
   rw[e];refine⟨?_,fun f=>by rw[List.mem_append,List.mem_append,i2 f],by rw[←e];exact hlen⟩;unfold Rises;rw[List.pairwise_append];refine⟨i1,List.pairwise_singleton _ _,fun a ha b hb=> ?_⟩;rw[List.mem_singleton] at hb;subst hb;obtain⟨i,hi,hil,rfl⟩:=mem_take_getD ((i2 a).1 ha);refine le_lt (sorted_getD h (i:=i) (j:=k-1) (by omega) (by omega)) ?_;have h1:=sorted_getD h (i:=k-1) (j:=k) (by omega) (by omega);have h2:cmpF (l.getD (k-1) noFact) (l.getD k noFact)≠0:=by
    intro e;unfold newP at hp;rw[decide_eq_true e,decide_eq_false (by omega)] at hp;cases hp
   omega
  |false=>
   have e:pick (newP l) l (k+1)=pick (newP l) l k:=by simp[pick,hp]
   rw[e];refine⟨i1,fun f=> ?_,by rw[←e];exact hlen⟩;rw[i2 f,List.mem_append,List.mem_singleton];refine⟨Or.inl,fun hf=>hf.elim id fun hf=> ?_⟩;unfold newP at hp;rw[Bool.or_eq_false_iff,decide_eq_false_iff_not,Bool.not_eq_false',decide_eq_true_eq] at hp;have:=three_cmpF.zero _ _ hp.2;rw[hf,←this];exact getD_mem_take (by omega) (by omega)
theorem pick_filter (q:FactD→Bool) (l:List FactD):∀k,k≤l.length→pick (fun i=>q (l.getD i noFact)) l k=(l.take k).filter q
 |0,_=>by simp[pick]
 |k+1,hk=>by
  have e:pick (fun i=>q (l.getD i noFact)) l (k+1)=if q (l.getD k noFact) then pick (fun i=>q (l.getD i noFact)) l k++[l.getD k noFact] else pick (fun i=>q (l.getD i noFact)) l k:=rfl;rw[e,take_succ (by omega),List.filter_append,←pick_filter q l k (by omega)];generalize l.getD k noFact=x;cases hq:q x <;> simp[hq]
end Go.Proofs.YtafmbokfkbccaaaGreatDoor
namespace Go.Proofs.YtafmbokfkbccaaaGreatDoor
open Go.RowKit Go.Sort
theorem pick_all (l:List FactD):∀k,k≤l.length→pick (fun _=>true) l k=l.take k
 |0,_=>by simp[pick]
 |k+1,h=>by
  simp only[pick,if_true];rw[pick_all l k (by omega),List.take_succ_eq_append_getElem (by omega),List.getD_eq_getElem?_getD,List.getElem?_eq_getElem (by omega)];rfl
set_option maxHeartbeats 400000 in
theorem own1 (v:Value) (f:FactD) (w:World) (h:FactV w v f):Calls Tryz.prog 123 #[v] w fun e w'=>e=.returned (.bool true)∧Later w w':=by
 obtain⟨s,rfl,h0,a,cap,rfl,hc⟩:=h;clear hc
 go_enter Tryz.func123,Tryz.ntmps123
 go_wp2;go_ret;exact⟨rfl,(by repeat (first|exact Later.refl _|assumption|refine Later.drewN ?_ _|refine Later.drew ?_|refine Later.alloc ?_ _|refine Later.grow ?_ _))⟩
theorem enters_own1:∀args w,(callFunc 123 args).run Tryz.prog w=.ok (.enter 123 args) w:=enters_of Tryz.func123 (by kernel_rfl) rfl
theorem enters_ul1:∀args w,(callFunc 238 args).run Tryz.prog w=.ok (.enter 238 args) w:=enters_of Tryz.func238 (by kernel_rfl) rfl
theorem enters_less1:∀args w,(callFunc 94 args).run Tryz.prog w=.ok (.enter 94 args) w:=enters_of Tryz.func94 (by kernel_rfl) rfl
set_option maxHeartbeats 400000 in
theorem ownC (v:Value) (l:List FactD) (w:World) (h:Facts w v l):Calls Tryz.prog 67 #[v] w fun e w'=>∃v',e=.returned v'∧OwnF w' w.heap.size v' l∧Later w w':=by
 have hk:=keep 123 #[] enters_own1 w.heap.size w.heap.size w w v l (fun _=>true) (fun _ _=>True) h (Later.refl _) (Nat.le_refl _) (Nat.le_refl _)
  ⟨fun k w' v' _ hL _ _ hf=>(own1 v' _ w' (hf.later hL)).mono fun e w'' ⟨he,hw⟩=>⟨he,hw.only,trivial⟩,fun _ _ _ _ _ _=>trivial⟩ trivial
 rw[pick_all l l.length (Nat.le_refl _),List.take_length] at hk;obtain⟨a,cap,rfl⟩:=sliceFacts h;have HK:=hide hk;clear hk h
 go_enter Tryz.func67,Tryz.ntmps67
 go_wp2_with (go_at_call 93;refine HK.out.mono ?_;rintro e w' ⟨v',rfl,ho,hO,_⟩)
 go_ret;exact⟨v',rfl,ho,hO.later (Later.refl _) (Nat.le_refl _)⟩
def lastAt (w:World) (lo:Nat) (n:ByteArray) (s:Value) (b:Bool):Prop:=
 w.heap[lo]?=some (.cells #[.string n,s] 27 (0,0))∧w.heap[lo+1]?=some (.cells #[.bool b] 4 (0,0))
set_option maxHeartbeats 400000 in
theorem unlikeLast (w:World):Calls Tryz.prog 174 #[] w fun e w'=>
  e=.returned (.func (.func 238) #[] #[.pointer (some ⟨w.heap.size+1,0,none⟩),.pointer (some ⟨w.heap.size,0,none⟩)])∧Later w w'∧w'.heap.size=w.heap.size+2∧lastAt w' w.heap.size ByteArray.empty (.slice none 0 0) false:=by
 go_enter Tryz.func174,Tryz.ntmps174
 go_wp2;go_ret;refine⟨rfl,(by repeat (first|exact Later.refl _|assumption|refine Later.drewN ?_ _|refine Later.drew ?_|refine Later.alloc ?_ _|refine Later.grow ?_ _)),by simp,?_,?_⟩
 ·rw[Below.heap_alloc _ _ _ (by simp),heap_alloc_new];rfl
 ·have:=heap_alloc_new (w.alloc (.cells #[.string {data:=#[]},.slice none 0 0] 27)) (.cells #[.bool false] 4);simpa using this
theorem heap_setCell_at {w:World} {g j:Nat} {cs:Array Value} {t:TypeId} {fr:Nat×Nat} (h:w.heap[g]?=some (.cells cs t fr)) (u:Value):(w.setCell ⟨g,j,none⟩ u).heap[g]?=some (.cells (cs.setIfInBounds j u) t fr):=by
 simp[World.setCell,Array.getElem?_modify,h]
theorem frozen_of_row {w:World} {g:Nat} (j:Nat) {cs:Array Value} {t:TypeId} (h:w.heap[g]?=some (.cells cs t (0,0))):w.frozen? ⟨g,j,none⟩=false:=by
 simp[World.frozen?,h]
theorem last_stored {w w2:World} {lo:Nat} {n n':ByteArray} {s s':Value} {b:Bool} (hl:lastAt w lo n s b) (hL:Later w w2):
  Only lo (lo+2) w (((w2.setCell ⟨lo,0,none⟩ (.string n')).setCell ⟨lo,1,none⟩ s').setCell ⟨lo+1,0,none⟩ (.bool true))∧lastAt (((w2.setCell ⟨lo,0,none⟩ (.string n')).setCell ⟨lo,1,none⟩ s').setCell ⟨lo+1,0,none⟩ (.bool true)) lo n' s' true:=by
 have hb1:lo<w.heap.size:=(Array.getElem?_eq_some_iff.1 hl.1).1;have hb2:lo+1<w.heap.size:=(Array.getElem?_eq_some_iff.1 hl.2).1;have h1:w2.heap[lo]?=some (.cells #[.string n,s] 27 (0,0)):=by rw[hL.block hb1];exact hl.1
 have h2:w2.heap[lo+1]?=some (.cells #[.bool b] 4 (0,0)):=by rw[hL.block hb2];exact hl.2
 refine⟨⟨hL.below.os,hL.below.tape,hL.below.output,hL.drawn,by simpa[World.setCell] using hL.size,fun k hk ho=> ?_⟩,?_,?_⟩
 ·rw[Below.heap_setCell _ _ _ _ (by show k≠lo+1;omega),Below.heap_setCell _ _ _ _ (by show k≠lo;omega),Below.heap_setCell _ _ _ _ (by show k≠lo;omega)];exact hL.block hk
 ·rw[Below.heap_setCell _ _ _ _ (by show lo≠lo+1;omega)];rw[heap_setCell_at (heap_setCell_at h1 _)]
  rfl
 ·rw[heap_setCell_at (by rw[Below.heap_setCell _ _ _ _ (by show lo+1≠lo;omega),Below.heap_setCell _ _ _ _ (by show lo+1≠lo;omega)];exact h2)]
  rfl
set_option maxHeartbeats 1000000 in
theorem unlikeLast1_yes (lo:Nat) (w:World) (n:ByteArray) (s:Value) (v:Value) (f g:FactD) (hl:lastAt w lo n s true) (hg:FactV w (.agg #[.string n,s]) g) (hf:FactV w v f):
  Calls Tryz.prog 238 #[v,.pointer (some ⟨lo+1,0,none⟩),.pointer (some ⟨lo,0,none⟩)] w fun e w'=>e=.returned (.bool (!decide (cmpF g f=0)))∧
   ∃w2,Later w w2∧∃s',v=.agg #[.string f.1,s']∧w'=((w2.setCell ⟨lo,0,none⟩ (.string f.1)).setCell ⟨lo,1,none⟩ s').setCell ⟨lo+1,0,none⟩ (.bool true):=by
 have hC:=fun w' (hw:Later w w')=>compareF _ _ g f w' (hg.later hw) (hf.later hw);have HC:=hide hC;obtain⟨s1,rfl,h0,a,cap,rfl,hc⟩:=hf;obtain⟨s2,e2,l0,a2,cap2,rfl,hc2⟩:=hg;simp at e2;obtain⟨rfl,rfl⟩:=e2;clear hc hc2 hC;have hb1:lo<w.heap.size:=(Array.getElem?_eq_some_iff.1 hl.1).1;have hb2:lo+1<w.heap.size:=(Array.getElem?_eq_some_iff.1 hl.2).1;have c0:w.cell? ⟨lo,0,none⟩=some (.string g.1):=by rw[cell_of_row _ _ _ _ _ _ hl.1];rfl
 have c1:w.cell? ⟨lo,1,none⟩=some (.slice a2 g.2.length cap2):=by rw[cell_of_row _ _ _ _ _ _ hl.1];rfl
 have c2:w.cell? ⟨lo+1,0,none⟩=some (.bool true):=by rw[cell_of_row _ _ _ _ _ _ hl.2];rfl
 obtain⟨fn,fl⟩:=f;obtain⟨gn,gl⟩:=g;dsimp only at*
 go_enter Tryz.func238,Tryz.ntmps238
 go_wp2_with fail
 refine(HC.out _ ((Later.refl _).alloc _)).mono ?_;rintro e w2 ⟨rfl,hL⟩;have hL0:Later w w2:=((Later.refl _).alloc _).trans hL;have z0:w2.cell? ⟨w.heap.size,0,none⟩=some (.string fn):=by rw[hL.cell (by simp)];simp
 have z1:w2.cell? ⟨w.heap.size,1,none⟩=some (.slice a fl.length cap):=by rw[hL.cell (by simp)];simp
 have z2:w2.cell? ⟨lo,0,none⟩=some (.string gn):=by rw[hL0.cell hb1];exact c0
 have z3:w2.cell? ⟨lo,1,none⟩=some (.slice a2 gl.length cap2):=by rw[hL0.cell hb1];exact c1
 have z4:w2.cell? ⟨lo+1,0,none⟩=some (.bool true):=by rw[hL0.cell hb2];exact c2
 have y0:w2.frozen? ⟨lo,0,none⟩=false:=by rw[hL0.frozen hb1];exact frozen_of_row 0 hl.1
 have y1:w2.frozen? ⟨lo,1,none⟩=false:=by rw[hL0.frozen hb1];exact frozen_of_row 1 hl.1
 have y2:w2.frozen? ⟨lo+1,0,none⟩=false:=by rw[hL0.frozen hb2];exact frozen_of_row 0 hl.2
 go_wp2;go_ret;refine⟨ret_bool ?_,w2,hL0,_,rfl,rfl⟩;rw[Bool.eq_iff_iff];simp
set_option maxHeartbeats 1000000 in
theorem unlikeLast1_no (lo:Nat) (w:World) (n:ByteArray) (a2:Option Addr) (m2 cap2:Nat) (v:Value) (f:FactD) (hl:lastAt w lo n (.slice a2 m2 cap2) false) (hf:FactV w v f):
  Calls Tryz.prog 238 #[v,.pointer (some ⟨lo+1,0,none⟩),.pointer (some ⟨lo,0,none⟩)] w fun e w'=>e=.returned (.bool true)∧
   ∃w2,Later w w2∧∃s',v=.agg #[.string f.1,s']∧w'=((w2.setCell ⟨lo,0,none⟩ (.string f.1)).setCell ⟨lo,1,none⟩ s').setCell ⟨lo+1,0,none⟩ (.bool true):=by
 obtain⟨s1,rfl,h0,a,cap,rfl,hc⟩:=hf;clear hc;have hb1:lo<w.heap.size:=(Array.getElem?_eq_some_iff.1 hl.1).1;have hb2:lo+1<w.heap.size:=(Array.getElem?_eq_some_iff.1 hl.2).1;have z2:w.cell? ⟨lo,0,none⟩=some (.string n):=by rw[cell_of_row _ _ _ _ _ _ hl.1];rfl
 have z3:w.cell? ⟨lo,1,none⟩=some (.slice a2 m2 cap2):=by rw[cell_of_row _ _ _ _ _ _ hl.1];rfl
 have z4:w.cell? ⟨lo+1,0,none⟩=some (.bool false):=by rw[cell_of_row _ _ _ _ _ _ hl.2];rfl
 have y0:w.frozen? ⟨lo,0,none⟩=false:=frozen_of_row 0 hl.1;have y1:w.frozen? ⟨lo,1,none⟩=false:=frozen_of_row 1 hl.1;have y2:w.frozen? ⟨lo+1,0,none⟩=false:=frozen_of_row 0 hl.2;obtain⟨fn,fl⟩:=f;dsimp only at*
 go_enter Tryz.func238,Tryz.ntmps238
 go_wp2;go_ret;refine⟨rfl,w.alloc (.cells #[.string fn,.slice a fl.length cap] 27),(Later.refl _).alloc _,_,rfl,?_⟩;rw[World.setCell_alloc_past _ _ _ _ (by exact hb1),World.setCell_alloc_past _ _ _ _ (by simpa using hb1),World.setCell_alloc_past _ _ _ _ (by simpa using hb2)]
def LastK (w0:World) (lo:Nat) (l:List FactD) (k:Nat) (w:World):Prop:=
 ∃n a m c,lastAt w lo n (.slice a m c) (decide (0<k))∧(0<k→FactV w0 (.agg #[.string n,.slice a m c]) (l.getD (k-1) noFact))
theorem asked_ul (w0:World) (l:List FactD):
  Asked 238 #[.pointer (some ⟨w0.heap.size+1,0,none⟩),.pointer (some ⟨w0.heap.size,0,none⟩)] w0.heap.size (w0.heap.size+2) w0 l (newP l) (LastK w0 w0.heap.size l) where
 ask k w' v hk hL _ hS hf:=by
  obtain⟨n,a,m,c,hl,hlast⟩:=hS
  by_cases h0:0<k
  ·rw[decide_eq_true h0] at hl;have e:newP l k= !decide (cmpF (l.getD (k-1) noFact) (l.getD k noFact)=0):=by simp[newP];omega
   rw[e];refine(unlikeLast1_yes w0.heap.size w' n _ v (l.getD k noFact) (l.getD (k-1) noFact) hl ((hlast h0).later hL) (hf.later hL)).mono ?_;rintro e w'' ⟨rfl,w2,hL2,s',rfl,rfl⟩;have hst:=last_stored (n':=(l.getD k noFact).1) (s':=s') hl hL2;obtain⟨s1,e1,hs1⟩:=hf;simp at e1;subst e1;obtain⟨a1,c1,rfl⟩:=sliceStr hs1;exact⟨rfl,hst.1,_,a1,_,c1,by rw[decide_eq_true (Nat.succ_pos k)];exact hst.2,fun _=>⟨_,rfl,hs1⟩⟩
  ·have hk0:k=0:=by omega
   subst hk0;refine(unlikeLast1_no w0.heap.size w' n a m c v (l.getD 0 noFact) hl (hf.later hL)).mono ?_;rintro e w'' ⟨rfl,w2,hL2,s',rfl,rfl⟩;have hst:=last_stored (n':=(l.getD 0 noFact).1) (s':=s') hl hL2;obtain⟨s1,e1,hs1⟩:=hf;simp at e1;subst e1;obtain⟨a1,c1,rfl⟩:=sliceStr hs1;exact⟨rfl,hst.1,_,a1,_,c1,hst.2,fun _=>⟨_,rfl,hs1⟩⟩
 kept k w' w'' hS hb _:=by
  obtain⟨n,a,m,c,hl,hlast⟩:=hS;exact⟨n,a,m,c,⟨by rw[hb _ (by omega)];exact hl.1,by rw[hb _ (by omega)];exact hl.2⟩,hlast⟩
end Go.Proofs.YtafmbokfkbccaaaGreatDoor
namespace Go.Proofs.YtafmbokfkbccaaaGreatDoor
open Go.RowKit Go.Sort
set_option maxHeartbeats 400000 in
theorem clone_some (b:Addr) (cap:Nat) (l:List FactD) (w:World) (h:Facts w (.slice (some b) l.length cap) l):
  Calls Tryz.prog 98 #[.slice (some b) l.length cap] w fun e w'=>∃v',e=.returned v'∧RowF w' w.heap.size v' l∧Later w w':=by
 have hnil:=fun w=>Lib.run_eql_slice_nil (P:=Tryz.prog) w 24 27 (some b) l.length cap 0 0 Tryz.underlying24;have h0:RowF (w.alloc (.cells #[] 27)) w.heap.size (.slice (some ⟨w.heap.size,0,none⟩) 0 0) []:=
  ⟨[],World.ownsRow_made w #[] 0 (Nat.le_refl _) (by simp) (by simp),fun i hi=>by simp at hi⟩
 obtain⟨v',w',hrun,hR,hL,_⟩:=h0.append ((Later.refl w).alloc _) h (by have:=h.1;simpa using this);have HR:=hide hrun;have HF:=hide hR;clear hrun hR h0 h
 go_enter Tryz.func98,Tryz.ntmps98
 go_wp2_with (at_builtin;refine wpList_append_run rfl (.tmp 5) (.tmp 6) 24 rfl _ _ _ _ rfl rfl HR.out ?_)
 go_ret;exact⟨v',rfl,HF.out,hL⟩
set_option maxHeartbeats 400000 in
theorem clone_none (n cap:Nat) (w:World):
  Calls Tryz.prog 98 #[.slice none n cap] w fun e w'=>e=.returned (.slice none 0 0)∧w'=w:=by
 have hnil:=fun w=>Lib.run_eql_slice_nil (P:=Tryz.prog) w 24 27 none n cap 0 0 Tryz.underlying24
 go_enter Tryz.func98,Tryz.ntmps98
 go_wp2;go_ret;exact⟨rfl,rfl⟩
theorem clone (v:Value) (l:List FactD) (w:World) (h:Facts w v l):
  Calls Tryz.prog 98 #[v] w fun e w'=>∃v',e=.returned v'∧RowF w' w.heap.size v' l∧Later w w':=by
 obtain⟨a,cap,rfl,hn,hz⟩:=h.addr;cases a with
 |some b=>exact clone_some b cap l w h
 |none=>
  rcases hz with rfl|⟨b,off,e⟩
  ·exact(clone_none _ cap w).mono fun e w' ⟨he,hw⟩=>⟨_,he,by rw[hw];exact⟨[],World.ownsRow_nil w _ _ _,fun i hi=>by simp at hi⟩,by rw[hw];exact Later.refl _⟩
  ·cases e
end Go.Proofs.YtafmbokfkbccaaaGreatDoor
