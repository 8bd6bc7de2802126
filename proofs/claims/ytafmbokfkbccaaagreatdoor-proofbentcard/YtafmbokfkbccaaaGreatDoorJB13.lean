import Derived.Test.YtafmbokfkbccaaaGreatDoorJB6
import Derived.Test.YtafmbokfkbccaaaGreatDoorJB12
import Derived.Deep.RegionWith
import Derived.Laws.EntriesVeiled
import Derived.Lib.SliceRun
namespace Go.Proofs.YtafmbokfkbccaaaGreatDoor
open Go.RowKit Go.Sort
theorem BA (l:List aG):∀k,k≤l.length→pick (fun _=>true) l k=l.take k
 |0,_=>by simp[pick]
 |k+1,h=>by
  simp only[pick,if_true];rw[BA l k (by omega),List.take_succ_eq_append_getElem (by omega),List.getD_eq_getElem?_getD,List.getElem?_eq_getElem (by omega)];rfl
set_option maxHeartbeats 400000 in
theorem SA (v:Value) (f:aG) (w:World) (h:bW w v f):Calls Tryz.prog 123 #[v] w fun e w'=>e=.returned (.bool true)∧Later w w':=by
 obtain⟨s,rfl,h0,a,cap,rfl,hc⟩:=h;clear hc
 go_enter Tryz.func123,Tryz.ntmps123
 go_wp2;go_ret;exact⟨rfl,(by repeat (first|exact Later.refl _|assumption|refine Later.drewN ?_ _|refine Later.drew ?_|refine Later.alloc ?_ _|refine Later.grow ?_ _))⟩
theorem zY:∀args w,(callFunc 123 args).run Tryz.prog w=.ok (.enter 123 args) w:=enters_of Tryz.func123 (by kernel_rfl) rfl
theorem CW:∀args w,(callFunc 238 args).run Tryz.prog w=.ok (.enter 238 args) w:=enters_of Tryz.func238 (by kernel_rfl) rfl
theorem xX:∀args w,(callFunc 94 args).run Tryz.prog w=.ok (.enter 94 args) w:=enters_of Tryz.func94 (by kernel_rfl) rfl
set_option maxHeartbeats 400000 in
theorem SB (v:Value) (l:List aG) (w:World) (h:Facts w v l):Calls Tryz.prog 67 #[v] w fun e w'=>∃v',e=.returned v'∧gT w' w.heap.size v' l∧Later w w':=by
 have hk:=keep 123 #[] zY w.heap.size w.heap.size w w v l (fun _=>true) (fun _ _=>True) h (Later.refl _) (Nat.le_refl _) (Nat.le_refl _)
  ⟨fun k w' v' _ hL _ _ hf=>(SA v' _ w' (hf.later hL)).mono fun e w'' ⟨he,hw⟩=>⟨he,hw.only,trivial⟩,fun _ _ _ _ _ _=>trivial⟩ trivial
 rw[BA l l.length (Nat.le_refl _),List.take_length] at hk;obtain⟨a,cap,rfl⟩:=aD h;have HK:=hide hk;clear hk h
 go_enter Tryz.func67,Tryz.ntmps67
 go_wp2_with (go_at_call 93;refine HK.out.mono ?_;rintro e w' ⟨v',rfl,ho,hO,_⟩)
 go_ret;exact⟨v',rfl,ho,hO.later (Later.refl _) (Nat.le_refl _)⟩
def tO (w:World) (lo:Nat) (n:ByteArray) (s:Value) (b:Bool):Prop:=
 w.heap[lo]?=some (.cells #[.string n,s] 27 (0,0))∧w.heap[lo+1]?=some (.cells #[.bool b] 4 (0,0))
set_option maxHeartbeats 400000 in
theorem CX (w:World):Calls Tryz.prog 174 #[] w fun e w'=>
  e=.returned (.func (.func 238) #[] #[.pointer (some ⟨w.heap.size+1,0,none⟩),.pointer (some ⟨w.heap.size,0,none⟩)])∧Later w w'∧w'.heap.size=w.heap.size+2∧tO w' w.heap.size ByteArray.empty (.slice none 0 0) false:=by
 go_enter Tryz.func174,Tryz.ntmps174
 go_wp2;go_ret;refine⟨rfl,(by repeat (first|exact Later.refl _|assumption|refine Later.drewN ?_ _|refine Later.drew ?_|refine Later.alloc ?_ _|refine Later.grow ?_ _)),by simp,?_,?_⟩
 ·rw[Below.heap_alloc _ _ _ (by simp),heap_alloc_new];rfl
 ·have:=heap_alloc_new (w.alloc (.cells #[.string {data:=#[]},.slice none 0 0] 27)) (.cells #[.bool false] 4);simpa using this
theorem fT {w:World} {g j:Nat} {cs:Array Value} {t:TypeId} {fr:Nat×Nat} (h:w.heap[g]?=some (.cells cs t fr)) (u:Value):(w.setCell ⟨g,j,none⟩ u).heap[g]?=some (.cells (cs.setIfInBounds j u) t fr):=by
 simp[World.setCell,Array.getElem?_modify,h]
theorem frozen_of_row {w:World} {g:Nat} (j:Nat) {cs:Array Value} {t:TypeId} (h:w.heap[g]?=some (.cells cs t (0,0))):w.frozen? ⟨g,j,none⟩=false:=by
 simp[World.frozen?,h]
theorem qK {w w2:World} {lo:Nat} {n n':ByteArray} {s s':Value} {b:Bool} (hl:tO w lo n s b) (hL:Later w w2):
  Only lo (lo+2) w (((w2.setCell ⟨lo,0,none⟩ (.string n')).setCell ⟨lo,1,none⟩ s').setCell ⟨lo+1,0,none⟩ (.bool true))∧tO (((w2.setCell ⟨lo,0,none⟩ (.string n')).setCell ⟨lo,1,none⟩ s').setCell ⟨lo+1,0,none⟩ (.bool true)) lo n' s' true:=by
 have hb1:lo<w.heap.size:=(Array.getElem?_eq_some_iff.1 hl.1).1;have hb2:lo+1<w.heap.size:=(Array.getElem?_eq_some_iff.1 hl.2).1;have h1:w2.heap[lo]?=some (.cells #[.string n,s] 27 (0,0)):=by rw[hL.block hb1];exact hl.1
 have h2:w2.heap[lo+1]?=some (.cells #[.bool b] 4 (0,0)):=by rw[hL.block hb2];exact hl.2
 refine⟨⟨hL.below.os,hL.below.tape,hL.below.output,hL.drawn,by simpa[World.setCell] using hL.size,fun k hk ho=> ?_⟩,?_,?_⟩
 ·rw[Below.heap_setCell _ _ _ _ (by show k≠lo+1;omega),Below.heap_setCell _ _ _ _ (by show k≠lo;omega),Below.heap_setCell _ _ _ _ (by show k≠lo;omega)];exact hL.block hk
 ·rw[Below.heap_setCell _ _ _ _ (by show lo≠lo+1;omega)];rw[fT (fT h1 _)]
  rfl
 ·rw[fT (by rw[Below.heap_setCell _ _ _ _ (by show lo+1≠lo;omega),Below.heap_setCell _ _ _ _ (by show lo+1≠lo;omega)];exact h2)]
  rfl
set_option maxHeartbeats 1000000 in
theorem qL (lo:Nat) (w:World) (n:ByteArray) (s:Value) (v:Value) (f g:aG) (hl:tO w lo n s true) (hg:bW w (.agg #[.string n,s]) g) (hf:bW w v f):
  Calls Tryz.prog 238 #[v,.pointer (some ⟨lo+1,0,none⟩),.pointer (some ⟨lo,0,none⟩)] w fun e w'=>e=.returned (.bool (!decide (fM g f=0)))∧
   ∃w2,Later w w2∧∃s',v=.agg #[.string f.1,s']∧w'=((w2.setCell ⟨lo,0,none⟩ (.string f.1)).setCell ⟨lo,1,none⟩ s').setCell ⟨lo+1,0,none⟩ (.bool true):=by
 have hC:=fun w' (hw:Later w w')=>jZ _ _ g f w' (hg.later hw) (hf.later hw);have HC:=hide hC;obtain⟨s1,rfl,h0,a,cap,rfl,hc⟩:=hf;obtain⟨s2,e2,l0,a2,cap2,rfl,hc2⟩:=hg;simp at e2;obtain⟨rfl,rfl⟩:=e2;clear hc hc2 hC;have hb1:lo<w.heap.size:=(Array.getElem?_eq_some_iff.1 hl.1).1;have hb2:lo+1<w.heap.size:=(Array.getElem?_eq_some_iff.1 hl.2).1;have c0:w.cell? ⟨lo,0,none⟩=some (.string g.1):=by rw[cell_of_row _ _ _ _ _ _ hl.1];rfl
 have c1:w.cell? ⟨lo,1,none⟩=some (.slice a2 g.2.length cap2):=by rw[cell_of_row _ _ _ _ _ _ hl.1];rfl
 have c2:w.cell? ⟨lo+1,0,none⟩=some (.bool true):=by rw[cell_of_row _ _ _ _ _ _ hl.2];rfl
 obtain⟨fn,fl⟩:=f;obtain⟨gn,gl⟩:=g;dsimp only at*
 go_enter Tryz.func238,Tryz.ntmps238
 go_wp2_with fail
 refine(HC.out _ ((Later.refl _).alloc _)).mono ?_;rintro e w2 ⟨rfl,hL⟩;have hL0:Later w w2:=((Later.refl _).alloc _).trans hL;have z0:w2.cell? ⟨w.heap.size,0,none⟩=some (.string fn):=by rw[hL.cell (by simp)];simp
 have z1:w2.cell? ⟨w.heap.size,1,none⟩=some (.slice a fl.length cap):=by rw[hL.cell (by simp)];simp
 have z2:w2.cell? ⟨lo,0,none⟩=some (.string gn):=by rw[hL0.cell hb1];exact c0
 have z3:w2.cell? ⟨lo,1,none⟩=some (.slice a2 gl.length cap2):=by rw[hL0.cell hb1];exact c1
 have z4:w2.cell? ⟨lo+1,0,none⟩=some (.bool true):=by rw[hL0.cell hb2];exact c2
 have y0:w2.frozen? ⟨lo,0,none⟩=false:=by rw[hL0.frozen hb1];exact frozen_of_row 0 hl.1
 have y1:w2.frozen? ⟨lo,1,none⟩=false:=by rw[hL0.frozen hb1];exact frozen_of_row 1 hl.1
 have y2:w2.frozen? ⟨lo+1,0,none⟩=false:=by rw[hL0.frozen hb2];exact frozen_of_row 0 hl.2
 go_wp2;go_ret;refine⟨bM ?_,w2,hL0,_,rfl,rfl⟩;rw[Bool.eq_iff_iff];simp
set_option maxHeartbeats 1000000 in
theorem sM (lo:Nat) (w:World) (n:ByteArray) (a2:Option Addr) (m2 cap2:Nat) (v:Value) (f:aG) (hl:tO w lo n (.slice a2 m2 cap2) false) (hf:bW w v f):
  Calls Tryz.prog 238 #[v,.pointer (some ⟨lo+1,0,none⟩),.pointer (some ⟨lo,0,none⟩)] w fun e w'=>e=.returned (.bool true)∧
   ∃w2,Later w w2∧∃s',v=.agg #[.string f.1,s']∧w'=((w2.setCell ⟨lo,0,none⟩ (.string f.1)).setCell ⟨lo,1,none⟩ s').setCell ⟨lo+1,0,none⟩ (.bool true):=by
 obtain⟨s1,rfl,h0,a,cap,rfl,hc⟩:=hf;clear hc;have hb1:lo<w.heap.size:=(Array.getElem?_eq_some_iff.1 hl.1).1;have hb2:lo+1<w.heap.size:=(Array.getElem?_eq_some_iff.1 hl.2).1;have z2:w.cell? ⟨lo,0,none⟩=some (.string n):=by rw[cell_of_row _ _ _ _ _ _ hl.1];rfl
 have z3:w.cell? ⟨lo,1,none⟩=some (.slice a2 m2 cap2):=by rw[cell_of_row _ _ _ _ _ _ hl.1];rfl
 have z4:w.cell? ⟨lo+1,0,none⟩=some (.bool false):=by rw[cell_of_row _ _ _ _ _ _ hl.2];rfl
 have y0:w.frozen? ⟨lo,0,none⟩=false:=frozen_of_row 0 hl.1;have y1:w.frozen? ⟨lo,1,none⟩=false:=frozen_of_row 1 hl.1;have y2:w.frozen? ⟨lo+1,0,none⟩=false:=frozen_of_row 0 hl.2;obtain⟨fn,fl⟩:=f;dsimp only at*
 go_enter Tryz.func238,Tryz.ntmps238
 go_wp2;go_ret;refine⟨rfl,w.alloc (.cells #[.string fn,.slice a fl.length cap] 27),(Later.refl _).alloc _,_,rfl,?_⟩;rw[World.setCell_alloc_past _ _ _ _ (by exact hb1),World.setCell_alloc_past _ _ _ _ (by simpa using hb1),World.setCell_alloc_past _ _ _ _ (by simpa using hb2)]
def MF (w0:World) (lo:Nat) (l:List aG) (k:Nat) (w:World):Prop:=
 ∃n a m c,tO w lo n (.slice a m c) (decide (0<k))∧(0<k→bW w0 (.agg #[.string n,.slice a m c]) (l.getD (k-1) aB))
theorem Il (w0:World) (l:List aG):
  Ms 238 #[.pointer (some ⟨w0.heap.size+1,0,none⟩),.pointer (some ⟨w0.heap.size,0,none⟩)] w0.heap.size (w0.heap.size+2) w0 l (newP l) (MF w0 w0.heap.size l) where
 ask k w' v hk hL _ hS hf:=by
  obtain⟨n,a,m,c,hl,hlast⟩:=hS
  by_cases h0:0<k
  ·rw[decide_eq_true h0] at hl;have e:newP l k= !decide (fM (l.getD (k-1) aB) (l.getD k aB)=0):=by simp[newP];omega
   rw[e];refine(qL w0.heap.size w' n _ v (l.getD k aB) (l.getD (k-1) aB) hl ((hlast h0).later hL) (hf.later hL)).mono ?_;rintro e w'' ⟨rfl,w2,hL2,s',rfl,rfl⟩;have hst:=qK (n':=(l.getD k aB).1) (s':=s') hl hL2;obtain⟨s1,e1,hs1⟩:=hf;simp at e1;subst e1;obtain⟨a1,c1,rfl⟩:=aZ hs1;exact⟨rfl,hst.1,_,a1,_,c1,by rw[decide_eq_true (Nat.succ_pos k)];exact hst.2,fun _=>⟨_,rfl,hs1⟩⟩
  ·have hk0:k=0:=by omega
   subst hk0;refine(sM w0.heap.size w' n a m c v (l.getD 0 aB) hl (hf.later hL)).mono ?_;rintro e w'' ⟨rfl,w2,hL2,s',rfl,rfl⟩;have hst:=qK (n':=(l.getD 0 aB).1) (s':=s') hl hL2;obtain⟨s1,e1,hs1⟩:=hf;simp at e1;subst e1;obtain⟨a1,c1,rfl⟩:=aZ hs1;exact⟨rfl,hst.1,_,a1,_,c1,hst.2,fun _=>⟨_,rfl,hs1⟩⟩
 kept k w' w'' hS hb _:=by
  obtain⟨n,a,m,c,hl,hlast⟩:=hS;exact⟨n,a,m,c,⟨by rw[hb _ (by omega)];exact hl.1,by rw[hb _ (by omega)];exact hl.2⟩,hlast⟩
end Go.Proofs.YtafmbokfkbccaaaGreatDoor
namespace Go.Proofs.YtafmbokfkbccaaaGreatDoor
open Go.RowKit Go.Sort
set_option maxHeartbeats 400000 in
theorem among (a:Option Addr) (n cap:Nat) (w:World):Calls Tryz.prog 70 #[.slice a n cap] w fun e w'=>
  e=.returned (.func (.func 126) #[] #[.pointer (some ⟨w.heap.size,0,none⟩)])∧w'=w.alloc (.cells #[.slice a n cap] 24):=by
 go_enter Tryz.func70,Tryz.ntmps70
 go_wp2;go_ret;exact⟨rfl,rfl⟩
set_option maxHeartbeats 400000 in
theorem JL (c:Nat) (v t:Value) (l:List aG) (g:aG) (w:World) (hc:w.cell? ⟨c,0,none⟩=some v) (hb:c<w.heap.size) (hf:Facts w v l) (ht:bW w t g) (hr:fI l):
  Calls Tryz.prog 126 #[t,.pointer (some ⟨c,0,none⟩)] w fun e w'=>e=.returned (.bool (dA l g 0))∧Later w w':=by
 have hS:=fun w' (hw:Later w w')=>search v t l g w' (hf.later hw) (ht.later hw) hr;have HS:=hide hS;obtain⟨a,cap,rfl⟩:=aD hf;obtain⟨s2,rfl,l2,a2,c2,rfl,_⟩:=ht;clear hS hf hr
 go_enter Tryz.func126,Tryz.ntmps126
 go_wp2_with (go_at_call 127;refine(HS.out _ ((Later.refl _).alloc _)).mono ?_;rintro e w1 ⟨n,rfl,hL⟩)
 go_ret;exact⟨rfl,((Later.refl _).alloc _).trans hL⟩
set_option maxHeartbeats 1000000 in
theorem inC (v t:Value) (l:List aG) (g:aG) (w:World) (hf:Facts w v l) (ht:bW w t g) (hr:fI l):
  Calls Tryz.prog 23 #[v,t] w fun e w'=>e=.returned (.bool (dA l g 0))∧Later w w':=by
 have hA:=fun c w' hc hb (hw:Later w w')=>JL c v t l g w' hc hb (hf.later hw) (ht.later hw) hr;have HA:=hide hA;obtain⟨a,cap,rfl⟩:=aD hf;obtain⟨s2,rfl,l2,a2,c2,rfl,_⟩:=ht;clear hA hf hr
 go_enter Tryz.func23,Tryz.ntmps23
 go_wp2
 go_region_with (first
  |(go_at_call 70;refine(among _ _ _ _).mono ?_;rintro e w1 ⟨rfl,rfl⟩)
  |(go_at_call 126;refine(HA.out (w.heap.size+1) _ (by simp) (by simp) (by repeat (first|exact Later.refl _|assumption|refine Later.drewN ?_ _|refine Later.drew ?_|refine Later.alloc ?_ _|refine Later.grow ?_ _))).mono ?_;rintro e w2 ⟨rfl,hL⟩))
 all_goals
  go_wp2;go_ret;exact⟨rfl,Later.trans (by repeat (first|exact Later.refl _|assumption|refine Later.drewN ?_ _|refine Later.drew ?_|refine Later.alloc ?_ _|refine Later.grow ?_ _)) hL⟩
set_option maxHeartbeats 400000 in
theorem OW (c d:Nat) (v t:Value) (l:List aG) (g:aG) (w:World) (hc:w.cell? ⟨c,0,none⟩=some v) (hb:c<w.heap.size) (hd:w.cell? ⟨d,0,none⟩=some (.func (.func 126) #[] #[.pointer (some ⟨c,0,none⟩)])) (hdb:d<w.heap.size) (hf:Facts w v l) (ht:bW w t g) (hr:fI l):
  Calls Tryz.prog 94 #[t,.pointer (some ⟨d,0,none⟩)] w fun e w'=>e=.returned (.bool (!dA l g 0))∧Later w w':=by
 have hA:=fun w' (hw:Later w w')=>JL c v t l g w' (by rw[hw.cell (p:=⟨c,0,none⟩) hb];exact hc) (Nat.lt_of_lt_of_le hb hw.size) (hf.later hw) (ht.later hw) hr;have HA:=hide hA;obtain⟨s2,rfl,l2,a2,c2,rfl,_⟩:=ht;clear hA hf hr hc;generalize dA l g 0=r at*
 go_enter Tryz.func94,Tryz.ntmps94
 go_wp2_with (go_at_call 126;refine(HA.out _ ((Later.refl _).alloc _)).mono ?_;rintro e w1 ⟨rfl,hL⟩)
 go_ret;exact⟨rfl,((Later.refl _).alloc _).trans hL⟩
set_option maxHeartbeats 400000 in
theorem OX (va vb:Value) (la lb:List aG) (w:World) (ha:Facts w va la) (hb:Facts w vb lb) (hr:fI lb):
  Calls Tryz.prog 43 #[va,vb] w fun e w'=>∃v',e=.returned v'∧gT w' w.heap.size v' (la.filter fun f=> !dA lb f 0)∧Later w w':=by
 have HA:=hide ha;have HB:=hide hb;have HR:=hide hr;obtain⟨a1,c1,rfl⟩:=aD ha;obtain⟨a2,c2,rfl⟩:=aD hb;clear ha hb hr
 go_enter Tryz.func43,Tryz.ntmps43
 go_wp2_with (go_at_call 70;refine(among _ _ _ _).mono ?_;rintro e w1 ⟨rfl,rfl⟩)
 have hL:Later w ((w.alloc (.cells #[.slice a2 lb.length c2] 24)).alloc (.cells #[.func (.func 126) #[] #[.pointer (some ⟨w.heap.size,0,none⟩)]] 131)):=(by repeat (first|exact Later.refl _|assumption|refine Later.drewN ?_ _|refine Later.drew ?_|refine Later.alloc ?_ _|refine Later.grow ?_ _));have hz:w.heap.size+1<((w.alloc (.cells #[.slice a2 lb.length c2] 24)).alloc (.cells #[.func (.func 126) #[] #[.pointer (some ⟨w.heap.size,0,none⟩)]] 131)).heap.size:=by simp
 have y0:((w.alloc (.cells #[.slice a2 lb.length c2] 24)).alloc (.cells #[.func (.func 126) #[] #[.pointer (some ⟨w.heap.size,0,none⟩)]] 131)).cell? ⟨w.heap.size,0,none⟩=some (.slice a2 lb.length c2):=by simp
 have y1:((w.alloc (.cells #[.slice a2 lb.length c2] 24)).alloc (.cells #[.func (.func 126) #[] #[.pointer (some ⟨w.heap.size,0,none⟩)]] 131)).cell? ⟨w.heap.size+1,0,none⟩=some (.func (.func 126) #[] #[.pointer (some ⟨w.heap.size,0,none⟩)]):=by simp
 generalize((w.alloc (.cells #[.slice a2 lb.length c2] 24)).alloc (.cells #[.func (.func 126) #[] #[.pointer (some ⟨w.heap.size,0,none⟩)]] 131))=W at*;refine(keep 94 #[.pointer (some ⟨w.heap.size+1,0,none⟩)] xX W.heap.size W.heap.size W W _ la (fun k=> !dA lb (la.getD k aB) 0) (fun _ _=>True) (HA.out.later hL) (Later.refl _) (Nat.le_refl _) (Nat.le_refl _)
  ⟨fun k w' t hk hw _ _ hf=>(OW w.heap.size (w.heap.size+1) _ t lb (la.getD k aB) w' (by rw[hw.cell (p:=⟨w.heap.size,0,none⟩) (by show w.heap.size<_;omega)];exact y0) (by have:=hw.size;omega)
    (by rw[hw.cell (p:=⟨w.heap.size+1,0,none⟩) hz];exact y1) (by have:=hw.size;omega) ((HB.out.later hL).later hw) (hf.later hw) HR.out).mono fun e w'' ⟨he,hL'⟩=>⟨he,hL'.only,trivial⟩,
   fun _ _ _ _ _ _=>trivial⟩ trivial).mono ?_
 rintro e w1 ⟨v',rfl,hO,hW,_⟩;have e:=qD (fun f=> !dA lb f 0) la la.length (Nat.le_refl _);rw[List.take_length] at e;rw[e] at hO;have HO:=hide hO;clear hO e;go_wp2;go_ret;exact⟨v',rfl,HO.out.base hL.size,hL.trans (hW.later (Later.refl _) (Nat.le_refl _))⟩
end Go.Proofs.YtafmbokfkbccaaaGreatDoor
namespace Go.Proofs.YtafmbokfkbccaaaGreatDoor
open Go.RowKit Go.Sort Go.Maps
theorem sN (l:List aG) (f:aG):dA l f 0=inB l f:=by
 rw[Bool.eq_iff_iff,nW,aO]
def EZ (fs:List aG) (a:aF) (l:List aC):Bool:=match aQ a l with
 |some f=>inB fs f
 |none=>false
theorem xY {pick:Nat→List aj} {body:List aF} {j:Nat} {a:aF} (h:body[j]?=some a) (l:List aC):barredB pick j (body.drop j) l=((a.no&&EZ (pick j) a l)||barredB pick (j+1) (body.drop (j+1)) l):=by
 obtain⟨h1,e1⟩:=List.getElem?_eq_some_iff.1 h;rw[List.drop_eq_getElem_cons h1,e1];rfl
set_option maxRecDepth 100000 in
set_option maxHeartbeats 4000000 in
theorem Kn (body:List aF) (v u:Value) (l:List aC) (g:Nat) (cb:Array Value) (eg:∀args w,(callFunc g args).run Tryz.prog w=.ok (.enter g args) w) (pick:Nat→List aG) (w:World) (hv:bN.sl bJ w v body) (hu:bA.sl bJ w u l) (hp:xU g cb pick w.heap.size w) (hb:body.length≤5) (hr:∀n,fI (pick n)):
  Calls Tryz.prog 161 #[v,.func (.func g) #[] cb,u] w fun e w'=>e=.returned (.bool (barredB pick 0 body l))∧Later w w':=by
 obtain⟨sa,cap,rfl⟩:=Kind.slice hv;obtain⟨ua,OY,rfl⟩:=Kind.slice hu;have HV:=hide hv;have HU:=hide hu;have HP:=hide hp;have HR:=hide hr;clear hv hu hp hr;generalize hR:barredB pick 0 body l=R at*;have H0:Hid (R=barredB pick 0 (body.drop 0) l):=hR.symm;clear hR
 go_enter Tryz.func161,Tryz.ntmps161
 go_wp2
 go_loopg [13] body.length (fun gg i wr=>∃j:Nat,j+gg=body.length∧i=.int .i64 j∧Hid (R=barredB pick j (body.drop j) l)∧Hid (Later w wr))
 case atStart=>exact⟨0,by omega,rfl,H0,((by repeat (first|exact Later.refl _|assumption|refine Later.drewN ?_ _|refine Later.drew ?_|refine Later.alloc ?_ _|refine Later.grow ?_ _)):Later _ _)⟩
 case round=>
  obtain⟨j,hj,rfl,HE,HL⟩:=hrel
  by_cases hlt:j<body.length
  ·obtain⟨a,hx⟩:∃x,body[j]?=some x:=⟨_,List.getElem?_eq_getElem hlt⟩;obtain⟨b1,o1,_,rfl,hb1,⟨sv,rfl,hsv⟩,hc⟩:=Kind.fP HV.out hx;have d0:wr.cell? ⟨b1,o1+j*3,none⟩=some (.bool a.no):=by rw[HL.out.cell hb1];exact hc 0 _ rfl
   have d1:wr.cell? ⟨b1,o1+j*3+1,none⟩=some (.string (bs a.name)):=by rw[HL.out.cell hb1];exact hc 1 _ rfl
   have d2:wr.cell? ⟨b1,o1+j*3+2,none⟩=some sv:=by rw[HL.out.cell hb1];exact hc 2 _ rfl
   have hbr:b1<wr.heap.size:=Nat.lt_of_lt_of_le hb1 HL.out.size;have HS:=hide (xY (pick:=pick) hx l);obtain⟨sva,svc,rfl⟩:=Kind.slice hsv;have HSV:=hide hsv;clear hc hx hsv;cases hno:a.no
   ·have HS1:Hid (R=barredB pick (j+1) (body.drop (j+1)) l):=by
     show _=_;rw[HE.out,HS.out,hno];rfl
    rw[hno] at d0;clear HE HS hno;generalize bs a.name=nm at*;go_wp2
    go_roundg (body.length- (j+1))
    case measure=>omega
    case rel=>exact⟨j+1,by omega,by go_num,HS1,HL.out.alloc _⟩
   ·have HS1:Hid (R=(EZ (pick j) a l||barredB pick (j+1) (body.drop (j+1)) l)):=by
     show _=_;rw[HE.out,HS.out,hno];rfl
    rw[hno] at d0;have hLt:Later w (wr.alloc (.cells #[.bool true,.string (bs a.name),.slice sva a.terms.length svc] 85)):=HL.out.alloc _;have HFc:=hide (Kg a _ (.slice ua l.length OY) l (wr.alloc (.cells #[.bool true,.string (bs a.name),.slice sva a.terms.length svc] 85)) (Kind.aI HSV.out hLt) (Kind.aI HU.out hLt));rw[hno] at HFc;have hbo:EZ (pick j) a l=match aQ a l with|some f=>inB (pick j) f|none=>false:=rfl
    unfold filled at HFc;have HLt:=hide hLt;clear HE HS hLt hno;cases hf:aQ a l with
    |none=>
     rw[hf] at HFc hbo;have HS2:Hid (R=barredB pick (j+1) (body.drop (j+1)) l):=by show _=_;rw[HS1.out,hbo];rfl
     simp only[Option.isSome_none,Option.getD_none] at HFc;clear HS1 hbo hf;generalize bs a.name=nm at*
     go_wp2_with fail
     refine HFc.out.mono ?_;rintro e w2 ⟨fv,rfl,hfv,hL2⟩;obtain⟨s,rfl,hs⟩:=hfv;obtain⟨sA,sC,rfl⟩:=aZ hs;have HL2:=hide (HLt.out.trans hL2);clear hs hL2 HFc;go_wp2;refine wp_region_held_drew (S:=fun w'=>Later w w') (by kernel_rfl) ((HL2.out.alloc _).drew) (fun hHeld=> ?_);refine au (i:=0) (d:=some 27) (v:= ?_) rfl rfl hHeld ?_ ?_;rotate_left;focus intro w hSw;(try dsimp only at hSw);go_simp;try with_reducible rfl
     simp only[bP,bQ,aze,asu];refine au (i:=1) (d:=some 28) (v:= ?_) rfl rfl hHeld ?_ ?_;rotate_left;focus intro w hSw;(try dsimp only at hSw);go_simp;try with_reducible rfl
     simp only[bP,bQ,aze,asu];refine qB (i:=2) (d:=some 29) rfl rfl hHeld ?_;simp only[bP,bQ,aze,asu];refine qB (i:=3) (d:=some 30) rfl rfl hHeld ?_;simp only[bP,bQ,aze,asu];refine qB (i:=4) (d:=some 31) rfl rfl hHeld ?_;simp only[bP,bQ,aze,asu];refine qB (i:=5) (d:=some 32) rfl rfl hHeld ?_;simp only[bP,bQ,aze,asu];refine qB (i:=6) (d:=some 33) rfl rfl hHeld ?_;simp only[bP,bQ,aze,asu];refine au (i:=7) (d:=some 34) (v:= ?_) rfl rfl hHeld ?_ ?_;rotate_left;focus intro w hSw;(try dsimp only at hSw);go_simp;try with_reducible rfl
     simp only[bP,bQ,aze,asu];refine wpAnyH_done (by kernel_rfl) ?_ _;go_wp2
     go_roundg (body.length- (j+1))
     case measure=>omega
     case rel=>exact⟨j+1,by omega,by go_num,HS2,hHeld⟩
    |some f=>
     rw[hf] at HFc hbo;have HS2:Hid (R=(dA (pick j) f 0||barredB pick (j+1) (body.drop (j+1)) l)):=by show _=_;rw[HS1.out,hbo,sN]
     simp only[Option.isSome_some,Option.getD_some] at HFc;clear HS1 hbo hf;generalize bs a.name=nm at*
     go_wp2_with fail
     refine HFc.out.mono ?_;rintro e w2 ⟨fv,rfl,hfv,hL2⟩;have HFV:=hide hfv;obtain⟨s,rfl,hs⟩:=hfv;obtain⟨sA,sC,rfl⟩:=aZ hs;have HL2:=hide (HLt.out.trans hL2);obtain⟨fn,aH⟩:=f;dsimp only at*;obtain⟨wb,hwb⟩:∃wb,wb=w2.alloc (.cells #[.string fn,.slice sA aH.length sC] 27):=⟨_,rfl⟩;have hLb:Later w wb:=by rw[hwb];exact HL2.out.alloc _
     have hFb:bW wb (.agg #[.string fn,.slice sA aH.length sC]) (fn,aH):=by rw[hwb];exact HFV.out.later ((Later.refl _).alloc _)
     have z:wb.cell? ⟨w2.heap.size,0,none⟩=some (.string fn)∧wb.cell? ⟨w2.heap.size,1,none⟩=some (.slice sA aH.length sC):=by rw[hwb];simp
     have hsb:w2.heap.size<wb.heap.size:=by rw[hwb];simp
     have CELL:Hid (∀w',Later wb w'→w'.cell? ⟨w2.heap.size,0,none⟩=some (.string fn)∧w'.cell? ⟨w2.heap.size,1,none⟩=some (.slice sA aH.length sC)):=fun w' hL=>
      ⟨by rw[hL.cell hsb];exact z.1,by rw[hL.cell hsb];exact z.2⟩
     have HFr:Hid (∀w',Later wb w'→Calls Tryz.prog g (#[.int .i64 j]++cb) w' fun e w2=>∃v,e=.returned v∧Facts w2 v (pick j)∧Later w' w2):=fun w' hL=>
      HP.out w' j (hLb.trans hL).below (by omega)
     have HIn:Hid (∀w' x,Later wb w'→Facts w' x (pick j)→Calls Tryz.prog 23 #[x,.agg #[.string fn,.slice sA aH.length sC]] w' fun e w3=>e=.returned (.bool (dA (pick j) (fn,aH) 0))∧Later w' w3):=fun w' x hL hx=>
      inC x _ (pick j) (fn,aH) w' hx (hFb.later hL) (HR.out j)
     have HWB:=hide hwb;clear hs hL2 HFc hwb z hsb HFV hFb;go_wp2;rw[←HWB.out];generalize dA (pick j) (fn,aH) 0=bb at*;refine wp_region_held_drew (S:=fun w'=>Later wb w') (by kernel_rfl) (Later.refl _).drew (fun hHeld=> ?_);refine au (i:=0) (d:=some 27) (v:= ?_) rfl rfl hHeld ?_ ?_;rotate_left;focus intro w hSw;(try dsimp only at hSw);go_simp;try with_reducible rfl
     simp only[bP,bQ,aze,asu];refine au (i:=1) (d:=some 28) (v:= ?_) rfl rfl hHeld ?_ ?_;rotate_left;focus intro w hSw;(try dsimp only at hSw);go_simp;try with_reducible rfl
     simp only[bP,bQ,aze,asu];refine au (i:=2) (d:=some 29) (v:= ?_) rfl rfl hHeld ?_ ?_;rotate_left;focus intro w hSw;(try dsimp only at hSw);go_simp;try with_reducible rfl
     simp only[bP,bQ,aze,asu];refine au (i:=3) (d:=some 30) (v:= ?_) rfl rfl hHeld ?_ ?_;rotate_left;focus intro w hSw;(try dsimp only at hSw);go_simp;try with_reducible rfl
     simp only[bP,bQ,aze,asu];refine au (i:=5) (d:=some 32) (v:= ?_) rfl rfl hHeld ?_ ?_;rotate_left;focus intro w hSw;(try dsimp only at hSw);obtain⟨q0,q1⟩:=CELL.out w hSw;go_simp;try with_reducible rfl
     simp only[bP,bQ,aze,asu];refine wpAnyH_ready (rs:=[4]) (by kernel_rfl) (by simp) ?_;refine AllReadyH.cons rfl (fun K hK=> ?_) AllReadyH.nil;go_simp;refine(HFr.out _ hHeld).mono ?_;rintro e u1 ⟨x,rfl,hx,hU1⟩;dsimp only;have JK:Later wb u1:=Later.trans hHeld hU1;refine hK.out _ _ JK (fun hHeld=> ?_);clear hK K;refine wpAnyH_ready (rs:=[6]) (by kernel_rfl) (by simp) ?_;refine AllReadyH.cons rfl (fun K hK=> ?_) AllReadyH.nil;go_simp;refine(HIn.out _ x JK hx).mono ?_;rintro e u2 ⟨rfl,hU2⟩;dsimp only;have ME:Later wb u2:=JK.trans hU2;refine hK.out _ _ ME (fun hHeld=> ?_);clear hK K;refine au (i:=7) (d:=some 34) (v:= ?_) rfl rfl hHeld ?_ ?_;rotate_left;focus intro w hSw;(try dsimp only at hSw);go_simp;try with_reducible rfl
     simp only[bP,bQ,aze,asu];refine wpAnyH_done (by kernel_rfl) ?_ _;have HLu:=hide (hLb.trans ME);cases bb
     ·have HS3:Hid (R=barredB pick (j+1) (body.drop (j+1)) l):=by show _=_;rw[HS2.out];rfl
      clear HS2;go_wp2
      go_roundg (body.length- (j+1))
      case measure=>omega
      case rel=>exact⟨j+1,by omega,by go_num,HS3,HLu⟩
     ·have HS3:Hid (R=true):=by show _=_;rw[HS2.out];rfl
      clear HS2;go_wp2;go_ret;exact⟨by rw[HS3.out];rfl,HLu.out⟩
  ·have HS3:Hid (R=false):=by show _=_;rw[HE.out,List.drop_eq_nil_of_le (by omega)];rfl
   clear HE;go_wp2;go_ret;exact⟨by rw[HS3.out];rfl,HL.out⟩
theorem xZ:∀args w,(callFunc 160 args).run Tryz.prog w=.ok (.enter 160 args) w:=enters_of Tryz.func160 (by kernel_rfl) rfl
def OZ (g:Nat) (cb:Array Value) (p:List aC→Bool) (n:Nat) (w0:World):Prop:=∀(W:World) (u:Value) (l:List aC),Below n w0 W→bA.sl bJ W u l→
 Calls Tryz.prog g (#[u]++cb) W fun e w'=>e=.returned (.bool (p l))∧Later W w'
set_option maxHeartbeats 1000000 in
theorem MG (cB cF:Nat) (body:List aF) (v:Value) (g:Nat) (cb:Array Value) (eg:∀args w,(callFunc g args).run Tryz.prog w=.ok (.enter g args) w) (pick:Nat→List aG) (n:Nat) (w0:World) (hv:bN.sl bJ w0 v body) (hp:xU g cb pick n w0) (hb:body.length≤5) (hr:∀n,fI (pick n))
  (h0:w0.cell? ⟨cB,0,none⟩=some v) (h1:w0.cell? ⟨cF,0,none⟩=some (.func (.func g) #[] cb)) (b0:cB<n) (b1:cF<n) (hn:n=w0.heap.size):
  OZ 160 #[.pointer (some ⟨cB,0,none⟩),.pointer (some ⟨cF,0,none⟩)] (barredB pick 0 body) n w0:=by
 intro W u l hW hu;have hW':Below w0.heap.size w0 W:=by rw[←hn];exact hW
 have hs:n≤W.heap.size:=by have:=hW.size;omega
 have z0:W.cell? ⟨cB,0,none⟩=some v:=by rw[hW.cell b0];exact h0
 have z1:W.cell? ⟨cF,0,none⟩=some (.func (.func g) #[] cb):=by rw[hW.cell b1];exact h1
 have s0:cB<W.heap.size:=by omega
 have s1:cF<W.heap.size:=by omega
 have HC:=hide (Kn body v u l g cb eg pick W (Kind.aR hv hW') hu (hp.below hW hs) hb hr);obtain⟨a,cap,rfl⟩:=Kind.slice hv;obtain⟨ua,OY,rfl⟩:=Kind.slice hu;clear hv hu hp hr h0 h1 hW' hW;generalize barredB pick 0 body l=bb at*;show Calls _ _ #[.slice ua l.length OY,.pointer (some ⟨cB,0,none⟩),.pointer (some ⟨cF,0,none⟩)] _ _
 go_enter Tryz.func160,Tryz.ntmps160
 go_wp2_with (go_at_call 161;refine HC.out.mono ?_;rintro e w2 ⟨rfl,hL2⟩;replace hL2:=hide hL2)
 go_ret;exact⟨rfl,bE hL2⟩
end Go.Proofs.YtafmbokfkbccaaaGreatDoor
namespace Go.Proofs.YtafmbokfkbccaaaGreatDoor
open Go.RowKit Go.Sort Go.Maps
theorem gY.setCell {p:Option Nat} {a b:World} (h:gY p a b) {x:Addr} (hx:p=some x.block) (v:Value):gY p a (b.setCell x v):=
 ⟨h.os,h.tape,h.output,h.drawn,by simpa[World.setCell] using h.size,fun k hk ho=>by
  rw[Below.heap_setCell _ _ _ _ (fun e=>ho (by rw[hx,e]))];exact h.block k hk ho⟩
theorem ng (g:Nat):∀(vs:List Value) (o:Nat) (w:World),gY (some g) w (w.setCells g o vs)
 |[],_,_=>gY.refl _ _
 |v::r,o,w=>((gY.refl (some g) w).setCell (x:=⟨g,o,none⟩) rfl v).trans (ng g r (o+1) _)
theorem oL (g:Nat):∀(vs:List Value) (o:Nat) (w:World) (cur:Array Value) (t:TypeId) (fr:Nat×Nat),w.heap[g]?=some (.cells cur t fr)→
  ∃cur',(w.setCells g o vs).heap[g]?=some (.cells cur' t fr)∧cur'.size=cur.size∧∀q,q<o→cur'[q]?=cur[q]?
 |[],_,w,cur,t,fr,h=>⟨cur,h,rfl,fun _ _=>rfl⟩
 |v::r,o,w,cur,t,fr,h=>by
  obtain⟨cur',h1,h2,h3⟩:=oL g r (o+1) (w.setCell ⟨g,o,none⟩ v) (cur.setIfInBounds o v) t fr (dY h v);refine⟨cur',h1,by rw[h2];simp,fun q hq=> ?_⟩;rw[h3 q (by omega),Array.getElem?_setIfInBounds_ne (by omega)]
set_option maxHeartbeats 1000000 in
theorem MH (v:Value) (ls:List (List aC)) (g:Nat) (cb:Array Value) (eg:∀args w,(callFunc g args).run Tryz.prog w=.ok (.enter g args) w) (p:List aC→Bool) (n:Nat) (w0 w:World) (hd:OZ g cb p n w0) (hw:Below n w0 w) (hn:n≤w.heap.size) (hv:sH.sl bJ w v ls):
  Calls Tryz.prog 219 #[v,.func (.func g) #[] cb] w fun e w'=>∃r:Int,e=.returned (.int .i64 r)∧((r= -1∧∀l∈ls,p l=false)∨∃k l,r=(k:Nat)∧ls[k]?=some l∧p l=true∧∀l∈ls.take k,p l=false)∧Later w w':=by
 obtain⟨a,cap,rfl⟩:=Kind.slice hv;have hl:=hv.1.1;have HV:=hide hv;have HC:Hid (∀w' u l,Later w w'→bA.sl bJ w' u l→Calls Tryz.prog g (#[u]++cb) w' fun e w''=>e=.returned (.bool (p l))∧Hid (Later w w'')):=fun w' u l hL hu=>
  (hd w' u l (ak hw hL.below hn) hu).mono fun e w'' ⟨he,hL2⟩=>⟨he,hL.trans hL2⟩
 clear hv hd hw
 go_enter Tryz.func219,Tryz.ntmps219
 go_wp2
 go_loopg [8] ls.length (fun gg i wr=>∃k:Nat,k+gg=ls.length∧i=.int .i64 k∧Hid (∀l∈ls.take k,p l=false)∧Hid (Later w wr))
 case atStart=>exact⟨0,by omega,rfl,(fun l hl=>by simp at hl),Later.refl _⟩
 case round=>
  obtain⟨k,hk,rfl,HE,HL⟩:=hrel
  by_cases hlt:k<ls.length
  ·obtain⟨l,hx⟩:∃x,ls[k]?=some x:=⟨_,List.getElem?_eq_getElem hlt⟩;obtain⟨b1,o1,_,rfl,hb1,⟨u,rfl,hu⟩,hcl⟩:=Kind.fP HV.out hx;have d0:wr.cell? ⟨b1,o1+k,none⟩=some u:=by rw[HL.out.cell hb1];simpa[slK] using hcl 0 _ rfl
   have hbr:b1<wr.heap.size:=Nat.lt_of_lt_of_le hb1 HL.out.size;have HCk:=hide (HC.out wr u l HL.out (Kind.aI hu HL.out));obtain⟨ua,uc,rfl⟩:=Kind.slice hu;have HX:=hide hx;clear hcl hx hu;cases hq:p l
   ·have HE1:Hid (∀l∈ls.take (k+1),p l=false):=fun x hx'=>by
     rw[List.take_add_one,HX.out] at hx';rcases List.mem_append.1 hx' with h|h
     ·exact HE.out x h
     ·simp at h;rw[h];exact hq
    rw[hq] at HCk;clear hq HE
    go_wp2_with fail
    refine HCk.out.mono ?_;rintro e w2 ⟨rfl,hL2⟩;go_wp2
    go_roundg (ls.length- (k+1))
    case measure=>omega
    case rel=>exact⟨k+1,by omega,by go_num,HE1,hL2⟩
   ·have HQ:=hide hq;rw[hq] at HCk;clear hq
    go_wp2_with fail
    refine HCk.out.mono ?_;rintro e w2 ⟨rfl,hL2⟩;go_wp2;go_ret;exact⟨_,rfl,Or.inr ⟨k,l,rfl,HX.out,HQ.out,HE.out⟩,hL2.out⟩
  ·have HE1:Hid (∀l∈ls,p l=false):=by
    have:=HE.out;rw[List.take_of_length_le (by omega)] at this;exact this
   go_wp2;go_ret;exact⟨_,rfl,Or.inl ⟨rfl,HE1.out⟩,HL.out⟩
theorem E5:∀w,(zeroValue 158).run Tryz.prog w=.ok (.slice none 0 0) w:=Tryz.zeroValue158
def jl (p:List aC→Bool) (ps:List (Value×List aC)):List (Value×List aC):=ps.filter fun q=> !p q.2
theorem tQ {p:List aC→Bool} {ps:List (Value×List aC)} {j:Nat} {q:Value×List aC} (h:ps[j]?=some q):jl p (ps.take (j+1))=if p q.2 then jl p (ps.take j) else jl p (ps.take j)++[q]:=by
 unfold jl;rw[List.take_add_one,h,List.filter_append];cases e:p q.2 <;> simp[e]
set_option maxRecDepth 100000 in
set_option maxHeartbeats 4000000 in
theorem Ko (v:Value) (ps:List (Value×List aC)) (g:Nat) (cb:Array Value) (eg:∀args w,(callFunc g args).run Tryz.prog w=.ok (.enter g args) w) (p:List aC→Bool) (n lo:Nat) (w0 w:World) (hd:OZ g cb p n w0) (hw:Below n w0 w) (hn:n≤lo) (hlo:lo≤w.heap.size) (hv:Lists 158 190 lo w v ps) (hl:ps.length≤20000) (hs:∀q∈ps,q.2.length≤20):
  Calls Tryz.prog 159 #[v,.func (.func g) #[] cb] w fun e w'=>∃v',e=.returned v'∧Lists 158 190 lo w' v' (jl p ps)∧v'.ownBlock=v.ownBlock∧gY v.ownBlock w w':=by
 have HI:=hide (MH v (ps.map (·.2)) g cb eg p n w0 w hd hw (by omega) (Kind.dN (hv.sl (by omega) fun q hq=>by have:=hs q hq;omega)));obtain⟨a,cap,rfl⟩:=hv.slice;have HV:=hide hv;have HD:Hid (∀w' u l,gY (Value.slice a ps.length cap).ownBlock w w'→bA.sl bJ w' u l→Calls Tryz.prog g (#[u]++cb) w' fun e w''=>e=.returned (.bool (p l))∧Later w' w''):=fun w' u l hO hu=>by
  refine hd w' u l (ak hw ⟨hO.os,hO.tape,hO.output,hO.size,fun k hk=>hO.block k (by omega) fun e=> ?_⟩ (Nat.le_refl _)) hu;have:=hv.lo_le k e;omega
 have HS:=hide hs;clear hv hd hw hs
 go_enter Tryz.func159,Tryz.ntmps159
 go_wp2_with fail
 refine HI.out.mono ?_;rintro e w1 ⟨r,rfl,h,hL1⟩;have HL1:=hide hL1;clear HI hL1;rcases h with⟨rfl,h⟩|⟨k0,l0,rfl,hk0,hp0,hbe⟩
 ·have HK:Hid (jl p ps=ps):=by
   show _=_;unfold jl;rw[List.filter_eq_self];intro q hq;rw[h q.2 (List.mem_map.2 ⟨q,hq,rfl⟩)];rfl
  clear h;go_wp2;go_ret;exact⟨_,rfl,by rw[HK.out];exact HV.out.later HL1.out,rfl,gY.of_later HL1.out⟩
 ·have SC:k0<ps.length:=by simpa using(List.getElem?_eq_some_iff.1 hk0).1
  obtain⟨q0,hq0⟩:∃q,ps[k0]?=some q:=⟨_,List.getElem?_eq_getElem SC⟩;have QC:q0.2=l0:=by
   rw[List.getElem?_map,hq0] at hk0;simpa using hk0
  have HKs:Hid (jl p (ps.take (k0+1))=ps.take k0):=by
   show _=_;rw[tQ hq0,QC,hp0,if_pos rfl];unfold jl;rw[List.filter_eq_self];intro q hq;rw[hbe q.2 (by rw[←List.map_take];exact List.mem_map.2 ⟨q,hq,rfl⟩)];rfl
  obtain⟨ho,hpw⟩:=HV.out;rcases ho.2 with⟨e,e'⟩|⟨gb,cap',cur,e,hbg,hg,hnc,hcm,hcs,htk⟩
  ·omega
  ·simp only[Value.slice.injEq] at e;obtain⟨rfl,_,rfl⟩:=e;have hgl:gb<w.heap.size:=(Array.getElem?_eq_some_iff.1 hg).1;have hne1:((k0:Int)== -1)=false:=beq_eq_false_iff_ne.2 (by omega);have HPW:=hide hpw;have hcur:∀q,q<ps.length→cur[q]?=some ((ps.map (·.1))[q]?.getD (.slice none 0 0)):=fun q hq=>by
    have e1:(cur.toList.take (ps.length*1))[q]?=(ps.map (·.1))[q]?:=by rw[htk]
    rw[List.getElem?_take,if_pos (by omega)] at e1;rw[←Array.getElem?_toList,e1,List.getElem?_eq_getElem (by simpa using hq)];rfl
   have O0:=hide hcur;have HG:=hide hg;have HCS:=hide hcs;clear hk0 hp0 hbe hq0 QC ho hpw hg hcs htk hcur;go_wp2
   go_loopg [5,6,7] ps.length (fun gg s5 s6 _ wr=>∃(i j:Nat) (cr:Array Value),s5=.int .i64 i∧s6=.int .i64 j∧(ps.length≤j+gg∧j≤ps.length)∧i<j∧Hid (i=(jl p (ps.take j)).length)∧Hid (wr.heap[gb]?=some (.cells cr 158 (0,0)))∧Hid (cr.size=cap)∧
    Hid (∀q,q<i→cr[q]?=some (((jl p (ps.take j)).map (·.1))[q]?.getD (.slice none 0 0)))∧Hid (∀q,j≤q→q<ps.length→cr[q]?=some ((ps.map (·.1))[q]?.getD (.slice none 0 0)))∧Hid (gY (some gb) w wr))
   case atStart=>
    refine⟨k0,k0+1,cur,rfl,by go_num,by omega,by omega,?_,((HL1.out.block hgl).trans HG.out:_=_),(by rw[HCS.out];omega:_=_),?_,(fun q _ hq=>O0.out q hq),gY.of_later HL1.out⟩
    ·show _=_;rw[HKs.out,List.length_take];omega
    ·intro q hq;rw[HKs.out,List.map_take,List.getElem?_take,if_pos hq];exact O0.out q (by omega)
   case round=>
    clear HL1 HKs HG HCS O0;obtain⟨i,j,cr,rfl,rfl,hj,hij,HI,HB,HZ,HLo,HHi,HO⟩:=hrel;have hcr:=HZ.out;have hgr:gb<wr.heap.size:=Nat.lt_of_lt_of_le hgl HO.out.size;have QD:∀q∈ps,bA.own 190 lo wr q.1 q.2:=fun q hq=>jQ (HPW.out.1 q hq).1 fun k e=>HO.out.block k (Kind.fu (HPW.out.1 q hq).1 e).2 (fun e'=>(HPW.out.1 q hq).2 k e e');have HOw:=hide QD;clear QD
    by_cases hlt:j<ps.length
    ·obtain⟨q,hq⟩:∃q,ps[j]?=some q:=⟨_,List.getElem?_eq_getElem hlt⟩;have hqm:=List.mem_of_getElem? hq;have hcj:cr[j]?=some q.1:=by
      rw[HHi.out j (Nat.le_refl _) hlt,List.getElem?_map,hq];rfl
     have hci:∃old,cr[i]?=some old:=⟨_,Array.getElem?_eq_getElem (by omega)⟩;obtain⟨old,hci⟩:=hci;have cj:wr.cell? ⟨gb,j,none⟩=some q.1:=by rw[cell_of_row _ _ _ _ _ _ HB.out];exact hcj
     have HSt:=hide (tQ (p:=p) hq);have HCl:=hide (HD.out wr q.1 q.2 HO.out (Kind.dN (Kind.gW (HOw.out q hqm) (by have:=HS.out q hqm;omega))));obtain⟨ua,un,uc,hqu⟩:∃a n c,q.1=.slice a n c:=by obtain⟨a,c,e⟩:=Kind.dI (HOw.out q hqm);exact⟨a,_,c,e⟩
     rw[hqu] at cj HCl hcj;have HQ1:=hide hqu;have HCI:=hide hci;have HQ:=hide hq;have hltz:(j:Int)<(ps.length:Int):=by omega
     clear hq hqm hqu hcj hci;cases hpq:p q.2
     ·rw[hpq] at HCl HSt;have MI:Hid (jl p (ps.take (j+1))=jl p (ps.take j)++[q]):=HSt.out;clear hpq HSt
      go_wp2_with fail
      refine HCl.out.mono ?_;rintro e w2 ⟨rfl,hL2⟩;have HB2:=hide ((hL2.block hgr).trans HB.out);have ci:w2.cell? ⟨gb,i,none⟩=some old:=by rw[cell_of_row _ _ _ _ _ _ HB2.out];exact HCI.out
      have fi:w2.frozen? ⟨gb,i,none⟩=false:=mZ i HB2.out;have hg2:gb<w2.heap.size:=(Array.getElem?_eq_some_iff.1 HB2.out).1;have HO2:=hide (HO.out.trans (gY.of_later hL2));have hiz:(i:Int)<(ps.length:Int):=by omega
      clear hL2 HCl;go_wp2
      go_roundg (ps.length- (j+1))
      case measure=>omega
      case rel=>
       refine⟨i+1,j+1,cr.setIfInBounds i (.slice ua un uc),by go_num,by go_num,by omega,by omega,?_,(dY HB2.out _:_=_),(by simpa using hcr:_=_),?_,?_,(HO2.out.setCell (x:=⟨gb,i,none⟩) rfl _:gY _ _ _)⟩
       ·show _=_;rw[MI.out,List.length_append,←HI.out];rfl
       ·intro t ht;rw[MI.out,List.map_append]
        by_cases hti:t=i
        ·subst hti;rw[Array.getElem?_setIfInBounds_self_of_lt (by omega),List.getElem?_append_right (by rw[List.length_map,←HI.out];omega),List.length_map,←HI.out,Nat.sub_self];simp[HQ1.out]
        ·rw[Array.getElem?_setIfInBounds_ne (by omega),HLo.out t (by omega),List.getElem?_append_left (by rw[List.length_map,←HI.out];omega)]
       ·intro t h1 h2;rw[Array.getElem?_setIfInBounds_ne (by omega)];exact HHi.out t (by omega) h2
     ·rw[hpq] at HCl HSt;have MI:Hid (jl p (ps.take (j+1))=jl p (ps.take j)):=HSt.out;clear hpq HSt
      go_wp2_with fail
      refine HCl.out.mono ?_;rintro e w2 ⟨rfl,hL2⟩;have HB2:=hide ((hL2.block hgr).trans HB.out);have HO2:=hide (HO.out.trans (gY.of_later hL2));clear hL2 HCl;go_wp2
      go_roundg (ps.length- (j+1))
      case measure=>omega
      case rel=>
       refine⟨i,j+1,cr,rfl,by go_num,by omega,by omega,?_,HB2,HZ,?_,(fun t h1 h2=>HHi.out t (by omega) h2),HO2⟩
       ·show _=_;rw[MI.out];exact HI.out
       ·show∀t,_;rw[MI.out];exact HLo.out
    ·obtain rfl:j=ps.length:=by omega
     have hltz:¬(ps.length:Int)<(ps.length:Int):=by omega
     have hcl:∀ty,(Builtin.clear_ #[62] ty #[.slice (some ⟨gb,i,none⟩) (ps.length-i) (cap-i)]).run Tryz.prog wr=.ok (.tuple #[]) (wr.setCells gb i (List.replicate (ps.length-i) (.slice none 0 0))):=fun ty=>
      Lib.run_clear_slice wr _ _ ty _ Tryz.underlying62 E5 rfl rfl gb i _ _ (by omega) (fun t ht=>by rw[cell_of_row _ _ _ _ _ _ HB.out,Array.getElem?_eq_getElem (by omega)];rfl) (fun t ht=>mZ _ HB.out)
     have hiz:(i:Int)≤(ps.length:Int):=by omega
     have hic:(i:Int)≤(cap:Int):=by omega
     have Um:¬cap=i:=by omega
     have hpz:(ps.length:Int)≤(cap:Int):=by omega
     go_wp2;go_ret;obtain⟨cr',h1,h2,h3⟩:=oL gb (List.replicate (ps.length-i) (.slice none 0 0)) i wr cr _ _ HB.out;have hO2:=HO.out.trans (ng gb (List.replicate (ps.length-i) (.slice none 0 0)) i wr);have hk:jl p (ps.take ps.length)=jl p ps:=by rw[List.take_length]
     have hil:i=(jl p ps).length:=by rw[←hk];exact HI.out
     refine⟨.slice (some ⟨gb,0,none⟩) i cap,rfl,⟨?_,fun q hq=> ?_,?_⟩,rfl,hO2⟩
     ·rw[←hil];refine⟨by rw[List.length_map,←hil];omega,Or.inr ⟨gb,cap,cr',rfl,hbg,h1,by omega,hcm,by rw[h2];omega,?_⟩⟩
      apply List.ext_getElem?
      intro t;rw[Nat.mul_one,List.getElem?_take]
      by_cases ht:t<i
      ·rw[if_pos ht,Array.getElem?_toList,h3 t ht,HLo.out t ht,hk,List.getElem?_eq_getElem (by rw[List.length_map,←hil];exact ht)];rfl
      ·rw[if_neg ht,List.getElem?_eq_none (by rw[List.length_map,←hil];omega)]
     ·have hqm:q∈ps:=(List.mem_filter.1 hq).1;exact⟨jQ (HPW.out.1 q hqm).1 fun k e=>hO2.block k (Kind.fu (HPW.out.1 q hqm).1 e).2 (fun e'=>(HPW.out.1 q hqm).2 k e e'),(HPW.out.1 q hqm).2⟩
     ·exact HPW.out.2.filter _
end Go.Proofs.YtafmbokfkbccaaaGreatDoor
