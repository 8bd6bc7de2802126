import Derived.Test.YtafmbokfkbccaaaGreatDoorJT6
import Derived.Test.YtafmbokfkbccaaaGreatDoorJT2
import Derived.Shelf.SlSortCmp.QuietGrown
import Derived.Deep.RegionWith
import Derived.Laws.EntriesVeiled
import Derived.Test.YtafmbokfkbccaaaGreatDoorJT12
namespace Go.Proofs.YtafmbokfkbccaaaGreatDoor
open Go.RowKit Go.Sort
theorem mixed:Tryz.prog.follows .mixedOrders=true:=by kernel_rfl
theorem Facts.grown {w:World} {b off n cap:Nat} {l:List aO} (h:Facts w (.slice (some ⟨b,off,none⟩) n cap) l) {k:Nat} (hk:k<l.length):
  ∃a len c,(∀q os,(grow (w.drewN q) os).cell? ⟨b,off+k*2,none⟩=some (.string (l.getD k aA).1))∧(∀q os,(grow (w.drewN q) os).cell? ⟨b,off+k*2+1,none⟩=some (.slice a len c))∧dH w (.agg #[.string (l.getD k aA).1,.slice a len c]) (l.getD k aA):=by
 obtain⟨hb,a,len,c,g1,g2,hf⟩:=h.at hk;exact⟨a,len,c,fun q os=>by rw[Later.cell ⟨q,os,rfl⟩ (p:=⟨b,off+k*2,none⟩) hb];exact g1,fun q os=>by rw[Later.cell ⟨q,os,rfl⟩ (p:=⟨b,off+k*2+1,none⟩) hb];exact g2,hf⟩
theorem qQ {l:List aO} {f:aO}:eu l f 0=true↔f∈l:=by
 unfold eu;rw[List.drop_zero,List.any_eq_true];exact⟨fun⟨x,h1,h2⟩=>by rw[sV.1 h2] at h1;exact h1,fun h=>⟨f,h,sV.2 rfl⟩⟩
theorem meet {l:List aO} {g:aO} (hr:fT l) {m:Nat} (hm:m≤l.length) (ha:∀t,t<m→fQ (l.getD t aA) g<0) (hb:∀t,m≤t→t<l.length→0≤fQ (l.getD t aA) g):
  eu l g 0=(decide (m<l.length)&&decide (fQ (l.getD m aA) g=0)):=by
 rw[Bool.eq_iff_iff,qQ,Bool.and_eq_true,decide_eq_true_eq,decide_eq_true_eq]
 constructor
 ·intro h;obtain⟨t,ht,rfl⟩:=List.getElem_of_mem h;have e:l.getD t aA=l[t]:=by rw[List.getD_eq_getElem?_getD,List.getElem?_eq_getElem ht];rfl
  have h1:m≤t:=Nat.not_lt.1 fun n=>by have:=ha t n;rw[e,aX.refl] at this;omega
  have h2:m=t:=by
   refine Classical.byContradiction fun n=> ?_;have h3:=List.pairwise_iff_getElem.1 hr m t (by omega) ht (by omega);have h4:=hb m (Nat.le_refl _) (by omega);rw[List.getD_eq_getElem?_getD,List.getElem?_eq_getElem (by omega)] at h4;have h5:(0:Int)≤fQ l[m] l[t]:=h4;omega
  subst h2;exact⟨ht,by rw[e,aX.refl]⟩
 ·rintro⟨h1,h2⟩;rw[←aX.zero _ _ h2,List.getD_eq_getElem?_getD,List.getElem?_eq_getElem h1];exact List.getElem_mem h1
theorem yZ {x:Value} {a b:Bool} (h:a=b):Ending.returned (.tuple #[x,.bool a])=.returned (.tuple #[x,.bool b]):=by rw[h]
theorem cell_later {w w':World} (hL:Later w w') {p:Addr} {v:Value} (hb:p.block<w.heap.size) (h:w.cell? p=some v):∀q os,(grow (w'.drewN q) os).cell? p=some v:=fun q os=>by
 rw[(hL.trans ⟨q,os,rfl⟩).cell hb];exact h
set_option maxHeartbeats 1000000 in
theorem search (v t:Value) (l:List aO) (g:aO) (w:World) (hf:Facts w v l) (ht:dH w t g) (hr:fT l):
  Calls Tryz.prog 127 #[v,t,.func (.func 128) #[] #[]] w fun e w'=>∃n:Int,e=.returned (.tuple #[.int .i64 n,.bool (eu l g 0)])∧Later w w':=by
 have mx:=mixed;have HF:=hide hf;have HT:=hide ht;have HR:=hide hr;obtain⟨a,cap,rfl,hn,hz⟩:=hf.addr;obtain⟨s2,rfl,l2,a2,c2,rfl,_⟩:=ht;clear hf hr
 go_enter Tryz.func127,Tryz.ntmps127
 go_wp2
 go_loopw [9,10] (fun i j wr=>∃lo hi:Nat,lo≤hi∧hi≤l.length∧i=.int .i64 lo∧j=.int .i64 hi∧Later (w.alloc (.cells #[.string g.1,.slice a2 g.2.length c2] 27)) wr∧Hid (∀t,t<lo→fQ (l.getD t aA) g<0)∧Hid (∀t,hi≤t→t<l.length→0≤fQ (l.getD t aA) g)) (fun i j _=>(intOf j).toNat- (intOf i).toNat)
 case atStart=>exact⟨0,l.length,by omega,by omega,rfl,rfl,Later.refl _,fun t ht=>absurd ht (Nat.not_lt_zero _),fun t h1 h2=>by omega⟩
 case round=>
  obtain⟨lo,hi,hlh,hin,rfl,rfl,hL,HA,HB⟩:=hrel;have hL0:Later w wr:=((Later.refl _).alloc _).trans hL;have z0:=cell_later hL (p:=⟨w.heap.size,0,none⟩) (v:=.string g.1) (by simp) (by simp);have z1:=cell_later hL (p:=⟨w.heap.size,1,none⟩) (v:=.slice a2 g.2.length c2) (by simp) (by simp)
  by_cases hlt:lo<hi
  ·rcases hz with rfl|⟨b,off,rfl⟩
   ·simp at hin;omega
   obtain⟨m,hm⟩:∃m,m=(lo+hi)/2:=⟨_,rfl⟩;have hml:m<l.length:=by omega
   have hlm:lo≤m:=by omega
   have hmh:m<hi:=by omega
   have em:((lo:Int)+(hi:Int))/2=(m:Int):=by omega
   clear hm;have hltz:(lo:Int)<(hi:Int):=by omega
   have hmz:(m:Int)<(l.length:Int):=by omega
   obtain⟨ax,lx,cx,g1,g2,fx⟩:=(HF.out.later hL0).grown hml;have hC:∀q os,Calls Tryz.prog 128 #[.agg #[.string (l.getD m aA).1,.slice ax lx cx],.agg #[.string g.1,.slice a2 g.2.length c2]] (grow (wr.drewN q) os) fun e w''=>e=.returned (.int .i64 (fQ (l.getD m aA) g))∧Later (grow (wr.drewN q) os) w'':=
    fun q os=>kV _ _ _ _ _ (fx.later ⟨q,os,rfl⟩) ((HT.out.later hL0).later ⟨q,os,rfl⟩)
   have HC:=hide hC;clear hC fx;have hlow:=HR.out;have Ay:fQ (l.getD m aA) g<0→∀t,t<m+1→fQ (l.getD t aA) g<0:=fun h t ht=>by
    by_cases e:t=m
    ·rw[e];exact h
    ·have h3:=List.pairwise_iff_getElem.1 hlow t m (by omega) hml (by omega);refine aX.trans _ (l.getD m aA) _ ?_ h;rw[List.getD_eq_getElem?_getD,List.getElem?_eq_getElem (by omega),List.getD_eq_getElem?_getD,List.getElem?_eq_getElem hml];exact h3
   have hstep2:0≤fQ (l.getD m aA) g→∀t,m≤t→t<l.length→0≤fQ (l.getD t aA) g:=fun h t h1 h2=>by
    by_cases e:t=m
    ·rw[e];exact h
    ·have h3:=List.pairwise_iff_getElem.1 hlow m t (by omega) h2 (by omega);refine Int.not_lt.1 fun n=> ?_;have h4:=aX.trans (l.getD m aA) (l.getD t aA) g (by
      rw[List.getD_eq_getElem?_getD,List.getElem?_eq_getElem (by omega),List.getD_eq_getElem?_getD,List.getElem?_eq_getElem h2];exact h3) n
     omega
   have H1:=hide Ay;have H2:=hide hstep2;clear Ay hstep2 hlow;generalize hcm:fQ (l.getD m aA) g=cm at*;have HCM:=hide hcm;clear hcm;generalize(l.getD m aA).1=nm at*
   by_cases hneg:cm<0
   ·go_wp2
    go_quiet_grown ((go_at_call 128;exact Calls.grown_of (HC.out _ _)))
    go_wp2
    go_roundw
    case rel=>exact⟨m+1,hi,by omega,hin,by go_num,rfl,hL.trans ⟨_,_,rfl⟩,H1.out hneg,HB⟩
    case measure=>simp[intOf];omega
   ·go_wp2
    go_quiet_grown ((go_at_call 128;exact Calls.grown_of (HC.out _ _)))
    go_wp2
    go_roundw
    case rel=>exact⟨lo,m,by omega,by omega,rfl,rfl,hL.trans ⟨_,_,rfl⟩,HA,H2.out (by omega)⟩
    case measure=>simp[intOf];omega
  ·obtain rfl:lo=hi:=by omega
   have hfin:=meet HR.out hin HA.out HB.out
   by_cases hll:lo<l.length
   ·rcases hz with rfl|⟨b,off,rfl⟩
    ·simp at hll
    have hmz:(lo:Int)<(l.length:Int):=by omega
    obtain⟨ax,lx,cx,g1,g2,fx⟩:=(HF.out.later hL0).grown hll;have hC:∀q os,Calls Tryz.prog 128 #[.agg #[.string (l.getD lo aA).1,.slice ax lx cx],.agg #[.string g.1,.slice a2 g.2.length c2]] (grow (wr.drewN q) os) fun e w''=>e=.returned (.int .i64 (fQ (l.getD lo aA) g))∧Later (grow (wr.drewN q) os) w'':=
     fun q os=>kV _ _ _ _ _ (fx.later ⟨q,os,rfl⟩) ((HT.out.later hL0).later ⟨q,os,rfl⟩)
    have HC:=hide hC;rw[decide_eq_true hll] at hfin;have HFN:=hide hfin;clear hC fx hfin;generalize hcm:fQ (l.getD lo aA) g=cm at*;generalize(l.getD lo aA).1=nm at*;have HCM:=hide hcm;clear hcm;go_wp2
    go_quiet_grown ((go_at_call 128;exact Calls.grown_of (HC.out _ _)))
    go_wp2
    go_ret2
    exact⟨(lo:Int),yZ (by rw[HFN.out,Bool.true_and,Bool.eq_iff_iff];simp),hL0.trans ⟨_,_,rfl⟩⟩
   ·rw[decide_eq_false hll] at hfin;have HFN:=hide hfin;clear hfin;have hd:decide ((lo:Int)<(l.length:Int))=false:=by rw[decide_eq_false_iff_not];omega
    go_wp2
    go_quiet (fail)
    go_wp2
    go_ret2
    exact⟨(lo:Int),yZ (by rw[HFN.out];rfl),hL0.drewN _⟩
end Go.Proofs.YtafmbokfkbccaaaGreatDoor
namespace Go.Proofs.YtafmbokfkbccaaaGreatDoor
open Go.RowKit Go.Sort
theorem DV (l:List aO):∀k,k≤l.length→pick (fun _=>true) l k=l.take k
 |0,_=>by simp[pick]
 |k+1,h=>by
  simp only[pick,if_true];rw[DV l k (by omega),List.take_succ_eq_append_getElem (by omega),List.getD_eq_getElem?_getD,List.getElem?_eq_getElem (by omega)];rfl
set_option maxHeartbeats 400000 in
theorem Yi (v:Value) (f:aO) (w:World) (h:dH w v f):Calls Tryz.prog 123 #[v] w fun e w'=>e=.returned (.bool true)∧Later w w':=by
 obtain⟨s,rfl,h0,a,cap,rfl,hc⟩:=h;clear hc
 go_enter Tryz.func123,Tryz.ntmps123
 go_wp2;go_ret;exact⟨rfl,(by repeat (first|exact Later.refl _|assumption|refine Later.drewN ?_ _|refine Later.drew ?_|refine Later.alloc ?_ _|refine Later.grow ?_ _))⟩
theorem Cq:∀args w,(callFunc 123 args).run Tryz.prog w=.ok (.enter 123 args) w:=enters_of Tryz.func123 (by kernel_rfl) rfl
theorem Fq:∀args w,(callFunc 238 args).run Tryz.prog w=.ok (.enter 238 args) w:=enters_of Tryz.func238 (by kernel_rfl) rfl
theorem Az:∀args w,(callFunc 94 args).run Tryz.prog w=.ok (.enter 94 args) w:=enters_of Tryz.func94 (by kernel_rfl) rfl
set_option maxHeartbeats 400000 in
theorem Yj (v:Value) (l:List aO) (w:World) (h:Facts w v l):Calls Tryz.prog 67 #[v] w fun e w'=>∃v',e=.returned v'∧kI w' w.heap.size v' l∧Later w w':=by
 have hk:=keep 123 #[] Cq w.heap.size w.heap.size w w v l (fun _=>true) (fun _ _=>True) h (Later.refl _) (Nat.le_refl _) (Nat.le_refl _)
  ⟨fun k w' v' _ hL _ _ hf=>(Yi v' _ w' (hf.later hL)).mono fun e w'' ⟨he,hw⟩=>⟨he,hw.only,trivial⟩,fun _ _ _ _ _ _=>trivial⟩ trivial
 rw[DV l l.length (Nat.le_refl _),List.take_length] at hk;obtain⟨a,cap,rfl⟩:=aC h;have HK:=hide hk;clear hk h
 go_enter Tryz.func67,Tryz.ntmps67
 go_wp2_with (go_at_call 93;refine HK.out.mono ?_;rintro e w' ⟨v',rfl,ho,hO,_⟩)
 go_ret;exact⟨v',rfl,ho,hO.later (Later.refl _) (Nat.le_refl _)⟩
def xD (w:World) (lo:Nat) (n:ByteArray) (s:Value) (b:Bool):Prop:=
 w.heap[lo]?=some (.cells #[.string n,s] 27 (0,0))∧w.heap[lo+1]?=some (.cells #[.bool b] 4 (0,0))
set_option maxHeartbeats 400000 in
theorem Fu (w:World):Calls Tryz.prog 174 #[] w fun e w'=>
  e=.returned (.func (.func 238) #[] #[.pointer (some ⟨w.heap.size+1,0,none⟩),.pointer (some ⟨w.heap.size,0,none⟩)])∧Later w w'∧w'.heap.size=w.heap.size+2∧xD w' w.heap.size ByteArray.empty (.slice none 0 0) false:=by
 go_enter Tryz.func174,Tryz.ntmps174
 go_wp2;go_ret;refine⟨rfl,(by repeat (first|exact Later.refl _|assumption|refine Later.drewN ?_ _|refine Later.drew ?_|refine Later.alloc ?_ _|refine Later.grow ?_ _)),by simp,?_,?_⟩
 ·rw[Below.heap_alloc _ _ _ (by simp),heap_alloc_new];rfl
 ·have:=heap_alloc_new (w.alloc (.cells #[.string {data:=#[]},.slice none 0 0] 27)) (.cells #[.bool false] 4);simpa using this
theorem gW {w:World} {g j:Nat} {cs:Array Value} {t:TypeId} {fr:Nat×Nat} (h:w.heap[g]?=some (.cells cs t fr)) (u:Value):(w.setCell ⟨g,j,none⟩ u).heap[g]?=some (.cells (cs.setIfInBounds j u) t fr):=by
 simp[World.setCell,Array.getElem?_modify,h]
theorem frozen_of_row {w:World} {g:Nat} (j:Nat) {cs:Array Value} {t:TypeId} (h:w.heap[g]?=some (.cells cs t (0,0))):w.frozen? ⟨g,j,none⟩=false:=by
 simp[World.frozen?,h]
theorem uo {w w2:World} {lo:Nat} {n n':ByteArray} {s s':Value} {b:Bool} (hl:xD w lo n s b) (hL:Later w w2):
  Only lo (lo+2) w (((w2.setCell ⟨lo,0,none⟩ (.string n')).setCell ⟨lo,1,none⟩ s').setCell ⟨lo+1,0,none⟩ (.bool true))∧xD (((w2.setCell ⟨lo,0,none⟩ (.string n')).setCell ⟨lo,1,none⟩ s').setCell ⟨lo+1,0,none⟩ (.bool true)) lo n' s' true:=by
 have hb1:lo<w.heap.size:=(Array.getElem?_eq_some_iff.1 hl.1).1;have hb2:lo+1<w.heap.size:=(Array.getElem?_eq_some_iff.1 hl.2).1;have h1:w2.heap[lo]?=some (.cells #[.string n,s] 27 (0,0)):=by rw[hL.block hb1];exact hl.1
 have h2:w2.heap[lo+1]?=some (.cells #[.bool b] 4 (0,0)):=by rw[hL.block hb2];exact hl.2
 refine⟨⟨hL.below.os,hL.below.tape,hL.below.output,hL.drawn,by simpa[World.setCell] using hL.size,fun k hk ho=> ?_⟩,?_,?_⟩
 ·rw[Below.heap_setCell _ _ _ _ (by show k≠lo+1;omega),Below.heap_setCell _ _ _ _ (by show k≠lo;omega),Below.heap_setCell _ _ _ _ (by show k≠lo;omega)];exact hL.block hk
 ·rw[Below.heap_setCell _ _ _ _ (by show lo≠lo+1;omega)];rw[gW (gW h1 _)]
  rfl
 ·rw[gW (by rw[Below.heap_setCell _ _ _ _ (by show lo+1≠lo;omega),Below.heap_setCell _ _ _ _ (by show lo+1≠lo;omega)];exact h2)]
  rfl
set_option maxHeartbeats 1000000 in
theorem uq (lo:Nat) (w:World) (n:ByteArray) (s:Value) (v:Value) (f g:aO) (hl:xD w lo n s true) (hg:dH w (.agg #[.string n,s]) g) (hf:dH w v f):
  Calls Tryz.prog 238 #[v,.pointer (some ⟨lo+1,0,none⟩),.pointer (some ⟨lo,0,none⟩)] w fun e w'=>e=.returned (.bool (!decide (fQ g f=0)))∧
   ∃w2,Later w w2∧∃s',v=.agg #[.string f.1,s']∧w'=((w2.setCell ⟨lo,0,none⟩ (.string f.1)).setCell ⟨lo,1,none⟩ s').setCell ⟨lo+1,0,none⟩ (.bool true):=by
 have hC:=fun w' (hw:Later w w')=>kV _ _ g f w' (hg.later hw) (hf.later hw);have HC:=hide hC;obtain⟨s1,rfl,h0,a,cap,rfl,hc⟩:=hf;obtain⟨s2,e2,l0,a2,cap2,rfl,hc2⟩:=hg;simp at e2;obtain⟨rfl,rfl⟩:=e2;clear hc hc2 hC;have hb1:lo<w.heap.size:=(Array.getElem?_eq_some_iff.1 hl.1).1;have hb2:lo+1<w.heap.size:=(Array.getElem?_eq_some_iff.1 hl.2).1;have c0:w.cell? ⟨lo,0,none⟩=some (.string g.1):=by rw[cell_of_row _ _ _ _ _ _ hl.1];rfl
 have c1:w.cell? ⟨lo,1,none⟩=some (.slice a2 g.2.length cap2):=by rw[cell_of_row _ _ _ _ _ _ hl.1];rfl
 have c2:w.cell? ⟨lo+1,0,none⟩=some (.bool true):=by rw[cell_of_row _ _ _ _ _ _ hl.2];rfl
 obtain⟨fn,fl⟩:=f;obtain⟨gn,gl⟩:=g;dsimp only at*
 go_enter Tryz.func238,Tryz.ntmps238
 go_wp2_with fail
 refine(HC.out _ ((Later.refl _).alloc _)).mono ?_;rintro e w2 ⟨rfl,hL⟩;have hL0:Later w w2:=((Later.refl _).alloc _).trans hL;have z0:w2.cell? ⟨w.heap.size,0,none⟩=some (.string fn):=by rw[hL.cell (by simp)];simp
 have z1:w2.cell? ⟨w.heap.size,1,none⟩=some (.slice a fl.length cap):=by rw[hL.cell (by simp)];simp
 have z2:w2.cell? ⟨lo,0,none⟩=some (.string gn):=by rw[hL0.cell hb1];exact c0
 have z3:w2.cell? ⟨lo,1,none⟩=some (.slice a2 gl.length cap2):=by rw[hL0.cell hb1];exact c1
 have z4:w2.cell? ⟨lo+1,0,none⟩=some (.bool true):=by rw[hL0.cell hb2];exact c2
 have y0:w2.frozen? ⟨lo,0,none⟩=false:=by rw[hL0.frozen hb1];exact frozen_of_row 0 hl.1
 have y1:w2.frozen? ⟨lo,1,none⟩=false:=by rw[hL0.frozen hb1];exact frozen_of_row 1 hl.1
 have y2:w2.frozen? ⟨lo+1,0,none⟩=false:=by rw[hL0.frozen hb2];exact frozen_of_row 0 hl.2
 go_wp2;go_ret;refine⟨bW ?_,w2,hL0,_,rfl,rfl⟩;rw[Bool.eq_iff_iff];simp
set_option maxHeartbeats 1000000 in
theorem wu (lo:Nat) (w:World) (n:ByteArray) (a2:Option Addr) (m2 cap2:Nat) (v:Value) (f:aO) (hl:xD w lo n (.slice a2 m2 cap2) false) (hf:dH w v f):
  Calls Tryz.prog 238 #[v,.pointer (some ⟨lo+1,0,none⟩),.pointer (some ⟨lo,0,none⟩)] w fun e w'=>e=.returned (.bool true)∧
   ∃w2,Later w w2∧∃s',v=.agg #[.string f.1,s']∧w'=((w2.setCell ⟨lo,0,none⟩ (.string f.1)).setCell ⟨lo,1,none⟩ s').setCell ⟨lo+1,0,none⟩ (.bool true):=by
 obtain⟨s1,rfl,h0,a,cap,rfl,hc⟩:=hf;clear hc;have hb1:lo<w.heap.size:=(Array.getElem?_eq_some_iff.1 hl.1).1;have hb2:lo+1<w.heap.size:=(Array.getElem?_eq_some_iff.1 hl.2).1;have z2:w.cell? ⟨lo,0,none⟩=some (.string n):=by rw[cell_of_row _ _ _ _ _ _ hl.1];rfl
 have z3:w.cell? ⟨lo,1,none⟩=some (.slice a2 m2 cap2):=by rw[cell_of_row _ _ _ _ _ _ hl.1];rfl
 have z4:w.cell? ⟨lo+1,0,none⟩=some (.bool false):=by rw[cell_of_row _ _ _ _ _ _ hl.2];rfl
 have y0:w.frozen? ⟨lo,0,none⟩=false:=frozen_of_row 0 hl.1;have y1:w.frozen? ⟨lo,1,none⟩=false:=frozen_of_row 1 hl.1;have y2:w.frozen? ⟨lo+1,0,none⟩=false:=frozen_of_row 0 hl.2;obtain⟨fn,fl⟩:=f;dsimp only at*
 go_enter Tryz.func238,Tryz.ntmps238
 go_wp2;go_ret;refine⟨rfl,w.alloc (.cells #[.string fn,.slice a fl.length cap] 27),(Later.refl _).alloc _,_,rfl,?_⟩;rw[World.setCell_alloc_past _ _ _ _ (by exact hb1),World.setCell_alloc_past _ _ _ _ (by simpa using hb1),World.setCell_alloc_past _ _ _ _ (by simpa using hb2)]
def Qs (w0:World) (lo:Nat) (l:List aO) (k:Nat) (w:World):Prop:=
 ∃n a m c,xD w lo n (.slice a m c) (decide (0<k))∧(0<k→dH w0 (.agg #[.string n,.slice a m c]) (l.getD (k-1) aA))
theorem K8 (w0:World) (l:List aO):
  Qe 238 #[.pointer (some ⟨w0.heap.size+1,0,none⟩),.pointer (some ⟨w0.heap.size,0,none⟩)] w0.heap.size (w0.heap.size+2) w0 l (newP l) (Qs w0 w0.heap.size l) where
 ask k w' v hk hL _ hS hf:=by
  obtain⟨n,a,m,c,hl,hlast⟩:=hS
  by_cases h0:0<k
  ·rw[decide_eq_true h0] at hl;have e:newP l k= !decide (fQ (l.getD (k-1) aA) (l.getD k aA)=0):=by simp[newP];omega
   rw[e];refine(uq w0.heap.size w' n _ v (l.getD k aA) (l.getD (k-1) aA) hl ((hlast h0).later hL) (hf.later hL)).mono ?_;rintro e w'' ⟨rfl,w2,hL2,s',rfl,rfl⟩;have hst:=uo (n':=(l.getD k aA).1) (s':=s') hl hL2;obtain⟨s1,e1,hs1⟩:=hf;simp at e1;subst e1;obtain⟨a1,c1,rfl⟩:=bB hs1;exact⟨rfl,hst.1,_,a1,_,c1,by rw[decide_eq_true (Nat.succ_pos k)];exact hst.2,fun _=>⟨_,rfl,hs1⟩⟩
  ·have hk0:k=0:=by omega
   subst hk0;refine(wu w0.heap.size w' n a m c v (l.getD 0 aA) hl (hf.later hL)).mono ?_;rintro e w'' ⟨rfl,w2,hL2,s',rfl,rfl⟩;have hst:=uo (n':=(l.getD 0 aA).1) (s':=s') hl hL2;obtain⟨s1,e1,hs1⟩:=hf;simp at e1;subst e1;obtain⟨a1,c1,rfl⟩:=bB hs1;exact⟨rfl,hst.1,_,a1,_,c1,hst.2,fun _=>⟨_,rfl,hs1⟩⟩
 kept k w' w'' hS hb _:=by
  obtain⟨n,a,m,c,hl,hlast⟩:=hS;exact⟨n,a,m,c,⟨by rw[hb _ (by omega)];exact hl.1,by rw[hb _ (by omega)];exact hl.2⟩,hlast⟩
end Go.Proofs.YtafmbokfkbccaaaGreatDoor
namespace Go.Proofs.YtafmbokfkbccaaaGreatDoor
open Go.RowKit Go.Sort
set_option maxHeartbeats 400000 in
theorem among (a:Option Addr) (n cap:Nat) (w:World):Calls Tryz.prog 70 #[.slice a n cap] w fun e w'=>
  e=.returned (.func (.func 126) #[] #[.pointer (some ⟨w.heap.size,0,none⟩)])∧w'=w.alloc (.cells #[.slice a n cap] 24):=by
 go_enter Tryz.func70,Tryz.ntmps70
 go_wp2;go_ret;exact⟨rfl,rfl⟩
set_option maxHeartbeats 400000 in
theorem MR (c:Nat) (v t:Value) (l:List aO) (g:aO) (w:World) (hc:w.cell? ⟨c,0,none⟩=some v) (hb:c<w.heap.size) (hf:Facts w v l) (ht:dH w t g) (hr:fT l):
  Calls Tryz.prog 126 #[t,.pointer (some ⟨c,0,none⟩)] w fun e w'=>e=.returned (.bool (eu l g 0))∧Later w w':=by
 have hS:=fun w' (hw:Later w w')=>search v t l g w' (hf.later hw) (ht.later hw) hr;have HS:=hide hS;obtain⟨a,cap,rfl⟩:=aC hf;obtain⟨s2,rfl,l2,a2,c2,rfl,_⟩:=ht;clear hS hf hr
 go_enter Tryz.func126,Tryz.ntmps126
 go_wp2_with (go_at_call 127;refine(HS.out _ ((Later.refl _).alloc _)).mono ?_;rintro e w1 ⟨n,rfl,hL⟩)
 go_ret;exact⟨rfl,((Later.refl _).alloc _).trans hL⟩
set_option maxHeartbeats 1000000 in
theorem inC (v t:Value) (l:List aO) (g:aO) (w:World) (hf:Facts w v l) (ht:dH w t g) (hr:fT l):
  Calls Tryz.prog 23 #[v,t] w fun e w'=>e=.returned (.bool (eu l g 0))∧Later w w':=by
 have hA:=fun c w' hc hb (hw:Later w w')=>MR c v t l g w' hc hb (hf.later hw) (ht.later hw) hr;have HA:=hide hA;obtain⟨a,cap,rfl⟩:=aC hf;obtain⟨s2,rfl,l2,a2,c2,rfl,_⟩:=ht;clear hA hf hr
 go_enter Tryz.func23,Tryz.ntmps23
 go_wp2
 go_region_with (first
  |(go_at_call 70;refine(among _ _ _ _).mono ?_;rintro e w1 ⟨rfl,rfl⟩)
  |(go_at_call 126;refine(HA.out (w.heap.size+1) _ (by simp) (by simp) (by repeat (first|exact Later.refl _|assumption|refine Later.drewN ?_ _|refine Later.drew ?_|refine Later.alloc ?_ _|refine Later.grow ?_ _))).mono ?_;rintro e w2 ⟨rfl,hL⟩))
 all_goals
  go_wp2;go_ret;exact⟨rfl,Later.trans (by repeat (first|exact Later.refl _|assumption|refine Later.drewN ?_ _|refine Later.drew ?_|refine Later.alloc ?_ _|refine Later.grow ?_ _)) hL⟩
set_option maxHeartbeats 400000 in
theorem Tt (c d:Nat) (v t:Value) (l:List aO) (g:aO) (w:World) (hc:w.cell? ⟨c,0,none⟩=some v) (hb:c<w.heap.size) (hd:w.cell? ⟨d,0,none⟩=some (.func (.func 126) #[] #[.pointer (some ⟨c,0,none⟩)])) (hdb:d<w.heap.size) (hf:Facts w v l) (ht:dH w t g) (hr:fT l):
  Calls Tryz.prog 94 #[t,.pointer (some ⟨d,0,none⟩)] w fun e w'=>e=.returned (.bool (!eu l g 0))∧Later w w':=by
 have hA:=fun w' (hw:Later w w')=>MR c v t l g w' (by rw[hw.cell (p:=⟨c,0,none⟩) hb];exact hc) (Nat.lt_of_lt_of_le hb hw.size) (hf.later hw) (ht.later hw) hr;have HA:=hide hA;obtain⟨s2,rfl,l2,a2,c2,rfl,_⟩:=ht;clear hA hf hr hc;generalize eu l g 0=r at*
 go_enter Tryz.func94,Tryz.ntmps94
 go_wp2_with (go_at_call 126;refine(HA.out _ ((Later.refl _).alloc _)).mono ?_;rintro e w1 ⟨rfl,hL⟩)
 go_ret;exact⟨rfl,((Later.refl _).alloc _).trans hL⟩
set_option maxHeartbeats 400000 in
theorem Tv (va vb:Value) (la lb:List aO) (w:World) (ha:Facts w va la) (hb:Facts w vb lb) (hr:fT lb):
  Calls Tryz.prog 43 #[va,vb] w fun e w'=>∃v',e=.returned v'∧kI w' w.heap.size v' (la.filter fun f=> !eu lb f 0)∧Later w w':=by
 have HA:=hide ha;have HB:=hide hb;have HR:=hide hr;obtain⟨a1,c1,rfl⟩:=aC ha;obtain⟨a2,c2,rfl⟩:=aC hb;clear ha hb hr
 go_enter Tryz.func43,Tryz.ntmps43
 go_wp2_with (go_at_call 70;refine(among _ _ _ _).mono ?_;rintro e w1 ⟨rfl,rfl⟩)
 have hL:Later w ((w.alloc (.cells #[.slice a2 lb.length c2] 24)).alloc (.cells #[.func (.func 126) #[] #[.pointer (some ⟨w.heap.size,0,none⟩)]] 131)):=(by repeat (first|exact Later.refl _|assumption|refine Later.drewN ?_ _|refine Later.drew ?_|refine Later.alloc ?_ _|refine Later.grow ?_ _));have hz:w.heap.size+1<((w.alloc (.cells #[.slice a2 lb.length c2] 24)).alloc (.cells #[.func (.func 126) #[] #[.pointer (some ⟨w.heap.size,0,none⟩)]] 131)).heap.size:=by simp
 have y0:((w.alloc (.cells #[.slice a2 lb.length c2] 24)).alloc (.cells #[.func (.func 126) #[] #[.pointer (some ⟨w.heap.size,0,none⟩)]] 131)).cell? ⟨w.heap.size,0,none⟩=some (.slice a2 lb.length c2):=by simp
 have y1:((w.alloc (.cells #[.slice a2 lb.length c2] 24)).alloc (.cells #[.func (.func 126) #[] #[.pointer (some ⟨w.heap.size,0,none⟩)]] 131)).cell? ⟨w.heap.size+1,0,none⟩=some (.func (.func 126) #[] #[.pointer (some ⟨w.heap.size,0,none⟩)]):=by simp
 generalize((w.alloc (.cells #[.slice a2 lb.length c2] 24)).alloc (.cells #[.func (.func 126) #[] #[.pointer (some ⟨w.heap.size,0,none⟩)]] 131))=W at*;refine(keep 94 #[.pointer (some ⟨w.heap.size+1,0,none⟩)] Az W.heap.size W.heap.size W W _ la (fun k=> !eu lb (la.getD k aA) 0) (fun _ _=>True) (HA.out.later hL) (Later.refl _) (Nat.le_refl _) (Nat.le_refl _)
  ⟨fun k w' t hk hw _ _ hf=>(Tt w.heap.size (w.heap.size+1) _ t lb (la.getD k aA) w' (by rw[hw.cell (p:=⟨w.heap.size,0,none⟩) (by show w.heap.size<_;omega)];exact y0) (by have:=hw.size;omega)
    (by rw[hw.cell (p:=⟨w.heap.size+1,0,none⟩) hz];exact y1) (by have:=hw.size;omega) ((HB.out.later hL).later hw) (hf.later hw) HR.out).mono fun e w'' ⟨he,hL'⟩=>⟨he,hL'.only,trivial⟩,
   fun _ _ _ _ _ _=>trivial⟩ trivial).mono ?_
 rintro e w1 ⟨v',rfl,hO,hW,_⟩;have e:=tK (fun f=> !eu lb f 0) la la.length (Nat.le_refl _);rw[List.take_length] at e;rw[e] at hO;have HO:=hide hO;clear hO e;go_wp2;go_ret;exact⟨v',rfl,HO.out.base hL.size,hL.trans (hW.later (Later.refl _) (Nat.le_refl _))⟩
end Go.Proofs.YtafmbokfkbccaaaGreatDoor
namespace Go.Proofs.YtafmbokfkbccaaaGreatDoor
open Go.RowKit Go.Sort Go.Maps
theorem qR (l:List aO) (f:aO):eu l f 0=inB l f:=by
 rw[Bool.eq_iff_iff,qQ,dB]
def IG (fs:List aO) (a:aI) (l:List aB):Bool:=match bA a l with
 |some f=>inB fs f
 |none=>false
theorem AA {pick:Nat→List au} {body:List aI} {j:Nat} {a:aI} (h:body[j]?=some a) (l:List aB):barredB pick j (body.drop j) l=((a.no&&IG (pick j) a l)||barredB pick (j+1) (body.drop (j+1)) l):=by
 obtain⟨h1,e1⟩:=List.getElem?_eq_some_iff.1 h;rw[List.drop_eq_getElem_cons h1,e1];rfl
set_option maxRecDepth 100000 in
set_option maxHeartbeats 4000000 in
theorem NT (body:List aI) (v u:Value) (l:List aB) (g:Nat) (cb:Array Value) (eg:∀args w,(callFunc g args).run Tryz.prog w=.ok (.enter g args) w) (pick:Nat→List aO) (w:World) (hv:bP.sl bg w v body) (hu:bq.sl bg w u l) (hp:Av g cb pick w.heap.size w) (hb:body.length≤5) (hr:∀n,fT (pick n)):
  Calls Tryz.prog 161 #[v,.func (.func g) #[] cb,u] w fun e w'=>e=.returned (.bool (barredB pick 0 body l))∧Later w w':=by
 obtain⟨sa,cap,rfl⟩:=Kind.slice hv;obtain⟨ua,Tw,rfl⟩:=Kind.slice hu;have HV:=hide hv;have HU:=hide hu;have HP:=hide hp;have HR:=hide hr;clear hv hu hp hr;generalize hR:barredB pick 0 body l=R at*;have H0:Hid (R=barredB pick 0 (body.drop 0) l):=hR.symm;clear hR
 go_enter Tryz.func161,Tryz.ntmps161
 go_wp2
 go_loopg [13] body.length (fun gg i wr=>∃j:Nat,j+gg=body.length∧i=.int .i64 j∧Hid (R=barredB pick j (body.drop j) l)∧Hid (Later w wr))
 case atStart=>exact⟨0,by omega,rfl,H0,((by repeat (first|exact Later.refl _|assumption|refine Later.drewN ?_ _|refine Later.drew ?_|refine Later.alloc ?_ _|refine Later.grow ?_ _)):Later _ _)⟩
 case round=>
  obtain⟨j,hj,rfl,HE,HL⟩:=hrel
  by_cases hlt:j<body.length
  ·obtain⟨a,hx⟩:∃x,body[j]?=some x:=⟨_,List.getElem?_eq_getElem hlt⟩;obtain⟨b1,o1,_,rfl,hb1,⟨sv,rfl,hsv⟩,hc⟩:=Kind.bQ HV.out hx;have d0:wr.cell? ⟨b1,o1+j*3,none⟩=some (.bool a.no):=by rw[HL.out.cell hb1];exact hc 0 _ rfl
   have d1:wr.cell? ⟨b1,o1+j*3+1,none⟩=some (.string (bs a.name)):=by rw[HL.out.cell hb1];exact hc 1 _ rfl
   have d2:wr.cell? ⟨b1,o1+j*3+2,none⟩=some sv:=by rw[HL.out.cell hb1];exact hc 2 _ rfl
   have hbr:b1<wr.heap.size:=Nat.lt_of_lt_of_le hb1 HL.out.size;have HS:=hide (AA (pick:=pick) hx l);obtain⟨sva,svc,rfl⟩:=Kind.slice hsv;have HSV:=hide hsv;clear hc hx hsv;cases hno:a.no
   ·have HS1:Hid (R=barredB pick (j+1) (body.drop (j+1)) l):=by
     show _=_;rw[HE.out,HS.out,hno];rfl
    rw[hno] at d0;clear HE HS hno;generalize bs a.name=nm at*;go_wp2
    go_roundg (body.length- (j+1))
    case measure=>omega
    case rel=>exact⟨j+1,by omega,by go_num,HS1,HL.out.alloc _⟩
   ·have HS1:Hid (R=(IG (pick j) a l||barredB pick (j+1) (body.drop (j+1)) l)):=by
     show _=_;rw[HE.out,HS.out,hno];rfl
    rw[hno] at d0;have hLt:Later w (wr.alloc (.cells #[.bool true,.string (bs a.name),.slice sva a.terms.length svc] 85)):=HL.out.alloc _;have HFc:=hide (NC a _ (.slice ua l.length Tw) l (wr.alloc (.cells #[.bool true,.string (bs a.name),.slice sva a.terms.length svc] 85)) (Kind.aJ HSV.out hLt) (Kind.aJ HU.out hLt));rw[hno] at HFc;have hbo:IG (pick j) a l=match bA a l with|some f=>inB (pick j) f|none=>false:=rfl
    unfold filled at HFc;have HLt:=hide hLt;clear HE HS hLt hno;cases hf:bA a l with
    |none=>
     rw[hf] at HFc hbo;have HS2:Hid (R=barredB pick (j+1) (body.drop (j+1)) l):=by show _=_;rw[HS1.out,hbo];rfl
     simp only[Option.isSome_none,Option.getD_none] at HFc;clear HS1 hbo hf;generalize bs a.name=nm at*
     go_wp2_with fail
     refine HFc.out.mono ?_;rintro e w2 ⟨fv,rfl,hfv,hL2⟩;obtain⟨s,rfl,hs⟩:=hfv;obtain⟨sA,sC,rfl⟩:=bB hs;have HL2:=hide (HLt.out.trans hL2);clear hs hL2 HFc;go_wp2;refine wp_region_held_drew (S:=fun w'=>Later w w') (by kernel_rfl) ((HL2.out.alloc _).drew) (fun hHeld=> ?_);refine ak (i:=0) (d:=some 27) (v:= ?_) rfl rfl hHeld ?_ ?_;rotate_left;focus intro w hSw;(try dsimp only at hSw);go_simp;try with_reducible rfl
     simp only[aK,aL,aze,asu];refine ak (i:=1) (d:=some 28) (v:= ?_) rfl rfl hHeld ?_ ?_;rotate_left;focus intro w hSw;(try dsimp only at hSw);go_simp;try with_reducible rfl
     simp only[aK,aL,aze,asu];refine cZ (i:=2) (d:=some 29) rfl rfl hHeld ?_;simp only[aK,aL,aze,asu];refine cZ (i:=3) (d:=some 30) rfl rfl hHeld ?_;simp only[aK,aL,aze,asu];refine cZ (i:=4) (d:=some 31) rfl rfl hHeld ?_;simp only[aK,aL,aze,asu];refine cZ (i:=5) (d:=some 32) rfl rfl hHeld ?_;simp only[aK,aL,aze,asu];refine cZ (i:=6) (d:=some 33) rfl rfl hHeld ?_;simp only[aK,aL,aze,asu];refine ak (i:=7) (d:=some 34) (v:= ?_) rfl rfl hHeld ?_ ?_;rotate_left;focus intro w hSw;(try dsimp only at hSw);go_simp;try with_reducible rfl
     simp only[aK,aL,aze,asu];refine wpAnyH_done (by kernel_rfl) ?_ _;go_wp2
     go_roundg (body.length- (j+1))
     case measure=>omega
     case rel=>exact⟨j+1,by omega,by go_num,HS2,hHeld⟩
    |some f=>
     rw[hf] at HFc hbo;have HS2:Hid (R=(eu (pick j) f 0||barredB pick (j+1) (body.drop (j+1)) l)):=by show _=_;rw[HS1.out,hbo,qR]
     simp only[Option.isSome_some,Option.getD_some] at HFc;clear HS1 hbo hf;generalize bs a.name=nm at*
     go_wp2_with fail
     refine HFc.out.mono ?_;rintro e w2 ⟨fv,rfl,hfv,hL2⟩;have HFV:=hide hfv;obtain⟨s,rfl,hs⟩:=hfv;obtain⟨sA,sC,rfl⟩:=bB hs;have HL2:=hide (HLt.out.trans hL2);obtain⟨fn,aH⟩:=f;dsimp only at*;obtain⟨wb,hwb⟩:∃wb,wb=w2.alloc (.cells #[.string fn,.slice sA aH.length sC] 27):=⟨_,rfl⟩;have hLb:Later w wb:=by rw[hwb];exact HL2.out.alloc _
     have hFb:dH wb (.agg #[.string fn,.slice sA aH.length sC]) (fn,aH):=by rw[hwb];exact HFV.out.later ((Later.refl _).alloc _)
     have z:wb.cell? ⟨w2.heap.size,0,none⟩=some (.string fn)∧wb.cell? ⟨w2.heap.size,1,none⟩=some (.slice sA aH.length sC):=by rw[hwb];simp
     have hsb:w2.heap.size<wb.heap.size:=by rw[hwb];simp
     have CELL:Hid (∀w',Later wb w'→w'.cell? ⟨w2.heap.size,0,none⟩=some (.string fn)∧w'.cell? ⟨w2.heap.size,1,none⟩=some (.slice sA aH.length sC)):=fun w' hL=>
      ⟨by rw[hL.cell hsb];exact z.1,by rw[hL.cell hsb];exact z.2⟩
     have HFr:Hid (∀w',Later wb w'→Calls Tryz.prog g (#[.int .i64 j]++cb) w' fun e w2=>∃v,e=.returned v∧Facts w2 v (pick j)∧Later w' w2):=fun w' hL=>
      HP.out w' j (hLb.trans hL).below (by omega)
     have HIn:Hid (∀w' x,Later wb w'→Facts w' x (pick j)→Calls Tryz.prog 23 #[x,.agg #[.string fn,.slice sA aH.length sC]] w' fun e w3=>e=.returned (.bool (eu (pick j) (fn,aH) 0))∧Later w' w3):=fun w' x hL hx=>
      inC x _ (pick j) (fn,aH) w' hx (hFb.later hL) (HR.out j)
     have HWB:=hide hwb;clear hs hL2 HFc hwb z hsb HFV hFb;go_wp2;rw[←HWB.out];generalize eu (pick j) (fn,aH) 0=bb at*;refine wp_region_held_drew (S:=fun w'=>Later wb w') (by kernel_rfl) (Later.refl _).drew (fun hHeld=> ?_);refine ak (i:=0) (d:=some 27) (v:= ?_) rfl rfl hHeld ?_ ?_;rotate_left;focus intro w hSw;(try dsimp only at hSw);go_simp;try with_reducible rfl
     simp only[aK,aL,aze,asu];refine ak (i:=1) (d:=some 28) (v:= ?_) rfl rfl hHeld ?_ ?_;rotate_left;focus intro w hSw;(try dsimp only at hSw);go_simp;try with_reducible rfl
     simp only[aK,aL,aze,asu];refine ak (i:=2) (d:=some 29) (v:= ?_) rfl rfl hHeld ?_ ?_;rotate_left;focus intro w hSw;(try dsimp only at hSw);go_simp;try with_reducible rfl
     simp only[aK,aL,aze,asu];refine ak (i:=3) (d:=some 30) (v:= ?_) rfl rfl hHeld ?_ ?_;rotate_left;focus intro w hSw;(try dsimp only at hSw);go_simp;try with_reducible rfl
     simp only[aK,aL,aze,asu];refine ak (i:=5) (d:=some 32) (v:= ?_) rfl rfl hHeld ?_ ?_;rotate_left;focus intro w hSw;(try dsimp only at hSw);obtain⟨q0,q1⟩:=CELL.out w hSw;go_simp;try with_reducible rfl
     simp only[aK,aL,aze,asu];refine wpAnyH_ready (rs:=[4]) (by kernel_rfl) (by simp) ?_;refine AllReadyH.cons rfl (fun K hK=> ?_) AllReadyH.nil;go_simp;refine(HFr.out _ hHeld).mono ?_;rintro e u1 ⟨x,rfl,hx,hU1⟩;dsimp only;have MQ:Later wb u1:=Later.trans hHeld hU1;refine hK.out _ _ MQ (fun hHeld=> ?_);clear hK K;refine wpAnyH_ready (rs:=[6]) (by kernel_rfl) (by simp) ?_;refine AllReadyH.cons rfl (fun K hK=> ?_) AllReadyH.nil;go_simp;refine(HIn.out _ x MQ hx).mono ?_;rintro e u2 ⟨rfl,hU2⟩;dsimp only;have Qr:Later wb u2:=MQ.trans hU2;refine hK.out _ _ Qr (fun hHeld=> ?_);clear hK K;refine ak (i:=7) (d:=some 34) (v:= ?_) rfl rfl hHeld ?_ ?_;rotate_left;focus intro w hSw;(try dsimp only at hSw);go_simp;try with_reducible rfl
     simp only[aK,aL,aze,asu];refine wpAnyH_done (by kernel_rfl) ?_ _;have HLu:=hide (hLb.trans Qr);cases bb
     ·have HS3:Hid (R=barredB pick (j+1) (body.drop (j+1)) l):=by show _=_;rw[HS2.out];rfl
      clear HS2;go_wp2
      go_roundg (body.length- (j+1))
      case measure=>omega
      case rel=>exact⟨j+1,by omega,by go_num,HS3,HLu⟩
     ·have HS3:Hid (R=true):=by show _=_;rw[HS2.out];rfl
      clear HS2;go_wp2;go_ret;exact⟨by rw[HS3.out];rfl,HLu.out⟩
  ·have HS3:Hid (R=false):=by show _=_;rw[HE.out,List.drop_eq_nil_of_le (by omega)];rfl
   clear HE;go_wp2;go_ret;exact⟨by rw[HS3.out];rfl,HL.out⟩
theorem AJ:∀args w,(callFunc 160 args).run Tryz.prog w=.ok (.enter 160 args) w:=enters_of Tryz.func160 (by kernel_rfl) rfl
def Tx (g:Nat) (cb:Array Value) (p:List aB→Bool) (n:Nat) (w0:World):Prop:=∀(W:World) (u:Value) (l:List aB),Below n w0 W→bq.sl bg W u l→
 Calls Tryz.prog g (#[u]++cb) W fun e w'=>e=.returned (.bool (p l))∧Later W w'
set_option maxHeartbeats 1000000 in
theorem Qt (cB cF:Nat) (body:List aI) (v:Value) (g:Nat) (cb:Array Value) (eg:∀args w,(callFunc g args).run Tryz.prog w=.ok (.enter g args) w) (pick:Nat→List aO) (n:Nat) (w0:World) (hv:bP.sl bg w0 v body) (hp:Av g cb pick n w0) (hb:body.length≤5) (hr:∀n,fT (pick n))
  (h0:w0.cell? ⟨cB,0,none⟩=some v) (h1:w0.cell? ⟨cF,0,none⟩=some (.func (.func g) #[] cb)) (b0:cB<n) (b1:cF<n) (hn:n=w0.heap.size):
  Tx 160 #[.pointer (some ⟨cB,0,none⟩),.pointer (some ⟨cF,0,none⟩)] (barredB pick 0 body) n w0:=by
 intro W u l hW hu;have hW':Below w0.heap.size w0 W:=by rw[←hn];exact hW
 have hs:n≤W.heap.size:=by have:=hW.size;omega
 have z0:W.cell? ⟨cB,0,none⟩=some v:=by rw[hW.cell b0];exact h0
 have z1:W.cell? ⟨cF,0,none⟩=some (.func (.func g) #[] cb):=by rw[hW.cell b1];exact h1
 have s0:cB<W.heap.size:=by omega
 have s1:cF<W.heap.size:=by omega
 have HC:=hide (NT body v u l g cb eg pick W (Kind.aF hv hW') hu (hp.below hW hs) hb hr);obtain⟨a,cap,rfl⟩:=Kind.slice hv;obtain⟨ua,Tw,rfl⟩:=Kind.slice hu;clear hv hu hp hr h0 h1 hW' hW;generalize barredB pick 0 body l=bb at*;show Calls _ _ #[.slice ua l.length Tw,.pointer (some ⟨cB,0,none⟩),.pointer (some ⟨cF,0,none⟩)] _ _
 go_enter Tryz.func160,Tryz.ntmps160
 go_wp2_with (go_at_call 161;refine HC.out.mono ?_;rintro e w2 ⟨rfl,hL2⟩;replace hL2:=hide hL2)
 go_ret;exact⟨rfl,bL hL2⟩
end Go.Proofs.YtafmbokfkbccaaaGreatDoor
