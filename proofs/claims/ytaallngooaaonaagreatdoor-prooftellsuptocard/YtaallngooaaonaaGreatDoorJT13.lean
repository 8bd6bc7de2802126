import Derived.Test.YtaallngooaaonaaGreatDoorJT6
import Derived.Test.YtaallngooaaonaaGreatDoorJT2
import Derived.Shelf.SlSortCmp.QuietGrown
import Derived.Deep.RegionWith
import Derived.Laws.EntriesVeiled
import Derived.Test.YtaallngooaaonaaGreatDoorJT12
open Go.RowKit Go.Sort Go.Maps
set_option maxHeartbeats 4000000
set_option maxRecDepth 100000
namespace Go.Proofs.YtaallngooaaonaaGreatDoor
theorem mixed:Tryz.prog.follows .mixedOrders=true:=by kernel_rfl
theorem Facts.grown {w:World} {b off n cap:Nat} {l:List aN} (h:Facts w (.slice (some ⟨b,off,none⟩) n cap) l) {k:Nat} (hk:k<l.length):
  ∃a len c,(∀q os,(grow (w.drewN q) os).cell? ⟨b,off+k*2,none⟩=some (.string (l.getD k aC).1))∧(∀q os,(grow (w.drewN q) os).cell? ⟨b,off+k*2+1,none⟩=some (.slice a len c))∧dD w (.agg #[.string (l.getD k aC).1,.slice a len c]) (l.getD k aC):=by
 obtain⟨hb,a,len,c,g1,g2,hf⟩:=h.at hk;exact⟨a,len,c,fun q os=>by rw[ak.cell ⟨q,os,rfl⟩ (p:=⟨b,off+k*2,none⟩) hb];exact g1,fun q os=>by rw[ak.cell ⟨q,os,rfl⟩ (p:=⟨b,off+k*2+1,none⟩) hb];exact g2,hf⟩
theorem qK {l:List aN} {f:aN}:dY l f 0=true↔f∈l:=by unfold dY;rw[List.drop_zero,List.any_eq_true];exact⟨fun⟨x,h1,h2⟩=>by rw[sN.1 h2] at h1;exact h1,fun h=>⟨f,h,sN.2 rfl⟩⟩
theorem meet {l:List aN} {g:aN} (hr:fP l) {m:Nat} (hm:m≤l.length) (ha:∀t,t<m→fO (l.getD t aC) g<0) (hb:∀t,m≤t→t<l.length→0≤fO (l.getD t aC) g):
  dY l g 0=(decide (m<l.length)&&decide (fO (l.getD m aC) g=0)):=by
 rw[Bool.eq_iff_iff,qK,Bool.and_eq_true,decide_eq_true_eq,decide_eq_true_eq]
 constructor
 ·intro h;obtain⟨t,ht,rfl⟩:=List.getElem_of_mem h;have e:l.getD t aC=l[t]:=by rw[List.getD_eq_getElem?_getD,List.getElem?_eq_getElem ht];rfl
  have h1:m≤t:=Nat.not_lt.1 fun n=>by have:=ha t n;rw[e,aW.refl] at this;omega
  have h2:m=t:=by refine Classical.byContradiction fun n=>?_;have h3:=List.pairwise_iff_getElem.1 hr m t (by omega) ht (by omega);have h4:=hb m (Nat.le_refl _) (by omega);rw[List.getD_eq_getElem?_getD,List.getElem?_eq_getElem (by omega)] at h4;have h5:(0:Int)≤fO l[m] l[t]:=h4;omega
  subst h2;exact⟨ht,by rw[e,aW.refl]⟩
 rintro⟨h1,h2⟩;rw[←aW.zero _ _ h2,List.getD_eq_getElem?_getD,List.getElem?_eq_getElem h1];exact List.getElem_mem h1
theorem yR {x:Value} {a b:Bool} (h:a=b):Ending.returned (.tuple #[x,.bool a])=.returned (.tuple #[x,.bool b]):=by rw[h]
theorem cell_later {w w':World} (hL:ak w w') {p:Addr} {v:Value} (hb:p.block<w.heap.size) (h:w.cell? p=some v):∀q os,(grow (w'.drewN q) os).cell? p=some v:=fun q os=>by rw[(hL.trans ⟨q,os,rfl⟩).cell hb];exact h
theorem search (v t:Value) (l:List aN) (g:aN) (w:World) (hf:Facts w v l) (ht:dD w t g) (hr:fP l):
  Calls Tryz.prog 67 #[v,t,.func (.func 68) #[] #[]] w fun e w'=>∃n:Int,e=.returned (.tuple #[.int .i64 n,.bool (dY l g 0)])∧ak w w':=by
 have mx:=mixed;have HF:=au hf;have HT:=au ht;have HR:=au hr;obtain⟨a,cap,rfl,hn,hz⟩:=hf.addr;obtain⟨s2,rfl,l2,a2,c2,rfl,_⟩:=ht;clear hf hr
 go_enter Tryz.func67,Tryz.ntmps67
 go_wp2
 go_loopw [9,10] (fun i j wr=>∃lo hi:Nat,lo≤hi∧hi≤l.length∧i=.int .i64 lo∧j=.int .i64 hi∧ak (w.alloc (.cells #[.string g.1,.slice a2 g.2.length c2] 27)) wr∧Hid (∀t,t<lo→fO (l.getD t aC) g<0)∧Hid (∀t,hi≤t→t<l.length→0≤fO (l.getD t aC) g)) (fun i j _=>(intOf j).toNat- (intOf i).toNat)
 case atStart=>exact⟨0,l.length,by omega,by omega,rfl,rfl,ak.refl _,fun t ht=>absurd ht (Nat.not_lt_zero _),fun t h1 h2=>by omega⟩
 obtain⟨lo,hi,hlh,hin,rfl,rfl,hL,HA,HB⟩:=hrel;have hL0:ak w wr:=((ak.refl _).alloc _).trans hL;have z0:=cell_later hL (p:=⟨w.heap.size,0,none⟩) (v:=.string g.1) (by simp) (by simp);have z1:=cell_later hL (p:=⟨w.heap.size,1,none⟩) (v:=.slice a2 g.2.length c2) (by simp) (by simp)
 by_cases hlt:lo<hi
 ·rcases hz with rfl|⟨b,off,rfl⟩;·simp at hin;omega
  obtain⟨m,hm⟩:∃m,m=(lo+hi)/2:=⟨_,rfl⟩;have hml:m<l.length:=by omega
  have hlm:lo≤m:=by omega
  have hmh:m<hi:=by omega
  have em:((lo:Int)+(hi:Int))/2=(m:Int):=by omega
  clear hm;have hltz:(lo:Int)<(hi:Int):=by omega
  have hmz:(m:Int)<(l.length:Int):=by omega
  obtain⟨ax,lx,cx,g1,g2,fx⟩:=(HF.out.later hL0).grown hml;have hC:∀q os,Calls Tryz.prog 68 #[.agg #[.string (l.getD m aC).1,.slice ax lx cx],.agg #[.string g.1,.slice a2 g.2.length c2]] (grow (wr.drewN q) os) fun e w''=>e=.returned (.int .i64 (fO (l.getD m aC) g))∧ak (grow (wr.drewN q) os) w'':=
   fun q os=>kQ _ _ _ _ _ (fx.later ⟨q,os,rfl⟩) ((HT.out.later hL0).later ⟨q,os,rfl⟩)
  have HC:=au hC;clear hC fx;have hlow:=HR.out;have Am:fO (l.getD m aC) g<0→∀t,t<m+1→fO (l.getD t aC) g<0:=fun h t ht=>by
   by_cases e:t=m
   ·rw[e];exact h
   have h3:=List.pairwise_iff_getElem.1 hlow t m (by omega) hml (by omega);refine aW.trans _ (l.getD m aC) _ ?_ h;rw[List.getD_eq_getElem?_getD,List.getElem?_eq_getElem (by omega),List.getD_eq_getElem?_getD,List.getElem?_eq_getElem hml];exact h3
  have hstep2:0≤fO (l.getD m aC) g→∀t,m≤t→t<l.length→0≤fO (l.getD t aC) g:=fun h t h1 h2=>by
   by_cases e:t=m
   ·rw[e];exact h
   have h3:=List.pairwise_iff_getElem.1 hlow m t (by omega) h2 (by omega);refine Int.not_lt.1 fun n=>?_;have h4:=aW.trans (l.getD m aC) (l.getD t aC) g (by rw[List.getD_eq_getElem?_getD,List.getElem?_eq_getElem (by omega),List.getD_eq_getElem?_getD,List.getElem?_eq_getElem h2];exact h3) n
   omega
  have H1:=au Am;have H2:=au hstep2;clear Am hstep2 hlow;generalize hcm:fO (l.getD m aC) g=cm at*;have HCM:=au hcm;clear hcm;generalize(l.getD m aC).1=nm at*
  by_cases hneg:cm<0
  ·go_wp2
   go_quiet_grown ((go_at_call 68;exact Calls.grown_of (HC.out _ _)))
   go_wp2
   go_roundw
   case rel=>exact⟨m+1,hi,by omega,hin,by go_num,rfl,hL.trans ⟨_,_,rfl⟩,H1.out hneg,HB⟩
   case measure=>simp[intOf];omega
  go_wp2
  go_quiet_grown ((go_at_call 68;exact Calls.grown_of (HC.out _ _)))
  go_wp2
  go_roundw
  case rel=>exact⟨lo,m,by omega,by omega,rfl,rfl,hL.trans ⟨_,_,rfl⟩,HA,H2.out (by omega)⟩
  case measure=>simp[intOf];omega
 obtain rfl:lo=hi:=by omega
 have hfin:=meet HR.out hin HA.out HB.out
 by_cases hll:lo<l.length
 ·rcases hz with rfl|⟨b,off,rfl⟩;·simp at hll
  have hmz:(lo:Int)<(l.length:Int):=by omega
  obtain⟨ax,lx,cx,g1,g2,fx⟩:=(HF.out.later hL0).grown hll;have hC:∀q os,Calls Tryz.prog 68 #[.agg #[.string (l.getD lo aC).1,.slice ax lx cx],.agg #[.string g.1,.slice a2 g.2.length c2]] (grow (wr.drewN q) os) fun e w''=>e=.returned (.int .i64 (fO (l.getD lo aC) g))∧ak (grow (wr.drewN q) os) w'':=
   fun q os=>kQ _ _ _ _ _ (fx.later ⟨q,os,rfl⟩) ((HT.out.later hL0).later ⟨q,os,rfl⟩)
  have HC:=au hC;rw[decide_eq_true hll] at hfin;have HFN:=au hfin;clear hC fx hfin;generalize hcm:fO (l.getD lo aC) g=cm at*;generalize(l.getD lo aC).1=nm at*;have HCM:=au hcm;clear hcm;go_wp2
  go_quiet_grown ((go_at_call 68;exact Calls.grown_of (HC.out _ _)))
  go_wp2
  go_ret2
  exact⟨(lo:Int),yR (by rw[HFN.out,Bool.true_and,Bool.eq_iff_iff];simp),hL0.trans ⟨_,_,rfl⟩⟩
 rw[decide_eq_false hll] at hfin;have HFN:=au hfin;clear hfin;have hd:decide ((lo:Int)<(l.length:Int))=false:=by rw[decide_eq_false_iff_not];omega
 go_wp2
 go_quiet (fail)
 go_wp2
 go_ret2
 exact⟨(lo:Int),yR (by rw[HFN.out];rfl),hL0.drewN _⟩
theorem DF (l:List aN):∀k,k≤l.length→pick (fun _=>true) l k=l.take k
 |0,_=>by simp[pick]
 |k+1,h=>by simp only[pick,if_true];rw[DF l k (by omega),List.take_succ_eq_append_getElem (by omega),List.getD_eq_getElem?_getD,List.getElem?_eq_getElem (by omega)];rfl
theorem Yg (v:Value) (f:aN) (w:World) (h:dD w v f):Calls Tryz.prog 58 #[v] w fun e w'=>e=.returned (.bool true)∧ak w w':=by
 obtain⟨s,rfl,h0,a,cap,rfl,hc⟩:=h;clear hc
 go_enter Tryz.func58,Tryz.ntmps58
 go_wp2;go_ret;exact⟨rfl,(by repeat (first|exact ak.refl _|assumption|refine ak.drewN ?_ _|refine ak.drew ?_|refine ak.alloc ?_ _|refine ak.grow ?_ _))⟩
theorem Cc:∀args w,(callFunc 58 args).run Tryz.prog w=.ok (.enter 58 args) w:=enters_of Tryz.func58 (by kernel_rfl) rfl
theorem EY:∀args w,(callFunc 174 args).run Tryz.prog w=.ok (.enter 174 args) w:=enters_of Tryz.func174 (by kernel_rfl) rfl
theorem Ao:∀args w,(callFunc 148 args).run Tryz.prog w=.ok (.enter 148 args) w:=enters_of Tryz.func148 (by kernel_rfl) rfl
theorem Yh (v:Value) (l:List aN) (w:World) (h:Facts w v l):Calls Tryz.prog 29 #[v] w fun e w'=>∃v',e=.returned v'∧kE w' w.heap.size v' l∧ak w w':=by
 have hk:=keep 58 #[] Cc w.heap.size w.heap.size w w v l (fun _=>true) (fun _ _=>True) h (ak.refl _) (Nat.le_refl _) (Nat.le_refl _)
  ⟨fun k w' v' _ hL _ _ hf=>(Yg v' _ w' (hf.later hL)).mono fun e w'' ⟨he,hw⟩=>⟨he,hw.only,trivial⟩,fun _ _ _ _ _ _=>trivial⟩ trivial
 rw[DF l l.length (Nat.le_refl _),List.take_length] at hk;obtain⟨a,cap,rfl⟩:=aF h;have HK:=au hk;clear hk h
 go_enter Tryz.func29,Tryz.ntmps29
 go_wp2_with (go_at_call 57;refine HK.out.mono ?_;rintro e w' ⟨v',rfl,ho,hO,_⟩)
 go_ret;exact⟨v',rfl,ho,hO.later (ak.refl _) (Nat.le_refl _)⟩
def xk (w:World) (lo:Nat) (n:ByteArray) (s:Value) (b:Bool):Prop:=
 w.heap[lo]?=some (.cells #[.string n,s] 27 (0,0))∧w.heap[lo+1]?=some (.cells #[.bool b] 4 (0,0))
theorem EZ (w:World):Calls Tryz.prog 161 #[] w fun e w'=>
  e=.returned (.func (.func 174) #[] #[.pointer (some ⟨w.heap.size+1,0,none⟩),.pointer (some ⟨w.heap.size,0,none⟩)])∧ak w w'∧w'.heap.size=w.heap.size+2∧xk w' w.heap.size ByteArray.empty (.slice none 0 0) false:=by
 go_enter Tryz.func161,Tryz.ntmps161
 go_wp2;go_ret;refine⟨rfl,(by repeat (first|exact ak.refl _|assumption|refine ak.drewN ?_ _|refine ak.drew ?_|refine ak.alloc ?_ _|refine ak.grow ?_ _)),by simp,?_,?_⟩
 ·rw[Below.heap_alloc _ _ _ (by simp),heap_alloc_new];rfl
 have:=heap_alloc_new (w.alloc (.cells #[.string {data:=#[]},.slice none 0 0] 27)) (.cells #[.bool false] 4);simpa using this
theorem gU {w:World} {g j:Nat} {cs:Array Value} {t:TypeId} {fr:Nat×Nat} (h:w.heap[g]?=some (.cells cs t fr)) (u:Value):(w.setCell ⟨g,j,none⟩ u).heap[g]?=some (.cells (cs.setIfInBounds j u) t fr):=by simp[World.setCell,Array.getElem?_modify,h]
theorem frozen_of_row {w:World} {g:Nat} (j:Nat) {cs:Array Value} {t:TypeId} (h:w.heap[g]?=some (.cells cs t (0,0))):w.frozen? ⟨g,j,none⟩=false:=by simp[World.frozen?,h]
theorem tY {w w2:World} {lo:Nat} {n n':ByteArray} {s s':Value} {b:Bool} (hl:xk w lo n s b) (hL:ak w w2):
  Only lo (lo+2) w (((w2.setCell ⟨lo,0,none⟩ (.string n')).setCell ⟨lo,1,none⟩ s').setCell ⟨lo+1,0,none⟩ (.bool true))∧xk (((w2.setCell ⟨lo,0,none⟩ (.string n')).setCell ⟨lo,1,none⟩ s').setCell ⟨lo+1,0,none⟩ (.bool true)) lo n' s' true:=by
 have hb1:lo<w.heap.size:=(Array.getElem?_eq_some_iff.1 hl.1).1;have hb2:lo+1<w.heap.size:=(Array.getElem?_eq_some_iff.1 hl.2).1;have h1:w2.heap[lo]?=some (.cells #[.string n,s] 27 (0,0)):=by rw[hL.block hb1];exact hl.1
 have h2:w2.heap[lo+1]?=some (.cells #[.bool b] 4 (0,0)):=by rw[hL.block hb2];exact hl.2
 refine⟨⟨hL.below.os,hL.below.tape,hL.below.output,hL.drawn,by simpa[World.setCell] using hL.size,fun k hk ho=>?_⟩,?_,?_⟩;·rw[Below.heap_setCell _ _ _ _ (by show k≠lo+1;omega),Below.heap_setCell _ _ _ _ (by show k≠lo;omega),Below.heap_setCell _ _ _ _ (by show k≠lo;omega)];exact hL.block hk
 ·rw[Below.heap_setCell _ _ _ _ (by show lo≠lo+1;omega)];rw[gU (gU h1 _)]
  rfl
 rw[gU (by rw[Below.heap_setCell _ _ _ _ (by show lo+1≠lo;omega),Below.heap_setCell _ _ _ _ (by show lo+1≠lo;omega)];exact h2)]
 rfl
theorem tZ (lo:Nat) (w:World) (n:ByteArray) (s:Value) (v:Value) (f g:aN) (hl:xk w lo n s true) (hg:dD w (.agg #[.string n,s]) g) (hf:dD w v f):
  Calls Tryz.prog 174 #[v,.pointer (some ⟨lo+1,0,none⟩),.pointer (some ⟨lo,0,none⟩)] w fun e w'=>e=.returned (.bool (!decide (fO g f=0)))∧
   ∃w2,ak w w2∧∃s',v=.agg #[.string f.1,s']∧w'=((w2.setCell ⟨lo,0,none⟩ (.string f.1)).setCell ⟨lo,1,none⟩ s').setCell ⟨lo+1,0,none⟩ (.bool true):=by
 have hC:=fun w' (hw:ak w w')=>kQ _ _ g f w' (hg.later hw) (hf.later hw);have HC:=au hC;obtain⟨s1,rfl,h0,a,cap,rfl,hc⟩:=hf;obtain⟨s2,e2,l0,a2,cap2,rfl,hc2⟩:=hg;simp at e2;obtain⟨rfl,rfl⟩:=e2;clear hc hc2 hC;have hb1:lo<w.heap.size:=(Array.getElem?_eq_some_iff.1 hl.1).1;have hb2:lo+1<w.heap.size:=(Array.getElem?_eq_some_iff.1 hl.2).1;have c0:w.cell? ⟨lo,0,none⟩=some (.string g.1):=by rw[cell_of_row _ _ _ _ _ _ hl.1];rfl
 have c1:w.cell? ⟨lo,1,none⟩=some (.slice a2 g.2.length cap2):=by rw[cell_of_row _ _ _ _ _ _ hl.1];rfl
 have c2:w.cell? ⟨lo+1,0,none⟩=some (.bool true):=by rw[cell_of_row _ _ _ _ _ _ hl.2];rfl
 obtain⟨fn,fl⟩:=f;obtain⟨gn,gl⟩:=g;dsimp only at*
 go_enter Tryz.func174,Tryz.ntmps174
 go_wp2_with fail
 refine(HC.out _ ((ak.refl _).alloc _)).mono ?_;rintro e w2 ⟨rfl,hL⟩;have hL0:ak w w2:=((ak.refl _).alloc _).trans hL;have z0:w2.cell? ⟨w.heap.size,0,none⟩=some (.string fn):=by rw[hL.cell (by simp)];simp
 have z1:w2.cell? ⟨w.heap.size,1,none⟩=some (.slice a fl.length cap):=by rw[hL.cell (by simp)];simp
 have z2:w2.cell? ⟨lo,0,none⟩=some (.string gn):=by rw[hL0.cell hb1];exact c0
 have z3:w2.cell? ⟨lo,1,none⟩=some (.slice a2 gl.length cap2):=by rw[hL0.cell hb1];exact c1
 have z4:w2.cell? ⟨lo+1,0,none⟩=some (.bool true):=by rw[hL0.cell hb2];exact c2
 have y0:w2.frozen? ⟨lo,0,none⟩=false:=by rw[hL0.frozen hb1];exact frozen_of_row 0 hl.1
 have y1:w2.frozen? ⟨lo,1,none⟩=false:=by rw[hL0.frozen hb1];exact frozen_of_row 1 hl.1
 have y2:w2.frozen? ⟨lo+1,0,none⟩=false:=by rw[hL0.frozen hb2];exact frozen_of_row 0 hl.2
 go_wp2;go_ret;refine⟨bU ?_,w2,hL0,_,rfl,rfl⟩;rw[Bool.eq_iff_iff];simp
theorem vV (lo:Nat) (w:World) (n:ByteArray) (a2:Option Addr) (m2 cap2:Nat) (v:Value) (f:aN) (hl:xk w lo n (.slice a2 m2 cap2) false) (hf:dD w v f):
  Calls Tryz.prog 174 #[v,.pointer (some ⟨lo+1,0,none⟩),.pointer (some ⟨lo,0,none⟩)] w fun e w'=>e=.returned (.bool true)∧
   ∃w2,ak w w2∧∃s',v=.agg #[.string f.1,s']∧w'=((w2.setCell ⟨lo,0,none⟩ (.string f.1)).setCell ⟨lo,1,none⟩ s').setCell ⟨lo+1,0,none⟩ (.bool true):=by
 obtain⟨s1,rfl,h0,a,cap,rfl,hc⟩:=hf;clear hc;have hb1:lo<w.heap.size:=(Array.getElem?_eq_some_iff.1 hl.1).1;have hb2:lo+1<w.heap.size:=(Array.getElem?_eq_some_iff.1 hl.2).1;have z2:w.cell? ⟨lo,0,none⟩=some (.string n):=by rw[cell_of_row _ _ _ _ _ _ hl.1];rfl
 have z3:w.cell? ⟨lo,1,none⟩=some (.slice a2 m2 cap2):=by rw[cell_of_row _ _ _ _ _ _ hl.1];rfl
 have z4:w.cell? ⟨lo+1,0,none⟩=some (.bool false):=by rw[cell_of_row _ _ _ _ _ _ hl.2];rfl
 have y0:w.frozen? ⟨lo,0,none⟩=false:=frozen_of_row 0 hl.1;have y1:w.frozen? ⟨lo,1,none⟩=false:=frozen_of_row 1 hl.1;have y2:w.frozen? ⟨lo+1,0,none⟩=false:=frozen_of_row 0 hl.2;obtain⟨fn,fl⟩:=f;dsimp only at*
 go_enter Tryz.func174,Tryz.ntmps174
 go_wp2;go_ret;refine⟨rfl,w.alloc (.cells #[.string fn,.slice a fl.length cap] 27),(ak.refl _).alloc _,_,rfl,?_⟩;rw[World.setCell_alloc_past _ _ _ _ (by exact hb1),World.setCell_alloc_past _ _ _ _ (by simpa using hb1),World.setCell_alloc_past _ _ _ _ (by simpa using hb2)]
def Qf (w0:World) (lo:Nat) (l:List aN) (k:Nat) (w:World):Prop:=
 ∃n a m c,xk w lo n (.slice a m c) (decide (0<k))∧(0<k→dD w0 (.agg #[.string n,.slice a m c]) (l.getD (k-1) aC))
theorem KQ (w0:World) (l:List aN):
  PU 174 #[.pointer (some ⟨w0.heap.size+1,0,none⟩),.pointer (some ⟨w0.heap.size,0,none⟩)] w0.heap.size (w0.heap.size+2) w0 l (newP l) (Qf w0 w0.heap.size l) where
 ask k w' v hk hL _ hS hf:=by
  obtain⟨n,a,m,c,hl,hlast⟩:=hS
  by_cases h0:0<k
  ·rw[decide_eq_true h0] at hl;have e:newP l k= !decide (fO (l.getD (k-1) aC) (l.getD k aC)=0):=by simp[newP];omega
   rw[e];refine(tZ w0.heap.size w' n _ v (l.getD k aC) (l.getD (k-1) aC) hl ((hlast h0).later hL) (hf.later hL)).mono ?_;rintro e w'' ⟨rfl,w2,hL2,s',rfl,rfl⟩;have hst:=tY (n':=(l.getD k aC).1) (s':=s') hl hL2;obtain⟨s1,e1,hs1⟩:=hf;simp at e1;subst e1;obtain⟨a1,c1,rfl⟩:=bA hs1;exact⟨rfl,hst.1,_,a1,_,c1,by rw[decide_eq_true (Nat.succ_pos k)];exact hst.2,fun _=>⟨_,rfl,hs1⟩⟩
  have hk0:k=0:=by omega
  subst hk0;refine(vV w0.heap.size w' n a m c v (l.getD 0 aC) hl (hf.later hL)).mono ?_;rintro e w'' ⟨rfl,w2,hL2,s',rfl,rfl⟩;have hst:=tY (n':=(l.getD 0 aC).1) (s':=s') hl hL2;obtain⟨s1,e1,hs1⟩:=hf;simp at e1;subst e1;obtain⟨a1,c1,rfl⟩:=bA hs1;exact⟨rfl,hst.1,_,a1,_,c1,hst.2,fun _=>⟨_,rfl,hs1⟩⟩
 kept k w' w'' hS hb _:=by obtain⟨n,a,m,c,hl,hlast⟩:=hS;exact⟨n,a,m,c,⟨by rw[hb _ (by omega)];exact hl.1,by rw[hb _ (by omega)];exact hl.2⟩,hlast⟩
theorem among (a:Option Addr) (n cap:Nat) (w:World):Calls Tryz.prog 40 #[.slice a n cap] w fun e w'=>
  e=.returned (.func (.func 66) #[] #[.pointer (some ⟨w.heap.size,0,none⟩)])∧w'=w.alloc (.cells #[.slice a n cap] 24):=by
 go_enter Tryz.func40,Tryz.ntmps40
 go_wp2;go_ret;exact⟨rfl,rfl⟩
theorem ME (c:Nat) (v t:Value) (l:List aN) (g:aN) (w:World) (hc:w.cell? ⟨c,0,none⟩=some v) (hb:c<w.heap.size) (hf:Facts w v l) (ht:dD w t g) (hr:fP l):
  Calls Tryz.prog 66 #[t,.pointer (some ⟨c,0,none⟩)] w fun e w'=>e=.returned (.bool (dY l g 0))∧ak w w':=by
 have hS:=fun w' (hw:ak w w')=>search v t l g w' (hf.later hw) (ht.later hw) hr;have HS:=au hS;obtain⟨a,cap,rfl⟩:=aF hf;obtain⟨s2,rfl,l2,a2,c2,rfl,_⟩:=ht;clear hS hf hr
 go_enter Tryz.func66,Tryz.ntmps66
 go_wp2_with (go_at_call 67;refine(HS.out _ ((ak.refl _).alloc _)).mono ?_;rintro e w1 ⟨n,rfl,hL⟩)
 go_ret;exact⟨rfl,((ak.refl _).alloc _).trans hL⟩
theorem inC (v t:Value) (l:List aN) (g:aN) (w:World) (hf:Facts w v l) (ht:dD w t g) (hr:fP l):
  Calls Tryz.prog 20 #[v,t] w fun e w'=>e=.returned (.bool (dY l g 0))∧ak w w':=by
 have hA:=fun c w' hc hb (hw:ak w w')=>ME c v t l g w' hc hb (hf.later hw) (ht.later hw) hr;have HA:=au hA;obtain⟨a,cap,rfl⟩:=aF hf;obtain⟨s2,rfl,l2,a2,c2,rfl,_⟩:=ht;clear hA hf hr
 go_enter Tryz.func20,Tryz.ntmps20
 go_wp2
 go_region_with (first
  |(go_at_call 40;refine(among _ _ _ _).mono ?_;rintro e w1 ⟨rfl,rfl⟩)
  |(go_at_call 66;refine(HA.out (w.heap.size+1) _ (by simp) (by simp) (by repeat (first|exact ak.refl _|assumption|refine ak.drewN ?_ _|refine ak.drew ?_|refine ak.alloc ?_ _|refine ak.grow ?_ _))).mono ?_;rintro e w2 ⟨rfl,hL⟩))
 all_goals
  go_wp2;go_ret;exact⟨rfl,ak.trans (by repeat (first|exact ak.refl _|assumption|refine ak.drewN ?_ _|refine ak.drew ?_|refine ak.alloc ?_ _|refine ak.grow ?_ _)) hL⟩
theorem Tg (c d:Nat) (v t:Value) (l:List aN) (g:aN) (w:World) (hc:w.cell? ⟨c,0,none⟩=some v) (hb:c<w.heap.size) (hd:w.cell? ⟨d,0,none⟩=some (.func (.func 66) #[] #[.pointer (some ⟨c,0,none⟩)])) (hdb:d<w.heap.size) (hf:Facts w v l) (ht:dD w t g) (hr:fP l):
  Calls Tryz.prog 148 #[t,.pointer (some ⟨d,0,none⟩)] w fun e w'=>e=.returned (.bool (!dY l g 0))∧ak w w':=by
 have hA:=fun w' (hw:ak w w')=>ME c v t l g w' (by rw[hw.cell (p:=⟨c,0,none⟩) hb];exact hc) (Nat.lt_of_lt_of_le hb hw.size) (hf.later hw) (ht.later hw) hr;have HA:=au hA;obtain⟨s2,rfl,l2,a2,c2,rfl,_⟩:=ht;clear hA hf hr hc;generalize dY l g 0=r at*
 go_enter Tryz.func148,Tryz.ntmps148
 go_wp2_with (go_at_call 66;refine(HA.out _ ((ak.refl _).alloc _)).mono ?_;rintro e w1 ⟨rfl,hL⟩)
 go_ret;exact⟨rfl,((ak.refl _).alloc _).trans hL⟩
theorem Ti (va vb:Value) (la lb:List aN) (w:World) (ha:Facts w va la) (hb:Facts w vb lb) (hr:fP lb):
  Calls Tryz.prog 129 #[va,vb] w fun e w'=>∃v',e=.returned v'∧kE w' w.heap.size v' (la.filter fun f=> !dY lb f 0)∧ak w w':=by
 have HA:=au ha;have HB:=au hb;have HR:=au hr;obtain⟨a1,c1,rfl⟩:=aF ha;obtain⟨a2,c2,rfl⟩:=aF hb;clear ha hb hr
 go_enter Tryz.func129,Tryz.ntmps129
 go_wp2_with (go_at_call 40;refine(among _ _ _ _).mono ?_;rintro e w1 ⟨rfl,rfl⟩)
 have hL:ak w ((w.alloc (.cells #[.slice a2 lb.length c2] 24)).alloc (.cells #[.func (.func 66) #[] #[.pointer (some ⟨w.heap.size,0,none⟩)]] 93)):=(by repeat (first|exact ak.refl _|assumption|refine ak.drewN ?_ _|refine ak.drew ?_|refine ak.alloc ?_ _|refine ak.grow ?_ _));have hz:w.heap.size+1<((w.alloc (.cells #[.slice a2 lb.length c2] 24)).alloc (.cells #[.func (.func 66) #[] #[.pointer (some ⟨w.heap.size,0,none⟩)]] 93)).heap.size:=by simp
 have y0:((w.alloc (.cells #[.slice a2 lb.length c2] 24)).alloc (.cells #[.func (.func 66) #[] #[.pointer (some ⟨w.heap.size,0,none⟩)]] 93)).cell? ⟨w.heap.size,0,none⟩=some (.slice a2 lb.length c2):=by simp
 have y1:((w.alloc (.cells #[.slice a2 lb.length c2] 24)).alloc (.cells #[.func (.func 66) #[] #[.pointer (some ⟨w.heap.size,0,none⟩)]] 93)).cell? ⟨w.heap.size+1,0,none⟩=some (.func (.func 66) #[] #[.pointer (some ⟨w.heap.size,0,none⟩)]):=by simp
 generalize((w.alloc (.cells #[.slice a2 lb.length c2] 24)).alloc (.cells #[.func (.func 66) #[] #[.pointer (some ⟨w.heap.size,0,none⟩)]] 93))=W at*;refine(keep 148 #[.pointer (some ⟨w.heap.size+1,0,none⟩)] Ao W.heap.size W.heap.size W W _ la (fun k=> !dY lb (la.getD k aC) 0) (fun _ _=>True) (HA.out.later hL) (ak.refl _) (Nat.le_refl _) (Nat.le_refl _)
  ⟨fun k w' t hk hw _ _ hf=>(Tg w.heap.size (w.heap.size+1) _ t lb (la.getD k aC) w' (by rw[hw.cell (p:=⟨w.heap.size,0,none⟩) (by show w.heap.size<_;omega)];exact y0) (by have:=hw.size;omega)
    (by rw[hw.cell (p:=⟨w.heap.size+1,0,none⟩) hz];exact y1) (by have:=hw.size;omega) ((HB.out.later hL).later hw) (hf.later hw) HR.out).mono fun e w'' ⟨he,hL'⟩=>⟨he,hL'.only,trivial⟩,
   fun _ _ _ _ _ _=>trivial⟩ trivial).mono ?_
 rintro e w1 ⟨v',rfl,hO,hW,_⟩;have e:=tq (fun f=> !dY lb f 0) la la.length (Nat.le_refl _);rw[List.take_length] at e;rw[e] at hO;have HO:=au hO;clear hO e;go_wp2;go_ret;exact⟨v',rfl,HO.out.base hL.size,hL.trans (hW.later (ak.refl _) (Nat.le_refl _))⟩
theorem qL (l:List aN) (f:aN):dY l f 0=inB l f:=by rw[Bool.eq_iff_iff,qK,dn]
def Il (fs:List aN) (a:aI) (l:List aD):Bool:=match bg a l with
 |some f=>inB fs f
 |none=>false
theorem Ap {pick:Nat→List aA} {body:List aI} {j:Nat} {a:aI} (h:body[j]?=some a) (l:List aD):barredB pick j (body.drop j) l=((a.no&&Il (pick j) a l)||barredB pick (j+1) (body.drop (j+1)) l):=by obtain⟨h1,e1⟩:=List.getElem?_eq_some_iff.1 h;rw[List.drop_eq_getElem_cons h1,e1];rfl
theorem Ny (body:List aI) (v u:Value) (l:List aD) (g:Nat) (cb:Array Value) (eg:∀args w,(callFunc g args).run Tryz.prog w=.ok (.enter g args) w) (pick:Nat→List aN) (w:World) (hv:bN.sl bf w v body) (hu:bq.sl bf w u l) (hp:Ak g cb pick w.heap.size w) (hb:body.length≤5) (hr:∀n,fP (pick n)):
  Calls Tryz.prog 158 #[v,.func (.func g) #[] cb,u] w fun e w'=>e=.returned (.bool (barredB pick 0 body l))∧ak w w':=by
 obtain⟨sa,cap,rfl⟩:=aB.slice hv;obtain⟨ua,Tj,rfl⟩:=aB.slice hu;have HV:=au hv;have HU:=au hu;have HP:=au hp;have HR:=au hr;clear hv hu hp hr;generalize hR:barredB pick 0 body l=R at*;have H0:Hid (R=barredB pick 0 (body.drop 0) l):=hR.symm;clear hR
 go_enter Tryz.func158,Tryz.ntmps158
 go_wp2
 go_loopg [13] body.length (fun gg i wr=>∃j:Nat,j+gg=body.length∧i=.int .i64 j∧Hid (R=barredB pick j (body.drop j) l)∧Hid (ak w wr))
 case atStart=>exact⟨0,by omega,rfl,H0,((by repeat (first|exact ak.refl _|assumption|refine ak.drewN ?_ _|refine ak.drew ?_|refine ak.alloc ?_ _|refine ak.grow ?_ _)):ak _ _)⟩
 obtain⟨j,hj,rfl,HE,HL⟩:=hrel
 by_cases hlt:j<body.length
 ·obtain⟨a,hx⟩:∃x,body[j]?=some x:=⟨_,List.getElem?_eq_getElem hlt⟩;obtain⟨b1,o1,_,rfl,hb1,⟨sv,rfl,hsv⟩,hc⟩:=aB.bO HV.out hx;have d0:wr.cell? ⟨b1,o1+j*3,none⟩=some (.bool a.no):=by rw[HL.out.cell hb1];exact hc 0 _ rfl
  have d1:wr.cell? ⟨b1,o1+j*3+1,none⟩=some (.string (bs a.name)):=by rw[HL.out.cell hb1];exact hc 1 _ rfl
  have d2:wr.cell? ⟨b1,o1+j*3+2,none⟩=some sv:=by rw[HL.out.cell hb1];exact hc 2 _ rfl
  have hbr:b1<wr.heap.size:=Nat.lt_of_lt_of_le hb1 HL.out.size;have HS:=au (Ap (pick:=pick) hx l);obtain⟨sva,svc,rfl⟩:=aB.slice hsv;have HSV:=au hsv;clear hc hx hsv;cases hno:a.no
  ·have HS1:Hid (R=barredB pick (j+1) (body.drop (j+1)) l):=by
    show _=_;rw[HE.out,HS.out,hno];rfl
   rw[hno] at d0;clear HE HS hno;generalize bs a.name=nm at*;go_wp2
   go_roundg (body.length- (j+1))
   case measure=>omega
   case rel=>exact⟨j+1,by omega,by go_num,HS1,HL.out.alloc _⟩
  have HS1:Hid (R=(Il (pick j) a l||barredB pick (j+1) (body.drop (j+1)) l)):=by show _=_;rw[HE.out,HS.out,hno];rfl
  rw[hno] at d0;have hLt:ak w (wr.alloc (.cells #[.bool true,.string (bs a.name),.slice sva a.terms.length svc] 79)):=HL.out.alloc _;have HFc:=au (Ni a _ (.slice ua l.length Tj) l (wr.alloc (.cells #[.bool true,.string (bs a.name),.slice sva a.terms.length svc] 79)) (aB.aK HSV.out hLt) (aB.aK HU.out hLt));rw[hno] at HFc;have hbo:Il (pick j) a l=match bg a l with|some f=>inB (pick j) f|none=>false:=rfl
  unfold filled at HFc;have HLt:=au hLt;clear HE HS hLt hno;cases hf:bg a l with
  |none=>
   rw[hf] at HFc hbo;have HS2:Hid (R=barredB pick (j+1) (body.drop (j+1)) l):=by show _=_;rw[HS1.out,hbo];rfl
   simp only[Option.isSome_none,Option.getD_none] at HFc;clear HS1 hbo hf;generalize bs a.name=nm at*
   go_wp2_with fail
   refine HFc.out.mono ?_;rintro e w2 ⟨fv,rfl,hfv,hL2⟩;obtain⟨s,rfl,hs⟩:=hfv;obtain⟨sA,sC,rfl⟩:=bA hs;have HL2:=au (HLt.out.trans hL2);clear hs hL2 HFc;go_wp2;refine wp_region_held_drew (S:=fun w'=>ak w w') (by kernel_rfl) ((HL2.out.alloc _).drew) (fun hHeld=>?_);refine tkY 0 27 hHeld ?_;refine tkY 1 28 hHeld ?_;refine tkN 2 29 hHeld ?_;refine tkN 3 30 hHeld ?_;refine tkN 4 31 hHeld ?_;refine tkN 5 32 hHeld ?_;refine tkN 6 33 hHeld ?_;refine tkY 7 34 hHeld ?_;refine wpAnyH_done (by kernel_rfl) ?_ _;go_wp2
   go_roundg (body.length- (j+1))
   case measure=>omega
   case rel=>exact⟨j+1,by omega,by go_num,HS2,hHeld⟩
  |some f=>
   rw[hf] at HFc hbo;have HS2:Hid (R=(dY (pick j) f 0||barredB pick (j+1) (body.drop (j+1)) l)):=by show _=_;rw[HS1.out,hbo,qL]
   simp only[Option.isSome_some,Option.getD_some] at HFc;clear HS1 hbo hf;generalize bs a.name=nm at*
   go_wp2_with fail
   refine HFc.out.mono ?_;rintro e w2 ⟨fv,rfl,hfv,hL2⟩;have HFV:=au hfv;obtain⟨s,rfl,hs⟩:=hfv;obtain⟨sA,sC,rfl⟩:=bA hs;have HL2:=au (HLt.out.trans hL2);obtain⟨fn,aH⟩:=f;dsimp only at*;obtain⟨wb,hwb⟩:∃wb,wb=w2.alloc (.cells #[.string fn,.slice sA aH.length sC] 27):=⟨_,rfl⟩;have hLb:ak w wb:=by rw[hwb];exact HL2.out.alloc _
   have hFb:dD wb (.agg #[.string fn,.slice sA aH.length sC]) (fn,aH):=by rw[hwb];exact HFV.out.later ((ak.refl _).alloc _)
   have z:wb.cell? ⟨w2.heap.size,0,none⟩=some (.string fn)∧wb.cell? ⟨w2.heap.size,1,none⟩=some (.slice sA aH.length sC):=by rw[hwb];simp
   have hsb:w2.heap.size<wb.heap.size:=by rw[hwb];simp
   have CELL:Hid (∀w',ak wb w'→w'.cell? ⟨w2.heap.size,0,none⟩=some (.string fn)∧w'.cell? ⟨w2.heap.size,1,none⟩=some (.slice sA aH.length sC)):=fun w' hL=>
    ⟨by rw[hL.cell hsb];exact z.1,by rw[hL.cell hsb];exact z.2⟩
   have HFr:Hid (∀w',ak wb w'→Calls Tryz.prog g (#[.int .i64 j]++cb) w' fun e w2=>∃v,e=.returned v∧Facts w2 v (pick j)∧ak w' w2):=fun w' hL=>
    HP.out w' j (hLb.trans hL).below (by omega)
   have HIn:Hid (∀w' x,ak wb w'→Facts w' x (pick j)→Calls Tryz.prog 20 #[x,.agg #[.string fn,.slice sA aH.length sC]] w' fun e w3=>e=.returned (.bool (dY (pick j) (fn,aH) 0))∧ak w' w3):=fun w' x hL hx=>
    inC x _ (pick j) (fn,aH) w' hx (hFb.later hL) (HR.out j)
   have HWB:=au hwb;clear hs hL2 HFc hwb z hsb HFV hFb;go_wp2;rw[←HWB.out];generalize dY (pick j) (fn,aH) 0=bb at*;refine wp_region_held_drew (S:=fun w'=>ak wb w') (by kernel_rfl) (ak.refl _).drew (fun hHeld=>?_);refine tkY 0 27 hHeld ?_;refine tkY 1 28 hHeld ?_;refine tkY 2 29 hHeld ?_;refine tkY 3 30 hHeld ?_;refine tkY 5 32 hHeld ?_ rfl fun w hSw=>by obtain⟨q0,q1⟩:=CELL.out w hSw;go_simp;try with_reducible rfl
   refine tkC 4 fun K hK=>?_;go_simp;refine(HFr.out _ hHeld).mono ?_;rintro e u1 ⟨x,rfl,hx,hU1⟩;dsimp only;have MC:ak wb u1:=ak.trans hHeld hU1;refine hK.out _ _ MC (fun hHeld=>?_);clear hK K;refine tkC 6 fun K hK=>?_;go_simp;refine(HIn.out _ x MC hx).mono ?_;rintro e u2 ⟨rfl,hU2⟩;dsimp only;have Qe:ak wb u2:=MC.trans hU2;refine hK.out _ _ Qe (fun hHeld=>?_);clear hK K;refine tkY 7 34 hHeld ?_;refine wpAnyH_done (by kernel_rfl) ?_ _;have HLu:=au (hLb.trans Qe);cases bb
   ·have HS3:Hid (R=barredB pick (j+1) (body.drop (j+1)) l):=by show _=_;rw[HS2.out];rfl
    clear HS2;go_wp2
    go_roundg (body.length- (j+1))
    case measure=>omega
    case rel=>exact⟨j+1,by omega,by go_num,HS3,HLu⟩
   have HS3:Hid (R=true):=by show _=_;rw[HS2.out];rfl
   clear HS2;go_wp2;go_ret;exact⟨by rw[HS3.out];rfl,HLu.out⟩
 have HS3:Hid (R=false):=by show _=_;rw[HE.out,List.drop_eq_nil_of_le (by omega)];rfl
 clear HE;go_wp2;go_ret;exact⟨by rw[HS3.out];rfl,HL.out⟩
theorem Aq:∀args w,(callFunc 157 args).run Tryz.prog w=.ok (.enter 157 args) w:=enters_of Tryz.func157 (by kernel_rfl) rfl
def Tk (g:Nat) (cb:Array Value) (p:List aD→Bool) (n:Nat) (w0:World):Prop:=∀(W:World) (u:Value) (l:List aD),Below n w0 W→bq.sl bf W u l→
 Calls Tryz.prog g (#[u]++cb) W fun e w'=>e=.returned (.bool (p l))∧ak W w'
theorem Qg (cB cF:Nat) (body:List aI) (v:Value) (g:Nat) (cb:Array Value) (eg:∀args w,(callFunc g args).run Tryz.prog w=.ok (.enter g args) w) (pick:Nat→List aN) (n:Nat) (w0:World) (hv:bN.sl bf w0 v body) (hp:Ak g cb pick n w0) (hb:body.length≤5) (hr:∀n,fP (pick n))
  (h0:w0.cell? ⟨cB,0,none⟩=some v) (h1:w0.cell? ⟨cF,0,none⟩=some (.func (.func g) #[] cb)) (b0:cB<n) (b1:cF<n) (hn:n=w0.heap.size):
  Tk 157 #[.pointer (some ⟨cB,0,none⟩),.pointer (some ⟨cF,0,none⟩)] (barredB pick 0 body) n w0:=by
 intro W u l hW hu;have hW':Below w0.heap.size w0 W:=by rw[←hn];exact hW
 have hs:n≤W.heap.size:=by have:=hW.size;omega
 have z0:W.cell? ⟨cB,0,none⟩=some v:=by rw[hW.cell b0];exact h0
 have z1:W.cell? ⟨cF,0,none⟩=some (.func (.func g) #[] cb):=by rw[hW.cell b1];exact h1
 have s0:cB<W.heap.size:=by omega
 have s1:cF<W.heap.size:=by omega
 have HC:=au (Ny body v u l g cb eg pick W (aB.aJ hv hW') hu (hp.below hW hs) hb hr);obtain⟨a,cap,rfl⟩:=aB.slice hv;obtain⟨ua,Tj,rfl⟩:=aB.slice hu;clear hv hu hp hr h0 h1 hW' hW;generalize barredB pick 0 body l=bb at*;show Calls _ _ #[.slice ua l.length Tj,.pointer (some ⟨cB,0,none⟩),.pointer (some ⟨cF,0,none⟩)] _ _
 go_enter Tryz.func157,Tryz.ntmps157
 go_wp2_with (go_at_call 158;refine HC.out.mono ?_;rintro e w2 ⟨rfl,hL2⟩;replace hL2:=au hL2)
 go_ret;exact⟨rfl,bK hL2⟩
end Go.Proofs.YtaallngooaaonaaGreatDoor
