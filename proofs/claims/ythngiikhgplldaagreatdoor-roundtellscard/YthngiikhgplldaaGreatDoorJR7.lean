import Derived.Test.YthngiikhgplldaaGreatDoorJR6
import Derived.Lib.SliceRun
import Derived.Shelf.SlSortCmp.WholeK
import Derived.Test.YthngiikhgplldaaGreatDoorProg
import Derived.Shelf.SlSortCmp.NoneTotal
open Go.RowKit Go.Sort Go.Shelf
set_option maxHeartbeats 1000000
set_option maxRecDepth 100000
namespace Go.Proofs.YthngiikhgplldaaGreatDoor
theorem yG (l:List aG):∀k,k≤l.length→pick (fun _=>true) l k=l.take k
 |0,_=>by simp[pick]
 |k+1,h=>by simp only[pick,if_true];rw[yG l k (by omega),List.take_succ_eq_append_getElem (by omega),List.getD_eq_getElem?_getD,List.getElem?_eq_getElem (by omega)];rfl
theorem Ls (v:Value) (f:aG) (w:World) (h:dh w v f):Calls Tryz.prog 33 #[v] w fun e w'=>e=.returned (.bool true)∧aj w w':=by
 obtain⟨s,rfl,h0,a,cap,rfl,hc⟩:=h;clear hc
 go_enter Tryz.func33,Tryz.ntmps33
 go_wp2;go_ret;exact⟨rfl,(by repeat (first|exact aj.refl _|assumption|refine aj.drewN ?_ _|refine aj.drew ?_|refine aj.alloc ?_ _|refine aj.grow ?_ _))⟩
theorem xA:∀args w,(callFunc 33 args).run Tryz.prog w=.ok (.enter 33 args) w:=enters_of Tryz.func33 (by kernel_rfl) rfl
theorem zF:∀args w,(callFunc 117 args).run Tryz.prog w=.ok (.enter 117 args) w:=enters_of Tryz.func117 (by kernel_rfl) rfl
theorem vG:∀args w,(callFunc 62 args).run Tryz.prog w=.ok (.enter 62 args) w:=enters_of Tryz.func62 (by kernel_rfl) rfl
theorem GL (v:Value) (l:List aG) (w:World) (h:Facts w v l):Calls Tryz.prog 14 #[v] w fun e w'=>∃v',e=.returned v'∧dR w' w.heap.size v' l∧aj w w':=by
 have hk:=keep 33 #[] xA w.heap.size w.heap.size w w v l (fun _=>true) (fun _ _=>True) h (aj.refl _) (Nat.le_refl _) (Nat.le_refl _)
  ⟨fun k w' v' _ hL _ _ hf=>(Ls v' _ w' (hf.later hL)).mono fun e w'' ⟨he,hw⟩=>⟨he,hw.only,trivial⟩,fun _ _ _ _ _ _=>trivial⟩ trivial
 rw[yG l l.length (Nat.le_refl _),List.take_length] at hk;obtain⟨a,cap,rfl⟩:=aC h;have HK:=au hk;clear hk h
 go_enter Tryz.func14,Tryz.ntmps14
 go_wp2_with (go_at_call 32;refine HK.out.mono ?_;rintro e w' ⟨v',rfl,ho,hO,_⟩)
 go_ret;exact⟨v',rfl,ho,hO.later (aj.refl _) (Nat.le_refl _)⟩
def rz (w:World) (lo:Nat) (n:ByteArray) (s:Value) (b:Bool):Prop:=
 w.heap[lo]?=some (.cells #[.string n,s] 50 (0,0))∧w.heap[lo+1]?=some (.cells #[.bool b] 4 (0,0))
theorem zG (w:World):Calls Tryz.prog 89 #[] w fun e w'=>
  e=.returned (.func (.func 117) #[] #[.pointer (some ⟨w.heap.size+1,0,none⟩),.pointer (some ⟨w.heap.size,0,none⟩)])∧aj w w'∧w'.heap.size=w.heap.size+2∧rz w' w.heap.size ByteArray.empty (.slice none 0 0) false:=by
 go_enter Tryz.func89,Tryz.ntmps89
 go_wp2;go_ret;refine⟨rfl,(by repeat (first|exact aj.refl _|assumption|refine aj.drewN ?_ _|refine aj.drew ?_|refine aj.alloc ?_ _|refine aj.grow ?_ _)),by simp,?_,?_⟩
 ·rw[Below.heap_alloc _ _ _ (by simp),heap_alloc_new];rfl
 have:=heap_alloc_new (w.alloc (.cells #[.string {data:=#[]},.slice none 0 0] 50)) (.cells #[.bool false] 4);simpa using this
theorem eY {w:World} {g j:Nat} {cs:Array Value} {t:TypeId} {fr:Nat×Nat} (h:w.heap[g]?=some (.cells cs t fr)) (u:Value):(w.setCell ⟨g,j,none⟩ u).heap[g]?=some (.cells (cs.setIfInBounds j u) t fr):=by simp[World.setCell,Array.getElem?_modify,h]
theorem frozen_of_row {w:World} {g:Nat} (j:Nat) {cs:Array Value} {t:TypeId} (h:w.heap[g]?=some (.cells cs t (0,0))):w.frozen? ⟨g,j,none⟩=false:=by simp[World.frozen?,h]
theorem o7 {w w2:World} {lo:Nat} {n n':ByteArray} {s s':Value} {b:Bool} (hl:rz w lo n s b) (hL:aj w w2):
  Only lo (lo+2) w (((w2.setCell ⟨lo,0,none⟩ (.string n')).setCell ⟨lo,1,none⟩ s').setCell ⟨lo+1,0,none⟩ (.bool true))∧rz (((w2.setCell ⟨lo,0,none⟩ (.string n')).setCell ⟨lo,1,none⟩ s').setCell ⟨lo+1,0,none⟩ (.bool true)) lo n' s' true:=by
 have hb1:lo<w.heap.size:=(Array.getElem?_eq_some_iff.1 hl.1).1;have hb2:lo+1<w.heap.size:=(Array.getElem?_eq_some_iff.1 hl.2).1;have h1:w2.heap[lo]?=some (.cells #[.string n,s] 50 (0,0)):=by rw[hL.block hb1];exact hl.1
 have h2:w2.heap[lo+1]?=some (.cells #[.bool b] 4 (0,0)):=by rw[hL.block hb2];exact hl.2
 refine⟨⟨hL.below.os,hL.below.tape,hL.below.output,hL.drawn,by simpa[World.setCell] using hL.size,fun k hk ho=>?_⟩,?_,?_⟩;·rw[Below.heap_setCell _ _ _ _ (by show k≠lo+1;omega),Below.heap_setCell _ _ _ _ (by show k≠lo;omega),Below.heap_setCell _ _ _ _ (by show k≠lo;omega)];exact hL.block hk
 ·rw[Below.heap_setCell _ _ _ _ (by show lo≠lo+1;omega)];rw[eY (eY h1 _)]
  rfl
 rw[eY (by rw[Below.heap_setCell _ _ _ _ (by show lo+1≠lo;omega),Below.heap_setCell _ _ _ _ (by show lo+1≠lo;omega)];exact h2)]
 rfl
theorem o8 (lo:Nat) (w:World) (n:ByteArray) (s:Value) (v:Value) (f g:aG) (hl:rz w lo n s true) (hg:dh w (.agg #[.string n,s]) g) (hf:dh w v f):
  Calls Tryz.prog 117 #[v,.pointer (some ⟨lo+1,0,none⟩),.pointer (some ⟨lo,0,none⟩)] w fun e w'=>e=.returned (.bool (!decide (fF g f=0)))∧
   ∃w2,aj w w2∧∃s',v=.agg #[.string f.1,s']∧w'=((w2.setCell ⟨lo,0,none⟩ (.string f.1)).setCell ⟨lo,1,none⟩ s').setCell ⟨lo+1,0,none⟩ (.bool true):=by
 have hC:=fun w' (hw:aj w w')=>lX _ _ g f w' (hg.later hw) (hf.later hw);have HC:=au hC;obtain⟨s1,rfl,h0,a,cap,rfl,hc⟩:=hf;obtain⟨s2,e2,l0,a2,cap2,rfl,hc2⟩:=hg;simp at e2;obtain⟨rfl,rfl⟩:=e2;clear hc hc2 hC;have hb1:lo<w.heap.size:=(Array.getElem?_eq_some_iff.1 hl.1).1;have hb2:lo+1<w.heap.size:=(Array.getElem?_eq_some_iff.1 hl.2).1;have c0:w.cell? ⟨lo,0,none⟩=some (.string g.1):=by rw[cell_of_row _ _ _ _ _ _ hl.1];rfl
 have c1:w.cell? ⟨lo,1,none⟩=some (.slice a2 g.2.length cap2):=by rw[cell_of_row _ _ _ _ _ _ hl.1];rfl
 have c2:w.cell? ⟨lo+1,0,none⟩=some (.bool true):=by rw[cell_of_row _ _ _ _ _ _ hl.2];rfl
 obtain⟨fn,fl⟩:=f;obtain⟨gn,gl⟩:=g;dsimp only at*
 go_enter Tryz.func117,Tryz.ntmps117
 go_wp2_with fail
 refine(HC.out _ ((aj.refl _).alloc _)).mono ?_;rintro e w2 ⟨rfl,hL⟩;have hL0:aj w w2:=((aj.refl _).alloc _).trans hL;have z0:w2.cell? ⟨w.heap.size,0,none⟩=some (.string fn):=by rw[hL.cell (by simp)];simp
 have z1:w2.cell? ⟨w.heap.size,1,none⟩=some (.slice a fl.length cap):=by rw[hL.cell (by simp)];simp
 have z2:w2.cell? ⟨lo,0,none⟩=some (.string gn):=by rw[hL0.cell hb1];exact c0
 have z3:w2.cell? ⟨lo,1,none⟩=some (.slice a2 gl.length cap2):=by rw[hL0.cell hb1];exact c1
 have z4:w2.cell? ⟨lo+1,0,none⟩=some (.bool true):=by rw[hL0.cell hb2];exact c2
 have y0:w2.frozen? ⟨lo,0,none⟩=false:=by rw[hL0.frozen hb1];exact frozen_of_row 0 hl.1
 have y1:w2.frozen? ⟨lo,1,none⟩=false:=by rw[hL0.frozen hb1];exact frozen_of_row 1 hl.1
 have y2:w2.frozen? ⟨lo+1,0,none⟩=false:=by rw[hL0.frozen hb2];exact frozen_of_row 0 hl.2
 go_wp2;go_ret;refine⟨bB ?_,w2,hL0,_,rfl,rfl⟩;rw[Bool.eq_iff_iff];simp
theorem qH (lo:Nat) (w:World) (n:ByteArray) (a2:Option Addr) (m2 cap2:Nat) (v:Value) (f:aG) (hl:rz w lo n (.slice a2 m2 cap2) false) (hf:dh w v f):
  Calls Tryz.prog 117 #[v,.pointer (some ⟨lo+1,0,none⟩),.pointer (some ⟨lo,0,none⟩)] w fun e w'=>e=.returned (.bool true)∧
   ∃w2,aj w w2∧∃s',v=.agg #[.string f.1,s']∧w'=((w2.setCell ⟨lo,0,none⟩ (.string f.1)).setCell ⟨lo,1,none⟩ s').setCell ⟨lo+1,0,none⟩ (.bool true):=by
 obtain⟨s1,rfl,h0,a,cap,rfl,hc⟩:=hf;clear hc;have hb1:lo<w.heap.size:=(Array.getElem?_eq_some_iff.1 hl.1).1;have hb2:lo+1<w.heap.size:=(Array.getElem?_eq_some_iff.1 hl.2).1;have z2:w.cell? ⟨lo,0,none⟩=some (.string n):=by rw[cell_of_row _ _ _ _ _ _ hl.1];rfl
 have z3:w.cell? ⟨lo,1,none⟩=some (.slice a2 m2 cap2):=by rw[cell_of_row _ _ _ _ _ _ hl.1];rfl
 have z4:w.cell? ⟨lo+1,0,none⟩=some (.bool false):=by rw[cell_of_row _ _ _ _ _ _ hl.2];rfl
 have y0:w.frozen? ⟨lo,0,none⟩=false:=frozen_of_row 0 hl.1;have y1:w.frozen? ⟨lo,1,none⟩=false:=frozen_of_row 1 hl.1;have y2:w.frozen? ⟨lo+1,0,none⟩=false:=frozen_of_row 0 hl.2;obtain⟨fn,fl⟩:=f;dsimp only at*
 go_enter Tryz.func117,Tryz.ntmps117
 go_wp2;go_ret;refine⟨rfl,w.alloc (.cells #[.string fn,.slice a fl.length cap] 50),(aj.refl _).alloc _,_,rfl,?_⟩;rw[World.setCell_alloc_past _ _ _ _ (by exact hb1),World.setCell_alloc_past _ _ _ _ (by simpa using hb1),World.setCell_alloc_past _ _ _ _ (by simpa using hb2)]
def GN (w0:World) (lo:Nat) (l:List aG) (k:Nat) (w:World):Prop:=
 ∃n a m c,rz w lo n (.slice a m c) (decide (0<k))∧(0<k→dh w0 (.agg #[.string n,.slice a m c]) (l.getD (k-1) aA))
theorem Dp (w0:World) (l:List aG):
  GK 117 #[.pointer (some ⟨w0.heap.size+1,0,none⟩),.pointer (some ⟨w0.heap.size,0,none⟩)] w0.heap.size (w0.heap.size+2) w0 l (newP l) (GN w0 w0.heap.size l) where
 ask k w' v hk hL _ hS hf:=by
  obtain⟨n,a,m,c,hl,hlast⟩:=hS
  by_cases h0:0<k
  ·rw[decide_eq_true h0] at hl;have e:newP l k= !decide (fF (l.getD (k-1) aA) (l.getD k aA)=0):=by simp[newP];omega
   rw[e];refine(o8 w0.heap.size w' n _ v (l.getD k aA) (l.getD (k-1) aA) hl ((hlast h0).later hL) (hf.later hL)).mono ?_;rintro e w'' ⟨rfl,w2,hL2,s',rfl,rfl⟩;have hst:=o7 (n':=(l.getD k aA).1) (s':=s') hl hL2;obtain⟨s1,e1,hs1⟩:=hf;simp at e1;subst e1;obtain⟨a1,c1,rfl⟩:=bP hs1;exact⟨rfl,hst.1,_,a1,_,c1,by rw[decide_eq_true (Nat.succ_pos k)];exact hst.2,fun _=>⟨_,rfl,hs1⟩⟩
  have hk0:k=0:=by omega
  subst hk0;refine(qH w0.heap.size w' n a m c v (l.getD 0 aA) hl (hf.later hL)).mono ?_;rintro e w'' ⟨rfl,w2,hL2,s',rfl,rfl⟩;have hst:=o7 (n':=(l.getD 0 aA).1) (s':=s') hl hL2;obtain⟨s1,e1,hs1⟩:=hf;simp at e1;subst e1;obtain⟨a1,c1,rfl⟩:=bP hs1;exact⟨rfl,hst.1,_,a1,_,c1,hst.2,fun _=>⟨_,rfl,hs1⟩⟩
 kept k w' w'' hS hb _:=by obtain⟨n,a,m,c,hl,hlast⟩:=hS;exact⟨n,a,m,c,⟨by rw[hb _ (by omega)];exact hl.1,by rw[hb _ (by omega)];exact hl.2⟩,hlast⟩
theorem zH (b:Addr) (cap:Nat) (l:List aG) (w:World) (h:Facts w (.slice (some b) l.length cap) l):
  Calls Tryz.prog 158 #[.slice (some b) l.length cap] w fun e w'=>∃v',e=.returned v'∧iO w' w.heap.size v' l∧aj w w':=by
 have hnil:=fun w=>Lib.run_eql_slice_nil (P:=Tryz.prog) w 24 50 (some b) l.length cap 0 0 Tryz.underlying24;have h0:iO (w.alloc (.cells #[] 50)) w.heap.size (.slice (some ⟨w.heap.size,0,none⟩) 0 0) []:=
  ⟨[],World.ownsRow_made w #[] 0 (Nat.le_refl _) (by simp) (by simp),fun i hi=>by simp at hi⟩
 obtain⟨v',w',hrun,hR,hL,_⟩:=h0.append ((aj.refl w).alloc _) h (by have:=h.1;simpa using this);have HR:=au hrun;have HF:=au hR;clear hrun hR h0 h
 go_enter Tryz.func158,Tryz.ntmps158
 go_wp2_with (at_builtin;refine wpList_append_run rfl (.tmp 5) (.tmp 6) 24 rfl _ _ _ _ rfl rfl HR.out ?_)
 go_ret;exact⟨v',rfl,HF.out,hL⟩
theorem zI (n cap:Nat) (w:World):
  Calls Tryz.prog 158 #[.slice none n cap] w fun e w'=>e=.returned (.slice none 0 0)∧w'=w:=by
 have hnil:=fun w=>Lib.run_eql_slice_nil (P:=Tryz.prog) w 24 50 none n cap 0 0 Tryz.underlying24
 go_enter Tryz.func158,Tryz.ntmps158
 go_wp2;go_ret;exact⟨rfl,rfl⟩
theorem clone (v:Value) (l:List aG) (w:World) (h:Facts w v l):
  Calls Tryz.prog 158 #[v] w fun e w'=>∃v',e=.returned v'∧iO w' w.heap.size v' l∧aj w w':=by
 obtain⟨a,cap,rfl,hn,hz⟩:=h.addr;cases a with
 |some b=>exact zH b cap l w h
 |none=>
  rcases hz with rfl|⟨b,off,e⟩;·exact(zI _ cap w).mono fun e w' ⟨he,hw⟩=>⟨_,he,by rw[hw];exact⟨[],World.ownsRow_nil w _ _ _,fun i hi=>by simp at hi⟩,by rw[hw];exact aj.refl _⟩
  cases e
end Go.Proofs.YthngiikhgplldaaGreatDoor
section
namespace Go.Proofs
open Go.Shelf
def Tryz.sortFacts_ren:Go.Shelf.Ren:=⟨fun|6=>88|15=>116|14=>115|28=>147|29=>148|20=>139|21=>140|22=>141|23=>142|24=>143|25=>144|26=>145|27=>146|46=>165|47=>166|48=>167|49=>168|50=>169|57=>190|n=>n,fun|22=>24|24=>50|25=>95|3=>3|39=>136|0=>0|53=>183|55=>185|4=>4|46=>177|45=>176|50=>94|5=>5|9=>9|66=>208|70=>212|76=>226|77=>227|n=>n,fun|n=>n⟩
theorem Tryz.sortFacts:Go.Proofs.SlLaysF0.n6 Tryz.prog Tryz.sortFacts_ren:={
 mixed:=by kernel_rfl
 f6:=⟨Tryz.f88.name,by decide,Tryz.func88.trans (congrArg some (by kernel_rfl))⟩
 f14:=⟨Tryz.f115.name,by decide,Tryz.func115.trans (congrArg some (by kernel_rfl))⟩
 f15:=Tryz.func116.trans (congrArg some (by kernel_rfl))
 f20:=⟨Tryz.f139.name,by decide,Tryz.func139.trans (congrArg some (by kernel_rfl))⟩
 f21:=⟨Tryz.f140.name,by decide,Tryz.func140.trans (congrArg some (by kernel_rfl))⟩
 f22:=⟨Tryz.f141.name,by decide,Tryz.func141.trans (congrArg some (by kernel_rfl))⟩
 f23:=⟨Tryz.f142.name,by decide,Tryz.func142.trans (congrArg some (by kernel_rfl))⟩
 f24:=⟨Tryz.f143.name,by decide,Tryz.func143.trans (congrArg some (by kernel_rfl))⟩
 f25:=⟨Tryz.f144.name,by decide,Tryz.func144.trans (congrArg some (by kernel_rfl))⟩
 f26:=⟨Tryz.f145.name,by decide,Tryz.func145.trans (congrArg some (by kernel_rfl))⟩
 f27:=⟨Tryz.f146.name,by decide,Tryz.func146.trans (congrArg some (by kernel_rfl))⟩
 f28:=Tryz.func147.trans (congrArg some (by kernel_rfl))
 f29:=Tryz.func148.trans (congrArg some (by kernel_rfl))
 f46:=⟨Tryz.f165.name,by decide,Tryz.func165.trans (congrArg some (by kernel_rfl))⟩
 f47:=Tryz.func166.trans (congrArg some (by kernel_rfl))
 f48:=Tryz.func167.trans (congrArg some (by kernel_rfl))
 f49:=⟨Tryz.f168.name,by decide,Tryz.func168.trans (congrArg some (by kernel_rfl))⟩
 f50:=⟨Tryz.f169.name,by decide,Tryz.func169.trans (congrArg some (by kernel_rfl))⟩
 f57:=⟨Tryz.f190.name,by decide,Tryz.func190.trans (congrArg some (by kernel_rfl))⟩
 t0:=Tryz.underlying0
 a0:=Tryz.isAgg0
 z0:=Tryz.sizeOf0
 v0:=Tryz.zeroValue0
 t3:=Tryz.underlying3
 a3:=Tryz.isAgg3
 z3:=Tryz.sizeOf3
 v3:=Tryz.zeroValue3
 t4:=Tryz.underlying4
 a4:=Tryz.isAgg4
 z4:=Tryz.sizeOf4
 v4:=Tryz.zeroValue4
 t5:=Tryz.underlying5
 a5:=Tryz.isAgg5
 z5:=Tryz.sizeOf5
 v5:=Tryz.zeroValue5
 t9:=Tryz.underlying9
 a9:=Tryz.isAgg9
 z9:=Tryz.sizeOf9
 v9:=Tryz.zeroValue9
 t22:=Tryz.underlying24
 a22:=Tryz.isAgg24
 z22:=Tryz.sizeOf24
 v22:=Tryz.zeroValue24
 t25:=Tryz.underlying95
 a25:=Tryz.isAgg95
 z25:=Tryz.sizeOf95
 v25:=Tryz.zeroValue95
 t39:=Tryz.underlying136
 a39:=Tryz.isAgg136
 z39:=Tryz.sizeOf136
 v39:=Tryz.zeroValue136
 t45:=Tryz.underlying176
 a45:=Tryz.isAgg176
 z45:=Tryz.sizeOf176
 v45:=Tryz.zeroValue176
 t46:=Tryz.underlying177
 a46:=Tryz.isAgg177
 z46:=Tryz.sizeOf177
 v46:=Tryz.zeroValue177
 t50:=Tryz.underlying94
 a50:=Tryz.isAgg94
 z50:=Tryz.sizeOf94
 v50:=Tryz.zeroValue94
 t53:=Tryz.underlying183
 a53:=Tryz.isAgg183
 z53:=Tryz.sizeOf183
 v53:=Tryz.zeroValue183
 t55:=Tryz.underlying185
 a55:=Tryz.isAgg185
 z55:=Tryz.sizeOf185
 v55:=Tryz.zeroValue185
 t66:=Tryz.underlying208
 a66:=Tryz.isAgg208
 z66:=Tryz.sizeOf208
 v66:=Tryz.zeroValue208
 t70:=Tryz.underlying212
 a70:=Tryz.isAgg212
 z70:=Tryz.sizeOf212
 v70:=Tryz.zeroValue212
 t76:=Tryz.underlying226
 a76:=Tryz.isAgg226
 z76:=Tryz.sizeOf226
 v76:=Tryz.zeroValue226
 t77:=Tryz.underlying227
 a77:=Tryz.isAgg227
 z77:=Tryz.sizeOf227
 v77:=Tryz.zeroValue227}
end Go.Proofs
end
namespace Go.Proofs.YthngiikhgplldaaGreatDoor
structure Elem (w:World) (blk:Nat):Type where
 n:ByteArray
 s:Value
 args:List ByteArray
 hs:Strs w s args
 hb:∀k,s.ownBlock=some k→args≠[]→k≠blk
def Elem.fact {w:World} {blk:Nat} (x:Elem w blk):aG:=(x.n,x.args)
def Elem.enc {w:World} {blk:Nat} (x:Elem w blk):List Value:=[.string x.n,x.s]
def Elem.no (w:World) (blk:Nat):Elem w blk:=⟨ByteArray.empty,.slice none 0 0,[],⟨by simp,none,0,rfl,fun h=>absurd rfl h⟩,fun _ _ h=>absurd rfl h⟩
def Elem.cmp {w:World} {blk:Nat} (x y:Elem w blk):Int:=fF x.fact y.fact
theorem Elem.swo (w:World) (blk:Nat):SWO (ltOf (Elem.cmp (w:=w) (blk:=blk))) where
 irrefl x:=by unfold ltOf Elem.cmp;rw[aV.refl];rfl
 trans x y z h1 h2:=by unfold ltOf at*;rw[decide_eq_true_eq] at*;exact aV.trans _ _ _ h1 h2
 ntrans x y z h1 h2:=by unfold ltOf at*;rw[decide_eq_false_iff_not] at*;have:=wS (a:=x.fact) (b:=y.fact) (c:=z.fact) (Int.not_lt.1 h1) (Int.not_lt.1 h2);exact Int.not_lt.2 this
theorem GQ:∀w,(isAgg 50).run Tryz.prog w=.ok true w:=Tryz.isAgg50
theorem E9:∀w,(Go.sizeOf 50).run Tryz.prog w=.ok 2 w:=Tryz.sizeOf50
theorem zJ:∀args w,(callFunc 60 args).run Tryz.prog w=.ok (.enter 60 args) w:=enters_of Tryz.func60 (by kernel_rfl) rfl
theorem kP {α:Type} (inst:Inhabited α) (enc:α→List Value) (w:World) (blk off m:Nat) (d:Array α) (os:Array Obj) (k:Nat) (hk:k<w.heap.size) (hne:k≠blk):
  (@sortWorldK α inst enc 2 w blk off m d os).heap[k]?=w.heap[k]?:=by
 unfold sortWorldK;rw[heap_grow_old _ _ (by rw[size_putRowK];exact hk)];simp only[putRowK,putRow,mapBlock];rw[Array.getElem?_modify,if_neg (fun e=>hne e.symm)]
 rfl
theorem kQ {α:Type} (inst:Inhabited α) (enc:α→List Value) (w:World) (blk off m:Nat) (d:Array α) (os:Array Obj):w.heap.size≤(@sortWorldK α inst enc 2 w blk off m d os).heap.size:=by unfold sortWorldK;rw[size_grow,size_putRowK];exact Nat.le_add_right _ _
theorem Elem.Fa {w W:World} {blk:Nat} (x:Elem w blk) (hs:w.heap.size≤W.heap.size) (hk:∀k,k<w.heap.size→k≠blk→W.heap[k]?=w.heap[k]?):dh W (.agg #[.string x.n,x.s]) x.fact:=by
 refine⟨x.s,rfl,?_⟩
 by_cases hl:x.args=[]
 ·have:=x.hs;show Strs W x.s x.args;rw[hl] at this⊢;exact this.nil
 exact x.hs.kept hs fun k e=>hk k (x.hs.block_lt hl k e) (x.hb k e hl)
theorem Fb (w:World) (blk off size:Nat): @CmpLays (Elem w blk) ⟨Elem.no w blk⟩ Tryz.prog 60 #[] Elem.enc 2 Elem.cmp blk off size w:=by intro m os dk hd x y;have hs:=kQ ⟨Elem.no w blk⟩ Elem.enc w blk off m dk os;have hk:=kP ⟨Elem.no w blk⟩ Elem.enc w blk off m dk os;exact(lX _ _ x.fact y.fact _ (x.Fa hs hk) (y.Fa hs hk)).mono fun e w' ⟨he,hw⟩=>⟨he,hw⟩
theorem iO.elems {w:World} {base g n cap:Nat} {l:List aG} (h:iO w base (.slice (some ⟨g,0,none⟩) n cap) l):
  g<w.heap.size∧base≤g∧n=l.length∧∃d:Array (Elem w g),d.toList.map Elem.fact=l∧ @HoldsK (Elem w g) ⟨Elem.no w g⟩ Elem.enc 2 w g 0 d:=by
 obtain⟨xs,ho,hx⟩:=h;have ho2:=ho.2;rcases ho2 with⟨e,_⟩|⟨g',cap',cur,e,hb,hg,hnc,hcm,hcs,htake⟩;·cases e
 simp only[Value.slice.injEq,Option.some.injEq,Addr.mk.injEq] at e;obtain⟨⟨rfl,_⟩,rfl,rfl⟩:=e;have hgl:g<w.heap.size:=(Array.getElem?_eq_some_iff.1 hg).1;refine⟨hgl,hb,rfl,?_⟩;have hsv:∀i:Fin l.length,∃x:Elem w g,x.fact=l.getD i aA∧xs[i.1*2]?=some (.string x.n)∧xs[i.1*2+1]?=some x.s:=fun i=>by obtain⟨c1,s,c2,c3,c4⟩:=hx i.1 i.2;exact⟨⟨(l.getD i aA).1,s,(l.getD i aA).2,c3,fun k hk ha e=>by have:=c4 k hk ha;omega⟩,rfl,c1,c2⟩
 refine⟨Array.ofFn fun i=>Classical.choose (hsv i),?_,?_⟩
 ·apply List.ext_getElem
  ·simp
  intro i h1 h2;have:=(Classical.choose_spec (hsv ⟨i,h2⟩)).1;simp only[List.getElem_map,Array.getElem_toList,Array.getElem_ofFn];rw[this,List.getD_eq_getElem?_getD,List.getElem?_eq_getElem h2];rfl
 letI:Inhabited (Elem w g):=⟨Elem.no w g⟩
 intro j hj;rw[size_flatK,Array.size_ofFn] at hj;have hj2:j/2<l.length:=by omega
 rw[get_flatK _ _ _ _ (by rw[Array.size_ofFn];exact hj)];have e1:(Array.ofFn fun i=>Classical.choose (hsv i))[j/2]! =Classical.choose (hsv ⟨j/2,hj2⟩):=by rw[getElem!_pos _ _ (by rw[Array.size_ofFn];exact hj2),Array.getElem_ofFn]
 rw[e1];have sp:=(Classical.choose_spec (hsv ⟨j/2,hj2⟩)).2;generalize Classical.choose (hsv ⟨j/2,hj2⟩)=x at sp;have cellOf:∀u,xs[j]?=some u→w.cell? ⟨g,0+j,none⟩=some u:=fun u hu=>by
  have:=ho.cells (g:=g) rfl j u hu
  rwa [Addr.add_lit] at this
 refine⟨?_,frozen_of_row _ hg⟩;rcases Nat.mod_two_eq_zero_or_one j with hm|hm
 ·rw[hm];refine cellOf _ ?_;have:j/2*2=j:=by omega
  rw[←this];exact sp.1
 rw[hm];refine cellOf _ ?_;have:j/2*2+1=j:=by omega
 rw[←this];exact sp.2
theorem Fe {α:Type} (inst:Inhabited α) {d d':Array α} (h:PermIn 0 d.size d d'):d'.toList.Perm d.toList:=by
 obtain⟨h1,_,h3⟩:=h;have e:d'.extract 0 d.size=d':=by rw[←h1];simp
 rw[e] at h3;simpa using h3
theorem xB {w W:World} {g cap:Nat} (d:Array (Elem w g)) (hs:w.heap.size≤W.heap.size) (hk:∀k,k<w.heap.size→k≠g→W.heap[k]?=w.heap[k]?) (hg:g<W.heap.size) (hd:d.size≤3518437208883)
  (h: @HoldsK (Elem w g) ⟨Elem.no w g⟩ Elem.enc 2 W g 0 d):Facts W (.slice (some ⟨g,0,none⟩) d.size cap) (d.toList.map Elem.fact):=by
 letI:Inhabited (Elem w g):=⟨Elem.no w g⟩
 refine⟨by simpa using hd,some ⟨g,0,none⟩,cap,by simp,fun _=>⟨g,0,rfl,hg,fun i hi=>?_⟩⟩;have hi':i<d.size:=by simpa using hi
 have c0:=(h.cell (i:=i) (c:=0) hi' (by omega)).1;have c1:=(h.cell (i:=i) (c:=1) hi' (by omega)).1;have e:d[i]! =d[i]:=getElem!_pos d i hi';have e2:(d.toList.map Elem.fact).getD i aA=d[i].fact:=by rw[List.getD_eq_getElem?_getD,List.getElem?_map];simp[hi']
 rw[e2];rw[e] at c0 c1;obtain⟨s,es,hs'⟩:=d[i].Fa hs hk;simp only[Value.agg.injEq] at es;refine⟨c0,d[i].s,c1,?_⟩;have e3:d[i].fact.fst=d[i].n∧s=d[i].s:=by simpa using es.symm
 rw[e3.2] at hs';exact hs'
theorem Jk (w:World) (base:Nat) (v:Value) (l:List aG) (h:iO w base v l) (hl:l.length≤3518437208883):
  Calls Tryz.prog 88 #[v,.func (.func 60) #[] #[]] w fun e w'=>e=.returned (.tuple #[])∧∃l',l'.Perm l∧l'.Pairwise (fun a b=>fF a b≤0)∧Facts w' v l'∧Only base w.heap.size w w':=by
 rcases h.choose_spec.1.2 with⟨rfl,e⟩|⟨g,cap,cur,rfl,_⟩;·have:l=[]:=List.eq_nil_of_length_eq_zero e;subst this;exact(AnyF.slices_SortFunc_none Tryz.sortFacts none 0 _ w).mono fun e w' ⟨he,hw⟩=>⟨he,[],List.Perm.refl _,List.Pairwise.nil,by rw[hw];exact⟨by simp,none,0,rfl,fun h=>absurd rfl h⟩,by rw[hw];exact Only.refl _ _ _⟩
 obtain⟨hgl,hb,_,d,hd,hH⟩:=h.elems
 letI:Inhabited (Elem w g):=⟨Elem.no w g⟩
 have hsz:d.size=l.length:=by rw[←hd];simp
 have hc:=AnyQ.slices_SortFunc Tryz.sortFacts 2 GQ E9 Elem.enc (fun _=>rfl) (fun x v hv=>by
  simp[Elem.enc] at hv;rcases hv with rfl|rfl
  ·rfl
  obtain⟨a,c,e⟩:=bP x.hs;rw[e];rfl) Elem.cmp (Elem.swo w g) 60 #[] g 0 cap d w zJ (Fb w g 0 d.size) hH hgl (by omega)
 rw[hsz] at hc;refine hc.mono ?_;rintro e w' ⟨he,d',n,os,hp,hs,rfl⟩;have hp':PermIn 0 d.size d d':=by rw[hsz];exact hp
 have hd':d'.size=d.size:=hp'.1;have hkk:=kP ⟨Elem.no w g⟩ Elem.enc w g 0 n d' os;have hss:=kQ ⟨Elem.no w g⟩ Elem.enc w g 0 n d' os;refine⟨he,d'.toList.map Elem.fact,?_,?_,?_,?_⟩;·rw[←hd];exact(Fe _ hp').map _
 ·rw[List.pairwise_map];rw[List.pairwise_iff_getElem];intro i j hi hj hij;have:=hs i j (Nat.zero_le _) hij (by simp at hj;omega);have e1:d'[i]! =d'.toList[i]:=by rw[getElem!_pos d' i (by simpa using hi)];simp
  have e2:d'[j]! =d'.toList[j]:=by rw[getElem!_pos d' j (by simpa using hj)];simp
  rw[e1,e2] at this;unfold ltOf Elem.cmp at this;rw[decide_eq_false_iff_not] at this;have:=aV.swap d'.toList[i].fact d'.toList[j].fact;omega
 ·have:=xB (cap:=cap) d' hss hkk (Nat.lt_of_lt_of_le hgl hss) (by omega) (holdsK_sortWorldK_c Elem.enc 2 w g 0 d d' n os hH hgl hd');rw[hd',hsz] at this;exact this
 refine⟨rfl,rfl,rfl,Nat.le_add_right _ _,hss,fun k hk ho=>hkk k hk (by omega)⟩
end Go.Proofs.YthngiikhgplldaaGreatDoor
