import Derived.Test.YtafmbokfkbccaaaGreatDoorJD20
import Derived.Lib.SlBytesRow
import Derived.Shelf.Spec.SlicesGrow
import Derived.Test.YtafmbokfkbccaaaGreatDoorProg
import Derived.Test.YtafmbokfkbccaaaGreatDoorJD8
import Derived.Test.YtafmbokfkbccaaaGreatDoorJD3
namespace Go.Proofs.YtafmbokfkbccaaaGreatDoor
open Go.RowKit Go.Sort
def nmB (i:Nat):ByteArray:=bs (nmL i)
theorem convOne (c:UInt8) (w:World):(convert 48 9 (.slice (some ⟨w.heap.size,0,none⟩) 1 1)).run Tryz.prog (w.alloc (.cells #[.int .u8 (c.toNat:Int)] 5))=.ok (.string ⟨#[c]⟩) (w.alloc (.cells #[.int .u8 (c.toNat:Int)] 5)):=by
 refine Lib.run_convert_whole _ 48 5 9 Tryz.underlying48 Tryz.underlying5 Tryz.underlying9 w.heap.size 0 ⟨#[c]⟩ (fun i hi=> ?_) 1;have:i=0:=by
  have:i<1:=hi;omega
 subst this;rw[cell_of_row _ _ _ _ _ _ (heap_alloc_new w _)]
 rfl
set_option maxRecDepth 100000 in
theorem name0 (w:World):Calls Tryz.prog 47 #[.int .i64 0] w fun e w'=>e=.returned (.string (nmB 0))∧Later w w':=by
 have hcv:(convert 48 9 (.slice (some ⟨w.heap.size,0,none⟩) 1 1)).run Tryz.prog (w.alloc (.cells #[.int .u8 97] 5))=.ok (.string ⟨#[97]⟩) (w.alloc (.cells #[.int .u8 97] 5)):=convOne 97 w
 go_enter Tryz.func47,Tryz.ntmps47
 go_wp2;go_ret;exact⟨rfl,(by repeat (first|exact Later.refl _|assumption|refine Later.drewN ?_ _|refine Later.drew ?_|refine Later.alloc ?_ _|refine Later.grow ?_ _))⟩
set_option maxRecDepth 100000 in
theorem name1 (w:World):Calls Tryz.prog 47 #[.int .i64 1] w fun e w'=>e=.returned (.string (nmB 1))∧Later w w':=by
 have hcv:(convert 48 9 (.slice (some ⟨w.heap.size,0,none⟩) 1 1)).run Tryz.prog (w.alloc (.cells #[.int .u8 98] 5))=.ok (.string ⟨#[98]⟩) (w.alloc (.cells #[.int .u8 98] 5)):=convOne 98 w
 go_enter Tryz.func47,Tryz.ntmps47
 go_wp2;go_ret;exact⟨rfl,(by repeat (first|exact Later.refl _|assumption|refine Later.drewN ?_ _|refine Later.drew ?_|refine Later.alloc ?_ _|refine Later.grow ?_ _))⟩
set_option maxRecDepth 100000 in
theorem name2 (w:World):Calls Tryz.prog 47 #[.int .i64 2] w fun e w'=>e=.returned (.string (nmB 2))∧Later w w':=by
 have hcv:(convert 48 9 (.slice (some ⟨w.heap.size,0,none⟩) 1 1)).run Tryz.prog (w.alloc (.cells #[.int .u8 99] 5))=.ok (.string ⟨#[99]⟩) (w.alloc (.cells #[.int .u8 99] 5)):=convOne 99 w
 go_enter Tryz.func47,Tryz.ntmps47
 go_wp2;go_ret;exact⟨rfl,(by repeat (first|exact Later.refl _|assumption|refine Later.drewN ?_ _|refine Later.drew ?_|refine Later.alloc ?_ _|refine Later.grow ?_ _))⟩
set_option maxRecDepth 100000 in
theorem name3 (w:World):Calls Tryz.prog 47 #[.int .i64 3] w fun e w'=>e=.returned (.string (nmB 3))∧Later w w':=by
 have hcv:(convert 48 9 (.slice (some ⟨w.heap.size,0,none⟩) 1 1)).run Tryz.prog (w.alloc (.cells #[.int .u8 100] 5))=.ok (.string ⟨#[100]⟩) (w.alloc (.cells #[.int .u8 100] 5)):=convOne 100 w
 go_enter Tryz.func47,Tryz.ntmps47
 go_wp2;go_ret;exact⟨rfl,(by repeat (first|exact Later.refl _|assumption|refine Later.drewN ?_ _|refine Later.drew ?_|refine Later.alloc ?_ _|refine Later.grow ?_ _))⟩
set_option maxRecDepth 100000 in
theorem name4 (w:World):Calls Tryz.prog 47 #[.int .i64 4] w fun e w'=>e=.returned (.string (nmB 4))∧Later w w':=by
 have hcv:(convert 48 9 (.slice (some ⟨w.heap.size,0,none⟩) 1 1)).run Tryz.prog (w.alloc (.cells #[.int .u8 101] 5))=.ok (.string ⟨#[101]⟩) (w.alloc (.cells #[.int .u8 101] 5)):=convOne 101 w
 go_enter Tryz.func47,Tryz.ntmps47
 go_wp2;go_ret;exact⟨rfl,(by repeat (first|exact Later.refl _|assumption|refine Later.drewN ?_ _|refine Later.drew ?_|refine Later.alloc ?_ _|refine Later.grow ?_ _))⟩
set_option maxRecDepth 100000 in
theorem name5 (w:World):Calls Tryz.prog 47 #[.int .i64 5] w fun e w'=>e=.returned (.string (nmB 5))∧Later w w':=by
 have hcv:(convert 48 9 (.slice (some ⟨w.heap.size,0,none⟩) 1 1)).run Tryz.prog (w.alloc (.cells #[.int .u8 102] 5))=.ok (.string ⟨#[102]⟩) (w.alloc (.cells #[.int .u8 102] 5)):=convOne 102 w
 go_enter Tryz.func47,Tryz.ntmps47
 go_wp2;go_ret;exact⟨rfl,(by repeat (first|exact Later.refl _|assumption|refine Later.drewN ?_ _|refine Later.drew ?_|refine Later.alloc ?_ _|refine Later.grow ?_ _))⟩
set_option maxRecDepth 100000 in
theorem name6 (w:World):Calls Tryz.prog 47 #[.int .i64 6] w fun e w'=>e=.returned (.string (nmB 6))∧Later w w':=by
 have hcv:(convert 48 9 (.slice (some ⟨w.heap.size,0,none⟩) 1 1)).run Tryz.prog (w.alloc (.cells #[.int .u8 103] 5))=.ok (.string ⟨#[103]⟩) (w.alloc (.cells #[.int .u8 103] 5)):=convOne 103 w
 go_enter Tryz.func47,Tryz.ntmps47
 go_wp2;go_ret;exact⟨rfl,(by repeat (first|exact Later.refl _|assumption|refine Later.drewN ?_ _|refine Later.drew ?_|refine Later.alloc ?_ _|refine Later.grow ?_ _))⟩
set_option maxRecDepth 100000 in
theorem name7 (w:World):Calls Tryz.prog 47 #[.int .i64 7] w fun e w'=>e=.returned (.string (nmB 7))∧Later w w':=by
 have hcv:(convert 48 9 (.slice (some ⟨w.heap.size,0,none⟩) 1 1)).run Tryz.prog (w.alloc (.cells #[.int .u8 104] 5))=.ok (.string ⟨#[104]⟩) (w.alloc (.cells #[.int .u8 104] 5)):=convOne 104 w
 go_enter Tryz.func47,Tryz.ntmps47
 go_wp2;go_ret;exact⟨rfl,(by repeat (first|exact Later.refl _|assumption|refine Later.drewN ?_ _|refine Later.drew ?_|refine Later.alloc ?_ _|refine Later.grow ?_ _))⟩
theorem nameC (i:Nat) (hi:i<8) (w:World):Calls Tryz.prog 47 #[.int .i64 (i:Nat)] w fun e w'=>e=.returned (.string (nmB i))∧Later w w':=by
 have h:i=0∨i=1∨i=2∨i=3∨i=4∨i=5∨i=6∨i=7:=by omega
 rcases h with rfl|rfl|rfl|rfl|rfl|rfl|rfl|rfl
 ·exact name0 w
 ·exact name1 w
 ·exact name2 w
 ·exact name3 w
 ·exact name4 w
 ·exact name5 w
 ·exact name6 w
 ·exact name7 w
set_option maxRecDepth 100000 in
set_option maxHeartbeats 1000000 in
theorem roadL (a b:Nat) (ha:a<8) (hb:b<8) (w:World):Calls Tryz.prog 51 #[.int .i64 (a:Nat),.int .i64 (b:Nat)] w fun e w'=>∃v,e=.returned v∧FactV w' v ({data:=#[114,111,97,100]},[nmB a,nmB b])∧Later w w'∧FarV w w' v:=by
 have HA:Hid (∀w,Calls Tryz.prog 47 #[.int .i64 (a:Nat)] w fun e w'=>e=.returned (.string (nmB a))∧Later w w'):=nameC a ha;have HB:Hid (∀w,Calls Tryz.prog 47 #[.int .i64 (b:Nat)] w fun e w'=>e=.returned (.string (nmB b))∧Later w w'):=nameC b hb;clear ha hb;generalize nmB a=na at*;generalize nmB b=nb at*
 go_enter Tryz.func51,Tryz.ntmps51
 go_wp2_with fail
 refine(HA.out _).mono ?_;rintro e w1 ⟨rfl,hL1⟩;have HL1:=hide hL1;clear hL1 HA
 go_wp2_with fail
 refine(HB.out _).mono ?_;rintro e w2 ⟨rfl,hL2⟩;have hL02:=HL1.out.trans hL2;have hr2:w2.heap[w.heap.size]?=some (.cells #[.string {data:=#[]},.slice none 0 0] 27 (0,0)):=by
  rw[hL02.block (by simp)];exact heap_alloc_new w _
 have hlt2:w.heap.size<w2.heap.size:=(Array.getElem?_eq_some_iff.1 hr2).1;have hlo:w.heap.size≤w2.heap.size:=Nat.le_of_lt hlt2;obtain⟨q0,q1,p0,p1,q2⟩:=row2 hr2;have hz1:(w2.setCell ⟨w.heap.size,0,none⟩ (.string {data:=#[114,111,97,100]})).heap.size=w2.heap.size:=by simp
 have hr4:=set_at (j:=0) hr2 (.string {data:=#[114,111,97,100]});have hr5:((w2.setCell ⟨w.heap.size,0,none⟩ (.string {data:=#[114,111,97,100]})).alloc (.cells #[.string na,.string nb] 9)).heap[w.heap.size]?=some (.cells #[.string {data:=#[114,111,97,100]},.slice none 0 0] 27 (0,0)):=by
  rw[heap_at,if_neg (by omega)];exact hr4
 obtain⟨q3,q4,p3,p4,q5⟩:=row2 hr5;have q6:(w2.alloc (.cells #[.string na,.string nb] 9)).cell? ⟨w.heap.size,0,none⟩=some (.string {data:=#[]}):=by
  have h:(w2.alloc (.cells #[.string na,.string nb] 9)).heap[w.heap.size]?=some (.cells #[.string {data:=#[]},.slice none 0 0] 27 (0,0)):=by
   rw[heap_at,if_neg (by omega)];exact hr2
  exact(row2 h).1
 have p6:(w2.alloc (.cells #[.string na,.string nb] 9)).frozen? ⟨w.heap.size,0,none⟩=false:=by
  have h:(w2.alloc (.cells #[.string na,.string nb] 9)).heap[w.heap.size]?=some (.cells #[.string {data:=#[]},.slice none 0 0] 27 (0,0)):=by
   rw[heap_at,if_neg (by omega)];exact hr2
  exact(row2 h).2.2.1
 have HR2:=hide hr2;have HL2:Hid (Later w w2):=((Later.refl w).alloc _).trans hL02;clear hL2 hL02 hr2 hr4 hr5 HB HL1 hlo;go_wp2;have hrow:=set_at (j:=1) (set_at (j:=0) HR2.out (.string {data:=#[114,111,97,100]})) (.slice (some ⟨w2.heap.size,0,none⟩) 2 2);have hz2:((w2.setCell ⟨w.heap.size,0,none⟩ (.string {data:=#[114,111,97,100]})).setCell ⟨w.heap.size,1,none⟩ (.slice (some ⟨w2.heap.size,0,none⟩) 2 2)).heap.size=w2.heap.size:=by simp
 have hrow2:(((w2.setCell ⟨w.heap.size,0,none⟩ (.string {data:=#[114,111,97,100]})).setCell ⟨w.heap.size,1,none⟩ (.slice (some ⟨w2.heap.size,0,none⟩) 2 2)).alloc (.cells #[.string na,.string nb] 9)).heap[w.heap.size]?=some (.cells #[.string {data:=#[114,111,97,100]},.slice (some ⟨w2.heap.size,0,none⟩) 2 2] 27 (0,0)):=by
  rw[heap_at,if_neg (by omega)];exact hrow
 have r0:=(row2 hrow2).1;have r1:=(row2 hrow2).2.1;refine bodyPost_ret (v:=.agg #[.string {data:=#[114,111,97,100]},.slice (some ⟨w2.heap.size,0,none⟩) 2 2]) (by simp[results,Tryz.results51,go_sem,r0,r1]) rfl ⟨_,rfl,⟨_,rfl,?_⟩,?_,_,_,rfl,fun k e=> ?_⟩
 ·refine strs2' (t:=9) (fr:=(0,0)) ?_;rw[heap_at,if_pos (by rw[hz2])]
 ·exact((HL2.out.setCell (by show w.heap.size≤w.heap.size;omega) _).setCell (by show w.heap.size≤w.heap.size;omega) _).alloc _
 ·have e:w2.heap.size=k:=by simpa[Value.ownBlock] using e
  rw[World.size_alloc,hz2];omega
theorem roadC (a b:Nat) (ha:a<8) (hb:b<8) (w:World):Calls Tryz.prog 51 #[.int .i64 (a:Nat),.int .i64 (b:Nat)] w fun e w'=>∃v,e=.returned v∧FactV w' v ({data:=#[114,111,97,100]},[nmB a,nmB b])∧Later w w':=
 (roadL a b ha hb w).mono fun _ _ ⟨v,h1,h2,h3,_⟩=>⟨v,h1,h2,h3⟩
set_option maxRecDepth 100000 in
set_option maxHeartbeats 1000000 in
theorem wayC (a b:Nat) (ha:a<8) (hb:b<8) (w:World):Calls Tryz.prog 48 #[.int .i64 (a:Nat),.int .i64 (b:Nat)] w fun e w'=>∃v,e=.returned v∧FactV w' v ({data:=#[119,97,121]},[nmB a,nmB b])∧Later w w':=by
 have HA:Hid (∀w,Calls Tryz.prog 47 #[.int .i64 (a:Nat)] w fun e w'=>e=.returned (.string (nmB a))∧Later w w'):=nameC a ha;have HB:Hid (∀w,Calls Tryz.prog 47 #[.int .i64 (b:Nat)] w fun e w'=>e=.returned (.string (nmB b))∧Later w w'):=nameC b hb;clear ha hb;generalize nmB a=na at*;generalize nmB b=nb at*
 go_enter Tryz.func48,Tryz.ntmps48
 go_wp2_with fail
 refine(HA.out _).mono ?_;rintro e w1 ⟨rfl,hL1⟩;have HL1:=hide hL1;clear hL1 HA
 go_wp2_with fail
 refine(HB.out _).mono ?_;rintro e w2 ⟨rfl,hL2⟩;have hL02:=HL1.out.trans hL2;have hr2:w2.heap[w.heap.size]?=some (.cells #[.string {data:=#[]},.slice none 0 0] 27 (0,0)):=by
  rw[hL02.block (by simp)];exact heap_alloc_new w _
 have hlt2:w.heap.size<w2.heap.size:=(Array.getElem?_eq_some_iff.1 hr2).1;have hlo:w.heap.size≤w2.heap.size:=Nat.le_of_lt hlt2;obtain⟨q0,q1,p0,p1,q2⟩:=row2 hr2;have hz1:(w2.setCell ⟨w.heap.size,0,none⟩ (.string {data:=#[119,97,121]})).heap.size=w2.heap.size:=by simp
 have hr4:=set_at (j:=0) hr2 (.string {data:=#[119,97,121]});have hr5:((w2.setCell ⟨w.heap.size,0,none⟩ (.string {data:=#[119,97,121]})).alloc (.cells #[.string na,.string nb] 9)).heap[w.heap.size]?=some (.cells #[.string {data:=#[119,97,121]},.slice none 0 0] 27 (0,0)):=by
  rw[heap_at,if_neg (by omega)];exact hr4
 obtain⟨q3,q4,p3,p4,q5⟩:=row2 hr5;have q6:(w2.alloc (.cells #[.string na,.string nb] 9)).cell? ⟨w.heap.size,0,none⟩=some (.string {data:=#[]}):=by
  have h:(w2.alloc (.cells #[.string na,.string nb] 9)).heap[w.heap.size]?=some (.cells #[.string {data:=#[]},.slice none 0 0] 27 (0,0)):=by
   rw[heap_at,if_neg (by omega)];exact hr2
  exact(row2 h).1
 have p6:(w2.alloc (.cells #[.string na,.string nb] 9)).frozen? ⟨w.heap.size,0,none⟩=false:=by
  have h:(w2.alloc (.cells #[.string na,.string nb] 9)).heap[w.heap.size]?=some (.cells #[.string {data:=#[]},.slice none 0 0] 27 (0,0)):=by
   rw[heap_at,if_neg (by omega)];exact hr2
  exact(row2 h).2.2.1
 have HR2:=hide hr2;have HL2:Hid (Later w w2):=((Later.refl w).alloc _).trans hL02;clear hL2 hL02 hr2 hr4 hr5 HB HL1 hlo;go_wp2;have hrow:=set_at (j:=1) (set_at (j:=0) HR2.out (.string {data:=#[119,97,121]})) (.slice (some ⟨w2.heap.size,0,none⟩) 2 2);have hz2:((w2.setCell ⟨w.heap.size,0,none⟩ (.string {data:=#[119,97,121]})).setCell ⟨w.heap.size,1,none⟩ (.slice (some ⟨w2.heap.size,0,none⟩) 2 2)).heap.size=w2.heap.size:=by simp
 have hrow2:(((w2.setCell ⟨w.heap.size,0,none⟩ (.string {data:=#[119,97,121]})).setCell ⟨w.heap.size,1,none⟩ (.slice (some ⟨w2.heap.size,0,none⟩) 2 2)).alloc (.cells #[.string na,.string nb] 9)).heap[w.heap.size]?=some (.cells #[.string {data:=#[119,97,121]},.slice (some ⟨w2.heap.size,0,none⟩) 2 2] 27 (0,0)):=by
  rw[heap_at,if_neg (by omega)];exact hrow
 have r0:=(row2 hrow2).1;have r1:=(row2 hrow2).2.1;refine bodyPost_ret (v:=.agg #[.string {data:=#[119,97,121]},.slice (some ⟨w2.heap.size,0,none⟩) 2 2]) (by simp[results,Tryz.results48,go_sem,r0,r1]) rfl ⟨_,rfl,⟨_,rfl,?_⟩,?_⟩
 ·refine strs2' (t:=9) (fr:=(0,0)) ?_;rw[heap_at,if_pos (by rw[hz2])]
 ·exact((HL2.out.setCell (by show w.heap.size≤w.heap.size;omega) _).setCell (by show w.heap.size≤w.heap.size;omega) _).alloc _
end Go.Proofs.YtafmbokfkbccaaaGreatDoor
namespace Go.Proofs
open Go.Shelf
def Tryz.growFacts_ren:Go.Shelf.Ren:=⟨fun|4=>267|n=>n,fun|22=>24|25=>27|3=>3|4=>4|9=>9|20=>20|0=>0|n=>n,fun|n=>n⟩
theorem Tryz.growFacts:Go.Proofs.Lays8.n4 Tryz.prog Tryz.growFacts_ren:={
 mixed:=by kernel_rfl
 f4:=⟨Tryz.f267.name,by decide,Tryz.func267.trans (congrArg some (by kernel_rfl))⟩
 t0:=Tryz.underlying0
 a0:=Tryz.isAgg0
 z0:=Tryz.sizeOf0
 v0:=Tryz.zeroValue0
 t3:=Tryz.underlying3
 a3:=Tryz.isAgg3
 z3:=Tryz.sizeOf3
 v3:=Tryz.zeroValue3
 t4:=Tryz.underlying4
 a4:=Tryz.isAgg4
 z4:=Tryz.sizeOf4
 v4:=Tryz.zeroValue4
 t9:=Tryz.underlying9
 a9:=Tryz.isAgg9
 z9:=Tryz.sizeOf9
 v9:=Tryz.zeroValue9
 t20:=Tryz.underlying20
 a20:=Tryz.isAgg20
 z20:=Tryz.sizeOf20
 v20:=Tryz.zeroValue20
 t22:=Tryz.underlying24
 a22:=Tryz.isAgg24
 z22:=Tryz.sizeOf24
 v22:=Tryz.zeroValue24}
end Go.Proofs
namespace Go.Proofs.YtafmbokfkbccaaaGreatDoor
open Go.RowKit Go.Sort Go.Shelf
theorem growC (w0 w:World) (hL:Later w0 w) (n:Nat) (hn:n≤3518437208883):Calls Tryz.prog 267 #[.slice none 0 0,.int .i64 n] w fun e w'=>
  ∃v',e=.returned v'∧RowF w' w0.heap.size v' []∧Later w w'∧∀k,v'.ownBlock=some k→w.heap.size≤k:=by
 by_cases h0:n=0
 ·subst h0;exact(Any8.slices_Grow_room Tryz.growFacts none 0 0 0 w (Nat.le_refl _) (by omega) (by omega) (Nat.le_refl _)).mono fun e w' ⟨he,hw⟩=>
   ⟨_,he,by rw[hw];exact⟨[],World.ownsRow_nil w _ _ _,fun i hi=>by simp at hi⟩,by rw[hw];exact Later.refl _,fun k hk=>by simp[Value.ownBlock] at hk⟩
 ·obtain⟨i,i1,i2,i3,i4⟩:=infoFact;refine(Any8.slices_Grow_grow Tryz.growFacts i _ i1 i2 (by omega) none 0 0 n [] w (Nat.le_refl _) (by omega) (by rw[i4];omega) (by omega) (by simp) (fun _=>rfl) (fun a h=>by cases h)).mono fun e w' ⟨he,hw⟩=>⟨_,he,?_,?_,fun k hk=> ?_⟩
  ·rw[hw];have hge:=grownCap_ge w (0+n) 0 (Tryz.growFacts_ren.t 25);have hcm:=grownCap_le_maxLen w (0+n) 0 (Tryz.growFacts_ren.t 25) (by simp only[maxLen];omega);refine⟨[],World.ownsRow_made (base:=w0.heap.size) (e:=27) (size:=2) w.drew _ _ hL.size hcm ?_,fun i hi=>by simp at hi⟩;simp only[Array.size_append,List.size_toArray,size_zeroCells];show 0+(0+n-0)*2+(grownCap w (0+n) 0 (Tryz.growFacts_ren.t 25)- (0+n))*2=_;omega
  ·rw[hw];exact(Later.refl w).drew.alloc _
  ·simp[Value.ownBlock] at hk;omega
set_option maxHeartbeats 1000000 in
theorem concat (w0 w:World) (hL:Later w0 w) (c cp:Nat) (va vb:Value) (la lb:List FactD) (ha:Facts w0 va la) (hb:Facts w0 vb lb) (hn:la.length+lb.length≤3518437208883) (hc0:w.cell? ⟨c,0,none⟩=some va) (hc1:w.cell? ⟨c,1,none⟩=some vb) (hcb:c<w.heap.size):
  Calls Tryz.prog 212 #[.slice (some ⟨c,0,none⟩) 2 cp] w fun e w'=>∃v',e=.returned v'∧RowF w' w0.heap.size v' (la++lb)∧Later w0 w':=by
 have HA:=hide ha;have HB:=hide hb;obtain⟨a1,c1,rfl⟩:=sliceFacts ha;obtain⟨a2,c2,rfl⟩:=sliceFacts hb;clear ha hb;have s1:¬((la.length:Int)<0):=by omega
 have s2:¬((la.length:Int)+(lb.length:Int)<0):=by omega
 go_enter Tryz.func212,Tryz.ntmps212
 go_wp2;refine wp_loop_rounds 3 ?_;rw[rounds_succ];go_wp2;rw[rounds_succ];go_wp2;rw[rounds_succ]
 go_wp2_with fail
 rw[show((la.length:Int)+(lb.length:Int))=((la.length+lb.length:Nat):Int) by omega];refine(growC w0 w hL (la.length+lb.length) hn).mono ?_;rintro e w1 ⟨v1,rfl,hR1,hL1,hk1⟩;obtain⟨v2,w2,run2,hR2,hL2,hg2,hk2⟩:=hR1.append (hL.trans hL1) HA.out (by simp;omega);obtain⟨v3,w3,run3,hR3,hL3,hg3,hk3⟩:=hR2.append hL2 HB.out (by simp;omega);rw[List.nil_append] at hR3;have y0:w1.cell? ⟨c,0,none⟩=some (.slice a1 la.length c1):=by rw[hL1.cell (p:=⟨c,0,none⟩) hcb];exact hc0
 have y1:w1.cell? ⟨c,1,none⟩=some (.slice a2 lb.length c2):=by rw[hL1.cell (p:=⟨c,1,none⟩) hcb];exact hc1
 have y2:w2.cell? ⟨c,1,none⟩=some (.slice a2 lb.length c2):=by
  rw[World.cell?_of_block (w:=w1) (hg2.block c (Nat.lt_of_lt_of_le hcb hL1.size) (fun e=>by have:=hk1 c e.symm;omega))];exact y1
 have R2:=hide run2;have R3:=hide run3;have HR:=hide hR3;clear run2 run3 hR1 hR2 hR3 hg2 hg3;go_wp2;refine wp_loop_rounds 3 ?_;rw[rounds_succ]
 go_wp2_with (at_builtin;refine wpList_append_run rfl (.tmp 31) (.tmp 32) 24 rfl _ _ _ _ rfl rfl R2.out ?_)
 rw[rounds_succ]
 go_wp2_with (at_builtin;refine wpList_append_run rfl (.tmp 31) (.tmp 32) 24 rfl _ _ _ _ rfl rfl R3.out ?_)
 rw[rounds_succ];go_wp2;go_ret;exact⟨v3,rfl,HR.out,hL3⟩
set_option maxHeartbeats 400000 in
theorem joinC (va vb:Value) (la lb:List FactD) (w:World) (ha:Facts w va la) (hb:Facts w vb lb) (hn:la.length+lb.length≤3518437208883):
  Calls Tryz.prog 151 #[va,vb] w fun e w'=>∃v' s,e=.returned v'∧SetOf s (la++lb)∧OwnF w' w.heap.size v' s∧Later w w':=by
 have HA:=hide ha;have HB:=hide hb;obtain⟨a1,c1,rfl⟩:=sliceFacts ha;obtain⟨a2,c2,rfl⟩:=sliceFacts hb;clear ha hb
 go_enter Tryz.func151,Tryz.ntmps151
 go_wp2_with fail
 refine(concat w _ (by repeat (first|exact Later.refl _|assumption|refine Later.drewN ?_ _|refine Later.drew ?_|refine Later.alloc ?_ _|refine Later.grow ?_ _)) w.heap.size 2 _ _ la lb HA.out HB.out hn (by simp) (by simp) (by simp)).mono ?_;rintro e w1 ⟨v1,rfl,hR,hL⟩;have hr0:=rise w1 w.heap.size v1 (la++lb) hR (by simpa using hn);obtain⟨a3,c3,rfl⟩:=ownsSlice hR.choose_spec.1;rw[List.length_append] at hr0;have hr:=hide hr0;clear hR hr0
 go_wp2_with fail
 refine hr.out.mono ?_;rintro e w2 ⟨v2,s,rfl,hs,hO,hW⟩;have HS:=hide hs;have HO:=hide hO;clear hs hO;go_wp2;go_ret;exact⟨v2,s,rfl,HS.out,HO.out.base hL.size,hW.later hL (Nat.le_refl _)⟩
end Go.Proofs.YtafmbokfkbccaaaGreatDoor
namespace Go.Proofs.YtafmbokfkbccaaaGreatDoor
structure RunD where
 known:List FactB
 fresh:List FactB
 level:Int
 rounds:Int
 done:Bool
def noRun:RunD:=⟨[],[],0,0,false⟩
def atGo (K N:List FactB) (r:RuleD):Nat→List AtomD→List FactB→Option (List FactB)
 |_,[],acc=>some acc
 |k,a::l,acc=>if a.no then atGo K N r (k+1) l acc else
  match allB (pickB K k N) r.body with
  |none=>none
  |some R=>atGo K N r (k+1) l (acc++R.filterMap fun e=>fillB r.head e)
def askP (K N:List FactB) (r:RuleD) (acc:List FactB):Option (List FactB):=if r.body.all (·.no) then
  match headsP r K with
  |none=>none
  |some x=>some (acc++x)
 else atGo K N r 0 r.body acc
def makesGo (K N:List FactB) (st:Int):List RuleD→List Nat→List FactB→Option (List FactB)
 |[],_,acc=>some acc
 |_::_,[],acc=>some acc
 |r::p,s::ss,acc=>if(s:Int)=st then
   match askP K N r acc with
   |none=>none
   |some acc'=>makesGo K N st p ss acc'
  else makesGo K N st p ss acc
def newOf (K acc:List FactB):List FactB:=setF (acc.filter fun f=> !inB K f)
def nextP (p:List RuleD) (ss:List Nat) (r:RunD):Int×RunD:=if r.rounds=1000 then(5,noRun) else
 match makesGo r.known r.fresh r.level p ss [] with
 |none=>(4,noRun)
 |some acc=>if 200<(setF (r.known++acc)).length then(5,noRun) else
  if newOf r.known acc=[] then(0,⟨setF (r.known++acc),setF (r.known++acc),r.level+1,r.rounds+1,decide (r.level+1=countP ss)⟩)
  else(0,⟨setF (r.known++acc),newOf r.known acc,r.level,r.rounds+1,false⟩)
def stepsP (p:List RuleD) (ss:List Nat):Nat→RunD→Int×RunD
 |0,r=>(0,r)
 |n+1,r=>if r.done then(0,r) else if(nextP p ss r).1≠0 then((nextP p ss r).1,noRun) else stepsP p ss n (nextP p ss r).2
theorem mem_newOf {K acc:List FactB} {f:FactB}:f∈newOf K acc↔f∈acc∧f∉K:=by
 unfold newOf;rw[mem_setF,List.mem_filter]
 constructor
 ·rintro⟨h1,h2⟩;exact⟨h1,fun h=>by rw[inB_iff.2 h] at h2;cases h2⟩
 ·rintro⟨h1,h2⟩;refine⟨h1,?_⟩;cases h:inB K f
  ·rfl
  ·exact absurd (inB_iff.1 h) h2
def Makes (K N:List FactB) (r:RuleD) (f:FactB):Prop:=(r.body.all (·.no)=true∧∃env,FitsB (fun _=>K) r.body env∧fillB r.head env=some f)∨
 (¬r.body.all (·.no)=true∧∃i a env,r.body[i]?=some a∧a.no=false∧FitsB (pickB K (i:Nat) N) r.body env∧fillB r.head env=some f)
theorem at_mem {K N:List FactB} {r:RuleD}:∀{l:List AtomD} {k:Nat} {acc S:List FactB},atGo K N r k l acc=some S→∀f,f∈S↔f∈acc∨∃i a,l[i]?=some a∧a.no=false∧∃R,allB (pickB K ((k+i:Nat):Int) N) r.body=some R∧∃e∈R,fillB r.head e=some f
 |[],k,acc,S,h,f=>by
  simp only[atGo,Option.some.injEq] at h;subst h;refine⟨Or.inl,fun h=>h.elim id ?_⟩;rintro⟨i,a,h,_⟩;simp at h
 |a::l,k,acc,S,h,f=>by
  unfold atGo at h;split at h
  ·rename_i hn;rw[at_mem h f]
   constructor
   ·rintro(h|⟨i,b,h1,h2,h3⟩)
    ·exact Or.inl h
    ·exact Or.inr ⟨i+1,b,by simpa using h1,h2,by rw[show k+(i+1)=k+1+i by omega];exact h3⟩
   ·rintro(h|⟨i,b,h1,h2,h3⟩)
    ·exact Or.inl h
    ·cases i with
     |zero=>simp at h1;subst h1;rw[hn] at h2;cases h2
     |succ i=>exact Or.inr ⟨i,b,by simpa using h1,h2,by rw[show k+1+i=k+(i+1) by omega];exact h3⟩
  ·rename_i hn;split at h
   ·cases h
   ·rename_i R hR;rw[at_mem h f,List.mem_append]
    constructor
    ·rintro((h|h)|⟨i,b,h1,h2,h3⟩)
     ·exact Or.inl h
     ·obtain⟨e,he,hf⟩:=List.mem_filterMap.1 h;exact Or.inr ⟨0,a,rfl,by simpa using hn,R,hR,e,he,hf⟩
     ·exact Or.inr ⟨i+1,b,by simpa using h1,h2,by rw[show k+(i+1)=k+1+i by omega];exact h3⟩
    ·rintro(h|⟨i,b,h1,h2,h3⟩)
     ·exact Or.inl (Or.inl h)
     ·cases i with
      |zero=>
       obtain⟨R',hR',e,he,hf⟩:=h3;have:R=R':=Option.some.inj (hR.symm.trans hR');subst this;exact Or.inl (Or.inr (List.mem_filterMap.2 ⟨e,he,hf⟩))
      |succ i=>exact Or.inr ⟨i,b,by simpa using h1,h2,by rw[show k+1+i=k+(i+1) by omega];exact h3⟩
theorem at_some {K N:List FactB} {r:RuleD}:∀{l:List AtomD} {k:Nat} {acc S:List FactB},atGo K N r k l acc=some S→∀i a,l[i]?=some a→a.no=false→∃R,allB (pickB K ((k+i:Nat):Int) N) r.body=some R
 |[],k,acc,S,h,i,a,hi,_=>by simp at hi
 |a::l,k,acc,S,h,i,b,hi,hb=>by
  unfold atGo at h;split at h
  ·rename_i hn;cases i with
   |zero=>simp at hi;subst hi;rw[hn] at hb;cases hb
   |succ i=>rw[show k+(i+1)=k+1+i by omega];exact at_some h i b (by simpa using hi) hb
  ·split at h
   ·cases h
   ·rename_i R hR;cases i with
    |zero=>exact⟨R,hR⟩
    |succ i=>rw[show k+(i+1)=k+1+i by omega];exact at_some h i b (by simpa using hi) hb
theorem ask_mem {K N:List FactB} {r:RuleD} (hr:RightR r) {acc S:List FactB} (h:askP K N r acc=some S) (f:FactB):f∈S↔f∈acc∨Makes K N r f:=by
 have hc:=covers_right hr;unfold askP at h;split at h
 ·rename_i hno;split at h
  ·cases h
  ·rename_i x hx;simp only[Option.some.injEq] at h;subst h;rw[List.mem_append,heads_mem hc hx]
   constructor
   ·rintro(h|h)
    ·exact Or.inl h
    ·exact Or.inr (Or.inl ⟨hno,h⟩)
   ·rintro(h|⟨_,h⟩|⟨h,_⟩)
    ·exact Or.inl h
    ·exact Or.inr h
    ·exact absurd hno h
 ·rename_i hno;rw[at_mem h f]
  constructor
  ·rintro(h1|⟨i,a,h1,h2,R,h3,e,h4,h5⟩)
   ·exact Or.inl h1
   ·rw[Nat.zero_add] at h3;exact Or.inr (Or.inr ⟨hno,i,a,e,h1,h2,(all_mem hc h3 e).1 h4,h5⟩)
  ·rintro(h1|⟨h1,_⟩|⟨_,i,a,e,h1,h2,h3,h4⟩)
   ·exact Or.inl h1
   ·exact absurd h1 hno
   ·obtain⟨R,hR⟩:=at_some h i a h1 h2;refine Or.inr ⟨i,a,h1,h2,R,hR,e,(all_mem hc hR e).2 ?_,h4⟩;rw[Nat.zero_add];exact h3
theorem makes_mem {K N:List FactB} {st:Int} (σ:RuleD→Nat):∀{p:List RuleD} {acc S:List FactB},(∀r∈p,RightR r)→makesGo K N st p (p.map σ) acc=some S→∀f,f∈S↔f∈acc∨∃r∈p,(σ r:Int)=st∧Makes K N r f
 |[],acc,S,_,h,f=>by
  simp only[makesGo,Option.some.injEq] at h;subst h;simp
 |r::p,acc,S,hp,h,f=>by
  simp only[makesGo,List.map_cons] at h;split at h
  ·rename_i hs;split at h
   ·cases h
   ·rename_i acc' ha;rw[makes_mem σ (fun q hq=>hp q (by simp[hq])) h f,ask_mem (hp r (by simp)) ha];simp only[List.mem_cons,exists_eq_or_imp]
    constructor
    ·rintro((h|h)|h)
     ·exact Or.inl h
     ·exact Or.inr (Or.inl ⟨hs,h⟩)
     ·exact Or.inr (Or.inr h)
    ·rintro(h|⟨_,h⟩|h)
     ·exact Or.inl (Or.inl h)
     ·exact Or.inl (Or.inr h)
     ·exact Or.inr h
  ·rename_i hs;rw[makes_mem σ (fun q hq=>hp q (by simp[hq])) h f];simp only[List.mem_cons,exists_eq_or_imp]
   constructor
   ·rintro(h|h)
    ·exact Or.inl h
    ·exact Or.inr (Or.inr h)
   ·rintro(h|⟨h,_⟩|h)
    ·exact Or.inl h
    ·exact absurd h hs
    ·exact Or.inr h
theorem fits_wide {K N:List FactB} {body:List AtomD} {env:List BindD} (hs:∀f∈N,f∈K) {i:Nat} {a:AtomD} (hi:body[i]?=some a) (ha:a.no=false) (h:FitsB (pickB K (i:Nat) N) body env):FitsB (fun _=>K) body env:=by
 refine⟨h.1,h.2.1,h.2.2.1,fun j b hj=> ?_⟩;obtain⟨f,hf,hb⟩:=h.2.2.2 j b hj;refine⟨f,hf,?_⟩;unfold pickB at hb;split at hb
 ·rename_i e;have e:j=i:=by omega
  subst e;rw[hi] at hj;cases hj;rw[ha] at hb⊢;exact inB_iff.2 (hs f (inB_iff.1 hb))
 ·exact hb
theorem fits_new {K N:List FactB} {body:List AtomD} {env:List BindD} {i:Nat} {a:AtomD} (hi:body[i]?=some a) (ha:a.no=false) (h:FitsB (fun _=>K) body env) {g:FactB} (hg:fillB a env=some g) (hN:g∈N):FitsB (pickB K (i:Nat) N) body env:=by
 refine⟨h.1,h.2.1,h.2.2.1,fun j b hj=> ?_⟩;obtain⟨f,hf,hb⟩:=h.2.2.2 j b hj;refine⟨f,hf,?_⟩;unfold pickB;split
 ·rename_i e;have e:j=i:=by omega
  subst e;rw[hi] at hj;cases hj;rw[hg] at hf;cases hf;rw[ha,inB_iff.2 hN];rfl
 ·exact hb
theorem makes_fits {K N:List FactB} {r:RuleD} {f:FactB} (hs:∀f∈N,f∈K) (h:Makes K N r f):∃env,FitsB (fun _=>K) r.body env∧fillB r.head env=some f:=by
 rcases h with⟨_,h⟩|⟨_,i,a,env,h1,h2,h3,h4⟩
 ·exact h
 ·exact⟨env,fits_wide hs h1 h2 h3,h4⟩
def Semi (K N:List FactB) (r:RuleD):Prop:=∀env f,FitsB (fun _=>K) r.body env→fillB r.head env=some f→f∈K∨Makes K N r f
theorem makes_new {K N:List FactB} {r:RuleD} {env:List BindD} {f:FactB} (hf:FitsB (fun _=>K) r.body env) (hh:fillB r.head env=some f) (h:∃a∈r.body,a.no=false∧∃g,fillB a env=some g∧g∈N):Makes K N r f:=by
 obtain⟨a,ha,hn,g,hg,hN⟩:=h;obtain⟨i,hi⟩:=List.getElem?_of_mem ha;refine Or.inr ⟨fun hall=> ?_,i,a,env,hi,hn,fits_new hi hn hf hg hN,hh⟩;have:=List.all_eq_true.1 hall a ha;rw[hn] at this;cases this
theorem semi_all (K:List FactB) (r:RuleD):Semi K K r:=fun env f hf hh=>by
 by_cases h:r.body.all (·.no)=true
 ·exact Or.inr (Or.inl ⟨h,env,hf,hh⟩)
 ·refine Or.inr ?_;obtain⟨a,ha,hn⟩:∃a∈r.body,a.no=false:=by
   refine Classical.byContradiction fun hx=>h (List.all_eq_true.2 fun a ha=> ?_);cases e:a.no
   ·exact absurd ⟨a,ha,e⟩ hx
   ·rfl
  obtain⟨i,hi⟩:=List.getElem?_of_mem ha;obtain⟨g,hg,hb⟩:=hf.2.2.2 i a hi;rw[hn] at hb;exact makes_new hf hh ⟨a,ha,hn,g,hg,inB_iff.1 hb⟩
theorem semi_next {K N K':List FactB} {r:RuleD} (hK:∀f∈K,f∈K') (hs:Semi K N r) (hm:∀f,Makes K N r f→f∈K') {N':List FactB} (hN:∀f∈K',f∉K→f∈N'):Semi K' N' r:=fun env f hf hh=>by
 by_cases h:∃a∈r.body,a.no=false∧∃g,fillB a env=some g∧g∈N'
 ·exact Or.inr (makes_new hf hh h)
 ·have hfK:FitsB (fun _=>K) r.body env:=by
   refine⟨hf.1,hf.2.1,hf.2.2.1,fun j b hj=> ?_⟩;obtain⟨g,hg,hb⟩:=hf.2.2.2 j b hj;refine⟨g,hg,?_⟩;have hbm:=getElem_mem' hj;cases hn:b.no
   ·rw[hn] at hb;have hgK':=inB_iff.1 hb
    by_cases hgK:g∈K
    ·rw[inB_iff.2 hgK];rfl
    ·exact absurd ⟨b,hbm,hn,g,hg,hN g hgK' hgK⟩ h
   ·rw[hn] at hb;cases hi:inB K g
    ·rfl
    ·have:=inB_iff.2 (hK g (inB_iff.1 hi));rw[this] at hb;cases hb
  rcases hs env f hfK hh with h1|h1
  ·exact Or.inl (hK f h1)
  ·exact Or.inl (hm f h1)
structure RightN (p:List RuleD) (c:Nat) (r:RunD):Prop where
 good:GoodS p r.known
 up:Up r.fresh
 sub:∀f∈r.fresh,f∈r.known
 lev:0≤r.level∧r.level≤c
 rnd:0≤r.rounds∧r.rounds≤1000
 done:r.done=decide (r.level=c)
theorem right_begin {p:List RuleD} {c:Nat} {l:List FactB} (h:GoodS p l):RightN p c ⟨l,l,0,0,decide (c=0)⟩:=
 ⟨h,h.up,fun _ h=>h,⟨Int.le_refl _,by simp⟩,⟨Int.le_refl _,by simp⟩,by
  simp only[decide_eq_decide];omega⟩
theorem makes_good {p:List RuleD} (hp:RightP p) (σ:RuleD→Nat) {K N:List FactB} {st:Int} (hK:GoodS p K) (hN:∀f∈N,f∈K) {M:List FactB} (h:makesGo K N st p (p.map σ) []=some M):∀f∈M,RightF f∧fitF p f=true:=fun f hf=>by
 rcases(makes_mem σ hp.rules h f).1 hf with h1|⟨r,hr,_,hm⟩
 ·cases h1
 ·obtain⟨env,he,hh⟩:=makes_fits hN hm;obtain⟨a,b,c⟩:=head_right (hp.rules r hr) hK.right he hh;exact⟨a,head_fit hp hr b c⟩
theorem known_good {p:List RuleD} {K M:List FactB} (hK:GoodS p K) (hM:∀f∈M,RightF f∧fitF p f=true) (hl:(setF (K++M)).length≤200):GoodS p (setF (K++M)):=by
 have key:∀f∈setF (K++M),RightF f∧fitF p f=true:=fun f hf=>by
  rcases List.mem_append.1 (mem_setF.1 hf) with h|h
  ·exact⟨hK.right f h,hK.fit f h⟩
  ·exact hM f h
 exact⟨setF_up _,fun f hf=>(key f hf).1,hl,fun f hf=>(key f hf).2⟩
theorem new_nil {K M:List FactB} (hK:Up K):newOf K M=[]↔setF (K++M)=K:=by
 constructor
 ·intro h;refine(setF_of hK fun f=> ?_).symm;rw[List.mem_append];refine⟨Or.inl,fun h1=>h1.elim id fun h1=>Classical.byContradiction fun hn=> ?_⟩;have:=mem_newOf.2 ⟨h1,hn⟩;rw[h] at this;cases this
 ·intro h;refine List.eq_nil_iff_forall_not_mem.2 fun f hf=> ?_;obtain⟨h1,h2⟩:=mem_newOf.1 hf;exact h2 (h▸mem_setF.2 (List.mem_append.2 (Or.inr h1)))
theorem next_ok {p:List RuleD} {ss:List Nat} {r x:RunD} (h:nextP p ss r=(0,x)):r.rounds≠1000∧∃M,makesGo r.known r.fresh r.level p ss []=some M∧(setF (r.known++M)).length≤200∧
  ((newOf r.known M=[]∧x=⟨setF (r.known++M),setF (r.known++M),r.level+1,r.rounds+1,decide (r.level+1=countP ss)⟩)∨(newOf r.known M≠[]∧x=⟨setF (r.known++M),newOf r.known M,r.level,r.rounds+1,false⟩)):=by
 unfold nextP at h;split at h
 ·simp at h
 ·rename_i hr;split at h
  ·simp at h
  ·rename_i M hM;split at h
   ·simp at h
   ·rename_i hl;split at h
    ·rename_i hn;simp only[Prod.mk.injEq,true_and] at h;exact⟨hr,M,hM,by omega,Or.inl ⟨hn,h.symm⟩⟩
    ·rename_i hn;simp only[Prod.mk.injEq,true_and] at h;exact⟨hr,M,hM,by omega,Or.inr ⟨hn,h.symm⟩⟩
theorem next_right {p:List RuleD} (hp:RightP p) (σ:RuleD→Nat) {r x:RunD} (hr:RightN p (countP (p.map σ)) r) (hd:r.done=false) (h:nextP p (p.map σ) r=(0,x)):
  RightN p (countP (p.map σ)) x∧(∀f∈r.known,f∈x.known)∧x.rounds=r.rounds+1∧((x.level=r.level∧r.known.length<x.known.length)∨(x.level=r.level+1∧x.known=r.known)):=by
 obtain⟨h0,M,hM,hl,hx⟩:=next_ok h;have hg:=known_good hr.good (makes_good hp σ hr.good hr.sub hM) hl;have hsub:∀f∈r.known,f∈setF (r.known++M):=fun f hf=>mem_setF.2 (List.mem_append.2 (Or.inl hf));have hdn:=hr.done;rw[hd] at hdn;have hdn:r.level≠countP (p.map σ):=by simpa using hdn.symm
 have hlev:=hr.lev;have hrnd:=hr.rnd;rcases hx with⟨hn,rfl⟩|⟨hn,rfl⟩
 ·refine⟨⟨hg,setF_up _,fun _ h=>h,⟨?_,?_⟩,⟨?_,?_⟩,rfl⟩,hsub,rfl,Or.inr ⟨rfl,(new_nil hr.good.up).1 hn⟩⟩ <;> dsimp only <;> omega
 ·refine⟨⟨hg,setF_up _,fun f hf=>mem_setF.2 (List.mem_append.2 (Or.inr (mem_newOf.1 hf).1)),⟨?_,?_⟩,⟨?_,?_⟩,?_⟩,hsub,rfl,Or.inl ⟨rfl,?_⟩⟩
  ·dsimp only;omega
  ·dsimp only;omega
  ·dsimp only;omega
  ·dsimp only;omega
  ·simp[hdn]
  ·have h1:=up_le hr.good.up hsub;refine Classical.byContradiction fun h2=>hn ((new_nil hr.good.up).2 (up_same hr.good.up (setF_up _) hsub (by dsimp only at h2;omega)).symm)
theorem steps_done {p:List RuleD} {ss:List Nat} {r:RunD} (h:r.done=true):∀n,stepsP p ss n r=(0,r)
 |0=>rfl
 |n+1=>by unfold stepsP;rw[if_pos h]
theorem steps_next {p:List RuleD} {ss:List Nat} {r:RunD} (h:r.done=false) (n:Nat):stepsP p ss (n+1) r=if(nextP p ss r).1≠0 then((nextP p ss r).1,noRun) else stepsP p ss n (nextP p ss r).2:=by
 rw[stepsP,if_neg (by simp[h])]
theorem steps_add {p:List RuleD} {ss:List Nat}:∀(n m:Nat) (r:RunD),(stepsP p ss n r).1=0→stepsP p ss (n+m) r=stepsP p ss m (stepsP p ss n r).2
 |0,m,r,_=>by rw[Nat.zero_add];rfl
 |n+1,m,r,h=>by
  rw[show n+1+m=n+m+1 by omega]
  by_cases hd:r.done=true
  ·rw[steps_done hd,steps_done hd,steps_done hd]
  ·have hd:r.done=false:=by simpa using hd
   rw[steps_next hd] at h⊢;rw[steps_next hd];split
   ·rename_i he;rw[if_pos he] at h;exact absurd h he
   ·rename_i he;rw[if_neg he] at h;exact steps_add n m _ h
theorem steps_right {p:List RuleD} (hp:RightP p) (σ:RuleD→Nat):∀(n:Nat) {r x:RunD},RightN p (countP (p.map σ)) r→stepsP p (p.map σ) n r=(0,x)→RightN p (countP (p.map σ)) x
 |0,r,x,hr,h=>by simp[stepsP] at h;subst h;exact hr
 |n+1,r,x,hr,h=>by
  unfold stepsP at h;split at h
  ·simp at h;subst h;exact hr
  ·rename_i hd;split at h
   ·rename_i he;simp at h;exact absurd h.1 he
   ·rename_i he;have hn:nextP p (p.map σ) r=(0,(nextP p (p.map σ) r).2):=by rw[←Classical.byContradiction fun h:¬(nextP p (p.map σ) r).1=0=>he h]
    exact steps_right hp σ n (next_right hp σ hr (by simpa using hd) hn).1 h
end Go.Proofs.YtafmbokfkbccaaaGreatDoor
