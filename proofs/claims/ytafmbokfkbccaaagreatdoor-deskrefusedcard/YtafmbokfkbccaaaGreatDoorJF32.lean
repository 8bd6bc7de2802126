import Derived.Test.YtafmbokfkbccaaaGreatDoorJF31
import Derived.Test.YtafmbokfkbccaaaGreatDoorJF28
import Derived.Test.YtafmbokfkbccaaaGreatDoorJF29
import Derived.Test.YtafmbokfkbccaaaGreatDoorJF30
namespace Go.Proofs.YtafmbokfkbccaaaGreatDoor
open Go.RowKit Go.Sort
theorem eX {w:World} {b o:Nat} {v:Value} (hb:b<w.heap.size) (h:w.cell? ⟨b,o,none⟩=some v) (q:Nat) (os:Array Obj):(grow (w.drewN q) os).cell? ⟨b,o,none⟩=some v:=by
 rw[(((Later.refl w).drewN q).grow os).cell (p:=⟨b,o,none⟩) hb];exact h
theorem LA:Tryz.prog.follows .mixedOrders=true:=by kernel_rfl
theorem IU {j:Nat} (h:j≤9223372036854775807):IntKind.i64.wrap (j:Int)=(j:Int):=by
 rw[IntKind.wrap_i64];omega
set_option maxHeartbeats 2000000 in
theorem IV (x y:List aF) (va vb:Value) (w:World) (ha:bV.sl bY w va x) (hb:bV.sl bY w vb y):
  Calls Tryz.prog 149 #[va,vb] w fun e w'=>e=.returned (.bool (decide (x=y)))∧Later w w':=by
 obtain⟨a1,c1,rfl⟩:=Kind.slice ha;obtain⟨a2,c2,rfl⟩:=Kind.slice hb;have HA:=hide ha;have HB:=hide hb;have hla:=ha.1.1;have hlb:=hb.1.1;clear ha hb
 by_cases h3:x.length=y.length
 ·have HXY:=hide h3;rw[h3];clear h3
  go_enter Tryz.func149,Tryz.ntmps149
  go_wp2
  go_loopg [13] y.length (fun k i wr=>∃j:Nat,j+k=y.length∧i=.int .i64 j∧Later w wr∧decide (x=y)=decide (x.drop j=y.drop j))
  case atStart=>exact⟨0,by omega,rfl,Later.refl _,by simp⟩
  case round=>
   obtain⟨j,hj,rfl,hL,hF⟩:=hrel;have HL:=hide hL;have HF:=hide hF;clear hF
   by_cases hlt:j<y.length
   ·obtain⟨y0,hy0⟩:∃x,y[j]?=some x:=⟨_,List.getElem?_eq_getElem hlt⟩;obtain⟨x0,hx0⟩:∃z,x[j]?=some z:=⟨_,List.getElem?_eq_getElem (by have:=HXY.out;omega)⟩;obtain⟨b1,o1,_,rfl,hb1,⟨v1,rfl,ht1⟩,hc1⟩:=Kind.dY HA.out hx0;obtain⟨b2,o2,_,rfl,hb2,⟨v2,rfl,ht2⟩,hc2⟩:=Kind.dY HB.out hy0;have HC:Hid (∀q os,Calls Tryz.prog 148 #[.agg #[.bool x0.no,.string (bs x0.name),v1],.agg #[.bool y0.no,.string (bs y0.name),v2]] (grow (wr.drewN q) os) fun e w'=>e=.returned (.bool (decide (x0=y0)))∧Later (grow (wr.drewN q) os) w'):=
     fun q os=>DZ x0 y0 v1 v2 _ (Kind.aN ht1 (hL.trans (((Later.refl wr).drewN q).grow os))) (Kind.aN ht2 (hL.trans (((Later.refl wr).drewN q).grow os)))
    have Kz:b1<wr.heap.size:=Nat.lt_of_lt_of_le hb1 hL.size;have GV:b2<wr.heap.size:=Nat.lt_of_lt_of_le hb2 hL.size;have d0:=eX Kz (o:=o1+j*3) (v:=.bool x0.no) (by rw[hL.cell hb1];exact hc1 0 _ rfl);have d1:=eX Kz (o:=o1+j*3+1) (v:=.string (bs x0.name)) (by rw[hL.cell hb1];exact hc1 1 _ rfl);have d2:=eX Kz (o:=o1+j*3+2) (v:=v1) (by rw[hL.cell hb1];exact hc1 2 _ rfl);have g0:=eX GV (o:=o2+j*3) (v:=.bool y0.no) (by rw[hL.cell hb2];exact hc2 0 _ rfl);have g1:=eX GV (o:=o2+j*3+1) (v:=.string (bs y0.name)) (by rw[hL.cell hb2];exact hc2 1 _ rfl);have g2:=eX GV (o:=o2+j*3+2) (v:=v2) (by rw[hL.cell hb2];exact hc2 2 _ rfl);obtain⟨ta1,tc1,rfl⟩:=Kind.slice ht1;obtain⟨ta2,tc2,rfl⟩:=Kind.slice ht2;have hjz:(j:Int)<(y.length:Int):=by omega
    have hwr:IntKind.i64.wrap (j:Int)=(j:Int):=IU (by omega);have mixed:Tryz.prog.follows .mixedOrders=true:=LA;have HD:=hide (Bb hx0 hy0);clear hc1 hc2 hx0 hy0 ht1 ht2 hL
    by_cases hxy:x0=y0
    ·rw[decide_eq_true hxy] at HD HC;have HF2:Hid (decide (x=y)=decide (x.drop (j+1)=y.drop (j+1))):=by show _=_;rw[HF.out,HD.out];rfl
     clear hxy HD HF;go_wp2
     go_quiet_grown ((go_at_call 148;exact Calls.grown_of (HC.out _ _)))
     go_wp2
     go_roundg (y.length- (j+1))
     case measure=>omega
     case rel=>exact⟨j+1,by omega,by go_num,HL.out.trans ⟨_,_,rfl⟩,HF2.out⟩
    ·rw[decide_eq_false hxy] at HD HC;have HF2:Hid (decide (x=y)=false):=by show _=_;rw[HF.out,HD.out];rfl
     clear hxy HD HF;go_wp2
     go_quiet_grown ((go_at_call 148;exact Calls.grown_of (HC.out _ _)))
     go_wp2;go_ret;exact⟨bq HF2.out.symm,HL.out.trans ⟨_,_,rfl⟩⟩
   ·have HF2:Hid (decide (x=y)=true):=by
     show _=_;rw[HF.out,List.drop_eq_nil_of_le (by have:=HXY.out;omega),List.drop_eq_nil_of_le (by omega)];rfl
    go_wp2;go_ret;exact⟨bq HF2.out.symm,HL.out⟩
 ·have h3':((x.length:Int)==y.length)=false:=by rw[beq_eq_false_iff_ne];omega
  have F2:Hid (decide (x=y)=false):=by show _=_;exact decide_eq_false fun e=>h3 (by rw[e])
  clear h3
  go_enter Tryz.func149,Tryz.ntmps149
  go_wp2;go_ret;exact⟨bq F2.out.symm,Later.refl _⟩
end Go.Proofs.YtafmbokfkbccaaaGreatDoor
namespace Go.Proofs.YtafmbokfkbccaaaGreatDoor
open Go.RowKit Go.Sort
set_option maxHeartbeats 2000000 in
theorem CU (x y:List aB) (hxy:x=y) (va vb:Value) (w:World) (ha:dO.sl bY w va x) (hb:dO.sl bY w vb y):
  Calls Tryz.prog 79 #[va,vb] w fun e w'=>e=.returned (.bool true)∧Later w w':=by
 have HXX:=hide hxy;clear hxy;obtain⟨a1,c1,rfl⟩:=Kind.slice ha;obtain⟨a2,c2,rfl⟩:=Kind.slice hb;have HA:=hide ha;have HB:=hide hb;have hla:=ha.1.1;have hlb:=hb.1.1;clear ha hb
 by_cases h3:x.length=y.length
 ·have HXY:=hide h3;rw[h3];clear h3
  go_enter Tryz.func79,Tryz.ntmps79
  go_wp2
  go_loopg [13] y.length (fun k i wr=>∃j:Nat,j+k=y.length∧i=.int .i64 j∧Later w wr)
  case atStart=>exact⟨0,by omega,rfl,Later.refl _⟩
  case round=>
   obtain⟨j,hj,rfl,hL⟩:=hrel;have HL:=hide hL
   by_cases hlt:j<y.length
   ·obtain⟨y0,hy0⟩:∃x,y[j]?=some x:=⟨_,List.getElem?_eq_getElem hlt⟩;obtain⟨x0,hx0⟩:∃z,x[j]?=some z:=⟨_,List.getElem?_eq_getElem (by have:=HXY.out;omega)⟩;obtain⟨b1,o1,_,rfl,hb1,⟨v1,u1,rfl,ht1,hs1⟩,hc1⟩:=Kind.dY HA.out hx0;obtain⟨b2,o2,_,rfl,hb2,⟨v2,u2,rfl,ht2,hs2⟩,hc2⟩:=Kind.dY HB.out hy0;have HC:Hid (∀q os,Calls Tryz.prog 148 #[.agg #[.bool x0.head.no,.string (bs x0.head.name),v1],.agg #[.bool y0.head.no,.string (bs y0.head.name),v2]] (grow (wr.drewN q) os) fun e w'=>e=.returned (.bool (decide (x0.head=y0.head)))∧Later (grow (wr.drewN q) os) w'):=
     fun q os=>DZ x0.head y0.head v1 v2 _ (Kind.aN ht1 (hL.trans (((Later.refl wr).drewN q).grow os))) (Kind.aN ht2 (hL.trans (((Later.refl wr).drewN q).grow os)))
    have HS:Hid (∀q os,Calls Tryz.prog 149 #[u1,u2] (grow (wr.drewN q) os) fun e w'=>e=.returned (.bool (decide (x0.body=y0.body)))∧Later (grow (wr.drewN q) os) w'):=
     fun q os=>IV x0.body y0.body u1 u2 _ (Kind.aN hs1 (hL.trans (((Later.refl wr).drewN q).grow os))) (Kind.aN hs2 (hL.trans (((Later.refl wr).drewN q).grow os)))
    have Kz:b1<wr.heap.size:=Nat.lt_of_lt_of_le hb1 hL.size;have GV:b2<wr.heap.size:=Nat.lt_of_lt_of_le hb2 hL.size;have d0:=eX Kz (o:=o1+j*4) (v:=.bool x0.head.no) (by rw[hL.cell hb1];exact hc1 0 _ rfl);have d1:=eX Kz (o:=o1+j*4+1) (v:=.string (bs x0.head.name)) (by rw[hL.cell hb1];exact hc1 1 _ rfl);have d2:=eX Kz (o:=o1+j*4+2) (v:=v1) (by rw[hL.cell hb1];exact hc1 2 _ rfl);have d3:=eX Kz (o:=o1+j*4+3) (v:=u1) (by rw[hL.cell hb1];exact hc1 3 _ rfl);have g0:=eX GV (o:=o2+j*4) (v:=.bool y0.head.no) (by rw[hL.cell hb2];exact hc2 0 _ rfl);have g1:=eX GV (o:=o2+j*4+1) (v:=.string (bs y0.head.name)) (by rw[hL.cell hb2];exact hc2 1 _ rfl);have g2:=eX GV (o:=o2+j*4+2) (v:=v2) (by rw[hL.cell hb2];exact hc2 2 _ rfl);have g3:=eX GV (o:=o2+j*4+3) (v:=u2) (by rw[hL.cell hb2];exact hc2 3 _ rfl);obtain⟨ta1,tc1,rfl⟩:=Kind.slice ht1;obtain⟨ta2,tc2,rfl⟩:=Kind.slice ht2;obtain⟨ba1,bc1,rfl⟩:=Kind.slice hs1;obtain⟨ba2,bc2,rfl⟩:=Kind.slice hs2;have hjz:(j:Int)<(y.length:Int):=by omega
    have hwr:IntKind.i64.wrap (j:Int)=(j:Int):=IU (by omega);have mixed:Tryz.prog.follows .mixedOrders=true:=LA;have h00:x0=y0:=by
     have h1:=hx0;rw[HXX.out,hy0] at h1;exact(Option.some.inj h1).symm
    rw[decide_eq_true (by rw[h00])] at HC HS;clear h00;clear hc1 hc2 hx0 hy0 ht1 ht2 hs1 hs2 hL;go_wp2
    go_quiet_grown ((first|(go_at_call 148;exact Calls.grown_of (HC.out _ _))|(go_at_call 149;exact Calls.grown_of (HS.out _ _))))
    go_wp2
    go_roundg (y.length- (j+1))
    case measure=>omega
    case rel=>exact⟨j+1,by omega,by go_num,HL.out.trans ⟨_,_,rfl⟩⟩
   ·go_wp2;go_ret;exact⟨rfl,HL.out⟩
 ·exact absurd (by rw[HXX.out]) h3
end Go.Proofs.YtafmbokfkbccaaaGreatDoor
namespace Go.Proofs.YtafmbokfkbccaaaGreatDoor
open Go.RowKit Go.Sort
theorem AZ.slices {B:Nat→Prop} {w:World} {v:Value} {d:dH} (h:AZ B w v d):∃a1 c1 a2 c2 a3 c3 a4 c4 a5 c5,v=.agg #[.slice a1 d.told.length c1,.slice a2 d.rules.length c2,.bool d.running,.slice a3 d.run.known.length c3,.slice a4 d.run.fresh.length c4,.int .i64 d.run.level,.int .i64 d.run.rounds,.bool d.run.done,.slice a5 d.saved.length c5]∧
  bC B w (.slice a1 d.told.length c1) d.told∧dO.sl B w (.slice a2 d.rules.length c2) d.rules∧bC B w (.slice a3 d.run.known.length c3) d.run.known∧bC B w (.slice a4 d.run.fresh.length c4) d.run.fresh∧kS.sl B w (.slice a5 d.saved.length c5) d.saved:=by
 obtain⟨tv,rv,kv,nv,sv,rfl,q1,q2,q3,q4,q5⟩:=h;obtain⟨xa1,xc1,rfl⟩:=q1.slice;obtain⟨xa2,xc2,rfl⟩:=Kind.slice q2;obtain⟨xa3,xc3,rfl⟩:=q3.slice;obtain⟨xa4,xc4,rfl⟩:=q4.slice;obtain⟨xa5,xc5,rfl⟩:=Kind.slice q5;exact⟨_,_,_,_,_,_,_,_,_,_,rfl,q1,q2,q3,q4,q5⟩
theorem AZ.below {B:Nat→Prop} {w w':World} {v:Value} {d:dH} (h:AZ B w v d) (k:Below w.heap.size w w'):AZ B w' v d:=by
 obtain⟨tv,rv,kv,nv,sv,e,q1,q2,q3,q4,q5⟩:=h;exact⟨tv,rv,kv,nv,sv,e,q1.below k,Kind.aM q2 k.size fun i hi _=>k.block i hi,q3.below k,q4.below k,Kind.aM q5 k.size fun i hi _=>k.block i hi⟩
set_option maxRecDepth 100000 in
set_option maxHeartbeats 4000000 in
theorem KA {B B':Nat→Prop} (d:dH) (v1 v2:Value) (w:World) (h1:AZ B w v1 d) (h2:AZ B' w v2 d):
  Calls Tryz.prog 32 #[v1,v2] w fun e w'=>e=.returned (.bool true)∧Later w w':=by
 obtain⟨xa1,xc1,xa2,xc2,xa3,xc3,xa4,xc4,xa5,xc5,rfl,q1,q2,q3,q4,q5⟩:=h1.slices;obtain⟨ya1,yc1,ya2,yc2,ya3,yc3,ya4,yc4,ya5,yc5,rfl,r1,r2,r3,r4,r5⟩:=h2.slices;obtain⟨w1,hw1⟩:∃w1,w1=(w.alloc (.cells #[.slice xa1 d.told.length xc1,.slice xa2 d.rules.length xc2,.bool d.running,.slice xa3 d.run.known.length xc3,.slice xa4 d.run.fresh.length xc4,.int .i64 d.run.level,.int .i64 d.run.rounds,.bool d.run.done,.slice xa5 d.saved.length xc5] 56)).alloc (.cells #[.slice ya1 d.told.length yc1,.slice ya2 d.rules.length yc2,.bool d.running,.slice ya3 d.run.known.length yc3,.slice ya4 d.run.fresh.length yc4,.int .i64 d.run.level,.int .i64 d.run.rounds,.bool d.run.done,.slice ya5 d.saved.length yc5] 56):=⟨_,rfl⟩;have hL1:Later w w1:=by rw[hw1];exact((Later.refl _).alloc _).alloc _
 have hr1:w1.heap[w.heap.size]?=some (.cells #[.slice xa1 d.told.length xc1,.slice xa2 d.rules.length xc2,.bool d.running,.slice xa3 d.run.known.length xc3,.slice xa4 d.run.fresh.length xc4,.int .i64 d.run.level,.int .i64 d.run.rounds,.bool d.run.done,.slice xa5 d.saved.length xc5] 56 (0,0)):=by rw[hw1,gJ,if_neg (by simp)];exact heap_alloc_new _ _
 have hr2:w1.heap[w.heap.size+1]?=some (.cells #[.slice ya1 d.told.length yc1,.slice ya2 d.rules.length yc2,.bool d.running,.slice ya3 d.run.known.length yc3,.slice ya4 d.run.fresh.length yc4,.int .i64 d.run.level,.int .i64 d.run.rounds,.bool d.run.done,.slice ya5 d.saved.length yc5] 56 (0,0)):=by rw[hw1,gJ,if_pos (by simp)]
 have Nn:Hid (∀w',Later w1 w'→w'.heap[w.heap.size]?=_∧w'.heap[w.heap.size+1]?=_):=fun w' h=>⟨(h.block (Array.getElem?_eq_some_iff.1 hr1).1).trans hr1,(h.block (Array.getElem?_eq_some_iff.1 hr2).1).trans hr2⟩;have HS:=hide (Nj _ _ d.told w1 (q1.facts.later hL1) (r1.facts.later hL1));have HP:Hid (∀w',Later w1 w'→Calls Tryz.prog 79 #[.slice xa2 d.rules.length xc2,.slice ya2 d.rules.length yc2] w' fun e w''=>e=.returned (.bool true)∧Later w' w''):=fun w' h=>CU _ _ rfl _ _ w' (Kind.aN (Kind.bW q2) (hL1.trans h)) (Kind.aN (Kind.bW r2) (hL1.trans h));have HR:Hid (∀w',Later w1 w'→Calls Tryz.prog 29 #[.agg #[.slice xa3 d.run.known.length xc3,.slice xa4 d.run.fresh.length xc4,.int .i64 d.run.level,.int .i64 d.run.rounds,.bool d.run.done],.agg #[.slice ya3 d.run.known.length yc3,.slice ya4 d.run.fresh.length yc4,.int .i64 d.run.level,.int .i64 d.run.rounds,.bool d.run.done]] w' fun e w''=>e=.returned (.bool true)∧Later w' w''):=fun w' h=>
  Nk d.run _ _ w' ⟨_,_,rfl,q3.facts.later (hL1.trans h),q4.facts.later (hL1.trans h)⟩ ⟨_,_,rfl,r3.facts.later (hL1.trans h),r4.facts.later (hL1.trans h)⟩
 have HC:Hid (∀w',Later w1 w'→(convert 48 9 (.slice xa5 d.saved.length xc5)).run Tryz.prog w'=.ok (.string (bs d.saved)) w'∧(convert 48 9 (.slice ya5 d.saved.length yc5)).run Tryz.prog w'=.ok (.string (bs d.saved)) w'):=fun w' h=>
  ⟨MN (dI.of (Kind.aN (Kind.bW q5) (hL1.trans h))),MN (dI.of (Kind.aN (Kind.bW r5) (hL1.trans h)))⟩
 obtain⟨⟨c0,c1,c2,c3,c4,c5,c6,c7,c8⟩,_,_⟩:=iX hr1;obtain⟨⟨d0,d1,d2,d3,d4,d5,d6,d7,d8⟩,_,_⟩:=iX hr2;have HW1:=hide hw1;have HL1:=hide hL1;clear hw1 hr1 hr2 hL1 q1 q2 q3 q4 q5 r1 r2 r3 r4 r5 h1 h2
 go_enter Tryz.func32,Tryz.ntmps32
 go_wp2_with (first|(rw[←HW1.out])|fail)
 refine HS.out.mono ?_;rintro e w2 ⟨rfl,hL2⟩;have hP2:=HP.out w2 hL2;clear c0 c1 c2 c3 c4 c5 c6 c7 c8 d0 d1 d2 d3 d4 d5 d6 d7 d8;obtain⟨s1,s2⟩:=Nn.out w2 hL2;obtain⟨⟨c0,c1,c2,c3,c4,c5,c6,c7,c8⟩,_,_⟩:=iX s1;obtain⟨⟨d0,d1,d2,d3,d4,d5,d6,d7,d8⟩,_,_⟩:=iX s2
 go_wp2_with fail
 refine hP2.mono ?_;rintro e w3 ⟨rfl,hL3⟩;have NR:=hL2.trans hL3;have hR3:=HR.out w3 NR;clear c0 c1 c2 c3 c4 c5 c6 c7 c8 d0 d1 d2 d3 d4 d5 d6 d7 d8 s1 s2 hP2;obtain⟨s1,s2⟩:=Nn.out w3 NR;obtain⟨⟨c0,c1,c2,c3,c4,c5,c6,c7,c8⟩,_,_⟩:=iX s1;obtain⟨⟨d0,d1,d2,d3,d4,d5,d6,d7,d8⟩,_,_⟩:=iX s2;have hrr:(d.running==d.running)=true:=by simp
 go_wp2_with fail
 refine hR3.mono ?_;rintro e w4 ⟨rfl,hL4⟩;have QK:=NR.trans hL4;have Wo:=hide (HL1.out.trans QK);clear c0 c1 c2 c3 c4 c5 c6 c7 c8 d0 d1 d2 d3 d4 d5 d6 d7 d8 s1 s2 hR3 hrr;obtain⟨s1,s2⟩:=Nn.out w4 QK;obtain⟨⟨c0,c1,c2,c3,c4,c5,c6,c7,c8⟩,_,_⟩:=iX s1;obtain⟨⟨d0,d1,d2,d3,d4,d5,d6,d7,d8⟩,_,_⟩:=iX s2;obtain⟨hv1,hv2⟩:=HC.out w4 QK;clear hL2 hL3 NR hL4 QK s1 s2;go_wp2;go_ret;exact⟨rfl,Wo.out⟩
end Go.Proofs.YtafmbokfkbccaaaGreatDoor
namespace Go.Proofs.YtafmbokfkbccaaaGreatDoor
open Go.RowKit Go.Sort
def Wp (s:ByteArray):DoD:=⟨5,0,(⟨#[]⟩,[]),s⟩
theorem vH.made (w:World):vH w (w.alloc (.cells #[] 72)) (.slice (some ⟨w.heap.size,0,none⟩) 0 0) []:=by
 refine⟨⟨[],World.ownsRow_made w #[] 0 (Nat.zero_le _) (by simp[maxLen]) (by simp),fun i x h=>by simp at h⟩,fun k e=> ?_,((Later.refl w).alloc _).below⟩;simp only[Value.ownBlock,Option.some.injEq] at e;omega
end Go.Proofs.YtafmbokfkbccaaaGreatDoor
