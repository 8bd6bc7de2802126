import Derived.Shelf.SlSortCmp.WholeK
import Derived.Test.YtafmbokfkbccaaaGreatDoorProg
import Derived.Shelf.SlSortCmp.Whole1
import Derived.Test.YtafmbokfkbccaaaGreatDoorJT9
import Derived.Shelf.SlSortCmp.NoneTotal
namespace Go.Proofs
open Go.Shelf
def Tryz.sortBinds_ren:Go.Shelf.Ren:=⟨fun|6=>220|15=>237|14=>269|28=>286|29=>287|20=>300|21=>301|22=>302|23=>303|24=>304|25=>305|26=>306|27=>307|46=>332|47=>324|48=>325|49=>333|50=>334|57=>345|n=>n,fun|22=>158|24=>190|25=>289|3=>3|39=>202|0=>0|53=>343|55=>345|4=>4|46=>337|45=>336|50=>199|5=>5|9=>9|66=>370|70=>374|76=>389|77=>31|n=>n,fun|n=>n⟩
theorem Tryz.sortBinds:Go.Proofs.SlLaysF0.n6 Tryz.prog Tryz.sortBinds_ren:={
 mixed:=by kernel_rfl
 f6:=⟨Tryz.f220.name,by decide,Tryz.func220.trans (congrArg some (by kernel_rfl))⟩
 f14:=⟨Tryz.f269.name,by decide,Tryz.func269.trans (congrArg some (by kernel_rfl))⟩
 f15:=Tryz.func237.trans (congrArg some (by kernel_rfl))
 f20:=⟨Tryz.f300.name,by decide,Tryz.func300.trans (congrArg some (by kernel_rfl))⟩
 f21:=⟨Tryz.f301.name,by decide,Tryz.func301.trans (congrArg some (by kernel_rfl))⟩
 f22:=⟨Tryz.f302.name,by decide,Tryz.func302.trans (congrArg some (by kernel_rfl))⟩
 f23:=⟨Tryz.f303.name,by decide,Tryz.func303.trans (congrArg some (by kernel_rfl))⟩
 f24:=⟨Tryz.f304.name,by decide,Tryz.func304.trans (congrArg some (by kernel_rfl))⟩
 f25:=⟨Tryz.f305.name,by decide,Tryz.func305.trans (congrArg some (by kernel_rfl))⟩
 f26:=⟨Tryz.f306.name,by decide,Tryz.func306.trans (congrArg some (by kernel_rfl))⟩
 f27:=⟨Tryz.f307.name,by decide,Tryz.func307.trans (congrArg some (by kernel_rfl))⟩
 f28:=Tryz.func286.trans (congrArg some (by kernel_rfl))
 f29:=Tryz.func287.trans (congrArg some (by kernel_rfl))
 f46:=⟨Tryz.f332.name,by decide,Tryz.func332.trans (congrArg some (by kernel_rfl))⟩
 f47:=Tryz.func324.trans (congrArg some (by kernel_rfl))
 f48:=Tryz.func325.trans (congrArg some (by kernel_rfl))
 f49:=⟨Tryz.f333.name,by decide,Tryz.func333.trans (congrArg some (by kernel_rfl))⟩
 f50:=⟨Tryz.f334.name,by decide,Tryz.func334.trans (congrArg some (by kernel_rfl))⟩
 f57:=⟨Tryz.f345.name,by decide,Tryz.func345.trans (congrArg some (by kernel_rfl))⟩
 t0:=Tryz.underlying0
 a0:=Tryz.isAgg0
 z0:=Tryz.sizeOf0
 v0:=Tryz.zeroValue0
 t3:=Tryz.underlying3
 a3:=Tryz.isAgg3
 z3:=Tryz.sizeOf3
 v3:=Tryz.zeroValue3
 t4:=Tryz.underlying4
 a4:=Tryz.isAgg4
 z4:=Tryz.sizeOf4
 v4:=Tryz.zeroValue4
 t5:=Tryz.underlying5
 a5:=Tryz.isAgg5
 z5:=Tryz.sizeOf5
 v5:=Tryz.zeroValue5
 t9:=Tryz.underlying9
 a9:=Tryz.isAgg9
 z9:=Tryz.sizeOf9
 v9:=Tryz.zeroValue9
 t22:=Tryz.underlying158
 a22:=Tryz.isAgg158
 z22:=Tryz.sizeOf158
 v22:=Tryz.zeroValue158
 t25:=Tryz.underlying289
 a25:=Tryz.isAgg289
 z25:=Tryz.sizeOf289
 v25:=Tryz.zeroValue289
 t39:=Tryz.underlying202
 a39:=Tryz.isAgg202
 z39:=Tryz.sizeOf202
 v39:=Tryz.zeroValue202
 t45:=Tryz.underlying336
 a45:=Tryz.isAgg336
 z45:=Tryz.sizeOf336
 v45:=Tryz.zeroValue336
 t46:=Tryz.underlying337
 a46:=Tryz.isAgg337
 z46:=Tryz.sizeOf337
 v46:=Tryz.zeroValue337
 t50:=Tryz.underlying199
 a50:=Tryz.isAgg199
 z50:=Tryz.sizeOf199
 v50:=Tryz.zeroValue199
 t53:=Tryz.underlying343
 a53:=Tryz.isAgg343
 z53:=Tryz.sizeOf343
 v53:=Tryz.zeroValue343
 t55:=Tryz.underlying345
 a55:=Tryz.isAgg345
 z55:=Tryz.sizeOf345
 v55:=Tryz.zeroValue345
 t66:=Tryz.underlying370
 a66:=Tryz.isAgg370
 z66:=Tryz.sizeOf370
 v66:=Tryz.zeroValue370
 t70:=Tryz.underlying374
 a70:=Tryz.isAgg374
 z70:=Tryz.sizeOf374
 v70:=Tryz.zeroValue374
 t76:=Tryz.underlying389
 a76:=Tryz.isAgg389
 z76:=Tryz.sizeOf389
 v76:=Tryz.zeroValue389
 t77:=Tryz.underlying31
 a77:=Tryz.isAgg31
 z77:=Tryz.sizeOf31
 v77:=Tryz.zeroValue31}
end Go.Proofs
namespace Go.Proofs
open Go.Shelf
def Tryz.sortLists_ren:Go.Shelf.Ren:=⟨fun|6=>222|15=>237|14=>271|28=>286|29=>287|20=>308|21=>309|22=>310|23=>311|24=>312|25=>313|26=>314|27=>315|46=>335|47=>324|48=>325|49=>336|50=>337|57=>346|n=>n,fun|22=>62|24=>158|25=>292|3=>3|39=>202|0=>0|53=>343|55=>345|4=>4|46=>337|45=>336|50=>199|5=>5|9=>9|66=>370|70=>374|76=>389|77=>31|n=>n,fun|n=>n⟩
theorem Tryz.sortLists:Go.Proofs.SlLaysF.n6 Tryz.prog Tryz.sortLists_ren:={
 mixed:=by kernel_rfl
 f6:=⟨Tryz.f222.name,by decide,Tryz.func222.trans (congrArg some (by kernel_rfl))⟩
 f14:=⟨Tryz.f271.name,by decide,Tryz.func271.trans (congrArg some (by kernel_rfl))⟩
 f15:=Tryz.func237.trans (congrArg some (by kernel_rfl))
 f20:=⟨Tryz.f308.name,by decide,Tryz.func308.trans (congrArg some (by kernel_rfl))⟩
 f21:=⟨Tryz.f309.name,by decide,Tryz.func309.trans (congrArg some (by kernel_rfl))⟩
 f22:=⟨Tryz.f310.name,by decide,Tryz.func310.trans (congrArg some (by kernel_rfl))⟩
 f23:=⟨Tryz.f311.name,by decide,Tryz.func311.trans (congrArg some (by kernel_rfl))⟩
 f24:=⟨Tryz.f312.name,by decide,Tryz.func312.trans (congrArg some (by kernel_rfl))⟩
 f25:=⟨Tryz.f313.name,by decide,Tryz.func313.trans (congrArg some (by kernel_rfl))⟩
 f26:=⟨Tryz.f314.name,by decide,Tryz.func314.trans (congrArg some (by kernel_rfl))⟩
 f27:=⟨Tryz.f315.name,by decide,Tryz.func315.trans (congrArg some (by kernel_rfl))⟩
 f28:=Tryz.func286.trans (congrArg some (by kernel_rfl))
 f29:=Tryz.func287.trans (congrArg some (by kernel_rfl))
 f46:=⟨Tryz.f335.name,by decide,Tryz.func335.trans (congrArg some (by kernel_rfl))⟩
 f47:=Tryz.func324.trans (congrArg some (by kernel_rfl))
 f48:=Tryz.func325.trans (congrArg some (by kernel_rfl))
 f49:=⟨Tryz.f336.name,by decide,Tryz.func336.trans (congrArg some (by kernel_rfl))⟩
 f50:=⟨Tryz.f337.name,by decide,Tryz.func337.trans (congrArg some (by kernel_rfl))⟩
 f57:=⟨Tryz.f346.name,by decide,Tryz.func346.trans (congrArg some (by kernel_rfl))⟩
 t0:=Tryz.underlying0
 a0:=Tryz.isAgg0
 z0:=Tryz.sizeOf0
 v0:=Tryz.zeroValue0
 t3:=Tryz.underlying3
 a3:=Tryz.isAgg3
 z3:=Tryz.sizeOf3
 v3:=Tryz.zeroValue3
 t4:=Tryz.underlying4
 a4:=Tryz.isAgg4
 z4:=Tryz.sizeOf4
 v4:=Tryz.zeroValue4
 t5:=Tryz.underlying5
 a5:=Tryz.isAgg5
 z5:=Tryz.sizeOf5
 v5:=Tryz.zeroValue5
 t9:=Tryz.underlying9
 a9:=Tryz.isAgg9
 z9:=Tryz.sizeOf9
 v9:=Tryz.zeroValue9
 t22:=Tryz.underlying62
 a22:=Tryz.isAgg62
 z22:=Tryz.sizeOf62
 v22:=Tryz.zeroValue62
 a24:=Tryz.isAgg158
 z24:=Tryz.sizeOf158
 t25:=Tryz.underlying292
 a25:=Tryz.isAgg292
 z25:=Tryz.sizeOf292
 v25:=Tryz.zeroValue292
 t39:=Tryz.underlying202
 a39:=Tryz.isAgg202
 z39:=Tryz.sizeOf202
 v39:=Tryz.zeroValue202
 t45:=Tryz.underlying336
 a45:=Tryz.isAgg336
 z45:=Tryz.sizeOf336
 v45:=Tryz.zeroValue336
 t46:=Tryz.underlying337
 a46:=Tryz.isAgg337
 z46:=Tryz.sizeOf337
 v46:=Tryz.zeroValue337
 t50:=Tryz.underlying199
 a50:=Tryz.isAgg199
 z50:=Tryz.sizeOf199
 v50:=Tryz.zeroValue199
 t53:=Tryz.underlying343
 a53:=Tryz.isAgg343
 z53:=Tryz.sizeOf343
 v53:=Tryz.zeroValue343
 t55:=Tryz.underlying345
 a55:=Tryz.isAgg345
 z55:=Tryz.sizeOf345
 v55:=Tryz.zeroValue345
 t66:=Tryz.underlying370
 a66:=Tryz.isAgg370
 z66:=Tryz.sizeOf370
 v66:=Tryz.zeroValue370
 t70:=Tryz.underlying374
 a70:=Tryz.isAgg374
 z70:=Tryz.sizeOf374
 v70:=Tryz.zeroValue374
 t76:=Tryz.underlying389
 a76:=Tryz.isAgg389
 z76:=Tryz.sizeOf389
 v76:=Tryz.zeroValue389
 t77:=Tryz.underlying31
 a77:=Tryz.isAgg31
 z77:=Tryz.sizeOf31
 v77:=Tryz.zeroValue31}
end Go.Proofs
namespace Go.Proofs.YtafmbokfkbccaaaGreatDoor
open Go.RowKit Go.Sort Go.Shelf
set_option maxHeartbeats 1000000 in
theorem orC (c cp:Nat) (x y:Int) (w:World) (h0:w.cell? ⟨c,0,none⟩=some (.int .i64 x)) (h1:w.cell? ⟨c,1,none⟩=some (.int .i64 y)):
  Calls Tryz.prog 270 #[.slice (some ⟨c,0,none⟩) 2 cp] w fun e w'=>e=.returned (.int .i64 (if x≠0 then x else y))∧w'=w:=by
 by_cases hx:x=0
 ·subst hx
  by_cases hy:y=0
  ·subst hy
   go_enter Tryz.func270,Tryz.ntmps270
   go_wp2;refine wp_loop_rounds 3 ?_;rw[rounds_succ];go_wp2;rw[rounds_succ];go_wp2;rw[rounds_succ];go_wp2;go_ret;exact⟨rfl,rfl⟩
  ·have hq:(y != 0)=true:=by simpa using hy
   go_enter Tryz.func270,Tryz.ntmps270
   go_wp2;refine wp_loop_rounds 3 ?_;rw[rounds_succ];go_wp2;rw[rounds_succ];go_wp2;go_ret;exact⟨rfl,rfl⟩
 ·have hq:(x != 0)=true:=by simpa using hx
  rw[if_pos hx];clear hx
  go_enter Tryz.func270,Tryz.ntmps270
  go_wp2;refine wp_loop_rounds 3 ?_;rw[rounds_succ];go_wp2;go_ret;exact⟨rfl,rfl⟩
set_option maxRecDepth 100000 in
set_option maxHeartbeats 2000000 in
theorem DJ (a b:aB) (w:World):Calls Tryz.prog 221 #[.agg (zM a).toArray,.agg (zM b).toArray] w fun e w'=>e=.returned (.int .i64 (l7 a b))∧Later w w':=by
 obtain⟨a1,a2⟩:=a;obtain⟨b1,b2⟩:=b;show Calls _ _ #[.agg #[.string a1,.string a2],.agg #[.string b1,.string b2]] _ fun e w'=>e=.returned (.int .i64 (if jl a1 b1≠0 then jl a1 b1 else jl a2 b2))∧_;generalize hwb:(w.alloc (.cells #[.string a1,.string a2] 190)).alloc (.cells #[.string b1,.string b2] 190)=wb;have HWB:=hide hwb;have hLb:Later w wb:=by rw[←hwb];exact(by repeat (first|exact Later.refl _|assumption|refine Later.drewN ?_ _|refine Later.drew ?_|refine Later.alloc ?_ _|refine Later.grow ?_ _))
 have z0:wb.cell? ⟨w.heap.size,0,none⟩=some (.string a1):=by rw[←hwb];simp
 have z1:wb.cell? ⟨w.heap.size,1,none⟩=some (.string a2):=by rw[←hwb];simp
 have z2:wb.cell? ⟨w.heap.size+1,0,none⟩=some (.string b1):=by rw[←hwb];simp
 have z3:wb.cell? ⟨w.heap.size+1,1,none⟩=some (.string b2):=by rw[←hwb];simp
 have hsb:wb.heap.size=w.heap.size+2:=by rw[←hwb];simp
 clear hwb;obtain⟨r,hr⟩:∃r,r=if jl a1 b1≠0 then jl a1 b1 else jl a2 b2:=⟨_,rfl⟩;have HOr:Hid (∀(c:Nat) (w:World),w.cell? ⟨c,0,none⟩=some (.int .i64 (jl a1 b1))→w.cell? ⟨c,1,none⟩=some (.int .i64 (jl a2 b2))→Calls Tryz.prog 270 #[.slice (some ⟨c,0,none⟩) 2 2] w fun e w'=>e=.returned (.int .i64 r)∧w'=w):=fun c w h0 h1=>by
  rw[hr];exact orC c 2 _ _ w h0 h1
 rw[←hr];clear hr
 go_enter Tryz.func221,Tryz.ntmps221
 go_wp2;rw[HWB.out];have cell:∀w',Later wb w'→w'.cell? ⟨w.heap.size,0,none⟩=some (.string a1)∧w'.cell? ⟨w.heap.size,1,none⟩=some (.string a2)∧w'.cell? ⟨w.heap.size+1,0,none⟩=some (.string b1)∧w'.cell? ⟨w.heap.size+1,1,none⟩=some (.string b2):=fun w' hL=>
  ⟨by rw[hL.cell (by show w.heap.size<_;omega)];exact z0,by rw[hL.cell (by show w.heap.size<_;omega)];exact z1,by rw[hL.cell (by show w.heap.size+1<_;omega)];exact z2,by rw[hL.cell (by show w.heap.size+1<_;omega)];exact z3⟩
 have CELL:=hide cell;clear cell z0 z1 z2 z3 hsb;refine wp_region_held_drew (S:=fun w'=>Later wb w') (by kernel_rfl) (Later.refl _).drew (fun hHeld=> ?_);refine ak (i:=0) (d:=some 5) (v:= ?_) rfl rfl hHeld ?_ ?_;rotate_left;focus intro w hSw;(try dsimp only at hSw);go_simp;try with_reducible rfl
 simp only[aK,aL,aze,asu];refine ak (i:=1) (d:=some 6) (v:= ?_) rfl rfl hHeld ?_ ?_;rotate_left;focus intro w hSw;(try dsimp only at hSw);obtain⟨q0,q1,q2,q3⟩:=CELL.out w hSw;go_simp;try with_reducible rfl
 simp only[aK,aL,aze,asu];refine ak (i:=2) (d:=some 7) (v:= ?_) rfl rfl hHeld ?_ ?_;rotate_left;focus intro w hSw;(try dsimp only at hSw);go_simp;try with_reducible rfl
 simp only[aK,aL,aze,asu];refine ak (i:=3) (d:=some 8) (v:= ?_) rfl rfl hHeld ?_ ?_;rotate_left;focus intro w hSw;(try dsimp only at hSw);obtain⟨q0,q1,q2,q3⟩:=CELL.out w hSw;go_simp;try with_reducible rfl
 simp only[aK,aL,aze,asu];refine ak (i:=5) (d:=some 10) (v:= ?_) rfl rfl hHeld ?_ ?_;rotate_left;focus intro w hSw;(try dsimp only at hSw);go_simp;try with_reducible rfl
 simp only[aK,aL,aze,asu];refine ak (i:=6) (d:=some 11) (v:= ?_) rfl rfl hHeld ?_ ?_;rotate_left;focus intro w hSw;(try dsimp only at hSw);obtain⟨q0,q1,q2,q3⟩:=CELL.out w hSw;go_simp;try with_reducible rfl
 simp only[aK,aL,aze,asu];refine ak (i:=7) (d:=some 12) (v:= ?_) rfl rfl hHeld ?_ ?_;rotate_left;focus intro w hSw;(try dsimp only at hSw);go_simp;try with_reducible rfl
 simp only[aK,aL,aze,asu];refine ak (i:=8) (d:=some 13) (v:= ?_) rfl rfl hHeld ?_ ?_;rotate_left;focus intro w hSw;(try dsimp only at hSw);obtain⟨q0,q1,q2,q3⟩:=CELL.out w hSw;go_simp;try with_reducible rfl
 simp only[aK,aL,aze,asu];refine wpAnyH_ready (rs:=[4]) (by kernel_rfl) (by simp) ?_;refine AllReadyH.cons rfl (fun K hK=> ?_) AllReadyH.nil;go_simp;refine(kU _ _ _).mono ?_;rintro e u1 ⟨rfl,rfl⟩;dsimp only;refine hK.out _ _ hHeld (fun hHeld=> ?_);clear hK K;refine wpAnyH_ready (rs:=[9]) (by kernel_rfl) (by simp) ?_;refine AllReadyH.cons rfl (fun K hK=> ?_) AllReadyH.nil;go_simp;refine(kU _ _ _).mono ?_;rintro e u2 ⟨rfl,rfl⟩;dsimp only;refine hK.out _ _ hHeld (fun hHeld=> ?_);clear hK K;refine wpAnyH_ready (rs:=[10]) (by kernel_rfl) (by simp) ?_;refine AllReadyH.cons rfl (fun K hK=> ?_) AllReadyH.nil;go_simp;refine hK.out _ _ (hHeld.alloc _) (fun hHeld=> ?_);clear hK K;refine wpAnyH_ready (rs:=[11]) (by kernel_rfl) (by simp) ?_;refine AllReadyH.cons rfl (fun K hK=> ?_) AllReadyH.nil;go_simp;refine(HOr.out _ _ (by simp) (by simp)).mono ?_;rintro e u3 ⟨rfl,rfl⟩;dsimp only;refine hK.out _ _ hHeld (fun hHeld=> ?_);clear hK K;refine ak (i:=12) (d:=some 4) (v:= ?_) rfl rfl hHeld ?_ ?_;rotate_left;focus intro w hSw;(try dsimp only at hSw);go_simp;try with_reducible rfl
 simp only[aK,aL,aze,asu];refine wpAnyH_done (by kernel_rfl) ?_ _;go_wp2;go_ret;exact⟨rfl,hLb.trans hHeld⟩
set_option maxRecDepth 100000 in
set_option maxHeartbeats 2000000 in
theorem Io (u v:Value) (l m:List aB) (w:World) (hu:bq.sl bg w u l) (hv:bq.sl bg w v m):
  Calls Tryz.prog 224 #[u,v,.func (.func 221) #[] #[]] w fun e w'=>e=.returned (.int .i64 (gP l m))∧Later w w':=by
 obtain⟨a,cap,rfl⟩:=Kind.slice hu;obtain⟨a',cap',rfl⟩:=Kind.slice hv;have hl:=hu.1.1;have hm:=hv.1.1;have HU:=hide hu;have HV:=hide hv;clear hu hv
 go_enter Tryz.func224,Tryz.ntmps224
 go_wp2
 go_loopg [13] l.length (fun g i wr=>∃j:Nat,j+g=l.length∧i=.int .i64 j∧Hid (gP l m=gP (l.drop j) (m.drop j))∧Hid (j≤m.length)∧Hid (Later w wr))
 case atStart=>exact⟨0,by omega,rfl,(rfl:_=_),(Nat.zero_le _:_≤_),Later.refl _⟩
 case round=>
  obtain⟨j,hj,rfl,HE,HJ,HL⟩:=hrel;have hjm:=HJ.out
  by_cases hlt:j<l.length
  ·obtain⟨x,hx⟩:∃x,l[j]?=some x:=⟨_,List.getElem?_eq_getElem hlt⟩;obtain⟨b1,o1,_,rfl,hb1,rfl,hc⟩:=Kind.bQ HU.out hx;have d0:wr.cell? ⟨b1,o1+j*2,none⟩=some (.string x.1):=by rw[HL.out.cell hb1];exact hc 0 _ rfl
   have d1:wr.cell? ⟨b1,o1+j*2+1,none⟩=some (.string x.2):=by rw[HL.out.cell hb1];exact hc 1 _ rfl
   have hbr:b1<wr.heap.size:=Nat.lt_of_lt_of_le hb1 HL.out.size;have hdx:l.drop j=x::l.drop (j+1):=by
    obtain⟨h1,e1⟩:=List.getElem?_eq_some_iff.1 hx;rw[List.drop_eq_getElem_cons h1,e1]
   by_cases hlm:j<m.length
   ·obtain⟨y,hy⟩:∃y,m[j]?=some y:=⟨_,List.getElem?_eq_getElem hlm⟩;obtain⟨b2,o2,_,rfl,hb2,rfl,hc2⟩:=Kind.bQ HV.out hy;have hLa:=HL.out.alloc (.cells #[.string x.1,.string x.2] 190);have d2:(wr.alloc (.cells #[.string x.1,.string x.2] 190)).cell? ⟨b2,o2+j*2,none⟩=some (.string y.1):=by rw[hLa.cell hb2];exact hc2 0 _ rfl
    have d3:(wr.alloc (.cells #[.string x.1,.string x.2] 190)).cell? ⟨b2,o2+j*2+1,none⟩=some (.string y.2):=by rw[hLa.cell hb2];exact hc2 1 _ rfl
    have Sk:b2<wr.heap.size:=Nat.lt_of_lt_of_le hb2 HL.out.size;have hdy:m.drop j=y::m.drop (j+1):=by
     obtain⟨h1,e1⟩:=List.getElem?_eq_some_iff.1 hy;rw[List.drop_eq_getElem_cons h1,e1]
    have HC:Hid (Calls Tryz.prog 221 #[.agg #[.string x.1,.string x.2],.agg #[.string y.1,.string y.2]] ((wr.alloc (.cells #[.string x.1,.string x.2] 190)).alloc (.cells #[.string y.1,.string y.2] 190)) fun e w2=>e=.returned (.int .i64 (l7 x y))∧Hid (Later w w2)):=
     (DJ x y _).mono fun e w2 ⟨he,h2⟩=>⟨he,(hLa.alloc _).trans h2⟩
    have E:gP l m=if l7 x y≠0 then l7 x y else gP (l.drop (j+1)) (m.drop (j+1)):=by rw[HE.out,hdx,hdy];rfl
    have hjz:¬((m.length:Int)≤(j:Int)):=by omega
    clear hc hc2 hx hy hdx hdy hLa;obtain⟨x1,x2⟩:=x;obtain⟨y1,y2⟩:=y;dsimp only at*;generalize l7 (x1,x2) (y1,y2)=r at*
    by_cases h0:r=0
    ·subst h0;have HE1:Hid (gP l m=gP (l.drop (j+1)) (m.drop (j+1))):=by show _=_;rw[E];rfl
     clear E HE
     go_wp2_with (go_at_call 221;refine HC.out.mono ?_;rintro e w2 ⟨rfl,hL2⟩)
     go_roundg (l.length- (j+1))
     case measure=>omega
     case rel=>exact⟨j+1,by omega,by go_num,HE1,(by omega:j+1≤m.length),hL2⟩
    ·have HE1:Hid (gP l m=r):=by show _=_;rw[E,if_pos h0]
     have hq:(r != 0)=true:=by simpa using h0
     clear E HE h0
     go_wp2_with (go_at_call 221;refine HC.out.mono ?_;rintro e w2 ⟨rfl,hL2⟩)
     go_ret;exact⟨by rw[HE1.out];rfl,hL2.out⟩
   ·have HE1:Hid (gP l m=1):=by show _=_;rw[HE.out,hdx,List.drop_eq_nil_of_le (by omega:m.length≤j)];rfl
    have hjz:(m.length:Int)≤(j:Int):=by omega
    clear hc hx hdx HE;obtain⟨x1,x2⟩:=x;dsimp only at*;go_wp2;go_ret;exact⟨by rw[HE1.out];rfl,HL.out.alloc _⟩
  ·have e:j=l.length:=by omega
   by_cases hlm:l.length<m.length
   ·have HE1:Hid (gP l m= -1):=by
     show _=_;rw[HE.out,List.drop_eq_nil_of_le (by omega),List.drop_eq_getElem_cons (by omega:j<m.length)];rfl
    have hz:(l.length:Int)<(m.length:Int):=by omega
    clear HE;go_wp2;go_ret;exact⟨by rw[HE1.out];rfl,HL.out⟩
   ·have HE1:Hid (gP l m=0):=by
     show _=_;rw[HE.out,List.drop_eq_nil_of_le (by omega),List.drop_eq_nil_of_le (by omega)];rfl
    have hz:¬((l.length:Int)<(m.length:Int)):=by omega
    clear HE;go_wp2;go_ret;exact⟨by rw[HE1.out];rfl,HL.out⟩
theorem vZ:∀args w,(callFunc 221 args).run Tryz.prog w=.ok (.enter 221 args) w:=enters_of Tryz.func221 (by kernel_rfl) rfl
theorem yT:∀args w,(callFunc 223 args).run Tryz.prog w=.ok (.enter 223 args) w:=enters_of Tryz.func223 (by kernel_rfl) rfl
set_option maxHeartbeats 400000 in
theorem Ql (u v:Value) (l m:List aB) (w:World) (hu:bq.sl bg w u l) (hv:bq.sl bg w v m):
  Calls Tryz.prog 223 #[u,v] w fun e w'=>e=.returned (.int .i64 (gP l m))∧Later w w':=by
 have HC:=hide (Io u v l m w hu hv);obtain⟨a,cap,rfl⟩:=Kind.slice hu;obtain⟨a',cap',rfl⟩:=Kind.slice hv;clear hu hv;generalize gP l m=r at*
 go_enter Tryz.func223,Tryz.ntmps223
 go_wp2_with (go_at_call 224;refine HC.out.mono ?_;rintro e w2 ⟨rfl,hL2⟩;replace hL2:=hide hL2)
 go_ret;exact⟨rfl,bL hL2⟩
end Go.Proofs.YtafmbokfkbccaaaGreatDoor
namespace Go.Proofs.YtafmbokfkbccaaaGreatDoor
open Go.RowKit Go.Sort Go.Shelf
theorem DK {α:Type} {c:α→α→Int} (h:Three c):SWO (ltOf c) where
 irrefl x:=by unfold ltOf;rw[h.refl];rfl
 trans x y z h1 h2:=by
  unfold ltOf at*;rw[decide_eq_true_eq] at*;exact h.trans _ _ _ h1 h2
 ntrans x y z h1 h2:=by
  unfold ltOf at*;rw[decide_eq_false_iff_not] at*;have e1:=h.swap x y;have e2:=h.swap y z;have e3:=h.swap x z;have:=h.le_trans (a:=z) (b:=y) (d:=x) (by omega) (by omega);omega
theorem Ip {α:Type} {inst:Inhabited α} {d d':Array α} (h:PermIn 0 d.size d d'):d'.toList.Perm d.toList:=by
 obtain⟨h1,_,h3⟩:=h;have e:d'.extract 0 d.size=d':=by rw[←h1];simp
 rw[e] at h3;simpa using h3
theorem sorted_in {α:Type} {inst:Inhabited α} {c:α→α→Int} (hc:Three c) {n:Nat} {d:Array α} (hn:d.size=n) (h:SortedIn (ltOf c) 0 n d):d.toList.Pairwise fun a b=>c a b≤0:=by
 rw[List.pairwise_iff_getElem];intro i j hi hj hij;have:=h i j (Nat.zero_le _) hij (by simp at hj;omega);have e1:d[i]! =d.toList[i]:=by rw[getElem!_pos d i (by simpa using hi)];simp
 have e2:d[j]! =d.toList[j]:=by rw[getElem!_pos d j (by simpa using hj)];simp
 rw[e1,e2] at this;unfold ltOf at this;rw[decide_eq_false_iff_not] at this;have:=hc.swap d.toList[i] d.toList[j];omega
instance:Inhabited aB:=⟨(ByteArray.empty,ByteArray.empty)⟩
theorem Qm:∀w,(isAgg 190).run Tryz.prog w=.ok true w:=Tryz.isAgg190
theorem NP:∀w,(Go.sizeOf 190).run Tryz.prog w=.ok 2 w:=Tryz.sizeOf190
structure iQ (p:Option Nat) (w w':World):Prop where
 os:w'.os=w.os
 tape:w'.tape=w.tape
 output:w'.output=w.output
 drawn:w.drawn≤w'.drawn
 size:w.heap.size≤w'.heap.size
 block:∀k,k<w.heap.size→p≠some k→w'.heap[k]?=w.heap[k]?
theorem iQ.refl (p:Option Nat) (w:World):iQ p w w:=⟨rfl,rfl,rfl,Nat.le_refl _,Nat.le_refl _,fun _ _ _=>rfl⟩
theorem iQ.of_later {p:Option Nat} {w w':World} (h:Later w w'):iQ p w w':=⟨h.below.os,h.below.tape,h.below.output,h.drawn,h.size,fun _ hk _=>h.block hk⟩
theorem iQ.trans {p:Option Nat} {a b c:World} (h:iQ p a b) (k:iQ p b c):iQ p a c:=
 ⟨k.os.trans h.os,k.tape.trans h.tape,k.output.trans h.output,Nat.le_trans h.drawn k.drawn,Nat.le_trans h.size k.size,fun i hi ho=>(k.block i (Nat.lt_of_lt_of_le hi h.size) ho).trans (h.block i hi ho)⟩
theorem iQ.later {p:Option Nat} {w0 a b:World} (h:iQ p a b) (h0:Later w0 a) (hp:∀k,p=some k→w0.heap.size≤k):Later w0 b:=
 Later.of_below ⟨h.os.trans h0.below.os,h.tape.trans h0.below.tape,h.output.trans h0.below.output,Nat.le_trans h0.size h.size,fun k hk=>
  (h.block k (Nat.lt_of_lt_of_le hk h0.size) (fun e=>by have:=hp k e;omega)).trans (h0.block hk)⟩ (Nat.le_trans h0.drawn h.drawn)
theorem pQ {w:World} {g:Nat} (j:Nat) {cs:Array Value} {t:TypeId} (h:w.heap[g]?=some (.cells cs t (0,0))):w.frozen? ⟨g,j,none⟩=false:=by
 simp[World.frozen?,h]
theorem MO {ty:TypeId} {lo g n cap:Nat} {w:World} {l:List aB} (h:bq.own ty lo w (.slice (some ⟨g,0,none⟩) n cap) l):HoldsK zM 2 w g 0 l.toArray:=by
 have ho:=uh h;rcases ho.2 with⟨e,_⟩|⟨g',cap',cur,e,hb,hg,_⟩
 ·cases e
 ·simp only[Value.slice.injEq,Option.some.injEq,Addr.mk.injEq] at e;obtain⟨⟨rfl,_⟩,rfl,rfl⟩:=e;intro j hj;rw[size_flatK] at hj;simp only[List.size_toArray] at hj;have hj2:j/2<l.length:=by omega
  rw[get_flatK _ _ _ _ (by simpa using hj)];refine⟨?_,pQ _ hg⟩;have e1:=mJ l (j/2) (j%2) (Nat.mod_lt _ (by omega));rw[List.getElem?_eq_getElem hj2,show j/2*2+j%2=j by omega] at e1;have e2:l.toArray[j/2]! =l[j/2]:=by rw[getElem!_pos _ _ (by simpa using hj2)];simp
  rw[e2];have hm:j%2<2:=Nat.mod_lt _ (by omega);have e3:(zM l[j/2])[j%2]?=some ((zM l[j/2])[j%2]!):=by
   rw[getElem!_pos _ _ (by simpa[zM] using hm),List.getElem?_eq_getElem]
  have:=ho.cells (g:=g) rfl j _ (e1.trans e3)
  rwa [Addr.add_lit] at this
theorem Qn (lo:Nat) (v:Value) (l:List aB) (w:World) (h:bq.own 190 lo w v l) (hl:l.length≤4398046511104):
  Calls Tryz.prog 220 #[v,.func (.func 221) #[] #[]] w fun e w'=>e=.returned (.tuple #[])∧bq.sl (kD v) w' v (gZ l)∧iQ v.ownBlock w w':=by
 have hlen:(gZ l).length=l.length:=(bO l).length_eq;rcases(uh h).2 with⟨rfl,e⟩|⟨g,cap,cur,rfl,hbg,hg,hnc,_⟩
 ·have:l=[]:=List.eq_nil_of_length_eq_zero e;subst this;have e0:gZ []=[]:=List.eq_nil_of_length_eq_zero hlen;exact(AnyF.slices_SortFunc_none Tryz.sortBinds none 0 _ w).mono fun e w' ⟨he,hw⟩=>⟨he,by rw[e0];exact bq.eT _ _ _ _,by rw[hw];exact iQ.refl _ _⟩
 ·have hgl:g<w.heap.size:=(Array.getElem?_eq_some_iff.1 hg).1;have hc:=AnyQ.slices_SortFunc Tryz.sortBinds 2 Qm NP zM (fun _=>rfl) (fun x v hv=>by
   simp[zM] at hv;rcases hv with rfl|rfl <;> rfl) l7 (DK eG) 221 #[] g 0 cap l.toArray w vZ (fun m os dk hd x y=>(DJ x y _).mono fun e w' ⟨he,hw⟩=>⟨he,hw⟩) (MO h) hgl (by simp;omega)
  have hsz:l.toArray.size=l.length:=by simp
  rw[hsz] at hc;refine hc.mono ?_;rintro e w' ⟨he,d',n,os,hp,hs,rfl⟩;have hd':d'.size=l.toArray.size:=hp.1;have hkk:∀k,k<w.heap.size→k≠g→(sortWorldK zM 2 w g 0 n d' os).heap[k]?=w.heap[k]?:=fun k hk hne=>by
   unfold sortWorldK;rw[heap_grow_old _ _ (by rw[size_putRowK];exact hk)];simp only[putRowK,putRow,mapBlock];rw[Array.getElem?_modify,if_neg (fun e=>hne e.symm)]
   rfl
  have hss:w.heap.size≤(sortWorldK zM 2 w g 0 n d' os).heap.size:=by
   unfold sortWorldK;rw[size_grow,size_putRowK];exact Nat.le_add_right _ _
  have hpl:d'.toList.Perm l:=by have:=Ip (d:=l.toArray) (d':=d') (by rw[hsz];exact hp);simpa using this
  have e:gZ l=d'.toList:=(tC eG hpl (sorted_in eG (by rw[hd',hsz]) hs)).symm;refine⟨he,?_,⟨rfl,rfl,rfl,Nat.le_add_right _ _,hss,fun k hk ho=>hkk k hk (fun e=>ho (by rw[e];rfl))⟩⟩;have H:=holdsK_sortWorldK_c zM 2 w g 0 l.toArray d' n os (MO h) hgl hd';refine⟨⟨by rw[hlen];omega,hnc⟩,some ⟨g,0,none⟩,cap,by rw[hlen],fun _=>⟨g,0,rfl,rfl,Nat.lt_of_lt_of_le hgl hss,fun i x hi=>⟨_,rfl,fun j u hu=> ?_⟩⟩⟩;rw[e] at hi;have hil:i<d'.size:=by simpa using(List.getElem?_eq_some_iff.1 hi).1
  have hj:j<2:=(List.getElem?_eq_some_iff.1 hu).1;have hcell:=(H.cell (i:=i) (c:=j) hil hj).1;have e2:d'[i]! =x:=by
   rw[getElem!_pos d' i hil];have:=(List.getElem?_eq_some_iff.1 hi).2;simpa using this
  rw[e2] at hcell;have e3:(zM x)[j]! =u:=by
   rw[getElem!_pos _ _ (by simpa[zM] using hj)];exact(List.getElem?_eq_some_iff.1 hu).2
  rw[e3] at hcell;exact hcell
structure gK (w:World) (blk lo:Nat):Type where
 a:Option Addr
 cap:Nat
 l:List aB
 h:bq.sl (fun k=>k≠blk∧lo≤k) w (.slice a l.length cap) l
def gK.enc {w:World} {blk lo:Nat} (x:gK w blk lo):Value:=.slice x.a x.l.length x.cap
def gK.no (w:World) (blk lo:Nat):gK w blk lo:=⟨none,0,[],bq.eT _ _ _ _⟩
def gK.cmp {w:World} {blk lo:Nat} (x y:gK w blk lo):Int:=gP x.l y.l
theorem gK.swo (w:World) (blk lo:Nat):SWO (ltOf (gK.cmp (w:=w) (blk:=blk) (lo:=lo))) where
 irrefl x:=(DK bG).irrefl x.l
 trans x y z:=(DK bG).trans x.l y.l z.l
 ntrans x y z:=(DK bG).ntrans x.l y.l z.l
theorem xw {α:Type} (inst:Inhabited α) (enc:α→Value) (w:World) (blk off m:Nat) (d:Array α) (os:Array Obj) (k:Nat) (hk:k<w.heap.size) (hne:k≠blk):(@sortWorld α inst enc w blk off m d os).heap[k]?=w.heap[k]?:=by
 unfold sortWorld;rw[heap_grow_old _ _ (by simp only[putRow,mapBlock,Array.size_modify];exact hk)];simp only[putRow,mapBlock];rw[Array.getElem?_modify,if_neg (fun e=>hne e.symm)]
 rfl
theorem xA {α:Type} (inst:Inhabited α) (enc:α→Value) (w:World) (blk off m:Nat) (d:Array α) (os:Array Obj):w.heap.size≤(@sortWorld α inst enc w blk off m d os).heap.size:=by
 unfold sortWorld;rw[size_grow];simp only[putRow,mapBlock,Array.size_modify];exact Nat.le_add_right _ _
theorem gK.sl {w W:World} {blk lo:Nat} (x:gK w blk lo) (hs:w.heap.size≤W.heap.size) (hk:∀k,k<w.heap.size→k≠blk→W.heap[k]?=w.heap[k]?):bq.sl (fun k=>k≠blk∧lo≤k) W x.enc x.l:=
 Kind.bM x.h hs fun k hk' hB=>hk k hk' hB.1
theorem Tq (w:World) (blk lo off size:Nat): @CmpLays1 (gK w blk lo) ⟨gK.no w blk lo⟩ Tryz.prog 223 #[] gK.enc gK.cmp blk off size w:=by
 intro m os dk hd x y;have hs:=xA ⟨gK.no w blk lo⟩ gK.enc w blk off m dk os;have hk:=xw ⟨gK.no w blk lo⟩ gK.enc w blk off m dk os;exact(Ql _ _ x.l y.l _ (Kind.dQ (x.sl hs hk)) (Kind.dQ (y.sl hs hk))).mono fun e w' ⟨he,hw⟩=>⟨he,hw⟩
theorem Qo (lo:Nat) (tyS:TypeId) (v:Value) (ps:List (Value×List aB)) (w:World) (ho:w.ownsRow lo tyS 1 v ps.length (ps.map (·.1))) (hp:∀p∈ps,bq.sl (fun k=>v.ownBlock≠some k∧lo≤k) w p.1 p.2) (hl:ps.length≤4398046511104):
  Calls Tryz.prog 222 #[v,.func (.func 223) #[] #[]] w fun e w'=>e=.returned (.tuple #[])∧iy.sl (From lo) w' v (iY gP (ps.map (·.2)))∧iQ v.ownBlock w w':=by
 have hlen:(iY gP (ps.map (·.2))).length=ps.length:=by rw[(bO (c:=gP) (ps.map (·.2))).length_eq];simp
 rcases ho.2 with⟨rfl,e⟩|⟨g,cap,cur,rfl,hbg,hg,hnc,_⟩
 ·have:ps=[]:=List.eq_nil_of_length_eq_zero e;subst this;have e0:iY gP (([]:List (Value×List aB)).map (·.2))=[]:=List.eq_nil_of_length_eq_zero hlen;exact(AnyF.slices_SortFunc_none {Tryz.sortLists with} none 0 _ w).mono fun e w' ⟨he,hw⟩=>⟨he,by rw[e0];exact iy.eT _ _ _ _,by rw[hw];exact iQ.refl _ _⟩
 ·have hgl:g<w.heap.size:=(Array.getElem?_eq_some_iff.1 hg).1;have hel:∀i:Fin ps.length,∃x:gK w g lo,x.l=(ps[i.1]'i.2).2∧x.enc=(ps[i.1]'i.2).1:=fun i=>by
   have h1:=hp _ (List.getElem_mem i.2);obtain⟨a,c,e⟩:=Kind.slice h1;refine⟨⟨a,c,(ps[i.1]'i.2).2,?_⟩,rfl,e.symm⟩;rw[←e];exact Kind.bT h1 fun k _ hk=>⟨fun e'=>hk.1 (by rw[e'];rfl),hk.2⟩
  letI:Inhabited (gK w g lo):=⟨gK.no w g lo⟩
  obtain⟨d,hd⟩:∃d:Array (gK w g lo),d=Array.ofFn fun i=>Classical.choose (hel i):=⟨_,rfl⟩;have hds:d.size=ps.length:=by rw[hd];simp
  have hdl:d.toList.map gK.l=ps.map (·.2):=by
   apply List.ext_getElem
   ·simp[hds]
   ·intro i h1 h2;have hi:i<ps.length:=by simpa using h2
    simp only[List.getElem_map,Array.getElem_toList];have:=(Classical.choose_spec (hel ⟨i,hi⟩)).1;rw[←this]
    congr 1
    simp only[hd,Array.getElem_ofFn]
  have hH:Holds gK.enc w g 0 d:=by
   intro j hj;have hj':j<ps.length:=by omega
   refine⟨?_,pQ _ hg⟩;have e1:d[j]! =Classical.choose (hel ⟨j,hj'⟩):=by
    rw[getElem!_pos d j hj];simp only[hd,Array.getElem_ofFn]
   rw[e1,(Classical.choose_spec (hel ⟨j,hj'⟩)).2];have:=ho.cells (g:=g) rfl j _ (by rw[List.getElem?_map,List.getElem?_eq_getElem hj'];rfl)
   rwa [Addr.add_lit] at this
  have hc:=Any.slices_SortFunc Tryz.sortLists gK.enc (fun _=>rfl) gK.cmp (gK.swo w g lo) 223 #[] g 0 cap d w yT (Tq w g lo 0 d.size) hH hgl (by omega);rw[hds] at hc;refine hc.mono ?_;rintro e w' ⟨he,d',n,os,hpm,hs,rfl⟩;have hd':d'.size=d.size:=hpm.1;have hkk:=xw ⟨gK.no w g lo⟩ gK.enc w g 0 n d' os;have hss:=xA ⟨gK.no w g lo⟩ gK.enc w g 0 n d' os;have hpl:(d'.toList.map gK.l).Perm (ps.map (·.2)):=by
   rw[←hdl];exact(Ip (d:=d) (d':=d') (by rw[hds];exact hpm)).map _
  have hso:(d'.toList.map gK.l).Pairwise fun a b=>gP a b≤0:=by
   rw[List.pairwise_map,List.pairwise_iff_getElem];intro i j hi hj hij;have:=hs i j (Nat.zero_le _) hij (by simp at hj;omega);have e1:d'[i]! =d'.toList[i]:=by rw[getElem!_pos d' i (by simpa using hi)];simp
   have e2:d'[j]! =d'.toList[j]:=by rw[getElem!_pos d' j (by simpa using hj)];simp
   rw[e1,e2] at this;unfold ltOf gK.cmp at this;rw[decide_eq_false_iff_not] at this;have:=bG.swap d'.toList[i].l d'.toList[j].l;omega
  have e:iY gP (ps.map (·.2))=d'.toList.map gK.l:=(tC bG hpl hso).symm;refine⟨he,?_,⟨rfl,rfl,rfl,Nat.le_add_right _ _,hss,fun k hk ho=>hkk k hk (fun e=>ho (by rw[e];rfl))⟩⟩;have H:=holds_sortWorld gK.enc w g 0 n d d' os hgl hH hd';refine⟨⟨by rw[hlen];omega,hnc⟩,some ⟨g,0,none⟩,cap,by rw[hlen],fun _=>⟨g,0,rfl,hbg,Nat.lt_of_lt_of_le hgl hss,fun i x hi=> ?_⟩⟩;rw[e,List.getElem?_map] at hi;cases hx:d'.toList[i]? with
  |none=>rw[hx] at hi;cases hi
  |some y=>
   rw[hx] at hi;cases hi;have hil:i<d'.size:=by simpa using(List.getElem?_eq_some_iff.1 hx).1
   refine⟨[y.enc],⟨y.enc,rfl,Kind.bT (y.sl hss hkk) fun _ _ hB=>hB.2⟩,fun j u hu=> ?_⟩;cases j with
   |succ j=>simp at hu
   |zero=>
    simp at hu;subst hu;have hcell:=(H i hil).1;have e2:d'[i]! =y:=by
     rw[getElem!_pos d' i hil];have:=(List.getElem?_eq_some_iff.1 hx).2;simpa using this
    rw[e2] at hcell;show World.cell? _ ⟨g,0+i*1+0,none⟩=_;rw[Nat.mul_one,Nat.add_zero];exact hcell
end Go.Proofs.YtafmbokfkbccaaaGreatDoor
