import Derived.Shelf.SlSortCmp.Whole1
import Derived.Test.YtafmbokfkbccaaaGreatDoorProg
import Derived.Test.YtafmbokfkbccaaaGreatDoorJB9
import Derived.Shelf.SlSortCmp.WholeK
import Derived.Shelf.SlSortCmp.NoneTotal
namespace Go.Proofs
open Go.Shelf
def Tryz.sortLists_ren:Go.Shelf.Ren:=⟨fun|6=>222|15=>237|14=>271|28=>286|29=>287|20=>308|21=>309|22=>310|23=>311|24=>312|25=>313|26=>314|27=>315|46=>335|47=>324|48=>325|49=>336|50=>337|57=>346|n=>n,fun|22=>62|24=>158|25=>292|3=>3|39=>202|0=>0|53=>343|55=>345|4=>4|46=>337|45=>336|50=>199|5=>5|9=>9|66=>370|70=>374|76=>389|77=>31|n=>n,fun|n=>n⟩
theorem Tryz.sortLists:Go.Proofs.SlLaysF.n6 Tryz.prog Tryz.sortLists_ren:={
 mixed:=by kernel_rfl
 f6:=⟨Tryz.f222.name,by decide,Tryz.func222.trans (congrArg some (by kernel_rfl))⟩
 f14:=⟨Tryz.f271.name,by decide,Tryz.func271.trans (congrArg some (by kernel_rfl))⟩
 f15:=Tryz.func237.trans (congrArg some (by kernel_rfl))
 f20:=⟨Tryz.f308.name,by decide,Tryz.func308.trans (congrArg some (by kernel_rfl))⟩
 f21:=⟨Tryz.f309.name,by decide,Tryz.func309.trans (congrArg some (by kernel_rfl))⟩
 f22:=⟨Tryz.f310.name,by decide,Tryz.func310.trans (congrArg some (by kernel_rfl))⟩
 f23:=⟨Tryz.f311.name,by decide,Tryz.func311.trans (congrArg some (by kernel_rfl))⟩
 f24:=⟨Tryz.f312.name,by decide,Tryz.func312.trans (congrArg some (by kernel_rfl))⟩
 f25:=⟨Tryz.f313.name,by decide,Tryz.func313.trans (congrArg some (by kernel_rfl))⟩
 f26:=⟨Tryz.f314.name,by decide,Tryz.func314.trans (congrArg some (by kernel_rfl))⟩
 f27:=⟨Tryz.f315.name,by decide,Tryz.func315.trans (congrArg some (by kernel_rfl))⟩
 f28:=Tryz.func286.trans (congrArg some (by kernel_rfl))
 f29:=Tryz.func287.trans (congrArg some (by kernel_rfl))
 f46:=⟨Tryz.f335.name,by decide,Tryz.func335.trans (congrArg some (by kernel_rfl))⟩
 f47:=Tryz.func324.trans (congrArg some (by kernel_rfl))
 f48:=Tryz.func325.trans (congrArg some (by kernel_rfl))
 f49:=⟨Tryz.f336.name,by decide,Tryz.func336.trans (congrArg some (by kernel_rfl))⟩
 f50:=⟨Tryz.f337.name,by decide,Tryz.func337.trans (congrArg some (by kernel_rfl))⟩
 f57:=⟨Tryz.f346.name,by decide,Tryz.func346.trans (congrArg some (by kernel_rfl))⟩
 t0:=Tryz.underlying0
 a0:=Tryz.isAgg0
 z0:=Tryz.sizeOf0
 v0:=Tryz.zeroValue0
 t3:=Tryz.underlying3
 a3:=Tryz.isAgg3
 z3:=Tryz.sizeOf3
 v3:=Tryz.zeroValue3
 t4:=Tryz.underlying4
 a4:=Tryz.isAgg4
 z4:=Tryz.sizeOf4
 v4:=Tryz.zeroValue4
 t5:=Tryz.underlying5
 a5:=Tryz.isAgg5
 z5:=Tryz.sizeOf5
 v5:=Tryz.zeroValue5
 t9:=Tryz.underlying9
 a9:=Tryz.isAgg9
 z9:=Tryz.sizeOf9
 v9:=Tryz.zeroValue9
 t22:=Tryz.underlying62
 a22:=Tryz.isAgg62
 z22:=Tryz.sizeOf62
 v22:=Tryz.zeroValue62
 a24:=Tryz.isAgg158
 z24:=Tryz.sizeOf158
 t25:=Tryz.underlying292
 a25:=Tryz.isAgg292
 z25:=Tryz.sizeOf292
 v25:=Tryz.zeroValue292
 t39:=Tryz.underlying202
 a39:=Tryz.isAgg202
 z39:=Tryz.sizeOf202
 v39:=Tryz.zeroValue202
 t45:=Tryz.underlying336
 a45:=Tryz.isAgg336
 z45:=Tryz.sizeOf336
 v45:=Tryz.zeroValue336
 t46:=Tryz.underlying337
 a46:=Tryz.isAgg337
 z46:=Tryz.sizeOf337
 v46:=Tryz.zeroValue337
 t50:=Tryz.underlying199
 a50:=Tryz.isAgg199
 z50:=Tryz.sizeOf199
 v50:=Tryz.zeroValue199
 t53:=Tryz.underlying343
 a53:=Tryz.isAgg343
 z53:=Tryz.sizeOf343
 v53:=Tryz.zeroValue343
 t55:=Tryz.underlying345
 a55:=Tryz.isAgg345
 z55:=Tryz.sizeOf345
 v55:=Tryz.zeroValue345
 t66:=Tryz.underlying370
 a66:=Tryz.isAgg370
 z66:=Tryz.sizeOf370
 v66:=Tryz.zeroValue370
 t70:=Tryz.underlying374
 a70:=Tryz.isAgg374
 z70:=Tryz.sizeOf374
 v70:=Tryz.zeroValue374
 t76:=Tryz.underlying389
 a76:=Tryz.isAgg389
 z76:=Tryz.sizeOf389
 v76:=Tryz.zeroValue389
 t77:=Tryz.underlying31
 a77:=Tryz.isAgg31
 z77:=Tryz.sizeOf31
 v77:=Tryz.zeroValue31}
end Go.Proofs
namespace Go.Proofs.YtafmbokfkbccaaaGreatDoor
open Go.RowKit Go.Sort Go.Shelf
set_option maxHeartbeats 1000000 in
theorem orC (c cp:Nat) (x y:Int) (w:World) (h0:w.cell? ⟨c,0,none⟩=some (.int .i64 x)) (h1:w.cell? ⟨c,1,none⟩=some (.int .i64 y)):
  Calls Tryz.prog 270 #[.slice (some ⟨c,0,none⟩) 2 cp] w fun e w'=>e=.returned (.int .i64 (if x≠0 then x else y))∧w'=w:=by
 by_cases hx:x=0
 ·subst hx
  by_cases hy:y=0
  ·subst hy
   go_enter Tryz.func270,Tryz.ntmps270
   go_wp2;refine wp_loop_rounds 3 ?_;rw[rounds_succ];go_wp2;rw[rounds_succ];go_wp2;rw[rounds_succ];go_wp2;go_ret;exact⟨rfl,rfl⟩
  ·have hq:(y != 0)=true:=by simpa using hy
   go_enter Tryz.func270,Tryz.ntmps270
   go_wp2;refine wp_loop_rounds 3 ?_;rw[rounds_succ];go_wp2;rw[rounds_succ];go_wp2;go_ret;exact⟨rfl,rfl⟩
 ·have hq:(x != 0)=true:=by simpa using hx
  rw[if_pos hx];clear hx
  go_enter Tryz.func270,Tryz.ntmps270
  go_wp2;refine wp_loop_rounds 3 ?_;rw[rounds_succ];go_wp2;go_ret;exact⟨rfl,rfl⟩
set_option maxRecDepth 100000 in
set_option maxHeartbeats 2000000 in
theorem Bu (a b:aC) (w:World):Calls Tryz.prog 221 #[.agg (wK a).toArray,.agg (wK b).toArray] w fun e w'=>e=.returned (.int .i64 (rZ a b))∧Later w w':=by
 obtain⟨a1,a2⟩:=a;obtain⟨b1,b2⟩:=b;show Calls _ _ #[.agg #[.string a1,.string a2],.agg #[.string b1,.string b2]] _ fun e w'=>e=.returned (.int .i64 (if iD a1 b1≠0 then iD a1 b1 else iD a2 b2))∧_;generalize hwb:(w.alloc (.cells #[.string a1,.string a2] 190)).alloc (.cells #[.string b1,.string b2] 190)=wb;have HWB:=hide hwb;have hLb:Later w wb:=by rw[←hwb];exact(by repeat (first|exact Later.refl _|assumption|refine Later.drewN ?_ _|refine Later.drew ?_|refine Later.alloc ?_ _|refine Later.grow ?_ _))
 have z0:wb.cell? ⟨w.heap.size,0,none⟩=some (.string a1):=by rw[←hwb];simp
 have z1:wb.cell? ⟨w.heap.size,1,none⟩=some (.string a2):=by rw[←hwb];simp
 have z2:wb.cell? ⟨w.heap.size+1,0,none⟩=some (.string b1):=by rw[←hwb];simp
 have z3:wb.cell? ⟨w.heap.size+1,1,none⟩=some (.string b2):=by rw[←hwb];simp
 have hsb:wb.heap.size=w.heap.size+2:=by rw[←hwb];simp
 clear hwb;obtain⟨r,hr⟩:∃r,r=if iD a1 b1≠0 then iD a1 b1 else iD a2 b2:=⟨_,rfl⟩;have HOr:Hid (∀(c:Nat) (w:World),w.cell? ⟨c,0,none⟩=some (.int .i64 (iD a1 b1))→w.cell? ⟨c,1,none⟩=some (.int .i64 (iD a2 b2))→Calls Tryz.prog 270 #[.slice (some ⟨c,0,none⟩) 2 2] w fun e w'=>e=.returned (.int .i64 r)∧w'=w):=fun c w h0 h1=>by
  rw[hr];exact orC c 2 _ _ w h0 h1
 rw[←hr];clear hr
 go_enter Tryz.func221,Tryz.ntmps221
 go_wp2;rw[HWB.out];have cell:∀w',Later wb w'→w'.cell? ⟨w.heap.size,0,none⟩=some (.string a1)∧w'.cell? ⟨w.heap.size,1,none⟩=some (.string a2)∧w'.cell? ⟨w.heap.size+1,0,none⟩=some (.string b1)∧w'.cell? ⟨w.heap.size+1,1,none⟩=some (.string b2):=fun w' hL=>
  ⟨by rw[hL.cell (by show w.heap.size<_;omega)];exact z0,by rw[hL.cell (by show w.heap.size<_;omega)];exact z1,by rw[hL.cell (by show w.heap.size+1<_;omega)];exact z2,by rw[hL.cell (by show w.heap.size+1<_;omega)];exact z3⟩
 have CELL:=hide cell;clear cell z0 z1 z2 z3 hsb;refine wp_region_held_drew (S:=fun w'=>Later wb w') (by kernel_rfl) (Later.refl _).drew (fun hHeld=> ?_);refine au (i:=0) (d:=some 5) (v:= ?_) rfl rfl hHeld ?_ ?_;rotate_left;focus intro w hSw;(try dsimp only at hSw);go_simp;try with_reducible rfl
 simp only[bP,bQ,aze,asu];refine au (i:=1) (d:=some 6) (v:= ?_) rfl rfl hHeld ?_ ?_;rotate_left;focus intro w hSw;(try dsimp only at hSw);obtain⟨q0,q1,q2,q3⟩:=CELL.out w hSw;go_simp;try with_reducible rfl
 simp only[bP,bQ,aze,asu];refine au (i:=2) (d:=some 7) (v:= ?_) rfl rfl hHeld ?_ ?_;rotate_left;focus intro w hSw;(try dsimp only at hSw);go_simp;try with_reducible rfl
 simp only[bP,bQ,aze,asu];refine au (i:=3) (d:=some 8) (v:= ?_) rfl rfl hHeld ?_ ?_;rotate_left;focus intro w hSw;(try dsimp only at hSw);obtain⟨q0,q1,q2,q3⟩:=CELL.out w hSw;go_simp;try with_reducible rfl
 simp only[bP,bQ,aze,asu];refine au (i:=5) (d:=some 10) (v:= ?_) rfl rfl hHeld ?_ ?_;rotate_left;focus intro w hSw;(try dsimp only at hSw);go_simp;try with_reducible rfl
 simp only[bP,bQ,aze,asu];refine au (i:=6) (d:=some 11) (v:= ?_) rfl rfl hHeld ?_ ?_;rotate_left;focus intro w hSw;(try dsimp only at hSw);obtain⟨q0,q1,q2,q3⟩:=CELL.out w hSw;go_simp;try with_reducible rfl
 simp only[bP,bQ,aze,asu];refine au (i:=7) (d:=some 12) (v:= ?_) rfl rfl hHeld ?_ ?_;rotate_left;focus intro w hSw;(try dsimp only at hSw);go_simp;try with_reducible rfl
 simp only[bP,bQ,aze,asu];refine au (i:=8) (d:=some 13) (v:= ?_) rfl rfl hHeld ?_ ?_;rotate_left;focus intro w hSw;(try dsimp only at hSw);obtain⟨q0,q1,q2,q3⟩:=CELL.out w hSw;go_simp;try with_reducible rfl
 simp only[bP,bQ,aze,asu];refine wpAnyH_ready (rs:=[4]) (by kernel_rfl) (by simp) ?_;refine AllReadyH.cons rfl (fun K hK=> ?_) AllReadyH.nil;go_simp;refine(jY _ _ _).mono ?_;rintro e u1 ⟨rfl,rfl⟩;dsimp only;refine hK.out _ _ hHeld (fun hHeld=> ?_);clear hK K;refine wpAnyH_ready (rs:=[9]) (by kernel_rfl) (by simp) ?_;refine AllReadyH.cons rfl (fun K hK=> ?_) AllReadyH.nil;go_simp;refine(jY _ _ _).mono ?_;rintro e u2 ⟨rfl,rfl⟩;dsimp only;refine hK.out _ _ hHeld (fun hHeld=> ?_);clear hK K;refine wpAnyH_ready (rs:=[10]) (by kernel_rfl) (by simp) ?_;refine AllReadyH.cons rfl (fun K hK=> ?_) AllReadyH.nil;go_simp;refine hK.out _ _ (hHeld.alloc _) (fun hHeld=> ?_);clear hK K;refine wpAnyH_ready (rs:=[11]) (by kernel_rfl) (by simp) ?_;refine AllReadyH.cons rfl (fun K hK=> ?_) AllReadyH.nil;go_simp;refine(HOr.out _ _ (by simp) (by simp)).mono ?_;rintro e u3 ⟨rfl,rfl⟩;dsimp only;refine hK.out _ _ hHeld (fun hHeld=> ?_);clear hK K;refine au (i:=12) (d:=some 4) (v:= ?_) rfl rfl hHeld ?_ ?_;rotate_left;focus intro w hSw;(try dsimp only at hSw);go_simp;try with_reducible rfl
 simp only[bP,bQ,aze,asu];refine wpAnyH_done (by kernel_rfl) ?_ _;go_wp2;go_ret;exact⟨rfl,hLb.trans hHeld⟩
set_option maxRecDepth 100000 in
set_option maxHeartbeats 2000000 in
theorem ET (u v:Value) (l m:List aC) (w:World) (hu:bA.sl bJ w u l) (hv:bA.sl bJ w v m):
  Calls Tryz.prog 224 #[u,v,.func (.func 221) #[] #[]] w fun e w'=>e=.returned (.int .i64 (iB l m))∧Later w w':=by
 obtain⟨a,cap,rfl⟩:=Kind.slice hu;obtain⟨a',cap',rfl⟩:=Kind.slice hv;have hl:=hu.1.1;have hm:=hv.1.1;have HU:=hide hu;have HV:=hide hv;clear hu hv
 go_enter Tryz.func224,Tryz.ntmps224
 go_wp2
 go_loopg [13] l.length (fun g i wr=>∃j:Nat,j+g=l.length∧i=.int .i64 j∧Hid (iB l m=iB (l.drop j) (m.drop j))∧Hid (j≤m.length)∧Hid (Later w wr))
 case atStart=>exact⟨0,by omega,rfl,(rfl:_=_),(Nat.zero_le _:_≤_),Later.refl _⟩
 case round=>
  obtain⟨j,hj,rfl,HE,HJ,HL⟩:=hrel;have hjm:=HJ.out
  by_cases hlt:j<l.length
  ·obtain⟨x,hx⟩:∃x,l[j]?=some x:=⟨_,List.getElem?_eq_getElem hlt⟩;obtain⟨b1,o1,_,rfl,hb1,rfl,hc⟩:=Kind.fP HU.out hx;have d0:wr.cell? ⟨b1,o1+j*2,none⟩=some (.string x.1):=by rw[HL.out.cell hb1];exact hc 0 _ rfl
   have d1:wr.cell? ⟨b1,o1+j*2+1,none⟩=some (.string x.2):=by rw[HL.out.cell hb1];exact hc 1 _ rfl
   have hbr:b1<wr.heap.size:=Nat.lt_of_lt_of_le hb1 HL.out.size;have hdx:l.drop j=x::l.drop (j+1):=by
    obtain⟨h1,e1⟩:=List.getElem?_eq_some_iff.1 hx;rw[List.drop_eq_getElem_cons h1,e1]
   by_cases hlm:j<m.length
   ·obtain⟨y,hy⟩:∃y,m[j]?=some y:=⟨_,List.getElem?_eq_getElem hlm⟩;obtain⟨b2,o2,_,rfl,hb2,rfl,hc2⟩:=Kind.fP HV.out hy;have hLa:=HL.out.alloc (.cells #[.string x.1,.string x.2] 190);have d2:(wr.alloc (.cells #[.string x.1,.string x.2] 190)).cell? ⟨b2,o2+j*2,none⟩=some (.string y.1):=by rw[hLa.cell hb2];exact hc2 0 _ rfl
    have d3:(wr.alloc (.cells #[.string x.1,.string x.2] 190)).cell? ⟨b2,o2+j*2+1,none⟩=some (.string y.2):=by rw[hLa.cell hb2];exact hc2 1 _ rfl
    have Sr:b2<wr.heap.size:=Nat.lt_of_lt_of_le hb2 HL.out.size;have hdy:m.drop j=y::m.drop (j+1):=by
     obtain⟨h1,e1⟩:=List.getElem?_eq_some_iff.1 hy;rw[List.drop_eq_getElem_cons h1,e1]
    have HC:Hid (Calls Tryz.prog 221 #[.agg #[.string x.1,.string x.2],.agg #[.string y.1,.string y.2]] ((wr.alloc (.cells #[.string x.1,.string x.2] 190)).alloc (.cells #[.string y.1,.string y.2] 190)) fun e w2=>e=.returned (.int .i64 (rZ x y))∧Hid (Later w w2)):=
     (Bu x y _).mono fun e w2 ⟨he,h2⟩=>⟨he,(hLa.alloc _).trans h2⟩
    have E:iB l m=if rZ x y≠0 then rZ x y else iB (l.drop (j+1)) (m.drop (j+1)):=by rw[HE.out,hdx,hdy];rfl
    have hjz:¬((m.length:Int)≤(j:Int)):=by omega
    clear hc hc2 hx hy hdx hdy hLa;obtain⟨x1,x2⟩:=x;obtain⟨y1,y2⟩:=y;dsimp only at*;generalize rZ (x1,x2) (y1,y2)=r at*
    by_cases h0:r=0
    ·subst h0;have HE1:Hid (iB l m=iB (l.drop (j+1)) (m.drop (j+1))):=by show _=_;rw[E];rfl
     clear E HE
     go_wp2_with (go_at_call 221;refine HC.out.mono ?_;rintro e w2 ⟨rfl,hL2⟩)
     go_roundg (l.length- (j+1))
     case measure=>omega
     case rel=>exact⟨j+1,by omega,by go_num,HE1,(by omega:j+1≤m.length),hL2⟩
    ·have HE1:Hid (iB l m=r):=by show _=_;rw[E,if_pos h0]
     have hq:(r != 0)=true:=by simpa using h0
     clear E HE h0
     go_wp2_with (go_at_call 221;refine HC.out.mono ?_;rintro e w2 ⟨rfl,hL2⟩)
     go_ret;exact⟨by rw[HE1.out];rfl,hL2.out⟩
   ·have HE1:Hid (iB l m=1):=by show _=_;rw[HE.out,hdx,List.drop_eq_nil_of_le (by omega:m.length≤j)];rfl
    have hjz:(m.length:Int)≤(j:Int):=by omega
    clear hc hx hdx HE;obtain⟨x1,x2⟩:=x;dsimp only at*;go_wp2;go_ret;exact⟨by rw[HE1.out];rfl,HL.out.alloc _⟩
  ·have e:j=l.length:=by omega
   by_cases hlm:l.length<m.length
   ·have HE1:Hid (iB l m= -1):=by
     show _=_;rw[HE.out,List.drop_eq_nil_of_le (by omega),List.drop_eq_getElem_cons (by omega:j<m.length)];rfl
    have hz:(l.length:Int)<(m.length:Int):=by omega
    clear HE;go_wp2;go_ret;exact⟨by rw[HE1.out];rfl,HL.out⟩
   ·have HE1:Hid (iB l m=0):=by
     show _=_;rw[HE.out,List.drop_eq_nil_of_le (by omega),List.drop_eq_nil_of_le (by omega)];rfl
    have hz:¬((l.length:Int)<(m.length:Int)):=by omega
    clear HE;go_wp2;go_ret;exact⟨by rw[HE1.out];rfl,HL.out⟩
theorem sJ:∀args w,(callFunc 221 args).run Tryz.prog w=.ok (.enter 221 args) w:=enters_of Tryz.func221 (by kernel_rfl) rfl
theorem vK:∀args w,(callFunc 223 args).run Tryz.prog w=.ok (.enter 223 args) w:=enters_of Tryz.func223 (by kernel_rfl) rfl
set_option maxHeartbeats 400000 in
theorem Mv (u v:Value) (l m:List aC) (w:World) (hu:bA.sl bJ w u l) (hv:bA.sl bJ w v m):
  Calls Tryz.prog 223 #[u,v] w fun e w'=>e=.returned (.int .i64 (iB l m))∧Later w w':=by
 have HC:=hide (ET u v l m w hu hv);obtain⟨a,cap,rfl⟩:=Kind.slice hu;obtain⟨a',cap',rfl⟩:=Kind.slice hv;clear hu hv;generalize iB l m=r at*
 go_enter Tryz.func223,Tryz.ntmps223
 go_wp2_with (go_at_call 224;refine HC.out.mono ?_;rintro e w2 ⟨rfl,hL2⟩;replace hL2:=hide hL2)
 go_ret;exact⟨rfl,bE hL2⟩
end Go.Proofs.YtafmbokfkbccaaaGreatDoor
namespace Go.Proofs.YtafmbokfkbccaaaGreatDoor
open Go.RowKit Go.Sort Go.Shelf
theorem Bv {α:Type} {c:α→α→Int} (h:Three c):SWO (ltOf c) where
 irrefl x:=by unfold ltOf;rw[h.refl];rfl
 trans x y z h1 h2:=by
  unfold ltOf at*;rw[decide_eq_true_eq] at*;exact h.trans _ _ _ h1 h2
 ntrans x y z h1 h2:=by
  unfold ltOf at*;rw[decide_eq_false_iff_not] at*;have e1:=h.swap x y;have e2:=h.swap y z;have e3:=h.swap x z;have:=h.le_trans (a:=z) (b:=y) (d:=x) (by omega) (by omega);omega
theorem EU {α:Type} {inst:Inhabited α} {d d':Array α} (h:PermIn 0 d.size d d'):d'.toList.Perm d.toList:=by
 obtain⟨h1,_,h3⟩:=h;have e:d'.extract 0 d.size=d':=by rw[←h1];simp
 rw[e] at h3;simpa using h3
theorem sorted_in {α:Type} {inst:Inhabited α} {c:α→α→Int} (hc:Three c) {n:Nat} {d:Array α} (hn:d.size=n) (h:SortedIn (ltOf c) 0 n d):d.toList.Pairwise fun a b=>c a b≤0:=by
 rw[List.pairwise_iff_getElem];intro i j hi hj hij;have:=h i j (Nat.zero_le _) hij (by simp at hj;omega);have e1:d[i]! =d.toList[i]:=by rw[getElem!_pos d i (by simpa using hi)];simp
 have e2:d[j]! =d.toList[j]:=by rw[getElem!_pos d j (by simpa using hj)];simp
 rw[e1,e2] at this;unfold ltOf at this;rw[decide_eq_false_iff_not] at this;have:=hc.swap d.toList[i] d.toList[j];omega
instance:Inhabited aC:=⟨(ByteArray.empty,ByteArray.empty)⟩
theorem Mw:∀w,(isAgg 190).run Tryz.prog w=.ok true w:=Tryz.isAgg190
theorem Kj:∀w,(Go.sizeOf 190).run Tryz.prog w=.ok 2 w:=Tryz.sizeOf190
structure gY (p:Option Nat) (w w':World):Prop where
 os:w'.os=w.os
 tape:w'.tape=w.tape
 output:w'.output=w.output
 drawn:w.drawn≤w'.drawn
 size:w.heap.size≤w'.heap.size
 block:∀k,k<w.heap.size→p≠some k→w'.heap[k]?=w.heap[k]?
theorem gY.refl (p:Option Nat) (w:World):gY p w w:=⟨rfl,rfl,rfl,Nat.le_refl _,Nat.le_refl _,fun _ _ _=>rfl⟩
theorem gY.of_later {p:Option Nat} {w w':World} (h:Later w w'):gY p w w':=⟨h.below.os,h.below.tape,h.below.output,h.drawn,h.size,fun _ hk _=>h.block hk⟩
theorem gY.trans {p:Option Nat} {a b c:World} (h:gY p a b) (k:gY p b c):gY p a c:=
 ⟨k.os.trans h.os,k.tape.trans h.tape,k.output.trans h.output,Nat.le_trans h.drawn k.drawn,Nat.le_trans h.size k.size,fun i hi ho=>(k.block i (Nat.lt_of_lt_of_le hi h.size) ho).trans (h.block i hi ho)⟩
theorem gY.later {p:Option Nat} {w0 a b:World} (h:gY p a b) (h0:Later w0 a) (hp:∀k,p=some k→w0.heap.size≤k):Later w0 b:=
 Later.of_below ⟨h.os.trans h0.below.os,h.tape.trans h0.below.tape,h.output.trans h0.below.output,Nat.le_trans h0.size h.size,fun k hk=>
  (h.block k (Nat.lt_of_lt_of_le hk h0.size) (fun e=>by have:=hp k e;omega)).trans (h0.block hk)⟩ (Nat.le_trans h0.drawn h.drawn)
theorem mZ {w:World} {g:Nat} (j:Nat) {cs:Array Value} {t:TypeId} (h:w.heap[g]?=some (.cells cs t (0,0))):w.frozen? ⟨g,j,none⟩=false:=by
 simp[World.frozen?,h]
theorem JI {ty:TypeId} {lo g n cap:Nat} {w:World} {l:List aC} (h:bA.own ty lo w (.slice (some ⟨g,0,none⟩) n cap) l):HoldsK wK 2 w g 0 l.toArray:=by
 have ho:=qH h;rcases ho.2 with⟨e,_⟩|⟨g',cap',cur,e,hb,hg,_⟩
 ·cases e
 ·simp only[Value.slice.injEq,Option.some.injEq,Addr.mk.injEq] at e;obtain⟨⟨rfl,_⟩,rfl,rfl⟩:=e;intro j hj;rw[size_flatK] at hj;simp only[List.size_toArray] at hj;have hj2:j/2<l.length:=by omega
  rw[get_flatK _ _ _ _ (by simpa using hj)];refine⟨?_,mZ _ hg⟩;have e1:=kK l (j/2) (j%2) (Nat.mod_lt _ (by omega));rw[List.getElem?_eq_getElem hj2,show j/2*2+j%2=j by omega] at e1;have e2:l.toArray[j/2]! =l[j/2]:=by rw[getElem!_pos _ _ (by simpa using hj2)];simp
  rw[e2];have hm:j%2<2:=Nat.mod_lt _ (by omega);have e3:(wK l[j/2])[j%2]?=some ((wK l[j/2])[j%2]!):=by
   rw[getElem!_pos _ _ (by simpa[wK] using hm),List.getElem?_eq_getElem]
  have:=ho.cells (g:=g) rfl j _ (e1.trans e3)
  rwa [Addr.add_lit] at this
theorem Mx (lo:Nat) (v:Value) (l:List aC) (w:World) (h:bA.own 190 lo w v l) (hl:l.length≤4398046511104):
  Calls Tryz.prog 220 #[v,.func (.func 221) #[] #[]] w fun e w'=>e=.returned (.tuple #[])∧bA.sl (jD v) w' v (jk l)∧gY v.ownBlock w w':=by
 have hlen:(jk l).length=l.length:=(cK l).length_eq;rcases(qH h).2 with⟨rfl,e⟩|⟨g,cap,cur,rfl,hbg,hg,hnc,_⟩
 ·have:l=[]:=List.eq_nil_of_length_eq_zero e;subst this;have e0:jk []=[]:=List.eq_nil_of_length_eq_zero hlen;exact(AnyF.slices_SortFunc_none Tryz.sortBinds none 0 _ w).mono fun e w' ⟨he,hw⟩=>⟨he,by rw[e0];exact bA.gF _ _ _ _,by rw[hw];exact gY.refl _ _⟩
 ·have hgl:g<w.heap.size:=(Array.getElem?_eq_some_iff.1 hg).1;have hc:=AnyQ.slices_SortFunc Tryz.sortBinds 2 Mw Kj wK (fun _=>rfl) (fun x v hv=>by
   simp[wK] at hv;rcases hv with rfl|rfl <;> rfl) rZ (Bv gy) 221 #[] g 0 cap l.toArray w sJ (fun m os dk hd x y=>(Bu x y _).mono fun e w' ⟨he,hw⟩=>⟨he,hw⟩) (JI h) hgl (by simp;omega)
  have hsz:l.toArray.size=l.length:=by simp
  rw[hsz] at hc;refine hc.mono ?_;rintro e w' ⟨he,d',n,os,hp,hs,rfl⟩;have hd':d'.size=l.toArray.size:=hp.1;have hkk:∀k,k<w.heap.size→k≠g→(sortWorldK wK 2 w g 0 n d' os).heap[k]?=w.heap[k]?:=fun k hk hne=>by
   unfold sortWorldK;rw[heap_grow_old _ _ (by rw[size_putRowK];exact hk)];simp only[putRowK,putRow,mapBlock];rw[Array.getElem?_modify,if_neg (fun e=>hne e.symm)]
   rfl
  have hss:w.heap.size≤(sortWorldK wK 2 w g 0 n d' os).heap.size:=by
   unfold sortWorldK;rw[size_grow,size_putRowK];exact Nat.le_add_right _ _
  have hpl:d'.toList.Perm l:=by have:=EU (d:=l.toArray) (d':=d') (by rw[hsz];exact hp);simpa using this
  have e:jk l=d'.toList:=(pX gy hpl (sorted_in gy (by rw[hd',hsz]) hs)).symm;refine⟨he,?_,⟨rfl,rfl,rfl,Nat.le_add_right _ _,hss,fun k hk ho=>hkk k hk (fun e=>ho (by rw[e];rfl))⟩⟩;have H:=holdsK_sortWorldK_c wK 2 w g 0 l.toArray d' n os (JI h) hgl hd';refine⟨⟨by rw[hlen];omega,hnc⟩,some ⟨g,0,none⟩,cap,by rw[hlen],fun _=>⟨g,0,rfl,rfl,Nat.lt_of_lt_of_le hgl hss,fun i x hi=>⟨_,rfl,fun j u hu=> ?_⟩⟩⟩;rw[e] at hi;have hil:i<d'.size:=by simpa using(List.getElem?_eq_some_iff.1 hi).1
  have hj:j<2:=(List.getElem?_eq_some_iff.1 hu).1;have hcell:=(H.cell (i:=i) (c:=j) hil hj).1;have e2:d'[i]! =x:=by
   rw[getElem!_pos d' i hil];have:=(List.getElem?_eq_some_iff.1 hi).2;simpa using this
  rw[e2] at hcell;have e3:(wK x)[j]! =u:=by
   rw[getElem!_pos _ _ (by simpa[wK] using hj)];exact(List.getElem?_eq_some_iff.1 hu).2
  rw[e3] at hcell;exact hcell
structure fK (w:World) (blk lo:Nat):Type where
 a:Option Addr
 cap:Nat
 l:List aC
 h:bA.sl (fun k=>k≠blk∧lo≤k) w (.slice a l.length cap) l
def fK.enc {w:World} {blk lo:Nat} (x:fK w blk lo):Value:=.slice x.a x.l.length x.cap
def fK.no (w:World) (blk lo:Nat):fK w blk lo:=⟨none,0,[],bA.gF _ _ _ _⟩
def fK.cmp {w:World} {blk lo:Nat} (x y:fK w blk lo):Int:=iB x.l y.l
theorem fK.swo (w:World) (blk lo:Nat):SWO (ltOf (fK.cmp (w:=w) (blk:=blk) (lo:=lo))) where
 irrefl x:=(Bv gL).irrefl x.l
 trans x y z:=(Bv gL).trans x.l y.l z.l
 ntrans x y z:=(Bv gL).ntrans x.l y.l z.l
theorem tL {α:Type} (inst:Inhabited α) (enc:α→Value) (w:World) (blk off m:Nat) (d:Array α) (os:Array Obj) (k:Nat) (hk:k<w.heap.size) (hne:k≠blk):(@sortWorld α inst enc w blk off m d os).heap[k]?=w.heap[k]?:=by
 unfold sortWorld;rw[heap_grow_old _ _ (by simp only[putRow,mapBlock,Array.size_modify];exact hk)];simp only[putRow,mapBlock];rw[Array.getElem?_modify,if_neg (fun e=>hne e.symm)]
 rfl
theorem tN {α:Type} (inst:Inhabited α) (enc:α→Value) (w:World) (blk off m:Nat) (d:Array α) (os:Array Obj):w.heap.size≤(@sortWorld α inst enc w blk off m d os).heap.size:=by
 unfold sortWorld;rw[size_grow];simp only[putRow,mapBlock,Array.size_modify];exact Nat.le_add_right _ _
theorem fK.sl {w W:World} {blk lo:Nat} (x:fK w blk lo) (hs:w.heap.size≤W.heap.size) (hk:∀k,k<w.heap.size→k≠blk→W.heap[k]?=w.heap[k]?):bA.sl (fun k=>k≠blk∧lo≤k) W x.enc x.l:=
 Kind.aT x.h hs fun k hk' hB=>hk k hk' hB.1
theorem OU (w:World) (blk lo off size:Nat): @CmpLays1 (fK w blk lo) ⟨fK.no w blk lo⟩ Tryz.prog 223 #[] fK.enc fK.cmp blk off size w:=by
 intro m os dk hd x y;have hs:=tN ⟨fK.no w blk lo⟩ fK.enc w blk off m dk os;have hk:=tL ⟨fK.no w blk lo⟩ fK.enc w blk off m dk os;exact(Mv _ _ x.l y.l _ (Kind.dN (x.sl hs hk)) (Kind.dN (y.sl hs hk))).mono fun e w' ⟨he,hw⟩=>⟨he,hw⟩
theorem MB (lo:Nat) (tyS:TypeId) (v:Value) (ps:List (Value×List aC)) (w:World) (ho:w.ownsRow lo tyS 1 v ps.length (ps.map (·.1))) (hp:∀p∈ps,bA.sl (fun k=>v.ownBlock≠some k∧lo≤k) w p.1 p.2) (hl:ps.length≤4398046511104):
  Calls Tryz.prog 222 #[v,.func (.func 223) #[] #[]] w fun e w'=>e=.returned (.tuple #[])∧sH.sl (From lo) w' v (iU iB (ps.map (·.2)))∧gY v.ownBlock w w':=by
 have hlen:(iU iB (ps.map (·.2))).length=ps.length:=by rw[(cK (c:=iB) (ps.map (·.2))).length_eq];simp
 rcases ho.2 with⟨rfl,e⟩|⟨g,cap,cur,rfl,hbg,hg,hnc,_⟩
 ·have:ps=[]:=List.eq_nil_of_length_eq_zero e;subst this;have e0:iU iB (([]:List (Value×List aC)).map (·.2))=[]:=List.eq_nil_of_length_eq_zero hlen;exact(AnyF.slices_SortFunc_none {Tryz.sortLists with} none 0 _ w).mono fun e w' ⟨he,hw⟩=>⟨he,by rw[e0];exact sH.gF _ _ _ _,by rw[hw];exact gY.refl _ _⟩
 ·have hgl:g<w.heap.size:=(Array.getElem?_eq_some_iff.1 hg).1;have hel:∀i:Fin ps.length,∃x:fK w g lo,x.l=(ps[i.1]'i.2).2∧x.enc=(ps[i.1]'i.2).1:=fun i=>by
   have h1:=hp _ (List.getElem_mem i.2);obtain⟨a,c,e⟩:=Kind.slice h1;refine⟨⟨a,c,(ps[i.1]'i.2).2,?_⟩,rfl,e.symm⟩;rw[←e];exact Kind.aW h1 fun k _ hk=>⟨fun e'=>hk.1 (by rw[e'];rfl),hk.2⟩
  letI:Inhabited (fK w g lo):=⟨fK.no w g lo⟩
  obtain⟨d,hd⟩:∃d:Array (fK w g lo),d=Array.ofFn fun i=>Classical.choose (hel i):=⟨_,rfl⟩;have hds:d.size=ps.length:=by rw[hd];simp
  have hdl:d.toList.map fK.l=ps.map (·.2):=by
   apply List.ext_getElem
   ·simp[hds]
   ·intro i h1 h2;have hi:i<ps.length:=by simpa using h2
    simp only[List.getElem_map,Array.getElem_toList];have:=(Classical.choose_spec (hel ⟨i,hi⟩)).1;rw[←this]
    congr 1
    simp only[hd,Array.getElem_ofFn]
  have hH:Holds fK.enc w g 0 d:=by
   intro j hj;have hj':j<ps.length:=by omega
   refine⟨?_,mZ _ hg⟩;have e1:d[j]! =Classical.choose (hel ⟨j,hj'⟩):=by
    rw[getElem!_pos d j hj];simp only[hd,Array.getElem_ofFn]
   rw[e1,(Classical.choose_spec (hel ⟨j,hj'⟩)).2];have:=ho.cells (g:=g) rfl j _ (by rw[List.getElem?_map,List.getElem?_eq_getElem hj'];rfl)
   rwa [Addr.add_lit] at this
  have hc:=Any.slices_SortFunc Tryz.sortLists fK.enc (fun _=>rfl) fK.cmp (fK.swo w g lo) 223 #[] g 0 cap d w vK (OU w g lo 0 d.size) hH hgl (by omega);rw[hds] at hc;refine hc.mono ?_;rintro e w' ⟨he,d',n,os,hpm,hs,rfl⟩;have hd':d'.size=d.size:=hpm.1;have hkk:=tL ⟨fK.no w g lo⟩ fK.enc w g 0 n d' os;have hss:=tN ⟨fK.no w g lo⟩ fK.enc w g 0 n d' os;have hpl:(d'.toList.map fK.l).Perm (ps.map (·.2)):=by
   rw[←hdl];exact(EU (d:=d) (d':=d') (by rw[hds];exact hpm)).map _
  have hso:(d'.toList.map fK.l).Pairwise fun a b=>iB a b≤0:=by
   rw[List.pairwise_map,List.pairwise_iff_getElem];intro i j hi hj hij;have:=hs i j (Nat.zero_le _) hij (by simp at hj;omega);have e1:d'[i]! =d'.toList[i]:=by rw[getElem!_pos d' i (by simpa using hi)];simp
   have e2:d'[j]! =d'.toList[j]:=by rw[getElem!_pos d' j (by simpa using hj)];simp
   rw[e1,e2] at this;unfold ltOf fK.cmp at this;rw[decide_eq_false_iff_not] at this;have:=gL.swap d'.toList[i].l d'.toList[j].l;omega
  have e:iU iB (ps.map (·.2))=d'.toList.map fK.l:=(pX gL hpl hso).symm;refine⟨he,?_,⟨rfl,rfl,rfl,Nat.le_add_right _ _,hss,fun k hk ho=>hkk k hk (fun e=>ho (by rw[e];rfl))⟩⟩;have H:=holds_sortWorld fK.enc w g 0 n d d' os hgl hH hd';refine⟨⟨by rw[hlen];omega,hnc⟩,some ⟨g,0,none⟩,cap,by rw[hlen],fun _=>⟨g,0,rfl,hbg,Nat.lt_of_lt_of_le hgl hss,fun i x hi=> ?_⟩⟩;rw[e,List.getElem?_map] at hi;cases hx:d'.toList[i]? with
  |none=>rw[hx] at hi;cases hi
  |some y=>
   rw[hx] at hi;cases hi;have hil:i<d'.size:=by simpa using(List.getElem?_eq_some_iff.1 hx).1
   refine⟨[y.enc],⟨y.enc,rfl,Kind.aW (y.sl hss hkk) fun _ _ hB=>hB.2⟩,fun j u hu=> ?_⟩;cases j with
   |succ j=>simp at hu
   |zero=>
    simp at hu;subst hu;have hcell:=(H i hil).1;have e2:d'[i]! =y:=by
     rw[getElem!_pos d' i hil];have:=(List.getElem?_eq_some_iff.1 hx).2;simpa using this
    rw[e2] at hcell;show World.cell? _ ⟨g,0+i*1+0,none⟩=_;rw[Nat.mul_one,Nat.add_zero];exact hcell
end Go.Proofs.YtafmbokfkbccaaaGreatDoor
namespace Go.Proofs.YtafmbokfkbccaaaGreatDoor
open Go.RowKit Go.Sort
theorem EW:∃i,Tryz.prog.info? 158=some i∧i.zero=some (.slice none 0 0)∧i.size=1∧i.bytes=24:=⟨Tryz.t158,by kernel_rfl,by kernel_rfl,by kernel_rfl,by kernel_rfl⟩
theorem Ih {ty:TypeId} {lo:Nat} {w:World} {v:Value} {l:List aC} (h:bA.own ty lo w v l):v.oneCell'=true:=by
 obtain⟨a,c,rfl⟩:=Kind.dI h;rfl
theorem Lists.more {lo:Nat} {w:World} {v u:Value} {ps:List (Value×List aC)} {l:List aC} (h:Lists 158 190 lo w v ps) (hu:bA.own 190 lo w u l) (ha:∀p∈ps,apart p.1 u) (hv:apart u v) (hl:ps.length+1≤1099511627776) (hlo:lo≤w.heap.size):
  ∃v' w',(Builtin.append_ #[62,62] 62 #[v,.slice (some ⟨w.heap.size,0,none⟩) 1 1]).run Tryz.prog (w.alloc (.cells #[u] 158))=.ok v' w'∧Lists 158 190 lo w' v' (ps++[(u,l)])∧(w.alloc (.cells #[u] 158)).grownBy w' v.ownBlock∧w.drawn≤w'.drawn:=by
 obtain⟨i,i1,i2,i3,i4⟩:=EW;obtain⟨ho,hp,hpw⟩:=h;have hnews:∀j x,([u]:List Value)[j]?=some x→(w.alloc (.cells #[u] 158)).cell? ((⟨w.heap.size,0,none⟩:Addr).add j)=some x:=by
  intro j x hx;rw[Addr.add_lit,Nat.zero_add,cell_of_row _ w.heap.size j #[u] 158 (0,0) (heap_alloc_new w _)];simpa using hx
 obtain⟨v',w',hrun,r1,r2,r3,r4⟩:=eT (P:=Tryz.prog) (w.alloc (.cells #[u] 158)) lo 62 62 158 i _ 1 24 Tryz.underlying62 i1 i2 i3 i4 rfl (by omega) v ps.length (ps.map (·.1)) (ho.alloc _) ⟨w.heap.size,0,none⟩ 1 1 [u] rfl hnews
  (by intro x hx;simp at hx;subst hx;exact Ih hu) (by simp only[maxLen];omega) (by omega) (by simp;omega)
 have keep:∀k,k<w.heap.size→v.ownBlock≠some k→w'.heap[k]?=w.heap[k]?:=fun k hk hne=>
  (r2.block k (by simp;omega) (fun e=>hne e.symm)).trans (Below.heap_alloc w _ k hk)
 have ap:∀{x:Value} {q:List aC},bA.own 190 lo w x q→apart x v→bA.own 190 lo w' x q∧apart x v':=fun {x q} hx hxa=>by
  refine⟨jQ hx fun k e=>keep k (Kind.fu hx e).2 (hxa k e),fun k e e'=> ?_⟩;rcases r4 k e' with h1|h1
  ·exact hxa k e h1
  ·have:=(Kind.fu hx e).2;simp at h1;omega
 refine⟨v',w',hrun,⟨by simpa using r1,fun p hp'=> ?_,?_⟩,r2,r3⟩
 ·rcases List.mem_append.1 hp' with h1|h1
  ·exact ap (hp p h1).1 (hp p h1).2
  ·simp at h1;subst h1;exact ap hu hv
 ·rw[List.pairwise_append];exact⟨hpw,List.pairwise_singleton _ _,fun p h1 q h2=>by simp at h2;subst h2;exact ha p h1⟩
theorem Lists.Kk {tyS ty:TypeId} {lo b:Nat} {w w':World} {v u:Value} {ps:List (Value×List aC)} {l:List aC} (h:Lists tyS ty lo w v ps) (hu:bA.own ty b w' u l) (hb:w.heap.size≤b):(∀p∈ps,apart p.1 u)∧apart u v:=by
 refine⟨fun p hp k e e'=> ?_,fun k e e'=> ?_⟩
 ·have h1:=(Kind.fu (h.2.1 p hp).1 e).2;have h2:=(Kind.fu hu e').1;omega
 ·have h1:=(h.1.lt k e').2;have h2:=(Kind.fu hu e).1;omega
theorem Lists.lo_le {tyS ty:TypeId} {lo:Nat} {w:World} {v:Value} {ps:List (Value×List aC)} (h:Lists tyS ty lo w v ps):∀k,v.ownBlock=some k→lo≤k:=fun k e=>(h.1.lt k e).1
theorem Lists.base {tyS ty:TypeId} {lo lo':Nat} {w:World} {v:Value} {ps:List (Value×List aC)} (h:Lists tyS ty lo w v ps) (hl:lo'≤lo):Lists tyS ty lo' w v ps:=by
 obtain⟨ho,hp,hpw⟩:=h;refine⟨⟨ho.1,?_⟩,fun p h1=>⟨vw (hp p h1).1 hl,(hp p h1).2⟩,hpw⟩;rcases ho.2 with e|⟨g,cap,cur,e,hg,r⟩
 ·exact Or.inl e
 ·exact Or.inr ⟨g,cap,cur,e,Nat.le_trans hl hg,r⟩
theorem sK {fs:List aG} {j:Nat} {f:aG} (h:fs[j]?=some f) (q:aG→Option (List aC)):(fs.take (j+1)).filterMap q=match q f with|none=>(fs.take j).filterMap q|some m=>(fs.take j).filterMap q++[m]:=by
 rw[List.take_add_one,h,List.filterMap_append];simp only[Option.toList];cases e:q f with
 |none=>simp[e]
 |some m=>simp[e]
theorem vL {a:aF} {fs:List aj} {ls:List (List aC)} {i:Nat} {l:List aC} (h:ls[i]?=some l):aK a fs (ls.take (i+1))=aK a fs (ls.take i)++fs.filterMap fun f=>dL a f l:=by
 unfold aK;rw[List.take_add_one,h,List.flatMap_append];simp
theorem zW {a:aF} {fs:List aj} {ls:List (List aC)} (i:Nat):(aK a fs (ls.take i)).length≤(aK a fs ls).length:=by
 have h:aK a fs ls=aK a fs (ls.take i)++aK a fs (ls.drop i):=by
  unfold aK;rw[←List.flatMap_append,List.take_append_drop]
 rw[h,List.length_append];omega
theorem Ii {w:World} {a:Option Addr} {n cap:Nat} {l:List aG} {j:Nat} {f:aG} (h:Facts w (.slice a n cap) l) (hj:l[j]?=some f):
  ∃b off s,a=some ⟨b,off,none⟩∧b<w.heap.size∧w.cell? ⟨b,off+j*2,none⟩=some (.string f.1)∧w.cell? ⟨b,off+j*2+1,none⟩=some s∧Strs w s f.2:=by
 obtain⟨_,a',cap',e,h1⟩:=h;simp only[Value.slice.injEq] at e;obtain⟨rfl,_,_⟩:=e;obtain⟨hl,e⟩:=List.getElem?_eq_some_iff.1 hj;obtain⟨b,off,rfl,hb,hc⟩:=h1 (by intro e;rw[e] at hl;simp at hl);obtain⟨c1,s,c2,c3⟩:=hc j hl;have ed:l.getD j aB=f:=by rw[List.getD_eq_getElem?_getD,hj];rfl
 rw[ed] at c1 c3;exact⟨b,off,s,rfl,hb,c1,c2,c3⟩
theorem EX {w:World} {R:Nat} {u0 u1 u2:Value} {t:TypeId} (h:w.heap[R]?=some (.cells #[u0,u1,u2] t (0,0))):w.cell? ⟨R,0,none⟩=some u0∧w.cell? ⟨R,1,none⟩=some u1∧w.cell? ⟨R,2,none⟩=some u2∧R<w.heap.size:=
 ⟨by rw[cell_of_row _ _ _ _ _ _ h];rfl,by rw[cell_of_row _ _ _ _ _ _ h];rfl,by rw[cell_of_row _ _ _ _ _ _ h];rfl,(Array.getElem?_eq_some_iff.1 h).1⟩
def xR (w0 w:World) (v:Value) (ls:List (List aC)):Prop:=
 if 20000<ls.length then v=.slice none 0 0 else∃ps,ps.map (·.2)=ls∧Lists 158 190 w0.heap.size w v ps
set_option maxRecDepth 100000 in
set_option maxHeartbeats 4000000 in
theorem Ij (a:aF) (tv fv v:Value) (fs:List aG) (ls:List (List aC)) (w:World) (ht:dn.sl bJ w tv a.terms) (hf:Facts w fv fs) (hv:sH.sl bJ w v ls) (hfs:fs.length≤200) (hls:ls.length≤20000) (hts:a.terms.length≤4) (hll:∀l∈ls,l.length≤1000):
  Calls Tryz.prog 218 #[.agg #[.bool a.no,.string (bs a.name),tv],fv,v] w fun e w'=>∃v',e=.returned (.tuple #[v',.int .i64 (if 20000<(aK a fs ls).length then 4 else 0)])∧xR w w' v' (aK a fs ls)∧Later w w':=by
 obtain⟨sa,cap,rfl⟩:=Kind.slice ht;obtain⟨fa,ES,rfl⟩:=aD hf;obtain⟨va,Ul,rfl⟩:=Kind.slice hv;have HT:=hide ht;have HF:=hide hf;have HV:=hide hv;have HLL:=hide hll;clear ht hf hv hll;have HM:Hid (∀(l:List aC) (u:Value) (f:aG) (fv:Value) (w1:World),Later w w1→bA.sl bJ w1 u l→bW w1 fv f→l.length≤1000→Calls Tryz.prog 175 #[.agg #[.bool a.no,.string (bs a.name),.slice sa a.terms.length cap],fv,u] w1 fun e w2=>∃v,e=.returned (.tuple #[v,.bool (dL a f l).isSome])∧Oc w1 w2 v (dL a f l)∧Later w1 w2):=fun l u f fv w1 hL hu hf hl=>
  Ig a _ fv u f l w1 (Kind.aI HT.out hL) hf hu (by omega)
 obtain⟨q,hq⟩:∃q:List aC→aG→Option (List aC),q=fun l f=>dL a f l:=⟨_,rfl⟩;have HSt:Hid (∀i l,ls[i]?=some l→aK a fs (ls.take (i+1))=aK a fs (ls.take i)++fs.filterMap (q l)):=fun i l h=>by rw[hq];exact vL h
 have HLe:Hid (∀i,(aK a fs (ls.take i)).length≤(aK a fs ls).length):=zW;have hqe:∀l f,dL a f l=q l f:=fun l f=>by rw[hq]
 simp only[hqe] at HM;have H0:Hid (aK a fs (ls.take 0)=[]):=by show _=_;simp[aK]
 have OV:Hid (aK a fs (ls.take ls.length)=aK a fs ls):=by show _=_;rw[List.take_length]
 clear hqe hq;generalize hA:(fun i=>aK a fs (ls.take i))=A at*;have hA':∀i,aK a fs (ls.take i)=A i:=fun i=>by rw[←hA]
 simp only[hA'] at HSt HLe H0 OV;clear hA hA';generalize aK a fs ls=R at*;obtain⟨no,name,ts⟩:=a;dsimp only at*;generalize bs name=nm at*;obtain⟨er,her⟩:∃er:Int,er=if 20000<R.length then 4 else 0:=⟨_,rfl⟩;rw[←her];have HER:=hide her;clear her
 go_enter Tryz.func218,Tryz.ntmps218
 go_wp2
 go_loopg [8,17] ls.length (fun g o i wr=>∃j:Nat,j+g=ls.length∧i=.int .i64 j∧∃ps,Hid (ps.map (·.2)=A j)∧Hid (Lists 158 190 (w.heap.size+1) wr o ps)∧Hid ((A j).length≤20000)∧Hid (Later w wr)∧w.heap.size+1≤wr.heap.size∧Hid (wr.heap[w.heap.size]?=some (.cells #[.bool no,.string nm,.slice sa ts.length cap] 85 (0,0))))
 case atStart=>
  refine⟨0,by omega,rfl,[],(by rw[H0.out];rfl:_=_),Lists.nil _ _ _ _,(by rw[H0.out];simp:_≤_),((by repeat (first|exact Later.refl _|assumption|refine Later.drewN ?_ _|refine Later.drew ?_|refine Later.alloc ?_ _|refine Later.grow ?_ _)):Later _ _),by simp,?_⟩;show _=_;exact heap_alloc_new _ _
 case round=>
  obtain⟨i,hi,rfl,ps,HP,HO,HN,HL,hsz,HB⟩:=hrel;obtain⟨ao,no',co,rfl⟩:∃a n c,u8=.slice a n c:=by obtain⟨a,c,e⟩:=Lists.slice HO.out;exact⟨a,_,c,e⟩
  by_cases hlt:i<ls.length
  ·obtain⟨l,hl⟩:∃l,ls[i]?=some l:=⟨_,List.getElem?_eq_getElem hlt⟩;obtain⟨b1,o1,_,rfl,hb1,⟨lv,rfl,hlv⟩,hc⟩:=Kind.fP HV.out hl;have d0:wr.cell? ⟨b1,o1+i,none⟩=some lv:=by rw[HL.out.cell hb1];simpa[slK] using hc 0 _ rfl
   have hbr:b1<wr.heap.size:=Nat.lt_of_lt_of_le hb1 HL.out.size;have hl1:l.length≤1000:=HLL.out l (List.mem_of_getElem? hl);have HS:=hide (HSt.out i l hl);obtain⟨al,cl,rfl⟩:=Kind.slice hlv;have HLV:=hide hlv;clear hc hl hlv;go_wp2
   go_loopg [8,23] fs.length (fun g o k wr=>∃j:Nat,j+g=fs.length∧k=.int .i64 j∧∃ps,Hid (ps.map (·.2)=A i++(fs.take j).filterMap (q l))∧Hid (Lists 158 190 (w.heap.size+1) wr o ps)∧Hid (Later w wr)∧w.heap.size+1≤wr.heap.size∧Hid (wr.heap[w.heap.size]?=some (.cells #[.bool no,.string nm,.slice sa ts.length cap] 85 (0,0))))
   case atStart=>exact⟨0,by omega,rfl,ps,(by rw[HP.out];simp:_=_),HO,HL,hsz,HB⟩
   case round=>
    clear d0 hbr hsz HO HP HB HL;obtain⟨j,hj,rfl,ps,HP,HO,HL,hsz,HB⟩:=hrel;obtain⟨ao,no',co,rfl⟩:∃a n c,u8=.slice a n c:=by obtain⟨a,c,e⟩:=Lists.slice HO.out;exact⟨a,_,c,e⟩
    by_cases Sv:j<fs.length
    ·obtain⟨f,hf⟩:∃f,fs[j]?=some f:=⟨_,List.getElem?_eq_getElem Sv⟩;obtain⟨b2,o2,sf,rfl,hb2,f0,f1,f2⟩:=Ii HF.out hf;have d0:wr.cell? ⟨b2,o2+j*2,none⟩=some (.string f.1):=by rw[HL.out.cell hb2];exact f0
     have d1:wr.cell? ⟨b2,o2+j*2+1,none⟩=some sf:=by rw[HL.out.cell hb2];exact f1
     have hbr:b2<wr.heap.size:=Nat.lt_of_lt_of_le hb2 HL.out.size;have HFM:=hide (sK hf (q l));obtain⟨wt,hwt⟩:∃wt,wt=wr.alloc (.cells #[.string f.1,sf] 27):=⟨_,rfl⟩;have hLt:Later w wt:=by rw[hwt];exact HL.out.alloc _
     have hLr:Later wr wt:=by rw[hwt];exact(Later.refl _).alloc _
     have hst:wt.heap.size=wr.heap.size+1:=by rw[hwt];simp
     have HC:=hide (HM.out l (.slice al l.length cl) f (.agg #[.string f.1,sf]) wt hLt (Kind.aI HLV.out hLt) ⟨sf,rfl,f2.later hLt⟩ hl1);rw[hwt] at HC;obtain⟨q0,q1,q2,q3⟩:=EX HB.out;obtain⟨af,cf,rfl⟩:=aZ f2;have HWT:=hide hwt;clear f0 f1 f2 hf hwt;obtain⟨fn,aH⟩:=f;dsimp only at*;cases hqf:q l (fn,aH) with
     |none=>
      rw[hqf] at HC HFM;have HP1:Hid (ps.map (·.2)=A i++(fs.take (j+1)).filterMap (q l)):=by
       show _=_;have:=HFM.out;dsimp only at this;rw[this];exact HP.out
      simp only[Option.isSome_none] at HC;clear hqf HFM
      go_wp2_with fail
      refine HC.out.mono ?_;rintro e w2 ⟨mv,rfl,hmv,hL2⟩;cases hmv;rw[←HWT.out] at hL2;have JJ:Later wr w2:=hLr.trans hL2;have HO2:=hide (HO.out.later JJ);have HB2:=hide ((JJ.block (by omega)).trans HB.out);have HL2:=hide (hLt.trans hL2);have hs2:w.heap.size+1≤w2.heap.size:=by have:=JJ.size;omega
      clear hL2 JJ HC;go_wp2
      go_roundg (fs.length- (j+1))
      case measure=>omega
      case rel=>exact⟨j+1,by omega,by go_num,ps,HP1,HO2,HL2,hs2,HB2⟩
     |some m=>
      rw[hqf] at HC HFM;have HP1:Hid ((ps++[((.slice none 0 0:Value),m)]).map (·.2)=A i++(fs.take (j+1)).filterMap (q l)):=by
       show _=_;have:=HFM.out;dsimp only at this;rw[this,List.map_append,HP.out,List.append_assoc];rfl
      simp only[Option.isSome_some] at HC;have hpl:ps.length≤20000+j:=by
       have h1:=congrArg List.length HP.out;have h2:=HN.out;have h3:=List.length_filterMap_le (q l) (fs.take j);rw[List.length_map,List.length_append] at h1;rw[List.length_take] at h3;omega
      clear hqf HFM HP
      go_wp2_with fail
      refine HC.out.mono ?_;rintro e w2 ⟨mv,rfl,hmv,hL2⟩;have hmo:bA.own 190 wt.heap.size w2 mv m:=by rw[HWT.out];exact hmv
      clear hmv;rw[←HWT.out] at hL2;have JJ:Later wr w2:=hLr.trans hL2;have hs2:wr.heap.size<w2.heap.size:=by have:=hL2.size;omega
      have hO2:=HO.out.later JJ;have hap:=HO.out.Kk hmo (by omega);obtain⟨v',w4,hrun,hO4,hg4,hd4⟩:=hO2.more (vw hmo (lo':=w.heap.size+1) (by omega)) hap.1 hap.2 (by omega) (by omega);obtain⟨am,nm',cm,rfl⟩:∃a n c,mv=.slice a n c:=by obtain⟨a,c,e⟩:=Kind.dI hmo;exact⟨a,_,c,e⟩
      have HL4:=hide ((hLt.trans hL2).more hg4 hd4 fun k e=>by have:=hO2.lo_le k e;omega);have hs4:w.heap.size+1≤w4.heap.size:=by have:=hg4.size;simp at this;omega
      have HB4:Hid (w4.heap[w.heap.size]?=some (.cells #[.bool no,.string nm,.slice sa ts.length cap] 85 (0,0))):=by
       show _=_;rw[hg4.block w.heap.size (by simp;omega) (fun e=>by have:=hO2.lo_le _ e.symm;omega),Below.heap_alloc _ _ _ (by omega)];exact(JJ.block (by omega)).trans HB.out
      obtain⟨a4,n4,c4,rfl⟩:∃a n c,v'=.slice a n c:=by obtain⟨a,c,e⟩:=Lists.slice hO4;exact⟨a,_,c,e⟩
      have HR4:=hide hrun;have HO4:=hide hO4;have HP2:Hid ((ps++[((.slice am nm' cm:Value),m)]).map (·.2)=A i++(fs.take (j+1)).filterMap (q l)):=by
       show _=_;rw[←HP1.out];simp
      clear hL2 JJ HC hrun hO4 hg4 hd4 hO2 hap hmo HP1
      go_wp2_with (at_builtin;refine wpList_append_run rfl (.tmp 35) (.tmp 37) 62 rfl _ _ _ _ rfl rfl HR4.out ?_)
      go_roundg (fs.length- (j+1))
      case measure=>omega
      case rel=>exact⟨j+1,by omega,by go_num,_,HP2,HO4,HL4,hs4,HB4⟩
    ·have e:j=fs.length:=by omega
     have HP1:Hid (ps.map (·.2)=A (i+1)):=by
      show _=_;rw[HP.out,HS.out,e,List.take_length]
     have hpl:no'=(A (i+1)).length:=by
      have h1:=congrArg List.length HP1.out;obtain⟨a,c,e⟩:=Lists.slice HO.out;simp only[Value.slice.injEq] at e;rw[List.length_map] at h1;omega
     by_cases hbig:20000<(A (i+1)).length
     ·have hz:(20000:Int)<(no':Int):=by omega
      have HR1:Hid (20000<R.length):=by
       show _<_;have:=HLe.out (i+1);omega
      clear hpl hbig HP HP1;go_wp2
      go_ret2
      have e4:er=4:=by rw[HER.out];exact if_pos HR1.out
      refine⟨.slice none 0 0,by rw[e4];rfl,?_,HL.out⟩;unfold xR;rw[if_pos HR1.out]
     ·have hz:¬((20000:Int)<(no':Int)):=by omega
      have HN1:Hid ((A (i+1)).length≤20000):=(by omega:_≤_);clear hpl hbig HP;go_wp2
      go_roundg (ls.length- (i+1))
      case measure=>omega
      case rel=>exact⟨i+1,by omega,by go_num,ps,HP1,HO,HN1,HL,hsz,HB⟩
  ·have e:i=ls.length:=by omega
   have HR1:Hid (¬20000<R.length):=by
    show¬_;have:=HN.out;rw[e,OV.out] at this;omega
   have HP1:Hid (ps.map (·.2)=R):=by show _=_;rw[HP.out,e,OV.out]
   clear HP HN e;go_wp2
   go_ret2
   have e4:er=0:=by rw[HER.out];exact if_neg HR1.out
   refine⟨.slice ao no' co,by rw[e4];rfl,?_,HL.out⟩;unfold xR;rw[if_neg HR1.out];exact⟨ps,HP1.out,HO.out.base (by omega)⟩
end Go.Proofs.YtafmbokfkbccaaaGreatDoor
