import Derived.Shelf.SlSortCmp.WholeK
import Derived.Test.YthngiikhgplldaaGreatDoorProg
import Derived.Shelf.SlSortCmp.Whole1
import Derived.Test.YthngiikhgplldaaGreatDoorJR9
import Derived.Shelf.SlSortCmp.NoneTotal
open Go.RowKit Go.Sort Go.Shelf
set_option maxHeartbeats 2000000
set_option maxRecDepth 100000
section
namespace Go.Proofs
open Go.Shelf
def Tryz.sortBinds_ren:Go.Shelf.Ren:=⟨fun|6=>134|15=>116|14=>162|28=>147|29=>148|20=>174|21=>175|22=>176|23=>177|24=>178|25=>179|26=>180|27=>181|46=>194|47=>166|48=>167|49=>195|50=>196|57=>204|n=>n,fun|22=>142|24=>170|25=>171|3=>3|39=>136|0=>0|53=>183|55=>185|4=>4|46=>177|45=>176|50=>94|5=>5|9=>9|66=>208|70=>212|76=>226|77=>227|n=>n,fun|n=>n⟩
theorem Tryz.sortBinds:Go.Proofs.SlLaysF0.n6 Tryz.prog Tryz.sortBinds_ren:={
 mixed:=by kernel_rfl
 f6:=⟨Tryz.f134.name,by decide,Tryz.func134.trans (congrArg some (by kernel_rfl))⟩
 f14:=⟨Tryz.f162.name,by decide,Tryz.func162.trans (congrArg some (by kernel_rfl))⟩
 f15:=Tryz.func116.trans (congrArg some (by kernel_rfl))
 f20:=⟨Tryz.f174.name,by decide,Tryz.func174.trans (congrArg some (by kernel_rfl))⟩
 f21:=⟨Tryz.f175.name,by decide,Tryz.func175.trans (congrArg some (by kernel_rfl))⟩
 f22:=⟨Tryz.f176.name,by decide,Tryz.func176.trans (congrArg some (by kernel_rfl))⟩
 f23:=⟨Tryz.f177.name,by decide,Tryz.func177.trans (congrArg some (by kernel_rfl))⟩
 f24:=⟨Tryz.f178.name,by decide,Tryz.func178.trans (congrArg some (by kernel_rfl))⟩
 f25:=⟨Tryz.f179.name,by decide,Tryz.func179.trans (congrArg some (by kernel_rfl))⟩
 f26:=⟨Tryz.f180.name,by decide,Tryz.func180.trans (congrArg some (by kernel_rfl))⟩
 f27:=⟨Tryz.f181.name,by decide,Tryz.func181.trans (congrArg some (by kernel_rfl))⟩
 f28:=Tryz.func147.trans (congrArg some (by kernel_rfl))
 f29:=Tryz.func148.trans (congrArg some (by kernel_rfl))
 f46:=⟨Tryz.f194.name,by decide,Tryz.func194.trans (congrArg some (by kernel_rfl))⟩
 f47:=Tryz.func166.trans (congrArg some (by kernel_rfl))
 f48:=Tryz.func167.trans (congrArg some (by kernel_rfl))
 f49:=⟨Tryz.f195.name,by decide,Tryz.func195.trans (congrArg some (by kernel_rfl))⟩
 f50:=⟨Tryz.f196.name,by decide,Tryz.func196.trans (congrArg some (by kernel_rfl))⟩
 f57:=⟨Tryz.f204.name,by decide,Tryz.func204.trans (congrArg some (by kernel_rfl))⟩
 t0:=Tryz.underlying0
 a0:=Tryz.isAgg0
 z0:=Tryz.sizeOf0
 v0:=Tryz.zeroValue0
 t3:=Tryz.underlying3
 a3:=Tryz.isAgg3
 z3:=Tryz.sizeOf3
 v3:=Tryz.zeroValue3
 t4:=Tryz.underlying4
 a4:=Tryz.isAgg4
 z4:=Tryz.sizeOf4
 v4:=Tryz.zeroValue4
 t5:=Tryz.underlying5
 a5:=Tryz.isAgg5
 z5:=Tryz.sizeOf5
 v5:=Tryz.zeroValue5
 t9:=Tryz.underlying9
 a9:=Tryz.isAgg9
 z9:=Tryz.sizeOf9
 v9:=Tryz.zeroValue9
 t22:=Tryz.underlying142
 a22:=Tryz.isAgg142
 z22:=Tryz.sizeOf142
 v22:=Tryz.zeroValue142
 t25:=Tryz.underlying171
 a25:=Tryz.isAgg171
 z25:=Tryz.sizeOf171
 v25:=Tryz.zeroValue171
 t39:=Tryz.underlying136
 a39:=Tryz.isAgg136
 z39:=Tryz.sizeOf136
 v39:=Tryz.zeroValue136
 t45:=Tryz.underlying176
 a45:=Tryz.isAgg176
 z45:=Tryz.sizeOf176
 v45:=Tryz.zeroValue176
 t46:=Tryz.underlying177
 a46:=Tryz.isAgg177
 z46:=Tryz.sizeOf177
 v46:=Tryz.zeroValue177
 t50:=Tryz.underlying94
 a50:=Tryz.isAgg94
 z50:=Tryz.sizeOf94
 v50:=Tryz.zeroValue94
 t53:=Tryz.underlying183
 a53:=Tryz.isAgg183
 z53:=Tryz.sizeOf183
 v53:=Tryz.zeroValue183
 t55:=Tryz.underlying185
 a55:=Tryz.isAgg185
 z55:=Tryz.sizeOf185
 v55:=Tryz.zeroValue185
 t66:=Tryz.underlying208
 a66:=Tryz.isAgg208
 z66:=Tryz.sizeOf208
 v66:=Tryz.zeroValue208
 t70:=Tryz.underlying212
 a70:=Tryz.isAgg212
 z70:=Tryz.sizeOf212
 v70:=Tryz.zeroValue212
 t76:=Tryz.underlying226
 a76:=Tryz.isAgg226
 z76:=Tryz.sizeOf226
 v76:=Tryz.zeroValue226
 t77:=Tryz.underlying227
 a77:=Tryz.isAgg227
 z77:=Tryz.sizeOf227
 v77:=Tryz.zeroValue227}
end Go.Proofs
end
section
namespace Go.Proofs
open Go.Shelf
def Tryz.sortLists_ren:Go.Shelf.Ren:=⟨fun|6=>136|15=>116|14=>164|28=>147|29=>148|20=>182|21=>183|22=>184|23=>185|24=>186|25=>187|26=>188|27=>189|46=>197|47=>166|48=>167|49=>198|50=>199|57=>205|n=>n,fun|22=>120|24=>142|25=>174|3=>3|39=>136|0=>0|53=>183|55=>185|4=>4|46=>177|45=>176|50=>94|5=>5|9=>9|66=>208|70=>212|76=>226|77=>227|n=>n,fun|n=>n⟩
theorem Tryz.sortLists:Go.Proofs.SlLaysF.n6 Tryz.prog Tryz.sortLists_ren:={
 mixed:=by kernel_rfl
 f6:=⟨Tryz.f136.name,by decide,Tryz.func136.trans (congrArg some (by kernel_rfl))⟩
 f14:=⟨Tryz.f164.name,by decide,Tryz.func164.trans (congrArg some (by kernel_rfl))⟩
 f15:=Tryz.func116.trans (congrArg some (by kernel_rfl))
 f20:=⟨Tryz.f182.name,by decide,Tryz.func182.trans (congrArg some (by kernel_rfl))⟩
 f21:=⟨Tryz.f183.name,by decide,Tryz.func183.trans (congrArg some (by kernel_rfl))⟩
 f22:=⟨Tryz.f184.name,by decide,Tryz.func184.trans (congrArg some (by kernel_rfl))⟩
 f23:=⟨Tryz.f185.name,by decide,Tryz.func185.trans (congrArg some (by kernel_rfl))⟩
 f24:=⟨Tryz.f186.name,by decide,Tryz.func186.trans (congrArg some (by kernel_rfl))⟩
 f25:=⟨Tryz.f187.name,by decide,Tryz.func187.trans (congrArg some (by kernel_rfl))⟩
 f26:=⟨Tryz.f188.name,by decide,Tryz.func188.trans (congrArg some (by kernel_rfl))⟩
 f27:=⟨Tryz.f189.name,by decide,Tryz.func189.trans (congrArg some (by kernel_rfl))⟩
 f28:=Tryz.func147.trans (congrArg some (by kernel_rfl))
 f29:=Tryz.func148.trans (congrArg some (by kernel_rfl))
 f46:=⟨Tryz.f197.name,by decide,Tryz.func197.trans (congrArg some (by kernel_rfl))⟩
 f47:=Tryz.func166.trans (congrArg some (by kernel_rfl))
 f48:=Tryz.func167.trans (congrArg some (by kernel_rfl))
 f49:=⟨Tryz.f198.name,by decide,Tryz.func198.trans (congrArg some (by kernel_rfl))⟩
 f50:=⟨Tryz.f199.name,by decide,Tryz.func199.trans (congrArg some (by kernel_rfl))⟩
 f57:=⟨Tryz.f205.name,by decide,Tryz.func205.trans (congrArg some (by kernel_rfl))⟩
 t0:=Tryz.underlying0
 a0:=Tryz.isAgg0
 z0:=Tryz.sizeOf0
 v0:=Tryz.zeroValue0
 t3:=Tryz.underlying3
 a3:=Tryz.isAgg3
 z3:=Tryz.sizeOf3
 v3:=Tryz.zeroValue3
 t4:=Tryz.underlying4
 a4:=Tryz.isAgg4
 z4:=Tryz.sizeOf4
 v4:=Tryz.zeroValue4
 t5:=Tryz.underlying5
 a5:=Tryz.isAgg5
 z5:=Tryz.sizeOf5
 v5:=Tryz.zeroValue5
 t9:=Tryz.underlying9
 a9:=Tryz.isAgg9
 z9:=Tryz.sizeOf9
 v9:=Tryz.zeroValue9
 t22:=Tryz.underlying120
 a22:=Tryz.isAgg120
 z22:=Tryz.sizeOf120
 v22:=Tryz.zeroValue120
 a24:=Tryz.isAgg142
 z24:=Tryz.sizeOf142
 t25:=Tryz.underlying174
 a25:=Tryz.isAgg174
 z25:=Tryz.sizeOf174
 v25:=Tryz.zeroValue174
 t39:=Tryz.underlying136
 a39:=Tryz.isAgg136
 z39:=Tryz.sizeOf136
 v39:=Tryz.zeroValue136
 t45:=Tryz.underlying176
 a45:=Tryz.isAgg176
 z45:=Tryz.sizeOf176
 v45:=Tryz.zeroValue176
 t46:=Tryz.underlying177
 a46:=Tryz.isAgg177
 z46:=Tryz.sizeOf177
 v46:=Tryz.zeroValue177
 t50:=Tryz.underlying94
 a50:=Tryz.isAgg94
 z50:=Tryz.sizeOf94
 v50:=Tryz.zeroValue94
 t53:=Tryz.underlying183
 a53:=Tryz.isAgg183
 z53:=Tryz.sizeOf183
 v53:=Tryz.zeroValue183
 t55:=Tryz.underlying185
 a55:=Tryz.isAgg185
 z55:=Tryz.sizeOf185
 v55:=Tryz.zeroValue185
 t66:=Tryz.underlying208
 a66:=Tryz.isAgg208
 z66:=Tryz.sizeOf208
 v66:=Tryz.zeroValue208
 t70:=Tryz.underlying212
 a70:=Tryz.isAgg212
 z70:=Tryz.sizeOf212
 v70:=Tryz.zeroValue212
 t76:=Tryz.underlying226
 a76:=Tryz.isAgg226
 z76:=Tryz.sizeOf226
 v76:=Tryz.zeroValue226
 t77:=Tryz.underlying227
 a77:=Tryz.isAgg227
 z77:=Tryz.sizeOf227
 v77:=Tryz.zeroValue227}
end Go.Proofs
end
namespace Go.Proofs.YthngiikhgplldaaGreatDoor
theorem orC (c cp:Nat) (x y:Int) (w:World) (h0:w.cell? ⟨c,0,none⟩=some (.int .i64 x)) (h1:w.cell? ⟨c,1,none⟩=some (.int .i64 y)):
  Calls Tryz.prog 163 #[.slice (some ⟨c,0,none⟩) 2 cp] w fun e w'=>e=.returned (.int .i64 (if x≠0 then x else y))∧w'=w:=by
 by_cases hx:x=0
 ·subst hx
  by_cases hy:y=0
  ·subst hy
   go_enter Tryz.func163,Tryz.ntmps163
   go_wp2;refine wp_loop_rounds 3 ?_;rw[rounds_succ];go_wp2;rw[rounds_succ];go_wp2;rw[rounds_succ];go_wp2;go_ret;exact⟨rfl,rfl⟩
  have hq:(y != 0)=true:=by simpa using hy
  go_enter Tryz.func163,Tryz.ntmps163
  go_wp2;refine wp_loop_rounds 3 ?_;rw[rounds_succ];go_wp2;rw[rounds_succ];go_wp2;go_ret;exact⟨rfl,rfl⟩
 have hq:(x != 0)=true:=by simpa using hx
 rw[if_pos hx];clear hx
 go_enter Tryz.func163,Tryz.ntmps163
 go_wp2;refine wp_loop_rounds 3 ?_;rw[rounds_succ];go_wp2;go_ret;exact⟨rfl,rfl⟩
theorem yH (a b:aI) (w:World):Calls Tryz.prog 135 #[.agg (uI a).toArray,.agg (uI b).toArray] w fun e w'=>e=.returned (.int .i64 (uZ a b))∧aj w w':=by
 obtain⟨a1,a2⟩:=a;obtain⟨b1,b2⟩:=b;show Calls _ _ #[.agg #[.string a1,.string a2],.agg #[.string b1,.string b2]] _ fun e w'=>e=.returned (.int .i64 (if gV a1 b1≠0 then gV a1 b1 else gV a2 b2))∧_;generalize hwb:(w.alloc (.cells #[.string a1,.string a2] 170)).alloc (.cells #[.string b1,.string b2] 170)=wb;have HWB:=au hwb;have hLb:aj w wb:=by rw[←hwb];exact(by repeat (first|exact aj.refl _|assumption|refine aj.drewN ?_ _|refine aj.drew ?_|refine aj.alloc ?_ _|refine aj.grow ?_ _))
 have z0:wb.cell? ⟨w.heap.size,0,none⟩=some (.string a1):=by rw[←hwb];simp
 have z1:wb.cell? ⟨w.heap.size,1,none⟩=some (.string a2):=by rw[←hwb];simp
 have z2:wb.cell? ⟨w.heap.size+1,0,none⟩=some (.string b1):=by rw[←hwb];simp
 have z3:wb.cell? ⟨w.heap.size+1,1,none⟩=some (.string b2):=by rw[←hwb];simp
 have hsb:wb.heap.size=w.heap.size+2:=by rw[←hwb];simp
 clear hwb;obtain⟨r,hr⟩:∃r,r=if gV a1 b1≠0 then gV a1 b1 else gV a2 b2:=⟨_,rfl⟩;have HOr:Hid (∀(c:Nat) (w:World),w.cell? ⟨c,0,none⟩=some (.int .i64 (gV a1 b1))→w.cell? ⟨c,1,none⟩=some (.int .i64 (gV a2 b2))→Calls Tryz.prog 163 #[.slice (some ⟨c,0,none⟩) 2 2] w fun e w'=>e=.returned (.int .i64 r)∧w'=w):=fun c w h0 h1=>by rw[hr];exact orC c 2 _ _ w h0 h1
 rw[←hr];clear hr
 go_enter Tryz.func135,Tryz.ntmps135
 go_wp2;rw[HWB.out];have cell:∀w',aj wb w'→w'.cell? ⟨w.heap.size,0,none⟩=some (.string a1)∧w'.cell? ⟨w.heap.size,1,none⟩=some (.string a2)∧w'.cell? ⟨w.heap.size+1,0,none⟩=some (.string b1)∧w'.cell? ⟨w.heap.size+1,1,none⟩=some (.string b2):=fun w' hL=>
  ⟨by rw[hL.cell (by show w.heap.size<_;omega)];exact z0,by rw[hL.cell (by show w.heap.size<_;omega)];exact z1,by rw[hL.cell (by show w.heap.size+1<_;omega)];exact z2,by rw[hL.cell (by show w.heap.size+1<_;omega)];exact z3⟩
 have CELL:=au cell;clear cell z0 z1 z2 z3 hsb;refine wp_region_held_drew (S:=fun w'=>aj wb w') (by kernel_rfl) (aj.refl _).drew (fun hHeld=>?_);refine tkY 0 5 hHeld ?_;refine tkY 1 6 hHeld ?_ rfl fun w hSw=>by obtain⟨q0,q1,q2,q3⟩:=CELL.out w hSw;go_simp;try with_reducible rfl
 refine tkY 2 7 hHeld ?_;refine tkY 3 8 hHeld ?_ rfl fun w hSw=>by obtain⟨q0,q1,q2,q3⟩:=CELL.out w hSw;go_simp;try with_reducible rfl
 refine tkY 5 10 hHeld ?_;refine tkY 6 11 hHeld ?_ rfl fun w hSw=>by obtain⟨q0,q1,q2,q3⟩:=CELL.out w hSw;go_simp;try with_reducible rfl
 refine tkY 7 12 hHeld ?_;refine tkY 8 13 hHeld ?_ rfl fun w hSw=>by obtain⟨q0,q1,q2,q3⟩:=CELL.out w hSw;go_simp;try with_reducible rfl
 refine tkC 4 fun K hK=>?_;go_simp;refine(jy _ _ _).mono ?_;rintro e u1 ⟨rfl,rfl⟩;dsimp only;refine hK.out _ _ hHeld (fun hHeld=>?_);clear hK K;refine tkC 9 fun K hK=>?_;go_simp;refine(jy _ _ _).mono ?_;rintro e u2 ⟨rfl,rfl⟩;dsimp only;refine hK.out _ _ hHeld (fun hHeld=>?_);clear hK K;refine tkC 10 fun K hK=>?_;go_simp;refine hK.out _ _ (hHeld.alloc _) (fun hHeld=>?_);clear hK K;refine tkC 11 fun K hK=>?_;go_simp;refine(HOr.out _ _ (by simp) (by simp)).mono ?_;rintro e u3 ⟨rfl,rfl⟩;dsimp only;refine hK.out _ _ hHeld (fun hHeld=>?_);clear hK K;refine tkY 12 4 hHeld ?_;refine wpAnyH_done (by kernel_rfl) ?_ _;go_wp2;go_ret;exact⟨rfl,hLb.trans hHeld⟩
theorem Bn (u v:Value) (l m:List aI) (w:World) (hu:bO.sl bT w u l) (hv:bO.sl bT w v m):
  Calls Tryz.prog 138 #[u,v,.func (.func 135) #[] #[]] w fun e w'=>e=.returned (.int .i64 (gW l m))∧aj w w':=by
 obtain⟨a,cap,rfl⟩:=aB.slice hu;obtain⟨a',cap',rfl⟩:=aB.slice hv;have hl:=hu.1.1;have hm:=hv.1.1;have HU:=au hu;have HV:=au hv;clear hu hv
 go_enter Tryz.func138,Tryz.ntmps138
 go_wp2
 go_loopg [13] l.length (fun g i wr=>∃j:Nat,j+g=l.length∧i=.int .i64 j∧Hid (gW l m=gW (l.drop j) (m.drop j))∧Hid (j≤m.length)∧Hid (aj w wr))
 case atStart=>exact⟨0,by omega,rfl,(rfl:_=_),(Nat.zero_le _:_≤_),aj.refl _⟩
 obtain⟨j,hj,rfl,HE,HJ,HL⟩:=hrel;have hjm:=HJ.out
 by_cases hlt:j<l.length
 ·obtain⟨x,hx⟩:∃x,l[j]?=some x:=⟨_,List.getElem?_eq_getElem hlt⟩;obtain⟨b1,o1,_,rfl,hb1,rfl,hc⟩:=aB.bR HU.out hx;have d0:wr.cell? ⟨b1,o1+j*2,none⟩=some (.string x.1):=by rw[HL.out.cell hb1];exact hc 0 _ rfl
  have d1:wr.cell? ⟨b1,o1+j*2+1,none⟩=some (.string x.2):=by rw[HL.out.cell hb1];exact hc 1 _ rfl
  have hbr:b1<wr.heap.size:=Nat.lt_of_lt_of_le hb1 HL.out.size;have hdx:l.drop j=x::l.drop (j+1):=by obtain⟨h1,e1⟩:=List.getElem?_eq_some_iff.1 hx;rw[List.drop_eq_getElem_cons h1,e1]
  by_cases hlm:j<m.length
  ·obtain⟨y,hy⟩:∃y,m[j]?=some y:=⟨_,List.getElem?_eq_getElem hlm⟩;obtain⟨b2,o2,_,rfl,hb2,rfl,hc2⟩:=aB.bR HV.out hy;have hLa:=HL.out.alloc (.cells #[.string x.1,.string x.2] 170);have d2:(wr.alloc (.cells #[.string x.1,.string x.2] 170)).cell? ⟨b2,o2+j*2,none⟩=some (.string y.1):=by rw[hLa.cell hb2];exact hc2 0 _ rfl
   have d3:(wr.alloc (.cells #[.string x.1,.string x.2] 170)).cell? ⟨b2,o2+j*2+1,none⟩=some (.string y.2):=by rw[hLa.cell hb2];exact hc2 1 _ rfl
   have Jq:b2<wr.heap.size:=Nat.lt_of_lt_of_le hb2 HL.out.size;have hdy:m.drop j=y::m.drop (j+1):=by obtain⟨h1,e1⟩:=List.getElem?_eq_some_iff.1 hy;rw[List.drop_eq_getElem_cons h1,e1]
   have HC:Hid (Calls Tryz.prog 135 #[.agg #[.string x.1,.string x.2],.agg #[.string y.1,.string y.2]] ((wr.alloc (.cells #[.string x.1,.string x.2] 170)).alloc (.cells #[.string y.1,.string y.2] 170)) fun e w2=>e=.returned (.int .i64 (uZ x y))∧Hid (aj w w2)):=
    (yH x y _).mono fun e w2 ⟨he,h2⟩=>⟨he,(hLa.alloc _).trans h2⟩
   have E:gW l m=if uZ x y≠0 then uZ x y else gW (l.drop (j+1)) (m.drop (j+1)):=by rw[HE.out,hdx,hdy];rfl
   have hjz:¬((m.length:Int)≤(j:Int)):=by omega
   clear hc hc2 hx hy hdx hdy hLa;obtain⟨x1,x2⟩:=x;obtain⟨y1,y2⟩:=y;dsimp only at*;generalize uZ (x1,x2) (y1,y2)=r at*
   by_cases h0:r=0
   ·subst h0;have HE1:Hid (gW l m=gW (l.drop (j+1)) (m.drop (j+1))):=by show _=_;rw[E];rfl
    clear E HE
    go_wp2_with (go_at_call 135;refine HC.out.mono ?_;rintro e w2 ⟨rfl,hL2⟩)
    go_roundg (l.length- (j+1))
    case measure=>omega
    case rel=>exact⟨j+1,by omega,by go_num,HE1,(by omega:j+1≤m.length),hL2⟩
   have HE1:Hid (gW l m=r):=by show _=_;rw[E,if_pos h0]
   have hq:(r != 0)=true:=by simpa using h0
   clear E HE h0
   go_wp2_with (go_at_call 135;refine HC.out.mono ?_;rintro e w2 ⟨rfl,hL2⟩)
   go_ret;exact⟨by rw[HE1.out];rfl,hL2.out⟩
  have HE1:Hid (gW l m=1):=by show _=_;rw[HE.out,hdx,List.drop_eq_nil_of_le (by omega:m.length≤j)];rfl
  have hjz:(m.length:Int)≤(j:Int):=by omega
  clear hc hx hdx HE;obtain⟨x1,x2⟩:=x;dsimp only at*;go_wp2;go_ret;exact⟨by rw[HE1.out];rfl,HL.out.alloc _⟩
 have e:j=l.length:=by omega
 by_cases hlm:l.length<m.length
 ·have HE1:Hid (gW l m= -1):=by
   show _=_;rw[HE.out,List.drop_eq_nil_of_le (by omega),List.drop_eq_getElem_cons (by omega:j<m.length)];rfl
  have hz:(l.length:Int)<(m.length:Int):=by omega
  clear HE;go_wp2;go_ret;exact⟨by rw[HE1.out];rfl,HL.out⟩
 have HE1:Hid (gW l m=0):=by show _=_;rw[HE.out,List.drop_eq_nil_of_le (by omega),List.drop_eq_nil_of_le (by omega)];rfl
 have hz:¬((l.length:Int)<(m.length:Int)):=by omega
 clear HE;go_wp2;go_ret;exact⟨by rw[HE1.out];rfl,HL.out⟩
theorem qJ:∀args w,(callFunc 135 args).run Tryz.prog w=.ok (.enter 135 args) w:=enters_of Tryz.func135 (by kernel_rfl) rfl
theorem tK:∀args w,(callFunc 137 args).run Tryz.prog w=.ok (.enter 137 args) w:=enters_of Tryz.func137 (by kernel_rfl) rfl
theorem GX (u v:Value) (l m:List aI) (w:World) (hu:bO.sl bT w u l) (hv:bO.sl bT w v m):
  Calls Tryz.prog 137 #[u,v] w fun e w'=>e=.returned (.int .i64 (gW l m))∧aj w w':=by
 have HC:=au (Bn u v l m w hu hv);obtain⟨a,cap,rfl⟩:=aB.slice hu;obtain⟨a',cap',rfl⟩:=aB.slice hv;clear hu hv;generalize gW l m=r at*
 go_enter Tryz.func137,Tryz.ntmps137
 go_wp2_with (go_at_call 138;refine HC.out.mono ?_;rintro e w2 ⟨rfl,hL2⟩;replace hL2:=au hL2)
 go_ret;exact⟨rfl,bg hL2⟩
theorem yI {α:Type} {c:α→α→Int} (h:Three c):SWO (ltOf c) where
 irrefl x:=by unfold ltOf;rw[h.refl];rfl
 trans x y z h1 h2:=by unfold ltOf at*;rw[decide_eq_true_eq] at*;exact h.trans _ _ _ h1 h2
 ntrans x y z h1 h2:=by unfold ltOf at*;rw[decide_eq_false_iff_not] at*;have e1:=h.swap x y;have e2:=h.swap y z;have e3:=h.swap x z;have:=h.le_trans (a:=z) (b:=y) (d:=x) (by omega) (by omega);omega
theorem Bo {α:Type} {inst:Inhabited α} {d d':Array α} (h:PermIn 0 d.size d d'):d'.toList.Perm d.toList:=by
 obtain⟨h1,_,h3⟩:=h;have e:d'.extract 0 d.size=d':=by rw[←h1];simp
 rw[e] at h3;simpa using h3
theorem sorted_in {α:Type} {inst:Inhabited α} {c:α→α→Int} (hc:Three c) {n:Nat} {d:Array α} (hn:d.size=n) (h:SortedIn (ltOf c) 0 n d):d.toList.Pairwise fun a b=>c a b≤0:=by
 rw[List.pairwise_iff_getElem];intro i j hi hj hij;have:=h i j (Nat.zero_le _) hij (by simp at hj;omega);have e1:d[i]! =d.toList[i]:=by rw[getElem!_pos d i (by simpa using hi)];simp
 have e2:d[j]! =d.toList[j]:=by rw[getElem!_pos d j (by simpa using hj)];simp
 rw[e1,e2] at this;unfold ltOf at this;rw[decide_eq_false_iff_not] at this;have:=hc.swap d.toList[i] d.toList[j];omega
instance:Inhabited aI:=⟨(ByteArray.empty,ByteArray.empty)⟩
theorem GY:∀w,(isAgg 170).run Tryz.prog w=.ok true w:=Tryz.isAgg170
theorem Fq:∀w,(Go.sizeOf 170).run Tryz.prog w=.ok 2 w:=Tryz.sizeOf170
structure fV (p:Option Nat) (w w':World):Prop where
 os:w'.os=w.os
 tape:w'.tape=w.tape
 output:w'.output=w.output
 drawn:w.drawn≤w'.drawn
 size:w.heap.size≤w'.heap.size
 block:∀k,k<w.heap.size→p≠some k→w'.heap[k]?=w.heap[k]?
theorem fV.refl (p:Option Nat) (w:World):fV p w w:=⟨rfl,rfl,rfl,Nat.le_refl _,Nat.le_refl _,fun _ _ _=>rfl⟩
theorem fV.of_later {p:Option Nat} {w w':World} (h:aj w w'):fV p w w':=⟨h.below.os,h.below.tape,h.below.output,h.drawn,h.size,fun _ hk _=>h.block hk⟩
theorem fV.trans {p:Option Nat} {a b c:World} (h:fV p a b) (k:fV p b c):fV p a c:=
 ⟨k.os.trans h.os,k.tape.trans h.tape,k.output.trans h.output,Nat.le_trans h.drawn k.drawn,Nat.le_trans h.size k.size,fun i hi ho=>(k.block i (Nat.lt_of_lt_of_le hi h.size) ho).trans (h.block i hi ho)⟩
theorem fV.later {p:Option Nat} {w0 a b:World} (h:fV p a b) (h0:aj w0 a) (hp:∀k,p=some k→w0.heap.size≤k):aj w0 b:=
 aj.of_below ⟨h.os.trans h0.below.os,h.tape.trans h0.below.tape,h.output.trans h0.below.output,Nat.le_trans h0.size h.size,fun k hk=>
  (h.block k (Nat.lt_of_lt_of_le hk h0.size) (fun e=>by have:=hp k e;omega)).trans (h0.block hk)⟩ (Nat.le_trans h0.drawn h.drawn)
theorem mh {w:World} {g:Nat} (j:Nat) {cs:Array Value} {t:TypeId} (h:w.heap[g]?=some (.cells cs t (0,0))):w.frozen? ⟨g,j,none⟩=false:=by simp[World.frozen?,h]
theorem Er {ty:TypeId} {lo g n cap:Nat} {w:World} {l:List aI} (h:bO.own ty lo w (.slice (some ⟨g,0,none⟩) n cap) l):HoldsK uI 2 w g 0 l.toArray:=by
 have ho:=pz h;rcases ho.2 with⟨e,_⟩|⟨g',cap',cur,e,hb,hg,_⟩
 ·cases e
 simp only[Value.slice.injEq,Option.some.injEq,Addr.mk.injEq] at e;obtain⟨⟨rfl,_⟩,rfl,rfl⟩:=e;intro j hj;rw[size_flatK] at hj;simp only[List.size_toArray] at hj;have hj2:j/2<l.length:=by omega
 rw[get_flatK _ _ _ _ (by simpa using hj)];refine⟨?_,mh _ hg⟩;have e1:=jX l (j/2) (j%2) (Nat.mod_lt _ (by omega));rw[List.getElem?_eq_getElem hj2,show j/2*2+j%2=j by omega] at e1;have e2:l.toArray[j/2]! =l[j/2]:=by rw[getElem!_pos _ _ (by simpa using hj2)];simp
 rw[e2];have hm:j%2<2:=Nat.mod_lt _ (by omega);have e3:(uI l[j/2])[j%2]?=some ((uI l[j/2])[j%2]!):=by rw[getElem!_pos _ _ (by simpa[uI] using hm),List.getElem?_eq_getElem]
 have:=ho.cells (g:=g) rfl j _ (e1.trans e3)
 rwa [Addr.add_lit] at this
theorem GZ (lo:Nat) (v:Value) (l:List aI) (w:World) (h:bO.own 170 lo w v l) (hl:l.length≤4398046511104):
  Calls Tryz.prog 134 #[v,.func (.func 135) #[] #[]] w fun e w'=>e=.returned (.tuple #[])∧bO.sl (tu v) w' v (jg l)∧fV v.ownBlock w w':=by
 have hlen:(jg l).length=l.length:=(bF l).length_eq;rcases(pz h).2 with⟨rfl,e⟩|⟨g,cap,cur,rfl,hbg,hg,hnc,_⟩
 ·have:l=[]:=List.eq_nil_of_length_eq_zero e;subst this;have e0:jg []=[]:=List.eq_nil_of_length_eq_zero hlen;exact(AnyF.slices_SortFunc_none Tryz.sortBinds none 0 _ w).mono fun e w' ⟨he,hw⟩=>⟨he,by rw[e0];exact bO.jE _ _ _ _,by rw[hw];exact fV.refl _ _⟩
 have hgl:g<w.heap.size:=(Array.getElem?_eq_some_iff.1 hg).1;have hc:=AnyQ.slices_SortFunc Tryz.sortBinds 2 GY Fq uI (fun _=>rfl) (fun x v hv=>by simp[uI] at hv;rcases hv with rfl|rfl <;> rfl) uZ (yI gH) 135 #[] g 0 cap l.toArray w qJ (fun m os dk hd x y=>(yH x y _).mono fun e w' ⟨he,hw⟩=>⟨he,hw⟩) (Er h) hgl (by simp;omega)
 have hsz:l.toArray.size=l.length:=by simp
 rw[hsz] at hc;refine hc.mono ?_;rintro e w' ⟨he,d',n,os,hp,hs,rfl⟩;have hd':d'.size=l.toArray.size:=hp.1;have hkk:∀k,k<w.heap.size→k≠g→(sortWorldK uI 2 w g 0 n d' os).heap[k]?=w.heap[k]?:=fun k hk hne=>by
  unfold sortWorldK;rw[heap_grow_old _ _ (by rw[size_putRowK];exact hk)];simp only[putRowK,putRow,mapBlock];rw[Array.getElem?_modify,if_neg (fun e=>hne e.symm)]
  rfl
 have hss:w.heap.size≤(sortWorldK uI 2 w g 0 n d' os).heap.size:=by unfold sortWorldK;rw[size_grow,size_putRowK];exact Nat.le_add_right _ _
 have hpl:d'.toList.Perm l:=by have:=Bo (d:=l.toArray) (d':=d') (by rw[hsz];exact hp);simpa using this
 have e:jg l=d'.toList:=(uU gH hpl (sorted_in gH (by rw[hd',hsz]) hs)).symm;refine⟨he,?_,⟨rfl,rfl,rfl,Nat.le_add_right _ _,hss,fun k hk ho=>hkk k hk (fun e=>ho (by rw[e];rfl))⟩⟩;have H:=holdsK_sortWorldK_c uI 2 w g 0 l.toArray d' n os (Er h) hgl hd';refine⟨⟨by rw[hlen];omega,hnc⟩,some ⟨g,0,none⟩,cap,by rw[hlen],fun _=>⟨g,0,rfl,rfl,Nat.lt_of_lt_of_le hgl hss,fun i x hi=>⟨_,rfl,fun j u hu=>?_⟩⟩⟩;rw[e] at hi;have hil:i<d'.size:=by simpa using(List.getElem?_eq_some_iff.1 hi).1
 have hj:j<2:=(List.getElem?_eq_some_iff.1 hu).1;have hcell:=(H.cell (i:=i) (c:=j) hil hj).1;have e2:d'[i]! =x:=by rw[getElem!_pos d' i hil];have:=(List.getElem?_eq_some_iff.1 hi).2;simpa using this
 rw[e2] at hcell;have e3:(uI x)[j]! =u:=by rw[getElem!_pos _ _ (by simpa[uI] using hj)];exact(List.getElem?_eq_some_iff.1 hu).2
 rw[e3] at hcell;exact hcell
structure eH (w:World) (blk lo:Nat):Type where
 a:Option Addr
 cap:Nat
 l:List aI
 h:bO.sl (fun k=>k≠blk∧lo≤k) w (.slice a l.length cap) l
def eH.enc {w:World} {blk lo:Nat} (x:eH w blk lo):Value:=.slice x.a x.l.length x.cap
def eH.no (w:World) (blk lo:Nat):eH w blk lo:=⟨none,0,[],bO.jE _ _ _ _⟩
def eH.cmp {w:World} {blk lo:Nat} (x y:eH w blk lo):Int:=gW x.l y.l
theorem eH.swo (w:World) (blk lo:Nat):SWO (ltOf (eH.cmp (w:=w) (blk:=blk) (lo:=lo))) where
 irrefl x:=(yI iD).irrefl x.l
 trans x y z:=(yI iD).trans x.l y.l z.l
 ntrans x y z:=(yI iD).ntrans x.l y.l z.l
theorem rC {α:Type} (inst:Inhabited α) (enc:α→Value) (w:World) (blk off m:Nat) (d:Array α) (os:Array Obj) (k:Nat) (hk:k<w.heap.size) (hne:k≠blk):(@sortWorld α inst enc w blk off m d os).heap[k]?=w.heap[k]?:=by
 unfold sortWorld;rw[heap_grow_old _ _ (by simp only[putRow,mapBlock,Array.size_modify];exact hk)];simp only[putRow,mapBlock];rw[Array.getElem?_modify,if_neg (fun e=>hne e.symm)]
 rfl
theorem rD {α:Type} (inst:Inhabited α) (enc:α→Value) (w:World) (blk off m:Nat) (d:Array α) (os:Array Obj):w.heap.size≤(@sortWorld α inst enc w blk off m d os).heap.size:=by unfold sortWorld;rw[size_grow];simp only[putRow,mapBlock,Array.size_modify];exact Nat.le_add_right _ _
theorem eH.sl {w W:World} {blk lo:Nat} (x:eH w blk lo) (hs:w.heap.size≤W.heap.size) (hk:∀k,k<w.heap.size→k≠blk→W.heap[k]?=w.heap[k]?):bO.sl (fun k=>k≠blk∧lo≤k) W x.enc x.l:=
 aB.fE x.h hs fun k hk' hB=>hk k hk' hB.1
theorem Jr (w:World) (blk lo off size:Nat): @CmpLays1 (eH w blk lo) ⟨eH.no w blk lo⟩ Tryz.prog 137 #[] eH.enc eH.cmp blk off size w:=by intro m os dk hd x y;have hs:=rD ⟨eH.no w blk lo⟩ eH.enc w blk off m dk os;have hk:=rC ⟨eH.no w blk lo⟩ eH.enc w blk off m dk os;exact(GX _ _ x.l y.l _ (aB.dO (x.sl hs hk)) (aB.dO (y.sl hs hk))).mono fun e w' ⟨he,hw⟩=>⟨he,hw⟩
theorem G5 (lo:Nat) (tyS:TypeId) (v:Value) (ps:List (Value×List aI)) (w:World) (ho:w.ownsRow lo tyS 1 v ps.length (ps.map (·.1))) (hp:∀p∈ps,bO.sl (fun k=>v.ownBlock≠some k∧lo≤k) w p.1 p.2) (hl:ps.length≤4398046511104):
  Calls Tryz.prog 136 #[v,.func (.func 137) #[] #[]] w fun e w'=>e=.returned (.tuple #[])∧qI.sl (From lo) w' v (jf gW (ps.map (·.2)))∧fV v.ownBlock w w':=by
 have hlen:(jf gW (ps.map (·.2))).length=ps.length:=by rw[(bF (c:=gW) (ps.map (·.2))).length_eq];simp
 rcases ho.2 with⟨rfl,e⟩|⟨g,cap,cur,rfl,hbg,hg,hnc,_⟩;·have:ps=[]:=List.eq_nil_of_length_eq_zero e;subst this;have e0:jf gW (([]:List (Value×List aI)).map (·.2))=[]:=List.eq_nil_of_length_eq_zero hlen;exact(AnyF.slices_SortFunc_none {Tryz.sortLists with} none 0 _ w).mono fun e w' ⟨he,hw⟩=>⟨he,by rw[e0];exact qI.jE _ _ _ _,by rw[hw];exact fV.refl _ _⟩
 have hgl:g<w.heap.size:=(Array.getElem?_eq_some_iff.1 hg).1;have hel:∀i:Fin ps.length,∃x:eH w g lo,x.l=(ps[i.1]'i.2).2∧x.enc=(ps[i.1]'i.2).1:=fun i=>by have h1:=hp _ (List.getElem_mem i.2);obtain⟨a,c,e⟩:=aB.slice h1;refine⟨⟨a,c,(ps[i.1]'i.2).2,?_⟩,rfl,e.symm⟩;rw[←e];exact aB.dX h1 fun k _ hk=>⟨fun e'=>hk.1 (by rw[e'];rfl),hk.2⟩
 letI:Inhabited (eH w g lo):=⟨eH.no w g lo⟩
 obtain⟨d,hd⟩:∃d:Array (eH w g lo),d=Array.ofFn fun i=>Classical.choose (hel i):=⟨_,rfl⟩;have hds:d.size=ps.length:=by rw[hd];simp
 have hdl:d.toList.map eH.l=ps.map (·.2):=by
  apply List.ext_getElem
  ·simp[hds]
  intro i h1 h2;have hi:i<ps.length:=by simpa using h2
  simp only[List.getElem_map,Array.getElem_toList];have:=(Classical.choose_spec (hel ⟨i,hi⟩)).1;rw[←this]
  congr 1
  simp only[hd,Array.getElem_ofFn]
 have hH:Holds eH.enc w g 0 d:=by
  intro j hj;have hj':j<ps.length:=by omega
  refine⟨?_,mh _ hg⟩;have e1:d[j]! =Classical.choose (hel ⟨j,hj'⟩):=by rw[getElem!_pos d j hj];simp only[hd,Array.getElem_ofFn]
  rw[e1,(Classical.choose_spec (hel ⟨j,hj'⟩)).2];have:=ho.cells (g:=g) rfl j _ (by rw[List.getElem?_map,List.getElem?_eq_getElem hj'];rfl)
  rwa [Addr.add_lit] at this
 have hc:=Any.slices_SortFunc Tryz.sortLists eH.enc (fun _=>rfl) eH.cmp (eH.swo w g lo) 137 #[] g 0 cap d w tK (Jr w g lo 0 d.size) hH hgl (by omega);rw[hds] at hc;refine hc.mono ?_;rintro e w' ⟨he,d',n,os,hpm,hs,rfl⟩;have hd':d'.size=d.size:=hpm.1;have hkk:=rC ⟨eH.no w g lo⟩ eH.enc w g 0 n d' os;have hss:=rD ⟨eH.no w g lo⟩ eH.enc w g 0 n d' os;have hpl:(d'.toList.map eH.l).Perm (ps.map (·.2)):=by rw[←hdl];exact(Bo (d:=d) (d':=d') (by rw[hds];exact hpm)).map _
 have hso:(d'.toList.map eH.l).Pairwise fun a b=>gW a b≤0:=by
  rw[List.pairwise_map,List.pairwise_iff_getElem];intro i j hi hj hij;have:=hs i j (Nat.zero_le _) hij (by simp at hj;omega);have e1:d'[i]! =d'.toList[i]:=by rw[getElem!_pos d' i (by simpa using hi)];simp
  have e2:d'[j]! =d'.toList[j]:=by rw[getElem!_pos d' j (by simpa using hj)];simp
  rw[e1,e2] at this;unfold ltOf eH.cmp at this;rw[decide_eq_false_iff_not] at this;have:=iD.swap d'.toList[i].l d'.toList[j].l;omega
 have e:jf gW (ps.map (·.2))=d'.toList.map eH.l:=(uU iD hpl hso).symm;refine⟨he,?_,⟨rfl,rfl,rfl,Nat.le_add_right _ _,hss,fun k hk ho=>hkk k hk (fun e=>ho (by rw[e];rfl))⟩⟩;have H:=holds_sortWorld eH.enc w g 0 n d d' os hgl hH hd';refine⟨⟨by rw[hlen];omega,hnc⟩,some ⟨g,0,none⟩,cap,by rw[hlen],fun _=>⟨g,0,rfl,hbg,Nat.lt_of_lt_of_le hgl hss,fun i x hi=>?_⟩⟩;rw[e,List.getElem?_map] at hi;cases hx:d'.toList[i]? with
 |none=>rw[hx] at hi;cases hi
 |some y=>
  rw[hx] at hi;cases hi;have hil:i<d'.size:=by simpa using(List.getElem?_eq_some_iff.1 hx).1
  refine⟨[y.enc],⟨y.enc,rfl,aB.dX (y.sl hss hkk) fun _ _ hB=>hB.2⟩,fun j u hu=>?_⟩;cases j with
  |succ j=>simp at hu
  |zero=>
   simp at hu;subst hu;have hcell:=(H i hil).1;have e2:d'[i]! =y:=by rw[getElem!_pos d' i hil];have:=(List.getElem?_eq_some_iff.1 hx).2;simpa using this
   rw[e2] at hcell;show World.cell? _ ⟨g,0+i*1+0,none⟩=_;rw[Nat.mul_one,Nat.add_zero];exact hcell
end Go.Proofs.YthngiikhgplldaaGreatDoor
