import Derived.Shelf.SlSortCmp.WholeK
import Derived.Test.YtaallngooaaonaaGreatDoorProg
import Derived.Shelf.SlSortCmp.Whole1
import Derived.Test.YtaallngooaaonaaGreatDoorJT9
import Derived.Shelf.SlSortCmp.NoneTotal
open Go.RowKit Go.Sort Go.Shelf
set_option maxHeartbeats 2000000
set_option maxRecDepth 100000
section
namespace Go.Proofs
open Go.Shelf
def Tryz.sortBinds_ren:Go.Shelf.Ren:=⟨fun|6=>167|15=>173|14=>179|28=>190|29=>191|20=>196|21=>197|22=>198|23=>199|24=>200|25=>201|26=>202|27=>203|46=>219|47=>213|48=>214|49=>220|50=>221|57=>226|n=>n,fun|22=>106|24=>108|25=>223|3=>3|39=>152|0=>0|53=>246|55=>230|4=>4|46=>240|45=>239|50=>124|5=>5|9=>9|66=>261|70=>265|76=>271|77=>31|n=>n,fun|n=>n⟩
theorem Tryz.sortBinds:Go.Proofs.SlLaysF0.n6 Tryz.prog Tryz.sortBinds_ren:={
 mixed:=by kernel_rfl
 f6:=⟨Tryz.f167.name,by decide,Tryz.func167.trans (congrArg some (by kernel_rfl))⟩
 f14:=⟨Tryz.f179.name,by decide,Tryz.func179.trans (congrArg some (by kernel_rfl))⟩
 f15:=Tryz.func173.trans (congrArg some (by kernel_rfl))
 f20:=⟨Tryz.f196.name,by decide,Tryz.func196.trans (congrArg some (by kernel_rfl))⟩
 f21:=⟨Tryz.f197.name,by decide,Tryz.func197.trans (congrArg some (by kernel_rfl))⟩
 f22:=⟨Tryz.f198.name,by decide,Tryz.func198.trans (congrArg some (by kernel_rfl))⟩
 f23:=⟨Tryz.f199.name,by decide,Tryz.func199.trans (congrArg some (by kernel_rfl))⟩
 f24:=⟨Tryz.f200.name,by decide,Tryz.func200.trans (congrArg some (by kernel_rfl))⟩
 f25:=⟨Tryz.f201.name,by decide,Tryz.func201.trans (congrArg some (by kernel_rfl))⟩
 f26:=⟨Tryz.f202.name,by decide,Tryz.func202.trans (congrArg some (by kernel_rfl))⟩
 f27:=⟨Tryz.f203.name,by decide,Tryz.func203.trans (congrArg some (by kernel_rfl))⟩
 f28:=Tryz.func190.trans (congrArg some (by kernel_rfl))
 f29:=Tryz.func191.trans (congrArg some (by kernel_rfl))
 f46:=⟨Tryz.f219.name,by decide,Tryz.func219.trans (congrArg some (by kernel_rfl))⟩
 f47:=Tryz.func213.trans (congrArg some (by kernel_rfl))
 f48:=Tryz.func214.trans (congrArg some (by kernel_rfl))
 f49:=⟨Tryz.f220.name,by decide,Tryz.func220.trans (congrArg some (by kernel_rfl))⟩
 f50:=⟨Tryz.f221.name,by decide,Tryz.func221.trans (congrArg some (by kernel_rfl))⟩
 f57:=⟨Tryz.f226.name,by decide,Tryz.func226.trans (congrArg some (by kernel_rfl))⟩
 t0:=Tryz.underlying0
 a0:=Tryz.isAgg0
 z0:=Tryz.sizeOf0
 v0:=Tryz.zeroValue0
 t3:=Tryz.underlying3
 a3:=Tryz.isAgg3
 z3:=Tryz.sizeOf3
 v3:=Tryz.zeroValue3
 t4:=Tryz.underlying4
 a4:=Tryz.isAgg4
 z4:=Tryz.sizeOf4
 v4:=Tryz.zeroValue4
 t5:=Tryz.underlying5
 a5:=Tryz.isAgg5
 z5:=Tryz.sizeOf5
 v5:=Tryz.zeroValue5
 t9:=Tryz.underlying9
 a9:=Tryz.isAgg9
 z9:=Tryz.sizeOf9
 v9:=Tryz.zeroValue9
 t22:=Tryz.underlying106
 a22:=Tryz.isAgg106
 z22:=Tryz.sizeOf106
 v22:=Tryz.zeroValue106
 t25:=Tryz.underlying223
 a25:=Tryz.isAgg223
 z25:=Tryz.sizeOf223
 v25:=Tryz.zeroValue223
 t39:=Tryz.underlying152
 a39:=Tryz.isAgg152
 z39:=Tryz.sizeOf152
 v39:=Tryz.zeroValue152
 t45:=Tryz.underlying239
 a45:=Tryz.isAgg239
 z45:=Tryz.sizeOf239
 v45:=Tryz.zeroValue239
 t46:=Tryz.underlying240
 a46:=Tryz.isAgg240
 z46:=Tryz.sizeOf240
 v46:=Tryz.zeroValue240
 t50:=Tryz.underlying124
 a50:=Tryz.isAgg124
 z50:=Tryz.sizeOf124
 v50:=Tryz.zeroValue124
 t53:=Tryz.underlying246
 a53:=Tryz.isAgg246
 z53:=Tryz.sizeOf246
 v53:=Tryz.zeroValue246
 t55:=Tryz.underlying230
 a55:=Tryz.isAgg230
 z55:=Tryz.sizeOf230
 v55:=Tryz.zeroValue230
 t66:=Tryz.underlying261
 a66:=Tryz.isAgg261
 z66:=Tryz.sizeOf261
 v66:=Tryz.zeroValue261
 t70:=Tryz.underlying265
 a70:=Tryz.isAgg265
 z70:=Tryz.sizeOf265
 v70:=Tryz.zeroValue265
 t76:=Tryz.underlying271
 a76:=Tryz.isAgg271
 z76:=Tryz.sizeOf271
 v76:=Tryz.zeroValue271
 t77:=Tryz.underlying31
 a77:=Tryz.isAgg31
 z77:=Tryz.sizeOf31
 v77:=Tryz.zeroValue31}
end Go.Proofs
end
section
namespace Go.Proofs
open Go.Shelf
def Tryz.sortLists_ren:Go.Shelf.Ren:=⟨fun|6=>169|15=>173|14=>181|28=>190|29=>191|20=>204|21=>205|22=>206|23=>207|24=>208|25=>209|26=>210|27=>211|46=>222|47=>213|48=>214|49=>223|50=>224|57=>227|n=>n,fun|22=>103|24=>106|25=>226|3=>3|39=>152|0=>0|53=>246|55=>230|4=>4|46=>240|45=>239|50=>124|5=>5|9=>9|66=>261|70=>265|76=>271|77=>31|n=>n,fun|n=>n⟩
theorem Tryz.sortLists:Go.Proofs.SlLaysF.n6 Tryz.prog Tryz.sortLists_ren:={
 mixed:=by kernel_rfl
 f6:=⟨Tryz.f169.name,by decide,Tryz.func169.trans (congrArg some (by kernel_rfl))⟩
 f14:=⟨Tryz.f181.name,by decide,Tryz.func181.trans (congrArg some (by kernel_rfl))⟩
 f15:=Tryz.func173.trans (congrArg some (by kernel_rfl))
 f20:=⟨Tryz.f204.name,by decide,Tryz.func204.trans (congrArg some (by kernel_rfl))⟩
 f21:=⟨Tryz.f205.name,by decide,Tryz.func205.trans (congrArg some (by kernel_rfl))⟩
 f22:=⟨Tryz.f206.name,by decide,Tryz.func206.trans (congrArg some (by kernel_rfl))⟩
 f23:=⟨Tryz.f207.name,by decide,Tryz.func207.trans (congrArg some (by kernel_rfl))⟩
 f24:=⟨Tryz.f208.name,by decide,Tryz.func208.trans (congrArg some (by kernel_rfl))⟩
 f25:=⟨Tryz.f209.name,by decide,Tryz.func209.trans (congrArg some (by kernel_rfl))⟩
 f26:=⟨Tryz.f210.name,by decide,Tryz.func210.trans (congrArg some (by kernel_rfl))⟩
 f27:=⟨Tryz.f211.name,by decide,Tryz.func211.trans (congrArg some (by kernel_rfl))⟩
 f28:=Tryz.func190.trans (congrArg some (by kernel_rfl))
 f29:=Tryz.func191.trans (congrArg some (by kernel_rfl))
 f46:=⟨Tryz.f222.name,by decide,Tryz.func222.trans (congrArg some (by kernel_rfl))⟩
 f47:=Tryz.func213.trans (congrArg some (by kernel_rfl))
 f48:=Tryz.func214.trans (congrArg some (by kernel_rfl))
 f49:=⟨Tryz.f223.name,by decide,Tryz.func223.trans (congrArg some (by kernel_rfl))⟩
 f50:=⟨Tryz.f224.name,by decide,Tryz.func224.trans (congrArg some (by kernel_rfl))⟩
 f57:=⟨Tryz.f227.name,by decide,Tryz.func227.trans (congrArg some (by kernel_rfl))⟩
 t0:=Tryz.underlying0
 a0:=Tryz.isAgg0
 z0:=Tryz.sizeOf0
 v0:=Tryz.zeroValue0
 t3:=Tryz.underlying3
 a3:=Tryz.isAgg3
 z3:=Tryz.sizeOf3
 v3:=Tryz.zeroValue3
 t4:=Tryz.underlying4
 a4:=Tryz.isAgg4
 z4:=Tryz.sizeOf4
 v4:=Tryz.zeroValue4
 t5:=Tryz.underlying5
 a5:=Tryz.isAgg5
 z5:=Tryz.sizeOf5
 v5:=Tryz.zeroValue5
 t9:=Tryz.underlying9
 a9:=Tryz.isAgg9
 z9:=Tryz.sizeOf9
 v9:=Tryz.zeroValue9
 t22:=Tryz.underlying103
 a22:=Tryz.isAgg103
 z22:=Tryz.sizeOf103
 v22:=Tryz.zeroValue103
 a24:=Tryz.isAgg106
 z24:=Tryz.sizeOf106
 t25:=Tryz.underlying226
 a25:=Tryz.isAgg226
 z25:=Tryz.sizeOf226
 v25:=Tryz.zeroValue226
 t39:=Tryz.underlying152
 a39:=Tryz.isAgg152
 z39:=Tryz.sizeOf152
 v39:=Tryz.zeroValue152
 t45:=Tryz.underlying239
 a45:=Tryz.isAgg239
 z45:=Tryz.sizeOf239
 v45:=Tryz.zeroValue239
 t46:=Tryz.underlying240
 a46:=Tryz.isAgg240
 z46:=Tryz.sizeOf240
 v46:=Tryz.zeroValue240
 t50:=Tryz.underlying124
 a50:=Tryz.isAgg124
 z50:=Tryz.sizeOf124
 v50:=Tryz.zeroValue124
 t53:=Tryz.underlying246
 a53:=Tryz.isAgg246
 z53:=Tryz.sizeOf246
 v53:=Tryz.zeroValue246
 t55:=Tryz.underlying230
 a55:=Tryz.isAgg230
 z55:=Tryz.sizeOf230
 v55:=Tryz.zeroValue230
 t66:=Tryz.underlying261
 a66:=Tryz.isAgg261
 z66:=Tryz.sizeOf261
 v66:=Tryz.zeroValue261
 t70:=Tryz.underlying265
 a70:=Tryz.isAgg265
 z70:=Tryz.sizeOf265
 v70:=Tryz.zeroValue265
 t76:=Tryz.underlying271
 a76:=Tryz.isAgg271
 z76:=Tryz.sizeOf271
 v76:=Tryz.zeroValue271
 t77:=Tryz.underlying31
 a77:=Tryz.isAgg31
 z77:=Tryz.sizeOf31
 v77:=Tryz.zeroValue31}
end Go.Proofs
end
namespace Go.Proofs.YtaallngooaaonaaGreatDoor
theorem orC (c cp:Nat) (x y:Int) (w:World) (h0:w.cell? ⟨c,0,none⟩=some (.int .i64 x)) (h1:w.cell? ⟨c,1,none⟩=some (.int .i64 y)):
  Calls Tryz.prog 180 #[.slice (some ⟨c,0,none⟩) 2 cp] w fun e w'=>e=.returned (.int .i64 (if x≠0 then x else y))∧w'=w:=by
 by_cases hx:x=0
 ·subst hx
  by_cases hy:y=0
  ·subst hy
   go_enter Tryz.func180,Tryz.ntmps180
   go_wp2;refine wp_loop_rounds 3 ?_;rw[rounds_succ];go_wp2;rw[rounds_succ];go_wp2;rw[rounds_succ];go_wp2;go_ret;exact⟨rfl,rfl⟩
  have hq:(y != 0)=true:=by simpa using hy
  go_enter Tryz.func180,Tryz.ntmps180
  go_wp2;refine wp_loop_rounds 3 ?_;rw[rounds_succ];go_wp2;rw[rounds_succ];go_wp2;go_ret;exact⟨rfl,rfl⟩
 have hq:(x != 0)=true:=by simpa using hx
 rw[if_pos hx];clear hx
 go_enter Tryz.func180,Tryz.ntmps180
 go_wp2;refine wp_loop_rounds 3 ?_;rw[rounds_succ];go_wp2;go_ret;exact⟨rfl,rfl⟩
theorem Du (a b:aD) (w:World):Calls Tryz.prog 168 #[.agg (zD a).toArray,.agg (zD b).toArray] w fun e w'=>e=.returned (.int .i64 (lU a b))∧ak w w':=by
 obtain⟨a1,a2⟩:=a;obtain⟨b1,b2⟩:=b;show Calls _ _ #[.agg #[.string a1,.string a2],.agg #[.string b1,.string b2]] _ fun e w'=>e=.returned (.int .i64 (if jg a1 b1≠0 then jg a1 b1 else jg a2 b2))∧_;generalize hwb:(w.alloc (.cells #[.string a1,.string a2] 108)).alloc (.cells #[.string b1,.string b2] 108)=wb;have HWB:=au hwb;have hLb:ak w wb:=by rw[←hwb];exact(by repeat (first|exact ak.refl _|assumption|refine ak.drewN ?_ _|refine ak.drew ?_|refine ak.alloc ?_ _|refine ak.grow ?_ _))
 have z0:wb.cell? ⟨w.heap.size,0,none⟩=some (.string a1):=by rw[←hwb];simp
 have z1:wb.cell? ⟨w.heap.size,1,none⟩=some (.string a2):=by rw[←hwb];simp
 have z2:wb.cell? ⟨w.heap.size+1,0,none⟩=some (.string b1):=by rw[←hwb];simp
 have z3:wb.cell? ⟨w.heap.size+1,1,none⟩=some (.string b2):=by rw[←hwb];simp
 have hsb:wb.heap.size=w.heap.size+2:=by rw[←hwb];simp
 clear hwb;obtain⟨r,hr⟩:∃r,r=if jg a1 b1≠0 then jg a1 b1 else jg a2 b2:=⟨_,rfl⟩;have HOr:Hid (∀(c:Nat) (w:World),w.cell? ⟨c,0,none⟩=some (.int .i64 (jg a1 b1))→w.cell? ⟨c,1,none⟩=some (.int .i64 (jg a2 b2))→Calls Tryz.prog 180 #[.slice (some ⟨c,0,none⟩) 2 2] w fun e w'=>e=.returned (.int .i64 r)∧w'=w):=fun c w h0 h1=>by rw[hr];exact orC c 2 _ _ w h0 h1
 rw[←hr];clear hr
 go_enter Tryz.func168,Tryz.ntmps168
 go_wp2;rw[HWB.out];have cell:∀w',ak wb w'→w'.cell? ⟨w.heap.size,0,none⟩=some (.string a1)∧w'.cell? ⟨w.heap.size,1,none⟩=some (.string a2)∧w'.cell? ⟨w.heap.size+1,0,none⟩=some (.string b1)∧w'.cell? ⟨w.heap.size+1,1,none⟩=some (.string b2):=fun w' hL=>
  ⟨by rw[hL.cell (by show w.heap.size<_;omega)];exact z0,by rw[hL.cell (by show w.heap.size<_;omega)];exact z1,by rw[hL.cell (by show w.heap.size+1<_;omega)];exact z2,by rw[hL.cell (by show w.heap.size+1<_;omega)];exact z3⟩
 have CELL:=au cell;clear cell z0 z1 z2 z3 hsb;refine wp_region_held_drew (S:=fun w'=>ak wb w') (by kernel_rfl) (ak.refl _).drew (fun hHeld=>?_);refine tkY 0 5 hHeld ?_;refine tkY 1 6 hHeld ?_ rfl fun w hSw=>by obtain⟨q0,q1,q2,q3⟩:=CELL.out w hSw;go_simp;try with_reducible rfl
 refine tkY 2 7 hHeld ?_;refine tkY 3 8 hHeld ?_ rfl fun w hSw=>by obtain⟨q0,q1,q2,q3⟩:=CELL.out w hSw;go_simp;try with_reducible rfl
 refine tkY 5 10 hHeld ?_;refine tkY 6 11 hHeld ?_ rfl fun w hSw=>by obtain⟨q0,q1,q2,q3⟩:=CELL.out w hSw;go_simp;try with_reducible rfl
 refine tkY 7 12 hHeld ?_;refine tkY 8 13 hHeld ?_ rfl fun w hSw=>by obtain⟨q0,q1,q2,q3⟩:=CELL.out w hSw;go_simp;try with_reducible rfl
 refine tkC 4 fun K hK=>?_;go_simp;refine(kP _ _ _).mono ?_;rintro e u1 ⟨rfl,rfl⟩;dsimp only;refine hK.out _ _ hHeld (fun hHeld=>?_);clear hK K;refine tkC 9 fun K hK=>?_;go_simp;refine(kP _ _ _).mono ?_;rintro e u2 ⟨rfl,rfl⟩;dsimp only;refine hK.out _ _ hHeld (fun hHeld=>?_);clear hK K;refine tkC 10 fun K hK=>?_;go_simp;refine hK.out _ _ (hHeld.alloc _) (fun hHeld=>?_);clear hK K;refine tkC 11 fun K hK=>?_;go_simp;refine(HOr.out _ _ (by simp) (by simp)).mono ?_;rintro e u3 ⟨rfl,rfl⟩;dsimp only;refine hK.out _ _ hHeld (fun hHeld=>?_);clear hK K;refine tkY 12 4 hHeld ?_;refine wpAnyH_done (by kernel_rfl) ?_ _;go_wp2;go_ret;exact⟨rfl,hLb.trans hHeld⟩
theorem H7 (u v:Value) (l m:List aD) (w:World) (hu:bq.sl bf w u l) (hv:bq.sl bf w v m):
  Calls Tryz.prog 171 #[u,v,.func (.func 168) #[] #[]] w fun e w'=>e=.returned (.int .i64 (gM l m))∧ak w w':=by
 obtain⟨a,cap,rfl⟩:=aB.slice hu;obtain⟨a',cap',rfl⟩:=aB.slice hv;have hl:=hu.1.1;have hm:=hv.1.1;have HU:=au hu;have HV:=au hv;clear hu hv
 go_enter Tryz.func171,Tryz.ntmps171
 go_wp2
 go_loopg [13] l.length (fun g i wr=>∃j:Nat,j+g=l.length∧i=.int .i64 j∧Hid (gM l m=gM (l.drop j) (m.drop j))∧Hid (j≤m.length)∧Hid (ak w wr))
 case atStart=>exact⟨0,by omega,rfl,(rfl:_=_),(Nat.zero_le _:_≤_),ak.refl _⟩
 obtain⟨j,hj,rfl,HE,HJ,HL⟩:=hrel;have hjm:=HJ.out
 by_cases hlt:j<l.length
 ·obtain⟨x,hx⟩:∃x,l[j]?=some x:=⟨_,List.getElem?_eq_getElem hlt⟩;obtain⟨b1,o1,_,rfl,hb1,rfl,hc⟩:=aB.bO HU.out hx;have d0:wr.cell? ⟨b1,o1+j*2,none⟩=some (.string x.1):=by rw[HL.out.cell hb1];exact hc 0 _ rfl
  have d1:wr.cell? ⟨b1,o1+j*2+1,none⟩=some (.string x.2):=by rw[HL.out.cell hb1];exact hc 1 _ rfl
  have hbr:b1<wr.heap.size:=Nat.lt_of_lt_of_le hb1 HL.out.size;have hdx:l.drop j=x::l.drop (j+1):=by obtain⟨h1,e1⟩:=List.getElem?_eq_some_iff.1 hx;rw[List.drop_eq_getElem_cons h1,e1]
  by_cases hlm:j<m.length
  ·obtain⟨y,hy⟩:∃y,m[j]?=some y:=⟨_,List.getElem?_eq_getElem hlm⟩;obtain⟨b2,o2,_,rfl,hb2,rfl,hc2⟩:=aB.bO HV.out hy;have hLa:=HL.out.alloc (.cells #[.string x.1,.string x.2] 108);have d2:(wr.alloc (.cells #[.string x.1,.string x.2] 108)).cell? ⟨b2,o2+j*2,none⟩=some (.string y.1):=by rw[hLa.cell hb2];exact hc2 0 _ rfl
   have d3:(wr.alloc (.cells #[.string x.1,.string x.2] 108)).cell? ⟨b2,o2+j*2+1,none⟩=some (.string y.2):=by rw[hLa.cell hb2];exact hc2 1 _ rfl
   have RY:b2<wr.heap.size:=Nat.lt_of_lt_of_le hb2 HL.out.size;have hdy:m.drop j=y::m.drop (j+1):=by obtain⟨h1,e1⟩:=List.getElem?_eq_some_iff.1 hy;rw[List.drop_eq_getElem_cons h1,e1]
   have HC:Hid (Calls Tryz.prog 168 #[.agg #[.string x.1,.string x.2],.agg #[.string y.1,.string y.2]] ((wr.alloc (.cells #[.string x.1,.string x.2] 108)).alloc (.cells #[.string y.1,.string y.2] 108)) fun e w2=>e=.returned (.int .i64 (lU x y))∧Hid (ak w w2)):=
    (Du x y _).mono fun e w2 ⟨he,h2⟩=>⟨he,(hLa.alloc _).trans h2⟩
   have E:gM l m=if lU x y≠0 then lU x y else gM (l.drop (j+1)) (m.drop (j+1)):=by rw[HE.out,hdx,hdy];rfl
   have hjz:¬((m.length:Int)≤(j:Int)):=by omega
   clear hc hc2 hx hy hdx hdy hLa;obtain⟨x1,x2⟩:=x;obtain⟨y1,y2⟩:=y;dsimp only at*;generalize lU (x1,x2) (y1,y2)=r at*
   by_cases h0:r=0
   ·subst h0;have HE1:Hid (gM l m=gM (l.drop (j+1)) (m.drop (j+1))):=by show _=_;rw[E];rfl
    clear E HE
    go_wp2_with (go_at_call 168;refine HC.out.mono ?_;rintro e w2 ⟨rfl,hL2⟩)
    go_roundg (l.length- (j+1))
    case measure=>omega
    case rel=>exact⟨j+1,by omega,by go_num,HE1,(by omega:j+1≤m.length),hL2⟩
   have HE1:Hid (gM l m=r):=by show _=_;rw[E,if_pos h0]
   have hq:(r != 0)=true:=by simpa using h0
   clear E HE h0
   go_wp2_with (go_at_call 168;refine HC.out.mono ?_;rintro e w2 ⟨rfl,hL2⟩)
   go_ret;exact⟨by rw[HE1.out];rfl,hL2.out⟩
  have HE1:Hid (gM l m=1):=by show _=_;rw[HE.out,hdx,List.drop_eq_nil_of_le (by omega:m.length≤j)];rfl
  have hjz:(m.length:Int)≤(j:Int):=by omega
  clear hc hx hdx HE;obtain⟨x1,x2⟩:=x;dsimp only at*;go_wp2;go_ret;exact⟨by rw[HE1.out];rfl,HL.out.alloc _⟩
 have e:j=l.length:=by omega
 by_cases hlm:l.length<m.length
 ·have HE1:Hid (gM l m= -1):=by
   show _=_;rw[HE.out,List.drop_eq_nil_of_le (by omega),List.drop_eq_getElem_cons (by omega:j<m.length)];rfl
  have hz:(l.length:Int)<(m.length:Int):=by omega
  clear HE;go_wp2;go_ret;exact⟨by rw[HE1.out];rfl,HL.out⟩
 have HE1:Hid (gM l m=0):=by show _=_;rw[HE.out,List.drop_eq_nil_of_le (by omega),List.drop_eq_nil_of_le (by omega)];rfl
 have hz:¬((l.length:Int)<(m.length:Int)):=by omega
 clear HE;go_wp2;go_ret;exact⟨by rw[HE1.out];rfl,HL.out⟩
theorem vT:∀args w,(callFunc 168 args).run Tryz.prog w=.ok (.enter 168 args) w:=enters_of Tryz.func168 (by kernel_rfl) rfl
theorem yM:∀args w,(callFunc 170 args).run Tryz.prog w=.ok (.enter 170 args) w:=enters_of Tryz.func170 (by kernel_rfl) rfl
theorem P8 (u v:Value) (l m:List aD) (w:World) (hu:bq.sl bf w u l) (hv:bq.sl bf w v m):
  Calls Tryz.prog 170 #[u,v] w fun e w'=>e=.returned (.int .i64 (gM l m))∧ak w w':=by
 have HC:=au (H7 u v l m w hu hv);obtain⟨a,cap,rfl⟩:=aB.slice hu;obtain⟨a',cap',rfl⟩:=aB.slice hv;clear hu hv;generalize gM l m=r at*
 go_enter Tryz.func170,Tryz.ntmps170
 go_wp2_with (go_at_call 171;refine HC.out.mono ?_;rintro e w2 ⟨rfl,hL2⟩;replace hL2:=au hL2)
 go_ret;exact⟨rfl,bK hL2⟩
theorem Dv {α:Type} {c:α→α→Int} (h:Three c):SWO (ltOf c) where
 irrefl x:=by unfold ltOf;rw[h.refl];rfl
 trans x y z h1 h2:=by unfold ltOf at*;rw[decide_eq_true_eq] at*;exact h.trans _ _ _ h1 h2
 ntrans x y z h1 h2:=by unfold ltOf at*;rw[decide_eq_false_iff_not] at*;have e1:=h.swap x y;have e2:=h.swap y z;have e3:=h.swap x z;have:=h.le_trans (a:=z) (b:=y) (d:=x) (by omega) (by omega);omega
theorem H9 {α:Type} {inst:Inhabited α} {d d':Array α} (h:PermIn 0 d.size d d'):d'.toList.Perm d.toList:=by
 obtain⟨h1,_,h3⟩:=h;have e:d'.extract 0 d.size=d':=by rw[←h1];simp
 rw[e] at h3;simpa using h3
theorem sorted_in {α:Type} {inst:Inhabited α} {c:α→α→Int} (hc:Three c) {n:Nat} {d:Array α} (hn:d.size=n) (h:SortedIn (ltOf c) 0 n d):d.toList.Pairwise fun a b=>c a b≤0:=by
 rw[List.pairwise_iff_getElem];intro i j hi hj hij;have:=h i j (Nat.zero_le _) hij (by simp at hj;omega);have e1:d[i]! =d.toList[i]:=by rw[getElem!_pos d i (by simpa using hi)];simp
 have e2:d[j]! =d.toList[j]:=by rw[getElem!_pos d j (by simpa using hj)];simp
 rw[e1,e2] at this;unfold ltOf at this;rw[decide_eq_false_iff_not] at this;have:=hc.swap d.toList[i] d.toList[j];omega
instance:Inhabited aD:=⟨(ByteArray.empty,ByteArray.empty)⟩
theorem P9:∀w,(isAgg 108).run Tryz.prog w=.ok true w:=Tryz.isAgg108
theorem Nt:∀w,(Go.sizeOf 108).run Tryz.prog w=.ok 2 w:=Tryz.sizeOf108
structure iN (p:Option Nat) (w w':World):Prop where
 os:w'.os=w.os
 tape:w'.tape=w.tape
 output:w'.output=w.output
 drawn:w.drawn≤w'.drawn
 size:w.heap.size≤w'.heap.size
 block:∀k,k<w.heap.size→p≠some k→w'.heap[k]?=w.heap[k]?
theorem iN.refl (p:Option Nat) (w:World):iN p w w:=⟨rfl,rfl,rfl,Nat.le_refl _,Nat.le_refl _,fun _ _ _=>rfl⟩
theorem iN.of_later {p:Option Nat} {w w':World} (h:ak w w'):iN p w w':=⟨h.below.os,h.below.tape,h.below.output,h.drawn,h.size,fun _ hk _=>h.block hk⟩
theorem iN.trans {p:Option Nat} {a b c:World} (h:iN p a b) (k:iN p b c):iN p a c:=
 ⟨k.os.trans h.os,k.tape.trans h.tape,k.output.trans h.output,Nat.le_trans h.drawn k.drawn,Nat.le_trans h.size k.size,fun i hi ho=>(k.block i (Nat.lt_of_lt_of_le hi h.size) ho).trans (h.block i hi ho)⟩
theorem iN.later {p:Option Nat} {w0 a b:World} (h:iN p a b) (h0:ak w0 a) (hp:∀k,p=some k→w0.heap.size≤k):ak w0 b:=
 ak.of_below ⟨h.os.trans h0.below.os,h.tape.trans h0.below.tape,h.output.trans h0.below.output,Nat.le_trans h0.size h.size,fun k hk=>
  (h.block k (Nat.lt_of_lt_of_le hk h0.size) (fun e=>by have:=hp k e;omega)).trans (h0.block hk)⟩ (Nat.le_trans h0.drawn h.drawn)
theorem pG {w:World} {g:Nat} (j:Nat) {cs:Array Value} {t:TypeId} (h:w.heap[g]?=some (.cells cs t (0,0))):w.frozen? ⟨g,j,none⟩=false:=by simp[World.frozen?,h]
theorem Mx {ty:TypeId} {lo g n cap:Nat} {w:World} {l:List aD} (h:bq.own ty lo w (.slice (some ⟨g,0,none⟩) n cap) l):HoldsK zD 2 w g 0 l.toArray:=by
 have ho:=tV h;rcases ho.2 with⟨e,_⟩|⟨g',cap',cur,e,hb,hg,_⟩
 ·cases e
 simp only[Value.slice.injEq,Option.some.injEq,Addr.mk.injEq] at e;obtain⟨⟨rfl,_⟩,rfl,rfl⟩:=e;intro j hj;rw[size_flatK] at hj;simp only[List.size_toArray] at hj;have hj2:j/2<l.length:=by omega
 rw[get_flatK _ _ _ _ (by simpa using hj)];refine⟨?_,pG _ hg⟩;have e1:=mD l (j/2) (j%2) (Nat.mod_lt _ (by omega));rw[List.getElem?_eq_getElem hj2,show j/2*2+j%2=j by omega] at e1;have e2:l.toArray[j/2]! =l[j/2]:=by rw[getElem!_pos _ _ (by simpa using hj2)];simp
 rw[e2];have hm:j%2<2:=Nat.mod_lt _ (by omega);have e3:(zD l[j/2])[j%2]?=some ((zD l[j/2])[j%2]!):=by rw[getElem!_pos _ _ (by simpa[zD] using hm),List.getElem?_eq_getElem]
 have:=ho.cells (g:=g) rfl j _ (e1.trans e3)
 rwa [Addr.add_lit] at this
theorem Qa (lo:Nat) (v:Value) (l:List aD) (w:World) (h:bq.own 108 lo w v l) (hl:l.length≤4398046511104):
  Calls Tryz.prog 167 #[v,.func (.func 168) #[] #[]] w fun e w'=>e=.returned (.tuple #[])∧bq.sl (ko v) w' v (gX l)∧iN v.ownBlock w w':=by
 have hlen:(gX l).length=l.length:=(bM l).length_eq;rcases(tV h).2 with⟨rfl,e⟩|⟨g,cap,cur,rfl,hbg,hg,hnc,_⟩
 ·have:l=[]:=List.eq_nil_of_length_eq_zero e;subst this;have e0:gX []=[]:=List.eq_nil_of_length_eq_zero hlen;exact(AnyF.slices_SortFunc_none Tryz.sortBinds none 0 _ w).mono fun e w' ⟨he,hw⟩=>⟨he,by rw[e0];exact bq.eH _ _ _ _,by rw[hw];exact iN.refl _ _⟩
 have hgl:g<w.heap.size:=(Array.getElem?_eq_some_iff.1 hg).1;have hc:=AnyQ.slices_SortFunc Tryz.sortBinds 2 P9 Nt zD (fun _=>rfl) (fun x v hv=>by simp[zD] at hv;rcases hv with rfl|rfl <;> rfl) lU (Dv eu) 168 #[] g 0 cap l.toArray w vT (fun m os dk hd x y=>(Du x y _).mono fun e w' ⟨he,hw⟩=>⟨he,hw⟩) (Mx h) hgl (by simp;omega)
 have hsz:l.toArray.size=l.length:=by simp
 rw[hsz] at hc;refine hc.mono ?_;rintro e w' ⟨he,d',n,os,hp,hs,rfl⟩;have hd':d'.size=l.toArray.size:=hp.1;have hkk:∀k,k<w.heap.size→k≠g→(sortWorldK zD 2 w g 0 n d' os).heap[k]?=w.heap[k]?:=fun k hk hne=>by
  unfold sortWorldK;rw[heap_grow_old _ _ (by rw[size_putRowK];exact hk)];simp only[putRowK,putRow,mapBlock];rw[Array.getElem?_modify,if_neg (fun e=>hne e.symm)]
  rfl
 have hss:w.heap.size≤(sortWorldK zD 2 w g 0 n d' os).heap.size:=by unfold sortWorldK;rw[size_grow,size_putRowK];exact Nat.le_add_right _ _
 have hpl:d'.toList.Perm l:=by have:=H9 (d:=l.toArray) (d':=d') (by rw[hsz];exact hp);simpa using this
 have e:gX l=d'.toList:=(sU eu hpl (sorted_in eu (by rw[hd',hsz]) hs)).symm;refine⟨he,?_,⟨rfl,rfl,rfl,Nat.le_add_right _ _,hss,fun k hk ho=>hkk k hk (fun e=>ho (by rw[e];rfl))⟩⟩;have H:=holdsK_sortWorldK_c zD 2 w g 0 l.toArray d' n os (Mx h) hgl hd';refine⟨⟨by rw[hlen];omega,hnc⟩,some ⟨g,0,none⟩,cap,by rw[hlen],fun _=>⟨g,0,rfl,rfl,Nat.lt_of_lt_of_le hgl hss,fun i x hi=>⟨_,rfl,fun j u hu=>?_⟩⟩⟩;rw[e] at hi;have hil:i<d'.size:=by simpa using(List.getElem?_eq_some_iff.1 hi).1
 have hj:j<2:=(List.getElem?_eq_some_iff.1 hu).1;have hcell:=(H.cell (i:=i) (c:=j) hil hj).1;have e2:d'[i]! =x:=by rw[getElem!_pos d' i hil];have:=(List.getElem?_eq_some_iff.1 hi).2;simpa using this
 rw[e2] at hcell;have e3:(zD x)[j]! =u:=by rw[getElem!_pos _ _ (by simpa[zD] using hj)];exact(List.getElem?_eq_some_iff.1 hu).2
 rw[e3] at hcell;exact hcell
structure gI (w:World) (blk lo:Nat):Type where
 a:Option Addr
 cap:Nat
 l:List aD
 h:bq.sl (fun k=>k≠blk∧lo≤k) w (.slice a l.length cap) l
def gI.enc {w:World} {blk lo:Nat} (x:gI w blk lo):Value:=.slice x.a x.l.length x.cap
def gI.no (w:World) (blk lo:Nat):gI w blk lo:=⟨none,0,[],bq.eH _ _ _ _⟩
def gI.cmp {w:World} {blk lo:Nat} (x y:gI w blk lo):Int:=gM x.l y.l
theorem gI.swo (w:World) (blk lo:Nat):SWO (ltOf (gI.cmp (w:=w) (blk:=blk) (lo:=lo))) where
 irrefl x:=(Dv bF).irrefl x.l
 trans x y z:=(Dv bF).trans x.l y.l z.l
 ntrans x y z:=(Dv bF).ntrans x.l y.l z.l
theorem wX {α:Type} (inst:Inhabited α) (enc:α→Value) (w:World) (blk off m:Nat) (d:Array α) (os:Array Obj) (k:Nat) (hk:k<w.heap.size) (hne:k≠blk):(@sortWorld α inst enc w blk off m d os).heap[k]?=w.heap[k]?:=by
 unfold sortWorld;rw[heap_grow_old _ _ (by simp only[putRow,mapBlock,Array.size_modify];exact hk)];simp only[putRow,mapBlock];rw[Array.getElem?_modify,if_neg (fun e=>hne e.symm)]
 rfl
theorem wY {α:Type} (inst:Inhabited α) (enc:α→Value) (w:World) (blk off m:Nat) (d:Array α) (os:Array Obj):w.heap.size≤(@sortWorld α inst enc w blk off m d os).heap.size:=by unfold sortWorld;rw[size_grow];simp only[putRow,mapBlock,Array.size_modify];exact Nat.le_add_right _ _
theorem gI.sl {w W:World} {blk lo:Nat} (x:gI w blk lo) (hs:w.heap.size≤W.heap.size) (hk:∀k,k<w.heap.size→k≠blk→W.heap[k]?=w.heap[k]?):bq.sl (fun k=>k≠blk∧lo≤k) W x.enc x.l:=
 aB.bL x.h hs fun k hk' hB=>hk k hk' hB.1
theorem Tf (w:World) (blk lo off size:Nat): @CmpLays1 (gI w blk lo) ⟨gI.no w blk lo⟩ Tryz.prog 170 #[] gI.enc gI.cmp blk off size w:=by intro m os dk hd x y;have hs:=wY ⟨gI.no w blk lo⟩ gI.enc w blk off m dk os;have hk:=wX ⟨gI.no w blk lo⟩ gI.enc w blk off m dk os;exact(P8 _ _ x.l y.l _ (aB.dO (x.sl hs hk)) (aB.dO (y.sl hs hk))).mono fun e w' ⟨he,hw⟩=>⟨he,hw⟩
theorem Qb (lo:Nat) (tyS:TypeId) (v:Value) (ps:List (Value×List aD)) (w:World) (ho:w.ownsRow lo tyS 1 v ps.length (ps.map (·.1))) (hp:∀p∈ps,bq.sl (fun k=>v.ownBlock≠some k∧lo≤k) w p.1 p.2) (hl:ps.length≤4398046511104):
  Calls Tryz.prog 169 #[v,.func (.func 170) #[] #[]] w fun e w'=>e=.returned (.tuple #[])∧gZ.sl (From lo) w' v (iU gM (ps.map (·.2)))∧iN v.ownBlock w w':=by
 have hlen:(iU gM (ps.map (·.2))).length=ps.length:=by rw[(bM (c:=gM) (ps.map (·.2))).length_eq];simp
 rcases ho.2 with⟨rfl,e⟩|⟨g,cap,cur,rfl,hbg,hg,hnc,_⟩;·have:ps=[]:=List.eq_nil_of_length_eq_zero e;subst this;have e0:iU gM (([]:List (Value×List aD)).map (·.2))=[]:=List.eq_nil_of_length_eq_zero hlen;exact(AnyF.slices_SortFunc_none {Tryz.sortLists with} none 0 _ w).mono fun e w' ⟨he,hw⟩=>⟨he,by rw[e0];exact gZ.eH _ _ _ _,by rw[hw];exact iN.refl _ _⟩
 have hgl:g<w.heap.size:=(Array.getElem?_eq_some_iff.1 hg).1;have hel:∀i:Fin ps.length,∃x:gI w g lo,x.l=(ps[i.1]'i.2).2∧x.enc=(ps[i.1]'i.2).1:=fun i=>by have h1:=hp _ (List.getElem_mem i.2);obtain⟨a,c,e⟩:=aB.slice h1;refine⟨⟨a,c,(ps[i.1]'i.2).2,?_⟩,rfl,e.symm⟩;rw[←e];exact aB.bQ h1 fun k _ hk=>⟨fun e'=>hk.1 (by rw[e'];rfl),hk.2⟩
 letI:Inhabited (gI w g lo):=⟨gI.no w g lo⟩
 obtain⟨d,hd⟩:∃d:Array (gI w g lo),d=Array.ofFn fun i=>Classical.choose (hel i):=⟨_,rfl⟩;have hds:d.size=ps.length:=by rw[hd];simp
 have hdl:d.toList.map gI.l=ps.map (·.2):=by
  apply List.ext_getElem
  ·simp[hds]
  intro i h1 h2;have hi:i<ps.length:=by simpa using h2
  simp only[List.getElem_map,Array.getElem_toList];have:=(Classical.choose_spec (hel ⟨i,hi⟩)).1;rw[←this]
  congr 1
  simp only[hd,Array.getElem_ofFn]
 have hH:Holds gI.enc w g 0 d:=by
  intro j hj;have hj':j<ps.length:=by omega
  refine⟨?_,pG _ hg⟩;have e1:d[j]! =Classical.choose (hel ⟨j,hj'⟩):=by rw[getElem!_pos d j hj];simp only[hd,Array.getElem_ofFn]
  rw[e1,(Classical.choose_spec (hel ⟨j,hj'⟩)).2];have:=ho.cells (g:=g) rfl j _ (by rw[List.getElem?_map,List.getElem?_eq_getElem hj'];rfl)
  rwa [Addr.add_lit] at this
 have hc:=Any.slices_SortFunc Tryz.sortLists gI.enc (fun _=>rfl) gI.cmp (gI.swo w g lo) 170 #[] g 0 cap d w yM (Tf w g lo 0 d.size) hH hgl (by omega);rw[hds] at hc;refine hc.mono ?_;rintro e w' ⟨he,d',n,os,hpm,hs,rfl⟩;have hd':d'.size=d.size:=hpm.1;have hkk:=wX ⟨gI.no w g lo⟩ gI.enc w g 0 n d' os;have hss:=wY ⟨gI.no w g lo⟩ gI.enc w g 0 n d' os;have hpl:(d'.toList.map gI.l).Perm (ps.map (·.2)):=by rw[←hdl];exact(H9 (d:=d) (d':=d') (by rw[hds];exact hpm)).map _
 have hso:(d'.toList.map gI.l).Pairwise fun a b=>gM a b≤0:=by
  rw[List.pairwise_map,List.pairwise_iff_getElem];intro i j hi hj hij;have:=hs i j (Nat.zero_le _) hij (by simp at hj;omega);have e1:d'[i]! =d'.toList[i]:=by rw[getElem!_pos d' i (by simpa using hi)];simp
  have e2:d'[j]! =d'.toList[j]:=by rw[getElem!_pos d' j (by simpa using hj)];simp
  rw[e1,e2] at this;unfold ltOf gI.cmp at this;rw[decide_eq_false_iff_not] at this;have:=bF.swap d'.toList[i].l d'.toList[j].l;omega
 have e:iU gM (ps.map (·.2))=d'.toList.map gI.l:=(sU bF hpl hso).symm;refine⟨he,?_,⟨rfl,rfl,rfl,Nat.le_add_right _ _,hss,fun k hk ho=>hkk k hk (fun e=>ho (by rw[e];rfl))⟩⟩;have H:=holds_sortWorld gI.enc w g 0 n d d' os hgl hH hd';refine⟨⟨by rw[hlen];omega,hnc⟩,some ⟨g,0,none⟩,cap,by rw[hlen],fun _=>⟨g,0,rfl,hbg,Nat.lt_of_lt_of_le hgl hss,fun i x hi=>?_⟩⟩;rw[e,List.getElem?_map] at hi;cases hx:d'.toList[i]? with
 |none=>rw[hx] at hi;cases hi
 |some y=>
  rw[hx] at hi;cases hi;have hil:i<d'.size:=by simpa using(List.getElem?_eq_some_iff.1 hx).1
  refine⟨[y.enc],⟨y.enc,rfl,aB.bQ (y.sl hss hkk) fun _ _ hB=>hB.2⟩,fun j u hu=>?_⟩;cases j with
  |succ j=>simp at hu
  |zero=>
   simp at hu;subst hu;have hcell:=(H i hil).1;have e2:d'[i]! =y:=by rw[getElem!_pos d' i hil];have:=(List.getElem?_eq_some_iff.1 hx).2;simpa using this
   rw[e2] at hcell;show World.cell? _ ⟨g,0+i*1+0,none⟩=_;rw[Nat.mul_one,Nat.add_zero];exact hcell
end Go.Proofs.YtaallngooaaonaaGreatDoor
