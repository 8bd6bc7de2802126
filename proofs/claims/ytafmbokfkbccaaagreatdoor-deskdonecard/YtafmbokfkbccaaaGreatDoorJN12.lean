import Derived.Test.YtafmbokfkbccaaaGreatDoorJN11
import Derived.Test.YtafmbokfkbccaaaGreatDoorJN7
import Derived.Shelf.Strings.OnBuilder
import Derived.Shelf.Strings.BuilderK
import Derived.Shelf.Strconv.Clone
import Derived.Shelf.Strings.Cut
import Derived.Shelf.Strings.Prefix
import Derived.Test.YtafmbokfkbccaaaGreatDoorProg
import Derived.Shelf.Strconv.Itoa3
import Derived.Shelf.Slices.Turned
import Derived.Lib.ItoaNum
import Derived.Test.YtafmbokfkbccaaaGreatDoorJN10
import Derived.Test.YtafmbokfkbccaaaGreatDoorJN4
namespace Go.Proofs.YtafmbokfkbccaaaGreatDoor
open Go.RowKit Go.Sort Go.Maps
theorem vC (l:List aI) (f:aI):gq l f 0=inB l f:=by
 rw[Bool.eq_iff_iff,mX,aZ]
def GH (fs:List aI) (a:aF) (l:List aD):Bool:=match aV a l with
 |some f=>inB fs f
 |none=>false
theorem Ad {pick:Nat→List au} {body:List aF} {j:Nat} {a:aF} (h:body[j]?=some a) (l:List aD):barredB pick j (body.drop j) l=((a.no&&GH (pick j) a l)||barredB pick (j+1) (body.drop (j+1)) l):=by
 obtain⟨h1,e1⟩:=List.getElem?_eq_some_iff.1 h;rw[List.drop_eq_getElem_cons h1,e1];rfl
set_option maxRecDepth 100000 in
set_option maxHeartbeats 4000000 in
theorem L9 (body:List aF) (v u:Value) (l:List aD) (g:Nat) (cb:Array Value) (eg:∀args w,(callFunc g args).run Tryz.prog w=.ok (.enter g args) w) (pick:Nat→List aI) (w:World) (hv:bU.sl bZ w v body) (hu:bL.sl bZ w u l) (hp:Ab g cb pick w.heap.size w) (hb:body.length≤5) (hr:∀n,gW (pick n)):
  Calls Tryz.prog 161 #[v,.func (.func g) #[] cb,u] w fun e w'=>e=.returned (.bool (barredB pick 0 body l))∧Later w w':=by
 obtain⟨sa,cap,rfl⟩:=Kind.slice hv;obtain⟨ua,Q5,rfl⟩:=Kind.slice hu;have HV:=hide hv;have HU:=hide hu;have HP:=hide hp;have HR:=hide hr;clear hv hu hp hr;generalize hR:barredB pick 0 body l=R at*;have H0:Hid (R=barredB pick 0 (body.drop 0) l):=hR.symm;clear hR
 go_enter Tryz.func161,Tryz.ntmps161
 go_wp2
 go_loopg [13] body.length (fun gg i wr=>∃j:Nat,j+gg=body.length∧i=.int .i64 j∧Hid (R=barredB pick j (body.drop j) l)∧Hid (Later w wr))
 case atStart=>exact⟨0,by omega,rfl,H0,((by repeat (first|exact Later.refl _|assumption|refine Later.drewN ?_ _|refine Later.drew ?_|refine Later.alloc ?_ _|refine Later.grow ?_ _)):Later _ _)⟩
 case round=>
  obtain⟨j,hj,rfl,HE,HL⟩:=hrel
  by_cases hlt:j<body.length
  ·obtain⟨a,hx⟩:∃x,body[j]?=some x:=⟨_,List.getElem?_eq_getElem hlt⟩;obtain⟨b1,o1,_,rfl,hb1,⟨sv,rfl,hsv⟩,hc⟩:=Kind.fC HV.out hx;have d0:wr.cell? ⟨b1,o1+j*3,none⟩=some (.bool a.no):=by rw[HL.out.cell hb1];exact hc 0 _ rfl
   have d1:wr.cell? ⟨b1,o1+j*3+1,none⟩=some (.string (bs a.name)):=by rw[HL.out.cell hb1];exact hc 1 _ rfl
   have d2:wr.cell? ⟨b1,o1+j*3+2,none⟩=some sv:=by rw[HL.out.cell hb1];exact hc 2 _ rfl
   have hbr:b1<wr.heap.size:=Nat.lt_of_lt_of_le hb1 HL.out.size;have HS:=hide (Ad (pick:=pick) hx l);obtain⟨sva,svc,rfl⟩:=Kind.slice hsv;have HSV:=hide hsv;clear hc hx hsv;cases hno:a.no
   ·have HS1:Hid (R=barredB pick (j+1) (body.drop (j+1)) l):=by
     show _=_;rw[HE.out,HS.out,hno];rfl
    rw[hno] at d0;clear HE HS hno;generalize bs a.name=nm at*;go_wp2
    go_roundg (body.length- (j+1))
    case measure=>omega
    case rel=>exact⟨j+1,by omega,by go_num,HS1,HL.out.alloc _⟩
   ·have HS1:Hid (R=(GH (pick j) a l||barredB pick (j+1) (body.drop (j+1)) l)):=by
     show _=_;rw[HE.out,HS.out,hno];rfl
    rw[hno] at d0;have hLt:Later w (wr.alloc (.cells #[.bool true,.string (bs a.name),.slice sva a.terms.length svc] 85)):=HL.out.alloc _;have HFc:=hide (Od a _ (.slice ua l.length Q5) l (wr.alloc (.cells #[.bool true,.string (bs a.name),.slice sva a.terms.length svc] 85)) (Kind.aQ HSV.out hLt) (Kind.aQ HU.out hLt));rw[hno] at HFc;have hbo:GH (pick j) a l=match aV a l with|some f=>inB (pick j) f|none=>false:=rfl
    unfold filled at HFc;have HLt:=hide hLt;clear HE HS hLt hno;cases hf:aV a l with
    |none=>
     rw[hf] at HFc hbo;have HS2:Hid (R=barredB pick (j+1) (body.drop (j+1)) l):=by show _=_;rw[HS1.out,hbo];rfl
     simp only[Option.isSome_none,Option.getD_none] at HFc;clear HS1 hbo hf;generalize bs a.name=nm at*
     go_wp2_with fail
     refine HFc.out.mono ?_;rintro e w2 ⟨fv,rfl,hfv,hL2⟩;obtain⟨s,rfl,hs⟩:=hfv;obtain⟨sA,sC,rfl⟩:=aW hs;have HL2:=hide (HLt.out.trans hL2);clear hs hL2 HFc;go_wp2;refine wp_region_held_drew (S:=fun w'=>Later w w') (by kernel_rfl) ((HL2.out.alloc _).drew) (fun hHeld=> ?_);refine ak (i:=0) (d:=some 27) (v:= ?_) rfl rfl hHeld ?_ ?_;rotate_left;focus intro w hSw;(try dsimp only at hSw);go_simp;try with_reducible rfl
     simp only[aK,aL,aze,asu];refine ak (i:=1) (d:=some 28) (v:= ?_) rfl rfl hHeld ?_ ?_;rotate_left;focus intro w hSw;(try dsimp only at hSw);go_simp;try with_reducible rfl
     simp only[aK,aL,aze,asu];refine lC (i:=2) (d:=some 29) rfl rfl hHeld ?_;simp only[aK,aL,aze,asu];refine lC (i:=3) (d:=some 30) rfl rfl hHeld ?_;simp only[aK,aL,aze,asu];refine lC (i:=4) (d:=some 31) rfl rfl hHeld ?_;simp only[aK,aL,aze,asu];refine lC (i:=5) (d:=some 32) rfl rfl hHeld ?_;simp only[aK,aL,aze,asu];refine lC (i:=6) (d:=some 33) rfl rfl hHeld ?_;simp only[aK,aL,aze,asu];refine ak (i:=7) (d:=some 34) (v:= ?_) rfl rfl hHeld ?_ ?_;rotate_left;focus intro w hSw;(try dsimp only at hSw);go_simp;try with_reducible rfl
     simp only[aK,aL,aze,asu];refine wpAnyH_done (by kernel_rfl) ?_ _;go_wp2
     go_roundg (body.length- (j+1))
     case measure=>omega
     case rel=>exact⟨j+1,by omega,by go_num,HS2,hHeld⟩
    |some f=>
     rw[hf] at HFc hbo;have HS2:Hid (R=(gq (pick j) f 0||barredB pick (j+1) (body.drop (j+1)) l)):=by show _=_;rw[HS1.out,hbo,vC]
     simp only[Option.isSome_some,Option.getD_some] at HFc;clear HS1 hbo hf;generalize bs a.name=nm at*
     go_wp2_with fail
     refine HFc.out.mono ?_;rintro e w2 ⟨fv,rfl,hfv,hL2⟩;have HFV:=hide hfv;obtain⟨s,rfl,hs⟩:=hfv;obtain⟨sA,sC,rfl⟩:=aW hs;have HL2:=hide (HLt.out.trans hL2);obtain⟨fn,aJ⟩:=f;dsimp only at*;obtain⟨wb,hwb⟩:∃wb,wb=w2.alloc (.cells #[.string fn,.slice sA aJ.length sC] 27):=⟨_,rfl⟩;have hLb:Later w wb:=by rw[hwb];exact HL2.out.alloc _
     have hFb:dF wb (.agg #[.string fn,.slice sA aJ.length sC]) (fn,aJ):=by rw[hwb];exact HFV.out.later ((Later.refl _).alloc _)
     have z:wb.cell? ⟨w2.heap.size,0,none⟩=some (.string fn)∧wb.cell? ⟨w2.heap.size,1,none⟩=some (.slice sA aJ.length sC):=by rw[hwb];simp
     have hsb:w2.heap.size<wb.heap.size:=by rw[hwb];simp
     have CELL:Hid (∀w',Later wb w'→w'.cell? ⟨w2.heap.size,0,none⟩=some (.string fn)∧w'.cell? ⟨w2.heap.size,1,none⟩=some (.slice sA aJ.length sC)):=fun w' hL=>
      ⟨by rw[hL.cell hsb];exact z.1,by rw[hL.cell hsb];exact z.2⟩
     have HFr:Hid (∀w',Later wb w'→Calls Tryz.prog g (#[.int .i64 j]++cb) w' fun e w2=>∃v,e=.returned v∧Facts w2 v (pick j)∧Later w' w2):=fun w' hL=>
      HP.out w' j (hLb.trans hL).below (by omega)
     have HIn:Hid (∀w' x,Later wb w'→Facts w' x (pick j)→Calls Tryz.prog 23 #[x,.agg #[.string fn,.slice sA aJ.length sC]] w' fun e w3=>e=.returned (.bool (gq (pick j) (fn,aJ) 0))∧Later w' w3):=fun w' x hL hx=>
      inC x _ (pick j) (fn,aJ) w' hx (hFb.later hL) (HR.out j)
     have HWB:=hide hwb;clear hs hL2 HFc hwb z hsb HFV hFb;go_wp2;rw[←HWB.out];generalize gq (pick j) (fn,aJ) 0=bb at*;refine wp_region_held_drew (S:=fun w'=>Later wb w') (by kernel_rfl) (Later.refl _).drew (fun hHeld=> ?_);refine ak (i:=0) (d:=some 27) (v:= ?_) rfl rfl hHeld ?_ ?_;rotate_left;focus intro w hSw;(try dsimp only at hSw);go_simp;try with_reducible rfl
     simp only[aK,aL,aze,asu];refine ak (i:=1) (d:=some 28) (v:= ?_) rfl rfl hHeld ?_ ?_;rotate_left;focus intro w hSw;(try dsimp only at hSw);go_simp;try with_reducible rfl
     simp only[aK,aL,aze,asu];refine ak (i:=2) (d:=some 29) (v:= ?_) rfl rfl hHeld ?_ ?_;rotate_left;focus intro w hSw;(try dsimp only at hSw);go_simp;try with_reducible rfl
     simp only[aK,aL,aze,asu];refine ak (i:=3) (d:=some 30) (v:= ?_) rfl rfl hHeld ?_ ?_;rotate_left;focus intro w hSw;(try dsimp only at hSw);go_simp;try with_reducible rfl
     simp only[aK,aL,aze,asu];refine ak (i:=5) (d:=some 32) (v:= ?_) rfl rfl hHeld ?_ ?_;rotate_left;focus intro w hSw;(try dsimp only at hSw);obtain⟨q0,q1⟩:=CELL.out w hSw;go_simp;try with_reducible rfl
     simp only[aK,aL,aze,asu];refine wpAnyH_ready (rs:=[4]) (by kernel_rfl) (by simp) ?_;refine AllReadyH.cons rfl (fun K hK=> ?_) AllReadyH.nil;go_simp;refine(HFr.out _ hHeld).mono ?_;rintro e u1 ⟨x,rfl,hx,hU1⟩;dsimp only;have K6:Later wb u1:=Later.trans hHeld hU1;refine hK.out _ _ K6 (fun hHeld=> ?_);clear hK K;refine wpAnyH_ready (rs:=[6]) (by kernel_rfl) (by simp) ?_;refine AllReadyH.cons rfl (fun K hK=> ?_) AllReadyH.nil;go_simp;refine(HIn.out _ x K6 hx).mono ?_;rintro e u2 ⟨rfl,hU2⟩;dsimp only;have Oq:Later wb u2:=K6.trans hU2;refine hK.out _ _ Oq (fun hHeld=> ?_);clear hK K;refine ak (i:=7) (d:=some 34) (v:= ?_) rfl rfl hHeld ?_ ?_;rotate_left;focus intro w hSw;(try dsimp only at hSw);go_simp;try with_reducible rfl
     simp only[aK,aL,aze,asu];refine wpAnyH_done (by kernel_rfl) ?_ _;have HLu:=hide (hLb.trans Oq);cases bb
     ·have HS3:Hid (R=barredB pick (j+1) (body.drop (j+1)) l):=by show _=_;rw[HS2.out];rfl
      clear HS2;go_wp2
      go_roundg (body.length- (j+1))
      case measure=>omega
      case rel=>exact⟨j+1,by omega,by go_num,HS3,HLu⟩
     ·have HS3:Hid (R=true):=by show _=_;rw[HS2.out];rfl
      clear HS2;go_wp2;go_ret;exact⟨by rw[HS3.out];rfl,HLu.out⟩
  ·have HS3:Hid (R=false):=by show _=_;rw[HE.out,List.drop_eq_nil_of_le (by omega)];rfl
   clear HE;go_wp2;go_ret;exact⟨by rw[HS3.out];rfl,HL.out⟩
theorem Ae:∀args w,(callFunc 160 args).run Tryz.prog w=.ok (.enter 160 args) w:=enters_of Tryz.func160 (by kernel_rfl) rfl
def Q6 (g:Nat) (cb:Array Value) (p:List aD→Bool) (n:Nat) (w0:World):Prop:=∀(W:World) (u:Value) (l:List aD),Below n w0 W→bL.sl bZ W u l→
 Calls Tryz.prog g (#[u]++cb) W fun e w'=>e=.returned (.bool (p l))∧Later W w'
set_option maxHeartbeats 1000000 in
theorem Ot (cB cF:Nat) (body:List aF) (v:Value) (g:Nat) (cb:Array Value) (eg:∀args w,(callFunc g args).run Tryz.prog w=.ok (.enter g args) w) (pick:Nat→List aI) (n:Nat) (w0:World) (hv:bU.sl bZ w0 v body) (hp:Ab g cb pick n w0) (hb:body.length≤5) (hr:∀n,gW (pick n))
  (h0:w0.cell? ⟨cB,0,none⟩=some v) (h1:w0.cell? ⟨cF,0,none⟩=some (.func (.func g) #[] cb)) (b0:cB<n) (b1:cF<n) (hn:n=w0.heap.size):
  Q6 160 #[.pointer (some ⟨cB,0,none⟩),.pointer (some ⟨cF,0,none⟩)] (barredB pick 0 body) n w0:=by
 intro W u l hW hu;have hW':Below w0.heap.size w0 W:=by rw[←hn];exact hW
 have hs:n≤W.heap.size:=by have:=hW.size;omega
 have z0:W.cell? ⟨cB,0,none⟩=some v:=by rw[hW.cell b0];exact h0
 have z1:W.cell? ⟨cF,0,none⟩=some (.func (.func g) #[] cb):=by rw[hW.cell b1];exact h1
 have s0:cB<W.heap.size:=by omega
 have s1:cF<W.heap.size:=by omega
 have HC:=hide (L9 body v u l g cb eg pick W (Kind.aY hv hW') hu (hp.below hW hs) hb hr);obtain⟨a,cap,rfl⟩:=Kind.slice hv;obtain⟨ua,Q5,rfl⟩:=Kind.slice hu;clear hv hu hp hr h0 h1 hW' hW;generalize barredB pick 0 body l=bb at*;show Calls _ _ #[.slice ua l.length Q5,.pointer (some ⟨cB,0,none⟩),.pointer (some ⟨cF,0,none⟩)] _ _
 go_enter Tryz.func160,Tryz.ntmps160
 go_wp2_with (go_at_call 161;refine HC.out.mono ?_;rintro e w2 ⟨rfl,hL2⟩;replace hL2:=hide hL2)
 go_ret;exact⟨rfl,bD hL2⟩
end Go.Proofs.YtafmbokfkbccaaaGreatDoor
namespace Go.Proofs
open Go.Shelf
def Tryz.lays169_ren:Go.Shelf.Ren:=⟨fun|169=>231|n=>n,fun|70=>295|9=>9|0=>0|72=>297|37=>48|127=>330|3=>3|5=>5|n=>n,fun|n=>n⟩
theorem Tryz.lays169:Go.Proofs.Lays.n169 Tryz.prog Tryz.lays169_ren:={
 mixed:=by kernel_rfl
 f169:=Tryz.func231.trans (congrArg some (by kernel_rfl))
 t0:=Tryz.underlying0
 a0:=Tryz.isAgg0
 z0:=Tryz.sizeOf0
 v0:=Tryz.zeroValue0
 t3:=Tryz.underlying3
 a3:=Tryz.isAgg3
 z3:=Tryz.sizeOf3
 v3:=Tryz.zeroValue3
 t9:=Tryz.underlying9
 a9:=Tryz.isAgg9
 z9:=Tryz.sizeOf9
 v9:=Tryz.zeroValue9
 t37:=Tryz.underlying48
 a37:=Tryz.isAgg48
 z37:=Tryz.sizeOf48
 v37:=Tryz.zeroValue48
 t70:=Tryz.underlying295
 a70:=Tryz.isAgg295
 z70:=Tryz.sizeOf295
 v70:=Tryz.zeroValue295
 t72:=Tryz.underlying297
 a72:=Tryz.isAgg297
 z72:=Tryz.sizeOf297
 v72:=Tryz.zeroValue297
 t127:=Tryz.underlying330
 a127:=Tryz.isAgg330
 z127:=Tryz.sizeOf330
 v127:=Tryz.zeroValue330}
theorem Tryz.Builder_Extra_169:Builder.Extra Tryz.prog Tryz.lays169_ren:={
 sizeBuilder:=by kernel_rfl
 liesBuilder:=by kernel_rfl
 t5:=Tryz.underlying5
 a5:=Tryz.isAgg5
 z5:=Tryz.sizeOf5
 v5:=Tryz.zeroValue5
 infoByte:=by kernel_rfl
 cellsByte:=by kernel_rfl
 sizeByte:=by kernel_rfl
 neB5:=by decide}
open Go.RowKit in
theorem Tryz.Builder_String_any_k (B b:Nat) (l:List UInt8) (w:World) (h:Lib.IsBuilderF 297 5 B b (Lib.byteCells l) w) (hBw:B≤w.heap.size):
  Calls Tryz.prog 231 #[.pointer (some ⟨b,0,none⟩)] w fun e w'=>e=.returned (.string ⟨l.toArray⟩)∧(Lib.IsBuilderF 297 5 B b (Lib.byteCells l) w'∧Below B w w'∧Lib.OthersKept 5 (some b) w w'):=Any.Builder_String_any_k Tryz.lays169 Tryz.Builder_Extra_169 B b l w h hBw
def Tryz.laysM316_ren:Go.Shelf.Ren:=⟨fun|316=>342|n=>n,fun|9=>9|3=>3|4=>4|37=>48|0=>0|127=>330|5=>5|n=>n,fun|n=>n⟩
theorem Tryz.laysM316:Go.Proofs.LaysM.n316 Tryz.prog Tryz.laysM316_ren:={
 mixed:=by kernel_rfl
 f316:=Tryz.func342.trans (congrArg some (by kernel_rfl))
 t0:=Tryz.underlying0
 a0:=Tryz.isAgg0
 z0:=Tryz.sizeOf0
 v0:=Tryz.zeroValue0
 t3:=Tryz.underlying3
 a3:=Tryz.isAgg3
 z3:=Tryz.sizeOf3
 v3:=Tryz.zeroValue3
 t4:=Tryz.underlying4
 a4:=Tryz.isAgg4
 z4:=Tryz.sizeOf4
 v4:=Tryz.zeroValue4
 t9:=Tryz.underlying9
 a9:=Tryz.isAgg9
 z9:=Tryz.sizeOf9
 v9:=Tryz.zeroValue9
 t37:=Tryz.underlying48
 a37:=Tryz.isAgg48
 z37:=Tryz.sizeOf48
 v37:=Tryz.zeroValue48
 t127:=Tryz.underlying330
 a127:=Tryz.isAgg330
 z127:=Tryz.sizeOf330
 v127:=Tryz.zeroValue330
 t5:=Tryz.underlying5
 a5:=Tryz.isAgg5
 z5:=Tryz.sizeOf5
 v5:=Tryz.zeroValue5
 i0:=by kernel_rfl
 i3:=by kernel_rfl
 i4:=by kernel_rfl
 i5:=by kernel_rfl
 i9:=by kernel_rfl
 i37:=by kernel_rfl
 i127:=by kernel_rfl}
open Go.RowKit in
theorem Tryz.stringslite_Clone (s:ByteArray) (w:World) (hlim:s.size≤281474976710656):
  Calls Tryz.prog 342 #[.string s] w fun e w'=>e=.returned (.string s)∧Below w.heap.size w w':=Any.stringslite_Clone Tryz.laysM316 s w hlim
def Tryz.lays145_ren:Go.Shelf.Ren:=⟨fun|145=>299|220=>331|219=>344|217=>351|225=>352|224=>353|267=>354|266=>357|314=>358|n=>n,fun|9=>9|4=>4|59=>355|3=>3|5=>5|46=>202|146=>398|51=>343|n=>n,fun|1=>1|n=>n⟩
theorem Tryz.lays145:Go.Proofs.Lays.n145 Tryz.prog Tryz.lays145_ren:={
 mixed:=by kernel_rfl
 f145:=Tryz.func299.trans (congrArg some (by kernel_rfl))
 f217:=Tryz.func351.trans (congrArg some (by kernel_rfl))
 f219:=Tryz.func344.trans (congrArg some (by kernel_rfl))
 f220:=Tryz.func331.trans (congrArg some (by kernel_rfl))
 f224:=Tryz.func353.trans (congrArg some (by kernel_rfl))
 f225:=Tryz.func352.trans (congrArg some (by kernel_rfl))
 f266:=Tryz.func357.trans (congrArg some (by kernel_rfl))
 f267:=Tryz.func354.trans (congrArg some (by kernel_rfl))
 f314:=Tryz.func358.trans (congrArg some (by kernel_rfl))
 t3:=Tryz.underlying3
 a3:=Tryz.isAgg3
 z3:=Tryz.sizeOf3
 v3:=Tryz.zeroValue3
 t4:=Tryz.underlying4
 a4:=Tryz.isAgg4
 z4:=Tryz.sizeOf4
 v4:=Tryz.zeroValue4
 t5:=Tryz.underlying5
 a5:=Tryz.isAgg5
 z5:=Tryz.sizeOf5
 v5:=Tryz.zeroValue5
 t9:=Tryz.underlying9
 a9:=Tryz.isAgg9
 z9:=Tryz.sizeOf9
 v9:=Tryz.zeroValue9
 t46:=Tryz.underlying202
 a46:=Tryz.isAgg202
 z46:=Tryz.sizeOf202
 v46:=Tryz.zeroValue202
 t51:=Tryz.underlying343
 a51:=Tryz.isAgg343
 z51:=Tryz.sizeOf343
 v51:=Tryz.zeroValue343
 t59:=Tryz.underlying355
 a59:=Tryz.isAgg355
 z59:=Tryz.sizeOf355
 v59:=Tryz.zeroValue355
 t146:=Tryz.underlying398
 a146:=Tryz.isAgg398
 z146:=Tryz.sizeOf398
 v146:=Tryz.zeroValue398
 g1:=by kernel_rfl}
open Go.RowKit Go.Lib in
theorem Tryz.strings_Cut (s sep:ByteArray) (m:Int) (w:World) (hs:s.size<4294967281) (hm:w.cell? ⟨1,0,none⟩=some (.int .i64 m)):
  Calls Tryz.prog 299 #[.string s,.string sep] w fun e w'=>e=.returned (.tuple #[.string ⟨(Lib.cut s.data.toList sep.data.toList).1.toArray⟩,.string ⟨(Lib.cut s.data.toList sep.data.toList).2.1.toArray⟩,.bool (Lib.cut s.data.toList sep.data.toList).2.2])∧∃n,w'=w.drewN n:=Any.strings_Cut Tryz.lays145 s sep m w hs hm
def Tryz.lays99_ren:Go.Shelf.Ren:=⟨fun|99=>277|206=>322|n=>n,fun|9=>9|4=>4|3=>3|n=>n,fun|n=>n⟩
theorem Tryz.lays99:Go.Proofs.Lays.n99 Tryz.prog Tryz.lays99_ren:={
 mixed:=by kernel_rfl
 f99:=Tryz.func277.trans (congrArg some (by kernel_rfl))
 f206:=Tryz.func322.trans (congrArg some (by kernel_rfl))
 t3:=Tryz.underlying3
 a3:=Tryz.isAgg3
 z3:=Tryz.sizeOf3
 v3:=Tryz.zeroValue3
 t4:=Tryz.underlying4
 a4:=Tryz.isAgg4
 z4:=Tryz.sizeOf4
 v4:=Tryz.zeroValue4
 t9:=Tryz.underlying9
 a9:=Tryz.isAgg9
 z9:=Tryz.sizeOf9
 v9:=Tryz.zeroValue9}
open Go.RowKit Go.Lib in
theorem Tryz.strings_HasPrefix (s p:ByteArray) (w:World):
  Calls Tryz.prog 277 #[.string s,.string p] w fun e w'=>e=.returned (.bool (Lib.hasPrefix s.data.toList p.data.toList))∧w'=w:=Any.strings_HasPrefix Tryz.lays99 s p w
end Go.Proofs
namespace Go.Proofs
open Go.Shelf
def Tryz.laysM171_ren:Go.Shelf.Ren:=⟨fun|171=>229|243=>273|246=>317|283=>338|284=>339|285=>340|286=>341|129=>287|317=>347|318=>348|319=>349|320=>350|337=>355|338=>356|n=>n,fun|3=>3|9=>9|2=>2|4=>4|171=>385|0=>0|53=>345|37=>48|5=>5|173=>387|212=>395|51=>343|20=>20|213=>396|46=>202|232=>400|233=>401|n=>n,fun|17=>0|18=>2|19=>3|n=>n⟩
theorem Tryz.laysM171:Go.Proofs.LaysM.n171 Tryz.prog Tryz.laysM171_ren:={
 mixed:=by kernel_rfl
 f129:=Tryz.func287.trans (congrArg some (by kernel_rfl))
 f171:=Tryz.func229.trans (congrArg some (by kernel_rfl))
 f243:=Tryz.func273.trans (congrArg some (by kernel_rfl))
 f246:=Tryz.func317.trans (congrArg some (by kernel_rfl))
 f283:=Tryz.func338.trans (congrArg some (by kernel_rfl))
 f284:=Tryz.func339.trans (congrArg some (by kernel_rfl))
 f285:=Tryz.func340.trans (congrArg some (by kernel_rfl))
 f286:=Tryz.func341.trans (congrArg some (by kernel_rfl))
 f317:=Tryz.func347.trans (congrArg some (by kernel_rfl))
 f318:=Tryz.func348.trans (congrArg some (by kernel_rfl))
 f319:=Tryz.func349.trans (congrArg some (by kernel_rfl))
 f320:=Tryz.func350.trans (congrArg some (by kernel_rfl))
 f337:=Tryz.func355.trans (congrArg some (by kernel_rfl))
 f338:=Tryz.func356.trans (congrArg some (by kernel_rfl))
 t0:=Tryz.underlying0
 a0:=Tryz.isAgg0
 z0:=Tryz.sizeOf0
 v0:=Tryz.zeroValue0
 t2:=Tryz.underlying2
 a2:=Tryz.isAgg2
 z2:=Tryz.sizeOf2
 v2:=Tryz.zeroValue2
 t3:=Tryz.underlying3
 a3:=Tryz.isAgg3
 z3:=Tryz.sizeOf3
 v3:=Tryz.zeroValue3
 t4:=Tryz.underlying4
 a4:=Tryz.isAgg4
 z4:=Tryz.sizeOf4
 v4:=Tryz.zeroValue4
 t5:=Tryz.underlying5
 a5:=Tryz.isAgg5
 z5:=Tryz.sizeOf5
 v5:=Tryz.zeroValue5
 t9:=Tryz.underlying9
 a9:=Tryz.isAgg9
 z9:=Tryz.sizeOf9
 v9:=Tryz.zeroValue9
 t20:=Tryz.underlying20
 a20:=Tryz.isAgg20
 z20:=Tryz.sizeOf20
 v20:=Tryz.zeroValue20
 t37:=Tryz.underlying48
 a37:=Tryz.isAgg48
 z37:=Tryz.sizeOf48
 v37:=Tryz.zeroValue48
 t46:=Tryz.underlying202
 a46:=Tryz.isAgg202
 z46:=Tryz.sizeOf202
 v46:=Tryz.zeroValue202
 t51:=Tryz.underlying343
 a51:=Tryz.isAgg343
 z51:=Tryz.sizeOf343
 v51:=Tryz.zeroValue343
 t53:=Tryz.underlying345
 a53:=Tryz.isAgg345
 z53:=Tryz.sizeOf345
 v53:=Tryz.zeroValue345
 t171:=Tryz.underlying385
 a171:=Tryz.isAgg385
 z171:=Tryz.sizeOf385
 v171:=Tryz.zeroValue385
 t173:=Tryz.underlying387
 a173:=Tryz.isAgg387
 z173:=Tryz.sizeOf387
 v173:=Tryz.zeroValue387
 t212:=Tryz.underlying395
 a212:=Tryz.isAgg395
 z212:=Tryz.sizeOf395
 v212:=Tryz.zeroValue395
 t213:=Tryz.underlying396
 a213:=Tryz.isAgg396
 z213:=Tryz.sizeOf396
 t232:=Tryz.underlying400
 a232:=Tryz.isAgg400
 z232:=Tryz.sizeOf400
 v232:=Tryz.zeroValue400
 t233:=Tryz.underlying401
 a233:=Tryz.isAgg401
 z233:=Tryz.sizeOf401
 v233:=Tryz.zeroValue401
 g17:=by kernel_rfl
 g18:=by kernel_rfl
 g19:=by kernel_rfl
 i0:=by kernel_rfl
 i2:=by kernel_rfl
 i3:=by kernel_rfl
 i4:=by kernel_rfl
 i5:=by kernel_rfl
 i9:=by kernel_rfl
 i20:=by kernel_rfl
 i37:=by kernel_rfl
 i46:=by kernel_rfl
 i51:=by kernel_rfl
 i53:=by kernel_rfl
 i171:=by kernel_rfl
 i173:=by kernel_rfl
 i212:=by kernel_rfl
 i232:=by kernel_rfl
 i233:=by kernel_rfl
 m17:=by kernel_rfl
 m18:=by kernel_rfl
 m19:=by kernel_rfl}
open Go.RowKit Go.Sort Go.Lib in
theorem Tryz.strconv_Itoa (n:Int) (h0: -9223372036854775808≤n) (h1:n≤9223372036854775807) (w:World) (htab:Lib.TabIs Tryz.prog w "internal/strconv.uint64pow10" .u64 Lib.pow10Tab):
  Calls Tryz.prog 229 #[.int .i64 n] w fun e w'=>e=.returned (.string ⟨(Lib.itoa n).toArray⟩)∧∃k os,w'=grow (w.drewN k) os:=Any.strconv_Itoa Tryz.laysM171 n h0 h1 w htab
def Tryz.lays171_ren:Go.Shelf.Ren:=⟨fun|171=>229|243=>273|246=>317|283=>338|284=>339|285=>340|286=>341|129=>287|317=>347|318=>348|319=>349|320=>350|337=>355|338=>356|n=>n,fun|3=>3|9=>9|2=>2|4=>4|171=>385|0=>0|53=>345|37=>48|5=>5|173=>387|212=>395|51=>343|20=>20|213=>396|46=>202|232=>400|233=>401|n=>n,fun|17=>0|18=>2|19=>3|n=>n⟩
theorem Tryz.lays171:Go.Proofs.Lays.n171 Tryz.prog Tryz.lays171_ren:={
 mixed:=by kernel_rfl
 f129:=Tryz.func287.trans (congrArg some (by kernel_rfl))
 f171:=Tryz.func229.trans (congrArg some (by kernel_rfl))
 f243:=Tryz.func273.trans (congrArg some (by kernel_rfl))
 f246:=Tryz.func317.trans (congrArg some (by kernel_rfl))
 f283:=Tryz.func338.trans (congrArg some (by kernel_rfl))
 f284:=Tryz.func339.trans (congrArg some (by kernel_rfl))
 f285:=Tryz.func340.trans (congrArg some (by kernel_rfl))
 f286:=Tryz.func341.trans (congrArg some (by kernel_rfl))
 f317:=Tryz.func347.trans (congrArg some (by kernel_rfl))
 f318:=Tryz.func348.trans (congrArg some (by kernel_rfl))
 f319:=Tryz.func349.trans (congrArg some (by kernel_rfl))
 f320:=Tryz.func350.trans (congrArg some (by kernel_rfl))
 f337:=Tryz.func355.trans (congrArg some (by kernel_rfl))
 f338:=Tryz.func356.trans (congrArg some (by kernel_rfl))
 t0:=Tryz.underlying0
 a0:=Tryz.isAgg0
 z0:=Tryz.sizeOf0
 v0:=Tryz.zeroValue0
 t2:=Tryz.underlying2
 a2:=Tryz.isAgg2
 z2:=Tryz.sizeOf2
 v2:=Tryz.zeroValue2
 t3:=Tryz.underlying3
 a3:=Tryz.isAgg3
 z3:=Tryz.sizeOf3
 v3:=Tryz.zeroValue3
 t4:=Tryz.underlying4
 a4:=Tryz.isAgg4
 z4:=Tryz.sizeOf4
 v4:=Tryz.zeroValue4
 t5:=Tryz.underlying5
 a5:=Tryz.isAgg5
 z5:=Tryz.sizeOf5
 v5:=Tryz.zeroValue5
 t9:=Tryz.underlying9
 a9:=Tryz.isAgg9
 z9:=Tryz.sizeOf9
 v9:=Tryz.zeroValue9
 t20:=Tryz.underlying20
 a20:=Tryz.isAgg20
 z20:=Tryz.sizeOf20
 v20:=Tryz.zeroValue20
 t37:=Tryz.underlying48
 a37:=Tryz.isAgg48
 z37:=Tryz.sizeOf48
 v37:=Tryz.zeroValue48
 t46:=Tryz.underlying202
 a46:=Tryz.isAgg202
 z46:=Tryz.sizeOf202
 v46:=Tryz.zeroValue202
 t51:=Tryz.underlying343
 a51:=Tryz.isAgg343
 z51:=Tryz.sizeOf343
 v51:=Tryz.zeroValue343
 t53:=Tryz.underlying345
 a53:=Tryz.isAgg345
 z53:=Tryz.sizeOf345
 v53:=Tryz.zeroValue345
 t171:=Tryz.underlying385
 a171:=Tryz.isAgg385
 z171:=Tryz.sizeOf385
 v171:=Tryz.zeroValue385
 t173:=Tryz.underlying387
 a173:=Tryz.isAgg387
 z173:=Tryz.sizeOf387
 v173:=Tryz.zeroValue387
 t212:=Tryz.underlying395
 a212:=Tryz.isAgg395
 z212:=Tryz.sizeOf395
 v212:=Tryz.zeroValue395
 t213:=Tryz.underlying396
 a213:=Tryz.isAgg396
 z213:=Tryz.sizeOf396
 t232:=Tryz.underlying400
 a232:=Tryz.isAgg400
 z232:=Tryz.sizeOf400
 v232:=Tryz.zeroValue400
 t233:=Tryz.underlying401
 a233:=Tryz.isAgg401
 z233:=Tryz.sizeOf401
 v233:=Tryz.zeroValue401
 g17:=by kernel_rfl
 g18:=by kernel_rfl
 g19:=by kernel_rfl}
open Go.RowKit Go.Sort Go.Lib in
theorem Tryz.strconv_Itoa_small (i:Nat) (hi:i<100) (w:World):
  Calls Tryz.prog 229 #[.int .i64 i] w fun e w'=>e=.returned (.string ⟨(Lib.decDigits i).toArray⟩)∧w'=w:=Any.strconv_Itoa_small Tryz.lays171 i hi w
def Tryz.lays113_ren:Go.Shelf.Ren:=⟨fun|113=>124|n=>n,fun|28=>39|3=>3|4=>4|9=>9|20=>20|0=>0|n=>n,fun|n=>n⟩
theorem Tryz.lays113:Go.Proofs.Lays.n113 Tryz.prog Tryz.lays113_ren:={
 mixed:=by kernel_rfl
 f113:=Tryz.func124.trans (congrArg some (by kernel_rfl))
 t0:=Tryz.underlying0
 a0:=Tryz.isAgg0
 z0:=Tryz.sizeOf0
 v0:=Tryz.zeroValue0
 t3:=Tryz.underlying3
 a3:=Tryz.isAgg3
 z3:=Tryz.sizeOf3
 v3:=Tryz.zeroValue3
 t4:=Tryz.underlying4
 a4:=Tryz.isAgg4
 z4:=Tryz.sizeOf4
 v4:=Tryz.zeroValue4
 t9:=Tryz.underlying9
 a9:=Tryz.isAgg9
 z9:=Tryz.sizeOf9
 v9:=Tryz.zeroValue9
 t20:=Tryz.underlying20
 a20:=Tryz.isAgg20
 z20:=Tryz.sizeOf20
 v20:=Tryz.zeroValue20
 t28:=Tryz.underlying39
 a28:=Tryz.isAgg39
 z28:=Tryz.sizeOf39
 v28:=Tryz.zeroValue39}
open Go.Lib in
theorem Tryz.slices_Max_int (b off n c:Nat) (zs:List Int) (w:World) (hn:0<n) (hz:n≤zs.length) (hbig:n≤9223372036854775807) (hc:∀j,j<zs.length→w.cell? ⟨b,off+j,none⟩=some (.int .i64 (zs.getD j 0))):
  Calls Tryz.prog 124 #[.slice (some ⟨b,off,none⟩) n c] w fun e w'=>e=.returned (.int .i64 (Lib.maxOf (zs.take n)))∧w'=w:=Any.slices_Max_int Tryz.lays113 b off n c zs w hn hz hbig hc
end Go.Proofs
namespace Go.Proofs.YtafmbokfkbccaaaGreatDoor
open Go.RowKit Go.Sort Go.Maps
theorem mF {a:Nat} (h:a<10):(UInt8.ofNat (48+a)).toNat=48+a:=by
 rw[UInt8.toNat_ofNat'];exact Nat.mod_eq_of_lt (by omega)
theorem qU (u:Nat):Lib.decDigits u≠[]:=by
 rw[Lib.decDigits];split <;> simp
theorem yG:∀(u v:Nat),Lib.decDigits u=Lib.decDigits v→u=v:=by
 intro u
 induction u using Nat.strongRecOn with
 |ind u ih=>
  intro v h;rw[Lib.decDigits,Lib.decDigits.eq_1 v] at h;split at h <;> split at h
  ·rename_i h1 h2;have:=List.cons.inj h;have:=congrArg UInt8.toNat this.1;rw[mF h1,mF h2] at this;omega
  ·rename_i h1 h2;have:=congrArg List.length h;have h3:=List.length_pos_iff.2 (qU (v/10));rw[List.length_append,List.length_singleton,List.length_singleton] at this;omega
  ·rename_i h1 h2;have:=congrArg List.length h;have h3:=List.length_pos_iff.2 (qU (u/10));rw[List.length_append,List.length_singleton,List.length_singleton] at this;omega
  ·rename_i h1 h2;obtain⟨h3,h4⟩:=List.append_inj' h rfl;have h5:=ih (u/10) (by omega) (v/10) h3;have h6:=congrArg UInt8.toNat (List.cons.inj h4).1;rw[mF (Nat.mod_lt _ (by omega)),mF (Nat.mod_lt _ (by omega))] at h6;omega
theorem nJ:∀(u:Nat),(32:UInt8)∉Lib.decDigits u:=by
 intro u
 induction u using Nat.strongRecOn with
 |ind u ih=>
  have key:∀a,a<10→(32:UInt8)≠UInt8.ofNat (48+a):=fun a ha e=>by
   have:=congrArg UInt8.toNat e;rw[mF ha] at this;have h32:(32:UInt8).toNat=32:=rfl;omega
  rw[Lib.decDigits];split
  ·rename_i h;simp only[List.mem_singleton];exact key u h
  ·rename_i h;rw[List.mem_append];rintro(h1|h1)
   ·exact ih (u/10) (by omega) h1
   ·simp only[List.mem_singleton] at h1;exact key _ (Nat.mod_lt _ (by omega)) h1
theorem Ou:∀{a b x y:Bs},32∉a→32∉b→a++32::x=b++32::y→a=b∧x=y
 |[],[],x,y,_,_,h=>⟨rfl,(List.cons.inj h).2⟩
 |[],c::b,x,y,_,hb,h=>by
  have:=(List.cons.inj h).1;exact absurd (by rw[this];simp) hb
 |c::a,[],x,y,ha,_,h=>by
  have:=(List.cons.inj h).1;exact absurd (by rw[←this];simp) ha
 |c::a,d::b,x,y,ha,hb,h=>by
  obtain⟨h1,h2⟩:=List.cons.inj h;obtain⟨h3,h4⟩:=Ou (a:=a) (b:=b) (fun h=>ha (by simp[h])) (fun h=>hb (by simp[h])) h2;exact⟨by rw[h1,h3],h4⟩
def rF (s:Bs):Bs:=Lib.decDigits s.length++32::s
theorem GI {s t x y:Bs} (h:rF s++x=rF t++y):s=t∧x=y:=by
 unfold rF at h;rw[List.append_assoc,List.append_assoc,List.cons_append,List.cons_append] at h;obtain⟨h1,h2⟩:=Ou (nJ _) (nJ _) h;exact List.append_inj h2 (yG _ _ h1)
def iL:List ByteArray→Bs
 |[]=>[]
 |s::l=>rF (raw s)++iL l
theorem wJ:∀{l m:List ByteArray},iL l=iL m→l=m
 |[],[],_=>rfl
 |[],s::m,h=>by simp[iL,rF] at h
 |s::l,[],h=>by simp[iL,rF] at h
 |s::l,t::m,h=>by
  obtain⟨h1,h2⟩:=GI h;rw[←jW s,h1,jW,wJ h2]
theorem pG:∀(l m:List ByteArray),iL (l++m)=iL l++iL m
 |[],m=>rfl
 |s::l,m=>by simp[iL,pG l m]
def tO (f:au):Bs:=iL (f.1::f.2)
theorem yH {f g:au} (h:tO f=tO g):f=g:=by
 have:=wJ h;obtain⟨h1,h2⟩:=List.cons.inj this;exact Prod.ext h1 h2
abbrev Two:=ByteArray×Option Addr×Nat×Nat
def Af (x:Two):Value:=.agg #[.string x.1,.slice x.2.1 x.2.2.1 x.2.2.2]
def GJ (v:Value):Option Two:=match v with
 | .agg a=>match a.toList with
  |[.string s,.slice p n c]=>some (s,p,n,c)
  |_=>none
 |_=>none
theorem Ag (x:Two):GJ (Af x)=some x:=rfl
theorem GK {v:Value} {x:Two} (h:GJ v=some x):v=Af x:=by
 unfold GJ at h;split at h
 ·rename_i a;obtain⟨l,rfl⟩:∃l:List Value,a=l.toArray:=⟨a.toList,by simp⟩;simp only at h;split at h
  ·cases h
   rfl
  ·cases h
 ·cases h
def ko (v:Value):Option (DataW Two×List MemPlace):=(GJ v).map fun x=>(.held x,[])
theorem Ew (x:Two):ko (Af x)=some (.held x,[]):=rfl
theorem tQ {v:Value} {z:DataW Two×List MemPlace} (h:ko v=some z):∃x,v=Af x∧z=(.held x,[]):=by
 unfold ko at h;cases e:GJ v with
 |none=>rw[e] at h;cases h
 |some x=>rw[e] at h;cases h;exact⟨x,GK e,rfl⟩
theorem JM {x y:Two} (h:Af x=Af y):x=y:=by
 have:=Ag x;rw[h,Ag] at this;exact(Option.some.inj this).symm
theorem GL {w:World} {v:Value} {f:aI} (h:dF w v f):∃x,v=Af x:=by
 obtain⟨s,rfl,hs⟩:=h;obtain⟨a,c,rfl⟩:=aW hs;exact⟨(f.1,a,_,c),rfl⟩
def fT (P:Program) (K:TypeId) (w:World) (b n:Nat) (L:List au):Prop:=
 ∃D:DataW Two,w.ownsMap P K ko b n D∧(∀s,Maps.has D (.string s)=true↔∃f∈L,tO f=s)∧(∀f∈L,∃x,D.atKey (.string (tO f)) .nil=.held x∧dF w (Af x) f)∧Maps.size D=(dK L).length
theorem fT.made (P:Program) (K:TypeId) (w:World):fT P K (w.alloc (.map #[] 0)) w.heap.size 0 []:=
 ⟨.map [],World.ownsMap_made _ _ _ _,fun s=>by simp[Maps.has],fun f hf=>(by cases hf),by simp[Maps.size,dK,fQ,jI]⟩
section
variable {P:Program} {K:TypeId} {w w':World} {b n:Nat} {L:List au}
theorem fT.lt (h:fT P K w b n L):b<w.heap.size:=by obtain⟨D,h,_⟩:=h;exact h.lt
theorem fT.later (h:fT P K w b n L) (k:Later w w'):fT P K w' b n L:=by
 obtain⟨D,h,h1,h2,h3⟩:=h;exact⟨D,eP h (k.block h.lt),h1,fun f hf=>by obtain⟨x,e,hx⟩:=h2 f hf;exact⟨x,e,hx.later k⟩,h3⟩
theorem fT.mono (h:fT P K w b n L) {n':Nat} (hn:n≤n'):fT P K w b n' L:=by obtain⟨D,h,hf⟩:=h;exact⟨D,h.mono hn,hf⟩
theorem fT.few (h:fT P K w b n L):(dK L).length≤n:=by obtain⟨D,h,_,_,h3⟩:=h;rw[←h3];exact h.size_le
theorem GN {L:List au} {f:au}:(dK (L++[f])).length=if inB L f then(dK L).length else(dK L).length+1:=by
 split
 ·rename_i h;have h:=aZ.1 h;rw[vS (l:=L++[f]) (m:=L) fun g=>by
   rw[List.mem_append,List.mem_singleton];exact⟨fun h'=>h'.elim id (fun e=>by rw[e];exact h),Or.inl⟩]
 ·rename_i h;have h:f∉L:=fun h'=>h (aZ.2 h');have h1:(f::dK L).Nodup:=List.nodup_cons.2 ⟨fun h'=>h (cu.1 h'),mU (iI L)⟩;have e:∀g,g∈dK (L++[f])↔g∈f::dK L:=fun g=>by
   rw[cu,List.mem_append,List.mem_singleton,List.mem_cons,cu];exact⟨fun h=>h.symm,fun h=>h.symm⟩
  have a:=p9 (mU (iI (L++[f]))) fun g hg=>(e g).1 hg;have b:=p9 h1 fun g hg=>(e g).2 hg;simp only[List.length_cons] at a b;omega
theorem fT.store {E T:TypeId} (h:fT P K w b n L) (hk:P.underlying K=some .string) (ht:P.underlying T=some (.map K E)) (hn:n<maxLen) {f:au} {v:Value} (hv:dF w v f) (hf:(tO f).length≤maxLen):
  ∃w',(Instr.mapUpdate T (.map (some b)) (.string (bs (tO f))) v).run P w=.ok () w'∧w.grownBy w' (some b)∧((∀g∈L++[f],∀u,dF w u g→dF w' u g)→fT P K w' b (n+1) (L++[f])):=by
 obtain⟨D,hown,h1,h2,h3⟩:=h;obtain⟨x,rfl⟩:=GL hv;obtain⟨w',hrun,r1,r2⟩:=hown.update (string_keyed hk) ht hn (nG hk hf) (Ew x);have hhas:Maps.has D (.string (tO f))=inB L f:=by
  cases e:inB L f with
  |true=>exact(h1 _).2 ⟨f,aZ.1 e,rfl⟩
  |false=>
   cases e2:Maps.has D (.string (tO f)) with
   |false=>rfl
   |true=>
    obtain⟨g,hg,hgf⟩:=(h1 _).1 e2;rw[yH hgf] at hg;rw[aZ.2 hg] at e;cases e
 refine⟨w',hrun,r2,fun hkeep=>⟨_,r1,fun s=> ?_,fun g hg=> ?_,?_⟩⟩
 ·by_cases e:s=tO f
  ·subst e;rw[has_put_same hown.isMap (K4 _)];simp only[true_iff];exact⟨f,by simp,rfl⟩
  ·rw[has_put_other (qR e),h1]
   constructor
   ·rintro⟨g,hg,hs⟩;exact⟨g,by simp[hg],hs⟩
   ·rintro⟨g,hg,hs⟩;rcases List.mem_append.1 hg with hg|hg
    ·exact⟨g,hg,hs⟩
    ·simp only[List.mem_singleton] at hg;subst hg;exact absurd hs.symm e
 ·by_cases e:g=f
  ·subst e;exact⟨x,by rw[atKey_put_same hown.isMap (K4 _)],hkeep g hg _ hv⟩
  ·have hgL:g∈L:=(List.mem_append.1 hg).elim id (fun h=>absurd (List.mem_singleton.1 h) e);obtain⟨y,hy,hfy⟩:=h2 g hgL;exact⟨y,by rw[atKey_put_other (qR fun h=>e (yH h))];exact hy,hkeep g hg _ hfy⟩
 ·rw[size_put (hown.tidy (string_keyed hk)),hhas,GN,h3]
theorem fT.len {E T:TypeId} (h:fT P K w b n L) (ht:P.underlying T=some (.map K E)) (ty:TypeId):(Builtin.len_ #[T] ty #[.map (some b)]).run P w=.ok (.int .i64 ((dK L).length:Nat)) w:=by
 obtain⟨D,hown,_,_,h3⟩:=h;rw[hown.len ht,h3]
end
end Go.Proofs.YtafmbokfkbccaaaGreatDoor
