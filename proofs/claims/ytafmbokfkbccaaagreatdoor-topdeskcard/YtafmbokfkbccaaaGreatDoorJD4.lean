import Derived.Test.YtafmbokfkbccaaaGreatDoorJD2
import Derived.Test.YtafmbokfkbccaaaGreatDoorJD3
import Derived.Shelf.Strings.OnBuilder
import Derived.Shelf.Strings.BuilderK
import Derived.Shelf.Strconv.Clone
import Derived.Shelf.Strings.Cut
import Derived.Shelf.Strings.Prefix
import Derived.Test.YtafmbokfkbccaaaGreatDoorProg
import Derived.Shelf.Strconv.Itoa3
import Derived.Shelf.Slices.Turned
import Derived.Maps.OwnSet
import Derived.Maps.OwnOps
import Derived.StringKeys
import Derived.Test.YtafmbokfkbccaaaGreatDoorJD1
namespace Go.Proofs.YtafmbokfkbccaaaGreatDoor
open Go.RowKit Go.Sort
theorem named_short {s:ByteArray} (h:isNamed (raw s)=true):s.size≤12:=by
 unfold isNamed at h;simp only[Bool.and_eq_true,decide_eq_true_eq] at h;rw[length_raw] at h;exact h.1.1
theorem wrongF_right {f:FactB}:wrongF f=0↔RightF f:=by
 unfold wrongF RightF;rw[namedB_eq]
 constructor
 ·intro h;split at h
  ·simp at h
  ·rename_i h1;split at h
   ·simp at h
   ·rename_i h2;split at h
    ·simp at h
    ·rename_i h3;refine⟨by simpa using h1,by omega,fun s hs=> ?_⟩;cases e:isNamed (raw s) with
     |true=>rfl
     |false=>
      exfalso
      refine h3 ?_;unfold noName;rw[List.drop_zero,List.any_eq_true];exact⟨s,hs,by rw[namedB_eq,e];rfl⟩
 ·rintro⟨h1,h2,h3⟩;rw[if_neg (by simp[h1]),if_neg (by omega),if_neg];intro h;unfold noName at h;rw[List.drop_zero,List.any_eq_true] at h;obtain⟨s,hs,hn⟩:=h;rw[namedB_eq,h3 s hs] at hn;cases hn
end Go.Proofs.YtafmbokfkbccaaaGreatDoor
namespace Go.Proofs
open Go.Shelf
def Tryz.lays169_ren:Go.Shelf.Ren:=⟨fun|169=>231|n=>n,fun|70=>295|9=>9|0=>0|72=>297|37=>48|127=>330|3=>3|5=>5|n=>n,fun|n=>n⟩
theorem Tryz.lays169:Go.Proofs.Lays.n169 Tryz.prog Tryz.lays169_ren:={
 mixed:=by kernel_rfl
 f169:=Tryz.func231.trans (congrArg some (by kernel_rfl))
 t0:=Tryz.underlying0
 a0:=Tryz.isAgg0
 z0:=Tryz.sizeOf0
 v0:=Tryz.zeroValue0
 t3:=Tryz.underlying3
 a3:=Tryz.isAgg3
 z3:=Tryz.sizeOf3
 v3:=Tryz.zeroValue3
 t9:=Tryz.underlying9
 a9:=Tryz.isAgg9
 z9:=Tryz.sizeOf9
 v9:=Tryz.zeroValue9
 t37:=Tryz.underlying48
 a37:=Tryz.isAgg48
 z37:=Tryz.sizeOf48
 v37:=Tryz.zeroValue48
 t70:=Tryz.underlying295
 a70:=Tryz.isAgg295
 z70:=Tryz.sizeOf295
 v70:=Tryz.zeroValue295
 t72:=Tryz.underlying297
 a72:=Tryz.isAgg297
 z72:=Tryz.sizeOf297
 v72:=Tryz.zeroValue297
 t127:=Tryz.underlying330
 a127:=Tryz.isAgg330
 z127:=Tryz.sizeOf330
 v127:=Tryz.zeroValue330}
theorem Tryz.Builder_Extra_169:Builder.Extra Tryz.prog Tryz.lays169_ren:={
 sizeBuilder:=by kernel_rfl
 liesBuilder:=by kernel_rfl
 t5:=Tryz.underlying5
 a5:=Tryz.isAgg5
 z5:=Tryz.sizeOf5
 v5:=Tryz.zeroValue5
 infoByte:=by kernel_rfl
 cellsByte:=by kernel_rfl
 sizeByte:=by kernel_rfl
 neB5:=by decide}
open Go.RowKit in
theorem Tryz.Builder_String_any_k (B b:Nat) (l:List UInt8) (w:World) (h:Lib.IsBuilderF 297 5 B b (Lib.byteCells l) w) (hBw:B≤w.heap.size):
  Calls Tryz.prog 231 #[.pointer (some ⟨b,0,none⟩)] w fun e w'=>e=.returned (.string ⟨l.toArray⟩)∧(Lib.IsBuilderF 297 5 B b (Lib.byteCells l) w'∧Below B w w'∧Lib.OthersKept 5 (some b) w w'):=Any.Builder_String_any_k Tryz.lays169 Tryz.Builder_Extra_169 B b l w h hBw
def Tryz.laysM316_ren:Go.Shelf.Ren:=⟨fun|316=>342|n=>n,fun|9=>9|3=>3|4=>4|37=>48|0=>0|127=>330|5=>5|n=>n,fun|n=>n⟩
theorem Tryz.laysM316:Go.Proofs.LaysM.n316 Tryz.prog Tryz.laysM316_ren:={
 mixed:=by kernel_rfl
 f316:=Tryz.func342.trans (congrArg some (by kernel_rfl))
 t0:=Tryz.underlying0
 a0:=Tryz.isAgg0
 z0:=Tryz.sizeOf0
 v0:=Tryz.zeroValue0
 t3:=Tryz.underlying3
 a3:=Tryz.isAgg3
 z3:=Tryz.sizeOf3
 v3:=Tryz.zeroValue3
 t4:=Tryz.underlying4
 a4:=Tryz.isAgg4
 z4:=Tryz.sizeOf4
 v4:=Tryz.zeroValue4
 t9:=Tryz.underlying9
 a9:=Tryz.isAgg9
 z9:=Tryz.sizeOf9
 v9:=Tryz.zeroValue9
 t37:=Tryz.underlying48
 a37:=Tryz.isAgg48
 z37:=Tryz.sizeOf48
 v37:=Tryz.zeroValue48
 t127:=Tryz.underlying330
 a127:=Tryz.isAgg330
 z127:=Tryz.sizeOf330
 v127:=Tryz.zeroValue330
 t5:=Tryz.underlying5
 a5:=Tryz.isAgg5
 z5:=Tryz.sizeOf5
 v5:=Tryz.zeroValue5
 i0:=by kernel_rfl
 i3:=by kernel_rfl
 i4:=by kernel_rfl
 i5:=by kernel_rfl
 i9:=by kernel_rfl
 i37:=by kernel_rfl
 i127:=by kernel_rfl}
open Go.RowKit in
theorem Tryz.stringslite_Clone (s:ByteArray) (w:World) (hlim:s.size≤281474976710656):
  Calls Tryz.prog 342 #[.string s] w fun e w'=>e=.returned (.string s)∧Below w.heap.size w w':=Any.stringslite_Clone Tryz.laysM316 s w hlim
def Tryz.lays145_ren:Go.Shelf.Ren:=⟨fun|145=>299|220=>331|219=>344|217=>351|225=>352|224=>353|267=>354|266=>357|314=>358|n=>n,fun|9=>9|4=>4|59=>355|3=>3|5=>5|46=>202|146=>398|51=>343|n=>n,fun|1=>1|n=>n⟩
theorem Tryz.lays145:Go.Proofs.Lays.n145 Tryz.prog Tryz.lays145_ren:={
 mixed:=by kernel_rfl
 f145:=Tryz.func299.trans (congrArg some (by kernel_rfl))
 f217:=Tryz.func351.trans (congrArg some (by kernel_rfl))
 f219:=Tryz.func344.trans (congrArg some (by kernel_rfl))
 f220:=Tryz.func331.trans (congrArg some (by kernel_rfl))
 f224:=Tryz.func353.trans (congrArg some (by kernel_rfl))
 f225:=Tryz.func352.trans (congrArg some (by kernel_rfl))
 f266:=Tryz.func357.trans (congrArg some (by kernel_rfl))
 f267:=Tryz.func354.trans (congrArg some (by kernel_rfl))
 f314:=Tryz.func358.trans (congrArg some (by kernel_rfl))
 t3:=Tryz.underlying3
 a3:=Tryz.isAgg3
 z3:=Tryz.sizeOf3
 v3:=Tryz.zeroValue3
 t4:=Tryz.underlying4
 a4:=Tryz.isAgg4
 z4:=Tryz.sizeOf4
 v4:=Tryz.zeroValue4
 t5:=Tryz.underlying5
 a5:=Tryz.isAgg5
 z5:=Tryz.sizeOf5
 v5:=Tryz.zeroValue5
 t9:=Tryz.underlying9
 a9:=Tryz.isAgg9
 z9:=Tryz.sizeOf9
 v9:=Tryz.zeroValue9
 t46:=Tryz.underlying202
 a46:=Tryz.isAgg202
 z46:=Tryz.sizeOf202
 v46:=Tryz.zeroValue202
 t51:=Tryz.underlying343
 a51:=Tryz.isAgg343
 z51:=Tryz.sizeOf343
 v51:=Tryz.zeroValue343
 t59:=Tryz.underlying355
 a59:=Tryz.isAgg355
 z59:=Tryz.sizeOf355
 v59:=Tryz.zeroValue355
 t146:=Tryz.underlying398
 a146:=Tryz.isAgg398
 z146:=Tryz.sizeOf398
 v146:=Tryz.zeroValue398
 g1:=by kernel_rfl}
open Go.RowKit Go.Lib in
theorem Tryz.strings_Cut (s sep:ByteArray) (m:Int) (w:World) (hs:s.size<4294967281) (hm:w.cell? ⟨1,0,none⟩=some (.int .i64 m)):
  Calls Tryz.prog 299 #[.string s,.string sep] w fun e w'=>e=.returned (.tuple #[.string ⟨(Lib.cut s.data.toList sep.data.toList).1.toArray⟩,.string ⟨(Lib.cut s.data.toList sep.data.toList).2.1.toArray⟩,.bool (Lib.cut s.data.toList sep.data.toList).2.2])∧∃n,w'=w.drewN n:=Any.strings_Cut Tryz.lays145 s sep m w hs hm
def Tryz.lays99_ren:Go.Shelf.Ren:=⟨fun|99=>277|206=>322|n=>n,fun|9=>9|4=>4|3=>3|n=>n,fun|n=>n⟩
theorem Tryz.lays99:Go.Proofs.Lays.n99 Tryz.prog Tryz.lays99_ren:={
 mixed:=by kernel_rfl
 f99:=Tryz.func277.trans (congrArg some (by kernel_rfl))
 f206:=Tryz.func322.trans (congrArg some (by kernel_rfl))
 t3:=Tryz.underlying3
 a3:=Tryz.isAgg3
 z3:=Tryz.sizeOf3
 v3:=Tryz.zeroValue3
 t4:=Tryz.underlying4
 a4:=Tryz.isAgg4
 z4:=Tryz.sizeOf4
 v4:=Tryz.zeroValue4
 t9:=Tryz.underlying9
 a9:=Tryz.isAgg9
 z9:=Tryz.sizeOf9
 v9:=Tryz.zeroValue9}
open Go.RowKit Go.Lib in
theorem Tryz.strings_HasPrefix (s p:ByteArray) (w:World):
  Calls Tryz.prog 277 #[.string s,.string p] w fun e w'=>e=.returned (.bool (Lib.hasPrefix s.data.toList p.data.toList))∧w'=w:=Any.strings_HasPrefix Tryz.lays99 s p w
end Go.Proofs
namespace Go.Proofs
open Go.Shelf
def Tryz.laysM171_ren:Go.Shelf.Ren:=⟨fun|171=>229|243=>273|246=>317|283=>338|284=>339|285=>340|286=>341|129=>287|317=>347|318=>348|319=>349|320=>350|337=>355|338=>356|n=>n,fun|3=>3|9=>9|2=>2|4=>4|171=>385|0=>0|53=>345|37=>48|5=>5|173=>387|212=>395|51=>343|20=>20|213=>396|46=>202|232=>400|233=>401|n=>n,fun|17=>0|18=>2|19=>3|n=>n⟩
theorem Tryz.laysM171:Go.Proofs.LaysM.n171 Tryz.prog Tryz.laysM171_ren:={
 mixed:=by kernel_rfl
 f129:=Tryz.func287.trans (congrArg some (by kernel_rfl))
 f171:=Tryz.func229.trans (congrArg some (by kernel_rfl))
 f243:=Tryz.func273.trans (congrArg some (by kernel_rfl))
 f246:=Tryz.func317.trans (congrArg some (by kernel_rfl))
 f283:=Tryz.func338.trans (congrArg some (by kernel_rfl))
 f284:=Tryz.func339.trans (congrArg some (by kernel_rfl))
 f285:=Tryz.func340.trans (congrArg some (by kernel_rfl))
 f286:=Tryz.func341.trans (congrArg some (by kernel_rfl))
 f317:=Tryz.func347.trans (congrArg some (by kernel_rfl))
 f318:=Tryz.func348.trans (congrArg some (by kernel_rfl))
 f319:=Tryz.func349.trans (congrArg some (by kernel_rfl))
 f320:=Tryz.func350.trans (congrArg some (by kernel_rfl))
 f337:=Tryz.func355.trans (congrArg some (by kernel_rfl))
 f338:=Tryz.func356.trans (congrArg some (by kernel_rfl))
 t0:=Tryz.underlying0
 a0:=Tryz.isAgg0
 z0:=Tryz.sizeOf0
 v0:=Tryz.zeroValue0
 t2:=Tryz.underlying2
 a2:=Tryz.isAgg2
 z2:=Tryz.sizeOf2
 v2:=Tryz.zeroValue2
 t3:=Tryz.underlying3
 a3:=Tryz.isAgg3
 z3:=Tryz.sizeOf3
 v3:=Tryz.zeroValue3
 t4:=Tryz.underlying4
 a4:=Tryz.isAgg4
 z4:=Tryz.sizeOf4
 v4:=Tryz.zeroValue4
 t5:=Tryz.underlying5
 a5:=Tryz.isAgg5
 z5:=Tryz.sizeOf5
 v5:=Tryz.zeroValue5
 t9:=Tryz.underlying9
 a9:=Tryz.isAgg9
 z9:=Tryz.sizeOf9
 v9:=Tryz.zeroValue9
 t20:=Tryz.underlying20
 a20:=Tryz.isAgg20
 z20:=Tryz.sizeOf20
 v20:=Tryz.zeroValue20
 t37:=Tryz.underlying48
 a37:=Tryz.isAgg48
 z37:=Tryz.sizeOf48
 v37:=Tryz.zeroValue48
 t46:=Tryz.underlying202
 a46:=Tryz.isAgg202
 z46:=Tryz.sizeOf202
 v46:=Tryz.zeroValue202
 t51:=Tryz.underlying343
 a51:=Tryz.isAgg343
 z51:=Tryz.sizeOf343
 v51:=Tryz.zeroValue343
 t53:=Tryz.underlying345
 a53:=Tryz.isAgg345
 z53:=Tryz.sizeOf345
 v53:=Tryz.zeroValue345
 t171:=Tryz.underlying385
 a171:=Tryz.isAgg385
 z171:=Tryz.sizeOf385
 v171:=Tryz.zeroValue385
 t173:=Tryz.underlying387
 a173:=Tryz.isAgg387
 z173:=Tryz.sizeOf387
 v173:=Tryz.zeroValue387
 t212:=Tryz.underlying395
 a212:=Tryz.isAgg395
 z212:=Tryz.sizeOf395
 v212:=Tryz.zeroValue395
 t213:=Tryz.underlying396
 a213:=Tryz.isAgg396
 z213:=Tryz.sizeOf396
 t232:=Tryz.underlying400
 a232:=Tryz.isAgg400
 z232:=Tryz.sizeOf400
 v232:=Tryz.zeroValue400
 t233:=Tryz.underlying401
 a233:=Tryz.isAgg401
 z233:=Tryz.sizeOf401
 v233:=Tryz.zeroValue401
 g17:=by kernel_rfl
 g18:=by kernel_rfl
 g19:=by kernel_rfl
 i0:=by kernel_rfl
 i2:=by kernel_rfl
 i3:=by kernel_rfl
 i4:=by kernel_rfl
 i5:=by kernel_rfl
 i9:=by kernel_rfl
 i20:=by kernel_rfl
 i37:=by kernel_rfl
 i46:=by kernel_rfl
 i51:=by kernel_rfl
 i53:=by kernel_rfl
 i171:=by kernel_rfl
 i173:=by kernel_rfl
 i212:=by kernel_rfl
 i232:=by kernel_rfl
 i233:=by kernel_rfl
 m17:=by kernel_rfl
 m18:=by kernel_rfl
 m19:=by kernel_rfl}
open Go.RowKit Go.Sort Go.Lib in
theorem Tryz.strconv_Itoa (n:Int) (h0: -9223372036854775808≤n) (h1:n≤9223372036854775807) (w:World) (htab:Lib.TabIs Tryz.prog w "internal/strconv.uint64pow10" .u64 Lib.pow10Tab):
  Calls Tryz.prog 229 #[.int .i64 n] w fun e w'=>e=.returned (.string ⟨(Lib.itoa n).toArray⟩)∧∃k os,w'=grow (w.drewN k) os:=Any.strconv_Itoa Tryz.laysM171 n h0 h1 w htab
def Tryz.lays171_ren:Go.Shelf.Ren:=⟨fun|171=>229|243=>273|246=>317|283=>338|284=>339|285=>340|286=>341|129=>287|317=>347|318=>348|319=>349|320=>350|337=>355|338=>356|n=>n,fun|3=>3|9=>9|2=>2|4=>4|171=>385|0=>0|53=>345|37=>48|5=>5|173=>387|212=>395|51=>343|20=>20|213=>396|46=>202|232=>400|233=>401|n=>n,fun|17=>0|18=>2|19=>3|n=>n⟩
theorem Tryz.lays171:Go.Proofs.Lays.n171 Tryz.prog Tryz.lays171_ren:={
 mixed:=by kernel_rfl
 f129:=Tryz.func287.trans (congrArg some (by kernel_rfl))
 f171:=Tryz.func229.trans (congrArg some (by kernel_rfl))
 f243:=Tryz.func273.trans (congrArg some (by kernel_rfl))
 f246:=Tryz.func317.trans (congrArg some (by kernel_rfl))
 f283:=Tryz.func338.trans (congrArg some (by kernel_rfl))
 f284:=Tryz.func339.trans (congrArg some (by kernel_rfl))
 f285:=Tryz.func340.trans (congrArg some (by kernel_rfl))
 f286:=Tryz.func341.trans (congrArg some (by kernel_rfl))
 f317:=Tryz.func347.trans (congrArg some (by kernel_rfl))
 f318:=Tryz.func348.trans (congrArg some (by kernel_rfl))
 f319:=Tryz.func349.trans (congrArg some (by kernel_rfl))
 f320:=Tryz.func350.trans (congrArg some (by kernel_rfl))
 f337:=Tryz.func355.trans (congrArg some (by kernel_rfl))
 f338:=Tryz.func356.trans (congrArg some (by kernel_rfl))
 t0:=Tryz.underlying0
 a0:=Tryz.isAgg0
 z0:=Tryz.sizeOf0
 v0:=Tryz.zeroValue0
 t2:=Tryz.underlying2
 a2:=Tryz.isAgg2
 z2:=Tryz.sizeOf2
 v2:=Tryz.zeroValue2
 t3:=Tryz.underlying3
 a3:=Tryz.isAgg3
 z3:=Tryz.sizeOf3
 v3:=Tryz.zeroValue3
 t4:=Tryz.underlying4
 a4:=Tryz.isAgg4
 z4:=Tryz.sizeOf4
 v4:=Tryz.zeroValue4
 t5:=Tryz.underlying5
 a5:=Tryz.isAgg5
 z5:=Tryz.sizeOf5
 v5:=Tryz.zeroValue5
 t9:=Tryz.underlying9
 a9:=Tryz.isAgg9
 z9:=Tryz.sizeOf9
 v9:=Tryz.zeroValue9
 t20:=Tryz.underlying20
 a20:=Tryz.isAgg20
 z20:=Tryz.sizeOf20
 v20:=Tryz.zeroValue20
 t37:=Tryz.underlying48
 a37:=Tryz.isAgg48
 z37:=Tryz.sizeOf48
 v37:=Tryz.zeroValue48
 t46:=Tryz.underlying202
 a46:=Tryz.isAgg202
 z46:=Tryz.sizeOf202
 v46:=Tryz.zeroValue202
 t51:=Tryz.underlying343
 a51:=Tryz.isAgg343
 z51:=Tryz.sizeOf343
 v51:=Tryz.zeroValue343
 t53:=Tryz.underlying345
 a53:=Tryz.isAgg345
 z53:=Tryz.sizeOf345
 v53:=Tryz.zeroValue345
 t171:=Tryz.underlying385
 a171:=Tryz.isAgg385
 z171:=Tryz.sizeOf385
 v171:=Tryz.zeroValue385
 t173:=Tryz.underlying387
 a173:=Tryz.isAgg387
 z173:=Tryz.sizeOf387
 v173:=Tryz.zeroValue387
 t212:=Tryz.underlying395
 a212:=Tryz.isAgg395
 z212:=Tryz.sizeOf395
 v212:=Tryz.zeroValue395
 t213:=Tryz.underlying396
 a213:=Tryz.isAgg396
 z213:=Tryz.sizeOf396
 t232:=Tryz.underlying400
 a232:=Tryz.isAgg400
 z232:=Tryz.sizeOf400
 v232:=Tryz.zeroValue400
 t233:=Tryz.underlying401
 a233:=Tryz.isAgg401
 z233:=Tryz.sizeOf401
 v233:=Tryz.zeroValue401
 g17:=by kernel_rfl
 g18:=by kernel_rfl
 g19:=by kernel_rfl}
open Go.RowKit Go.Sort Go.Lib in
theorem Tryz.strconv_Itoa_small (i:Nat) (hi:i<100) (w:World):
  Calls Tryz.prog 229 #[.int .i64 i] w fun e w'=>e=.returned (.string ⟨(Lib.decDigits i).toArray⟩)∧w'=w:=Any.strconv_Itoa_small Tryz.lays171 i hi w
def Tryz.lays113_ren:Go.Shelf.Ren:=⟨fun|113=>124|n=>n,fun|28=>39|3=>3|4=>4|9=>9|20=>20|0=>0|n=>n,fun|n=>n⟩
theorem Tryz.lays113:Go.Proofs.Lays.n113 Tryz.prog Tryz.lays113_ren:={
 mixed:=by kernel_rfl
 f113:=Tryz.func124.trans (congrArg some (by kernel_rfl))
 t0:=Tryz.underlying0
 a0:=Tryz.isAgg0
 z0:=Tryz.sizeOf0
 v0:=Tryz.zeroValue0
 t3:=Tryz.underlying3
 a3:=Tryz.isAgg3
 z3:=Tryz.sizeOf3
 v3:=Tryz.zeroValue3
 t4:=Tryz.underlying4
 a4:=Tryz.isAgg4
 z4:=Tryz.sizeOf4
 v4:=Tryz.zeroValue4
 t9:=Tryz.underlying9
 a9:=Tryz.isAgg9
 z9:=Tryz.sizeOf9
 v9:=Tryz.zeroValue9
 t20:=Tryz.underlying20
 a20:=Tryz.isAgg20
 z20:=Tryz.sizeOf20
 v20:=Tryz.zeroValue20
 t28:=Tryz.underlying39
 a28:=Tryz.isAgg39
 z28:=Tryz.sizeOf39
 v28:=Tryz.zeroValue39}
open Go.Lib in
theorem Tryz.slices_Max_int (b off n c:Nat) (zs:List Int) (w:World) (hn:0<n) (hz:n≤zs.length) (hbig:n≤9223372036854775807) (hc:∀j,j<zs.length→w.cell? ⟨b,off+j,none⟩=some (.int .i64 (zs.getD j 0))):
  Calls Tryz.prog 124 #[.slice (some ⟨b,off,none⟩) n c] w fun e w'=>e=.returned (.int .i64 (Lib.maxOf (zs.take n)))∧w'=w:=Any.slices_Max_int Tryz.lays113 b off n c zs w hn hz hbig hc
end Go.Proofs
namespace Go.Proofs.YtafmbokfkbccaaaGreatDoor
open Go.RowKit Go.Sort Go.Maps
theorem owns_block {H:Type} {P:Program} {k:TypeId} {R:Value→Option (DataW H×List MemPlace)} {w w':World} {b n:Nat} {D:DataW H} (h:w.ownsMap P k R b n D) (e:w'.heap[b]?=w.heap[b]?):w'.ownsMap P k R b n D:=by
 obtain⟨es,clock,hb,F,hs,hD⟩:=h;exact⟨es,clock,e.trans hb,F,hs,hD⟩
theorem key_mk {P:Program} {K:TypeId} (hk:P.underlying K=some .string) {s:Bs} (hs:s.length≤maxLen):keyOf P K (.string (bs s))=some (.string s):=by
 have:=WideMaps.keyOf_string_mk (P:=P) (k:=K) hk (s:=bs s) (by rw[size_bs];exact hs);rw[this];rfl
theorem keyS (s:Bs):WideAt.IsKeyLit (.string s):=trivial
theorem str_ne {s t:Bs} (h:t≠s):Lit.string t≠Lit.string s:=fun e=>h (by injection e)
def SetM (P:Program) (K:TypeId) (w:World) (b n:Nat) (f:Bs→Bool):Prop:=∃D:DataW Unit,w.ownsMap P K unitElem b n D∧∀s,Maps.has D (.string s)=f s
theorem SetM.made (P:Program) (K:TypeId) (w:World):SetM P K (w.alloc (.map #[] 0)) w.heap.size 0 (fun _=>false):=⟨.map [],World.ownsMap_made _ _ _ _,fun _=>rfl⟩
section
variable {P:Program} {K:TypeId} {w w':World} {b n:Nat} {f:Bs→Bool}
theorem SetM.lt (h:SetM P K w b n f):b<w.heap.size:=by obtain⟨D,h,_⟩:=h;exact h.lt
theorem SetM.block (h:SetM P K w b n f) (e:w'.heap[b]?=w.heap[b]?):SetM P K w' b n f:=by obtain⟨D,h,hf⟩:=h;exact⟨D,owns_block h e,hf⟩
theorem SetM.later (h:SetM P K w b n f) (k:Later w w'):SetM P K w' b n f:=h.block (k.block h.lt)
theorem SetM.below (h:SetM P K w b n f) (k:Below w.heap.size w w'):SetM P K w' b n f:=h.block (k.block b h.lt)
theorem SetM.grown {row:Option Nat} (h:SetM P K w b n f) (k:w.grownBy w' row) (hne:some b≠row):SetM P K w' b n f:=h.block (k.block b h.lt hne)
theorem SetM.mono (h:SetM P K w b n f) {n':Nat} (hn:n≤n'):SetM P K w b n' f:=by obtain⟨D,h,hf⟩:=h;exact⟨D,h.mono hn,hf⟩
theorem SetM.congr {g:Bs→Bool} (h:SetM P K w b n f) (e:∀s,f s=g s):SetM P K w b n g:=by obtain⟨D,h,hf⟩:=h;exact⟨D,h,fun s=>(hf s).trans (e s)⟩
end
def NumM (P:Program) (K E:TypeId) (w:World) (b n:Nat) (m:Nums):Prop:=∃D:DataW Unit,w.ownsMap P K (plainElem P E) b n D∧∀s,Maps.has D (.string s)=(m s).isSome∧D.atKey (.string s) (.lit (.int .i64 0))=.lit (.int .i64 (numOf m s))
theorem NumM.made (P:Program) (K E:TypeId) (w:World):NumM P K E (w.alloc (.map #[] 0)) w.heap.size 0 (fun _=>none):=⟨.map [],World.ownsMap_made _ _ _ _,fun _=>⟨rfl,rfl⟩⟩
section
variable {P:Program} {K E:TypeId} {w w':World} {b n:Nat} {m:Nums}
theorem NumM.lt (h:NumM P K E w b n m):b<w.heap.size:=by obtain⟨D,h,_⟩:=h;exact h.lt
theorem NumM.block (h:NumM P K E w b n m) (e:w'.heap[b]?=w.heap[b]?):NumM P K E w' b n m:=by obtain⟨D,h,hf⟩:=h;exact⟨D,owns_block h e,hf⟩
theorem NumM.later (h:NumM P K E w b n m) (k:Later w w'):NumM P K E w' b n m:=h.block (k.block h.lt)
theorem NumM.below (h:NumM P K E w b n m) (k:Below w.heap.size w w'):NumM P K E w' b n m:=h.block (k.block b h.lt)
theorem NumM.grown {row:Option Nat} (h:NumM P K E w b n m) (k:w.grownBy w' row) (hne:some b≠row):NumM P K E w' b n m:=h.block (k.block b h.lt hne)
theorem NumM.mono (h:NumM P K E w b n m) {n':Nat} (hn:n≤n'):NumM P K E w b n' m:=by obtain⟨D,h,hf⟩:=h;exact⟨D,h.mono hn,hf⟩
end
section
variable {P:Program} {K E T:TypeId} {w:World} {b n:Nat}
theorem SetM.has {f:Bs→Bool} (h:SetM P K w b n f) (hk:P.underlying K=some .string) (ht:P.underlying T=some (.map K E)) (hz:(zeroValue E).run P w=.ok (.agg #[]) w) {s:Bs} (hs:s.length≤maxLen):
  (Instr.lookup T (.map (some b)) (.string (bs s)) true).run P w=.ok (.tuple #[.agg #[],.bool (f s)]) w:=by
 obtain⟨D,hown,hf⟩:=h;obtain⟨v,ps,hrun,hv⟩:=hown.look_ok (string_keyed hk) ht hz (zd:=.agg []) (zp:=[]) unitElem_mk (key_mk hk hs);obtain⟨rfl,_⟩:=unitElem_inv hv;rw[hrun,hf]
theorem SetM.add {f:Bs→Bool} (h:SetM P K w b n f) (hk:P.underlying K=some .string) (ht:P.underlying T=some (.map K E)) (hn:n<maxLen) {s:Bs} (hs:s.length≤maxLen):
  ∃w',(Instr.mapUpdate T (.map (some b)) (.string (bs s)) (.agg #[])).run P w=.ok () w'∧SetM P K w' b (n+1) (fun t=>f t||decide (t=s))∧w.grownBy w' (some b):=by
 obtain⟨D,hown,hf⟩:=h;obtain⟨w',hrun,r1,r2⟩:=hown.update (string_keyed hk) ht hn (key_mk hk hs) (d:=.agg []) (ps:=[]) unitElem_mk;refine⟨w',hrun,⟨_,r1,fun t=> ?_⟩,r2⟩
 by_cases e:t=s
 ·subst e;rw[has_put_same hown.isMap (keyS _)];simp
 ·rw[has_put_other (str_ne e),hf];simp[e]
theorem NumM.look {m:Nums} (h:NumM P K E w b n m) (hk:P.underlying K=some .string) (he:P.underlying E=some (.int .i64)) (ht:P.underlying T=some (.map K E)) (hz:(zeroValue E).run P w=.ok (.int .i64 0) w) {s:Bs} (hs:s.length≤maxLen):
  (Instr.lookup T (.map (some b)) (.string (bs s)) false).run P w=.ok (.int .i64 (numOf m s)) w:=by
 obtain⟨D,hown,hf⟩:=h;obtain⟨c,hrun,hat,_⟩:=hown.lookup_int (string_keyed hk) ht he hz (key_mk hk hs);rw[(hf s).2] at hat
 injection hat with hat
 injection hat with _ hat
 rw[hrun,hat]
theorem NumM.lookOk {m:Nums} (h:NumM P K E w b n m) (hk:P.underlying K=some .string) (he:P.underlying E=some (.int .i64)) (ht:P.underlying T=some (.map K E)) (hz:(zeroValue E).run P w=.ok (.int .i64 0) w) {s:Bs} (hs:s.length≤maxLen):
  (Instr.lookup T (.map (some b)) (.string (bs s)) true).run P w=.ok (.tuple #[.int .i64 (numOf m s),.bool (m s).isSome]) w:=by
 obtain⟨D,hown,hf⟩:=h;obtain⟨v,ps,hrun,hv⟩:=hown.look_ok (string_keyed hk) ht hz (plainElem_int he (by decide)) (key_mk hk hs);rw[(hf s).2] at hv;obtain⟨c,rfl,hc,_⟩:=plainElem_int_inv he hv;simp only[Prod.mk.injEq] at hc;have hc:=hc.1
 injection hc with hc
 injection hc with _ hc
 rw[hrun,(hf s).1,←hc]
theorem NumM.store {m:Nums} (h:NumM P K E w b n m) (hk:P.underlying K=some .string) (he:P.underlying E=some (.int .i64)) (ht:P.underlying T=some (.map K E)) (hn:n<maxLen) {s:Bs} (hs:s.length≤maxLen) {x:Nat} (hx:(Lit.int .i64 (x:Int)).wf=true):
  ∃w',(Instr.mapUpdate T (.map (some b)) (.string (bs s)) (.int .i64 (x:Int))).run P w=.ok () w'∧NumM P K E w' b (n+1) (m.put s x)∧w.grownBy w' (some b):=by
 obtain⟨D,hown,hf⟩:=h;obtain⟨w',hrun,r1,r2⟩:=hown.update (string_keyed hk) ht hn (key_mk hk hs) (plainElem_int he hx);refine⟨w',hrun,⟨_,r1,fun t=> ?_⟩,r2⟩
 by_cases e:t=s
 ·subst e;refine⟨by rw[has_put_same hown.isMap (keyS _)];simp[Nums.put],?_⟩;rw[atKey_put_same hown.isMap (keyS _),numOf_put,if_pos rfl]
 ·refine⟨by rw[has_put_other (str_ne e),(hf t).1];simp[Nums.put,e],?_⟩;rw[atKey_put_other (str_ne e),(hf t).2,numOf_put,if_neg e]
end
section
variable {P:Program} (w:World) {ops:Array Oper} {rest:List Oper} {o:Oper} {a:Act} {Q:Exit→Act→World→Prop}
theorem wpList_run_lookup (hg:o.guard=none) (m x:Operand) (t:TypeId) (c:Bool) (hop:o.op=Op.lookup t m x c) (vm vx v:Value) (hm:a.eval m=vm) (hx:a.eval x=vx) (hrun:(Instr.lookup t vm vx c).run P w=.ok v w)
  (hK:wpList P ops Q rest (a.put o.dst v) w):wpList P ops Q (o::rest) a w:=by
 refine wpList_plain hg fun K' hK'=> ?_;unfold Oper.wp;simp[execOp,hop,hm,hx,hrun,Result.andThen];exact hK' _ _ hK
theorem wpList_run_update (hg:o.guard=none) (m x v:Operand) (t:TypeId) (hop:o.op=Op.mapUpdate t m x v) (vm vx vv:Value) (w':World) (hm:a.eval m=vm) (hx:a.eval x=vx) (hv:a.eval v=vv) (hrun:(Instr.mapUpdate t vm vx vv).run P w=.ok () w')
  (hK:wpList P ops Q rest (a.put o.dst undef) w'):wpList P ops Q (o::rest) a w:=by
 refine wpList_plain hg fun K' hK'=> ?_;unfold Oper.wp;simp[execOp,hop,hm,hx,hv,hrun,Result.andThen];exact hK' _ _ hK
end
end Go.Proofs.YtafmbokfkbccaaaGreatDoor
