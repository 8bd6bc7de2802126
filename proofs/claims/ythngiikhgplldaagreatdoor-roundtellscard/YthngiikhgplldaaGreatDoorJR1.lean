import Derived.Shelf.Strings.OnBuilder
import Derived.Shelf.Strings.BuilderK
import Derived.Shelf.Strconv.Clone
import Derived.Shelf.Strings.Cut
import Derived.Shelf.Strings.Prefix
import Derived.Test.YthngiikhgplldaaGreatDoorProg
import Derived.Shelf.Strconv.Itoa3
import Derived.Shelf.Slices.Turned
import Derived.WalkKit
import Derived.Lib.Strings
open Go.RowKit
set_option maxRecDepth 100000
section
namespace Go.Proofs
open Go.Shelf
def Tryz.lays169_ren:Go.Shelf.Ren:=⟨fun|169=>157|n=>n,fun|70=>191|9=>9|0=>0|72=>193|37=>137|127=>214|3=>3|5=>5|n=>n,fun|n=>n⟩
theorem Tryz.lays169:Go.Proofs.Lays.n169 Tryz.prog Tryz.lays169_ren:={
 mixed:=by kernel_rfl
 f169:=Tryz.func157.trans (congrArg some (by kernel_rfl))
 t0:=Tryz.underlying0
 a0:=Tryz.isAgg0
 z0:=Tryz.sizeOf0
 v0:=Tryz.zeroValue0
 t3:=Tryz.underlying3
 a3:=Tryz.isAgg3
 z3:=Tryz.sizeOf3
 v3:=Tryz.zeroValue3
 t9:=Tryz.underlying9
 a9:=Tryz.isAgg9
 z9:=Tryz.sizeOf9
 v9:=Tryz.zeroValue9
 t37:=Tryz.underlying137
 a37:=Tryz.isAgg137
 z37:=Tryz.sizeOf137
 v37:=Tryz.zeroValue137
 t70:=Tryz.underlying191
 a70:=Tryz.isAgg191
 z70:=Tryz.sizeOf191
 v70:=Tryz.zeroValue191
 t72:=Tryz.underlying193
 a72:=Tryz.isAgg193
 z72:=Tryz.sizeOf193
 v72:=Tryz.zeroValue193
 t127:=Tryz.underlying214
 a127:=Tryz.isAgg214
 z127:=Tryz.sizeOf214
 v127:=Tryz.zeroValue214}
theorem Tryz.Builder_Extra_169:Builder.Extra Tryz.prog Tryz.lays169_ren:={
 sizeBuilder:=by kernel_rfl
 liesBuilder:=by kernel_rfl
 t5:=Tryz.underlying5
 a5:=Tryz.isAgg5
 z5:=Tryz.sizeOf5
 v5:=Tryz.zeroValue5
 infoByte:=by kernel_rfl
 cellsByte:=by kernel_rfl
 sizeByte:=by kernel_rfl
 neB5:=by decide}
open Go.RowKit in
theorem Tryz.Builder_String_any_k (B b:Nat) (l:List UInt8) (w:World) (h:Lib.IsBuilderF 193 5 B b (Lib.byteCells l) w) (hBw:B≤w.heap.size):
  Calls Tryz.prog 157 #[.pointer (some ⟨b,0,none⟩)] w fun e w'=>e=.returned (.string ⟨l.toArray⟩)∧(Lib.IsBuilderF 193 5 B b (Lib.byteCells l) w'∧Below B w w'∧Lib.OthersKept 5 (some b) w w'):=Any.Builder_String_any_k Tryz.lays169 Tryz.Builder_Extra_169 B b l w h hBw
end Go.Proofs
end
section
namespace Go.Proofs
open Go.Shelf
def Tryz.laysM171_ren:Go.Shelf.Ren:=⟨fun|171=>155|243=>171|246=>192|283=>200|284=>201|285=>202|286=>203|129=>148|317=>206|318=>207|319=>208|320=>209|337=>210|338=>211|n=>n,fun|3=>3|9=>9|2=>2|4=>4|171=>237|0=>0|53=>185|37=>137|5=>5|173=>239|212=>245|51=>183|20=>20|213=>246|46=>136|232=>247|233=>248|n=>n,fun|17=>0|18=>1|19=>2|n=>n⟩
theorem Tryz.laysM171:Go.Proofs.LaysM.n171 Tryz.prog Tryz.laysM171_ren:={
 mixed:=by kernel_rfl
 f129:=Tryz.func148.trans (congrArg some (by kernel_rfl))
 f171:=Tryz.func155.trans (congrArg some (by kernel_rfl))
 f243:=Tryz.func171.trans (congrArg some (by kernel_rfl))
 f246:=Tryz.func192.trans (congrArg some (by kernel_rfl))
 f283:=Tryz.func200.trans (congrArg some (by kernel_rfl))
 f284:=Tryz.func201.trans (congrArg some (by kernel_rfl))
 f285:=Tryz.func202.trans (congrArg some (by kernel_rfl))
 f286:=Tryz.func203.trans (congrArg some (by kernel_rfl))
 f317:=Tryz.func206.trans (congrArg some (by kernel_rfl))
 f318:=Tryz.func207.trans (congrArg some (by kernel_rfl))
 f319:=Tryz.func208.trans (congrArg some (by kernel_rfl))
 f320:=Tryz.func209.trans (congrArg some (by kernel_rfl))
 f337:=Tryz.func210.trans (congrArg some (by kernel_rfl))
 f338:=Tryz.func211.trans (congrArg some (by kernel_rfl))
 t0:=Tryz.underlying0
 a0:=Tryz.isAgg0
 z0:=Tryz.sizeOf0
 v0:=Tryz.zeroValue0
 t2:=Tryz.underlying2
 a2:=Tryz.isAgg2
 z2:=Tryz.sizeOf2
 v2:=Tryz.zeroValue2
 t3:=Tryz.underlying3
 a3:=Tryz.isAgg3
 z3:=Tryz.sizeOf3
 v3:=Tryz.zeroValue3
 t4:=Tryz.underlying4
 a4:=Tryz.isAgg4
 z4:=Tryz.sizeOf4
 v4:=Tryz.zeroValue4
 t5:=Tryz.underlying5
 a5:=Tryz.isAgg5
 z5:=Tryz.sizeOf5
 v5:=Tryz.zeroValue5
 t9:=Tryz.underlying9
 a9:=Tryz.isAgg9
 z9:=Tryz.sizeOf9
 v9:=Tryz.zeroValue9
 t20:=Tryz.underlying20
 a20:=Tryz.isAgg20
 z20:=Tryz.sizeOf20
 v20:=Tryz.zeroValue20
 t37:=Tryz.underlying137
 a37:=Tryz.isAgg137
 z37:=Tryz.sizeOf137
 v37:=Tryz.zeroValue137
 t46:=Tryz.underlying136
 a46:=Tryz.isAgg136
 z46:=Tryz.sizeOf136
 v46:=Tryz.zeroValue136
 t51:=Tryz.underlying183
 a51:=Tryz.isAgg183
 z51:=Tryz.sizeOf183
 v51:=Tryz.zeroValue183
 t53:=Tryz.underlying185
 a53:=Tryz.isAgg185
 z53:=Tryz.sizeOf185
 v53:=Tryz.zeroValue185
 t171:=Tryz.underlying237
 a171:=Tryz.isAgg237
 z171:=Tryz.sizeOf237
 v171:=Tryz.zeroValue237
 t173:=Tryz.underlying239
 a173:=Tryz.isAgg239
 z173:=Tryz.sizeOf239
 v173:=Tryz.zeroValue239
 t212:=Tryz.underlying245
 a212:=Tryz.isAgg245
 z212:=Tryz.sizeOf245
 v212:=Tryz.zeroValue245
 t213:=Tryz.underlying246
 a213:=Tryz.isAgg246
 z213:=Tryz.sizeOf246
 t232:=Tryz.underlying247
 a232:=Tryz.isAgg247
 z232:=Tryz.sizeOf247
 v232:=Tryz.zeroValue247
 t233:=Tryz.underlying248
 a233:=Tryz.isAgg248
 z233:=Tryz.sizeOf248
 v233:=Tryz.zeroValue248
 g17:=by kernel_rfl
 g18:=by kernel_rfl
 g19:=by kernel_rfl
 i0:=by kernel_rfl
 i2:=by kernel_rfl
 i3:=by kernel_rfl
 i4:=by kernel_rfl
 i5:=by kernel_rfl
 i9:=by kernel_rfl
 i20:=by kernel_rfl
 i37:=by kernel_rfl
 i46:=by kernel_rfl
 i51:=by kernel_rfl
 i53:=by kernel_rfl
 i171:=by kernel_rfl
 i173:=by kernel_rfl
 i212:=by kernel_rfl
 i232:=by kernel_rfl
 i233:=by kernel_rfl
 m17:=by kernel_rfl
 m18:=by kernel_rfl
 m19:=by kernel_rfl}
open Go.RowKit Go.Sort Go.Lib in
theorem Tryz.strconv_Itoa (n:Int) (h0: -9223372036854775808≤n) (h1:n≤9223372036854775807) (w:World) (htab:Lib.TabIs Tryz.prog w "internal/strconv.uint64pow10" .u64 Lib.pow10Tab):
  Calls Tryz.prog 155 #[.int .i64 n] w fun e w'=>e=.returned (.string ⟨(Lib.itoa n).toArray⟩)∧∃k os,w'=grow (w.drewN k) os:=Any.strconv_Itoa Tryz.laysM171 n h0 h1 w htab
def Tryz.lays171_ren:Go.Shelf.Ren:=⟨fun|171=>155|243=>171|246=>192|283=>200|284=>201|285=>202|286=>203|129=>148|317=>206|318=>207|319=>208|320=>209|337=>210|338=>211|n=>n,fun|3=>3|9=>9|2=>2|4=>4|171=>237|0=>0|53=>185|37=>137|5=>5|173=>239|212=>245|51=>183|20=>20|213=>246|46=>136|232=>247|233=>248|n=>n,fun|17=>0|18=>1|19=>2|n=>n⟩
theorem Tryz.lays171:Go.Proofs.Lays.n171 Tryz.prog Tryz.lays171_ren:={
 mixed:=by kernel_rfl
 f129:=Tryz.func148.trans (congrArg some (by kernel_rfl))
 f171:=Tryz.func155.trans (congrArg some (by kernel_rfl))
 f243:=Tryz.func171.trans (congrArg some (by kernel_rfl))
 f246:=Tryz.func192.trans (congrArg some (by kernel_rfl))
 f283:=Tryz.func200.trans (congrArg some (by kernel_rfl))
 f284:=Tryz.func201.trans (congrArg some (by kernel_rfl))
 f285:=Tryz.func202.trans (congrArg some (by kernel_rfl))
 f286:=Tryz.func203.trans (congrArg some (by kernel_rfl))
 f317:=Tryz.func206.trans (congrArg some (by kernel_rfl))
 f318:=Tryz.func207.trans (congrArg some (by kernel_rfl))
 f319:=Tryz.func208.trans (congrArg some (by kernel_rfl))
 f320:=Tryz.func209.trans (congrArg some (by kernel_rfl))
 f337:=Tryz.func210.trans (congrArg some (by kernel_rfl))
 f338:=Tryz.func211.trans (congrArg some (by kernel_rfl))
 t0:=Tryz.underlying0
 a0:=Tryz.isAgg0
 z0:=Tryz.sizeOf0
 v0:=Tryz.zeroValue0
 t2:=Tryz.underlying2
 a2:=Tryz.isAgg2
 z2:=Tryz.sizeOf2
 v2:=Tryz.zeroValue2
 t3:=Tryz.underlying3
 a3:=Tryz.isAgg3
 z3:=Tryz.sizeOf3
 v3:=Tryz.zeroValue3
 t4:=Tryz.underlying4
 a4:=Tryz.isAgg4
 z4:=Tryz.sizeOf4
 v4:=Tryz.zeroValue4
 t5:=Tryz.underlying5
 a5:=Tryz.isAgg5
 z5:=Tryz.sizeOf5
 v5:=Tryz.zeroValue5
 t9:=Tryz.underlying9
 a9:=Tryz.isAgg9
 z9:=Tryz.sizeOf9
 v9:=Tryz.zeroValue9
 t20:=Tryz.underlying20
 a20:=Tryz.isAgg20
 z20:=Tryz.sizeOf20
 v20:=Tryz.zeroValue20
 t37:=Tryz.underlying137
 a37:=Tryz.isAgg137
 z37:=Tryz.sizeOf137
 v37:=Tryz.zeroValue137
 t46:=Tryz.underlying136
 a46:=Tryz.isAgg136
 z46:=Tryz.sizeOf136
 v46:=Tryz.zeroValue136
 t51:=Tryz.underlying183
 a51:=Tryz.isAgg183
 z51:=Tryz.sizeOf183
 v51:=Tryz.zeroValue183
 t53:=Tryz.underlying185
 a53:=Tryz.isAgg185
 z53:=Tryz.sizeOf185
 v53:=Tryz.zeroValue185
 t171:=Tryz.underlying237
 a171:=Tryz.isAgg237
 z171:=Tryz.sizeOf237
 v171:=Tryz.zeroValue237
 t173:=Tryz.underlying239
 a173:=Tryz.isAgg239
 z173:=Tryz.sizeOf239
 v173:=Tryz.zeroValue239
 t212:=Tryz.underlying245
 a212:=Tryz.isAgg245
 z212:=Tryz.sizeOf245
 v212:=Tryz.zeroValue245
 t213:=Tryz.underlying246
 a213:=Tryz.isAgg246
 z213:=Tryz.sizeOf246
 t232:=Tryz.underlying247
 a232:=Tryz.isAgg247
 z232:=Tryz.sizeOf247
 v232:=Tryz.zeroValue247
 t233:=Tryz.underlying248
 a233:=Tryz.isAgg248
 z233:=Tryz.sizeOf248
 v233:=Tryz.zeroValue248
 g17:=by kernel_rfl
 g18:=by kernel_rfl
 g19:=by kernel_rfl}
open Go.RowKit Go.Sort Go.Lib in
theorem Tryz.strconv_Itoa_small (i:Nat) (hi:i<100) (w:World):
  Calls Tryz.prog 155 #[.int .i64 i] w fun e w'=>e=.returned (.string ⟨(Lib.decDigits i).toArray⟩)∧w'=w:=Any.strconv_Itoa_small Tryz.lays171 i hi w
def Tryz.lays113_ren:Go.Shelf.Ren:=⟨fun|113=>34|n=>n,fun|28=>35|3=>3|4=>4|9=>9|20=>20|0=>0|n=>n,fun|n=>n⟩
theorem Tryz.lays113:Go.Proofs.Lays.n113 Tryz.prog Tryz.lays113_ren:={
 mixed:=by kernel_rfl
 f113:=Tryz.func34.trans (congrArg some (by kernel_rfl))
 t0:=Tryz.underlying0
 a0:=Tryz.isAgg0
 z0:=Tryz.sizeOf0
 v0:=Tryz.zeroValue0
 t3:=Tryz.underlying3
 a3:=Tryz.isAgg3
 z3:=Tryz.sizeOf3
 v3:=Tryz.zeroValue3
 t4:=Tryz.underlying4
 a4:=Tryz.isAgg4
 z4:=Tryz.sizeOf4
 v4:=Tryz.zeroValue4
 t9:=Tryz.underlying9
 a9:=Tryz.isAgg9
 z9:=Tryz.sizeOf9
 v9:=Tryz.zeroValue9
 t20:=Tryz.underlying20
 a20:=Tryz.isAgg20
 z20:=Tryz.sizeOf20
 v20:=Tryz.zeroValue20
 t28:=Tryz.underlying35
 a28:=Tryz.isAgg35
 z28:=Tryz.sizeOf35
 v28:=Tryz.zeroValue35}
open Go.Lib in
theorem Tryz.slices_Max_int (b off n c:Nat) (zs:List Int) (w:World) (hn:0<n) (hz:n≤zs.length) (hbig:n≤9223372036854775807) (hc:∀j,j<zs.length→w.cell? ⟨b,off+j,none⟩=some (.int .i64 (zs.getD j 0))):
  Calls Tryz.prog 34 #[.slice (some ⟨b,off,none⟩) n c] w fun e w'=>e=.returned (.int .i64 (Lib.maxOf (zs.take n)))∧w'=w:=Any.slices_Max_int Tryz.lays113 b off n c zs w hn hz hbig hc
end Go.Proofs
end
namespace Go.Proofs.YthngiikhgplldaaGreatDoor
structure Three {α:Type} (c:α→α→Int):Prop where
 swap:∀a b,c b a= -c a b
 zero:∀a b,c a b=0→a=b
 trans:∀a b d,c a b<0→c b d<0→c a d<0
theorem Three.refl {α:Type} {c:α→α→Int} (h:Three c) (a:α):c a a=0:=by have:=h.swap a a;omega
theorem lJ:∀x:List UInt8,Op.bytesLess x x=false
 |[]=>rfl
 |a::x=>by simp[Op.bytesLess,lJ x]
theorem r9:∀x y z:List UInt8,Op.bytesLess x y=true→Op.bytesLess y z=true→Op.bytesLess x z=true
 |[],[],_,h,_=>by simp[Op.bytesLess] at h
 |[],_::_,[],_,h=>by simp[Op.bytesLess] at h
 |[],_::_,_::_,_,_=>rfl
 |_::_,[],_,h,_=>by simp[Op.bytesLess] at h
 |_::_,_::_,[],_,h=>by simp[Op.bytesLess] at h
 |a::x,b::y,c::z,h,k=>by
  simp only[Op.bytesLess,Bool.or_eq_true,Bool.and_eq_true,decide_eq_true_eq,beq_iff_eq] at h k⊢;rcases h with h|⟨rfl,h⟩ <;> rcases k with k|⟨rfl,k⟩
  ·exact Or.inl (UInt8.lt_trans h k)
  ·exact Or.inl h
  ·exact Or.inl k
  exact Or.inr ⟨rfl,r9 x y z h k⟩
theorem yt:∀x y:List UInt8,Op.bytesLess x y=false→x≠y→Op.bytesLess y x=true
 |[],[],_,h=>absurd rfl h
 |[],_::_,h,_=>by simp[Op.bytesLess] at h
 |_::_,[],_,_=>rfl
 |a::x,b::y,h,k=>by
  simp only[Op.bytesLess,Bool.or_eq_false_iff,Bool.and_eq_false_iff,decide_eq_false_iff_not,beq_eq_false_iff_ne,Bool.or_eq_true,Bool.and_eq_true,decide_eq_true_eq,beq_iff_eq] at h⊢
  by_cases e:a=b
  ·subst e;exact Or.inr ⟨rfl,yt x y (h.2.resolve_left (fun n=>n rfl)) (fun e=>k (by rw[e]))⟩
  refine Or.inl ?_;have h1:=h.1;rw[UInt8.lt_iff_toNat_lt] at*;have:a.toNat≠b.toNat:=fun n=>e (UInt8.toNat_inj.1 n);omega
def gV (a b:ByteArray):Int:=if Op.bytesLess a.toList b.toList then-1 else if a.toList==b.toList then 0 else 1
theorem toList_inj {a b:ByteArray} (h:a.toList=b.toList):a=b:=by rw[Lib.toList_data,Lib.toList_data] at h;have:a.data=b.data:=Array.toList_inj.1 h;cases a;cases b;simp_all
theorem ES (x y:List UInt8) (h:Op.bytesLess x y=true):Op.bytesLess y x=false:=by
 cases k:Op.bytesLess y x;·rfl
 have:=r9 x y x h k;rw[lJ] at this;cases this
theorem bJ:Three gV where
 swap a b:=by
  unfold gV
  by_cases h:Op.bytesLess a.toList b.toList=true
  ·rw[if_pos h,if_neg (by rw[ES _ _ h];simp)];have:(b.toList==a.toList)=false:=by
    rw[beq_eq_false_iff_ne];intro e;rw[e,lJ] at h;cases h
   rw[if_neg (by rw[this];simp)];rfl
  by_cases e:a.toList=b.toList
  ·rw[e,lJ];simp
  have hf:Op.bytesLess a.toList b.toList=false:=by simpa using h
  have:=yt _ _ hf e;rw[if_pos this,if_neg h,if_neg (by simpa using e)]
 zero a b h:=by
  unfold gV at h;split at h;·omega
  split at h;·exact toList_inj (by simpa using ‹(a.toList==b.toList)=true›)
  omega
 trans a b d h k:=by
  unfold gV at*;have h1:Op.bytesLess a.toList b.toList=true:=by
   split at h;·assumption
   split at h <;> omega
  have k1:Op.bytesLess b.toList d.toList=true:=by
   split at k;·assumption
   split at k <;> omega
  rw[if_pos (r9 _ _ _ h1 k1)];omega
def sj (a b:Int):Int:=if a<b then-1 else if b<a then 1 else 0
theorem iZ:Three sj where
 swap a b:=by unfold sj;split <;> split <;> omega
 zero a b h:=by
  unfold sj at h
  by_cases h1:a<b
  ·rw[if_pos h1] at h;omega
  rw[if_neg h1] at h
  by_cases h2:b<a
  ·rw[if_pos h2] at h;omega
  omega
 trans a b d h k:=by
  unfold sj at*;have h1:a<b:=by refine Int.not_le.1 fun n=>?_;rw[if_neg (by omega)] at h;split at h <;> omega
  have k1:b<d:=by refine Int.not_le.1 fun n=>?_;rw[if_neg (by omega)] at k;split at k <;> omega
  rw[if_pos (by omega)];omega
def cmpL:List ByteArray→List ByteArray→Int
 |[],[]=>0
 |[],_::_=> -1
 |_::_,[]=>1
 |a::x,b::y=>if gV a b≠0 then gV a b else cmpL x y
theorem uL:∀x y,cmpL y x= -cmpL x y
 |[],[]=>rfl
 |[],_::_=>rfl
 |_::_,[]=>rfl
 |a::x,b::y=>by
  have h:=bJ.swap a b;simp only[cmpL]
  by_cases e:gV a b=0
  ·rw[if_neg (by omega),if_neg (by omega)];exact uL x y
  rw[if_pos (by omega),if_pos (by omega)];exact h
theorem uM:∀x y,cmpL x y=0→x=y
 |[],[],_=>rfl
 |[],_::_,h=>by simp[cmpL] at h
 |_::_,[],h=>by simp[cmpL] at h
 |a::x,b::y,h=>by
  simp only[cmpL] at h;split at h;·exact absurd h ‹_›
  have e:gV a b=0:=by omega
  rw[bJ.zero a b e,uM x y h]
theorem qP:∀x y z,cmpL x y<0→cmpL y z<0→cmpL x z<0
 |[],[],_,h,_=>by simp[cmpL] at h
 |[],_::_,[],_,k=>by simp[cmpL] at k
 |[],_::_,_::_,_,_=>by simp[cmpL]
 |_::_,[],_,h,_=>by simp[cmpL] at h
 |_::_,_::_,[],_,k=>by simp[cmpL] at k
 |a::x,b::y,c::z,h,k=>by
  simp only[cmpL] at h k⊢
  by_cases e:gV a b=0
  ·have e':=bJ.zero _ _ e;subst e';rw[if_neg (by omega)] at h
   by_cases f:gV a c=0
   ·rw[if_neg (by omega)] at k⊢;exact qP x y z h k
   rw[if_pos f] at k⊢;exact k
  rw[if_pos e] at h
  by_cases f:gV b c=0
  ·have f':=bJ.zero _ _ f;subst f';rw[if_pos e];exact h
  rw[if_pos f] at k;have:=bJ.trans a b c h k;rw[if_pos (by omega)];exact this
abbrev aG:Type:=ByteArray×List ByteArray
def fF (f g:aG):Int:=
 if gV f.1 g.1≠0 then gV f.1 g.1 else if sj f.2.length g.2.length≠0 then sj f.2.length g.2.length else cmpL f.2 g.2
theorem aV:Three fF where
 swap f g:=by
  have h:=bJ.swap f.1 g.1;have i:=iZ.swap f.2.length g.2.length;have l:=uL f.2 g.2;unfold fF
  by_cases e:gV f.1 g.1=0
  ·have e':gV g.1 f.1=0:=by omega
   by_cases e2:sj f.2.length g.2.length=0
   ·have e2':sj g.2.length f.2.length=0:=by omega
    simp only[e,e',e2,e2',ne_eq,not_true,if_false];exact l
   have e2':¬sj g.2.length f.2.length=0:=by omega
   simp only[e,e',e2,e2',ne_eq,not_true,not_false_eq_true,if_false,if_true];exact i
  have e':¬gV g.1 f.1=0:=by omega
  simp only[e,e',ne_eq,not_false_eq_true,if_true];exact h
 zero f g h:=by
  unfold fF at h
  by_cases e:gV f.1 g.1=0
  ·rw[if_neg (by omega)] at h
   by_cases e2:sj f.2.length g.2.length=0
   ·rw[if_neg (by omega)] at h;exact Prod.ext (bJ.zero _ _ e) (uM _ _ h)
   rw[if_pos e2] at h;exact absurd h e2
  rw[if_pos e] at h;exact absurd h e
 trans f g d h k:=by
  unfold fF at*
  by_cases e:gV f.1 g.1=0
  ·rw[bJ.zero _ _ e];rw[if_neg (by omega)] at h
   by_cases m:gV g.1 d.1=0
   ·rw[if_neg (by omega)] at k⊢
    by_cases e2:sj f.2.length g.2.length=0
    ·have e3:=iZ.zero _ _ e2;rw[e3];rw[if_neg (by omega)] at h
     by_cases m2:sj g.2.length d.2.length=0
     ·rw[if_neg (by omega)] at k⊢;exact qP _ _ _ h k
     rw[if_pos m2] at k⊢;exact k
    rw[if_pos e2] at h
    by_cases m2:sj g.2.length d.2.length=0
    ·rw[←iZ.zero _ _ m2,if_pos e2];exact h
    rw[if_pos m2] at k;have:=iZ.trans _ _ _ h k;rw[if_pos (by omega)];exact this
   rw[if_pos m] at k⊢;exact k
  rw[if_pos e] at h
  by_cases m:gV g.1 d.1=0
  ·rw[←bJ.zero _ _ m,if_pos e];exact h
  rw[if_pos m] at k;have:=bJ.trans _ _ _ h k;rw[if_pos (by omega)];exact this
theorem wS {a b c:aG} (h:0≤fF a b) (k:0≤fF b c):0≤fF a c:=by
 refine Int.not_lt.1 fun n=>?_;have s1:=aV.swap a b;have s2:=aV.swap b c
 by_cases e:fF a b=0
 ·rw[aV.zero _ _ e] at n;omega
 by_cases e2:fF b c=0
 ·rw[←aV.zero _ _ e2] at n;omega
 have:=aV.trans c b a (by omega) (by omega);have s3:=aV.swap a c;omega
def gP (x:Int):Bool:=decide (97≤x∧x≤122)||decide (48≤x∧x≤57)
def jc (x:Int):Bool:=gP x||decide (65≤x∧x≤90)||decide (x=95)
def jM (x:Int):Bool:=decide (65≤x∧x≤90)
abbrev Bs:=List UInt8
def bs (l:Bs):ByteArray:=⟨l.toArray⟩
def raw (s:ByteArray):Bs:=s.data.toList
theorem kJ (s:ByteArray):bs (raw s)=s:=by cases s;simp[bs,raw]
theorem jN (l:Bs):raw (bs l)=l:=by simp[bs,raw]
theorem iB (l:Bs):(bs l).size=l.length:=by simp[bs,ByteArray.size]
theorem bK (s:ByteArray):(raw s).length=s.size:=Array.length_toList
theorem oD {a b:Bs} (h:bs a=bs b):a=b:=by rw[←jN a,h,jN]
theorem wT {a b:ByteArray} (h:raw a=raw b):a=b:=by rw[←kJ a,h,kJ]
def eO (c:UInt8):Bool:=jc c.toNat
def isNamed (l:Bs):Bool:=decide (l.length≤12)&&(match l with|[]=>false|c::_=>gP c.toNat)&&l.all eO
def isVar (l:Bs):Bool:=decide (l.length≤12)&&(match l with|[]=>false|c::_=>jM c.toNat)&&l.all eO
end Go.Proofs.YthngiikhgplldaaGreatDoor
