import Derived.Shelf.Strings.OnBuilder
import Derived.Shelf.Strings.BuilderK
import Derived.Shelf.Strconv.Clone
import Derived.Shelf.Strings.Cut
import Derived.Shelf.Strings.Prefix
import Derived.Test.YtaallngooaaonaaGreatDoorProg
import Derived.Shelf.Strconv.Itoa3
import Derived.Shelf.Slices.Turned
import Derived.Lib.ItoaNum
import Derived.Test.YtaallngooaaonaaGreatDoorJT11
import Derived.Test.YtaallngooaaonaaGreatDoorJT7
import Derived.Test.YtaallngooaaonaaGreatDoorJT3
open Go.RowKit Go.Sort Go.Maps Go.Shelf
set_option maxHeartbeats 1000000
set_option maxRecDepth 100000
section
namespace Go.Proofs
open Go.Shelf
def Tryz.lays169_ren:Go.Shelf.Ren:=⟨fun|169=>140|n=>n,fun|70=>190|9=>9|0=>0|72=>192|37=>164|127=>208|3=>3|5=>5|n=>n,fun|n=>n⟩
theorem Tryz.lays169:Go.Proofs.Lays.n169 Tryz.prog Tryz.lays169_ren:={
 mixed:=by kernel_rfl
 f169:=Tryz.func140.trans (congrArg some (by kernel_rfl))
 t0:=Tryz.underlying0
 a0:=Tryz.isAgg0
 z0:=Tryz.sizeOf0
 v0:=Tryz.zeroValue0
 t3:=Tryz.underlying3
 a3:=Tryz.isAgg3
 z3:=Tryz.sizeOf3
 v3:=Tryz.zeroValue3
 t9:=Tryz.underlying9
 a9:=Tryz.isAgg9
 z9:=Tryz.sizeOf9
 v9:=Tryz.zeroValue9
 t37:=Tryz.underlying164
 a37:=Tryz.isAgg164
 z37:=Tryz.sizeOf164
 v37:=Tryz.zeroValue164
 t70:=Tryz.underlying190
 a70:=Tryz.isAgg190
 z70:=Tryz.sizeOf190
 v70:=Tryz.zeroValue190
 t72:=Tryz.underlying192
 a72:=Tryz.isAgg192
 z72:=Tryz.sizeOf192
 v72:=Tryz.zeroValue192
 t127:=Tryz.underlying208
 a127:=Tryz.isAgg208
 z127:=Tryz.sizeOf208
 v127:=Tryz.zeroValue208}
theorem Tryz.Builder_Extra_169:Builder.Extra Tryz.prog Tryz.lays169_ren:={
 sizeBuilder:=by kernel_rfl
 liesBuilder:=by kernel_rfl
 t5:=Tryz.underlying5
 a5:=Tryz.isAgg5
 z5:=Tryz.sizeOf5
 v5:=Tryz.zeroValue5
 infoByte:=by kernel_rfl
 cellsByte:=by kernel_rfl
 sizeByte:=by kernel_rfl
 neB5:=by decide}
open Go.RowKit in
theorem Tryz.Builder_String_any_k (B b:Nat) (l:List UInt8) (w:World) (h:Lib.IsBuilderF 192 5 B b (Lib.byteCells l) w) (hBw:B≤w.heap.size):
  Calls Tryz.prog 140 #[.pointer (some ⟨b,0,none⟩)] w fun e w'=>e=.returned (.string ⟨l.toArray⟩)∧(Lib.IsBuilderF 192 5 B b (Lib.byteCells l) w'∧Below B w w'∧Lib.OthersKept 5 (some b) w w'):=Any.Builder_String_any_k Tryz.lays169 Tryz.Builder_Extra_169 B b l w h hBw
end Go.Proofs
end
section
namespace Go.Proofs
open Go.Shelf
def Tryz.laysM171_ren:Go.Shelf.Ren:=⟨fun|171=>138|243=>152|246=>163|283=>175|284=>176|285=>177|286=>178|129=>191|317=>192|318=>193|319=>194|320=>195|337=>217|338=>218|n=>n,fun|3=>3|9=>9|2=>2|4=>4|171=>229|0=>0|53=>230|37=>164|5=>5|173=>233|212=>249|51=>246|20=>20|213=>250|46=>152|232=>273|233=>274|n=>n,fun|17=>0|18=>1|19=>2|n=>n⟩
theorem Tryz.laysM171:Go.Proofs.LaysM.n171 Tryz.prog Tryz.laysM171_ren:={
 mixed:=by kernel_rfl
 f129:=Tryz.func191.trans (congrArg some (by kernel_rfl))
 f171:=Tryz.func138.trans (congrArg some (by kernel_rfl))
 f243:=Tryz.func152.trans (congrArg some (by kernel_rfl))
 f246:=Tryz.func163.trans (congrArg some (by kernel_rfl))
 f283:=Tryz.func175.trans (congrArg some (by kernel_rfl))
 f284:=Tryz.func176.trans (congrArg some (by kernel_rfl))
 f285:=Tryz.func177.trans (congrArg some (by kernel_rfl))
 f286:=Tryz.func178.trans (congrArg some (by kernel_rfl))
 f317:=Tryz.func192.trans (congrArg some (by kernel_rfl))
 f318:=Tryz.func193.trans (congrArg some (by kernel_rfl))
 f319:=Tryz.func194.trans (congrArg some (by kernel_rfl))
 f320:=Tryz.func195.trans (congrArg some (by kernel_rfl))
 f337:=Tryz.func217.trans (congrArg some (by kernel_rfl))
 f338:=Tryz.func218.trans (congrArg some (by kernel_rfl))
 t0:=Tryz.underlying0
 a0:=Tryz.isAgg0
 z0:=Tryz.sizeOf0
 v0:=Tryz.zeroValue0
 t2:=Tryz.underlying2
 a2:=Tryz.isAgg2
 z2:=Tryz.sizeOf2
 v2:=Tryz.zeroValue2
 t3:=Tryz.underlying3
 a3:=Tryz.isAgg3
 z3:=Tryz.sizeOf3
 v3:=Tryz.zeroValue3
 t4:=Tryz.underlying4
 a4:=Tryz.isAgg4
 z4:=Tryz.sizeOf4
 v4:=Tryz.zeroValue4
 t5:=Tryz.underlying5
 a5:=Tryz.isAgg5
 z5:=Tryz.sizeOf5
 v5:=Tryz.zeroValue5
 t9:=Tryz.underlying9
 a9:=Tryz.isAgg9
 z9:=Tryz.sizeOf9
 v9:=Tryz.zeroValue9
 t20:=Tryz.underlying20
 a20:=Tryz.isAgg20
 z20:=Tryz.sizeOf20
 v20:=Tryz.zeroValue20
 t37:=Tryz.underlying164
 a37:=Tryz.isAgg164
 z37:=Tryz.sizeOf164
 v37:=Tryz.zeroValue164
 t46:=Tryz.underlying152
 a46:=Tryz.isAgg152
 z46:=Tryz.sizeOf152
 v46:=Tryz.zeroValue152
 t51:=Tryz.underlying246
 a51:=Tryz.isAgg246
 z51:=Tryz.sizeOf246
 v51:=Tryz.zeroValue246
 t53:=Tryz.underlying230
 a53:=Tryz.isAgg230
 z53:=Tryz.sizeOf230
 v53:=Tryz.zeroValue230
 t171:=Tryz.underlying229
 a171:=Tryz.isAgg229
 z171:=Tryz.sizeOf229
 v171:=Tryz.zeroValue229
 t173:=Tryz.underlying233
 a173:=Tryz.isAgg233
 z173:=Tryz.sizeOf233
 v173:=Tryz.zeroValue233
 t212:=Tryz.underlying249
 a212:=Tryz.isAgg249
 z212:=Tryz.sizeOf249
 v212:=Tryz.zeroValue249
 t213:=Tryz.underlying250
 a213:=Tryz.isAgg250
 z213:=Tryz.sizeOf250
 t232:=Tryz.underlying273
 a232:=Tryz.isAgg273
 z232:=Tryz.sizeOf273
 v232:=Tryz.zeroValue273
 t233:=Tryz.underlying274
 a233:=Tryz.isAgg274
 z233:=Tryz.sizeOf274
 v233:=Tryz.zeroValue274
 g17:=by kernel_rfl
 g18:=by kernel_rfl
 g19:=by kernel_rfl
 i0:=by kernel_rfl
 i2:=by kernel_rfl
 i3:=by kernel_rfl
 i4:=by kernel_rfl
 i5:=by kernel_rfl
 i9:=by kernel_rfl
 i20:=by kernel_rfl
 i37:=by kernel_rfl
 i46:=by kernel_rfl
 i51:=by kernel_rfl
 i53:=by kernel_rfl
 i171:=by kernel_rfl
 i173:=by kernel_rfl
 i212:=by kernel_rfl
 i232:=by kernel_rfl
 i233:=by kernel_rfl
 m17:=by kernel_rfl
 m18:=by kernel_rfl
 m19:=by kernel_rfl}
open Go.RowKit Go.Sort Go.Lib in
theorem Tryz.strconv_Itoa (n:Int) (h0: -9223372036854775808≤n) (h1:n≤9223372036854775807) (w:World) (htab:Lib.TabIs Tryz.prog w "internal/strconv.uint64pow10" .u64 Lib.pow10Tab):
  Calls Tryz.prog 138 #[.int .i64 n] w fun e w'=>e=.returned (.string ⟨(Lib.itoa n).toArray⟩)∧∃k os,w'=grow (w.drewN k) os:=Any.strconv_Itoa Tryz.laysM171 n h0 h1 w htab
def Tryz.lays171_ren:Go.Shelf.Ren:=⟨fun|171=>138|243=>152|246=>163|283=>175|284=>176|285=>177|286=>178|129=>191|317=>192|318=>193|319=>194|320=>195|337=>217|338=>218|n=>n,fun|3=>3|9=>9|2=>2|4=>4|171=>229|0=>0|53=>230|37=>164|5=>5|173=>233|212=>249|51=>246|20=>20|213=>250|46=>152|232=>273|233=>274|n=>n,fun|17=>0|18=>1|19=>2|n=>n⟩
theorem Tryz.lays171:Go.Proofs.Lays.n171 Tryz.prog Tryz.lays171_ren:={
 mixed:=by kernel_rfl
 f129:=Tryz.func191.trans (congrArg some (by kernel_rfl))
 f171:=Tryz.func138.trans (congrArg some (by kernel_rfl))
 f243:=Tryz.func152.trans (congrArg some (by kernel_rfl))
 f246:=Tryz.func163.trans (congrArg some (by kernel_rfl))
 f283:=Tryz.func175.trans (congrArg some (by kernel_rfl))
 f284:=Tryz.func176.trans (congrArg some (by kernel_rfl))
 f285:=Tryz.func177.trans (congrArg some (by kernel_rfl))
 f286:=Tryz.func178.trans (congrArg some (by kernel_rfl))
 f317:=Tryz.func192.trans (congrArg some (by kernel_rfl))
 f318:=Tryz.func193.trans (congrArg some (by kernel_rfl))
 f319:=Tryz.func194.trans (congrArg some (by kernel_rfl))
 f320:=Tryz.func195.trans (congrArg some (by kernel_rfl))
 f337:=Tryz.func217.trans (congrArg some (by kernel_rfl))
 f338:=Tryz.func218.trans (congrArg some (by kernel_rfl))
 t0:=Tryz.underlying0
 a0:=Tryz.isAgg0
 z0:=Tryz.sizeOf0
 v0:=Tryz.zeroValue0
 t2:=Tryz.underlying2
 a2:=Tryz.isAgg2
 z2:=Tryz.sizeOf2
 v2:=Tryz.zeroValue2
 t3:=Tryz.underlying3
 a3:=Tryz.isAgg3
 z3:=Tryz.sizeOf3
 v3:=Tryz.zeroValue3
 t4:=Tryz.underlying4
 a4:=Tryz.isAgg4
 z4:=Tryz.sizeOf4
 v4:=Tryz.zeroValue4
 t5:=Tryz.underlying5
 a5:=Tryz.isAgg5
 z5:=Tryz.sizeOf5
 v5:=Tryz.zeroValue5
 t9:=Tryz.underlying9
 a9:=Tryz.isAgg9
 z9:=Tryz.sizeOf9
 v9:=Tryz.zeroValue9
 t20:=Tryz.underlying20
 a20:=Tryz.isAgg20
 z20:=Tryz.sizeOf20
 v20:=Tryz.zeroValue20
 t37:=Tryz.underlying164
 a37:=Tryz.isAgg164
 z37:=Tryz.sizeOf164
 v37:=Tryz.zeroValue164
 t46:=Tryz.underlying152
 a46:=Tryz.isAgg152
 z46:=Tryz.sizeOf152
 v46:=Tryz.zeroValue152
 t51:=Tryz.underlying246
 a51:=Tryz.isAgg246
 z51:=Tryz.sizeOf246
 v51:=Tryz.zeroValue246
 t53:=Tryz.underlying230
 a53:=Tryz.isAgg230
 z53:=Tryz.sizeOf230
 v53:=Tryz.zeroValue230
 t171:=Tryz.underlying229
 a171:=Tryz.isAgg229
 z171:=Tryz.sizeOf229
 v171:=Tryz.zeroValue229
 t173:=Tryz.underlying233
 a173:=Tryz.isAgg233
 z173:=Tryz.sizeOf233
 v173:=Tryz.zeroValue233
 t212:=Tryz.underlying249
 a212:=Tryz.isAgg249
 z212:=Tryz.sizeOf249
 v212:=Tryz.zeroValue249
 t213:=Tryz.underlying250
 a213:=Tryz.isAgg250
 z213:=Tryz.sizeOf250
 t232:=Tryz.underlying273
 a232:=Tryz.isAgg273
 z232:=Tryz.sizeOf273
 v232:=Tryz.zeroValue273
 t233:=Tryz.underlying274
 a233:=Tryz.isAgg274
 z233:=Tryz.sizeOf274
 v233:=Tryz.zeroValue274
 g17:=by kernel_rfl
 g18:=by kernel_rfl
 g19:=by kernel_rfl}
open Go.RowKit Go.Sort Go.Lib in
theorem Tryz.strconv_Itoa_small (i:Nat) (hi:i<100) (w:World):
  Calls Tryz.prog 138 #[.int .i64 i] w fun e w'=>e=.returned (.string ⟨(Lib.decDigits i).toArray⟩)∧w'=w:=Any.strconv_Itoa_small Tryz.lays171 i hi w
def Tryz.lays113_ren:Go.Shelf.Ren:=⟨fun|113=>59|n=>n,fun|28=>67|3=>3|4=>4|9=>9|20=>20|0=>0|n=>n,fun|n=>n⟩
theorem Tryz.lays113:Go.Proofs.Lays.n113 Tryz.prog Tryz.lays113_ren:={
 mixed:=by kernel_rfl
 f113:=Tryz.func59.trans (congrArg some (by kernel_rfl))
 t0:=Tryz.underlying0
 a0:=Tryz.isAgg0
 z0:=Tryz.sizeOf0
 v0:=Tryz.zeroValue0
 t3:=Tryz.underlying3
 a3:=Tryz.isAgg3
 z3:=Tryz.sizeOf3
 v3:=Tryz.zeroValue3
 t4:=Tryz.underlying4
 a4:=Tryz.isAgg4
 z4:=Tryz.sizeOf4
 v4:=Tryz.zeroValue4
 t9:=Tryz.underlying9
 a9:=Tryz.isAgg9
 z9:=Tryz.sizeOf9
 v9:=Tryz.zeroValue9
 t20:=Tryz.underlying20
 a20:=Tryz.isAgg20
 z20:=Tryz.sizeOf20
 v20:=Tryz.zeroValue20
 t28:=Tryz.underlying67
 a28:=Tryz.isAgg67
 z28:=Tryz.sizeOf67
 v28:=Tryz.zeroValue67}
open Go.Lib in
theorem Tryz.slices_Max_int (b off n c:Nat) (zs:List Int) (w:World) (hn:0<n) (hz:n≤zs.length) (hbig:n≤9223372036854775807) (hc:∀j,j<zs.length→w.cell? ⟨b,off+j,none⟩=some (.int .i64 (zs.getD j 0))):
  Calls Tryz.prog 59 #[.slice (some ⟨b,off,none⟩) n c] w fun e w'=>e=.returned (.int .i64 (Lib.maxOf (zs.take n)))∧w'=w:=Any.slices_Max_int Tryz.lays113 b off n c zs w hn hz hbig hc
end Go.Proofs
end
namespace Go.Proofs.YtaallngooaaonaaGreatDoor
theorem mG {a:Nat} (h:a<10):(UInt8.ofNat (48+a)).toNat=48+a:=by rw[UInt8.toNat_ofNat'];exact Nat.mod_eq_of_lt (by omega)
theorem rC (u:Nat):Lib.decDigits u≠[]:=by rw[Lib.decDigits];split <;> simp
theorem yT:∀(u v:Nat),Lib.decDigits u=Lib.decDigits v→u=v:=by
 intro u
 induction u using Nat.strongRecOn with
 |ind u ih=>
  intro v h;rw[Lib.decDigits,Lib.decDigits.eq_1 v] at h;split at h <;> split at h
  ·rename_i h1 h2;have:=List.cons.inj h;have:=congrArg UInt8.toNat this.1;rw[mG h1,mG h2] at this;omega
  ·rename_i h1 h2;have:=congrArg List.length h;have h3:=List.length_pos_iff.2 (rC (v/10));rw[List.length_append,List.length_singleton,List.length_singleton] at this;omega
  ·rename_i h1 h2;have:=congrArg List.length h;have h3:=List.length_pos_iff.2 (rC (u/10));rw[List.length_append,List.length_singleton,List.length_singleton] at this;omega
  rename_i h1 h2;obtain⟨h3,h4⟩:=List.append_inj' h rfl;have h5:=ih (u/10) (by omega) (v/10) h3;have h6:=congrArg UInt8.toNat (List.cons.inj h4).1;rw[mG (Nat.mod_lt _ (by omega)),mG (Nat.mod_lt _ (by omega))] at h6;omega
theorem nI:∀(u:Nat),(32:UInt8)∉Lib.decDigits u:=by
 intro u
 induction u using Nat.strongRecOn with
 |ind u ih=>
  have key:∀a,a<10→(32:UInt8)≠UInt8.ofNat (48+a):=fun a ha e=>by have:=congrArg UInt8.toNat e;rw[mG ha] at this;have h32:(32:UInt8).toNat=32:=rfl;omega
  rw[Lib.decDigits];split;·rename_i h;simp only[List.mem_singleton];exact key u h
  rename_i h;rw[List.mem_append];rintro(h1|h1);·exact ih (u/10) (by omega) h1
  simp only[List.mem_singleton] at h1;exact key _ (Nat.mod_lt _ (by omega)) h1
theorem Qm:∀{a b x y:Bs},32∉a→32∉b→a++32::x=b++32::y→a=b∧x=y
 |[],[],x,y,_,_,h=>⟨rfl,(List.cons.inj h).2⟩
 |[],c::b,x,y,_,hb,h=>by have:=(List.cons.inj h).1;exact absurd (by rw[this];simp) hb
 |c::a,[],x,y,ha,_,h=>by have:=(List.cons.inj h).1;exact absurd (by rw[←this];simp) ha
 |c::a,d::b,x,y,ha,hb,h=>by obtain⟨h1,h2⟩:=List.cons.inj h;obtain⟨h3,h4⟩:=Qm (a:=a) (b:=b) (fun h=>ha (by simp[h])) (fun h=>hb (by simp[h])) h2;exact⟨by rw[h1,h3],h4⟩
def rV (s:Bs):Bs:=Lib.decDigits s.length++32::s
theorem Iy {s t x y:Bs} (h:rV s++x=rV t++y):s=t∧x=y:=by unfold rV at h;rw[List.append_assoc,List.append_assoc,List.cons_append,List.cons_append] at h;obtain⟨h1,h2⟩:=Qm (nI _) (nI _) h;exact List.append_inj h2 (yT _ _ h1)
def iO:List ByteArray→Bs
 |[]=>[]
 |s::l=>rV (raw s)++iO l
theorem xC:∀{l m:List ByteArray},iO l=iO m→l=m
 |[],[],_=>rfl
 |[],s::m,h=>by simp[iO,rV] at h
 |s::l,[],h=>by simp[iO,rV] at h
 |s::l,t::m,h=>by obtain⟨h1,h2⟩:=Iy h;rw[←iT s,h1,iT,xC h2]
theorem pO:∀(l m:List ByteArray),iO (l++m)=iO l++iO m
 |[],m=>rfl
 |s::l,m=>by simp[iO,pO l m]
def uw (f:aA):Bs:=iO (f.1::f.2)
theorem yU {f g:aA} (h:uw f=uw g):f=g:=by have:=xC h;obtain⟨h1,h2⟩:=List.cons.inj this;exact Prod.ext h1 h2
abbrev Two:=ByteArray×Option Addr×Nat×Nat
def Av (x:Two):Value:=.agg #[.string x.1,.slice x.2.1 x.2.2.1 x.2.2.2]
def Iz (v:Value):Option Two:=match v with
 | .agg a=>match a.toList with
  |[.string s,.slice p n c]=>some (s,p,n,c)
  |_=>none
 |_=>none
theorem Aw (x:Two):Iz (Av x)=some x:=rfl
theorem IB {v:Value} {x:Two} (h:Iz v=some x):v=Av x:=by
 unfold Iz at h;split at h
 ·rename_i a;obtain⟨l,rfl⟩:∃l:List Value,a=l.toArray:=⟨a.toList,by simp⟩;simp only at h;split at h
  ·cases h
   rfl
  cases h
 cases h
def ku (v:Value):Option (DataW Two×List MemPlace):=(Iz v).map fun x=>(.held x,[])
theorem E8 (x:Two):ku (Av x)=some (.held x,[]):=rfl
theorem uy {v:Value} {z:DataW Two×List MemPlace} (h:ku v=some z):∃x,v=Av x∧z=(.held x,[]):=by
 unfold ku at h;cases e:Iz v with
 |none=>rw[e] at h;cases h
 |some x=>rw[e] at h;cases h;exact⟨x,IB e,rfl⟩
theorem KU {x y:Two} (h:Av x=Av y):x=y:=by have:=Aw x;rw[h,Aw] at this;exact(Option.some.inj this).symm
theorem IC {w:World} {v:Value} {f:aN} (h:dD w v f):∃x,v=Av x:=by obtain⟨s,rfl,hs⟩:=h;obtain⟨a,c,rfl⟩:=bA hs;exact⟨(f.1,a,_,c),rfl⟩
def gu (P:Program) (K:TypeId) (w:World) (b n:Nat) (L:List aA):Prop:=
 ∃D:DataW Two,w.ownsMap P K ku b n D∧(∀s,Maps.has D (.string s)=true↔∃f∈L,uw f=s)∧(∀f∈L,∃x,D.atKey (.string (uw f)) .nil=.held x∧dD w (Av x) f)∧Maps.size D=(iA L).length
theorem gu.made (P:Program) (K:TypeId) (w:World):gu P K (w.alloc (.map #[] 0)) w.heap.size 0 []:=
 ⟨.map [],World.ownsMap_made _ _ _ _,fun s=>by simp[Maps.has],fun f hf=>(by cases hf),by simp[Maps.size,iA,fZ,iU]⟩
section
variable {P:Program} {K:TypeId} {w w':World} {b n:Nat} {L:List aA}
theorem gu.lt (h:gu P K w b n L):b<w.heap.size:=by obtain⟨D,h,_⟩:=h;exact h.lt
theorem gu.later (h:gu P K w b n L) (k:ak w w'):gu P K w' b n L:=by obtain⟨D,h,h1,h2,h3⟩:=h;exact⟨D,dN h (k.block h.lt),h1,fun f hf=>by obtain⟨x,e,hx⟩:=h2 f hf;exact⟨x,e,hx.later k⟩,h3⟩
theorem gu.mono (h:gu P K w b n L) {n':Nat} (hn:n≤n'):gu P K w b n' L:=by obtain⟨D,h,hf⟩:=h;exact⟨D,h.mono hn,hf⟩
theorem gu.few (h:gu P K w b n L):(iA L).length≤n:=by obtain⟨D,h,_,_,h3⟩:=h;rw[←h3];exact h.size_le
theorem IE {L:List aA} {f:aA}:(iA (L++[f])).length=if inB L f then(iA L).length else(iA L).length+1:=by
 split;·rename_i h;have h:=dn.1 h;rw[wQ (l:=L++[f]) (m:=L) fun g=>by rw[List.mem_append,List.mem_singleton];exact⟨fun h'=>h'.elim id (fun e=>by rw[e];exact h),Or.inl⟩]
 rename_i h;have h:f∉L:=fun h'=>h (dn.2 h');have h1:(f::iA L).Nodup:=List.nodup_cons.2 ⟨fun h'=>h (iB.1 h'),rZ (nS L)⟩;have e:∀g,g∈iA (L++[f])↔g∈f::iA L:=fun g=>by rw[iB,List.mem_append,List.mem_singleton,List.mem_cons,iB];exact⟨fun h=>h.symm,fun h=>h.symm⟩
 have a:=tF (rZ (nS (L++[f]))) fun g hg=>(e g).1 hg;have b:=tF h1 fun g hg=>(e g).2 hg;simp only[List.length_cons] at a b;omega
theorem gu.store {E T:TypeId} (h:gu P K w b n L) (hk:P.underlying K=some .string) (ht:P.underlying T=some (.map K E)) (hn:n<maxLen) {f:aA} {v:Value} (hv:dD w v f) (hf:(uw f).length≤maxLen):
  ∃w',(Instr.mapUpdate T (.map (some b)) (.string (bs (uw f))) v).run P w=.ok () w'∧w.grownBy w' (some b)∧((∀g∈L++[f],∀u,dD w u g→dD w' u g)→gu P K w' b (n+1) (L++[f])):=by
 obtain⟨D,hown,h1,h2,h3⟩:=h;obtain⟨x,rfl⟩:=IC hv;obtain⟨w',hrun,r1,r2⟩:=hown.update (string_keyed hk) ht hn (lH hk hf) (E8 x);have hhas:Maps.has D (.string (uw f))=inB L f:=by
  cases e:inB L f with
  |true=>exact(h1 _).2 ⟨f,dn.1 e,rfl⟩
  |false=>
   cases e2:Maps.has D (.string (uw f)) with
   |false=>rfl
   |true=>
    obtain⟨g,hg,hgf⟩:=(h1 _).1 e2;rw[yU hgf] at hg;rw[dn.2 hg] at e;cases e
 refine⟨w',hrun,r2,fun hkeep=>⟨_,r1,fun s=>?_,fun g hg=>?_,?_⟩⟩
 ·by_cases e:s=uw f
  ·subst e;rw[has_put_same hown.isMap (Ic _)];simp only[true_iff];exact⟨f,by simp,rfl⟩
  rw[has_put_other (nA e),h1]
  constructor
  ·rintro⟨g,hg,hs⟩;exact⟨g,by simp[hg],hs⟩
  rintro⟨g,hg,hs⟩;rcases List.mem_append.1 hg with hg|hg
  ·exact⟨g,hg,hs⟩
  simp only[List.mem_singleton] at hg;subst hg;exact absurd hs.symm e
 ·by_cases e:g=f
  ·subst e;exact⟨x,by rw[atKey_put_same hown.isMap (Ic _)],hkeep g hg _ hv⟩
  have hgL:g∈L:=(List.mem_append.1 hg).elim id (fun h=>absurd (List.mem_singleton.1 h) e);obtain⟨y,hy,hfy⟩:=h2 g hgL;exact⟨y,by rw[atKey_put_other (nA fun h=>e (yU h))];exact hy,hkeep g hg _ hfy⟩
 rw[size_put (hown.tidy (string_keyed hk)),hhas,IE,h3]
theorem gu.len {E T:TypeId} (h:gu P K w b n L) (ht:P.underlying T=some (.map K E)) (ty:TypeId):(Builtin.len_ #[T] ty #[.map (some b)]).run P w=.ok (.int .i64 ((iA L).length:Nat)) w:=by obtain⟨D,hown,_,_,h3⟩:=h;rw[hown.len ht,h3]
end
def IG:Go.Shelf.Ren:=⟨fun|166=>137|167=>139|240=>151|276=>162|n=>n,fun|0=>0|3=>3|4=>4|5=>5|9=>9|20=>20|37=>164|70=>190|72=>192|75=>194|80=>200|164=>217|n=>n,fun|n=>n⟩
theorem Qn:Go.Proofs.Lays.n166 Tryz.prog IG:={
 mixed:=by kernel_rfl
 f166:=Tryz.func137.trans (congrArg some (by kernel_rfl))
 f240:=Tryz.func151.trans (congrArg some (by kernel_rfl))
 f276:=Tryz.func162.trans (congrArg some (by kernel_rfl))
 t0:=Tryz.underlying0
 a0:=Tryz.isAgg0
 z0:=Tryz.sizeOf0
 v0:=Tryz.zeroValue0
 t3:=Tryz.underlying3
 a3:=Tryz.isAgg3
 z3:=Tryz.sizeOf3
 v3:=Tryz.zeroValue3
 t4:=Tryz.underlying4
 a4:=Tryz.isAgg4
 z4:=Tryz.sizeOf4
 v4:=Tryz.zeroValue4
 t9:=Tryz.underlying9
 a9:=Tryz.isAgg9
 z9:=Tryz.sizeOf9
 v9:=Tryz.zeroValue9
 t20:=Tryz.underlying20
 a20:=Tryz.isAgg20
 z20:=Tryz.sizeOf20
 v20:=Tryz.zeroValue20
 t37:=Tryz.underlying164
 a37:=Tryz.isAgg164
 z37:=Tryz.sizeOf164
 v37:=Tryz.zeroValue164
 t70:=Tryz.underlying190
 a70:=Tryz.isAgg190
 z70:=Tryz.sizeOf190
 v70:=Tryz.zeroValue190
 t72:=Tryz.underlying192
 a72:=Tryz.isAgg192
 z72:=Tryz.sizeOf192
 v72:=Tryz.zeroValue192
 t75:=Tryz.underlying194
 a75:=Tryz.isAgg194
 z75:=Tryz.sizeOf194
 v75:=Tryz.zeroValue194
 t164:=Tryz.underlying217
 a164:=Tryz.isAgg217
 z164:=Tryz.sizeOf217
 v164:=Tryz.zeroValue217}
theorem Qo:Go.Proofs.Lays.n167 Tryz.prog IG:={
 mixed:=by kernel_rfl
 f167:=Tryz.func139.trans (congrArg some (by kernel_rfl))
 f240:=Tryz.func151.trans (congrArg some (by kernel_rfl))
 f276:=Tryz.func162.trans (congrArg some (by kernel_rfl))
 t0:=Tryz.underlying0
 a0:=Tryz.isAgg0
 z0:=Tryz.sizeOf0
 v0:=Tryz.zeroValue0
 t4:=Tryz.underlying4
 a4:=Tryz.isAgg4
 z4:=Tryz.sizeOf4
 v4:=Tryz.zeroValue4
 t5:=Tryz.underlying5
 a5:=Tryz.isAgg5
 z5:=Tryz.sizeOf5
 v5:=Tryz.zeroValue5
 t9:=Tryz.underlying9
 a9:=Tryz.isAgg9
 z9:=Tryz.sizeOf9
 v9:=Tryz.zeroValue9
 t20:=Tryz.underlying20
 a20:=Tryz.isAgg20
 z20:=Tryz.sizeOf20
 v20:=Tryz.zeroValue20
 t37:=Tryz.underlying164
 a37:=Tryz.isAgg164
 z37:=Tryz.sizeOf164
 v37:=Tryz.zeroValue164
 t70:=Tryz.underlying190
 a70:=Tryz.isAgg190
 z70:=Tryz.sizeOf190
 v70:=Tryz.zeroValue190
 t72:=Tryz.underlying192
 a72:=Tryz.isAgg192
 z72:=Tryz.sizeOf192
 v72:=Tryz.zeroValue192
 t75:=Tryz.underlying194
 a75:=Tryz.isAgg194
 z75:=Tryz.sizeOf194
 v75:=Tryz.zeroValue194
 t164:=Tryz.underlying217
 a164:=Tryz.isAgg217
 z164:=Tryz.sizeOf217
 v164:=Tryz.zeroValue217}
theorem DJ:Builder.Extra Tryz.prog IG:={
 sizeBuilder:=by kernel_rfl
 liesBuilder:=by kernel_rfl
 t5:=Tryz.underlying5
 a5:=Tryz.isAgg5
 z5:=Tryz.sizeOf5
 v5:=Tryz.zeroValue5
 infoByte:=by kernel_rfl
 cellsByte:=by kernel_rfl
 sizeByte:=by kernel_rfl
 neB5:=by decide}
def yV (B:Nat) (l:Bs) (w:World):Prop:=Lib.IsBuilderF 192 5 B B (Lib.byteCells l) w
theorem yV.new (w:World):yV w.heap.size [] (w.alloc (.cells #[.pointer none,.slice none 0 0] 192)):=
 Lib.IsBuilderF.of (Or.inl ⟨Nat.le_refl _,.slice none 0 0,heap_alloc_new w _,World.ownsRow_nil _ _ _ _,by simp[Value.ownBlock]⟩)
theorem yV.lt {B:Nat} {l:Bs} {w:World} (h:yV B l w):B<w.heap.size:=h.elim Lib.BuilderAtF.lt Lib.BuilderAtF.lt
theorem yV.drewN {B:Nat} {l:Bs} {w:World} (h:yV B l w) (q:Nat):yV B l (w.drewN q):=h
theorem MF (B:Nat) (l x:Bs) (w:World) (h:yV B l w) (hlen:l.length+x.length≤140737488355328):
  Calls Tryz.prog 137 #[.pointer (some ⟨B,0,none⟩),.string (bs x)] w fun e w'=>e=.returned (.tuple #[.int .i64 x.length,.nilIface])∧yV B (l++x) w'∧Below B w w'∧Lib.OthersKept 5 (some B) w w':=by
 refine(Any.Builder_WriteString_k Qn DJ B B _ (bs x) w h (by rw[Lib.byteCells_length,jJ];exact hlen) (Nat.le_of_lt h.lt)).mono ?_;rintro e w' ⟨rfl,h1,h2,h3⟩;refine⟨by rw[jJ],Or.inr ?_,h2,h3⟩;rw[Lib.byteCells_append];have:Lib.strCells (bs x)=Lib.byteCells x:=rfl;rw[←this];exact h1
theorem Qp (B:Nat) (l:Bs) (c:UInt8) (w:World) (h:yV B l w) (hlen:l.length+1≤140737488355328):
  Calls Tryz.prog 139 #[.pointer (some ⟨B,0,none⟩),.int .u8 c.toNat] w fun e w'=>e=.returned .nilIface∧yV B (l++[c]) w'∧Below B w w'∧Lib.OthersKept 5 (some B) w w':=by
 refine(Any.Builder_WriteByte_k Qo DJ B B _ c.toNat w h (by rw[Lib.byteCells_length];exact hlen) (Nat.le_of_lt h.lt)).mono ?_;rintro e w' ⟨rfl,h1,h2,h3⟩;refine⟨rfl,Or.inr ?_,h2,h3⟩;rw[Lib.byteCells_append];have:[Value.int .u8 (c.toNat:Int)]=Lib.byteCells [c]:=rfl;rw[←this];exact h1
theorem NG (B:Nat) (l:Bs) (w:World) (h:yV B l w):
  Calls Tryz.prog 140 #[.pointer (some ⟨B,0,none⟩)] w fun e w'=>e=.returned (.string (bs l))∧Below B w w':=by
 refine(Tryz.Builder_String_any_k B B l w h (Nat.le_of_lt h.lt)).mono ?_;rintro e w' ⟨rfl,h1,h2,h3⟩;exact⟨rfl,h2⟩
theorem MG (B:Nat) (l s:Bs) (w:World) (h:yV B l w) (hs:s.length<100) (hl:l.length≤1000000):
  Calls Tryz.prog 136 #[.string (bs s),.pointer (some ⟨B,0,none⟩)] w fun e w'=>(∃v,e=.returned v)∧yV B (l++rV s) w'∧Below B w w'∧Lib.OthersKept 5 (some B) w w':=by
 have hd:(Lib.decDigits s.length).length≤2:=by
  by_cases h1:s.length<10
  ·rw[Lib.decDigits_one h1];simp
  rw[Lib.decDigits_two h1 hs];simp
 have HI:Hid (∀w,Calls Tryz.prog 138 #[.int .i64 (s.length:Nat)] w fun e w'=>e=.returned (.string (bs (Lib.decDigits s.length)))∧w'=w):=fun w=>Tryz.strconv_Itoa_small s.length hs w;have H1:=au (MF B l (Lib.decDigits s.length) w h (by omega));have hz:(bs s).size=s.length:=jJ s
 go_enter Tryz.func136,Tryz.ntmps136
 go_wp2_with fail
 refine(HI.out _).mono ?_;rintro e w1 ⟨rfl,rfl⟩
 go_wp2_with fail
 refine H1.out.mono ?_;rintro e w2 ⟨rfl,hB2,hb2,ho2⟩;have H2:=au (Qp B _ 32 w2 hB2 (by rw[List.length_append];omega));have Hb2:=au hb2;have Ho2:=au ho2;clear hB2 hb2 ho2
 go_wp2_with fail
 refine H2.out.mono ?_;rintro e w3 ⟨rfl,hB3,hb3,ho3⟩;have H3:=au (MF B _ s w3 hB3 (by rw[List.length_append,List.length_append,List.length_singleton];omega));have Hb3:=au hb3;have Ho3:=au ho3;clear hB3 hb3 ho3
 go_wp2_with fail
 refine H3.out.mono ?_;rintro e w4 ⟨rfl,hB4,hb4,ho4⟩;have HB4:=au hB4;have Hb4:=au hb4;have Ho4:=au ho4;clear hB4 hb4 ho4;go_wp2;go_end0;refine⟨⟨_,rfl⟩,?_,(Hb2.out.trans Hb3.out).trans Hb4.out,(Ho2.out.trans Ho3.out).trans Ho4.out⟩;have e:l++rV s=l++Lib.decDigits s.length++[32]++s:=by simp[rV]
 rw[e];exact HB4.out
def mH (f:aA):Prop:=f.1.size<100∧f.2.length≤4∧∀s∈f.2,s.size<100
theorem II {s:Bs} (h:s.length<100):(rV s).length≤102:=by
 have hd:(Lib.decDigits s.length).length≤2:=by
  by_cases h1:s.length<10
  ·rw[Lib.decDigits_one h1];simp
  rw[Lib.decDigits_two h1 h];simp
 unfold rV;rw[List.length_append,List.length_cons];omega
theorem qM:∀{l:List ByteArray},(∀s∈l,s.size<100)→(iO l).length≤102*l.length
 |[],_=>by simp[iO]
 |s::l,h=>by have h1:=qM (l:=l) fun t ht=>h t (by simp[ht]);have h2:=II (s:=raw s) (by rw[bZ];exact h s (by simp));simp only[iO,List.length_append,List.length_cons];omega
theorem KV {f:aA} (h:mH f):(uw f).length≤510:=by have:=qM (l:=f.1::f.2) (fun s hs=>(List.mem_cons.1 hs).elim (fun e=>e▸h.1) (h.2.2 s));have:=h.2.1;simp only[List.length_cons] at*;unfold uw;omega
theorem Qq (v:Value) (f:aA) (w:World) (hv:dD w v f) (hs:mH f):
  Calls Tryz.prog 114 #[v] w fun e w'=>e=.returned (.string (bs (uw f)))∧Below w.heap.size w w':=by
 obtain⟨u,rfl,hu⟩:=hv;obtain⟨n,args⟩:=f;obtain⟨a,cap,rfl⟩:=bA hu;dsimp only at*;have HU:=au hu;have hl:=hs.2.1;dsimp only at hl;obtain⟨w1,hw1⟩:∃w1,w1=(w.alloc (.cells #[.string n,.slice a args.length cap] 27)).alloc (.cells #[.pointer none,.slice none 0 0] 192):=⟨_,rfl⟩;have hB1:yV (w.heap.size+1) [] w1:=by rw[hw1];have:=yV.new (w.alloc (.cells #[.string n,.slice a args.length cap] 27));simpa using this
 have hL1:ak w w1:=by rw[hw1];exact((ak.refl w).alloc _).alloc _
 have hA1:w1.heap[w.heap.size]?=some (.cells #[.string n,.slice a args.length cap] 27 (0,0)):=by rw[hw1,Below.heap_alloc _ _ _ (by simp)];exact heap_alloc_new w _
 have H1:=au (MG (w.heap.size+1) [] (raw n) w1 hB1 (by rw[bZ];exact hs.1) (by simp));rw[iT] at H1;have HS:=au hs;have HB0:=au hL1.below;have c0:w1.cell? ⟨w.heap.size,0,none⟩=some (.string n):=by rw[cell_of_row _ _ _ _ _ _ hA1];rfl
 have HA1:=au hA1;rw[hw1] at c0 H1;have hmf:∀(fn:Fn) (first cap:Array Value) (w:World),(Instr.makeFunc fn first cap).run Tryz.prog w=.ok (.func fn first cap) w:=fun _ _ _ _=>rfl;clear hu hs hB1 hL1 hA1
 go_enter Tryz.func114,Tryz.ntmps114
 go_wp2_with fail
 refine H1.out.mono ?_;rintro e w2 ⟨⟨u,rfl⟩,hB2,hb2,ho2⟩;rw[←hw1] at hb2 ho2;have hA2:w2.heap[w.heap.size]?=some (.cells #[.string n,.slice a args.length cap] 27 (0,0)):=ho2 _ _ HA1.out (by simp) (fun c fz e=>by injection e with _ h _;exact absurd h (by decide));have c1:w2.cell? ⟨w.heap.size,1,none⟩=some (.slice a args.length cap):=by rw[cell_of_row _ _ _ _ _ _ hA2];rfl
 have HB2:Hid (yV (w.heap.size+1) (iO (n::args.take 0)) w2):=by show yV _ _ _;simpa[iO] using hB2
 have HL2:Hid (Below w.heap.size w w2):=HB0.out.trans (hb2.mono (Nat.le_succ _));clear hB2 hb2 ho2 hA2 c0 H1 HA1 hw1 HB0 hmf;go_wp2
 go_loopg [15] args.length (fun k i wr=>∃j:Nat,j+k=args.length∧i=.int .i64 j∧Hid (yV (w.heap.size+1) (iO (n::args.take j)) wr)∧Hid (Below w.heap.size w wr))
 case atStart=>exact⟨0,by omega,rfl,HB2,HL2⟩
 obtain⟨j,hj,rfl,HBr,HLr⟩:=hrel
 by_cases hlt:j<args.length
 ·obtain⟨x,hx⟩:∃x,args[j]?=some x:=⟨_,List.getElem?_eq_getElem hlt⟩;have hxm:x∈args:=List.mem_of_getElem? hx;obtain⟨_,a',cap',ea,hc⟩:=HU.out
  injection ea with e1 e2 e3
  subst e1;subst e3;obtain⟨b,off,rfl,hb,hc⟩:=hc (by intro e;rw[e] at hlt;simp at hlt);have d0:wr.cell? ⟨b,off+j,none⟩=some (.string x):=by rw[HLr.out.cell (p:=⟨b,off+j,none⟩) hb,hc j hlt,List.getD_eq_getElem?_getD,hx];rfl
  have hx':iO (n::args.take (j+1))=iO (n::args.take j)++rV (raw x):=by rw[List.take_add_one,hx,←List.cons_append,pO];simp[iO]
  have hlen:=qM (l:=n::args.take j) (fun s hs=>(List.mem_cons.1 hs).elim (fun e=>e▸HS.out.1) (fun h=>HS.out.2.2 s (List.mem_of_mem_take h)));rw[List.length_cons,List.length_take] at hlen;have HC:=au (MG (w.heap.size+1) _ (raw x) wr HBr.out (by rw[bZ];exact HS.out.2.2 x hxm) (by omega));rw[←hx',iT] at HC;clear hc hx hx' hlen hxm
  go_wp2_with fail
  refine HC.out.mono ?_;rintro e w4 ⟨⟨u4,rfl⟩,hB4,hb4,_⟩;have HB4:=au hB4;have Hb4:=au hb4;clear hB4 hb4;go_wp2
  go_roundg (args.length- (j+1))
  case measure=>omega
  case rel=>exact⟨j+1,by omega,by go_num,HB4,HLr.out.trans (Hb4.out.mono (Nat.le_succ _))⟩
 have hj':j=args.length:=by omega
 subst hj';rw[List.take_length] at HBr;have HF:=au (NG _ _ wr HBr.out)
 go_wp2_with fail
 refine HF.out.mono ?_;rintro e w5 ⟨rfl,hb5⟩;have Hb5:=au hb5;clear hb5;go_wp2;go_ret;exact⟨rfl,HLr.out.trans (Hb5.out.mono (Nat.le_succ _))⟩
end Go.Proofs.YtaallngooaaonaaGreatDoor
