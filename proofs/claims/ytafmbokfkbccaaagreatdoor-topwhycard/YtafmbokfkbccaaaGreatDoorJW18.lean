import Derived.Shelf.Strings.OnBuilder
import Derived.Shelf.Strings.BuilderK
import Derived.Shelf.Strconv.Itoa3
import Derived.Shelf.Slices.Turned
import Derived.Test.YtafmbokfkbccaaaGreatDoorProg
import Derived.Lib.ItoaNum
import Derived.Test.YtafmbokfkbccaaaGreatDoorJW13
import Derived.Test.YtafmbokfkbccaaaGreatDoorJW2
import Derived.Test.YtafmbokfkbccaaaGreatDoorJW17
import Derived.Test.YtafmbokfkbccaaaGreatDoorJW6
import Derived.RangeFuncNested
import Derived.RangeFuncBound
import Derived.RangeFuncCalls
import Derived.RangeFuncLeaves
import Derived.Shelf.AbstractIn
import Derived.Shelf.Abstract
import Derived.Sort.MapsRangeIn
import Derived.Sort.KeysCollected
import Derived.Maps.OwnIn
import Derived.Maps.AppendAt
import Derived.WalkKit
import Derived.OwnWalkIn
import Derived.TacticsInMore
import Derived.RegionIn
import Derived.LoopNIn
import Derived.LoopIn
namespace Go.Proofs
open Go.Shelf
def Tryz.laysM171_ren:Go.Shelf.Ren:=⟨fun|171=>229|243=>273|246=>317|283=>338|284=>339|285=>340|286=>341|129=>287|317=>347|318=>348|319=>349|320=>350|337=>355|338=>356|n=>n,fun|3=>3|9=>9|2=>2|4=>4|171=>385|0=>0|53=>345|37=>48|5=>5|173=>387|212=>395|51=>343|20=>20|213=>396|46=>202|232=>400|233=>401|n=>n,fun|17=>0|18=>2|19=>3|n=>n⟩
theorem Tryz.laysM171:Go.Proofs.LaysM.n171 Tryz.prog Tryz.laysM171_ren:={
 mixed:=by kernel_rfl
 f129:=Tryz.func287.trans (congrArg some (by kernel_rfl))
 f171:=Tryz.func229.trans (congrArg some (by kernel_rfl))
 f243:=Tryz.func273.trans (congrArg some (by kernel_rfl))
 f246:=Tryz.func317.trans (congrArg some (by kernel_rfl))
 f283:=Tryz.func338.trans (congrArg some (by kernel_rfl))
 f284:=Tryz.func339.trans (congrArg some (by kernel_rfl))
 f285:=Tryz.func340.trans (congrArg some (by kernel_rfl))
 f286:=Tryz.func341.trans (congrArg some (by kernel_rfl))
 f317:=Tryz.func347.trans (congrArg some (by kernel_rfl))
 f318:=Tryz.func348.trans (congrArg some (by kernel_rfl))
 f319:=Tryz.func349.trans (congrArg some (by kernel_rfl))
 f320:=Tryz.func350.trans (congrArg some (by kernel_rfl))
 f337:=Tryz.func355.trans (congrArg some (by kernel_rfl))
 f338:=Tryz.func356.trans (congrArg some (by kernel_rfl))
 t0:=Tryz.underlying0
 a0:=Tryz.isAgg0
 z0:=Tryz.sizeOf0
 v0:=Tryz.zeroValue0
 t2:=Tryz.underlying2
 a2:=Tryz.isAgg2
 z2:=Tryz.sizeOf2
 v2:=Tryz.zeroValue2
 t3:=Tryz.underlying3
 a3:=Tryz.isAgg3
 z3:=Tryz.sizeOf3
 v3:=Tryz.zeroValue3
 t4:=Tryz.underlying4
 a4:=Tryz.isAgg4
 z4:=Tryz.sizeOf4
 v4:=Tryz.zeroValue4
 t5:=Tryz.underlying5
 a5:=Tryz.isAgg5
 z5:=Tryz.sizeOf5
 v5:=Tryz.zeroValue5
 t9:=Tryz.underlying9
 a9:=Tryz.isAgg9
 z9:=Tryz.sizeOf9
 v9:=Tryz.zeroValue9
 t20:=Tryz.underlying20
 a20:=Tryz.isAgg20
 z20:=Tryz.sizeOf20
 v20:=Tryz.zeroValue20
 t37:=Tryz.underlying48
 a37:=Tryz.isAgg48
 z37:=Tryz.sizeOf48
 v37:=Tryz.zeroValue48
 t46:=Tryz.underlying202
 a46:=Tryz.isAgg202
 z46:=Tryz.sizeOf202
 v46:=Tryz.zeroValue202
 t51:=Tryz.underlying343
 a51:=Tryz.isAgg343
 z51:=Tryz.sizeOf343
 v51:=Tryz.zeroValue343
 t53:=Tryz.underlying345
 a53:=Tryz.isAgg345
 z53:=Tryz.sizeOf345
 v53:=Tryz.zeroValue345
 t171:=Tryz.underlying385
 a171:=Tryz.isAgg385
 z171:=Tryz.sizeOf385
 v171:=Tryz.zeroValue385
 t173:=Tryz.underlying387
 a173:=Tryz.isAgg387
 z173:=Tryz.sizeOf387
 v173:=Tryz.zeroValue387
 t212:=Tryz.underlying395
 a212:=Tryz.isAgg395
 z212:=Tryz.sizeOf395
 v212:=Tryz.zeroValue395
 t213:=Tryz.underlying396
 a213:=Tryz.isAgg396
 z213:=Tryz.sizeOf396
 t232:=Tryz.underlying400
 a232:=Tryz.isAgg400
 z232:=Tryz.sizeOf400
 v232:=Tryz.zeroValue400
 t233:=Tryz.underlying401
 a233:=Tryz.isAgg401
 z233:=Tryz.sizeOf401
 v233:=Tryz.zeroValue401
 g17:=by kernel_rfl
 g18:=by kernel_rfl
 g19:=by kernel_rfl
 i0:=by kernel_rfl
 i2:=by kernel_rfl
 i3:=by kernel_rfl
 i4:=by kernel_rfl
 i5:=by kernel_rfl
 i9:=by kernel_rfl
 i20:=by kernel_rfl
 i37:=by kernel_rfl
 i46:=by kernel_rfl
 i51:=by kernel_rfl
 i53:=by kernel_rfl
 i171:=by kernel_rfl
 i173:=by kernel_rfl
 i212:=by kernel_rfl
 i232:=by kernel_rfl
 i233:=by kernel_rfl
 m17:=by kernel_rfl
 m18:=by kernel_rfl
 m19:=by kernel_rfl}
open Go.RowKit Go.Sort Go.Lib in
theorem Tryz.strconv_Itoa (n:Int) (h0: -9223372036854775808≤n) (h1:n≤9223372036854775807) (w:World) (htab:Lib.TabIs Tryz.prog w "internal/strconv.uint64pow10" .u64 Lib.pow10Tab):
  Calls Tryz.prog 229 #[.int .i64 n] w fun e w'=>e=.returned (.string ⟨(Lib.itoa n).toArray⟩)∧∃k os,w'=grow (w.drewN k) os:=Any.strconv_Itoa Tryz.laysM171 n h0 h1 w htab
def Tryz.lays171_ren:Go.Shelf.Ren:=⟨fun|171=>229|243=>273|246=>317|283=>338|284=>339|285=>340|286=>341|129=>287|317=>347|318=>348|319=>349|320=>350|337=>355|338=>356|n=>n,fun|3=>3|9=>9|2=>2|4=>4|171=>385|0=>0|53=>345|37=>48|5=>5|173=>387|212=>395|51=>343|20=>20|213=>396|46=>202|232=>400|233=>401|n=>n,fun|17=>0|18=>2|19=>3|n=>n⟩
theorem Tryz.lays171:Go.Proofs.Lays.n171 Tryz.prog Tryz.lays171_ren:={
 mixed:=by kernel_rfl
 f129:=Tryz.func287.trans (congrArg some (by kernel_rfl))
 f171:=Tryz.func229.trans (congrArg some (by kernel_rfl))
 f243:=Tryz.func273.trans (congrArg some (by kernel_rfl))
 f246:=Tryz.func317.trans (congrArg some (by kernel_rfl))
 f283:=Tryz.func338.trans (congrArg some (by kernel_rfl))
 f284:=Tryz.func339.trans (congrArg some (by kernel_rfl))
 f285:=Tryz.func340.trans (congrArg some (by kernel_rfl))
 f286:=Tryz.func341.trans (congrArg some (by kernel_rfl))
 f317:=Tryz.func347.trans (congrArg some (by kernel_rfl))
 f318:=Tryz.func348.trans (congrArg some (by kernel_rfl))
 f319:=Tryz.func349.trans (congrArg some (by kernel_rfl))
 f320:=Tryz.func350.trans (congrArg some (by kernel_rfl))
 f337:=Tryz.func355.trans (congrArg some (by kernel_rfl))
 f338:=Tryz.func356.trans (congrArg some (by kernel_rfl))
 t0:=Tryz.underlying0
 a0:=Tryz.isAgg0
 z0:=Tryz.sizeOf0
 v0:=Tryz.zeroValue0
 t2:=Tryz.underlying2
 a2:=Tryz.isAgg2
 z2:=Tryz.sizeOf2
 v2:=Tryz.zeroValue2
 t3:=Tryz.underlying3
 a3:=Tryz.isAgg3
 z3:=Tryz.sizeOf3
 v3:=Tryz.zeroValue3
 t4:=Tryz.underlying4
 a4:=Tryz.isAgg4
 z4:=Tryz.sizeOf4
 v4:=Tryz.zeroValue4
 t5:=Tryz.underlying5
 a5:=Tryz.isAgg5
 z5:=Tryz.sizeOf5
 v5:=Tryz.zeroValue5
 t9:=Tryz.underlying9
 a9:=Tryz.isAgg9
 z9:=Tryz.sizeOf9
 v9:=Tryz.zeroValue9
 t20:=Tryz.underlying20
 a20:=Tryz.isAgg20
 z20:=Tryz.sizeOf20
 v20:=Tryz.zeroValue20
 t37:=Tryz.underlying48
 a37:=Tryz.isAgg48
 z37:=Tryz.sizeOf48
 v37:=Tryz.zeroValue48
 t46:=Tryz.underlying202
 a46:=Tryz.isAgg202
 z46:=Tryz.sizeOf202
 v46:=Tryz.zeroValue202
 t51:=Tryz.underlying343
 a51:=Tryz.isAgg343
 z51:=Tryz.sizeOf343
 v51:=Tryz.zeroValue343
 t53:=Tryz.underlying345
 a53:=Tryz.isAgg345
 z53:=Tryz.sizeOf345
 v53:=Tryz.zeroValue345
 t171:=Tryz.underlying385
 a171:=Tryz.isAgg385
 z171:=Tryz.sizeOf385
 v171:=Tryz.zeroValue385
 t173:=Tryz.underlying387
 a173:=Tryz.isAgg387
 z173:=Tryz.sizeOf387
 v173:=Tryz.zeroValue387
 t212:=Tryz.underlying395
 a212:=Tryz.isAgg395
 z212:=Tryz.sizeOf395
 v212:=Tryz.zeroValue395
 t213:=Tryz.underlying396
 a213:=Tryz.isAgg396
 z213:=Tryz.sizeOf396
 t232:=Tryz.underlying400
 a232:=Tryz.isAgg400
 z232:=Tryz.sizeOf400
 v232:=Tryz.zeroValue400
 t233:=Tryz.underlying401
 a233:=Tryz.isAgg401
 z233:=Tryz.sizeOf401
 v233:=Tryz.zeroValue401
 g17:=by kernel_rfl
 g18:=by kernel_rfl
 g19:=by kernel_rfl}
open Go.RowKit Go.Sort Go.Lib in
theorem Tryz.strconv_Itoa_small (i:Nat) (hi:i<100) (w:World):
  Calls Tryz.prog 229 #[.int .i64 i] w fun e w'=>e=.returned (.string ⟨(Lib.decDigits i).toArray⟩)∧w'=w:=Any.strconv_Itoa_small Tryz.lays171 i hi w
def Tryz.lays113_ren:Go.Shelf.Ren:=⟨fun|113=>124|n=>n,fun|28=>39|3=>3|4=>4|9=>9|20=>20|0=>0|n=>n,fun|n=>n⟩
theorem Tryz.lays113:Go.Proofs.Lays.n113 Tryz.prog Tryz.lays113_ren:={
 mixed:=by kernel_rfl
 f113:=Tryz.func124.trans (congrArg some (by kernel_rfl))
 t0:=Tryz.underlying0
 a0:=Tryz.isAgg0
 z0:=Tryz.sizeOf0
 v0:=Tryz.zeroValue0
 t3:=Tryz.underlying3
 a3:=Tryz.isAgg3
 z3:=Tryz.sizeOf3
 v3:=Tryz.zeroValue3
 t4:=Tryz.underlying4
 a4:=Tryz.isAgg4
 z4:=Tryz.sizeOf4
 v4:=Tryz.zeroValue4
 t9:=Tryz.underlying9
 a9:=Tryz.isAgg9
 z9:=Tryz.sizeOf9
 v9:=Tryz.zeroValue9
 t20:=Tryz.underlying20
 a20:=Tryz.isAgg20
 z20:=Tryz.sizeOf20
 v20:=Tryz.zeroValue20
 t28:=Tryz.underlying39
 a28:=Tryz.isAgg39
 z28:=Tryz.sizeOf39
 v28:=Tryz.zeroValue39}
open Go.Lib in
theorem Tryz.slices_Max_int (b off n c:Nat) (zs:List Int) (w:World) (hn:0<n) (hz:n≤zs.length) (hbig:n≤9223372036854775807) (hc:∀j,j<zs.length→w.cell? ⟨b,off+j,none⟩=some (.int .i64 (zs.getD j 0))):
  Calls Tryz.prog 124 #[.slice (some ⟨b,off,none⟩) n c] w fun e w'=>e=.returned (.int .i64 (Lib.maxOf (zs.take n)))∧w'=w:=Any.slices_Max_int Tryz.lays113 b off n c zs w hn hz hbig hc
end Go.Proofs
namespace Go.Proofs.YtafmbokfkbccaaaGreatDoor
open Go.RowKit Go.Sort Go.Maps
theorem kR {a:Nat} (h:a<10):(UInt8.ofNat (48+a)).toNat=48+a:=by
 rw[UInt8.toNat_ofNat'];exact Nat.mod_eq_of_lt (by omega)
theorem o7 (u:Nat):Lib.decDigits u≠[]:=by
 rw[Lib.decDigits];split <;> simp
theorem wI:∀(u v:Nat),Lib.decDigits u=Lib.decDigits v→u=v:=by
 intro u
 induction u using Nat.strongRecOn with
 |ind u ih=>
  intro v h;rw[Lib.decDigits,Lib.decDigits.eq_1 v] at h;split at h <;> split at h
  ·rename_i h1 h2;have:=List.cons.inj h;have:=congrArg UInt8.toNat this.1;rw[kR h1,kR h2] at this;omega
  ·rename_i h1 h2;have:=congrArg List.length h;have h3:=List.length_pos_iff.2 (o7 (v/10));rw[List.length_append,List.length_singleton,List.length_singleton] at this;omega
  ·rename_i h1 h2;have:=congrArg List.length h;have h3:=List.length_pos_iff.2 (o7 (u/10));rw[List.length_append,List.length_singleton,List.length_singleton] at this;omega
  ·rename_i h1 h2;obtain⟨h3,h4⟩:=List.append_inj' h rfl;have h5:=ih (u/10) (by omega) (v/10) h3;have h6:=congrArg UInt8.toNat (List.cons.inj h4).1;rw[kR (Nat.mod_lt _ (by omega)),kR (Nat.mod_lt _ (by omega))] at h6;omega
theorem lT:∀(u:Nat),(32:UInt8)∉Lib.decDigits u:=by
 intro u
 induction u using Nat.strongRecOn with
 |ind u ih=>
  have key:∀a,a<10→(32:UInt8)≠UInt8.ofNat (48+a):=fun a ha e=>by
   have:=congrArg UInt8.toNat e;rw[kR ha] at this;have h32:(32:UInt8).toNat=32:=rfl;omega
  rw[Lib.decDigits];split
  ·rename_i h;simp only[List.mem_singleton];exact key u h
  ·rename_i h;rw[List.mem_append];rintro(h1|h1)
   ·exact ih (u/10) (by omega) h1
   ·simp only[List.mem_singleton] at h1;exact key _ (Nat.mod_lt _ (by omega)) h1
theorem MJ:∀{a b x y:Bs},32∉a→32∉b→a++32::x=b++32::y→a=b∧x=y
 |[],[],x,y,_,_,h=>⟨rfl,(List.cons.inj h).2⟩
 |[],c::b,x,y,_,hb,h=>by
  have:=(List.cons.inj h).1;exact absurd (by rw[this];simp) hb
 |c::a,[],x,y,ha,_,h=>by
  have:=(List.cons.inj h).1;exact absurd (by rw[←this];simp) ha
 |c::a,d::b,x,y,ha,hb,h=>by
  obtain⟨h1,h2⟩:=List.cons.inj h;obtain⟨h3,h4⟩:=MJ (a:=a) (b:=b) (fun h=>ha (by simp[h])) (fun h=>hb (by simp[h])) h2;exact⟨by rw[h1,h3],h4⟩
def pI (s:Bs):Bs:=Lib.decDigits s.length++32::s
theorem FJ {s t x y:Bs} (h:pI s++x=pI t++y):s=t∧x=y:=by
 unfold pI at h;rw[List.append_assoc,List.append_assoc,List.cons_append,List.cons_append] at h;obtain⟨h1,h2⟩:=MJ (lT _) (lT _) h;exact List.append_inj h2 (wI _ _ h1)
def iE:List ByteArray→Bs
 |[]=>[]
 |s::l=>pI (raw s)++iE l
theorem uJ:∀{l m:List ByteArray},iE l=iE m→l=m
 |[],[],_=>rfl
 |[],s::m,h=>by simp[iE,pI] at h
 |s::l,[],h=>by simp[iE,pI] at h
 |s::l,t::m,h=>by
  obtain⟨h1,h2⟩:=FJ h;rw[←ko s,h1,ko,uJ h2]
theorem nE:∀(l m:List ByteArray),iE (l++m)=iE l++iE m
 |[],m=>rfl
 |s::l,m=>by simp[iE,nE l m]
def rE (f:aj):Bs:=iE (f.1::f.2)
theorem wJ {f g:aj} (h:rE f=rE g):f=g:=by
 have:=uJ h;obtain⟨h1,h2⟩:=List.cons.inj this;exact Prod.ext h1 h2
abbrev Two:=ByteArray×Option Addr×Nat×Nat
def yU (x:Two):Value:=.agg #[.string x.1,.slice x.2.1 x.2.2.1 x.2.2.2]
def FK (v:Value):Option Two:=match v with
 | .agg a=>match a.toList with
  |[.string s,.slice p n c]=>some (s,p,n,c)
  |_=>none
 |_=>none
theorem yV (x:Two):FK (yU x)=some x:=rfl
theorem FM {v:Value} {x:Two} (h:FK v=some x):v=yU x:=by
 unfold FK at h;split at h
 ·rename_i a;obtain⟨l,rfl⟩:∃l:List Value,a=l.toArray:=⟨a.toList,by simp⟩;simp only at h;split at h
  ·cases h
   rfl
  ·cases h
 ·cases h
def jD (v:Value):Option (DataW Two×List MemPlace):=(FK v).map fun x=>(.held x,[])
theorem Dt (x:Two):jD (yU x)=some (.held x,[]):=rfl
theorem rF {v:Value} {z:DataW Two×List MemPlace} (h:jD v=some z):∃x,v=yU x∧z=(.held x,[]):=by
 unfold jD at h;cases e:FK v with
 |none=>rw[e] at h;cases h
 |some x=>rw[e] at h;cases h;exact⟨x,FM e,rfl⟩
theorem Io {x y:Two} (h:yU x=yU y):x=y:=by
 have:=yV x;rw[h,yV] at this;exact(Option.some.inj this).symm
theorem FN {w:World} {v:Value} {f:aG} (h:bW w v f):∃x,v=yU x:=by
 obtain⟨s,rfl,hs⟩:=h;obtain⟨a,c,rfl⟩:=aW hs;exact⟨(f.1,a,_,c),rfl⟩
def fI (P:Program) (K:TypeId) (w:World) (b n:Nat) (L:List aj):Prop:=
 ∃D:DataW Two,w.ownsMap P K jD b n D∧(∀s,Maps.has D (.string s)=true↔∃f∈L,rE f=s)∧(∀f∈L,∃x,D.atKey (.string (rE f)) .nil=.held x∧bW w (yU x) f)∧Maps.size D=(eY L).length
theorem fI.made (P:Program) (K:TypeId) (w:World):fI P K (w.alloc (.map #[] 0)) w.heap.size 0 []:=
 ⟨.map [],World.ownsMap_made _ _ _ _,fun s=>by simp[Maps.has],fun f hf=>(by cases hf),by simp[Maps.size,eY,fH,iW]⟩
section
variable {P:Program} {K:TypeId} {w w':World} {b n:Nat} {L:List aj}
theorem fI.lt (h:fI P K w b n L):b<w.heap.size:=by obtain⟨D,h,_⟩:=h;exact h.lt
theorem fI.later (h:fI P K w b n L) (k:Later w w'):fI P K w' b n L:=by
 obtain⟨D,h,h1,h2,h3⟩:=h;exact⟨D,eT h (k.block h.lt),h1,fun f hf=>by obtain⟨x,e,hx⟩:=h2 f hf;exact⟨x,e,hx.later k⟩,h3⟩
theorem fI.mono (h:fI P K w b n L) {n':Nat} (hn:n≤n'):fI P K w b n' L:=by obtain⟨D,h,hf⟩:=h;exact⟨D,h.mono hn,hf⟩
theorem fI.few (h:fI P K w b n L):(eY L).length≤n:=by obtain⟨D,h,_,_,h3⟩:=h;rw[←h3];exact h.size_le
theorem FP {L:List aj} {f:aj}:(eY (L++[f])).length=if inB L f then(eY L).length else(eY L).length+1:=by
 split
 ·rename_i h;have h:=aN.1 h;rw[CP (l:=L++[f]) (m:=L) fun g=>by
   rw[List.mem_append,List.mem_singleton];exact⟨fun h'=>h'.elim id (fun e=>by rw[e];exact h),Or.inl⟩]
 ·rename_i h;have h:f∉L:=fun h'=>h (aN.2 h');have h1:(f::eY L).Nodup:=List.nodup_cons.2 ⟨fun h'=>h (bO.1 h'),pV (gF L)⟩;have e:∀g,g∈eY (L++[f])↔g∈f::eY L:=fun g=>by
   rw[bO,List.mem_append,List.mem_singleton,List.mem_cons,bO];exact⟨fun h=>h.symm,fun h=>h.symm⟩
  have a:=qE (pV (gF (L++[f]))) fun g hg=>(e g).1 hg;have b:=qE h1 fun g hg=>(e g).2 hg;simp only[List.length_cons] at a b;omega
theorem fI.store {E T:TypeId} (h:fI P K w b n L) (hk:P.underlying K=some .string) (ht:P.underlying T=some (.map K E)) (hn:n<maxLen) {f:aj} {v:Value} (hv:bW w v f) (hf:(rE f).length≤maxLen):
  ∃w',(Instr.mapUpdate T (.map (some b)) (.string (bs (rE f))) v).run P w=.ok () w'∧w.grownBy w' (some b)∧((∀g∈L++[f],∀u,bW w u g→bW w' u g)→fI P K w' b (n+1) (L++[f])):=by
 obtain⟨D,hown,h1,h2,h3⟩:=h;obtain⟨x,rfl⟩:=FN hv;obtain⟨w',hrun,r1,r2⟩:=hown.update (string_keyed hk) ht hn (oN hk hf) (Dt x);have hhas:Maps.has D (.string (rE f))=inB L f:=by
  cases e:inB L f with
  |true=>exact(h1 _).2 ⟨f,aN.1 e,rfl⟩
  |false=>
   cases e2:Maps.has D (.string (rE f)) with
   |false=>rfl
   |true=>
    obtain⟨g,hg,hgf⟩:=(h1 _).1 e2;rw[wJ hgf] at hg;rw[aN.2 hg] at e;cases e
 refine⟨w',hrun,r2,fun hkeep=>⟨_,r1,fun s=> ?_,fun g hg=> ?_,?_⟩⟩
 ·by_cases e:s=rE f
  ·subst e;rw[has_put_same hown.isMap (JL _)];simp only[true_iff];exact⟨f,by simp,rfl⟩
  ·rw[has_put_other (qp e),h1]
   constructor
   ·rintro⟨g,hg,hs⟩;exact⟨g,by simp[hg],hs⟩
   ·rintro⟨g,hg,hs⟩;rcases List.mem_append.1 hg with hg|hg
    ·exact⟨g,hg,hs⟩
    ·simp only[List.mem_singleton] at hg;subst hg;exact absurd hs.symm e
 ·by_cases e:g=f
  ·subst e;exact⟨x,by rw[atKey_put_same hown.isMap (JL _)],hkeep g hg _ hv⟩
  ·have hgL:g∈L:=(List.mem_append.1 hg).elim id (fun h=>absurd (List.mem_singleton.1 h) e);obtain⟨y,hy,hfy⟩:=h2 g hgL;exact⟨y,by rw[atKey_put_other (qp fun h=>e (wJ h))];exact hy,hkeep g hg _ hfy⟩
 ·rw[size_put (hown.tidy (string_keyed hk)),hhas,FP,h3]
theorem fI.len {E T:TypeId} (h:fI P K w b n L) (ht:P.underlying T=some (.map K E)) (ty:TypeId):(Builtin.len_ #[T] ty #[.map (some b)]).run P w=.ok (.int .i64 ((eY L).length:Nat)) w:=by
 obtain⟨D,hown,_,_,h3⟩:=h;rw[hown.len ht,h3]
end
end Go.Proofs.YtafmbokfkbccaaaGreatDoor
namespace Go.Proofs.YtafmbokfkbccaaaGreatDoor
open Go.RowKit Go.Sort Go.Shelf
def FQ:Go.Shelf.Ren:=⟨fun|166=>228|167=>230|240=>272|276=>316|n=>n,fun|0=>0|3=>3|4=>4|5=>5|9=>9|20=>20|37=>48|70=>295|72=>297|75=>299|80=>138|164=>367|n=>n,fun|n=>n⟩
theorem MK:Go.Proofs.Lays.n166 Tryz.prog FQ:={
 mixed:=by kernel_rfl
 f166:=Tryz.func228.trans (congrArg some (by kernel_rfl))
 f240:=Tryz.func272.trans (congrArg some (by kernel_rfl))
 f276:=Tryz.func316.trans (congrArg some (by kernel_rfl))
 t0:=Tryz.underlying0
 a0:=Tryz.isAgg0
 z0:=Tryz.sizeOf0
 v0:=Tryz.zeroValue0
 t3:=Tryz.underlying3
 a3:=Tryz.isAgg3
 z3:=Tryz.sizeOf3
 v3:=Tryz.zeroValue3
 t4:=Tryz.underlying4
 a4:=Tryz.isAgg4
 z4:=Tryz.sizeOf4
 v4:=Tryz.zeroValue4
 t9:=Tryz.underlying9
 a9:=Tryz.isAgg9
 z9:=Tryz.sizeOf9
 v9:=Tryz.zeroValue9
 t20:=Tryz.underlying20
 a20:=Tryz.isAgg20
 z20:=Tryz.sizeOf20
 v20:=Tryz.zeroValue20
 t37:=Tryz.underlying48
 a37:=Tryz.isAgg48
 z37:=Tryz.sizeOf48
 v37:=Tryz.zeroValue48
 t70:=Tryz.underlying295
 a70:=Tryz.isAgg295
 z70:=Tryz.sizeOf295
 v70:=Tryz.zeroValue295
 t72:=Tryz.underlying297
 a72:=Tryz.isAgg297
 z72:=Tryz.sizeOf297
 v72:=Tryz.zeroValue297
 t75:=Tryz.underlying299
 a75:=Tryz.isAgg299
 z75:=Tryz.sizeOf299
 v75:=Tryz.zeroValue299
 t164:=Tryz.underlying367
 a164:=Tryz.isAgg367
 z164:=Tryz.sizeOf367
 v164:=Tryz.zeroValue367}
theorem ML:Go.Proofs.Lays.n167 Tryz.prog FQ:={
 mixed:=by kernel_rfl
 f167:=Tryz.func230.trans (congrArg some (by kernel_rfl))
 f240:=Tryz.func272.trans (congrArg some (by kernel_rfl))
 f276:=Tryz.func316.trans (congrArg some (by kernel_rfl))
 t0:=Tryz.underlying0
 a0:=Tryz.isAgg0
 z0:=Tryz.sizeOf0
 v0:=Tryz.zeroValue0
 t4:=Tryz.underlying4
 a4:=Tryz.isAgg4
 z4:=Tryz.sizeOf4
 v4:=Tryz.zeroValue4
 t5:=Tryz.underlying5
 a5:=Tryz.isAgg5
 z5:=Tryz.sizeOf5
 v5:=Tryz.zeroValue5
 t9:=Tryz.underlying9
 a9:=Tryz.isAgg9
 z9:=Tryz.sizeOf9
 v9:=Tryz.zeroValue9
 t20:=Tryz.underlying20
 a20:=Tryz.isAgg20
 z20:=Tryz.sizeOf20
 v20:=Tryz.zeroValue20
 t37:=Tryz.underlying48
 a37:=Tryz.isAgg48
 z37:=Tryz.sizeOf48
 v37:=Tryz.zeroValue48
 t70:=Tryz.underlying295
 a70:=Tryz.isAgg295
 z70:=Tryz.sizeOf295
 v70:=Tryz.zeroValue295
 t72:=Tryz.underlying297
 a72:=Tryz.isAgg297
 z72:=Tryz.sizeOf297
 v72:=Tryz.zeroValue297
 t75:=Tryz.underlying299
 a75:=Tryz.isAgg299
 z75:=Tryz.sizeOf299
 v75:=Tryz.zeroValue299
 t164:=Tryz.underlying367
 a164:=Tryz.isAgg367
 z164:=Tryz.sizeOf367
 v164:=Tryz.zeroValue367}
theorem Cb:Builder.Extra Tryz.prog FQ:={
 sizeBuilder:=by kernel_rfl
 liesBuilder:=by kernel_rfl
 t5:=Tryz.underlying5
 a5:=Tryz.isAgg5
 z5:=Tryz.sizeOf5
 v5:=Tryz.zeroValue5
 infoByte:=by kernel_rfl
 cellsByte:=by kernel_rfl
 sizeByte:=by kernel_rfl
 neB5:=by decide}
def wK (B:Nat) (l:Bs) (w:World):Prop:=Lib.IsBuilderF 297 5 B B (Lib.byteCells l) w
theorem wK.new (w:World):wK w.heap.size [] (w.alloc (.cells #[.pointer none,.slice none 0 0] 297)):=
 Lib.IsBuilderF.of (Or.inl ⟨Nat.le_refl _,.slice none 0 0,heap_alloc_new w _,World.ownsRow_nil _ _ _ _,by simp[Value.ownBlock]⟩)
theorem wK.lt {B:Nat} {l:Bs} {w:World} (h:wK B l w):B<w.heap.size:=h.elim Lib.BuilderAtF.lt Lib.BuilderAtF.lt
theorem wK.drewN {B:Nat} {l:Bs} {w:World} (h:wK B l w) (q:Nat):wK B l (w.drewN q):=h
theorem Jt (B:Nat) (l x:Bs) (w:World) (h:wK B l w) (hlen:l.length+x.length≤140737488355328):
  Calls Tryz.prog 228 #[.pointer (some ⟨B,0,none⟩),.string (bs x)] w fun e w'=>e=.returned (.tuple #[.int .i64 x.length,.nilIface])∧wK B (l++x) w'∧Below B w w'∧Lib.OthersKept 5 (some B) w w':=by
 refine(Any.Builder_WriteString_k MK Cb B B _ (bs x) w h (by rw[Lib.byteCells_length,iQ];exact hlen) (Nat.le_of_lt h.lt)).mono ?_;rintro e w' ⟨rfl,h1,h2,h3⟩;refine⟨by rw[iQ],Or.inr ?_,h2,h3⟩;rw[Lib.byteCells_append];have:Lib.strCells (bs x)=Lib.byteCells x:=rfl;rw[←this];exact h1
theorem MN (B:Nat) (l:Bs) (c:UInt8) (w:World) (h:wK B l w) (hlen:l.length+1≤140737488355328):
  Calls Tryz.prog 230 #[.pointer (some ⟨B,0,none⟩),.int .u8 c.toNat] w fun e w'=>e=.returned .nilIface∧wK B (l++[c]) w'∧Below B w w'∧Lib.OthersKept 5 (some B) w w':=by
 refine(Any.Builder_WriteByte_k ML Cb B B _ c.toNat w h (by rw[Lib.byteCells_length];exact hlen) (Nat.le_of_lt h.lt)).mono ?_;rintro e w' ⟨rfl,h1,h2,h3⟩;refine⟨rfl,Or.inr ?_,h2,h3⟩;rw[Lib.byteCells_append];have:[Value.int .u8 (c.toNat:Int)]=Lib.byteCells [c]:=rfl;rw[←this];exact h1
theorem Ko (B:Nat) (l:Bs) (w:World) (h:wK B l w):
  Calls Tryz.prog 231 #[.pointer (some ⟨B,0,none⟩)] w fun e w'=>e=.returned (.string (bs l))∧Below B w w':=by
 refine(Tryz.Builder_String_any_k B B l w h (Nat.le_of_lt h.lt)).mono ?_;rintro e w' ⟨rfl,h1,h2,h3⟩;exact⟨rfl,h2⟩
set_option maxHeartbeats 1000000 in
theorem Ju (B:Nat) (l s:Bs) (w:World) (h:wK B l w) (hs:s.length<100) (hl:l.length≤1000000):
  Calls Tryz.prog 227 #[.string (bs s),.pointer (some ⟨B,0,none⟩)] w fun e w'=>(∃v,e=.returned v)∧wK B (l++pI s) w'∧Below B w w'∧Lib.OthersKept 5 (some B) w w':=by
 have hd:(Lib.decDigits s.length).length≤2:=by
  by_cases h1:s.length<10
  ·rw[Lib.decDigits_one h1];simp
  ·rw[Lib.decDigits_two h1 hs];simp
 have HI:Hid (∀w,Calls Tryz.prog 229 #[.int .i64 (s.length:Nat)] w fun e w'=>e=.returned (.string (bs (Lib.decDigits s.length)))∧w'=w):=fun w=>Tryz.strconv_Itoa_small s.length hs w;have H1:=hide (Jt B l (Lib.decDigits s.length) w h (by omega));have hz:(bs s).size=s.length:=iQ s
 go_enter Tryz.func227,Tryz.ntmps227
 go_wp2_with fail
 refine(HI.out _).mono ?_;rintro e w1 ⟨rfl,rfl⟩
 go_wp2_with fail
 refine H1.out.mono ?_;rintro e w2 ⟨rfl,hB2,hb2,ho2⟩;have H2:=hide (MN B _ 32 w2 hB2 (by rw[List.length_append];omega));have Hb2:=hide hb2;have Ho2:=hide ho2;clear hB2 hb2 ho2
 go_wp2_with fail
 refine H2.out.mono ?_;rintro e w3 ⟨rfl,hB3,hb3,ho3⟩;have H3:=hide (Jt B _ s w3 hB3 (by rw[List.length_append,List.length_append,List.length_singleton];omega));have Hb3:=hide hb3;have Ho3:=hide ho3;clear hB3 hb3 ho3
 go_wp2_with fail
 refine H3.out.mono ?_;rintro e w4 ⟨rfl,hB4,hb4,ho4⟩;have HB4:=hide hB4;have Hb4:=hide hb4;have Ho4:=hide ho4;clear hB4 hb4 ho4;go_wp2;go_end0;refine⟨⟨_,rfl⟩,?_,(Hb2.out.trans Hb3.out).trans Hb4.out,(Ho2.out.trans Ho3.out).trans Ho4.out⟩;have e:l++pI s=l++Lib.decDigits s.length++[32]++s:=by simp[pI]
 rw[e];exact HB4.out
def kS (f:aj):Prop:=f.1.size<100∧f.2.length≤4∧∀s∈f.2,s.size<100
theorem FR {s:Bs} (h:s.length<100):(pI s).length≤102:=by
 have hd:(Lib.decDigits s.length).length≤2:=by
  by_cases h1:s.length<10
  ·rw[Lib.decDigits_one h1];simp
  ·rw[Lib.decDigits_two h1 h];simp
 unfold pI;rw[List.length_append,List.length_cons];omega
theorem ou:∀{l:List ByteArray},(∀s∈l,s.size<100)→(iE l).length≤102*l.length
 |[],_=>by simp[iE]
 |s::l,h=>by
  have h1:=ou (l:=l) fun t ht=>h t (by simp[ht]);have h2:=FR (s:=raw s) (by rw[bq];exact h s (by simp));simp only[iE,List.length_append,List.length_cons];omega
theorem Ip {f:aj} (h:kS f):(rE f).length≤510:=by
 have:=ou (l:=f.1::f.2) (fun s hs=>(List.mem_cons.1 hs).elim (fun e=>e▸h.1) (h.2.2 s));have:=h.2.1;simp only[List.length_cons] at*;unfold rE;omega
set_option maxHeartbeats 1000000 in
theorem MO (v:Value) (f:aj) (w:World) (hv:bW w v f) (hs:kS f):
  Calls Tryz.prog 166 #[v] w fun e w'=>e=.returned (.string (bs (rE f)))∧Below w.heap.size w w':=by
 obtain⟨u,rfl,hu⟩:=hv;obtain⟨n,args⟩:=f;obtain⟨a,cap,rfl⟩:=aW hu;dsimp only at*;have HU:=hide hu;have hl:=hs.2.1;dsimp only at hl;obtain⟨w1,hw1⟩:∃w1,w1=(w.alloc (.cells #[.string n,.slice a args.length cap] 27)).alloc (.cells #[.pointer none,.slice none 0 0] 297):=⟨_,rfl⟩;have hB1:wK (w.heap.size+1) [] w1:=by
  rw[hw1];have:=wK.new (w.alloc (.cells #[.string n,.slice a args.length cap] 27));simpa using this
 have hL1:Later w w1:=by rw[hw1];exact((Later.refl w).alloc _).alloc _
 have hA1:w1.heap[w.heap.size]?=some (.cells #[.string n,.slice a args.length cap] 27 (0,0)):=by
  rw[hw1,Below.heap_alloc _ _ _ (by simp)];exact heap_alloc_new w _
 have H1:=hide (Ju (w.heap.size+1) [] (raw n) w1 hB1 (by rw[bq];exact hs.1) (by simp));rw[ko] at H1;have HS:=hide hs;have HB0:=hide hL1.below;have c0:w1.cell? ⟨w.heap.size,0,none⟩=some (.string n):=by rw[cell_of_row _ _ _ _ _ _ hA1];rfl
 have HA1:=hide hA1;rw[hw1] at c0 H1;have hmf:∀(fn:Fn) (first cap:Array Value) (w:World),(Instr.makeFunc fn first cap).run Tryz.prog w=.ok (.func fn first cap) w:=fun _ _ _ _=>rfl;clear hu hs hB1 hL1 hA1
 go_enter Tryz.func166,Tryz.ntmps166
 go_wp2_with fail
 refine H1.out.mono ?_;rintro e w2 ⟨⟨u,rfl⟩,hB2,hb2,ho2⟩;rw[←hw1] at hb2 ho2;have hA2:w2.heap[w.heap.size]?=some (.cells #[.string n,.slice a args.length cap] 27 (0,0)):=ho2 _ _ HA1.out (by simp) (fun c fz e=>by injection e with _ h _;exact absurd h (by decide));have c1:w2.cell? ⟨w.heap.size,1,none⟩=some (.slice a args.length cap):=by rw[cell_of_row _ _ _ _ _ _ hA2];rfl
 have HB2:Hid (wK (w.heap.size+1) (iE (n::args.take 0)) w2):=by show wK _ _ _;simpa[iE] using hB2
 have HL2:Hid (Below w.heap.size w w2):=HB0.out.trans (hb2.mono (Nat.le_succ _));clear hB2 hb2 ho2 hA2 c0 H1 HA1 hw1 HB0 hmf;go_wp2
 go_loopg [15] args.length (fun k i wr=>∃j:Nat,j+k=args.length∧i=.int .i64 j∧Hid (wK (w.heap.size+1) (iE (n::args.take j)) wr)∧Hid (Below w.heap.size w wr))
 case atStart=>exact⟨0,by omega,rfl,HB2,HL2⟩
 case round=>
  obtain⟨j,hj,rfl,HBr,HLr⟩:=hrel
  by_cases hlt:j<args.length
  ·obtain⟨x,hx⟩:∃x,args[j]?=some x:=⟨_,List.getElem?_eq_getElem hlt⟩;have hxm:x∈args:=List.mem_of_getElem? hx;obtain⟨_,a',cap',ea,hc⟩:=HU.out
   injection ea with e1 e2 e3
   subst e1;subst e3;obtain⟨b,off,rfl,hb,hc⟩:=hc (by intro e;rw[e] at hlt;simp at hlt);have d0:wr.cell? ⟨b,off+j,none⟩=some (.string x):=by
    rw[HLr.out.cell (p:=⟨b,off+j,none⟩) hb,hc j hlt,List.getD_eq_getElem?_getD,hx];rfl
   have hx':iE (n::args.take (j+1))=iE (n::args.take j)++pI (raw x):=by
    rw[List.take_add_one,hx,←List.cons_append,nE];simp[iE]
   have hlen:=ou (l:=n::args.take j) (fun s hs=>(List.mem_cons.1 hs).elim (fun e=>e▸HS.out.1) (fun h=>HS.out.2.2 s (List.mem_of_mem_take h)));rw[List.length_cons,List.length_take] at hlen;have HC:=hide (Ju (w.heap.size+1) _ (raw x) wr HBr.out (by rw[bq];exact HS.out.2.2 x hxm) (by omega));rw[←hx',ko] at HC;clear hc hx hx' hlen hxm
   go_wp2_with fail
   refine HC.out.mono ?_;rintro e w4 ⟨⟨u4,rfl⟩,hB4,hb4,_⟩;have HB4:=hide hB4;have Hb4:=hide hb4;clear hB4 hb4;go_wp2
   go_roundg (args.length- (j+1))
   case measure=>omega
   case rel=>exact⟨j+1,by omega,by go_num,HB4,HLr.out.trans (Hb4.out.mono (Nat.le_succ _))⟩
  ·have hj':j=args.length:=by omega
   subst hj';rw[List.take_length] at HBr;have HF:=hide (Ko _ _ wr HBr.out)
   go_wp2_with fail
   refine HF.out.mono ?_;rintro e w5 ⟨rfl,hb5⟩;have Hb5:=hide hb5;clear hb5;go_wp2;go_ret;exact⟨rfl,HLr.out.trans (Hb5.out.mono (Nat.le_succ _))⟩
end Go.Proofs.YtafmbokfkbccaaaGreatDoor
namespace Go.Proofs.YtafmbokfkbccaaaGreatDoor
open Go.RowKit Go.Maps Go.Sort Go.Shelf
attribute [local go_sem] Oper.semAt_some
def MP (D:DataW Two) (ps:List (Bs×Two)):Prop:=(ps.map (·.1)).Nodup∧(∀x,x∈ps.map (·.1)↔Maps.has D (.string x)=true)∧(∀p∈ps,∀zd,D.atKey (.string p.1) zd=.held p.2)∧ps.length≤Maps.size D
set_option maxRecDepth 100000 in
set_option maxHeartbeats 1000000 in
theorem Kr (n:Nat) (hn:1≤n) (l Bm b nn:Nat) (D0:DataW Two) (J Jx:List Two→World→Prop)
  (hY:∀pre x W,J pre W→pre.length<Maps.size D0→YieldAt Fence.wide (n-1) Tryz.prog l #[yU x] W fun e W'=>
   (e=.returned (.bool true)∧J (pre++[x]) W'∧KeepsWalks W W')∨(e=.returned (.bool false)∧Jx (pre++[x]) W'))
  (W:World) (hJ:AbidesFrom W.heap.size J) (hm:W.cell? ⟨Bm,0,none⟩=some (.map (some b))) (hown:W.ownsMap Tryz.prog 9 jD b nn D0) (h0:J [] W):
  CallsIn Fence.wide n Tryz.prog 233 #[.func (.yield l) #[] #[],.pointer (some ⟨Bm,0,none⟩)] W fun e W'=>(∃v,e=.returned v)∧
   ((∃xs,(∃ps,MP D0 ps∧xs=ps.map (·.2))∧J xs W')∨(∃pre,True∧Jx pre W')):=by
 refine callsIn_of_wp Tryz.func233 rfl trivial ?_ rfl;simp only[Tryz.ntmps233,List.size_toArray,List.length_cons,List.length_nil,Nat.reduceAdd,Nat.reduceSub,Array.replicate_succ,Array.replicate_zero,List.push_toArray,List.append_toArray,List.nil_append,List.cons_append]
 gi_wp2_with (first
  |(gi_at_range;refine wpListIn_range_own _ rfl _ 160 rfl 9 27 (string_keyed Tryz.underlying9) Tryz.underlying160 _ b nn _ rfl hown ?_;intro w0 hrg0 hg0 hs0)
  |gi_in)
 go_frame
 gi_loopw [7] (fun _ wr=>∃(left:Lit→Bool) (cnt:Nat) (ps:List (Bs×Two)),wr.ranges Tryz.prog 9 jD b W.heap.size nn D0 left cnt∧ps.length+cnt≤Maps.size D0∧Collected D0 left (ps.map (·.1))∧(∀p∈ps,∀zd,D0.atKey (.string p.1) zd=.held p.2)∧J (ps.map (·.2)) wr)
  (fun _ wr=>wr.rangeLeft b W.heap.size)
 case atStart=>
  exact⟨_,_,[],hrg0,by simp,Collected.start D0,by simp,hJ [] W w0 none h0 hg0 (fun r e=>by cases e)⟩
 case round=>
  obtain⟨left,cnt,ps,hrg,hcs,hC,hV,hJs⟩:=hrel
  gi_wp2_with (first
   |(gi_at_next;refine wpListIn_next_ranges _ rfl _ rfl 9 (string_keyed Tryz.underlying9) jD encStr yU (fun key kl hk=>by obtain⟨x,hx,_⟩:=Maps.keyOf_str Tryz.underlying9 hk;exact⟨x,hx⟩) (fun v y hv=>by obtain⟨c,rfl,_⟩:=rF hv;exact⟨c,rfl⟩) b W.heap.size nn _ _ _ rfl hrg ?_ ?_)
   |gi_in)
  ·intro hc0 hl0
   gi_wp2
   go_end0;exact⟨⟨_,rfl⟩,.inl ⟨_,⟨ps,⟨hC.1,fun x=>by rw[hC.2 x,hl0];simp,hV,by omega⟩,rfl⟩,hJs⟩⟩
  ·intro x c1 c2 c3 c4 kl yd yp w2 cnt2 hkey hlk hv hat hrg2 hlt hg2 hs2 hen;obtain⟨x',ex,rfl,_⟩:=Maps.keyOf_str Tryz.underlying9 hkey;obtain rfl:x=x':=encStr_inj ex;obtain⟨c',ec,ez⟩:=rF hv;obtain rfl:=(Io ec).symm;obtain rfl:yd=.held (c1,c2,c3,c4):=(Prod.mk.inj ez).1;have hJ2:J (ps.map (·.2)) w2:=hJ _ wr w2 (some W.heap.size) hJs hg2 (fun r e=>by cases e;exact⟨Nat.le_refl _,hrg.iter_walk⟩);have hk3:KeepsWalks w2 (w2.alloc (.cells #[.string c1,.slice c2 c3 c4] 27)):=(KeepsOthers.alloc _ _).walks;have hJ3:J (ps.map (·.2)) (w2.alloc (.cells #[.string c1,.slice c2 c3 c4] 27)):=hJ _ w2 _ none hJ2 (World.grownBy_alloc w2 _ none) (fun r e=>by cases e);have OY:=hrg2.of_walks hk3;obtain⟨fn,tmps,assign,body,hy,hR⟩:=hY (ps.map (·.2)) (c1,c2,c3,c4) _ hJ3 (by simp;omega);have hen':(Instr.entry (.pointer (some ⟨W.heap.size,0,none⟩))).run Tryz.prog w2=.ok (.tuple #[encStr x,.agg #[.string c1,.slice c2 c3 c4]]) w2:=hen;clear hs2 hen;show wpListIn _ _ _ _ _ _ _ _;unfold yU at hy⊢;dsimp only at hy⊢
   gi_wp2
   refine hR.mono ?_;have hC2:Collected D0 (fun z=>left z&& !z.sameKey (.string x)) ((ps++[(x,(c1,c2,c3,c4))]).map (·.1)):=by simpa using hC.step hlk hat
   have hV2:∀p∈ps++[(x,(c1,c2,c3,c4))],∀zd,D0.atKey (.string p.1) zd=.held p.2:=fun p hp=>(List.mem_append.1 hp).elim (hV p) (fun e=>by simp only[List.mem_singleton] at e;subst e;exact hat);rintro e W3 (⟨rfl,hJ4,hk4⟩|⟨rfl,hJx3⟩)
   ·gi_wp2
    have hrg3:=OY.of_walks hk4
    go_roundw
    case rel=>exact⟨_,cnt2,ps++[(x,(c1,c2,c3,c4))],hrg3,by simp;omega,hC2,hV2,by simpa using hJ4⟩
    case measure=>rw[hrg3.left_eq,hrg.left_eq];exact hlt
   ·gi_wp2
    refine bodyPost_ret (results_none rfl _ _ _) rfl ?_;exact⟨⟨_,rfl⟩,.inr ⟨_,trivial,hJx3⟩⟩
def iO (l:List Two):List Value:=l.flatMap fun x=>[.string x.1,.slice x.2.1 x.2.2.1 x.2.2.2]
theorem Lx (l:List Two):(iO l).length=l.length*2:=by
 induction l with
 |nil=>rfl
 |cons x l ih=>simp only[iO,List.flatMap_cons,List.length_append,List.length_cons,List.length_nil] at ih⊢;omega
theorem wL (l m:List Two):iO (l++m)=iO l++iO m:=by simp[iO]
set_option maxHeartbeats 1000000 in
theorem Kt (mb:Option Nat) (w:World):
  Calls Tryz.prog 168 #[.map mb] w fun e w'=>e=.returned (.func (.func 233) #[] #[.pointer (some ⟨w.heap.size,0,none⟩)])∧w'=w.alloc (.cells #[.map mb] 160):=by
 go_enter Tryz.func168,Tryz.ntmps168
 go_wp2;go_ret;exact⟨rfl,rfl⟩
theorem values_stops (n:Nat) (hn:1≤n) (Bm b nn:Nat) (D0:DataW Two) (w:World) (hBm:Bm<w.heap.size) (hm:w.cell? ⟨Bm,0,none⟩=some (.map (some b))) (hown:w.ownsMap Tryz.prog 9 jD b nn D0):
  SeqStopsK Fence.wide n Tryz.prog 233 #[.pointer (some ⟨Bm,0,none⟩)] (fun x:Two=>#[yU x]) KeepsWalks (fun xs=>∃ps,MP D0 ps∧xs=ps.map (·.2)) (fun _=>True) (Maps.size D0) w:=
 fun l J Jx W hW hJ _ hY h0=>Kr n hn l Bm b nn D0 J Jx hY W hJ ((hW.cell (p:=⟨Bm,0,none⟩) hBm).trans hm) (eT hown (hW.block b hown.lt)) h0
theorem Ku (B:Nat) (t:TypeId) (cs:Array Value) {X Y:World} {row:Option Nat} (h:X.heap[B]?=some (.cells cs t (0,0))) (hg:X.grownBy Y row) (hr:∀r,row=some r→∃o:Obj,X.heap[r]?=some o∧o.isCells=false):Y.heap[B]?=some (.cells cs t (0,0)):=by
 rw[hg.block B (Array.getElem?_eq_some_iff.1 h).1 (fun e=>by obtain⟨o,ho,hc⟩:=hr B e.symm;rw[h] at ho;cases ho;cases hc)];exact h
theorem FT:(Tryz.prog.info? 27).map (fun i=>(i.zero,i.size,i.bytes))=some (some (.agg #[.string {data:=#[]},.slice none 0 0]),2,40):=by kernel_rfl
set_option maxRecDepth 100000 in
set_option maxHeartbeats 2000000 in
theorem Du (b nn Bm:Nat) (D0:DataW Two) (w:World) (hBm:Bm<w.heap.size) (hm:w.cell? ⟨Bm,0,none⟩=some (.map (some b))) (hown:w.ownsMap Tryz.prog 9 jD b nn D0) (hN:Maps.size D0≤3518437208883):
  CallsIn Fence.wide 3 Tryz.prog 232 #[.slice none 0 0,.func (.func 233) #[] #[.pointer (some ⟨Bm,0,none⟩)]] w
   fun e w'=>∃v xs,e=.returned v∧(∃ps,MP D0 ps∧xs=ps.map (·.2))∧w'.ownsRow w.heap.size 27 2 v xs.length (iO xs)∧Below w.heap.size w w':=by
 refine callsIn_of_wp_marks Tryz.func232 rfl trivial ?_ rfl;simp only[Tryz.ntmps232,List.size_toArray,List.length_cons,List.length_nil,Nat.reduceAdd,Nat.reduceSub,Array.replicate_succ,Array.replicate_zero,List.push_toArray,List.append_toArray,List.nil_append,List.cons_append]
 gi_wp2
 have bS:=Boxed.new w 24 (.slice none 0 0);have hB0:Below w.heap.size w (w.alloc (.cells #[.slice none 0 0] 24)):=(Below.refl _ w).alloc (Nat.le_refl _) _;have hsz:(w.alloc (.cells #[.slice none 0 0] 24)).heap.size=w.heap.size+1:=by simp
 obtain⟨W0,hW0⟩:∃W0,w.alloc (.cells #[.slice none 0 0] 24)=W0:=⟨_,rfl⟩;rw[hW0] at bS hB0 hsz⊢;clear hW0;refine wpIn_rangeFunc_ownH rfl (by omega) (gf:=233) (lb:=#[.pointer (some ⟨Bm,0,none⟩)]) rfl trivial (enters_of Tryz.func233 (by kernel_rfl) rfl)
  (values_stops 2 (by omega) Bm b nn D0 W0 (by omega) ((hB0.cell (p:=⟨Bm,0,none⟩) hBm).trans hm) (eT hown (hB0.block b hown.lt))) walksK_t walksK_b (Below.refl _ _) (fun _=>rfl)
  (fun pre W=>(∃v,Boxed W w.heap.size 24 v∧W.ownsRow w.heap.size 27 2 v pre.length (iO pre)∧True)∧Below w.heap.size w W)
  (fun _ _ _=>False)
  (OwnFrom.and (Own.from (holdsRow_own w.heap.size w.heap.size 24 27 2 (fun pre=>pre.length) (fun pre=>iO pre) (fun _ _=>True)) _) (ownFrom_below (Nat.le_refl _) (by omega)))
  (fun _ _ _ _ _ hs _ _=>hs)
  ⟨⟨_,bS,World.ownsRow_nil _ _ _ _,trivial⟩,hB0⟩
  (fun x a' W=>∃Bx,w.heap.size<Bx∧W.heap[Bx]?=some (.cells #[.string x.1,.slice x.2.1 x.2.2.1 x.2.2.2] 27 (0,0))∧a'={tmps:=#[.slice none 0 0,.func (.func 233) #[] #[.pointer (some ⟨Bm,0,none⟩)],.pointer (some ⟨w.heap.size,0,none⟩),undef,.slice none 0 0,.pointer (some ⟨Bx,0,none⟩),.func (.func 233) #[] #[.pointer (some ⟨Bm,0,none⟩)],yU x,undef,undef,undef,undef,undef],defers:=[]})
  (fun x a' _ X Y row hs hg hr=>by obtain⟨Bx,h1,h2,h3⟩:=hs;exact⟨Bx,h1,Ku Bx _ _ h2 hg (fun r e=>(hr r e).2),h3⟩)
  ?assign ?body ?done ?stop
 case assign=>
  rintro l pre ⟨c1,c2,c3,c4⟩ W K ⟨⟨v,bS1,hrow,_⟩,hB1⟩ hK;unfold yU;dsimp only
  gi_wp2
  exact hK _ _ ((KeepsOthers.alloc _ _).from _) ((KeepsOthers.alloc _ _).walks) ⟨⟨v,bS1.alloc _,hrow.alloc _,trivial⟩,hB1.alloc hB1.size _⟩ ⟨W.heap.size,bS1.lt,World.alloc_heap_new W _,rfl⟩
 case body=>
  rintro l pre ⟨c1,c2,c3,c4⟩ a' W hl ⟨r,hr⟩ ⟨⟨v,bS1,hrow,_⟩,hB1⟩ ⟨Bx,hBx,bX,rfl⟩ hlt;have cS:=bS1.cell;have cX0:W.cell? ⟨Bx,0,none⟩=some (.string c1):=by simp[World.cell?,bX]
  have cX1:W.cell? ⟨Bx,1,none⟩=some (.slice c2 c3 c4):=by simp[World.cell?,bX]
  obtain⟨i0,hi,hz0,hz1,hz2⟩:=info_parts FT;have hnew:∀j u,[Value.string c1,Value.slice c2 c3 c4][j]?=some u→(W.alloc (.cells #[.string c1,.slice c2 c3 c4] 27)).cell? (Addr.add ⟨W.heap.size,0,none⟩ j)=some u:=fun j u hj=>by
   have hb:=World.alloc_heap_new W (.cells #[.string c1,.slice c2 c3 c4] 27)
   match j,hj with
   |0,hj=>simp at hj;subst hj;show World.cell? _ ⟨W.heap.size,0,none⟩=_;unfold World.cell?;dsimp only;rw[hb];rfl
   |1,hj=>simp at hj;subst hj;show World.cell? _ ⟨W.heap.size,1,none⟩=_;unfold World.cell?;dsimp only;rw[hb];rfl
  have hone:∀u∈[Value.string c1,Value.slice c2 c3 c4],u.oneCell'=true:=fun u hu=>by
   simp at hu;rcases hu with rfl|rfl <;> rfl
  have SQ:pre.length+1≤maxLen:=by unfold maxLen;omega
  have hkb:(pre.length+1)*40≤140737488355328:=by omega
  have hsW:=hB1.size
  gi_wp2_with (gi_at_builtin;refine wpListIn_append_own _ rfl _ _ 24 rfl w.heap.size 27 i0 (.agg #[.string {data:=#[]},.slice none 0 0]) 2 40 Tryz.underlying24 hi hz0 hz1 hz2 rfl (by decide) _ _ _ rfl (hrow.alloc _) ⟨W.heap.size,0,none⟩ 1 1 [.string c1,.slice c2 c3 c4] rfl rfl hnew hone SQ hkb (by simp;omega) ?_;intro v' w1 hown' hgrow _;obtain⟨g',cap',rfl⟩:=ownsRow_succ hown';obtain⟨hv1,hv2,hr2,hk2,hb2⟩:=bS1.appended (by decide) hrow hB1.size (Nat.le_refl _) hown' hgrow;have hc1:=hv1.cell;have hf1:=hv1.frozen)
  have hr3:(w1.setCell ⟨w.heap.size,0,none⟩ (.slice (some ⟨g',0,none⟩) (pre.length+1) cap')).ownsRow w.heap.size 27 2 (.slice (some ⟨g',0,none⟩) (pre.length+1) cap') (pre++[((c1,c2,c3,c4):Two)]).length (iO (pre++[((c1,c2,c3,c4):Two)])):=by
   rw[wL,List.length_append];exact hr2
  exact⟨hk2.from _,hk2.walks,⟨_,hv2,hr3⟩,hB1.trans hb2⟩
 case done=>
  rintro D zs W hD hS ⟨⟨v,bS1,hrow,_⟩,hB1⟩ hK;have cS:=bS1.cell
  gi_wp2
  refine⟨by simp,.inl ⟨_,_,rfl,run_takeDeferred hK,?_⟩⟩;exact⟨_,results_tmp rfl _ _ _,v,zs,rfl,hS,ownsRow_putObj hrow _ hK rfl,hB1.trans (belowK_b (w:=w) (Nat.le_refl _) W D _ _ (by omega) hK rfl rfl)⟩
 case stop=>
  rintro D c pre W _ _ h _;exact h.elim
set_option maxHeartbeats 1000000 in
theorem Iq (b nn Bm:Nat) (D0:DataW Two) (w:World) (hBm:Bm<w.heap.size) (hm:w.cell? ⟨Bm,0,none⟩=some (.map (some b))) (hown:w.ownsMap Tryz.prog 9 jD b nn D0) (hN:Maps.size D0≤3518437208883):
  Calls Tryz.prog 167 #[.func (.func 233) #[] #[.pointer (some ⟨Bm,0,none⟩)]] w
   fun e w'=>∃v xs,e=.returned v∧(∃ps,MP D0 ps∧xs=ps.map (·.2))∧w'.ownsRow w.heap.size 27 2 v xs.length (iO xs)∧Below w.heap.size w w':=by
 have H:=hide (callsIn_wide.1 (Du b nn Bm D0 w hBm hm hown hN))
 go_enter Tryz.func167,Tryz.ntmps167
 go_wp2_with fail
 refine H.out.mono ?_;rintro e w1 ⟨v,xs,rfl,h1,h2,h3⟩;have H1:=hide h1;have H2:=hide h2;have H3:=hide h3;clear h1 h2 h3;go_wp2;go_ret;exact⟨v,xs,rfl,H1.out,H2.out,H3.out⟩
theorem uK {w w':World} {v:Value} {l:List ByteArray} (h:Strs w v l) (k:Below w.heap.size w w'):Strs w' v l:=by
 obtain⟨h0,a,cap,rfl,h1⟩:=h;refine⟨h0,a,cap,rfl,fun hl=> ?_⟩;obtain⟨b,off,rfl,hb,hc⟩:=h1 hl;exact⟨b,off,rfl,Nat.lt_of_lt_of_le hb k.size,fun i hi=>by rw[k.cell (p:=⟨b,off+i,none⟩) hb];exact hc i hi⟩
theorem mg {w w':World} {v:Value} {f:aG} (h:bW w v f) (k:Below w.heap.size w w'):bW w' v f:=by
 obtain⟨s,rfl,h1⟩:=h;exact⟨s,rfl,uK h1 k⟩
theorem fI.below {P:Program} {K:TypeId} {w w':World} {b n:Nat} {L:List aj} (h:fI P K w b n L) (k:Below w.heap.size w w'):fI P K w' b n L:=by
 obtain⟨D,h,h1,h2,h3⟩:=h;exact⟨D,eT h (k.block b h.lt),h1,fun f hf=>by obtain⟨x,e,hx⟩:=h2 f hf;exact⟨x,e,mg hx k⟩,h3⟩
theorem yX:∀{l:List Two} {i:Nat} {x:Two},l[i]?=some x→(iO l)[i*2]?=some (.string x.1)∧(iO l)[i*2+1]?=some (.slice x.2.1 x.2.2.1 x.2.2.2)
 |y::l,0,x,h=>by simp at h;subst h;exact⟨rfl,rfl⟩
 |y::l,i+1,x,h=>by
  simp at h;have:=yX h;have e:iO (y::l)=[.string y.1,.slice y.2.1 y.2.2.1 y.2.2.2]++iO l:=rfl;rw[e,show(i+1)*2=2+i*2 by omega,show 2+i*2+1=2+(i*2+1) by omega,List.getElem?_append_right (by simp),List.getElem?_append_right (by simp)];simpa using this
open Classical in
noncomputable def uL (L:List aj) (s:Bs):aj:=if h:∃f∈L,rE f=s then Classical.choose h else aB
theorem ow {L:List aj} {s:Bs} (h:∃f∈L,rE f=s):uL L s∈L∧rE (uL L s)=s:=by
 unfold uL;rw[dif_pos h];exact Classical.choose_spec h
theorem AP {w w':World} {L:List aj} {v:Value} {D:DataW Two} {ps:List (Bs×Two)} (h1:∀s,Maps.has D (.string s)=true↔∃f∈L,rE f=s) (h2:∀f∈L,∃x,D.atKey (.string (rE f)) .nil=.held x∧bW w (yU x) f) (h3:Maps.size D≤3518437208883)
  (hA:MP D ps) (hr:w'.ownsRow w.heap.size 27 2 v (ps.map (·.2)).length (iO (ps.map (·.2)))) (hB:Below w.heap.size w w'):∃l:List aj,(∀f,f∈l↔f∈L)∧Facts w' v l:=by
 have hk:∀p∈ps,∃f∈L,rE f=p.1:=fun p hp=>(h1 _).1 ((hA.2.1 _).1 (List.mem_map.2 ⟨p,hp,rfl⟩));refine⟨ps.map fun p=>uL L p.1,fun f=> ?_,?_⟩
 ·rw[List.mem_map]
  constructor
  ·rintro⟨p,hp,rfl⟩;exact(ow (hk p hp)).1
  ·intro hf;obtain⟨p,hp,hpf⟩:=List.mem_map.1 ((hA.2.1 (rE f)).2 ((h1 _).2 ⟨f,hf,rfl⟩));exact⟨p,hp,wJ ((ow (hk p hp)).2.trans hpf)⟩
 ·have hlen:=hA.2.2.2;refine qm.facts (base:=w.heap.size) ⟨iO (ps.map (·.2)),by simpa using hr,fun i hi=> ?_⟩ (by simp;omega);rw[List.length_map] at hi;obtain⟨p,hp⟩:∃p,ps[i]?=some p:=⟨_,List.getElem?_eq_getElem hi⟩;have hpm:p∈ps:=by obtain⟨_,rfl⟩:=List.getElem?_eq_some_iff.1 hp;exact List.getElem_mem _
  have eg:(ps.map fun p=>uL L p.1).getD i aB=uL L p.1:=by
   rw[List.getD_eq_getElem?_getD,List.getElem?_map,hp];rfl
  rw[eg];obtain⟨c0,c1⟩:=yX (l:=ps.map (·.2)) (i:=i) (x:=p.2) (by rw[List.getElem?_map,hp];rfl);obtain⟨g1,g2⟩:=ow (hk p hpm);obtain⟨x,hx,s,hs,hS⟩:=h2 _ g1;rw[g2,hA.2.2.1 p hpm] at hx
  injection hx with hx
  subst hx;unfold yU at hs
  injection hs with hs
  have hs':=congrArg Array.toList hs;simp only[List.cons.injEq,Value.string.injEq,and_true] at hs';obtain⟨e1,e2⟩:=hs';refine⟨by rw[c0,e1],s,by rw[c1,e2],uK hS hB,fun k hk hne=> ?_⟩;obtain⟨_,a,cap,rfl,hb⟩:=hS;obtain⟨b,off,rfl,hlt,_⟩:=hb hne;simp[Value.ownBlock] at hk;omega
end Go.Proofs.YtafmbokfkbccaaaGreatDoor
