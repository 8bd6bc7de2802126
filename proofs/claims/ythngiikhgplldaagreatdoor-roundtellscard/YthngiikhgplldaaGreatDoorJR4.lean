import Derived.Lib.ItoaNum
import Derived.Test.YthngiikhgplldaaGreatDoorJR2
import Derived.Test.YthngiikhgplldaaGreatDoorJR3
import Derived.Test.YthngiikhgplldaaGreatDoorChecked
import Derived.WalkKit
import Derived.WalkSpells
import Derived.WalkLawsBesides
import Derived.Shelf.SlSortCmp.QuietGrown
import Derived.Deep.QuietTactic
import Derived.BigQuiet
open Go.RowKit Go.Sort Go.Maps
set_option maxHeartbeats 1000000
set_option maxRecDepth 100000
namespace Go.Proofs.YthngiikhgplldaaGreatDoor
theorem jU {a:Nat} (h:a<10):(UInt8.ofNat (48+a)).toNat=48+a:=by rw[UInt8.toNat_ofNat'];exact Nat.mod_eq_of_lt (by omega)
theorem nP (u:Nat):Lib.decDigits u≠[]:=by rw[Lib.decDigits];split <;> simp
theorem sP:∀(u v:Nat),Lib.decDigits u=Lib.decDigits v→u=v:=by
 intro u
 induction u using Nat.strongRecOn with
 |ind u ih=>
  intro v h;rw[Lib.decDigits,Lib.decDigits.eq_1 v] at h;split at h <;> split at h
  ·rename_i h1 h2;have:=List.cons.inj h;have:=congrArg UInt8.toNat this.1;rw[jU h1,jU h2] at this;omega
  ·rename_i h1 h2;have:=congrArg List.length h;have h3:=List.length_pos_iff.2 (nP (v/10));rw[List.length_append,List.length_singleton,List.length_singleton] at this;omega
  ·rename_i h1 h2;have:=congrArg List.length h;have h3:=List.length_pos_iff.2 (nP (u/10));rw[List.length_append,List.length_singleton,List.length_singleton] at this;omega
  rename_i h1 h2;obtain⟨h3,h4⟩:=List.append_inj' h rfl;have h5:=ih (u/10) (by omega) (v/10) h3;have h6:=congrArg UInt8.toNat (List.cons.inj h4).1;rw[jU (Nat.mod_lt _ (by omega)),jU (Nat.mod_lt _ (by omega))] at h6;omega
theorem kN:∀(u:Nat),(32:UInt8)∉Lib.decDigits u:=by
 intro u
 induction u using Nat.strongRecOn with
 |ind u ih=>
  have key:∀a,a<10→(32:UInt8)≠UInt8.ofNat (48+a):=fun a ha e=>by have:=congrArg UInt8.toNat e;rw[jU ha] at this;have h32:(32:UInt8).toNat=32:=rfl;omega
  rw[Lib.decDigits];split;·rename_i h;simp only[List.mem_singleton];exact key u h
  rename_i h;rw[List.mem_append];rintro(h1|h1);·exact ih (u/10) (by omega) h1
  simp only[List.mem_singleton] at h1;exact key _ (Nat.mod_lt _ (by omega)) h1
theorem Gy:∀{a b x y:Bs},32∉a→32∉b→a++32::x=b++32::y→a=b∧x=y
 |[],[],x,y,_,_,h=>⟨rfl,(List.cons.inj h).2⟩
 |[],c::b,x,y,_,hb,h=>by have:=(List.cons.inj h).1;exact absurd (by rw[this];simp) hb
 |c::a,[],x,y,ha,_,h=>by have:=(List.cons.inj h).1;exact absurd (by rw[←this];simp) ha
 |c::a,d::b,x,y,ha,hb,h=>by obtain⟨h1,h2⟩:=List.cons.inj h;obtain⟨h3,h4⟩:=Gy (a:=a) (b:=b) (fun h=>ha (by simp[h])) (fun h=>hb (by simp[h])) h2;exact⟨by rw[h1,h3],h4⟩
def oh (s:Bs):Bs:=Lib.decDigits s.length++32::s
theorem AJ {s t x y:Bs} (h:oh s++x=oh t++y):s=t∧x=y:=by unfold oh at h;rw[List.append_assoc,List.append_assoc,List.cons_append,List.cons_append] at h;obtain⟨h1,h2⟩:=Gy (kN _) (kN _) h;exact List.append_inj h2 (sP _ _ h1)
def fO:List ByteArray→Bs
 |[]=>[]
 |s::l=>oh (raw s)++fO l
theorem qV:∀{l m:List ByteArray},fO l=fO m→l=m
 |[],[],_=>rfl
 |[],s::m,h=>by simp[fO,oh] at h
 |s::l,[],h=>by simp[fO,oh] at h
 |s::l,t::m,h=>by obtain⟨h1,h2⟩:=AJ h;rw[←kJ s,h1,kJ,qV h2]
theorem lW:∀(l m:List ByteArray),fO (l++m)=fO l++fO m
 |[],m=>rfl
 |s::l,m=>by simp[fO,lW l m]
def oM (f:aF):Bs:=fO (f.1::f.2)
theorem sQ {f g:aF} (h:oM f=oM g):f=g:=by have:=qV h;obtain⟨h1,h2⟩:=List.cons.inj this;exact Prod.ext h1 h2
abbrev Two:=ByteArray×Option Addr×Nat×Nat
def vB (x:Two):Value:=.agg #[.string x.1,.slice x.2.1 x.2.2.1 x.2.2.2]
def AL (v:Value):Option Two:=match v with
 | .agg a=>match a.toList with
  |[.string s,.slice p n c]=>some (s,p,n,c)
  |_=>none
 |_=>none
theorem vC (x:Two):AL (vB x)=some x:=rfl
theorem AO {v:Value} {x:Two} (h:AL v=some x):v=vB x:=by
 unfold AL at h;split at h
 ·rename_i a;obtain⟨l,rfl⟩:∃l:List Value,a=l.toArray:=⟨a.toList,by simp⟩;simp only at h;split at h
  ·cases h
   rfl
  cases h
 cases h
def iV (v:Value):Option (DataW Two×List MemPlace):=(AL v).map fun x=>(.held x,[])
theorem zq (x:Two):iV (vB x)=some (.held x,[]):=rfl
theorem oN {v:Value} {z:DataW Two×List MemPlace} (h:iV v=some z):∃x,v=vB x∧z=(.held x,[]):=by
 unfold iV at h;cases e:AL v with
 |none=>rw[e] at h;cases h
 |some x=>rw[e] at h;cases h;exact⟨x,AO e,rfl⟩
theorem Dh {x y:Two} (h:vB x=vB y):x=y:=by have:=vC x;rw[h,vC] at this;exact(Option.some.inj this).symm
theorem AP {w:World} {v:Value} {f:aG} (h:dh w v f):∃x,v=vB x:=by obtain⟨s,rfl,hs⟩:=h;obtain⟨a,c,rfl⟩:=bP hs;exact⟨(f.1,a,_,c),rfl⟩
def eU (P:Program) (K:TypeId) (w:World) (b n:Nat) (L:List aF):Prop:=
 ∃D:DataW Two,w.ownsMap P K iV b n D∧(∀s,Maps.has D (.string s)=true↔∃f∈L,oM f=s)∧(∀f∈L,∃x,D.atKey (.string (oM f)) .nil=.held x∧dh w (vB x) f)∧Maps.size D=(bY L).length
theorem eU.made (P:Program) (K:TypeId) (w:World):eU P K (w.alloc (.map #[] 0)) w.heap.size 0 []:=
 ⟨.map [],World.ownsMap_made _ _ _ _,fun s=>by simp[Maps.has],fun f hf=>(by cases hf),by simp[Maps.size,bY,eT,jf]⟩
section
variable {P:Program} {K:TypeId} {w w':World} {b n:Nat} {L:List aF}
theorem eU.lt (h:eU P K w b n L):b<w.heap.size:=by obtain⟨D,h,_⟩:=h;exact h.lt
theorem eU.later (h:eU P K w b n L) (k:aj w w'):eU P K w' b n L:=by obtain⟨D,h,h1,h2,h3⟩:=h;exact⟨D,dG h (k.block h.lt),h1,fun f hf=>by obtain⟨x,e,hx⟩:=h2 f hf;exact⟨x,e,hx.later k⟩,h3⟩
theorem eU.mono (h:eU P K w b n L) {n':Nat} (hn:n≤n'):eU P K w b n' L:=by obtain⟨D,h,hf⟩:=h;exact⟨D,h.mono hn,hf⟩
theorem eU.few (h:eU P K w b n L):(bY L).length≤n:=by obtain⟨D,h,_,_,h3⟩:=h;rw[←h3];exact h.size_le
theorem AQ {L:List aF} {f:aF}:(bY (L++[f])).length=if inB L f then(bY L).length else(bY L).length+1:=by
 split;·rename_i h;have h:=dD.1 h;rw[jh (l:=L++[f]) (m:=L) fun g=>by rw[List.mem_append,List.mem_singleton];exact⟨fun h'=>h'.elim id (fun e=>by rw[e];exact h),Or.inl⟩]
 rename_i h;have h:f∉L:=fun h'=>h (dD.2 h');have h1:(f::bY L).Nodup:=List.nodup_cons.2 ⟨fun h'=>h (dA.1 h'),ku (gI L)⟩;have e:∀g,g∈bY (L++[f])↔g∈f::bY L:=fun g=>by rw[dA,List.mem_append,List.mem_singleton,List.mem_cons,dA];exact⟨fun h=>h.symm,fun h=>h.symm⟩
 have a:=mV (ku (gI (L++[f]))) fun g hg=>(e g).1 hg;have b:=mV h1 fun g hg=>(e g).2 hg;simp only[List.length_cons] at a b;omega
theorem eU.store {E T:TypeId} (h:eU P K w b n L) (hk:P.underlying K=some .string) (ht:P.underlying T=some (.map K E)) (hn:n<maxLen) {f:aF} {v:Value} (hv:dh w v f) (hf:(oM f).length≤maxLen):
  ∃w',(Instr.mapUpdate T (.map (some b)) (.string (bs (oM f))) v).run P w=.ok () w'∧w.grownBy w' (some b)∧((∀g∈L++[f],∀u,dh w u g→dh w' u g)→eU P K w' b (n+1) (L++[f])):=by
 obtain⟨D,hown,h1,h2,h3⟩:=h;obtain⟨x,rfl⟩:=AP hv;obtain⟨w',hrun,r1,r2⟩:=hown.update (string_keyed hk) ht hn (jD hk hf) (zq x);have hhas:Maps.has D (.string (oM f))=inB L f:=by
  cases e:inB L f with
  |true=>exact(h1 _).2 ⟨f,dD.1 e,rfl⟩
  |false=>
   cases e2:Maps.has D (.string (oM f)) with
   |false=>rfl
   |true=>
    obtain⟨g,hg,hgf⟩:=(h1 _).1 e2;rw[sQ hgf] at hg;rw[dD.2 hg] at e;cases e
 refine⟨w',hrun,r2,fun hkeep=>⟨_,r1,fun s=>?_,fun g hg=>?_,?_⟩⟩
 ·by_cases e:s=oM f
  ·subst e;rw[has_put_same hown.isMap (CY _)];simp only[true_iff];exact⟨f,by simp,rfl⟩
  rw[has_put_other (kK e),h1]
  constructor
  ·rintro⟨g,hg,hs⟩;exact⟨g,by simp[hg],hs⟩
  rintro⟨g,hg,hs⟩;rcases List.mem_append.1 hg with hg|hg
  ·exact⟨g,hg,hs⟩
  simp only[List.mem_singleton] at hg;subst hg;exact absurd hs.symm e
 ·by_cases e:g=f
  ·subst e;exact⟨x,by rw[atKey_put_same hown.isMap (CY _)],hkeep g hg _ hv⟩
  have hgL:g∈L:=(List.mem_append.1 hg).elim id (fun h=>absurd (List.mem_singleton.1 h) e);obtain⟨y,hy,hfy⟩:=h2 g hgL;exact⟨y,by rw[atKey_put_other (kK fun h=>e (sQ h))];exact hy,hkeep g hg _ hfy⟩
 rw[size_put (hown.tidy (string_keyed hk)),hhas,AQ,h3]
theorem eU.len {E T:TypeId} (h:eU P K w b n L) (ht:P.underlying T=some (.map K E)) (ty:TypeId):(Builtin.len_ #[T] ty #[.map (some b)]).run P w=.ok (.int .i64 ((bY L).length:Nat)) w:=by obtain⟨D,hown,_,_,h3⟩:=h;rw[hown.len ht,h3]
end
theorem AR (x:ByteArray) (w:World):Calls Tryz.prog 100 #[.string x] w fun e w'=>e=.returned (.bool false)∧w'=w:=by
 go_enter Tryz.func100,Tryz.ntmps100
 go_wp2;go_ret;exact⟨by simp,rfl⟩
theorem AU (x:Int) (w:World):Calls Tryz.prog 101 #[.int .i64 x] w fun e w'=>e=.returned (.bool false)∧w'=w:=by
 go_enter Tryz.func101,Tryz.ntmps101
 go_wp2;go_ret;exact⟨by simp,rfl⟩
theorem jy (x y:ByteArray) (w:World):Calls Tryz.prog 75 #[.string x,.string y] w fun e w'=>e=.returned (.int .i64 (gV x y))∧w'=w:=by
 unfold gV;cases h:Op.bytesLess x.toList y.toList
 ·cases h2:(x.toList==y.toList)
  ·go_enter Tryz.func75,Tryz.ntmps75
   go_wp2_with (go_at_call 100;refine(AR _ _).mono ?_;rintro e w' ⟨rfl,rfl⟩)
   go_ret;exact⟨by simp,rfl⟩
  go_enter Tryz.func75,Tryz.ntmps75
  go_wp2_with (go_at_call 100;refine(AR _ _).mono ?_;rintro e w' ⟨rfl,rfl⟩)
  go_ret;exact⟨by simp,rfl⟩
 go_enter Tryz.func75,Tryz.ntmps75
 go_wp2_with (go_at_call 100;refine(AR _ _).mono ?_;rintro e w' ⟨rfl,rfl⟩)
 go_ret;exact⟨by simp,rfl⟩
theorem yC (x y:Int) (w:World):Calls Tryz.prog 76 #[.int .i64 x,.int .i64 y] w fun e w'=>e=.returned (.int .i64 (sj x y))∧w'=w:=by
 unfold sj
 by_cases h:x<y
 ·go_enter Tryz.func76,Tryz.ntmps76
  go_wp2_with (go_at_call 101;refine(AU _ _).mono ?_;rintro e w' ⟨rfl,rfl⟩)
  go_ret;exact⟨by simp,rfl⟩
 by_cases h2:y<x
 ·go_enter Tryz.func76,Tryz.ntmps76
  go_wp2_with (go_at_call 101;refine(AU _ _).mono ?_;rintro e w' ⟨rfl,rfl⟩)
  go_ret;exact⟨by simp,rfl⟩
 go_enter Tryz.func76,Tryz.ntmps76
 go_wp2_with (go_at_call 101;refine(AU _ _).mono ?_;rintro e w' ⟨rfl,rfl⟩)
 go_ret;exact⟨by simp,rfl⟩
theorem vD (a:Option Addr) (cap:Nat) (b:Option Addr) (n zu:Nat) (w:World) (hn:n≤9223372036854775807):
  Calls Tryz.prog 77 #[.slice a 0 cap,.slice b n zu] w fun e w'=>e=.returned (.int .i64 (if 0<n then-1 else 0))∧w'=w:=by
 by_cases h:0<n
 ·rw[if_pos h];have h':(0:Int)<(n:Int):=by omega
  go_enter Tryz.func77,Tryz.ntmps77
  go_wp2;refine wp_loop_rounds 1 ?_;rw[rounds_succ];go_wp2;go_ret;exact⟨rfl,rfl⟩
 rw[if_neg h];obtain rfl:n=0:=by omega
 go_enter Tryz.func77,Tryz.ntmps77
 go_wp2;refine wp_loop_rounds 1 ?_;rw[rounds_succ];go_wp2;go_ret;exact⟨rfl,rfl⟩
theorem sS (b off n cap:Nat) (a2:Option Addr) (cap2:Nat) (s0:ByteArray) (w:World) (h0:0<n) (hn:n≤9223372036854775807) (hc:w.cell? ⟨b,off,none⟩=some (.string s0)):
  Calls Tryz.prog 77 #[.slice (some ⟨b,off,none⟩) n cap,.slice a2 0 cap2] w fun e w'=>e=.returned (.int .i64 1)∧w'=w:=by
 have h':(0:Int)<(n:Int):=by omega
 go_enter Tryz.func77,Tryz.ntmps77
 go_wp2;refine wp_loop_rounds 1 ?_;rw[rounds_succ];go_wp2;go_ret;exact⟨rfl,rfl⟩
theorem sU (b off cap b2 off2 cap2:Nat) (x y:List ByteArray) (w:World) (hx:x.length≤9223372036854775807) (_hy:y.length≤9223372036854775807)
  (hc:∀i,i<x.length→w.cell? ⟨b,off+i,none⟩=some (.string (x.getD i ByteArray.empty))) (hd:∀i,i<y.length→w.cell? ⟨b2,off2+i,none⟩=some (.string (y.getD i ByteArray.empty))):
  Calls Tryz.prog 77 #[.slice (some ⟨b,off,none⟩) x.length cap,.slice (some ⟨b2,off2,none⟩) y.length cap2] w fun e w'=>e=.returned (.int .i64 (cmpL x y))∧w'=w:=by
 have HC:Hid _:=hc;have HD:Hid _:=hd;clear hc hd
 go_enter Tryz.func77,Tryz.ntmps77
 go_wp2
 go_loop [11] (fun i=>∃k:Nat,k≤x.length∧k≤y.length∧i=.int .i64 k∧Hid (cmpL x y=cmpL (x.drop k) (y.drop k))) (fun i=>x.length- (intOf i).toNat)
 case atStart=>exact⟨0,Nat.zero_le _,Nat.zero_le _,rfl,(by simp:cmpL x y=cmpL (x.drop 0) (y.drop 0))⟩
 obtain⟨k,hk,hk2,rfl,HE⟩:=hrel
 by_cases hlt:k<x.length
 ·have h1:=HC.out k hlt
  by_cases hlt2:k<y.length
  ·have h2:=HD.out k hlt2;have e:=uN x y k hlt hlt2;generalize x.getD k ByteArray.empty=sx at*;generalize y.getD k ByteArray.empty=sy at*;have E:Hid _:=e;clear e
   by_cases hz:gV sx sy=0
   ·go_wp2_with (go_at_call 75;refine(jy _ _ _).mono ?_;rintro e w' ⟨rfl,rfl⟩;rw[hz])
    go_round
    case rel=>
     refine⟨k+1,by omega,by omega,by go_num,?_⟩;show cmpL x y=_;rw[HE.out,E.out,if_neg (by omega)]
    case measure=>simp[intOf];omega
   have hz':(gV sx sy==0)=false:=by simpa using hz
   have F:Hid (cmpL x y=gV sx sy):=by show _=_;rw[HE.out,E.out,if_pos hz]
   generalize hr:gV sx sy=r at*;have R:Hid _:=hr;clear hr
   go_wp2_with (go_at_call 75;refine(jy _ _ _).mono ?_;rintro e w' ⟨rfl,rfl⟩;rw[R.out])
   go_ret;exact⟨mP F.out.symm,rfl⟩
  have F:Hid (cmpL x y=1):=by show _=_;rw[HE.out,qE x y k hlt (by omega)]
  go_wp2;go_ret;exact⟨mP F.out.symm,rfl⟩
 have F:Hid (cmpL x y=if k<y.length then-1 else 0):=by show _=_;rw[HE.out,lK x y k (by omega)]
 obtain rfl:k=x.length:=by omega
 by_cases hy2:x.length<y.length
 ·go_wp2;go_ret;exact⟨mP (by rw[F.out,if_pos hy2]),rfl⟩
 go_wp2;go_ret;exact⟨mP (by rw[F.out,if_neg hy2]),rfl⟩
theorem Di (v1 v2:Value) (x y:List ByteArray) (w:World) (h1:Strs w v1 x) (h2:Strs w v2 y):
  Calls Tryz.prog 77 #[v1,v2] w fun e w'=>e=.returned (.int .i64 (cmpL x y))∧w'=w:=by
 obtain⟨l1,a1,c1,rfl,r1⟩:=h1;obtain⟨l2,a2,c2,rfl,r2⟩:=h2;cases x with
 |nil=>
  have e:cmpL [] y=if 0<y.length then-1 else 0:=by cases y <;> simp[cmpL]
  rw[e];exact vD a1 c1 a2 y.length c2 w (by omega)
 |cons p x=>
  obtain⟨b,off,rfl,_,hc⟩:=r1 (by simp);cases y with
  |nil=>exact sS b off _ c1 a2 c2 p w (by simp) (by omega) (by simpa using hc 0 (by simp))
  |cons q y=>
   obtain⟨b2,off2,rfl,_,hd⟩:=r2 (by simp);exact sU b off c1 b2 off2 c2 (p::x) (q::y) w (by omega) (by omega) hc hd
theorem lX (v1 v2:Value) (f g:aG) (w:World) (h1:dh w v1 f) (h2:dh w v2 g):
  Calls Tryz.prog 60 #[v1,v2] w fun e w'=>e=.returned (.int .i64 (fF f g))∧aj w w':=by
 obtain⟨s1,rfl,k1⟩:=h1;obtain⟨s2,rfl,k2⟩:=h2;have l1:=k1.1;have l2:=k2.1;have hL:Hid (∀w',aj w w'→Calls Tryz.prog 77 #[s1,s2] w' fun e w''=>e=.returned (.int .i64 (cmpL f.2 g.2))∧w''=w'):=fun w' hw=>Di s1 s2 _ _ w' (k1.later hw) (k2.later hw);obtain⟨a1,c1,rfl⟩:=bP k1;obtain⟨a2,c2,rfl⟩:=bP k2;clear k1 k2;obtain⟨n1,x⟩:=f;obtain⟨n2,y⟩:=g;unfold fF;dsimp only at*
 by_cases hz:gV n1 n2=0
 ·by_cases hi:sj x.length y.length=0
  ·rw[if_neg (by omega),if_neg (by omega)]
   go_enter Tryz.func60,Tryz.ntmps60
   go_wp2_with (first
    |(go_at_call 75;refine(jy _ _ _).mono ?_;rintro e w' ⟨rfl,rfl⟩;rw[hz])
    |(go_at_call 76;refine(yC _ _ _).mono ?_;rintro e w' ⟨rfl,rfl⟩;rw[hi])
    |(go_at_call 77;refine(hL.out _ (((aj.refl _).alloc _).alloc _)).mono ?_;rintro e w' ⟨rfl,rfl⟩))
   go_ret;exact⟨rfl,((aj.refl _).alloc _).alloc _⟩
  rw[if_neg (by omega),if_pos hi];have hi':(sj x.length y.length==0)=false:=by simpa using hi
  generalize hr:sj x.length y.length=r at*;have R:Hid _:=hr;clear hr
  go_enter Tryz.func60,Tryz.ntmps60
  go_wp2_with (first
   |(go_at_call 75;refine(jy _ _ _).mono ?_;rintro e w' ⟨rfl,rfl⟩;rw[hz])
   |(go_at_call 76;refine(yC _ _ _).mono ?_;rintro e w' ⟨rfl,rfl⟩;rw[R.out]))
  go_ret;exact⟨rfl,((aj.refl _).alloc _).alloc _⟩
 rw[if_pos hz];have hz':(gV n1 n2==0)=false:=by simpa using hz
 generalize hr:gV n1 n2=r at*;have R:Hid _:=hr;clear hr
 go_enter Tryz.func60,Tryz.ntmps60
 go_wp2_with (go_at_call 75;refine(jy _ _ _).mono ?_;rintro e w' ⟨rfl,rfl⟩;rw[R.out])
 go_ret;exact⟨rfl,((aj.refl _).alloc _).alloc _⟩
theorem begins (x:Int) (w:World):Calls Tryz.prog 97 #[.int .u8 x] w fun e w'=>e=.returned (.bool (gP x))∧w'=w:=by
 go_enter Tryz.func97,Tryz.ntmps97
 go_wp2
 all_goals
  go_ret;refine⟨bB ?_,rfl⟩;rw[Bool.eq_iff_iff];simp[gP];omega
theorem Ei (x:Int) (w:World):Calls Tryz.prog 122 #[.int .u8 x] w fun e w'=>e=.returned (.bool (jc x))∧w'=w:=by
 cases hs:gP x
 ·go_enter Tryz.func122,Tryz.ntmps122
  go_wp2_with (go_at_call 97;refine(begins _ _).mono ?_;rintro e w' ⟨rfl,rfl⟩;rw[hs])
  all_goals
   go_ret;refine⟨bB ?_,rfl⟩;rw[Bool.eq_iff_iff];simp[jc,hs];omega
 go_enter Tryz.func122,Tryz.ntmps122
 go_wp2_with (go_at_call 97;refine(begins _ _).mono ?_;rintro e w' ⟨rfl,rfl⟩;rw[hs])
 go_ret;exact⟨bB (by simp[jc,hs]),rfl⟩
def eX (s:ByteArray):Bool:=
 decide (0<s.size∧s.size≤12)&&(match s.data.toList with|[]=>false|c::r=>gP c.toNat&&r.all fun c=>jc c.toNat)
theorem oO {s:ByteArray} (h:s.size=0∨12<s.size):eX s=false:=by unfold eX;rw[decide_eq_false (by omega)];rfl
theorem size_data (s:ByteArray):s.data.toList.length=s.size:=Array.length_toList
def lY (s:ByteArray) (k:Nat):Bool:=(s.data.toList.drop k).all fun c=>jc c.toNat
theorem mW {s:ByteArray} {k:Nat} (h:k<s.size):lY s k=(jc s[k].toNat&&lY s (k+1)):=by
 have hl:k<s.data.toList.length:=by rw[size_data];exact h
 unfold lY;rw[List.drop_eq_getElem_cons hl,List.all_cons]
 rfl
theorem AV {s:ByteArray} {k:Nat} (h:s.size≤k):lY s k=true:=by unfold lY;rw[List.drop_eq_nil_of_le (by rw[size_data];exact h)];rfl
theorem lZ {s:ByteArray} (h0:0<s.size) (h1:s.size≤12):eX s=(gP (s[0].toNat)&&lY s 1):=by
 unfold eX;have hl:=size_data s;rw[decide_eq_true ⟨h0,h1⟩];cases h:s.data.toList with
 |nil=>rw[h] at hl;simp at hl;omega
 |cons c r=>
  have:s[0]=c:=by have:s[0]=s.data.toList[0]'(by omega):=rfl;rw[this];simp[h]
  simp[this,lY,h]
theorem qW (s:ByteArray) (k:Nat):s.extract 0 k=bs ((raw s).take k):=by
 apply wT
 rw[jN];unfold raw;rw[ByteArray.data_extract];simp
theorem yD {s:ByteArray} {k:Nat} (h:k<s.size) (h':k<(raw s).length):(raw s)[k]'h'=s[k]'h:=rfl
def goes (s:ByteArray) (k:Nat):Bs:=(raw s).take k++((raw s).drop k).takeWhile eO
theorem AX {s:ByteArray} {k:Nat} (h:k<s.size):goes s k=if jc s[k].toNat then goes s (k+1) else(raw s).take k:=by
 have hl:k<(raw s).length:=by rw[bK];exact h
 unfold goes;rw[List.drop_eq_getElem_cons hl,List.takeWhile_cons,yD h hl]
 by_cases hc:jc (s[k]'h).toNat=true
 ·rw[if_pos hc,if_pos (show eO (s[k]'h)=true from hc),List.take_succ_eq_append_getElem hl,yD h hl];simp
 rw[if_neg hc,if_neg (show¬eO (s[k]'h)=true from hc)];simp
theorem Dj {s:ByteArray} {k:Nat} (h:s.size≤k):goes s k=(raw s).take k:=by unfold goes;rw[List.drop_eq_nil_of_le (by rw[bK];exact h)];simp
theorem Gz (s:ByteArray) (w:World) (hs:s.size≤4294967296):Calls Tryz.prog 98 #[.string s] w fun e w'=>e=.returned (.string (bs ((raw s).takeWhile eO)))∧w'=w:=by
 have h0:goes s 0=(raw s).takeWhile eO:=by simp[goes]
 rw[←h0];clear h0
 go_enter Tryz.func98,Tryz.ntmps98
 go_wp2
 go_loop [3] (fun i=>∃k:Nat,k≤s.size∧i=.int .i64 k∧Hid (goes s 0=goes s k)) (fun i=>s.size- (intOf i).toNat)
 case atStart=>exact⟨0,by omega,rfl,(rfl:_=_)⟩
 obtain⟨k,hk,rfl,HE⟩:=hrel
 by_cases hlt:k<s.size
 ·have ha:=AX hlt;cases hc:jc (s[k]'hlt).toNat
  ·have F:Hid (goes s 0=(raw s).take k):=by show _=_;rw[HE.out,ha,hc];rfl
   clear ha
   go_wp2_with (go_at_call 122;refine(Ei _ _).mono ?_;rintro e w' ⟨rfl,rfl⟩;rw[hc])
   go_ret;exact⟨by rw[F.out,←qW];rfl,rfl⟩
  have F:Hid (goes s 0=goes s (k+1)):=by show _=_;rw[HE.out,ha,hc];rfl
  clear ha;have HK:Hid (k+1≤s.size):=hlt
  go_wp2_with (go_at_call 122;refine(Ei _ _).mono ?_;rintro e w' ⟨rfl,rfl⟩;rw[hc])
  go_round
  case rel=>exact⟨k+1,HK.out,by go_num,F⟩
  case measure=>have:=HK.out;simp[intOf];omega
 have F:Hid (goes s 0=(raw s).take k):=by show _=_;rw[HE.out,Dj (by omega)]
 go_wp2;go_ret;exact⟨by rw[F.out,←qW];rfl,rfl⟩
theorem jA (f:UInt8→Bool):∀l:Bs,decide ((l.takeWhile f).length=l.length)=l.all f:=by
 intro l
 induction l with
 |nil=>rfl
 |cons c t ih=>
  rw[List.takeWhile_cons,List.all_cons];cases hc:f c;·simp
  simp[←ih]
theorem wW {s:ByteArray} (h0:0<s.size) (h1:s.size≤12) (hb:gP s[0].toNat=true):eX s=decide ((bs ((raw s).takeWhile eO)).size=s.size):=by
 rw[iB,←bK s,jA,lZ h0 h1,hb];have hl:0<(raw s).length:=by rw[bK];exact h0
 have e:raw s=(s[0]'h0)::(raw s).drop 1:=by have:=List.drop_eq_getElem_cons hl;rw[List.drop_zero,yD h0 hl] at this;exact this
 have hs:eO (s[0]'h0)=true:=by unfold eO jc;rw[hb];rfl
 rw[e,List.all_cons,hs]
 rfl
theorem jV (s:ByteArray):eX s=isNamed (raw s):=by
 unfold eX isNamed;rw[bK];show(decide (0<s.size∧s.size≤12)&&match raw s with|[]=>false|c::r=>gP c.toNat&&r.all fun c=>jc c.toNat)=_;have hl:=bK s;cases h:raw s with
 |nil=>simp
 |cons c t=>
  rw[h] at hl;have:0<s.size:=by rw[←hl];simp
  simp only[List.all_cons];rw[show(t.all fun c=>jc c.toNat)=t.all eO from rfl]
  by_cases h12:s.size≤12
  ·rw[decide_eq_true ⟨this,h12⟩,decide_eq_true h12];cases hc:gP c.toNat;·simp
   rw[show eO c=true by unfold eO jc;rw[hc];rfl];simp
  rw[decide_eq_false (fun h=>h12 h.2),decide_eq_false h12];rfl
theorem named (s:ByteArray) (w:World):Calls Tryz.prog 72 #[.string s] w fun e w'=>e=.returned (.bool (eX s))∧w'=w:=by
 by_cases h0:0<s.size
 ·by_cases h1:s.size≤12
  ·have h0':((s.size:Int)==0)=false:=by rw[beq_eq_false_iff_ne];omega
   cases hb:gP s[0].toNat
   ·have F:Hid (eX s=false):=by show _=_;rw[lZ h0 h1,hb];rfl
    go_enter Tryz.func72,Tryz.ntmps72
    go_wp2_with (go_at_call 97;refine(begins _ _).mono ?_;rintro e w' ⟨rfl,rfl⟩;rw[hb])
    go_ret;exact⟨bB F.out.symm,rfl⟩
   have F:Hid (eX s=decide ((bs ((raw s).takeWhile eO)).size=s.size)):=wW h0 h1 hb;generalize hx:bs ((raw s).takeWhile eO)=x at F;have HX:=au hx;clear hx
   go_enter Tryz.func72,Tryz.ntmps72
   go_wp2_with (first
    |(go_at_call 97;refine(begins _ _).mono ?_;rintro e w' ⟨rfl,rfl⟩;rw[hb])
    |(go_at_call 98;refine(Gz _ _ (by omega)).mono ?_;rintro e w' ⟨rfl,rfl⟩;rw[HX.out]))
   go_ret;refine⟨bB ?_,rfl⟩;rw[F.out,Bool.eq_iff_iff];simp;omega
  rw[oO (Or.inr (by omega))];have h0':((s.size:Int)==0)=false:=by rw[beq_eq_false_iff_ne];omega
  go_enter Tryz.func72,Tryz.ntmps72
  go_wp2;go_ret;exact⟨rfl,rfl⟩
 rw[oO (Or.inl (by omega))];have h0':((s.size:Int)==0)=true:=by rw[beq_iff_eq];omega
 go_enter Tryz.func72,Tryz.ntmps72
 go_wp2;go_ret;exact⟨rfl,rfl⟩
theorem Ej (s:ByteArray) (w:World):Calls Tryz.prog 74 #[.string s] w fun e w'=>e=.returned (.bool (!eX s))∧w'=w:=by
 generalize hr:eX s=r;have R:Hid _:=hr;clear hr
 go_enter Tryz.func74,Tryz.ntmps74
 go_wp2_with (go_at_call 72;refine(named _ _).mono ?_;rintro e w' ⟨rfl,rfl⟩;rw[R.out])
 go_ret;exact⟨rfl,rfl⟩
def dZ (l:List ByteArray) (k:Nat):Bool:=(l.drop k).any fun s=> !eX s
theorem oP {l:List ByteArray} {k:Nat} (h:k<l.length):dZ l k=(!eX (l.getD k ByteArray.empty)||dZ l (k+1)):=by unfold dZ;rw[List.drop_eq_getElem_cons h,List.any_cons,List.getD_eq_getElem?_getD,List.getElem?_eq_getElem h];rfl
theorem qX {l:List ByteArray} {k:Nat} (h:l.length≤k):dZ l k=false:=by unfold dZ;rw[List.drop_eq_nil_of_le h];rfl
theorem indexFunc (v:Value) (l:List ByteArray) (w:World) (h:Strs w v l):
  Calls Tryz.prog 99 #[v,.func (.func 74) #[] #[]] w fun e w'=>∃n:Int,e=.returned (.int .i64 n)∧decide (0≤n)=dZ l 0∧w'=w:=by
 obtain⟨h0,a,cap,rfl,hc⟩:=h;have HC:Hid _:=hc;clear hc
 go_enter Tryz.func99,Tryz.ntmps99
 go_wp2
 go_loop [8] (fun i=>∃k:Nat,k≤l.length∧i=.int .i64 k∧Hid (dZ l 0=dZ l k)) (fun i=>l.length- (intOf i).toNat)
 case atStart=>exact⟨0,by omega,rfl,(rfl:_=_)⟩
 obtain⟨k,hk,rfl,HE⟩:=hrel
 by_cases hlt:k<l.length
 ·obtain⟨b,off,rfl,_,hcell⟩:=HC.out (by intro e;rw[e] at hlt;simp at hlt);have h1:=hcell k hlt;have hs:=oP hlt;clear hcell;generalize l.getD k ByteArray.empty=s at*;cases hn:eX s
  ·have F:Hid (dZ l 0=true):=by show _=_;rw[HE.out,hs,hn];rfl
   clear hs
   go_wp2_with (go_at_call 74;refine(Ej _ _).mono ?_;rintro e w' ⟨rfl,rfl⟩;rw[hn])
   go_ret;exact⟨_,rfl,by rw[F.out];simp,rfl⟩
  have F:Hid (dZ l 0=dZ l (k+1)):=by show _=_;rw[HE.out,hs,hn];rfl
  clear hs
  go_wp2_with (go_at_call 74;refine(Ej _ _).mono ?_;rintro e w' ⟨rfl,rfl⟩;rw[hn])
  go_round
  case rel=>exact⟨k+1,by omega,by go_num,F⟩
  case measure=>simp[intOf];omega
 have F:Hid (dZ l 0=false):=by show _=_;rw[HE.out,qX (by omega)]
 go_wp2;go_ret;exact⟨_,rfl,by rw[F.out];simp,rfl⟩
theorem vE (v:Value) (l:List ByteArray) (w:World) (h:Strs w v l):
  Calls Tryz.prog 73 #[v,.func (.func 74) #[] #[]] w fun e w'=>e=.returned (.bool (dZ l 0))∧w'=w:=by
 have hI:=indexFunc v l w h;obtain⟨h0,a,cap,rfl,hc⟩:=h;have HI:=au hI;clear hc hI
 go_enter Tryz.func73,Tryz.ntmps73
 go_wp2_with (go_at_call 99;refine HI.out.mono ?_;rintro e w' ⟨n,rfl,hn,rfl⟩;replace hn:=au hn)
 go_ret;exact⟨bB (bg hn),rfl⟩
def eF (f:aG):Int:=if !eX f.1 then 7 else if 4<f.2.length then 5 else if dZ f.2 0 then 7 else 0
theorem wrong (v:Value) (f:aG) (w:World) (h:dh w v f):
  Calls Tryz.prog 59 #[v] w fun e w'=>e=.returned (.int .i64 (eF f))∧aj w w':=by
 obtain⟨s,rfl,k⟩:=h;have HC:Hid (∀w',aj w w'→Calls Tryz.prog 73 #[s,.func (.func 74) #[] #[]] w' fun e w''=>e=.returned (.bool (dZ f.2 0))∧w''=w'):=fun w' hw=>vE s f.2 w' (k.later hw);have l0:=k.1;obtain⟨a,c,rfl⟩:=bP k;clear k;obtain⟨n,x⟩:=f;unfold eF;dsimp only at*;cases hn:eX n
 ·go_enter Tryz.func59,Tryz.ntmps59
  go_wp2_with (go_at_call 72;refine(named _ _).mono ?_;rintro e w' ⟨rfl,rfl⟩;rw[hn])
  go_ret;exact⟨rfl,(aj.refl _).alloc _⟩
 by_cases h4:4<x.length
 ·rw[if_pos h4]
  go_enter Tryz.func59,Tryz.ntmps59
  go_wp2_with (go_at_call 72;refine(named _ _).mono ?_;rintro e w' ⟨rfl,rfl⟩;rw[hn])
  go_ret;exact⟨rfl,(aj.refl _).alloc _⟩
 rw[if_neg h4];cases hb:dZ x 0
 all_goals
  rw[hb] at HC
  go_enter Tryz.func59,Tryz.ntmps59
  go_wp2_with (first
   |(go_at_call 72;refine(named _ _).mono ?_;rintro e w' ⟨rfl,rfl⟩;rw[hn])
   |(go_at_call 73;refine(HC.out _ ((aj.refl _).alloc _)).mono ?_;rintro e w' ⟨rfl,rfl⟩))
  go_ret;exact⟨rfl,(aj.refl _).alloc _⟩
def jI (f g:aG):Bool:=decide (fF f g<0)
theorem AY (a b:ByteArray):decide (gV a b<0)=Op.bytesLess a.toList b.toList:=by
 unfold gV;cases h:Op.bytesLess a.toList b.toList;·cases h2:(a.toList==b.toList) <;> simp
 simp
theorem AZ {a b:ByteArray} (h:(a.toList==b.toList)=false):gV a b≠0:=by intro e;rw[bJ.zero _ _ e] at h;simp at h
theorem wX {a b:ByteArray} (h:(a.toList==b.toList)=true):gV a b=0:=by
 have:a.toList=b.toList:=by simpa using h
 rw[toList_inj this];exact bJ.refl b
theorem zw {f g:aG} (h:(f.1.toList==g.1.toList)=false):jI f g=Op.bytesLess f.1.toList g.1.toList:=by unfold jI fF;rw[if_pos (AZ h),AY]
theorem A8 {f g:aG} (h:(f.1.toList==g.1.toList)=true) (hl:((f.2.length:Int)==(g.2.length:Int))=false):jI f g=decide ((f.2.length:Int)<(g.2.length:Int)):=by
 have hl':(f.2.length:Int)≠(g.2.length:Int):=by simpa using hl
 unfold jI fF;rw[if_neg (by rw[wX h];simp)];unfold sj
 by_cases hh:(f.2.length:Int)<(g.2.length:Int)
 ·simp[hh]
 have h2:(g.2.length:Int)<(f.2.length:Int):=by omega
 rw[if_neg hh,if_pos h2,decide_eq_false hh];rfl
theorem zx {f g:aG} (h:(f.1.toList==g.1.toList)=true) (hl:f.2.length=g.2.length):jI f g=decide (cmpL f.2 g.2<0):=by unfold jI fF;rw[if_neg (by rw[wX h];simp),if_neg (by rw[hl,iZ.refl];simp)]
theorem zy (n1 n2:ByteArray) (x y:List ByteArray) (a1 a2:Option Addr) (c1 c2:Nat) (w:World) (hn:(n1.toList==n2.toList)=true) (hl:x.length=y.length) (hx:x.length≤8796093022208)
  (k1:x≠[]→∃b off,a1=some ⟨b,off,none⟩∧b<w.heap.size∧∀i,i<x.length→w.cell? ⟨b,off+i,none⟩=some (.string (x.getD i ByteArray.empty)))
  (k2:y≠[]→∃b off,a2=some ⟨b,off,none⟩∧b<w.heap.size∧∀i,i<y.length→w.cell? ⟨b,off+i,none⟩=some (.string (y.getD i ByteArray.empty))):
  Calls Tryz.prog 41 #[.agg #[.string n1,.slice a1 x.length c1],.agg #[.string n2,.slice a2 y.length c2]] w fun e w'=>e=.returned (.bool (decide (cmpL x y<0)))∧aj w w':=by
 have K1:=au k1;have K2:=au k2;clear k1 k2;have hl2:((x.length:Int)==(y.length:Int))=true:=by rw[hl];simp
 have HL:=au hl;clear hl
 go_enter Tryz.func41,Tryz.ntmps41
 go_wp2
 go_loopw [33] (fun i wr=>∃k q:Nat,k≤x.length∧i=.int .i64 k∧wr=((w.alloc (.cells #[.string n1,.slice a1 x.length c1] 50)).alloc (.cells #[.string n2,.slice a2 y.length c2] 50)).drewN q∧Hid (cmpL x y=cmpL (x.drop k) (y.drop k))) (fun i _=>x.length- (intOf i).toNat)
 case atStart=>exact⟨0,0,Nat.zero_le _,rfl,rfl,(by simp:cmpL x y=cmpL (x.drop 0) (y.drop 0))⟩
 obtain⟨k,q,hk,rfl,rfl,HE⟩:=hrel
 by_cases hlt:k<x.length
 ·have hne:x≠[]:=by intro e;rw[e] at hlt;simp at hlt
  have hlt2:k<y.length:=by have:=HL.out;omega
  have hne2:y≠[]:=by intro e;rw[e] at hlt2;simp at hlt2
  obtain⟨b,off,rfl,hb,hc⟩:=K1.out hne;obtain⟨b2,off2,rfl,hb2,hd⟩:=K2.out hne2;have g1:=hc k hlt;have g2:=hd k hlt2;have e:=uN x y k hlt hlt2;clear hc hd;have hltz:(k:Int)<(x.length:Int):=by omega
  have Lp:(k:Int)<(y.length:Int):=by omega
  generalize x.getD k ByteArray.empty=sx at*;generalize y.getD k ByteArray.empty=sy at*;have E:=au e;clear e;have b1:b<w.heap.size+1:=by omega
  have b3:b2<w.heap.size+1:=by omega
  cases hs:(sx.toList==sy.toList)
  ·have F:Hid (decide (cmpL x y<0)=Op.bytesLess sx.toList sy.toList):=by show _=_;rw[HE.out,E.out,if_pos (AZ hs),AY]
   go_wp2
   go_quiet (fail)
   go_wp2
   go_quiet (fail)
   go_wp2;go_ret;exact⟨bB F.out.symm,(by repeat (first|exact aj.refl _|assumption|refine aj.drewN ?_ _|refine aj.drew ?_|refine aj.alloc ?_ _|refine aj.grow ?_ _))⟩
  have F:Hid (cmpL x y=cmpL (x.drop (k+1)) (y.drop (k+1))):=by show _=_;rw[HE.out,E.out,if_neg (by rw[wX hs];simp)]
  go_wp2
  go_quiet (fail)
  go_wp2
  go_roundw
  case rel=>exact⟨k+1,_,by omega,by go_num,rfl,F⟩
  case measure=>simp[intOf];omega
 have F:Hid (cmpL x y=0):=by show _=_;rw[HE.out,lK x y k (by omega),if_neg (by have:=HL.out;omega)]
 go_wp2;go_ret;exact⟨bB (by rw[F.out];simp),(by repeat (first|exact aj.refl _|assumption|refine aj.drewN ?_ _|refine aj.drew ?_|refine aj.alloc ?_ _|refine aj.grow ?_ _))⟩
theorem Dk (v1 v2 : Value) (f g : aG) (w : World) (h1 : dh w v1 f) (h2 : dh w v2 g) :
    Calls Tryz.prog 41 #[v1, v2] w fun e w' => e = .returned (.bool (jI f g)) ∧ aj w w' := by
  obtain ⟨s1, rfl, l1, a1, c1, rfl, k1⟩ := h1
  obtain ⟨s2, rfl, l2, a2, c2, rfl, k2⟩ := h2
  cases hn : (f.1.toList == g.1.toList)
  · rw [zw hn]
    clear k1 k2
    go_enter Tryz.func41, Tryz.ntmps41
    go_wp2
    go_ret
    exact ⟨rfl, (by repeat (first | exact aj.refl _ | assumption | refine aj.drewN ?_ _ | refine aj.drew ?_ | refine aj.alloc ?_ _ | refine aj.grow ?_ _))⟩
  · cases hl : ((f.2.length : Int) == (g.2.length : Int))
    · rw [A8 hn hl]
      clear k1 k2
      go_enter Tryz.func41, Tryz.ntmps41
      go_wp2
      go_ret
      exact ⟨bB (by simp), (by repeat (first | exact aj.refl _ | assumption | refine aj.drewN ?_ _ | refine aj.drew ?_ | refine aj.alloc ?_ _ | refine aj.grow ?_ _))⟩
    · have hl' : f.2.length = g.2.length := by have : (f.2.length : Int) = (g.2.length : Int) := by simpa using hl
                                               omega
      rw [zx hn hl']
      exact zy f.1 g.1 f.2 g.2 a1 a2 c1 c2 w hn hl' l1 k1 k2
def oQ (f g:aG):Bool:=decide (fF f g=0)
theorem zA (f g:aG):oQ f g=(!jI f g&& !jI g f):=by have:=aV.swap f g;unfold oQ jI;rw[Bool.eq_iff_iff];simp;omega
theorem oU {f g:aG}:oQ f g=true↔f=g:=by unfold oQ;rw[decide_eq_true_eq];exact⟨aV.zero f g,fun e=>by rw[e];exact aV.refl g⟩
theorem A9 (v1 v2:Value) (f g:aG) (w:World) (h1:dh w v1 f) (h2:dh w v2 g):
  Calls Tryz.prog 37 #[v1,v2] w fun e w'=>e=.returned (.bool (oQ f g))∧aj w w':=by
 have H1:Hid (∀w',aj w w'→Calls Tryz.prog 41 #[v1,v2] w' fun e w''=>e=.returned (.bool (jI f g))∧aj w' w''):=fun w' hw=>Dk v1 v2 f g w' (h1.later hw) (h2.later hw);have H2:Hid (∀w',aj w w'→Calls Tryz.prog 41 #[v2,v1] w' fun e w''=>e=.returned (.bool (jI g f))∧aj w' w''):=fun w' hw=>Dk v2 v1 g f w' (h2.later hw) (h1.later hw);obtain⟨s1,rfl,l1,a1,c1,rfl,k1⟩:=h1;obtain⟨s2,rfl,l2,a2,c2,rfl,k2⟩:=h2;clear k1 k2;rw[zA];generalize jI f g=x at*;generalize jI g f=y at*;obtain⟨n1,ar1⟩:=f;obtain⟨n2,ar2⟩:=g;dsimp only at*;cases x
 ·go_enter Tryz.func37,Tryz.ntmps37
  go_wp2_with fail
  refine(H1.out _ (by repeat (first|exact aj.refl _|refine aj.alloc ?_ _))).mono ?_;rintro e w1 ⟨rfl,hL⟩;have z1:w1.cell? ⟨w.heap.size,0,none⟩=some (.string n1):=by rw[hL.cell (by simp;omega)];simp
  have z2:w1.cell? ⟨w.heap.size,1,none⟩=some (.slice a1 ar1.length c1):=by rw[hL.cell (by simp;omega)];simp
  have z3:w1.cell? ⟨w.heap.size+1,0,none⟩=some (.string n2):=by rw[hL.cell (by simp)];simp
  have z4:w1.cell? ⟨w.heap.size+1,1,none⟩=some (.slice a2 ar2.length c2):=by rw[hL.cell (by simp)];simp
  go_wp2_with fail
  refine(H2.out _ (aj.trans (((aj.refl _).alloc _).alloc _) hL)).mono ?_;rintro e w2 ⟨rfl,hL2⟩;go_wp2;go_ret;exact⟨by simp,(((aj.refl _).alloc _).alloc _).trans (hL.trans hL2)⟩
 go_enter Tryz.func37,Tryz.ntmps37
 go_wp2_with fail
 refine(H1.out _ (by repeat (first|exact aj.refl _|refine aj.alloc ?_ _))).mono ?_;rintro e w1 ⟨rfl,hL⟩;go_wp2;go_ret;exact⟨by simp,(((aj.refl _).alloc _).alloc _).trans hL⟩
def bV (l:List aG) (f:aG) (k:Nat):Bool:=(l.drop k).any fun x=>oQ x f
theorem wY {l:List aG} {f:aG} {k:Nat} (h:k<l.length):bV l f k=(oQ (l.getD k aA) f||bV l f (k+1)):=by unfold bV;rw[List.drop_eq_getElem_cons h,List.any_cons,List.getD_eq_getElem?_getD,List.getElem?_eq_getElem h];rfl
theorem zB {l:List aG} {f:aG} {k:Nat} (h:l.length≤k):bV l f k=false:=by unfold bV;rw[List.drop_eq_nil_of_le h];rfl
theorem Facts.at {w:World} {b off:Nat} {n cap:Nat} {l:List aG} (h:Facts w (.slice (some ⟨b,off,none⟩) n cap) l) {k:Nat} (hk:k<l.length):
  b<w.heap.size∧∃a len c,w.cell? ⟨b,off+k*2,none⟩=some (.string (l.getD k aA).1)∧w.cell? ⟨b,off+k*2+1,none⟩=some (.slice a len c)∧dh w (.agg #[.string (l.getD k aA).1,.slice a len c]) (l.getD k aA):=by
 obtain⟨_,a,cap',e,h1⟩:=h;obtain⟨b',off',e',hb,hc⟩:=h1 (by intro e;rw[e] at hk;simp at hk);rw[e'] at e;simp only[Value.slice.injEq,Option.some.injEq,Addr.mk.injEq] at e;obtain⟨⟨rfl,rfl,_⟩,_,_⟩:=e;obtain⟨c1,s,c2,c3⟩:=hc k hk;obtain⟨a2,cp,rfl⟩:=bP c3;exact⟨hb,a2,_,cp,c1,c2,_,rfl,c3⟩
theorem Facts.addr {w:World} {v:Value} {l:List aG} (h:Facts w v l):∃a cap,v=.slice a l.length cap∧l.length≤3518437208883∧(l=[]∨∃b off,a=some ⟨b,off,none⟩):=by
 obtain⟨h0,a,cap,rfl,h1⟩:=h;refine⟨a,cap,rfl,h0,?_⟩
 by_cases e:l=[]
 ·exact Or.inl e
 obtain⟨b,off,rfl,_⟩:=h1 e;exact Or.inr ⟨b,off,rfl⟩
theorem rIn (v1 v2:Value) (l:List aG) (f:aG) (w:World) (h1:Facts w v1 l) (h2:dh w v2 f):
  Calls Tryz.prog 22 #[v1,v2] w fun e w'=>e=.returned (.bool (bV l f 0))∧aj w w':=by
 have H1:=au h1;have H2:=au h2;obtain⟨s2,rfl,l2,a2,c2,rfl,_⟩:=h2;obtain⟨a,cap,rfl,hn,hz⟩:=h1.addr;clear h1
 go_enter Tryz.func22,Tryz.ntmps22
 go_wp2
 go_loopw [9] (fun i wr=>∃k:Nat,k≤l.length∧i=.int .i64 k∧aj (w.alloc (.cells #[.string f.1,.slice a2 f.2.length c2] 50)) wr∧Hid (bV l f 0=bV l f k)) (fun i _=>l.length- (intOf i).toNat)
 case atStart=>exact⟨0,by omega,rfl,aj.refl _,(rfl:_=_)⟩
 obtain⟨k,hk,rfl,hL,HE⟩:=hrel
 by_cases hlt:k<l.length
 ·rcases hz with rfl|⟨b,off,rfl⟩;·simp at hlt
  have hL0:aj w wr:=((aj.refl _).alloc _).trans hL;obtain⟨hb,ax,lx,cx,g1,g2,fx⟩:=(H1.out.later hL0).at hlt;have z0:wr.cell? ⟨w.heap.size,0,none⟩=some (.string f.1):=by rw[hL.cell (by simp)];simp
  have z1:wr.cell? ⟨w.heap.size,1,none⟩=some (.slice a2 f.2.length c2):=by rw[hL.cell (by simp)];simp
  have z2:w.heap.size<wr.heap.size:=by have:=hL.size;simp at this;omega
  have hs:=wY (f:=f) hlt;have hltz:(k:Int)<(l.length:Int):=by omega
  have HC:Hid (∀w',aj wr w'→Calls Tryz.prog 37 #[.agg #[.string (l.getD k aA).1,.slice ax lx cx],.agg #[.string f.1,.slice a2 f.2.length c2]] w' fun e w''=>e=.returned (.bool (oQ (l.getD k aA) f))∧aj w' w''):=
   fun w' hw=>A9 _ _ _ _ w' (fx.later hw) ((H2.out.later hL0).later hw)
  generalize(l.getD k aA).1=nk at*;generalize oQ (l.getD k aA) f=r at*;clear fx;cases r
  ·have F:Hid (bV l f 0=bV l f (k+1)):=by show _=_;rw[HE.out,hs];rfl
   clear hs
   go_wp2_with (go_at_call 37;refine(HC.out _ ((aj.refl _).alloc _)).mono ?_;rintro e w1 ⟨rfl,hL1⟩)
   go_roundw
   case rel=>exact⟨k+1,by omega,by go_num,hL.trans (((aj.refl _).alloc _).trans hL1),F⟩
   case measure=>simp[intOf];omega
  have F:Hid (bV l f 0=true):=by show _=_;rw[HE.out,hs];rfl
  clear hs
  go_wp2_with (go_at_call 37;refine(HC.out _ ((aj.refl _).alloc _)).mono ?_;rintro e w1 ⟨rfl,hL1⟩)
  go_ret;exact⟨bB F.out.symm,hL0.trans (((aj.refl _).alloc _).trans hL1)⟩
 have F:Hid (bV l f 0=false):=by show _=_;rw[HE.out,zB (by omega)]
 go_wp2;go_ret;exact⟨bB F.out.symm,((aj.refl _).alloc _).trans hL⟩
end Go.Proofs.YthngiikhgplldaaGreatDoor
