import Derived.Test.YtafmbokfkbccaaaGreatDoorJN17
import Derived.Test.YtafmbokfkbccaaaGreatDoorJN26
import Derived.Test.YtafmbokfkbccaaaGreatDoorJN33
import Derived.Test.YtafmbokfkbccaaaGreatDoorJN39
import Derived.Test.YtafmbokfkbccaaaGreatDoorJN14
namespace Go.Proofs.YtafmbokfkbccaaaGreatDoor
open Go.RowKit Go.Sort Go.Maps
def Ww:ByteArray:={data:=#[98,40,88,41,32,58,45,32,97,40,88,41,44,32,33,99,40,88,41,46,32,99,40,88,41,32,58,45,32,100,40,88,41,46]}
def Wx:ByteArray:={data:=#[97,40,120,41,32,58,45,32,33,97,40,120,41,46]}
def ra:aA:=⟨⟨false,[98],[(true,[88])]⟩,[⟨false,[97],[(true,[88])]⟩,⟨true,[99],[(true,[88])]⟩]⟩
def rb:aA:=⟨⟨false,[99],[(true,[88])]⟩,[⟨false,[100],[(true,[88])]⟩]⟩
def rc:aA:=⟨⟨false,[97],[(false,[120])]⟩,[⟨true,[97],[(false,[120])]⟩]⟩
theorem Wy:bB (raw Ww)=([ra,rb],0,0):=by kernel_rfl
theorem Wz:bB (raw Wx)=([rc],0,0):=by kernel_rfl
theorem Sz:aG [ra,rb]=([1,0],0,0):=by kernel_rfl
theorem SA:aG [rc]=([],10,0):=by kernel_rfl
theorem UE:gX [ra,rb]=(0,0):=by kernel_rfl
theorem WA:vars ra.head=[[88]]:=by kernel_rfl
end Go.Proofs.YtafmbokfkbccaaaGreatDoor
namespace Go.Proofs.YtafmbokfkbccaaaGreatDoor
open Go.RowKit Go.Sort Go.Maps
end Go.Proofs.YtafmbokfkbccaaaGreatDoor
namespace Go.Proofs.YtafmbokfkbccaaaGreatDoor
open Go.RowKit Go.Sort Go.Maps
def addN (l:List Nat) (x:Nat):List Nat:=if l.contains x then l else l++[x]
def vK (l:List Nat):List Nat:=l.foldl addN []
theorem Fy (l:List Nat) (x:Nat):vK (l++[x])=addN (vK l) x:=by simp[vK,List.foldl_append]
theorem NR {l:List Nat} {j x:Nat} (h:l[j]?=some x):vK (l.take (j+1))=addN (vK (l.take j)) x:=by rw[List.take_add_one,h];exact Fy _ _
theorem KE (l:List Nat) (x y:Nat):y∈addN l x↔y∈l∨y=x:=by
 unfold addN;split
 ·rename_i h;have:x∈l:=by simpa using h
  exact⟨Or.inl,fun h=>h.elim id fun e=>by rw[e];exact this⟩
 ·simp
theorem Fz {l:List Nat} (h:l.Nodup) (x:Nat):(addN l x).Nodup:=by
 unfold addN;split
 ·exact h
 ·rename_i hx;have hx':x∉l:=by simpa using hx
  rw[List.nodup_append];exact⟨h,by simp,fun a ha b hb=>by simp at hb;subst hb;exact fun e=>hx' (e▸ha)⟩
theorem I8 (l:List Nat):∀(a:List Nat) (y:Nat),y∈l.foldl addN a↔y∈a∨y∈l:=by
 induction l with
 |nil=>intro a y;simp
 |cons x l ih=>intro a y;rw[List.foldl_cons,ih,KE,List.mem_cons];exact or_assoc
theorem P8 (l:List Nat) (y:Nat):y∈vK l↔y∈l:=by unfold vK;rw[I8];simp
theorem CV (l:List Nat):∀a:List Nat,a.Nodup→(l.foldl addN a).Nodup:=by
 induction l with
 |nil=>intro a h;exact h
 |cons x l ih=>intro a h;exact ih _ (Fz h x)
theorem Nq (l:List Nat):(vK l).Nodup:=CV l [] List.nodup_nil
theorem QG (l:List Nat) (x:Nat):(addN l x).length≤l.length+1:=by unfold addN;split <;> simp
theorem QH:∀(N:Nat) (A:List Nat),A.Nodup→(∀x∈A,x<N)→A.length≤N:=by
 intro N
 induction N with
 |zero=>
  intro A _ h;cases A with
  |nil=>simp
  |cons x A=>exact absurd (h x (by simp)) (Nat.not_lt_zero _)
 |succ N ih=>
  intro A hA h;have h1:=ih (A.erase N) (hA.erase N) (fun x hx=>by
   rw[hA.mem_erase_iff] at hx;have:=h x hx.2;omega)
  by_cases hN:N∈A
  ·rw[List.length_erase_of_mem hN] at h1;omega
  ·rw[List.erase_of_not_mem hN] at h1;omega
def CW (w:World) (b n:Nat) (A:List Nat):Prop:=∃D:DataW Unit,w.ownsMap Tryz.prog 3 (plainElem Tryz.prog 4) b n D∧Maps.size D=A.length∧∀k:Nat,Maps.has D (.int .i64 (k:Int))=A.contains k∧D.atKey (.int .i64 (k:Int)) (.lit (.bool false))=.lit (.bool (A.contains k))
theorem CW.made (w:World):CW (w.alloc (.map #[] 0)) w.heap.size 0 []:=⟨.map [],World.ownsMap_made _ _ _ _,rfl,fun _=>⟨rfl,rfl⟩⟩
theorem CW.lt {w:World} {b n:Nat} {A:List Nat} (h:CW w b n A):b<w.heap.size:=by obtain⟨D,h,_⟩:=h;exact h.lt
theorem CW.later {w w':World} {b n:Nat} {A:List Nat} (h:CW w b n A) (k:Later w w'):CW w' b n A:=by
 have hlt:=h.lt;obtain⟨D,h,hf⟩:=h;exact⟨D,eP h (k.block hlt),hf⟩
set_option maxRecDepth 100000 in
structure Good (p:List aA) (l:List Nat):Prop where
 len:l.length=p.length
 alike:∀(i j:Nat) r q x y,p[i]?=some r→p[j]?=some q→l[i]?=some x→l[j]?=some y→q.head.name=r.head.name→y=x
 below:∀(i j:Nat) r q x y a,p[i]?=some r→p[j]?=some q→l[i]?=some x→l[j]?=some y→a∈r.body→a.name=q.head.name→y+step a≤x
 full:∀k,k<(vK l).length→k∈vK l
 small:∀x∈l,x<16
end Go.Proofs.YtafmbokfkbccaaaGreatDoor
namespace Go.Proofs.YtafmbokfkbccaaaGreatDoor
open Go.RowKit Go.Sort Go.Maps
def uW (v:Value):Option (DataW Value×List MemPlace):=some (.held v,[])
def Xv (w:World) (v:Value) (x:Int×List au):Prop:=∃u,v=.agg #[.int .i64 x.1,u]∧Facts w u x.2
def NS (B:Nat→Prop) (w:World) (v:Value) (x:Int×List au):Prop:=∃u,v=.agg #[.int .i64 x.1,u]∧bC B w u x.2
def jV (B:Nat→Prop) (w:World) (mb n:Nat) (all:List au) (how:au→Int×List au):Prop:=
 ∃D:DataW Value,w.ownsMap Tryz.prog 3 uW mb n D∧∀k:Nat,Maps.has D (.int .i64 (k:Int))=true→∃v f,all[k]?=some f∧(∀z,D.atKey (.int .i64 (k:Int)) z=.held v)∧NS B w v (how f)
theorem jV.made (B:Nat→Prop) (w:World) (all:List au) (how:au→Int×List au):jV B (w.alloc (.map #[] 0)) w.heap.size 0 all how:=⟨.map [],World.ownsMap_made _ _ _ _,fun k h=>by simp[Maps.has] at h⟩
theorem jV.lt {B:Nat→Prop} {w:World} {mb n:Nat} {all:List au} {how:au→Int×List au} (h:jV B w mb n all how):mb<w.heap.size:=by obtain⟨D,h,_⟩:=h;exact h.lt
theorem jV.isMap {B:Nat→Prop} {w:World} {mb n:Nat} {all:List au} {how:au→Int×List au} (h:jV B w mb n all how):∃es c,w.heap[mb]?=some (.map es c):=by
 obtain⟨D,⟨es,c,hb,_⟩,_⟩:=h;exact⟨es,c,hb⟩
theorem jV.kept {B:Nat→Prop} {w w':World} {mb n:Nat} {all:List au} {how:au→Int×List au} (h:jV B w mb n all how) (e:w'.heap[mb]?=w.heap[mb]?) (hs:w.heap.size≤w'.heap.size) (hk:∀k,k<w.heap.size→B k→w'.heap[k]?=w.heap[k]?):jV B w' mb n all how:=by
 obtain⟨D,h1,h2⟩:=h;refine⟨D,eP h1 e,fun k hk'=> ?_⟩;obtain⟨v,f,h3,h4,u,h5,h6⟩:=h2 k hk';exact⟨v,f,h3,h4,u,h5,h6.kept hs hk⟩
theorem jV.mono {B B':Nat→Prop} {w:World} {mb n:Nat} {all:List au} {how:au→Int×List au} (h:jV B w mb n all how) (hm:∀k,k<w.heap.size→B k→B' k):jV B' w mb n all how:=by
 obtain⟨D,h1,h2⟩:=h;refine⟨D,h1,fun k hk'=> ?_⟩;obtain⟨v,f,h3,h4,u,h5,h6⟩:=h2 k hk';exact⟨v,f,h3,h4,u,h5,h6.mono hm⟩
theorem jV.below {B:Nat→Prop} {w w':World} {mb n:Nat} {all:List au} {how:au→Int×List au} (h:jV B w mb n all how) (k:Below w.heap.size w w'):jV B w' mb n all how:=h.kept (k.block mb h.lt) k.size fun i hi _=>k.block i hi
theorem Nr (w:World):(zeroValue 182).run Tryz.prog w=.ok (.agg #[.int .i64 0,.slice none 0 0]) w:=by kernel_rfl
theorem Lx {k:Nat} (h:k≤1000000):(Lit.int .i64 (k:Int)).wf=true:=by
 unfold Lit.wf;simp;exact⟨by show(-9223372036854775808:Int)≤_;omega,by omega⟩
set_option maxRecDepth 100000 in
theorem jV.look {B:Nat→Prop} {w:World} {mb n:Nat} {all:List au} {how:au→Int×List au} (h:jV B w mb n all how) {k:Nat} (hk:k≤1000000) {f:au} (hf:all[k]?=some f):
  ∃v b,(Instr.lookup 112 (.map (some mb)) (.int .i64 (k:Int)) true).run Tryz.prog w=.ok (.tuple #[v,.bool b]) w∧(b=true→NS B w v (how f))∧∃r a n c,v=.agg #[.int .i64 r,.slice a n c]:=by
 obtain⟨D,hown,hD⟩:=h;obtain⟨v,ps,hrun,hv⟩:=hown.look_ok (int_keyed Tryz.underlying3) Tryz.underlying112 (Nr w) (rfl:uW _=some (_,_)) (keyOf_int_mk Tryz.underlying3 (Lx hk));have e:D.atKey (.int .i64 (k:Int)) (.held (.agg #[.int .i64 0,.slice none 0 0]))=.held v:=by
  unfold uW at hv;simp only[Option.some.injEq,Prod.mk.injEq] at hv;exact hv.1.symm
 cases hb:Maps.has D (.int .i64 (k:Int)) with
 |true=>
  obtain⟨v',f',h3,h4,h5⟩:=hD k hb;rw[h4] at e
  injection e with e
  subst e;rw[hf] at h3;cases h3;refine⟨v',true,by rw[hrun,hb],fun _=>h5,?_⟩;obtain⟨u,rfl,hu⟩:=h5;obtain⟨a,c,rfl⟩:=aB hu.facts;exact⟨_,a,_,c,rfl⟩
 |false=>
  have e2:=Maps.atKey_of_not_has (D:=D) (k:=.int .i64 (k:Int)) hb (.held (.agg #[.int .i64 0,.slice none 0 0]));rw[e2] at e
  injection e with e
  subst e;exact⟨_,false,by rw[hrun,hb],fun h=>(by cases h),_,_,_,_,rfl⟩
set_option maxRecDepth 100000 in
theorem jV.store {B:Nat→Prop} {w:World} {mb n:Nat} {all:List au} {how:au→Int×List au} (h:jV B w mb n all how) (hB:∀k,B k→k≠mb) (hn:n<maxLen) {k:Nat} (hk:k≤1000000) {f:au} (hf:all[k]?=some f) {v:Value} (hv:NS B w v (how f)):
  ∃w',(Instr.mapUpdate 112 (.map (some mb)) (.int .i64 (k:Int)) v).run Tryz.prog w=.ok () w'∧jV B w' mb (n+1) all how∧Tn mb w w':=by
 obtain⟨D,hown,hD⟩:=h;obtain⟨w',hrun,r1,r2⟩:=hown.update (int_keyed Tryz.underlying3) Tryz.underlying112 hn (keyOf_int_mk Tryz.underlying3 (Lx hk)) (rfl:uW v=some (_,_));have hT:=gJ r2;have hWa:∀{x:Value} {y:Int×List au},NS B w x y→NS B w' x y:=fun {x y} ⟨u,e,hu⟩=>⟨u,e,hu.kept hT.size fun i hi hb=>hT.block i hi (hB i hb)⟩;refine⟨w',hrun,⟨_,r1,fun j hj=> ?_⟩,hT⟩
 by_cases e:j=k
 ·subst e;exact⟨v,f,hf,fun z=>by rw[atKey_put_same (k:=.int .i64 (j:Int)) hown.isMap trivial],hWa hv⟩
 ·have hne:(Lit.int .i64 (j:Int))≠ .int .i64 (k:Int):=fun h=>by injection h with _ h;omega
  rw[has_put_other hne] at hj;obtain⟨v',f',h3,h4,h5⟩:=hD j hj;exact⟨v',f',h3,fun z=>by rw[atKey_put_other hne];exact h4 z,hWa h5⟩
theorem KF {l:List au} {g:au} (hr:gW l) (hg:g∈l) {m:Nat} (hm:m≤l.length) (ha:∀t,t<m→gM (l.getD t aC) g<0) (hb:∀t,m≤t→t<l.length→0≤gM (l.getD t aC) g):l[m]?=some g:=by
 have h:=meet hr hm ha hb;rw[mX.2 hg] at h;have h:=h.symm;rw[Bool.and_eq_true,decide_eq_true_eq,decide_eq_true_eq] at h;have e:=aU.zero _ _ h.2;rw[List.getD_eq_getElem?_getD,List.getElem?_eq_getElem h.1] at e;rw[List.getElem?_eq_getElem h.1];exact congrArg some e
end Go.Proofs.YtafmbokfkbccaaaGreatDoor
