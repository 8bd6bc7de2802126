import Derived.Test.YtaallngooaaonaaGreatDoorJT19
import Derived.Test.YtaallngooaaonaaGreatDoorJT27
import Derived.Test.YtaallngooaaonaaGreatDoorJT11
open Go.RowKit Go.Sort Go.Maps
set_option maxRecDepth 100000
namespace Go.Proofs.YtaallngooaaonaaGreatDoor
def YK:ByteArray:={data:=#[98,40,88,41,32,58,45,32,97,40,88,41,44,32,33,99,40,88,41,46,32,99,40,88,41,32,58,45,32,100,40,88,41,46]}
def YL:ByteArray:={data:=#[97,40,120,41,32,58,45,32,33,97,40,120,41,46]}
def ra:aG:=⟨⟨false,[98],[(true,[88])]⟩,[⟨false,[97],[(true,[88])]⟩,⟨true,[99],[(true,[88])]⟩]⟩
def rb:aG:=⟨⟨false,[99],[(true,[88])]⟩,[⟨false,[100],[(true,[88])]⟩]⟩
def rc:aG:=⟨⟨false,[97],[(false,[120])]⟩,[⟨true,[97],[(false,[120])]⟩]⟩
theorem YM:DR (raw YK)=([ra,rb],0,0):=by kernel_rfl
theorem YN:DR (raw YL)=([rc],0,0):=by kernel_rfl
theorem Uc:aV [ra,rb]=([1,0],0,0):=by kernel_rfl
theorem Ud:aV [rc]=([],10,0):=by kernel_rfl
theorem V8:dw [ra,rb]=(0,0):=by kernel_rfl
theorem YO:vars ra.head=[[88]]:=by kernel_rfl
theorem j6 {v:Value} {z:DataW Unit×List MemPlace} (h:plainElem Tryz.prog 4 v=some z):∃x,v=.bool x∧z=(.lit (.bool x),[]):=by
 unfold plainElem at h;rw[Tryz.underlying4] at h;cases v <;> simp at h
 exact⟨_,rfl,h.symm⟩
theorem DX (w:World):(zeroValue 4).run Tryz.prog w=.ok (.bool false) w:=by kernel_rfl
def addN (l:List Nat) (x:Nat):List Nat:=if l.contains x then l else l++[x]
def vX (l:List Nat):List Nat:=l.foldl addN []
theorem Fw (l:List Nat) (x:Nat):vX (l++[x])=addN (vX l) x:=by simp[vX,List.foldl_append]
theorem Pm {l:List Nat} {j x:Nat} (h:l[j]?=some x):vX (l.take (j+1))=addN (vX (l.take j)) x:=by rw[List.take_add_one,h];exact Fw _ _
theorem Ld (l:List Nat) (x y:Nat):y∈addN l x↔y∈l∨y=x:=by
 unfold addN;split
 ·rename_i h;have:x∈l:=by simpa using h
  exact⟨Or.inl,fun h=>h.elim id fun e=>by rw[e];exact this⟩
 simp
theorem Fx {l:List Nat} (h:l.Nodup) (x:Nat):(addN l x).Nodup:=by
 unfold addN;split;·exact h
 rename_i hx;have hx':x∉l:=by simpa using hx
 rw[List.nodup_append];exact⟨h,by simp,fun a ha b hb=>by simp at hb;subst hb;exact fun e=>hx' (e▸ha)⟩
theorem I8 (l:List Nat):∀(a:List Nat) (y:Nat),y∈l.foldl addN a↔y∈a∨y∈l:=by
 induction l with
 |nil=>intro a y;simp
 |cons x l ih=>intro a y;rw[List.foldl_cons,ih,Ld,List.mem_cons];exact or_assoc
theorem QI (l:List Nat) (y:Nat):y∈vX l↔y∈l:=by unfold vX;rw[I8];simp
theorem Ct (l:List Nat):∀a:List Nat,a.Nodup→(l.foldl addN a).Nodup:=by
 induction l with
 |nil=>intro a h;exact h
 |cons x l ih=>intro a h;exact ih _ (Fx h x)
theorem Oo (l:List Nat):(vX l).Nodup:=Ct l [] List.nodup_nil
theorem Sj (l:List Nat) (x:Nat):(addN l x).length≤l.length+1:=by unfold addN;split <;> simp
theorem Sk:∀(N:Nat) (A:List Nat),A.Nodup→(∀x∈A,x<N)→A.length≤N:=by
 intro N
 induction N with
 |zero=>
  intro A _ h;cases A with
  |nil=>simp
  |cons x A=>exact absurd (h x (by simp)) (Nat.not_lt_zero _)
 |succ N ih=>
  intro A hA h;have h1:=ih (A.erase N) (hA.erase N) (fun x hx=>by rw[hA.mem_erase_iff] at hx;have:=h x hx.2;omega)
  by_cases hN:N∈A
  ·rw[List.length_erase_of_mem hN] at h1;omega
  rw[List.erase_of_not_mem hN] at h1;omega
def Cu (w:World) (b n:Nat) (A:List Nat):Prop:=∃D:DataW Unit,w.ownsMap Tryz.prog 3 (plainElem Tryz.prog 4) b n D∧Maps.size D=A.length∧∀k:Nat,Maps.has D (.int .i64 (k:Int))=A.contains k∧D.atKey (.int .i64 (k:Int)) (.lit (.bool false))=.lit (.bool (A.contains k))
theorem Cu.made (w:World):Cu (w.alloc (.map #[] 0)) w.heap.size 0 []:=⟨.map [],World.ownsMap_made _ _ _ _,rfl,fun _=>⟨rfl,rfl⟩⟩
theorem Cu.lt {w:World} {b n:Nat} {A:List Nat} (h:Cu w b n A):b<w.heap.size:=by obtain⟨D,h,_⟩:=h;exact h.lt
theorem Cu.later {w w':World} {b n:Nat} {A:List Nat} (h:Cu w b n A) (k:ak w w'):Cu w' b n A:=by have hlt:=h.lt;obtain⟨D,h,hf⟩:=h;exact⟨D,dN h (k.block hlt),hf⟩
structure Good (p:List aG) (l:List Nat):Prop where
 len:l.length=p.length
 alike:∀(i j:Nat) r q x y,p[i]?=some r→p[j]?=some q→l[i]?=some x→l[j]?=some y→q.head.name=r.head.name→y=x
 below:∀(i j:Nat) r q x y a,p[i]?=some r→p[j]?=some q→l[i]?=some x→l[j]?=some y→a∈r.body→a.name=q.head.name→y+step a≤x
 full:∀k,k<(vX l).length→k∈vX l
 small:∀x∈l,x<16
end Go.Proofs.YtaallngooaaonaaGreatDoor
