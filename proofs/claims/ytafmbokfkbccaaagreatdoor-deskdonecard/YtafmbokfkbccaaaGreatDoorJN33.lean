import Derived.Test.YtafmbokfkbccaaaGreatDoorJN32
import Derived.Test.YtafmbokfkbccaaaGreatDoorJN10
import Derived.Test.YtafmbokfkbccaaaGreatDoorJN11
namespace Go.Proofs.YtafmbokfkbccaaaGreatDoor
open Go.RowKit Go.Sort
end Go.Proofs.YtafmbokfkbccaaaGreatDoor
namespace Go.Proofs.YtafmbokfkbccaaaGreatDoor
open Go.RowKit Go.Sort Go.Maps
def Sd (t:dH):Prop:=t.2.length≤9223372036854775807
def V9 (a:aF):Prop:=a.name.length≤9223372036854775807∧∀t∈a.terms,Sd t
end Go.Proofs.YtafmbokfkbccaaaGreatDoor
namespace Go.Proofs.YtafmbokfkbccaaaGreatDoor
open Go.RowKit Go.Sort Go.Maps
set_option maxRecDepth 100000 in
theorem pU {v:Value} {z:DataW Unit×List MemPlace} (h:plainElem Tryz.prog 4 v=some z):∃x,v=.bool x∧z=(.lit (.bool x),[]):=by
 unfold plainElem at h;rw[Tryz.underlying4] at h;cases v <;> simp at h
 exact⟨_,rfl,h.symm⟩
theorem Ku (w:World):(zeroValue 4).run Tryz.prog w=.ok (.bool false) w:=by kernel_rfl
end Go.Proofs.YtafmbokfkbccaaaGreatDoor
namespace Go.Proofs.YtafmbokfkbccaaaGreatDoor
open Go.RowKit Go.Sort Go.Maps
def rT (w:World) (b n:Nat) (f:Bs→Bool):Prop:=∃D:DataW Unit,w.ownsMap Tryz.prog 9 (plainElem Tryz.prog 4) b n D∧∀s,D.atKey (.string s) (.lit (.bool false))=.lit (.bool (f s))
theorem rT.made (w:World):rT (w.alloc (.map #[] 0)) w.heap.size 0 (fun _=>false):=⟨.map [],World.ownsMap_made _ _ _ _,fun _=>rfl⟩
theorem rT.lt {w:World} {b n:Nat} {f:Bs→Bool} (h:rT w b n f):b<w.heap.size:=by obtain⟨D,h,_⟩:=h;exact h.lt
theorem rT.block {w w':World} {b n:Nat} {f:Bs→Bool} (h:rT w b n f) (e:w'.heap[b]?=w.heap[b]?):rT w' b n f:=by obtain⟨D,h,hf⟩:=h;exact⟨D,eP h e,hf⟩
theorem rT.later {w w':World} {b n:Nat} {f:Bs→Bool} (h:rT w b n f) (k:Later w w'):rT w' b n f:=h.block (k.block h.lt)
theorem rT.mono {w:World} {b n m:Nat} {f:Bs→Bool} (h:rT w b n f) (hn:n≤m):rT w b m f:=by obtain⟨D,h,hf⟩:=h;exact⟨D,h.mono hn,hf⟩
theorem rT.congr {w:World} {b n:Nat} {f g:Bs→Bool} (h:rT w b n f) (e:∀s,f s=g s):rT w b n g:=by obtain⟨D,h,hf⟩:=h;exact⟨D,h,fun s=>by rw[hf,e]⟩
set_option maxRecDepth 100000 in
theorem rT.look {w:World} {b n:Nat} {f:Bs→Bool} (h:rT w b n f) {s:Bs} (hs:s.length≤maxLen):(Instr.lookup 82 (.map (some b)) (.string (bs s)) false).run Tryz.prog w=.ok (.bool (f s)) w:=by
 obtain⟨D,hown,hf⟩:=h;obtain⟨v,ps,hrun,hv⟩:=hown.lookup (string_keyed Tryz.underlying9) Tryz.underlying82 (Ku w) (plainElem_bool Tryz.underlying4 false) (nG Tryz.underlying9 hs);rw[hf s] at hv;obtain⟨x,rfl,hz⟩:=pU hv;simp only[Prod.mk.injEq] at hz;have hz:=hz.1
 injection hz with hz
 injection hz with hz
 rw[hrun,hz]
set_option maxRecDepth 100000 in
theorem rT.store {w:World} {b n:Nat} {f:Bs→Bool} (h:rT w b n f) (hn:n<maxLen) {s:Bs} (hs:s.length≤maxLen):
  ∃w',(Instr.mapUpdate 82 (.map (some b)) (.string (bs s)) (.bool true)).run Tryz.prog w=.ok () w'∧rT w' b (n+1) (fun t=>f t||decide (t=s))∧w.grownBy w' (some b):=by
 obtain⟨D,hown,hf⟩:=h;obtain⟨w',hrun,r1,r2⟩:=hown.update (string_keyed Tryz.underlying9) Tryz.underlying82 hn (nG Tryz.underlying9 hs) (plainElem_bool Tryz.underlying4 true);refine⟨w',hrun,⟨_,r1,fun t=> ?_⟩,r2⟩
 by_cases e:t=s
 ·subst e;rw[atKey_put_same hown.isMap (K4 _)];simp
 ·rw[atKey_put_other (qR e),hf];simp[e]
end Go.Proofs.YtafmbokfkbccaaaGreatDoor
