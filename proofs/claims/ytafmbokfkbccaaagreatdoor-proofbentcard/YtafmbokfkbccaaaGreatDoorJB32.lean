import Derived.Test.YtafmbokfkbccaaaGreatDoorJB31
import Derived.Test.YtafmbokfkbccaaaGreatDoorJB4
import Derived.Test.YtafmbokfkbccaaaGreatDoorJB21
import Derived.Test.YtafmbokfkbccaaaGreatDoorJB23
import Derived.Test.YtafmbokfkbccaaaGreatDoorJB24
import Derived.Lib.SlBytesRow
namespace Go.Proofs.YtafmbokfkbccaaaGreatDoor
open Go.RowKit Go.Sort Go.Maps
theorem AY {p:List aA} {told all:List aj} (h:kS p told=(0,all)) (f:aj):fI all∧((inB all f=false∧∃er,er≠0∧iM p told f=(er,none))∨(inB all f=true∧(iM p told f=(4,none)∨∃x,iM p told f=(0,some x)))):=by
 have h0:gq p told=0:=by rw[←(iC p told).1,h]
 obtain⟨_,_,hg,hall,_⟩:=nJ h0;rw[h] at hall;have e:all=aX told (dP p told):=(Prod.ext_iff.1 hall).2;rw[←e] at hg;refine⟨hg.up,?_⟩;unfold iM;rw[if_neg (fun hn=>hn h0),←e];cases hi:inB all f with
 |false=>
  left
  refine⟨rfl,?_⟩;split
  ·rename_i hw;exact⟨_,hw,rfl⟩
  ·exact⟨6,by decide,by rw[if_pos rfl]⟩
 |true=>
  right
  refine⟨rfl,?_⟩;have hw:gD f=0:=iJ.2 (hg.right f (aO.1 hi));rw[if_neg (fun hn=>hn hw),if_neg (by simp)];split
  ·exact Or.inl rfl
  ·rename_i x _;exact Or.inr ⟨x,rfl⟩
end Go.Proofs.YtafmbokfkbccaaaGreatDoor
namespace Go.Proofs.YtafmbokfkbccaaaGreatDoor
open Go.RowKit Go.Sort Go.Maps
theorem DW {p:List aA} {told all:List aj} (h:kS p told=(0,all)):(∀r∈p,jw r)∧(∀f∈told,f∈all)∧∀r∈p,∀env f,iq (fun _=>all) r.body env→aQ r.head env=some f→f∈all:=by
 have h0:gq p told=0:=by rw[←(iC p told).1,h]
 obtain⟨hp,hl,τ,hτ,hst,hr⟩:=AA h;obtain⟨_,_,_,hsub,hmod⟩:=rP h;have hall:kS p told=(0,aX told (dP p told)):=(iC p told).2 h0;have e:all=aX told (dP p told):=by rw[h] at hall;exact(Prod.ext_iff.1 hall).2
 have hrun:bg p (p.map fun r=>τ r.head.name) (countP (p.map fun r=>τ r.head.name)) 0 told=(0,dP p told):=by
  have h1:=pJ p (p.map fun r=>τ r.head.name) (countP (p.map fun r=>τ r.head.name)) 0 told;rw[hr] at h1;refine Prod.ext h1.1.symm ?_;unfold dP;rw[hst]
 refine⟨hp.rules,hsub,fun r hr' env f hfit gU=> ?_⟩;have yw:=vU hp hτ _ 0 hl hrun r hr' (Nat.zero_le _) (by rw[Nat.zero_add];exact kH (List.mem_map.2 ⟨r,hr',rfl⟩));rw[←e] at yw;obtain⟨x,hx⟩:∃x,dM r all=some x:=by
  unfold dM lF;cases hg:eu (fun _=>all) 0 r.body [[]] with
  |none=>exact absurd hg yw
  |some ms=>exact⟨_,rfl⟩
 exact hmod r hr' x hx f ((fD (bH (hp.rules r hr')) hx f).2 ⟨env,hfit,gU⟩)
end Go.Proofs.YtafmbokfkbccaaaGreatDoor
namespace Go.Proofs.YtafmbokfkbccaaaGreatDoor
open Go.RowKit Go.Sort
def nmL (i:Nat):Bs:=[116,UInt8.ofNat (97+i)]
def Qq (n i:Nat) (b:Bool):Bs:=nmL i++[32,58,45,32]++(if b then 33::nmL ((i+1)%n) else nmL ((i+1)%n))++[46]
def NU (n:Nat):Nat→List Bool→Bs
 |_,[]=>[]
 |i,b::l=>Qq n i b++NU n (i+1) l
def R7 (b:List Bool):Bool:=
 let t:=dZ (NU b.length 0 b)
 decide (t.2.1=0)&&(let s:=aS t.1
  if b.any id then decide (s.2.1=10) else decide (s.2.1=0)&&decide ((M9 t.1 s.1 (countP s.1) 0 []).1=0))
def nK:Nat→List (List Bool)
 |0=>[[]]
 |n+1=>(nK n).flatMap fun l=>[false::l,true::l]
theorem wH:∀(b:List Bool),b∈nK b.length
 |[]=>by simp[nK]
 |x::b=>by
  show _∈(nK b.length).flatMap _;refine List.mem_flatMap.2 ⟨b,wH b,?_⟩;cases x <;> simp
end Go.Proofs.YtafmbokfkbccaaaGreatDoor
namespace Go.Proofs.YtafmbokfkbccaaaGreatDoor
open Go.RowKit Go.Sort
def nmB (i:Nat):ByteArray:=bs (nmL i)
end Go.Proofs.YtafmbokfkbccaaaGreatDoor
