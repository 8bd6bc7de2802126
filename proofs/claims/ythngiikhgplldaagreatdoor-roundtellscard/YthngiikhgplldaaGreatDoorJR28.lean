import Derived.Test.YthngiikhgplldaaGreatDoorJR27
import Derived.Test.YthngiikhgplldaaGreatDoorJR17
import Derived.RegionTactic
import Derived.ChangeAlike
import Derived.Test.YthngiikhgplldaaGreatDoorJR20
import Derived.Test.YthngiikhgplldaaGreatDoorJR26
import Derived.Test.YthngiikhgplldaaGreatDoorJR23
open Go.RowKit Go.Sort Go.Maps
set_option maxHeartbeats 16000000
set_option maxRecDepth 100000
namespace Go.Proofs.YthngiikhgplldaaGreatDoor
def j6 (hd:Bs→Bool) (h:Bs) (lev:Bs→Nat) (a:aJ):Bs→Nat:=fun s=>if s=h then max (lev h) (if a.no&&hd a.name then lev a.name+1 else lev a.name) else lev s
def iG (hd:Bs→Bool) (lev:Bs→Nat) (r:aD):Bs→Nat:=r.body.foldl (j6 hd r.head.name) lev
def qm (hd:Bs→Bool) (p:List aD) (lev:Bs→Nat):Bs→Nat:=p.foldl (iG hd) lev
def Db (hd:Bs→Bool) (p:List aD):Nat→(Bs→Nat)→Bs→Nat
 |0,f=>f
 |n+1,f=>Db hd p n (qm hd p f)
theorem Ae {p:List aD} {hd:Bs→Bool} (hh:∀s,hd s=true↔dU p s) {x:bZ×Bool} (hx:mQ p x.1) {h:Bs} (hH:dU p h) (a:aJ):j6 hd h (numOf x.1) a=numOf (aY h x a).1∧mQ p (aY h x a).1:=by
 have hb:(if a.no&&hd a.name then numOf x.1 a.name+1 else numOf x.1 a.name)=behind x.1 a:=by
  by_cases hc:dU p a.name
  ·rw[jP hx a hc,(hh a.name).2 hc];unfold step;cases a.no <;> simp
  have h1:hd a.name=false:=by
   cases e:hd a.name with
   |false=>rfl
   |true=>exact absurd ((hh a.name).1 e) hc
  have h2:x.1 a.name=none:=by
   cases e:x.1 a.name with
   |none=>rfl
   |some n=>exact absurd ((hx a.name).1 (by rw[e];rfl)) hc
  rw[kW hx a hc,h1];simp[numOf,h2]
 constructor
 ·funext s
  unfold j6;rw[hb];unfold aY;split
  ·rename_i hs;subst hs;split;·show _=numOf (x.1.put _ _) _;rw[eP,if_pos rfl];omega
   omega
  rename_i hs;split;·show _=numOf (x.1.put _ _) _;rw[eP,if_neg hs]
  rfl
 unfold aY;split;·exact hx.put hH _
 exact hx
theorem rX {p:List aD} {hd:Bs→Bool} (hh:∀s,hd s=true↔dU p s) {h:Bs} (hH:dU p h):∀(l:List aJ) (x:bZ×Bool),mQ p x.1→l.foldl (j6 hd h) (numOf x.1)=numOf (l.foldl (aY h) x).1∧mQ p (l.foldl (aY h) x).1
 |[],x,hx=>⟨rfl,hx⟩
 |a::l,x,hx=>by obtain⟨e,hd'⟩:=Ae hh hx hH a;rw[List.foldl_cons,List.foldl_cons,e];exact rX hh hH l _ hd'
theorem wI {p:List aD} {hd:Bs→Bool} (hh:∀s,hd s=true↔dU p s):∀(l:List aD) (x:bZ×Bool),(∀r∈l,r∈p)→mQ p x.1→l.foldl (iG hd) (numOf x.1)=numOf (liftAll x l).1∧mQ p (liftAll x l).1
 |[],x,_,hx=>⟨rfl,hx⟩
 |r::l,x,hl,hx=>by obtain⟨e,hd'⟩:=rX hh ⟨r,hl r (by simp),rfl⟩ r.body x hx;rw[List.foldl_cons];show l.foldl (iG hd) (iG hd (numOf x.1) r)=_∧_;have e':iG hd (numOf x.1) r=numOf (fq x r).1:=e;rw[e'];exact wI hh l (fq x r) (fun q hq=>hl q (by simp[hq])) hd'
def lifts (p:List aD):Nat→bZ→bZ
 |0,m=>m
 |n+1,m=>lifts p n (liftAll (m,false) p).1
theorem Cq {p:List aD} {hd:Bs→Bool} (hh:∀s,hd s=true↔dU p s):∀(n:Nat) (m:bZ),mQ p m→Db hd p n (numOf m)=numOf (lifts p n m)
 |0,_,_=>rfl
 |n+1,m,hm=>by obtain⟨e,hd'⟩:=wI hh p (m,false) (fun _ h=>h) hm;show Db hd p n (qm hd p (numOf m))=_;have e':qm hd p (numOf m)=numOf (liftAll (m,false) p).1:=e;rw[e'];exact Cq hh n _ hd'
theorem qo {p:List aD} {m:bZ} (h:liftAll (m,false) p=(m,false)):∀n,lifts p n m=m
 |0=>rfl
 |n+1=>by show lifts p n (liftAll (m,false) p).1=m;rw[h];exact qo h n
theorem y7 {p:List aD}:∀(n:Nat) (m m':bZ) (k:Nat),dI p n m=some m'→n≤k→lifts p k m=m'
 |0,m,m',k,h,_=>by cases h
 |n+1,m,m',k,h,hk=>by
  unfold dI at h;split at h;·obtain⟨k,rfl⟩:∃j,k=j+1:=⟨k-1,by omega⟩;exact y7 n _ m' k h (by omega)
  rename_i hf;obtain⟨e,_⟩:=nM p m (by simpa using hf);rw[e] at h;cases h;exact qo e k
theorem xW {p:List aD} {hd:Bs→Bool} (hh:∀s,hd s=true↔dU p s) (hw:(bQ p).1=0) {σ:Bs→Nat} (h:Sol p σ) (f:Bs→Nat) (hf:∀s,f s=0):aK p=(p.map fun r=>Db hd p (p.length+1) f r.head.name,0,0):=by
 obtain⟨τ,hτ,hmin⟩:=Av h;obtain⟨m,hm⟩:=sJ hτ hmin (p.length+1) (start p) (lQ p) (kX p) (by omega);have e0:f=numOf (start p):=by funext s;rw[hf,mR]
 rw[e0,Cq hh _ _ (lQ p),y7 _ _ _ _ hm (Nat.le_refl _)];unfold aK;rw[if_pos hw,hm]
 rfl
theorem Cr {p:List aD} (hw:(bQ p).1=0) (h:¬ ∃σ,Sol p σ):aK p=([],10,0):=by
 unfold aK;rw[if_pos hw];cases hc:dI p (p.length+1) (start p) with
 |none=>rfl
 |some m=>
  obtain⟨d,_,hs⟩:=lS _ _ _ (lQ p) (kX p) hc;exact absurd ⟨_,Eh d hs⟩ h
def heads (p:List aD):List Bs:=p.map fun r=>r.head.name
theorem mG (p:List aD) (s:Bs):s∈heads p↔dU p s:=by unfold heads dU;rw[List.mem_map]
def gU (hs:List Bs) (s:Bs):Bool:=hs.contains s
theorem y8 (p:List aD) (s:Bs):gU (heads p) s=true↔dU p s:=by unfold gU;rw[List.contains_iff_mem];exact mG p s
def dS (hd:Bs→Bool) (h:Bs) (s:Rel×Rel) (a:aJ):Rel×Rel:=if hd a.name then(s.1.put h a.name,if a.no then s.2.put h a.name else s.2) else s
def gN (hd:Bs→Bool) (s:Rel×Rel) (r:aD):Rel×Rel:=r.body.foldl (dS hd r.head.name) s
def gy (hd:Bs→Bool) (s:Rel×Rel) (p:List aD):Rel×Rel:=p.foldl (gN hd) s
theorem Ct (f:Rel) (a b x y:Bs):f.put a b x y=true↔f x y=true∨(x=a∧y=b):=by unfold Rel.put;simp
theorem mH (hd:Bs→Bool) (h x y:Bs):∀(l:List aJ) (s:Rel×Rel),
  ((l.foldl (dS hd h) s).1 x y=true↔s.1 x y=true∨(x=h∧∃a∈l,a.name=y∧hd y=true))∧((l.foldl (dS hd h) s).2 x y=true↔s.2 x y=true∨(x=h∧∃a∈l,a.name=y∧hd y=true∧a.no=true))
 |[],s=>by simp
 |a::l,s=>by
  obtain⟨i1,i2⟩:=mH hd h x y l (dS hd h s a);rw[List.foldl_cons,i1,i2];have e1:(dS hd h s a).1 x y=true↔s.1 x y=true∨(x=h∧a.name=y∧hd y=true):=by
   unfold dS;split
   ·rename_i hh;rw[Ct]
    constructor
    ·rintro(k|⟨k1,k2⟩);·exact Or.inl k
     exact Or.inr ⟨k1,k2.symm,by rw[k2];exact hh⟩
    rintro(k|⟨k1,k2,_⟩);·exact Or.inl k
    exact Or.inr ⟨k1,k2.symm⟩
   rename_i hh
   constructor
   ·exact Or.inl
   rintro(k|⟨_,k2,k3⟩);·exact k
   rw[←k2] at k3;exact absurd k3 hh
  have e2:(dS hd h s a).2 x y=true↔s.2 x y=true∨(x=h∧a.name=y∧hd y=true∧a.no=true):=by
   unfold dS;split
   ·rename_i hh;show(if a.no then s.2.put h a.name else s.2) x y=true↔_;split
    ·rename_i hn;rw[Ct]
     constructor
     ·rintro(k|⟨k1,k2⟩);·exact Or.inl k
      exact Or.inr ⟨k1,k2.symm,by rw[k2];exact hh,hn⟩
     rintro(k|⟨k1,k2,_⟩);·exact Or.inl k
     exact Or.inr ⟨k1,k2.symm⟩
    rename_i hn
    constructor
    ·exact Or.inl
    rintro(k|⟨_,_,_,k4⟩);·exact k
    exact absurd k4 hn
   rename_i hh
   constructor
   ·exact Or.inl
   rintro(k|⟨_,k2,k3,_⟩);·exact k
   rw[←k2] at k3;exact absurd k3 hh
  rw[e1,e2];simp only[List.mem_cons,exists_eq_or_imp]
  constructor
  ·constructor
   ·rintro((k|⟨k1,k2,k3⟩)|⟨k1,k2⟩);·exact Or.inl k
    ·exact Or.inr ⟨k1,Or.inl ⟨k2,k3⟩⟩
    exact Or.inr ⟨k1,Or.inr k2⟩
   rintro(k|⟨k1,⟨k2,k3⟩|k2⟩);·exact Or.inl (Or.inl k)
   ·exact Or.inl (Or.inr ⟨k1,k2,k3⟩)
   exact Or.inr ⟨k1,k2⟩
  constructor
  ·rintro((k|⟨k1,k2,k3,k4⟩)|⟨k1,k2⟩);·exact Or.inl k
   ·exact Or.inr ⟨k1,Or.inl ⟨k2,k3,k4⟩⟩
   exact Or.inr ⟨k1,Or.inr k2⟩
  rintro(k|⟨k1,⟨k2,k3,k4⟩|k2⟩);·exact Or.inl (Or.inl k)
  ·exact Or.inl (Or.inr ⟨k1,k2,k3,k4⟩)
  exact Or.inr ⟨k1,k2⟩
theorem qp (hd:Bs→Bool) (x y:Bs):∀(l:List aD) (s:Rel×Rel),
  ((gy hd s l).1 x y=true↔s.1 x y=true∨∃r∈l,x=r.head.name∧∃a∈r.body,a.name=y∧hd y=true)∧((gy hd s l).2 x y=true↔s.2 x y=true∨∃r∈l,x=r.head.name∧∃a∈r.body,a.name=y∧hd y=true∧a.no=true)
 |[],s=>by simp[gy]
 |r::l,s=>by obtain⟨i1,i2⟩:=qp hd x y l (gN hd s r);obtain⟨j1,j2⟩:=mH hd r.head.name x y r.body s;have e:gy hd s (r::l)=gy hd (gN hd s r) l:=rfl;rw[e,i1,i2];unfold gN;rw[j1,j2];simp only[List.mem_cons,exists_eq_or_imp,or_assoc];exact⟨trivial,trivial⟩
theorem edges (p:List aD) (x y:Bs):((gy (gU (heads p)) (fun _ _=>false,fun _ _=>false) p).1 x y=true↔∃e,Edge p x y e)∧((gy (gU (heads p)) (fun _ _=>false,fun _ _=>false) p).2 x y=true↔Edge p x y 1):=by
 obtain⟨i1,i2⟩:=qp (gU (heads p)) x y p (fun _ _=>false,fun _ _=>false);rw[i1,i2,y8]
 constructor
 ·constructor
  ·rintro(k|⟨r,hr,k1,a,ha,k2,k3⟩);·cases k
   exact⟨step a,r,hr,a,ha,k1.symm,k2,k3,rfl⟩
  rintro⟨e,r,hr,a,ha,k1,k2,k3,_⟩;exact Or.inr ⟨r,hr,k1.symm,a,ha,k2,k3⟩
 constructor
 ·rintro(k|⟨r,hr,k1,a,ha,k2,k3,k4⟩);·cases k
  exact⟨r,hr,a,ha,k1.symm,k2,k3,by unfold step;rw[k4];rfl⟩
 rintro⟨r,hr,a,ha,k1,k2,k3,k4⟩;refine Or.inr ⟨r,hr,k1.symm,a,ha,k2,k3,?_⟩;unfold step at k4;cases hn:a.no with
 |true=>rfl
 |false=>rw[hn] at k4;cases k4
def fwP (p:List aD):Rel×Rel:=fwK (heads p) (heads p) (gy (gU (heads p)) (fun _ _=>false,fun _ _=>false) p)
theorem Cu {p:List aD} (hw:(bQ p).1=0) {a:Bs} (ha:a∈heads p) (h:(fwP p).2 a a=true):aK p=([],10,0):=by refine Cr hw fun hs=>?_;have:=(EN (hs:=heads p) (fun x=>mG p x) (fun x y=>(edges p x y).1) (fun x y=>(edges p x y).2)).1 hs a ha;unfold fwP at h;rw[this] at h;cases h
theorem Af {p:List aD} (hw:(bQ p).1=0) (h:∀a∈heads p,(fwP p).2 a a=false):aK p=(p.map fun r=>Db (gU (heads p)) p (p.length+1) (fun _=>0) r.head.name,0,0):=by obtain⟨σ,hσ⟩:=(EN (hs:=heads p) (fun x=>mG p x) (fun x y=>(edges p x y).1) (fun x y=>(edges p x y).2)).2 h;exact xW (fun s=>y8 p s) hw hσ _ fun _=>rfl
theorem Cv {l:List Bs} {j:Nat} {x:Bs} (h:l[j]?=some x) (s:Bs):gU (l.drop j) s=(decide (x=s)||gU (l.drop (j+1)) s):=by
 obtain⟨h1,e1⟩:=List.getElem?_eq_some_iff.1 h;rw[List.drop_eq_getElem_cons h1,e1];unfold gU;rw[List.contains_cons]
 by_cases e:x=s
 ·subst e;simp
 rw[decide_eq_false e,beq_eq_false_iff_ne.2 (Ne.symm e)]
theorem IJ (hs:List Bs) (v:Value) (g:Nat) (s:Bs) (w:World) (h:w.cell? ⟨g,0,none⟩=some v) (hv:iH.sl bT w v hs):
  Calls Tryz.prog 36 #[.string (bs s),.pointer (some ⟨g,0,none⟩)] w fun x w'=>x=.returned (.bool (gU hs s))∧w'=w:=by
 obtain⟨sa,cap,rfl⟩:=aB.slice hv;have hl0:=hv.1.1;have HV:=au hv;clear hv;have HBX:Hid (∀u:Bs,((bs u).toList==(bs s).toList)=decide (u=s)):=fun u=>EH u s;generalize hbs:bs s=z at*;clear hbs
 go_enter Tryz.func36,Tryz.ntmps36
 go_wp2
 go_loopg [8] hs.length (fun k i wr=>∃j:Nat,j+k=hs.length∧i=.int .i64 j∧Hid (gU hs s=gU (hs.drop j) s)∧wr=w)
 case atStart=>exact⟨0,by omega,rfl,(rfl:_=_),rfl⟩
 obtain⟨j,hj,rfl,HF,rfl⟩:=hrel
 by_cases hlt:j<hs.length
 ·obtain⟨x,hx⟩:∃x,hs[j]?=some x:=⟨_,List.getElem?_eq_getElem hlt⟩;obtain⟨b1,o1,_,rfl,hb1,rfl,hc⟩:=aB.bR HV.out hx;have d0:wr.cell? ⟨b1,o1+j,none⟩=some (.string (bs x)):=by simpa[iH] using hc 0 _ rfl
  have hE:=Cv hx s;have hEq:=HBX.out x;generalize decide (x=s)=du at*;have HE:=au hE;clear hc hx hE;generalize bs x=bx at*;cases du
  ·have HF2:Hid (gU hs s=gU (hs.drop (j+1)) s):=by show _=_;rw[HF.out,HE.out];rfl
   go_wp2
   go_roundg (hs.length- (j+1))
   case measure=>omega
   case rel=>exact⟨j+1,by omega,by go_num,HF2,rfl⟩
  have HF2:Hid (gU hs s=true):=by show _=_;rw[HF.out,HE.out];rfl
  go_wp2;go_ret;exact⟨by rw[HF2.out];rfl,rfl⟩
 have HF2:Hid (gU hs s=false):=by show _=_;rw[HF.out,List.drop_eq_nil_of_le (by omega)];rfl
 go_wp2;go_ret;exact⟨by rw[HF2.out];rfl,rfl⟩
structure Hd (w w5:World) (g:Nat) (v:Value) (hs:List Bs):Prop where
 below:Below w.heap.size w w5
 row:w5.heap[w.heap.size]?=some (.cells #[.int .i64 0,.int .i64 0] 41 (0,0))
 box:w5.cell? ⟨g,0,none⟩=some v
 lt:g<w5.heap.size
 lo:w.heap.size<w5.heap.size
 hs:iH.sl bT w5 v hs
theorem Hd.below' {w w5 w6:World} {g:Nat} {v:Value} {hs:List Bs} (h:Hd w w5 g v hs) (k:Below w5.heap.size w5 w6):Hd w w6 g v hs:=
 ⟨ak h.below k (Nat.le_of_lt h.lo),by rw[k.block _ h.lo];exact h.row,by rw[k.cell (p:=⟨g,0,none⟩) h.lt];exact h.box,Nat.lt_of_lt_of_le h.lt k.size,Nat.lt_of_lt_of_le h.lo k.size,aB.aO h.hs k⟩
structure St (w5:World) (n:Nat) (s:Rel×Rel) (wr:World):Prop where
 below:Below w5.heap.size w5 wr
 m1:qD wr w5.heap.size n s.1
 m2:qD wr (w5.heap.size+1) n s.2
theorem St.later {w5 wr wr':World} {n:Nat} {s:Rel×Rel} (h:St w5 n s wr) (k:aj wr wr'):St w5 n s wr':=⟨ak h.below k.below h.below.size,h.m1.later k,h.m2.later k⟩
theorem St.mono {w5 wr:World} {n m:Nat} {s:Rel×Rel} (h:St w5 n s wr) (hn:n≤m):St w5 m s wr:=⟨h.below,h.m1.mono hn,h.m2.mono hn⟩
def Past (w5 a b:World):Prop:=a.heap.size≤b.heap.size∧∀k,w5.heap.size+2≤k→k<a.heap.size→b.heap[k]?=a.heap[k]?
theorem Past.cell {w5 a b:World} (h:Past w5 a b) {x:Addr} (hx:w5.heap.size+2≤x.block) (hl:x.block<a.heap.size):b.cell? x=a.cell? x:=World.cell?_of_block (w:=a) (h.2 _ hx hl)
theorem St.La {w5 wr:World} {n:Nat} {s:Rel×Rel} (h:St w5 n s wr) (hn:n<maxLen) {x y:Bs} (hx:x.length≤maxLen) (hy:y.length≤maxLen):
  ∃w',(Instr.mapUpdate 70 (.map (some w5.heap.size)) (.agg #[.string (bs x),.string (bs y)]) (.bool true)).run Tryz.prog wr=.ok () w'∧St w5 (n+1) (s.1.put x y,s.2) w'∧Past w5 wr w':=by
 obtain⟨w',hrun,h1,hg⟩:=h.m1.store hn hx hy;have hb:uJ (fun k=>k=w5.heap.size) wr w':=uJ.eG hg rfl;have hl:=h.m2.lt;exact⟨w',hrun,⟨hb.below h.below (fun k e=>by omega) h.below.size,h1,(h.m2.block (hb.block _ hl (by omega))).mono (by omega)⟩,hb.size,fun k h1 h2=>hb.block k h2 (by omega)⟩
theorem St.Lb {w5 wr:World} {n:Nat} {s:Rel×Rel} (h:St w5 n s wr) (hn:n<maxLen) {x y:Bs} (hx:x.length≤maxLen) (hy:y.length≤maxLen):
  ∃w',(Instr.mapUpdate 70 (.map (some (w5.heap.size+1))) (.agg #[.string (bs x),.string (bs y)]) (.bool true)).run Tryz.prog wr=.ok () w'∧St w5 (n+1) (s.1,s.2.put x y) w'∧Past w5 wr w':=by
 obtain⟨w',hrun,h1,hg⟩:=h.m2.store hn hx hy;have hb:uJ (fun k=>k=w5.heap.size+1) wr w':=uJ.eG hg rfl;have hl:=h.m1.lt;exact⟨w',hrun,⟨hb.below h.below (fun k e=>by omega) h.below.size,(h.m1.block (hb.block _ hl (by omega))).mono (by omega),h1⟩,hb.size,fun k h1 h2=>hb.block k h2 (by omega)⟩
theorem St.IK {w5 wr:World} {n:Nat} {s:Rel×Rel} (h:St w5 n s wr) {x y:Bs} (hx:x.length≤maxLen) (hy:y.length≤maxLen):(Instr.lookup 70 (.map (some w5.heap.size)) (.agg #[.string (bs x),.string (bs y)]) false).run Tryz.prog wr=.ok (.bool (s.1 x y)) wr:=h.m1.look hx hy
theorem St.Gb {w5 wr:World} {n:Nat} {s:Rel×Rel} (h:St w5 n s wr) {x y:Bs} (hx:x.length≤maxLen) (hy:y.length≤maxLen):(Instr.lookup 70 (.map (some (w5.heap.size+1))) (.agg #[.string (bs x),.string (bs y)]) false).run Tryz.prog wr=.ok (.bool (s.2 x y)) wr:=h.m2.look hx hy
theorem Ag {p:List aD} {j:Nat} {r:aD} (h:p[j]?=some r):heads (p.take (j+1))=heads (p.take j)++[r.head.name]:=by rw[List.take_add_one,h];simp[heads]
theorem wJ {p:List aD} {j:Nat} {r:aD} (h:p[j]?=some r) (hd:Bs→Bool) (s:Rel×Rel):gy hd s (p.drop j)=gy hd (gN hd s r) (p.drop (j+1)):=by obtain⟨h1,e1⟩:=List.getElem?_eq_some_iff.1 h;rw[List.drop_eq_getElem_cons h1,e1];rfl
theorem iA {α β:Type} {l:List α} {j:Nat} {x:α} (h:l[j]?=some x) (f:β→α→β) (b:β):(l.drop j).foldl f b=(l.drop (j+1)).foldl f (f b x):=by obtain⟨h1,e1⟩:=List.getElem?_eq_some_iff.1 h;rw[List.drop_eq_getElem_cons h1,e1];rfl
theorem xX (p:List aD) (v:Value) (w:World) (hv:iy.sl bT w v p) (hk:∀r∈p,wD r):
  Calls Tryz.prog 16 #[v] w fun e w'=>∃u,e=.returned (.tuple #[u,.agg #[.int .i64 (aK p).2.1,.int .i64 ((aK p).2.2:Nat)]])∧jL.sl (From w.heap.size) w' u (aK p).1∧Below w.heap.size w w':=by
 obtain⟨sa,cap,rfl⟩:=aB.slice hv;have HV:=au hv;have hl0:=hv.1.1;have HW:Hid (Calls Tryz.prog 35 #[.slice sa p.length cap] (w.alloc (.cells #[.int .i64 0,.int .i64 0] 41)) fun e w2=>e=.returned (.agg #[.int .i64 (bQ p).1,.int .i64 ((bQ p).2:Nat)])∧Hid (Below w.heap.size w w2)∧w2.heap[w.heap.size]?=some (.cells #[.int .i64 0,.int .i64 0] 41 (0,0))∧w.heap.size<w2.heap.size):=
  (uq p _ _ (aB.aO hv ((aj.refl w).alloc _).below) hk).mono fun e w2 ⟨he,hb⟩=>⟨he,ak ((aj.refl w).alloc _).below hb (by simp),by rw[hb.block w.heap.size (by simp),heap_alloc_new],by have:=hb.size;simp at this;omega⟩
 clear hv hk;have hmm:= @run_makeMap Tryz.prog;generalize hwp:bQ p=wp at*;obtain⟨ex,ea⟩:=wp;dsimp only at*
 by_cases h0:ex=0
 ·subst h0;obtain⟨JV,zX⟩:=pX (p:=p) (by rw[hwp]);have HFi:=au zX;have HNo:Hid (∀a∈heads p,(fwP p).2 a a=true→aK p=([],10,0)):=fun a ha h=>Cu (by rw[hwp]) ha h;have IL:Hid ((∀a∈heads p,(fwP p).2 a a=false)→aK p=(p.map fun r=>Db (gU (heads p)) p (p.length+1) (fun _=>0) r.head.name,0,0)):=fun h=>Af (by rw[hwp]) h;have HHs:Hid (∀s∈heads p,s.length≤maxLen):=fun s hs=>by
   obtain⟨r,hr,rfl⟩:=(mG p s).1 hs;exact(zX r hr).1
  have hhl:(heads p).length=p.length:=by simp[heads]
  clear hwp zX
  go_enter Tryz.func16,Tryz.ntmps16
  go_wp2_with (go_at_call 35;refine HW.out.mono ?_;rintro e w2 ⟨rfl,hB2,hR2,hs2⟩;replace hR2:=au hR2)
  have hwz:=hB2.out.size;clear HW
  go_loopg [42] p.length (fun k i wr=>∃j:Nat,j+k=p.length∧i=.int .i64 j∧∃o,Hid (iH.own 9 (w2.heap.size+2) wr o (heads (p.take j)))∧Hid (wr.heap[w2.heap.size+1]?=some (.cells #[o] 48 (0,0)))∧Hid (Below w.heap.size w wr)∧Hid (wr.heap[w.heap.size]?=some (.cells #[.int .i64 0,.int .i64 0] 41 (0,0)))∧w2.heap.size+2≤wr.heap.size)
  case atStart=>
   refine⟨0,by omega,rfl,.slice none 0 0,iH.gX _ _ _,?_,?_,?_,by simp⟩;·show _=_;have:=heap_alloc_new (w2.alloc (.cells #[.int .i64 0,.int .i64 (ea:Int)] 41)) (.cells #[.slice none 0 0] 48);rw[World.size_alloc] at this;exact this
   ·exact(hB2.out.alloc hwz _).alloc (by simp;omega) _
   show _=_;rw[Below.heap_alloc _ _ _ (by simp;omega),Below.heap_alloc _ _ _ hs2];exact bg hR2
  obtain⟨j,hj,rfl,o,HO,HX,HB,HR,hsz⟩:=hrel;clear hB2 hR2;obtain⟨ao,co,rfl⟩:=aB.bI HO.out;have hX:=HX.out;have x0:wr.cell? ⟨w2.heap.size+1,0,none⟩=some (.slice ao (heads (p.take j)).length co):=by rw[cell_of_row _ _ _ _ _ _ hX];rfl
  have hxl:w2.heap.size+1<wr.heap.size:=by omega
  clear hX
  by_cases hlt:j<p.length
  ·obtain⟨r,hr⟩:∃x,p[j]?=some x:=⟨_,List.getElem?_eq_getElem hlt⟩;obtain⟨b1,o1,_,rfl,hb1,⟨sv,su,rfl,hsv,hsu⟩,hcl⟩:=aB.bR HV.out hr;have d0:wr.cell? ⟨b1,o1+j*4,none⟩=some (.bool r.head.no):=by rw[HB.out.cell hb1];exact hcl 0 _ rfl
   have d1:wr.cell? ⟨b1,o1+j*4+1,none⟩=some (.string (bs r.head.name)):=by rw[HB.out.cell hb1];exact hcl 1 _ rfl
   have d2:wr.cell? ⟨b1,o1+j*4+2,none⟩=some sv:=by rw[HB.out.cell hb1];exact hcl 2 _ rfl
   have d3:wr.cell? ⟨b1,o1+j*4+3,none⟩=some su:=by rw[HB.out.cell hb1];exact hcl 3 _ rfl
   have hbr:b1<wr.heap.size:=by have:=HB.out.size;omega
   have hlen:(heads (p.take j)).length=j:=by simp[heads];omega
   have E:=au (Ag hr);have hOA:=aB.dH HO.out ((Tn.refl 0 wr).alloc (.cells #[.bool r.head.no,.string (bs r.head.name),sv,su] 57)) (by omega);obtain⟨v',w4,hrun,o4,g4⟩:=ng hOA (x:=r.head.name) (by rw[hlen];omega) (by simp;omega);obtain⟨av,cv,hv'⟩:=aB.bI o4;generalize(heads (p.take j)++[r.head.name]).length=nv at hv';subst hv';have hT4:Tn (w2.heap.size+1) w4 (w4.setCell ⟨w2.heap.size+1,0,none⟩ (.slice av nv cv)):=(Tn.refl (w2.heap.size+1) w4).setCell (x:=⟨w2.heap.size+1,0,none⟩) (Or.inl rfl) (.slice av nv cv);have hs4:=g4.size;simp only[World.size_alloc] at hs4;have hk4:∀k,k<w2.heap.size+2→w4.heap[k]?=wr.heap[k]?:=fun k hk=>by rw[g4.block k (by simp;omega) (fun e=>by have:=(aB.dV hOA e.symm).1;omega),Below.heap_alloc _ _ _ (by simp;omega),Below.heap_alloc _ _ _ (by omega)]
   have HO4:Hid (iH.own 9 (w2.heap.size+2) (w4.setCell ⟨w2.heap.size+1,0,none⟩ (.slice av nv cv)) (.slice av nv cv) (heads (p.take (j+1)))):=by show iH.own _ _ _ _ _;rw[E.out];exact aB.dH o4 hT4 (by omega)
   have hX4:w4.heap[w2.heap.size+1]?=some (.cells #[.slice ao (heads (p.take j)).length co] 48 (0,0)):=by rw[hk4 _ (by omega)];exact HX.out
   have HX4:Hid ((w4.setCell ⟨w2.heap.size+1,0,none⟩ (.slice av nv cv)).heap[w2.heap.size+1]?=some (.cells #[(.slice av nv cv)] 48 (0,0))):=lD hX4 (.slice av nv cv);have HB4:Hid (Below w.heap.size w (w4.setCell ⟨w2.heap.size+1,0,none⟩ (.slice av nv cv))):=by refine Below.setCell (ak ((HB.out.alloc HB.out.size _).alloc (by have:=HB.out.size;simp;omega) _) ⟨g4.os,g4.tape,g4.output,g4.size,fun k hk=>g4.block k (by simp;omega) (fun e=>?_)⟩ (Nat.le_refl _)) (by show w.heap.size≤w2.heap.size+1;omega) _;have:=(aB.dV hOA e.symm).1;omega
   have HR4:Hid ((w4.setCell ⟨w2.heap.size+1,0,none⟩ (.slice av nv cv)).heap[w.heap.size]?=some (.cells #[.int .i64 0,.int .i64 0] 41 (0,0))):=by show _=_;rw[hT4.block _ (by omega) (by omega),hk4 _ (by omega)];exact HR.out
   have hz4:w2.heap.size+2≤(w4.setCell ⟨w2.heap.size+1,0,none⟩ (.slice av nv cv)).heap.size:=by rw[size_setCell];omega
   have y0:w4.cell? ⟨w2.heap.size+1,0,none⟩=some (.slice ao (heads (p.take j)).length co):=by rw[cell_of_row _ _ _ _ _ _ hX4];rfl
   have y1:w4.frozen? ⟨w2.heap.size+1,0,none⟩=false:=aP 0 hX4;simp only[World.size_alloc] at hrun;rw[hlen] at hrun x0 y0
   replace hrun:=au hrun
   clear hlen;obtain⟨a2,c2,rfl⟩:=aB.slice hsv;obtain⟨a3,c3,rfl⟩:=aB.slice hsu;clear hcl hr hsv hsu hOA o4 g4 HO HB HX HR E hT4 hk4 hX4;generalize bs r.head.name=nm at*;generalize r.head.no=no at*
   go_wp2_with (first
    |(at_builtin;refine wpList_append_run rfl (.tmp 46) (.tmp 50) 48 rfl _ _ _ _ rfl rfl (bg hrun) ?_)
    |go_in)
   go_roundg (p.length- (j+1))
   case measure=>omega
   case rel=>exact⟨j+1,by omega,by go_num,(.slice av nv cv),HO4,HX4,HB4,HR4,hz4⟩
  have e:j=p.length:=by omega
  subst e;have hO:=HO.out;rw[List.take_length] at hO x0;have HH:Hid (Hd w wr (w2.heap.size+1) (.slice ao (heads p).length co) (heads p)):=⟨HB.out,HR.out,x0,hxl,by omega,aB.dO (aB.gQ (by first|exact hO|(rw[List.take_length] at hO;exact hO)) (by omega))⟩;clear HO HX HB HR hO;generalize hGg:w2.heap.size+1=G at*;have hGl:=HH.out.lt;clear hsz;have HHL:Hid ((heads p).length=p.length):=hhl;rw[hhl] at HH x0;clear hhl;generalize hw5:wr=w5 at*;clear hw5;have HFW:Hid (fwP p=fwK (heads p) (heads p) (gy (gU (heads p)) (fun _ _=>false,fun _ _=>false) p)):=(rfl:_=_);generalize heads p=hs at*;generalize fwP p=FW at*;generalize he0:gy (gU hs) (fun _ _=>false,fun _ _=>false) p=EA at*;have HE0:=au he0;clear he0;go_wp2
  go_loopg [58] p.length (fun k i wr=>∃j:Nat,j+k=p.length∧i=.int .i64 j∧∃s,Hid (EA=gy (gU hs) s (p.drop j))∧Hid (St w5 (10*j) s wr)∧w5.heap.size+2≤wr.heap.size)
  case atStart=>
   refine⟨0,by omega,rfl,(fun _ _=>false,fun _ _=>false),HE0.out.symm,⟨?_,?_,?_⟩,by simp⟩;·exact(((aj.refl w5).alloc _).alloc _).below
   ·exact(qD.made w5).later ((aj.refl _).alloc _)
   have:=qD.made (w5.alloc (.map #[] 0));rw[World.size_alloc] at this;exact this
  obtain⟨j,hj,rfl,s,HE,HS,hsz⟩:=hrel
  by_cases hlt:j<p.length
  ·obtain⟨r,hr⟩:∃x,p[j]?=some x:=⟨_,List.getElem?_eq_getElem hlt⟩;obtain⟨b1,o1,_,rfl,hb1,⟨sv,su,rfl,hsv,hsu⟩,hcl⟩:=aB.bR HV.out hr;have hBw:Below w.heap.size w wr:=ak HH.out.below HS.out.below HH.out.below.size;have d0:wr.cell? ⟨b1,o1+j*4,none⟩=some (.bool r.head.no):=by rw[hBw.cell hb1];exact hcl 0 _ rfl
   have d1:wr.cell? ⟨b1,o1+j*4+1,none⟩=some (.string (bs r.head.name)):=by rw[hBw.cell hb1];exact hcl 1 _ rfl
   have d2:wr.cell? ⟨b1,o1+j*4+2,none⟩=some sv:=by rw[hBw.cell hb1];exact hcl 2 _ rfl
   have d3:wr.cell? ⟨b1,o1+j*4+3,none⟩=some su:=by rw[hBw.cell hb1];exact hcl 3 _ rfl
   have hbr:b1<wr.heap.size:=by have:=hBw.size;omega
   obtain⟨f1,f2,f3⟩:=HFi.out r (List.mem_of_getElem? hr);have HSt:=au (wJ hr (gU hs) s);obtain⟨a2,c2,rfl⟩:=aB.slice hsv;obtain⟨a3,c3,rfl⟩:=aB.slice hsu;have HSU:=au hsu;have HF3:=au f3;have hbl:r.body.length≤5:=f2;have hjp:j<16:=by omega
   clear hcl hr hsv hsu f3 f2 hBw;have HS1:=au (HS.out.later ((aj.refl wr).alloc (.cells #[.bool r.head.no,.string (bs r.head.name),.slice a2 r.head.terms.length c2,.slice a3 r.body.length c3] 57)));have HZ1:Hid ((wr.alloc (.cells #[.bool r.head.no,.string (bs r.head.name),.slice a2 r.head.terms.length c2,.slice a3 r.body.length c3] 57)).cell? ⟨wr.heap.size,1,none⟩=some (.string (bs r.head.name))):=by show _=_;simp
   have hR1:wr.heap.size<(wr.alloc (.cells #[.bool r.head.no,.string (bs r.head.name),.slice a2 r.head.terms.length c2,.slice a3 r.body.length c3] 57)).heap.size:=by simp
   generalize hnm:bs r.head.name=nm at*;have HNM:=au hnm;clear hnm;generalize r.head.no=no at*;generalize hR:wr.heap.size=R at*;clear HS;go_wp2
   go_loopg [65] r.body.length (fun k i wr2=>∃q:Nat,q+k=r.body.length∧i=.int .i64 q∧∃y:Rel×Rel,Hid (gN (gU hs) s r=(r.body.drop q).foldl (dS (gU hs) r.head.name) y)∧Hid (St w5 (10*j+2*q) y wr2)∧R<wr2.heap.size∧wr2.cell? ⟨R,1,none⟩=some (.string nm))
   case atStart=>
    refine⟨0,by omega,rfl,s,(rfl:_=_),?_,?_,?_⟩;·first|exact HS1|(subst hR;exact HS1)
    ·first|exact hR1|(subst hR;exact hR1)
    first|exact HZ1.out|(subst hR;exact HZ1.out)
   obtain⟨q,hq,rfl,y,HE2,HSy,hRs,z1⟩:=hrel;clear HS1 HZ1 hR1 d0 d1 d2 d3
   by_cases hlq:q<r.body.length
   ·obtain⟨a,ha⟩:∃x,r.body[q]?=some x:=⟨_,List.getElem?_eq_getElem hlq⟩;obtain⟨b2,o2,_,rfl,hb2,⟨tv,rfl,htv⟩,hcl⟩:=aB.bR HSU.out ha;have hBw:Below w.heap.size w wr:=ak HH.out.below HSy.out.below HH.out.below.size;have d0:wr.cell? ⟨b2,o2+q*3,none⟩=some (.bool a.no):=by rw[hBw.cell hb2];exact hcl 0 _ rfl
    have d1:wr.cell? ⟨b2,o2+q*3+1,none⟩=some (.string (bs a.name)):=by rw[hBw.cell hb2];exact hcl 1 _ rfl
    have d2:wr.cell? ⟨b2,o2+q*3+2,none⟩=some tv:=by rw[hBw.cell hb2];exact hcl 2 _ rfl
    have Jq:b2<wr.heap.size:=by have:=hBw.size;omega
    have hst:=iA ha (dS (gU hs) r.head.name) y;have hal:=HF3.out a (List.mem_of_getElem? ha);obtain⟨a4,c4,rfl⟩:=aB.slice htv;have HSA:=au (HSy.out.later ((aj.refl wr).alloc (.cells #[.bool a.no,.string (bs a.name),.slice a4 a.terms.length c4] 54)));have hHA:=HH.out.below' HSA.out.below;have HHd:=au (IJ hs _ G a.name _ hHA.box hHA.hs);clear hHA hcl ha htv hBw;cases hh:gU hs a.name
    ·have E4:Hid (gN (gU hs) s r=(r.body.drop (q+1)).foldl (dS (gU hs) r.head.name) y):=by
      show _=_;rw[HE2.out,hst];unfold dS;rw[hh];rfl
     rw[hh] at HHd;clear hst HE2 hh;generalize bs a.name=na at*;generalize a.no=an at*
     go_wp2_with fail
     refine HHd.out.mono ?_;rintro e w' ⟨rfl,rfl⟩;go_wp2
     go_roundg (r.body.length- (q+1))
     case measure=>omega
     case rel=>exact⟨q+1,by omega,by go_num,y,E4,HSA.out.mono (by omega),by simp;omega,by rw[((aj.refl wr).alloc _).cell (p:=⟨R,1,none⟩) hRs];exact z1⟩
    obtain⟨w3,hup,hS3,hP3⟩:=HSA.out.La (by simp[maxLen];omega) f1 hal;have hs5:=HSy.out.m2.lt;have hR2:w5.heap.size+2≤R:=by omega
    have kz1:w3.cell? ⟨R,1,none⟩=some (.string nm):=by rw[hP3.cell (x:=⟨R,1,none⟩) (by show _≤R;omega) (by simp;omega),((aj.refl wr).alloc _).cell (p:=⟨R,1,none⟩) hRs];exact z1
    have kz2:w3.cell? ⟨wr.heap.size,0,none⟩=some (.bool a.no):=by rw[hP3.cell (x:=⟨wr.heap.size,0,none⟩) (by show _≤wr.heap.size;omega) (by simp)];simp
    have kz3:w3.cell? ⟨wr.heap.size,1,none⟩=some (.string (bs a.name)):=by rw[hP3.cell (x:=⟨wr.heap.size,1,none⟩) (by show _≤wr.heap.size;omega) (by simp)];simp
    have kz4:R<w3.heap.size:=by have:=hP3.1;simp at this;omega
    rw[HNM.out] at hup;rw[hh] at HHd;cases han:a.no
    ·have E4:Hid (gN (gU hs) s r=(r.body.drop (q+1)).foldl (dS (gU hs) r.head.name) (y.1.put r.head.name a.name,y.2)):=by
      show _=_;rw[HE2.out,hst];unfold dS;rw[hh,han];rfl
     have HU:=au hup;have HS3:=au hS3;rw[han] at HHd kz2 HU d0;clear hst HE2 hh han hP3 hS3 hup HSA HSy;generalize bs a.name=na at*
     go_wp2_with fail
     refine HHd.out.mono ?_;rintro e w' ⟨rfl,rfl⟩
     go_wp2_with (first
      |(at_mapUpdate;refine aH _ rfl _ _ _ _ rfl _ _ _ _ rfl rfl rfl HU.out ?_)
      |go_in)
     go_roundg (r.body.length- (q+1))
     case measure=>omega
     case rel=>exact⟨q+1,by omega,by go_num,_,E4,HS3.out.mono (by omega),kz4,kz1⟩
    have E4:Hid (gN (gU hs) s r=(r.body.drop (q+1)).foldl (dS (gU hs) r.head.name) (y.1.put r.head.name a.name,y.2.put r.head.name a.name)):=by show _=_;rw[HE2.out,hst];unfold dS;rw[hh,han];rfl
    obtain⟨w4,Gc,hS4,hP4⟩:=hS3.Lb (by simp[maxLen];omega) f1 hal;have v1:w4.cell? ⟨R,1,none⟩=some (.string nm):=by rw[hP4.cell (x:=⟨R,1,none⟩) (by show _≤R;omega) kz4];exact kz1
    have v4:R<w4.heap.size:=by have:=hP4.1;omega
    rw[HNM.out] at Gc;have HU:=au hup;have HU4:=au Gc;have HS4:=au hS4;rw[han] at HHd kz2 HU d0;clear hst HE2 hh han hP3 hS3 hup Gc hS4 hP4 HSA HSy;generalize bs a.name=na at*
    go_wp2_with fail
    refine HHd.out.mono ?_;rintro e w' ⟨rfl,rfl⟩
    go_wp2_with (first
     |(at_mapUpdate;refine aH _ rfl _ _ _ _ rfl _ _ _ _ rfl rfl rfl HU.out ?_)
     |(at_mapUpdate;refine aH _ rfl _ _ _ _ rfl _ _ _ _ rfl rfl rfl HU4.out ?_)
     |go_in)
    go_roundg (r.body.length- (q+1))
    case measure=>omega
    case rel=>exact⟨q+1,by omega,by go_num,_,E4,HS4.out.mono (by omega),v4,v1⟩
   have E4:Hid (EA=gy (gU hs) y (p.drop (j+1))):=by
    show _=_;have e3:gN (gU hs) s r=y:=by rw[HE2.out,List.drop_eq_nil_of_le (by omega)];rfl
    rw[HE.out,HSt.out,e3]
   have hl6:w5.heap.size+2≤wr.heap.size:=by have:=HSy.out.m2.lt;omega
   go_wp2
   go_roundg (p.length- (j+1))
   case measure=>omega
   case rel=>exact⟨j+1,by omega,by go_num,y,E4,HSy.out.mono (by omega),hl6⟩
  have E2:Hid (EA=s):=by show _=_;rw[HE.out,List.drop_eq_nil_of_le (by omega)];rfl
  have HS2:Hid (St w5 160 EA wr):=by show St _ _ _ _;rw[E2.out];exact HS.out.mono (by omega)
  clear HE HS E2 HE0;have gx:=(HH.out.below' HS2.out.below).box;have hgl:=(HH.out.below' HS2.out.below).lt;go_wp2
  go_loopg [93] p.length (fun k i wr=>∃j:Nat,j+k=p.length∧i=.int .i64 j∧∃s,Hid (FW=fwK hs (hs.drop j) s)∧Hid (St w5 (160+512*j) s wr))
  case atStart=>exact⟨0,by omega,rfl,EA,HFW,HS2⟩
  obtain⟨j,hj,rfl,s,HE,HS⟩:=hrel;clear HS2 gx hgl;have hHw:=HH.out.below' HS.out.below;have gx:=hHw.box;have hgl:=hHw.lt
  by_cases hlt:j<p.length
  ·obtain⟨kk,hkk⟩:∃x,hs[j]?=some x:=⟨_,List.getElem?_eq_getElem (by have:=HHL.out;omega)⟩;obtain⟨b1,o1,_,rfl,hb1,rfl,hc⟩:=aB.bR hHw.hs hkk;have d0:wr.cell? ⟨b1,o1+j,none⟩=some (.string (bs kk)):=by simpa[iH] using hc 0 _ rfl
   have hkl:=HHs.out kk (List.mem_of_getElem? hkk);have HST:=au (iA hkk (fun s k=>fwA hs k s) s);clear hHw hc hkk;have hjp:j<16:=by omega
   generalize hbk:bs kk=bk at*;have HBK:=au hbk;clear hbk;go_wp2
   go_loopg [99] p.length (fun k i wr=>∃q:Nat,q+k=p.length∧i=.int .i64 q∧∃y,Hid (fwA hs kk s=(hs.drop q).foldl (fun s a=>fwB hs kk a s) y)∧Hid (St w5 (160+512*j+32*q) y wr))
   case atStart=>exact⟨0,by omega,rfl,s,(rfl:_=_),HS⟩
   obtain⟨q,hq,rfl,y,HE2,HSy⟩:=hrel;clear HS gx hgl d0 hb1;have hHw:=HH.out.below' HSy.out.below;have gx:=hHw.box;have hgl:=hHw.lt
   by_cases hlq:q<p.length
   ·obtain⟨aa,haa⟩:∃x,hs[q]?=some x:=⟨_,List.getElem?_eq_getElem (by have:=HHL.out;omega)⟩;obtain⟨b2,o2,_,hbe,hb1,rfl,hc⟩:=aB.bR hHw.hs haa;simp only[Option.some.injEq,Addr.mk.injEq,and_true] at hbe;obtain⟨rfl,rfl⟩:=hbe;have d0:wr.cell? ⟨b1,o1+q,none⟩=some (.string (bs aa)):=by simpa[iH] using hc 0 _ rfl
    have hal:=HHs.out aa (List.mem_of_getElem? haa);have MC:=au (iA haa (fun s a=>fwB hs kk a s) y);clear hHw hc haa;generalize hba:bs aa=ba at*;have HBA:=au hba;clear hba;go_wp2
    go_loopg [105] p.length (fun k i wr=>∃t:Nat,t+k=p.length∧i=.int .i64 t∧∃z,Hid (fwB hs kk aa y=(hs.drop t).foldl (fun s b=>gD kk aa b s) z)∧Hid (St w5 (160+512*j+32*q+2*t) z wr))
    case atStart=>exact⟨0,by omega,rfl,y,(rfl:_=_),HSy⟩
    obtain⟨t,ht,rfl,z,HE3,HSz⟩:=hrel;clear HSy gx hgl d0 hb1;have hHw:=HH.out.below' HSz.out.below
    by_cases hlt3:t<p.length
    ·obtain⟨bb,hbb⟩:∃x,hs[t]?=some x:=⟨_,List.getElem?_eq_getElem (by have:=HHL.out;omega)⟩;obtain⟨b2,o2,_,hbe,hb1,rfl,hc⟩:=aB.bR hHw.hs hbb;simp only[Option.some.injEq,Addr.mk.injEq,and_true] at hbe;obtain⟨rfl,rfl⟩:=hbe;have d0:wr.cell? ⟨b1,o1+t,none⟩=some (.string (bs bb)):=by simpa[iH] using hc 0 _ rfl
     have hbl:=HHs.out bb (List.mem_of_getElem? hbb);have hst:=iA hbb (fun s b=>gD kk aa b s) z;clear hHw hc hbb;generalize hbz:bs bb=bz at*;have hW:=((aj.refl wr).alloc (.cells #[.string ba,.string bk] 71)).alloc (.cells #[.string bk,.string bz] 71);have HSW:=au (HSz.out.later hW);have l1:=HSW.out.IK hal hkl;have l2:=HSW.out.IK hkl hbl;rw[HBA.out,HBK.out] at l1;rw[hbz,HBK.out] at l2;have hm2:=HSz.out.m2.lt;clear hW HSz;cases h1:z.1 aa kk
     ·have E4:Hid (fwB hs kk aa y=(hs.drop (t+1)).foldl (fun s b=>gD kk aa b s) z):=by
       show _=_;rw[HE3.out,hst];unfold gD;rw[h1];rfl
      rw[h1] at l1;clear hst HE3 h1 l2 hbz;go_wp2
      go_roundg (p.length- (t+1))
      case measure=>omega
      case rel=>exact⟨t+1,by omega,by go_num,z,E4,HSW.out.mono (by omega)⟩
     cases h2:z.1 kk bb
     ·have E4:Hid (fwB hs kk aa y=(hs.drop (t+1)).foldl (fun s b=>gD kk aa b s) z):=by
       show _=_;rw[HE3.out,hst];unfold gD;rw[h1,h2];rfl
      rw[h1] at l1;rw[h2] at l2;clear hst HE3 h1 h2 hbz;go_wp2
      go_roundg (p.length- (t+1))
      case measure=>omega
      case rel=>exact⟨t+1,by omega,by go_num,z,E4,HSW.out.mono (by omega)⟩
     obtain⟨w3,hup,hS3,hP3⟩:=HSW.out.La (by simp[maxLen];omega) hal hbl;have l3:=hS3.Gb hal hkl;have l4:=hS3.Gb hkl hbl;dsimp only at l3 l4;have kz0:w3.cell? ⟨wr.heap.size,0,none⟩=some (.string ba):=by rw[hP3.cell (x:=⟨wr.heap.size,0,none⟩) (by show _≤wr.heap.size;omega) (by simp;omega)];simp
     have kz1:w3.cell? ⟨wr.heap.size,1,none⟩=some (.string bk):=by rw[hP3.cell (x:=⟨wr.heap.size,1,none⟩) (by show _≤wr.heap.size;omega) (by simp;omega)];simp
     have kz2:w3.cell? ⟨wr.heap.size+1,0,none⟩=some (.string bk):=by rw[hP3.cell (x:=⟨wr.heap.size+1,0,none⟩) (by show _≤wr.heap.size+1;omega) (by simp)];simp
     have kz3:w3.cell? ⟨wr.heap.size+1,1,none⟩=some (.string bz):=by rw[hP3.cell (x:=⟨wr.heap.size+1,1,none⟩) (by show _≤wr.heap.size+1;omega) (by simp)];simp
     rw[h1] at l1;rw[h2] at l2;rw[HBA.out,HBK.out] at l3;rw[hbz,HBK.out] at l4;rw[hbz,HBA.out] at hup;have HU:=au hup;cases h3:(z.2 aa kk||z.2 kk bb)
     ·have E4:Hid (fwB hs kk aa y=(hs.drop (t+1)).foldl (fun s b=>gD kk aa b s) (z.1.put aa bb,z.2)):=by
       show _=_;rw[HE3.out,hst];unfold gD;rw[h1,h2,h3];rfl
      have HS3:=au hS3;rw[Bool.or_eq_false_iff] at h3;rw[h3.1] at l3;rw[h3.2] at l4;clear hst HE3 h1 h2 h3 hbz hup hS3 hP3
      go_wp2_with (first
       |(at_mapUpdate;refine aH _ rfl _ _ _ _ rfl _ _ _ _ rfl rfl rfl HU.out ?_)
       |go_in)
      go_roundg (p.length- (t+1))
      case measure=>omega
      case rel=>exact⟨t+1,by omega,by go_num,_,E4,HS3.out.mono (by omega)⟩
     have E4:Hid (fwB hs kk aa y=(hs.drop (t+1)).foldl (fun s b=>gD kk aa b s) (z.1.put aa bb,z.2.put aa bb)):=by show _=_;rw[HE3.out,hst];unfold gD;rw[h1,h2,h3];rfl
     obtain⟨w4,Gc,hS4,hP4⟩:=hS3.Lb (by simp[maxLen];omega) hal hbl;rw[hbz,HBA.out] at Gc;have HU4:=au Gc;have HS4:=au hS4;clear hst HE3 h1 h2 hbz hup hS3 hP3 Gc hS4 hP4;cases h4:z.2 aa kk
     ·rw[h4,Bool.false_or] at h3;rw[h4] at l3;rw[h3] at l4;clear h3 h4
      go_wp2_with (first
       |(at_mapUpdate;refine aH _ rfl _ _ _ _ rfl _ _ _ _ rfl rfl rfl HU.out ?_)
       |(at_mapUpdate;refine aH _ rfl _ _ _ _ rfl _ _ _ _ rfl rfl rfl HU4.out ?_)
       |go_in)
      go_roundg (p.length- (t+1))
      case measure=>omega
      case rel=>exact⟨t+1,by omega,by go_num,_,E4,HS4.out.mono (by omega)⟩
     rw[h4] at l3;clear h3 h4 l4
     go_wp2_with (first
      |(at_mapUpdate;refine aH _ rfl _ _ _ _ rfl _ _ _ _ rfl rfl rfl HU.out ?_)
      |(at_mapUpdate;refine aH _ rfl _ _ _ _ rfl _ _ _ _ rfl rfl rfl HU4.out ?_)
      |go_in)
     go_roundg (p.length- (t+1))
     case measure=>omega
     case rel=>exact⟨t+1,by omega,by go_num,_,E4,HS4.out.mono (by omega)⟩
    have E4:Hid (fwA hs kk s=(hs.drop (q+1)).foldl (fun s a=>fwB hs kk a s) z):=by
     show _=_;have e3:fwB hs kk aa y=z:=by rw[HE3.out,List.drop_eq_nil_of_le (by have:=HHL.out;omega)];rfl
     rw[HE2.out,MC.out];show(hs.drop (q+1)).foldl _ (fwB hs kk aa y)=_;rw[e3]
    clear hHw;go_wp2
    go_roundg (p.length- (q+1))
    case measure=>omega
    case rel=>exact⟨q+1,by omega,by go_num,z,E4,HSz.out.mono (by omega)⟩
   have E4:Hid (FW=fwK hs (hs.drop (j+1)) y):=by
    show _=_;have e3:fwA hs kk s=y:=by rw[HE2.out,List.drop_eq_nil_of_le (by have:=HHL.out;omega)];rfl
    have e4:fwK hs (hs.drop j) s=(hs.drop (j+1)).foldl (fun s k=>fwA hs k s) (fwA hs kk s):=HST.out;rw[HE.out,e4,e3];rfl
   clear hHw;go_wp2
   go_roundg (p.length- (j+1))
   case measure=>omega
   case rel=>exact⟨j+1,by omega,by go_num,y,E4,HSy.out.mono (by omega)⟩
  have E2:Hid (FW=s):=by show _=_;rw[HE.out,List.drop_eq_nil_of_le (by have:=HHL.out;omega)];rfl
  have HS7:Hid (St w5 9000 FW wr):=by show St _ _ _ _;rw[E2.out];exact HS.out.mono (by omega)
  clear HE HS E2 HFW hHw;have HH7:=au (HH.out.below' HS7.out.below);generalize hw7:wr=w7 at*;clear hw7;go_wp2
  go_loopg [144] p.length (fun k i wr=>∃j:Nat,j+k=p.length∧i=.int .i64 j∧Hid (∀a∈hs.take j,FW.2 a a=false)∧wr=w7)
  case atStart=>exact⟨0,by omega,rfl,(fun a ha=>by simp at ha),rfl⟩
  obtain⟨j,hj,rfl,HN,hwe⟩:=hrel;subst hwe
  by_cases hlt:j<p.length
  ·obtain⟨aa,haa⟩:∃x,hs[j]?=some x:=⟨_,List.getElem?_eq_getElem (by have:=HHL.out;omega)⟩;obtain⟨b1,o1,_,rfl,hb1,rfl,hc⟩:=aB.bR HH7.out.hs haa;have d0:wr.cell? ⟨b1,o1+j,none⟩=some (.string (bs aa)):=by simpa[iH] using hc 0 _ rfl
   have hal:=HHs.out aa (List.mem_of_getElem? haa);have l1:=HS7.out.Gb hal hal;clear hc;cases h1:FW.2 aa aa
   ·have HN2:Hid (∀a∈hs.take (j+1),FW.2 a a=false):=by
     intro a ha;rw[List.take_add_one,haa] at ha;rcases List.mem_append.1 ha with h|h
     ·exact HN.out a h
     simp at h;rw[h];exact h1
    rw[h1] at l1;clear haa h1 HN;generalize bs aa=ba at*;go_wp2
    go_roundg (p.length- (j+1))
    case measure=>omega
    case rel=>exact⟨j+1,by omega,by go_num,HN2,rfl⟩
   have F2:Hid (aK p=([],10,0)):=HNo.out aa (List.mem_of_getElem? haa) h1;rw[h1] at l1;have hR6:=HH7.out.row;have q0:wr.cell? ⟨w.heap.size,0,none⟩=some (.int .i64 0):=(by rw[cell_of_row _ _ _ _ _ _ hR6];rfl);have q1:wr.cell? ⟨w.heap.size,1,none⟩=some (.int .i64 0):=(by rw[cell_of_row _ _ _ _ _ _ hR6];rfl);have p0:wr.frozen? ⟨w.heap.size,0,none⟩=false:=aP 0 hR6;have p1:wr.frozen? ⟨w.heap.size,1,none⟩=false:=aP 1 hR6;clear hR6 haa h1 HN;generalize bs aa=ba at*;go_wp2;obtain⟨r0,r1⟩:=cu HH7.out.row (.int .i64 10) (.int .i64 0);refine bodyPost_ret (v:=.tuple #[.slice none 0 0,.agg #[.int .i64 10,.int .i64 0]]) (by simp[results,Tryz.results16,go_sem,r0,r1]) rfl ⟨.slice none 0 0,by rw[F2.out];rfl,by rw[F2.out];exact jL.jE _ _ _ _,?_⟩;exact(HH7.out.below.setCell (Nat.le_refl _) _).setCell (Nat.le_refl _) _
  have F2:=au (IL.out fun a ha=>HN.out a (by rw[List.take_of_length_le (by have:=HHL.out;omega)];exact ha));clear HN HNo IL HS7;generalize hw7:wr=w7 at*;clear hw7;generalize hL:Db (gU hs) p (p.length+1) (fun _=>0)=L at*;have HL:=au hL;clear hL;have gx:=HH7.out.box;have hgl:=HH7.out.lt;go_wp2
  go_loopg [159] (p.length+1) (fun k i wr=>∃t:Nat,t+k=p.length+1∧i=.int .i64 t∧∃m,Hid (L=Db (gU hs) p k (numOf m))∧Hid (dx wr w7.heap.size (80*t) m)∧Hid (∀s,numOf m s≤80*t)∧Hid (Below w7.heap.size w7 wr))
  case atStart=>exact⟨0,by omega,rfl,fun _=>none,HL.out.symm,iK.made Tryz.prog 9 3 w7,(fun s=>Nat.le_refl _),((aj.refl w7).alloc _).below⟩
  obtain⟨t,ht,rfl,m,HE,HM,HC,HB⟩:=hrel;clear gx hgl
  by_cases hlt:t<p.length+1
  ·obtain⟨k,rfl⟩:∃k',gk=k'+1:=⟨p.length-t,by omega⟩;have HE1:Hid (L=Db (gU hs) p k (qm (gU hs) p (numOf m))):=HE;have htz:(t:Int)<(p.length:Int)+1:=by omega
   clear HE;go_wp2
   go_loopg [163] p.length (fun k i wr=>∃j:Nat,j+k=p.length∧i=.int .i64 j∧∃m2,Hid (qm (gU hs) p (numOf m)=(p.drop j).foldl (iG (gU hs)) (numOf m2))∧Hid (dx wr w7.heap.size (80*t+5*j) m2)∧Hid (∀s,numOf m2 s≤80*t+5*j)∧Hid (Below w7.heap.size w7 wr))
   case atStart=>exact⟨0,by omega,rfl,m,(rfl:_=_),HM,HC,HB⟩
   obtain⟨j,hj,rfl,m2,HE2,HM2,HC2,HB2⟩:=hrel;clear HM HC HB
   by_cases G6:j<p.length
   ·obtain⟨r,hr⟩:∃x,p[j]?=some x:=⟨_,List.getElem?_eq_getElem G6⟩;obtain⟨b1,o1,_,rfl,hb1,⟨sv,su,rfl,hsv,hsu⟩,hcl⟩:=aB.bR HV.out hr;have hBw:Below w.heap.size w wr:=ak HH7.out.below HB2.out HH7.out.below.size;have d0:wr.cell? ⟨b1,o1+j*4,none⟩=some (.bool r.head.no):=by rw[hBw.cell hb1];exact hcl 0 _ rfl
    have d1:wr.cell? ⟨b1,o1+j*4+1,none⟩=some (.string (bs r.head.name)):=by rw[hBw.cell hb1];exact hcl 1 _ rfl
    have d2:wr.cell? ⟨b1,o1+j*4+2,none⟩=some sv:=by rw[hBw.cell hb1];exact hcl 2 _ rfl
    have d3:wr.cell? ⟨b1,o1+j*4+3,none⟩=some su:=by rw[hBw.cell hb1];exact hcl 3 _ rfl
    have hbr:b1<wr.heap.size:=by have:=hBw.size;omega
    obtain⟨f1,f2,f3⟩:=HFi.out r (List.mem_of_getElem? hr);have HSt:=au (iA hr (iG (gU hs)) (numOf m2));obtain⟨a2,c2,rfl⟩:=aB.slice hsv;obtain⟨a3,c3,rfl⟩:=aB.slice hsu;have HSU:=au hsu;have HF3:=au f3;have hbl:r.body.length≤5:=f2;have hjp:j<16:=by omega
    clear hcl hr hsv hsu f3 f2 hBw;have HM3:=au (HM2.out.later ((aj.refl wr).alloc (.cells #[.bool r.head.no,.string (bs r.head.name),.slice a2 r.head.terms.length c2,.slice a3 r.body.length c3] 57)));have HB3:=au (HB2.out.alloc HB2.out.size (.cells #[.bool r.head.no,.string (bs r.head.name),.slice a2 r.head.terms.length c2,.slice a3 r.body.length c3] 57));have HZ1:Hid ((wr.alloc (.cells #[.bool r.head.no,.string (bs r.head.name),.slice a2 r.head.terms.length c2,.slice a3 r.body.length c3] 57)).cell? ⟨wr.heap.size,1,none⟩=some (.string (bs r.head.name))):=by show _=_;simp
    have hR1:wr.heap.size<(wr.alloc (.cells #[.bool r.head.no,.string (bs r.head.name),.slice a2 r.head.terms.length c2,.slice a3 r.body.length c3] 57)).heap.size:=by simp
    have hRM:w7.heap.size<wr.heap.size:=HM2.out.lt;generalize hnm:bs r.head.name=nm at*;have HNM:=au hnm;clear hnm;generalize r.head.no=no at*;generalize hR:wr.heap.size=R at*;clear HM2 HB2;go_wp2
    go_loopg [170] r.body.length (fun k i wr2=>∃q:Nat,q+k=r.body.length∧i=.int .i64 q∧∃m3,Hid (iG (gU hs) (numOf m2) r=(r.body.drop q).foldl (j6 (gU hs) r.head.name) (numOf m3))∧Hid (dx wr2 w7.heap.size (80*t+5*j+q) m3)∧Hid (∀s,numOf m3 s≤80*t+5*j+q)∧Hid (Below w7.heap.size w7 wr2)∧R<wr2.heap.size∧wr2.cell? ⟨R,1,none⟩=some (.string nm))
    case atStart=>
     refine⟨0,by omega,rfl,m2,(rfl:_=_),?_,HC2,?_,?_,?_⟩;·first|exact HM3|(subst hR;exact HM3)
     ·first|exact HB3|(subst hR;exact HB3)
     ·first|exact hR1|(subst hR;exact hR1)
     first|exact HZ1.out|(subst hR;exact HZ1.out)
    obtain⟨q,hq,rfl,m3,HE3,HM4,HC4,HB4,hRs,z1⟩:=hrel;clear HM3 HB3 HZ1 hR1 d0 d1 d2 d3
    by_cases hlq:q<r.body.length
    ·obtain⟨a,ha⟩:∃x,r.body[q]?=some x:=⟨_,List.getElem?_eq_getElem hlq⟩;obtain⟨b2,o2,_,rfl,hb2,⟨tv,rfl,htv⟩,hcl⟩:=aB.bR HSU.out ha;have hBw:Below w.heap.size w wr:=ak HH7.out.below HB4.out HH7.out.below.size;have d0:wr.cell? ⟨b2,o2+q*3,none⟩=some (.bool a.no):=by rw[hBw.cell hb2];exact hcl 0 _ rfl
     have d1:wr.cell? ⟨b2,o2+q*3+1,none⟩=some (.string (bs a.name)):=by rw[hBw.cell hb2];exact hcl 1 _ rfl
     have d2:wr.cell? ⟨b2,o2+q*3+2,none⟩=some tv:=by rw[hBw.cell hb2];exact hcl 2 _ rfl
     have Jq:b2<wr.heap.size:=by have:=hBw.size;omega
     have hst:=iA ha (j6 (gU hs) r.head.name) (numOf m3);have hal:=HF3.out a (List.mem_of_getElem? ha);obtain⟨a4,c4,rfl⟩:=aB.slice htv;have hLA:=(aj.refl wr).alloc (.cells #[.bool a.no,.string (bs a.name),.slice a4 a.terms.length c4] 54);have HMA:=au (HM4.out.later hLA);have HBA:=au (ak HB4.out hLA.below HB4.out.size);have hHA:=HH7.out.below' HBA.out;have HHd:=au (IJ hs _ G a.name _ hHA.box hHA.hs);have l1:=iK.look (T:=72) HMA.out Tryz.underlying9 Tryz.underlying3 Tryz.underlying72 (jB _) hal;have l2:=iK.look (T:=72) HMA.out Tryz.underlying9 Tryz.underlying3 Tryz.underlying72 (jB _) f1;rw[HNM.out] at l2;clear hHA hcl ha htv hBw;have c1:=HC4.out a.name;have c2':=HC4.out r.head.name;obtain⟨nn,hnn⟩:∃nn,nn=(if a.no&&gU hs a.name then numOf m3 a.name+1 else numOf m3 a.name):=⟨_,rfl⟩;have Nv:nn≤80*t+5*j+q+1:=by rw[hnn];split <;> omega
     obtain⟨w4,hup,hM5,hg5⟩:=iK.store (T:=72) HMA.out Tryz.underlying9 Tryz.underlying3 Tryz.underlying72 (by simp[maxLen];omega) f1 (x:=max (numOf m3 r.head.name) nn) (pR (by omega));rw[HNM.out] at hup;have E4:Hid (iG (gU hs) (numOf m2) r=(r.body.drop (q+1)).foldl (j6 (gU hs) r.head.name) (numOf (m3.put r.head.name (max (numOf m3 r.head.name) nn)))):=by
      show _=_;rw[HE3.out,hst]
      congr 1
      funext s
      rw[eP];unfold j6;rw[←hnn]
     have HM5:=au hM5;have HC5:Hid (∀s,numOf (m3.put r.head.name (max (numOf m3 r.head.name) nn)) s≤80*t+5*j+(q+1)):=by intro s;have:=HC4.out s;rw[eP];split <;> omega
     have hT5:=Tn.eG hg5;have HB5:Hid (Below w7.heap.size w7 w4):=ak HBA.out (hT5.below (n:=w7.heap.size) (Nat.le_refl _) HBA.out.size) (Nat.le_refl _);have kz4:R<w4.heap.size:=by have:=hT5.size;simp at this;omega
     have kz1:w4.cell? ⟨R,1,none⟩=some (.string nm):=by rw[hT5.cell (x:=⟨R,1,none⟩) (by simp;omega) (by show R≠_;omega),hLA.cell (p:=⟨R,1,none⟩) hRs];exact z1
     generalize hn5:m3.put r.head.name (max (numOf m3 r.head.name) nn)=m5 at*;clear hn5 hM5 hg5 hT5 hLA hst HE3 HM4 HC4 HB4;cases han:a.no
     ·have hv:nn=numOf m3 a.name:=by rw[hnn,han];rfl
      subst hv;rw[han] at l1 l2 hup d0;clear hnn han HHd;generalize bs a.name=na at*;generalize numOf m3 a.name=ln at*;generalize numOf m3 r.head.name=lh at*
      by_cases hlm:lh<ln
      ·have hmx:(((max lh ln:Nat)):Int)=(ln:Int):=by omega
       have hmz:max (lh:Int) (ln:Int)=(ln:Int):=by omega
       rw[hmx] at hup;have HU:=au hup;clear hup hmx
       go_wp2_with (first
        |(at_mapUpdate;refine aH _ rfl _ _ _ _ rfl _ _ _ _ rfl rfl rfl HU.out ?_)
        |go_in)
       go_roundg (r.body.length- (q+1))
       case measure=>omega
       case rel=>exact⟨q+1,by omega,by go_num,m5,E4,HM5,HC5,HB5,kz4,kz1⟩
      have hmx:(((max lh ln:Nat)):Int)=(lh:Int):=by omega
      have hmz:max (lh:Int) (ln:Int)=(lh:Int):=by omega
      rw[hmx] at hup;have HU:=au hup;clear hup hmx
      go_wp2_with (first
       |(at_mapUpdate;refine aH _ rfl _ _ _ _ rfl _ _ _ _ rfl rfl rfl HU.out ?_)
       |go_in)
      go_roundg (r.body.length- (q+1))
      case measure=>omega
      case rel=>exact⟨q+1,by omega,by go_num,m5,E4,HM5,HC5,HB5,kz4,kz1⟩
     cases hh:gU hs a.name
     ·have hv:nn=numOf m3 a.name:=by rw[hnn,han,hh];rfl
      subst hv;rw[hh] at HHd;rw[han] at l1 l2 hup d0 HHd;clear hnn han hh;generalize bs a.name=na at*;generalize numOf m3 a.name=ln at*;generalize numOf m3 r.head.name=lh at*
      by_cases hlm:lh<ln
      ·have hmx:(((max lh ln:Nat)):Int)=(ln:Int):=by omega
       have hmz:max (lh:Int) (ln:Int)=(ln:Int):=by omega
       rw[hmx] at hup;have HU:=au hup;clear hup hmx
       go_wp2_with fail
       refine HHd.out.mono ?_;rintro e w' ⟨rfl,rfl⟩
       go_wp2_with (first
        |(at_mapUpdate;refine aH _ rfl _ _ _ _ rfl _ _ _ _ rfl rfl rfl HU.out ?_)
        |go_in)
       go_roundg (r.body.length- (q+1))
       case measure=>omega
       case rel=>exact⟨q+1,by omega,by go_num,m5,E4,HM5,HC5,HB5,kz4,kz1⟩
      have hmx:(((max lh ln:Nat)):Int)=(lh:Int):=by omega
      have hmz:max (lh:Int) (ln:Int)=(lh:Int):=by omega
      rw[hmx] at hup;have HU:=au hup;clear hup hmx
      go_wp2_with fail
      refine HHd.out.mono ?_;rintro e w' ⟨rfl,rfl⟩
      go_wp2_with (first
       |(at_mapUpdate;refine aH _ rfl _ _ _ _ rfl _ _ _ _ rfl rfl rfl HU.out ?_)
       |go_in)
      go_roundg (r.body.length- (q+1))
      case measure=>omega
      case rel=>exact⟨q+1,by omega,by go_num,m5,E4,HM5,HC5,HB5,kz4,kz1⟩
     have hv:nn=numOf m3 a.name+1:=by rw[hnn,han,hh];rfl
     subst hv;rw[hh] at HHd;rw[han] at l1 l2 hup d0 HHd;clear hnn han hh;generalize bs a.name=na at*;generalize numOf m3 a.name=ln at*;generalize numOf m3 r.head.name=lh at*
     by_cases hlm:lh<ln+1
     ·have hmx:(((max lh (ln+1):Nat)):Int)=(ln:Int)+1:=by omega
      have hmz:max (lh:Int) ((ln:Int)+1)=(ln:Int)+1:=by omega
      have hlz:(lh:Int)<(ln:Int)+1:=by omega
      rw[hmx] at hup;have HU:=au hup;clear hup hmx
      go_wp2_with fail
      refine HHd.out.mono ?_;rintro e w' ⟨rfl,rfl⟩
      go_wp2_with (first
       |(at_mapUpdate;refine aH _ rfl _ _ _ _ rfl _ _ _ _ rfl rfl rfl HU.out ?_)
       |go_in)
      go_roundg (r.body.length- (q+1))
      case measure=>omega
      case rel=>exact⟨q+1,by omega,by go_num,m5,E4,HM5,HC5,HB5,kz4,kz1⟩
     have hmx:(((max lh (ln+1):Nat)):Int)=(lh:Int):=by omega
     have hmz:max (lh:Int) ((ln:Int)+1)=(lh:Int):=by omega
     have hlz:¬(lh:Int)<(ln:Int)+1:=by omega
     rw[hmx] at hup;have HU:=au hup;clear hup hmx
     go_wp2_with fail
     refine HHd.out.mono ?_;rintro e w' ⟨rfl,rfl⟩
     go_wp2_with (first
      |(at_mapUpdate;refine aH _ rfl _ _ _ _ rfl _ _ _ _ rfl rfl rfl HU.out ?_)
      |go_in)
     go_roundg (r.body.length- (q+1))
     case measure=>omega
     case rel=>exact⟨q+1,by omega,by go_num,m5,E4,HM5,HC5,HB5,kz4,kz1⟩
    have E4:Hid (qm (gU hs) p (numOf m)=(p.drop (j+1)).foldl (iG (gU hs)) (numOf m3)):=by
     show _=_;have e3:iG (gU hs) (numOf m2) r=numOf m3:=by rw[HE3.out,List.drop_eq_nil_of_le (by omega)];rfl
     rw[HE2.out,HSt.out,e3]
    go_wp2
    go_roundg (p.length- (j+1))
    case measure=>omega
    case rel=>exact⟨j+1,by omega,by go_num,m3,E4,HM4.out.mono (by omega),fun s=>by have:=HC4.out s;omega,HB4⟩
   have E4:Hid (L=Db (gU hs) p k (numOf m2)):=by
    show _=_;have e3:qm (gU hs) p (numOf m)=numOf m2:=by rw[HE2.out,List.drop_eq_nil_of_le (by omega)];rfl
    rw[HE1.out,e3]
   go_wp2
   go_roundg k
   case measure=>omega
   case rel=>exact⟨t+1,by omega,by go_num,m2,E4,HM2.out.mono (by omega),fun s=>by have:=HC2.out s;omega,HB2⟩
  obtain rfl:gk=0:=by omega
  have htz:¬(t:Int)<(p.length:Int)+1:=by omega
  have HE0:Hid (L=numOf m):=HE;have HH8:=au (HH7.out.below' HB.out);clear HE HC HB HH7;subst HE0;have HM8:=au HM.out;generalize hw8:wr=w8 at*;clear hw8 HM;go_wp2
  go_loopg [31,204] p.length (fun k o i wr=>∃j:Nat,j+k=p.length∧i=.int .i64 j∧Hid (jL.own 3 w8.heap.size wr o (each m (p.take j)))∧Hid (Below w8.heap.size w8 wr))
  case atStart=>exact⟨0,by omega,rfl,jL.gX _ _ _,Below.refl _ _⟩
  obtain⟨j,hj,rfl,HO,HB⟩:=hrel;obtain⟨ao2,co2,rfl⟩:=aB.bI HO.out;have hwr:=HB.out.size;have hm8:=HM8.out.lt
  by_cases hlt:j<p.length
  ·obtain⟨r,hr⟩:∃x,p[j]?=some x:=⟨_,List.getElem?_eq_getElem hlt⟩;obtain⟨b1,o1,_,rfl,hb1,⟨sv,su,rfl,hsv,hsu⟩,hcl⟩:=aB.bR HV.out hr;have hBw:Below w.heap.size w wr:=ak HH8.out.below HB.out HH8.out.below.size;have d0:wr.cell? ⟨b1,o1+j*4,none⟩=some (.bool r.head.no):=by rw[hBw.cell hb1];exact hcl 0 _ rfl
   have d1:wr.cell? ⟨b1,o1+j*4+1,none⟩=some (.string (bs r.head.name)):=by rw[hBw.cell hb1];exact hcl 1 _ rfl
   have d2:wr.cell? ⟨b1,o1+j*4+2,none⟩=some sv:=by rw[hBw.cell hb1];exact hcl 2 _ rfl
   have d3:wr.cell? ⟨b1,o1+j*4+3,none⟩=some su:=by rw[hBw.cell hb1];exact hcl 3 _ rfl
   have hbr:b1<wr.heap.size:=by have:=hBw.size;omega
   have E:=au (wm hr m);have hlen:(each m (p.take j)).length=j:=by simp[each];omega
   have f1:=(HFi.out r (List.mem_of_getElem? hr)).1;have hlk:=au (iK.look (T:=72) ((HM8.out.below HB.out).later ((aj.refl wr).alloc (.cells #[.bool r.head.no,.string (bs r.head.name),sv,su] 57))) Tryz.underlying9 Tryz.underlying3 Tryz.underlying72 (jB _) f1);have hOA:=aB.dH HO.out ((Tn.refl w7.heap.size wr).alloc (.cells #[.bool r.head.no,.string (bs r.head.name),sv,su] 57)) hm8;obtain⟨v',w4,hrun,o4,g4⟩:=rQ hOA (x:=numOf m r.head.name) (by rw[hlen];omega) (by simp;omega);have HO4:Hid (jL.own 3 w8.heap.size w4 v' (each m (p.take (j+1)))):=by show jL.own _ _ _ _ _;rw[E.out];exact o4
   have HB4:Hid (Below w8.heap.size w8 w4):=by refine ak ((HB.out.alloc hwr _).alloc (by simp;omega) _) ⟨g4.os,g4.tape,g4.output,g4.size,fun k hk=>g4.block k (by simp;omega) (fun e=>?_)⟩ (Nat.le_refl _);have:=(aB.dV hOA e.symm).1;omega
   rw[hlen] at hrun;simp only[World.size_alloc] at hrun
   replace hrun:=au hrun
   rw[hlen];obtain⟨a2,c2,rfl⟩:=aB.slice hsv;obtain⟨a3,c3,rfl⟩:=aB.slice hsu;clear hcl hr hsv hsu hOA o4 g4 HO HB E f1 hBw;clear hlen;generalize numOf m r.head.name=nu at*;generalize bs r.head.name=nm at*;generalize r.head.no=no at*
   go_wp2_with (first
    |(at_lookup;refine bM _ rfl _ _ _ _ rfl _ _ _ rfl rfl (bg hlk) ?_)
    |(at_builtin;refine wpList_append_run rfl (.tmp 208) (.tmp 214) 35 rfl _ _ _ _ rfl rfl (bg hrun) ?_)
    |go_in)
   go_roundg (p.length- (j+1))
   case measure=>omega
   case rel=>exact⟨j+1,by omega,by go_num,HO4,HB4⟩
  have e:j=p.length:=by omega
  subst e;have hO:=HO.out;rw[List.take_length] at hO⊢;have HU8:=au (aB.gQ hO (by simp[each];omega));have HH9:=au (HH8.out.below' HB.out);have hR6:=HH9.out.row;have hw8:=HH8.out.lo;have q0:wr.cell? ⟨w.heap.size,0,none⟩=some (.int .i64 0):=(by rw[cell_of_row _ _ _ _ _ _ hR6];rfl);have q1:wr.cell? ⟨w.heap.size,1,none⟩=some (.int .i64 0):=(by rw[cell_of_row _ _ _ _ _ _ hR6];rfl);have p0:wr.frozen? ⟨w.heap.size,0,none⟩=false:=aP 0 hR6;have p1:wr.frozen? ⟨w.heap.size,1,none⟩=false:=aP 1 hR6;have F3:Hid (aK p=(each m p,0,0)):=F2.out;clear hR6 hO HO HB F2;generalize(each m p).length=ne at*;go_wp2;obtain⟨r0,r1⟩:=cu HH9.out.row (.int .i64 0) (.int .i64 0);refine bodyPost_ret (v:=.tuple #[.slice ao2 ne co2,.agg #[.int .i64 0,.int .i64 0]]) (by simp[results,Tryz.results16,go_sem,r0,r1]) rfl ⟨.slice ao2 ne co2,by rw[F3.out];rfl,?_,?_⟩
  ·rw[F3.out];exact aB.dX (aB.kF (aB.kF HU8.out hw8 _) hw8 _) fun k _ hk=>by have:w8.heap.size≤k:=hk;show w.heap.size≤k;omega
  exact(HH9.out.below.setCell (Nat.le_refl _) _).setCell (Nat.le_refl _) _
 have F:Hid (aK p=([],ex,ea)):=by show _=_;unfold aK;rw[hwp,if_neg h0]
 have hq:(ex != 0)=true:=by simpa using h0
 clear h0 hwp HV
 go_enter Tryz.func16,Tryz.ntmps16
 go_wp2_with (go_at_call 35;refine HW.out.mono ?_;rintro e w2 ⟨rfl,hB2,hR2,hs2⟩;have q0:w2.cell? ⟨w.heap.size,0,none⟩=some (.int .i64 0):=(by rw[cell_of_row _ _ _ _ _ _ hR2];rfl);have q1:w2.cell? ⟨w.heap.size,1,none⟩=some (.int .i64 0):=(by rw[cell_of_row _ _ _ _ _ _ hR2];rfl);have p0:w2.frozen? ⟨w.heap.size,0,none⟩=false:=aP 0 hR2;have p1:w2.frozen? ⟨w.heap.size,1,none⟩=false:=aP 1 hR2;replace hR2:=au hR2)
 go_region
 go_wp2;obtain⟨r0,r1⟩:=cu (bg hR2) (.int .i64 ex) (.int .i64 (ea:Int));have hL:=((aj.refl ((w2.setCell ⟨w.heap.size,0,none⟩ (.int .i64 ex)).setCell ⟨w.heap.size,1,none⟩ (.int .i64 (ea:Int)))).alloc (.cells #[.int .i64 ex,.int .i64 (ea:Int)] 41)).drew;rw[←hL.cell (p:=⟨w.heap.size,0,none⟩) (by simp only[size_setCell];exact hs2)] at r0;rw[←hL.cell (p:=⟨w.heap.size,1,none⟩) (by simp only[size_setCell];exact hs2)] at r1;refine bodyPost_ret (v:=.tuple #[.slice none 0 0,.agg #[.int .i64 ex,.int .i64 (ea:Int)]]) (by simp[results,Tryz.results16,go_sem,r0,r1]) rfl ⟨.slice none 0 0,by rw[F.out],by rw[F.out];exact jL.jE _ _ _ _,?_⟩;exact ak ((hB2.out.setCell (Nat.le_refl _) _).setCell (Nat.le_refl _) _) hL.below (by simp only[size_setCell];exact Nat.le_of_lt hs2)
theorem aZ {w:World} {b n n':Nat} {a a':Option Addr} {c c':Nat} {x y:Int} {d:Bool} {t:TypeId} {fr:Nat×Nat} (h:w.heap[b]?=some (.cells #[.slice a n c,.slice a' n' c',.int .i64 x,.int .i64 y,.bool d] t fr)):EK w b:=fun off s e=>by rw[cell_of_row _ _ _ _ _ _ h] at e;rcases off with _|_|_|_|_|off <;> simp at e
def Kk (w:World) (v:Value) (er:Int) (x:Int×gM):Prop:=er=x.1∧qL w v x.2
theorem qL.none (w:World):qL w (.agg #[.slice none 0 0,.slice none 0 0,.int .i64 0,.int .i64 0,.bool false]) cK:=⟨_,_,rfl,jm w,jm w⟩
theorem IQ (p:List aD) (l:List aF) (pv fv:Value) (w:World) (hv:iy.sl bT w pv p) (hf:Facts w fv l) (hlg:∀r∈p,wD r) (hok:∀k,okF (l.getD k aA)):
  Calls Tryz.prog 5 #[pv,fv] w fun e w'=>∃v' er,e=.returned (.tuple #[v',.int .i64 er])∧Kk w' v' er (iT p l)∧Below w.heap.size w w':=by
 obtain⟨pa,pc,rfl⟩:=aB.slice hv;obtain⟨fa,fc,rfl⟩:=aC hf;obtain⟨wb,hwb⟩:∃wb,wb=w.alloc (.cells #[.slice none 0 0,.slice none 0 0,.int .i64 0,.int .i64 0,.bool false] 26):=⟨_,rfl⟩;have hLb:aj w wb:=by rw[hwb];exact(aj.refl w).alloc _
 have hzb:wb.heap.size=w.heap.size+1:=by rw[hwb];simp
 have hrs:wb.heap[w.heap.size]?=some (.cells #[.slice none 0 0,.slice none 0 0,.int .i64 0,.int .i64 0,.bool false] 26 (0,0)):=by rw[hwb];exact heap_alloc_new w _
 have HSt:=au (xX p (.slice pa p.length pc) wb (aB.aS hv hLb) hlg);have HV:=au hv;have HF:=au hf;have HOk:=au hok;have HLb:=au hLb;have HRs:=au hrs;have HWb:=au hwb;obtain⟨ss,ex,ea,hse⟩:∃ss ex ea,aK p=(ss,ex,ea):=⟨_,_,_,rfl⟩;rw[hse] at HSt;have HSE:=au hse;clear hv hf hLb hrs hwb hse hok hlg
 go_enter Tryz.func5,Tryz.ntmps5
 go_wp2_with fail
 rw[←HWb.out];refine HSt.out.mono ?_;rintro e w1 ⟨u,rfl,hu,hB1⟩;dsimp only at hu⊢;have HU:Hid (jL.sl bT w1 u ss):=aB.dO hu;obtain⟨ua,uc,rfl⟩:=aB.slice hu;have HB1:Hid (Below w.heap.size w w1):=ak HLb.out.below hB1 HLb.out.size;have hr1:w1.heap[w.heap.size]?=some (.cells #[.slice none 0 0,.slice none 0 0,.int .i64 0,.int .i64 0,.bool false] 26 (0,0)):=by rw[hB1.block _ (by omega)];exact HRs.out
 have hz1:w.heap.size+1≤w1.heap.size:=by have:=hB1.size;omega
 have HR1:=au hr1;clear hu hB1 HSt HWb HRs
 by_cases h0:ex=0
 ·subst h0;obtain⟨hw0,m,hms,hdm,hlm,hsm⟩:=ko HSE.out;have hp:=kC.1 hw0;have IU:∀s∈ss,s<1000:=fun s hs=>by
   rw[hms] at hs;obtain⟨r,hr,rfl⟩:=List.mem_map.1 hs;have:=qh hlm hsm r hr;have:=hp.few;omega
  obtain⟨w2,hw2⟩:∃w2,w2=w1.alloc (.cells #[.int .i64 0,.int .i64 (ea:Nat)] 41):=⟨_,rfl⟩;have hL2:aj w1 w2:=by rw[hw2];exact(aj.refl _).alloc _
  have hB2:Below w.heap.size w w2:=ak HB1.out hL2.below HB1.out.size;have HFC:=au (EJ p l (.slice pa p.length pc) (.slice fa l.length fc) w2 (aB.aO HV.out hB2) (HF.out.below hB2) hp HOk.out);obtain⟨fx,fe,hfe⟩:∃fx fe,dP p l=(fx,fe):=⟨_,_,rfl⟩;rw[hfe] at HFC;have HX0:Hid (iT p l=if fx≠0 then(fx,cK) else(0,⟨l,l,0,0,decide (countP ss=0)⟩)):=by
   show _=_;have e:j5 p l=fx:=by unfold j5;rw[HSE.out,hfe];simp
   unfold iT Co;rw[e,HSE.out]
  have HB2:=au hB2;have HU2:=au (aB.aS HU.out hL2);have HR2:Hid (w2.heap[w.heap.size]?=some (.cells #[.slice none 0 0,.slice none 0 0,.int .i64 0,.int .i64 0,.bool false] 26 (0,0))):=by show _=_;rw[hL2.block (by omega)];exact hr1
  have hz2:w.heap.size+1≤w2.heap.size:=by have:=hL2.size;omega
  have HW2:=au hw2;have HSm:=au IU;clear hw0 hms hdm hlm hsm hp hL2 hB2 hfe hw2 HB1 HU hr1 HR1 HSE IU
  go_wp2_with fail
  rw[←HW2.out];refine HFC.out.mono ?_;rintro e w3 ⟨rfl,hB3⟩;dsimp only;have HB3:Hid (Below w.heap.size w w3):=ak HB2.out hB3 HB2.out.size;have HU3:=au (aB.aO HU2.out hB3);have hr3:w3.heap[w.heap.size]?=some (.cells #[.slice none 0 0,.slice none 0 0,.int .i64 0,.int .i64 0,.bool false] 26 (0,0)):=by rw[hB3.block _ (by omega)];exact HR2.out
  have hz3:w.heap.size+1≤w3.heap.size:=by have:=hB3.size;omega
  have HR3:=au hr3;clear hB3 HFC HW2 HB2 HU2 HR2
  by_cases h1:fx=0
  ·subst h1;have HX:Hid (iT p l=(0,⟨l,l,0,0,decide (countP ss=0)⟩)):=by show _=_;rw[HX0.out];simp
   obtain⟨w4,hw4⟩:∃w4,w4=w3.alloc (.cells #[.int .i64 0,.int .i64 fe] 41):=⟨_,rfl⟩;have hL4:aj w3 w4:=by rw[hw4];exact(aj.refl _).alloc _
   have HCn:=au (BX ss (.slice ua ss.length uc) w4 (aB.aS HU3.out hL4) HSm.out);have HB4:Hid (Below w.heap.size w w4):=ak HB3.out hL4.below HB3.out.size;have HR4:Hid (w4.heap[w.heap.size]?=some (.cells #[.slice none 0 0,.slice none 0 0,.int .i64 0,.int .i64 0,.bool false] 26 (0,0))):=by show _=_;rw[hL4.block (by omega)];exact hr3
   have HW4:=au hw4;have hcs:countP ss≤1000:=countP_le HSm.out;clear hw4 hL4 hr3 HR3 HB3 HU3 HX0
   go_wp2_with fail
   rw[←HW4.out];refine HCn.out.mono ?_;rintro e w5 ⟨rfl,h5⟩;obtain rfl:w4=w5:=h5.symm;clear h5 HCn HW4;obtain⟨q0,q1,q2,q3,q4,⟨f0,f1,f2,f3,f4⟩,_⟩:=dQ HR4.out;have HEq:Hid ((((countP ss:Nat):Int)==0)=decide (countP ss=0)):=by
    show _=_
    by_cases h:countP ss=0
    ·simp[h]
    simp[h]
   have HF4:=au (HF.out.below HB4.out);have HNt:=au (aZ HR4.out);generalize countP ss=cc at*;go_wp2;obtain⟨r0,r1,r2,r3,r4⟩:=lI HR4.out (.slice fa l.length fc) (.slice fa l.length fc) (.int .i64 0) (.int .i64 0) (.bool ((cc:Int)==0));have hFp:=bD HNt.out (bA w4 w.heap.size (.slice fa l.length fc) (.slice fa l.length fc) (.int .i64 0) (.int .i64 0) (.bool ((cc:Int)==0))) HF4.out;exact bodyPost_ret (v:=.tuple #[.agg #[.slice fa l.length fc,.slice fa l.length fc,.int .i64 0,.int .i64 0,.bool ((cc:Int)==0)],.int .i64 0]) (by simp[results,Tryz.results5,go_sem,r0,r1,r2,r3,r4]) rfl
    ⟨_,0,rfl,by rw[HX.out];exact⟨rfl,_,_,by rw[HEq.out],hFp,hFp⟩,Below.cO HB4.out (Nat.le_refl _)⟩
  have HX:Hid (iT p l=(fx,cK)):=by show _=_;rw[HX0.out,if_pos h1]
  have hne:(fx != 0)=true:=by simpa using h1
  obtain⟨q0,q1,q2,q3,q4,⟨f0,f1,f2,f3,f4⟩,_⟩:=dQ hr3;clear h1 hr3 HX0 HU3;go_wp2
  go_region
  go_wp2;have hzp:(cO w3 w.heap.size (.slice none 0 0) (.slice none 0 0) (.int .i64 0) (.int .i64 0) (.bool false)).heap.size=w3.heap.size:=by unfold cO;simp only[size_setCell]
  have hrow:((cO w3 w.heap.size (.slice none 0 0) (.slice none 0 0) (.int .i64 0) (.int .i64 0) (.bool false)).alloc (.cells #[.int .i64 fx,.int .i64 fe] 41)).heap[w.heap.size]?=some (.cells #[.slice none 0 0,.slice none 0 0,.int .i64 0,.int .i64 0,.bool false] 26 (0,0)):=by rw[Below.heap_alloc _ _ _ (by omega)];exact gq HR3.out _ _ _ _ _
  obtain⟨r0,r1,r2,r3,r4,_,_⟩:=dQ hrow;have HBx:Hid (Below w.heap.size w ((cO w3 w.heap.size (.slice none 0 0) (.slice none 0 0) (.int .i64 0) (.int .i64 0) (.bool false)).alloc (.cells #[.int .i64 fx,.int .i64 fe] 41))):=ak (Below.cO HB3.out (Nat.le_refl _)) ((aj.refl _).alloc _).below (by rw[hzp];omega);unfold cO at r0 r1 r2 r3 r4;refine bodyPost_ret (v:=.tuple #[.agg #[.slice none 0 0,.slice none 0 0,.int .i64 0,.int .i64 0,.bool false],.int .i64 fx]) (by simp[results,Tryz.results5,go_sem,r0,r1,r2,r3,r4]) rfl ⟨_,fx,rfl,by rw[HX.out];exact⟨rfl,qL.none _⟩,?_⟩;exact HBx.out.drew
 have HX:Hid (iT p l=(ex,cK)):=by
  show _=_;have e:j5 p l=ex:=by unfold j5;rw[HSE.out];simp[h0]
  unfold iT;rw[e,if_pos h0]
 have hne:(ex != 0)=true:=by simpa using h0
 obtain⟨q0,q1,q2,q3,q4,⟨f0,f1,f2,f3,f4⟩,_⟩:=dQ hr1;clear h0 hr1 HSE;go_wp2
 go_region
 go_wp2;have hzp:(cO w1 w.heap.size (.slice none 0 0) (.slice none 0 0) (.int .i64 0) (.int .i64 0) (.bool false)).heap.size=w1.heap.size:=by unfold cO;simp only[size_setCell]
 have hrow:((cO w1 w.heap.size (.slice none 0 0) (.slice none 0 0) (.int .i64 0) (.int .i64 0) (.bool false)).alloc (.cells #[.int .i64 ex,.int .i64 (ea:Nat)] 41)).heap[w.heap.size]?=some (.cells #[.slice none 0 0,.slice none 0 0,.int .i64 0,.int .i64 0,.bool false] 26 (0,0)):=by rw[Below.heap_alloc _ _ _ (by omega)];exact gq HR1.out _ _ _ _ _
 obtain⟨r0,r1,r2,r3,r4,_,_⟩:=dQ hrow;have HBx:Hid (Below w.heap.size w ((cO w1 w.heap.size (.slice none 0 0) (.slice none 0 0) (.int .i64 0) (.int .i64 0) (.bool false)).alloc (.cells #[.int .i64 ex,.int .i64 (ea:Nat)] 41))):=ak (Below.cO HB1.out (Nat.le_refl _)) ((aj.refl _).alloc _).below (by rw[hzp];omega);unfold cO at r0 r1 r2 r3 r4;refine bodyPost_ret (v:=.tuple #[.agg #[.slice none 0 0,.slice none 0 0,.int .i64 0,.int .i64 0,.bool false],.int .i64 ex]) (by simp[results,Tryz.results5,go_sem,r0,r1,r2,r3,r4]) rfl ⟨_,ex,rfl,by rw[HX.out];exact⟨rfl,qL.none _⟩,?_⟩;exact HBx.out.drew
end Go.Proofs.YthngiikhgplldaaGreatDoor
