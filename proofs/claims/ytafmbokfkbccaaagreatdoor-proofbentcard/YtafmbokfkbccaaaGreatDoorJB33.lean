import Derived.Shelf.Spec.SlicesGrow
import Derived.Test.YtafmbokfkbccaaaGreatDoorProg
import Derived.Test.YtafmbokfkbccaaaGreatDoorJB18
import Derived.Test.YtafmbokfkbccaaaGreatDoorJB3
import Derived.Test.YtafmbokfkbccaaaGreatDoorJB13
namespace Go.Proofs
open Go.Shelf
def Tryz.growFacts_ren:Go.Shelf.Ren:=⟨fun|4=>267|n=>n,fun|22=>24|25=>27|3=>3|4=>4|9=>9|20=>20|0=>0|n=>n,fun|n=>n⟩
theorem Tryz.growFacts:Go.Proofs.Lays8.n4 Tryz.prog Tryz.growFacts_ren:={
 mixed:=by kernel_rfl
 f4:=⟨Tryz.f267.name,by decide,Tryz.func267.trans (congrArg some (by kernel_rfl))⟩
 t0:=Tryz.underlying0
 a0:=Tryz.isAgg0
 z0:=Tryz.sizeOf0
 v0:=Tryz.zeroValue0
 t3:=Tryz.underlying3
 a3:=Tryz.isAgg3
 z3:=Tryz.sizeOf3
 v3:=Tryz.zeroValue3
 t4:=Tryz.underlying4
 a4:=Tryz.isAgg4
 z4:=Tryz.sizeOf4
 v4:=Tryz.zeroValue4
 t9:=Tryz.underlying9
 a9:=Tryz.isAgg9
 z9:=Tryz.sizeOf9
 v9:=Tryz.zeroValue9
 t20:=Tryz.underlying20
 a20:=Tryz.isAgg20
 z20:=Tryz.sizeOf20
 v20:=Tryz.zeroValue20
 t22:=Tryz.underlying24
 a22:=Tryz.isAgg24
 z22:=Tryz.sizeOf24
 v22:=Tryz.zeroValue24}
end Go.Proofs
namespace Go.Proofs.YtafmbokfkbccaaaGreatDoor
open Go.RowKit Go.Sort Go.Shelf
end Go.Proofs.YtafmbokfkbccaaaGreatDoor
namespace Go.Proofs.YtafmbokfkbccaaaGreatDoor
structure nO where
 known:List aj
 fresh:List aj
 level:Int
 rounds:Int
 done:Bool
def pq:nO:=⟨[],[],0,0,false⟩
def Ea (K N:List aj) (r:aA):Nat→List aF→List aj→Option (List aj)
 |_,[],acc=>some acc
 |k,a::l,acc=>if a.no then Ea K N r (k+1) l acc else
  match lF (gM K k N) r.body with
  |none=>none
  |some R=>Ea K N r (k+1) l (acc++R.filterMap fun e=>aQ r.head e)
def JO (K N:List aj) (r:aA) (acc:List aj):Option (List aj):=if r.body.all (·.no) then
  match dM r K with
  |none=>none
  |some x=>some (acc++x)
 else Ea K N r 0 r.body acc
def fV (K N:List aj) (st:Int):List aA→List Nat→List aj→Option (List aj)
 |[],_,acc=>some acc
 |_::_,[],acc=>some acc
 |r::p,s::ss,acc=>if(s:Int)=st then
   match JO K N r acc with
   |none=>none
   |some acc'=>fV K N st p ss acc'
  else fV K N st p ss acc
def qU (K acc:List aj):List aj:=fO (acc.filter fun f=> !inB K f)
def jG (p:List aA) (ss:List Nat) (r:nO):Int×nO:=if r.rounds=1000 then(5,pq) else
 match fV r.known r.fresh r.level p ss [] with
 |none=>(4,pq)
 |some acc=>if 200<(fO (r.known++acc)).length then(5,pq) else
  if qU r.known acc=[] then(0,⟨fO (r.known++acc),fO (r.known++acc),r.level+1,r.rounds+1,decide (r.level+1=countP ss)⟩)
  else(0,⟨fO (r.known++acc),qU r.known acc,r.level,r.rounds+1,false⟩)
def fZ (p:List aA) (ss:List Nat):Nat→nO→Int×nO
 |0,r=>(0,r)
 |n+1,r=>if r.done then(0,r) else if(jG p ss r).1≠0 then((jG p ss r).1,pq) else fZ p ss n (jG p ss r).2
theorem nC {K acc:List aj} {f:aj}:f∈qU K acc↔f∈acc∧f∉K:=by
 unfold qU;rw[bU,List.mem_filter]
 constructor
 ·rintro⟨h1,h2⟩;exact⟨h1,fun h=>by rw[aO.2 h] at h2;cases h2⟩
 ·rintro⟨h1,h2⟩;refine⟨h1,?_⟩;cases h:inB K f
  ·rfl
  ·exact absurd (aO.1 h) h2
def Makes (K N:List aj) (r:aA) (f:aj):Prop:=(r.body.all (·.no)=true∧∃env,iq (fun _=>K) r.body env∧aQ r.head env=some f)∨
 (¬r.body.all (·.no)=true∧∃i a env,r.body[i]?=some a∧a.no=false∧iq (gM K (i:Nat) N) r.body env∧aQ r.head env=some f)
theorem at_mem {K N:List aj} {r:aA}:∀{l:List aF} {k:Nat} {acc S:List aj},Ea K N r k l acc=some S→∀f,f∈S↔f∈acc∨∃i a,l[i]?=some a∧a.no=false∧∃R,lF (gM K ((k+i:Nat):Int) N) r.body=some R∧∃e∈R,aQ r.head e=some f
 |[],k,acc,S,h,f=>by
  simp only[Ea,Option.some.injEq] at h;subst h;refine⟨Or.inl,fun h=>h.elim id ?_⟩;rintro⟨i,a,h,_⟩;simp at h
 |a::l,k,acc,S,h,f=>by
  unfold Ea at h;split at h
  ·rename_i hn;rw[at_mem h f]
   constructor
   ·rintro(h|⟨i,b,h1,h2,h3⟩)
    ·exact Or.inl h
    ·exact Or.inr ⟨i+1,b,by simpa using h1,h2,by rw[show k+(i+1)=k+1+i by omega];exact h3⟩
   ·rintro(h|⟨i,b,h1,h2,h3⟩)
    ·exact Or.inl h
    ·cases i with
     |zero=>simp at h1;subst h1;rw[hn] at h2;cases h2
     |succ i=>exact Or.inr ⟨i,b,by simpa using h1,h2,by rw[show k+1+i=k+(i+1) by omega];exact h3⟩
  ·rename_i hn;split at h
   ·cases h
   ·rename_i R hR;rw[at_mem h f,List.mem_append]
    constructor
    ·rintro((h|h)|⟨i,b,h1,h2,h3⟩)
     ·exact Or.inl h
     ·obtain⟨e,he,hf⟩:=List.mem_filterMap.1 h;exact Or.inr ⟨0,a,rfl,by simpa using hn,R,hR,e,he,hf⟩
     ·exact Or.inr ⟨i+1,b,by simpa using h1,h2,by rw[show k+(i+1)=k+1+i by omega];exact h3⟩
    ·rintro(h|⟨i,b,h1,h2,h3⟩)
     ·exact Or.inl (Or.inl h)
     ·cases i with
      |zero=>
       obtain⟨R',hR',e,he,hf⟩:=h3;have:R=R':=Option.some.inj (hR.symm.trans hR');subst this;exact Or.inl (Or.inr (List.mem_filterMap.2 ⟨e,he,hf⟩))
      |succ i=>exact Or.inr ⟨i,b,by simpa using h1,h2,by rw[show k+1+i=k+(i+1) by omega];exact h3⟩
theorem Ag {K N:List aj} {r:aA}:∀{l:List aF} {k:Nat} {acc S:List aj},Ea K N r k l acc=some S→∀i a,l[i]?=some a→a.no=false→∃R,lF (gM K ((k+i:Nat):Int) N) r.body=some R
 |[],k,acc,S,h,i,a,hi,_=>by simp at hi
 |a::l,k,acc,S,h,i,b,hi,hb=>by
  unfold Ea at h;split at h
  ·rename_i hn;cases i with
   |zero=>simp at hi;subst hi;rw[hn] at hb;cases hb
   |succ i=>rw[show k+(i+1)=k+1+i by omega];exact Ag h i b (by simpa using hi) hb
  ·split at h
   ·cases h
   ·rename_i R hR;cases i with
    |zero=>exact⟨R,hR⟩
    |succ i=>rw[show k+(i+1)=k+1+i by omega];exact Ag h i b (by simpa using hi) hb
theorem KM {K N:List aj} {r:aA} (hr:jw r) {acc S:List aj} (h:JO K N r acc=some S) (f:aj):f∈S↔f∈acc∨Makes K N r f:=by
 have hc:=bH hr;unfold JO at h;split at h
 ·rename_i hno;split at h
  ·cases h
  ·rename_i x hx;simp only[Option.some.injEq] at h;subst h;rw[List.mem_append,fD hc hx]
   constructor
   ·rintro(h|h)
    ·exact Or.inl h
    ·exact Or.inr (Or.inl ⟨hno,h⟩)
   ·rintro(h|⟨_,h⟩|⟨h,_⟩)
    ·exact Or.inl h
    ·exact Or.inr h
    ·exact absurd hno h
 ·rename_i hno;rw[at_mem h f]
  constructor
  ·rintro(h1|⟨i,a,h1,h2,R,h3,e,h4,h5⟩)
   ·exact Or.inl h1
   ·rw[Nat.zero_add] at h3;exact Or.inr (Or.inr ⟨hno,i,a,e,h1,h2,(lW hc h3 e).1 h4,h5⟩)
  ·rintro(h1|⟨h1,_⟩|⟨_,i,a,e,h1,h2,h3,h4⟩)
   ·exact Or.inl h1
   ·exact absurd h1 hno
   ·obtain⟨R,hR⟩:=Ag h i a h1 h2;refine Or.inr ⟨i,a,h1,h2,R,hR,e,(lW hc hR e).2 ?_,h4⟩;rw[Nat.zero_add];exact h3
theorem ji {K N:List aj} {st:Int} (σ:aA→Nat):∀{p:List aA} {acc S:List aj},(∀r∈p,jw r)→fV K N st p (p.map σ) acc=some S→∀f,f∈S↔f∈acc∨∃r∈p,(σ r:Int)=st∧Makes K N r f
 |[],acc,S,_,h,f=>by
  simp only[fV,Option.some.injEq] at h;subst h;simp
 |r::p,acc,S,hp,h,f=>by
  simp only[fV,List.map_cons] at h;split at h
  ·rename_i hs;split at h
   ·cases h
   ·rename_i acc' ha;rw[ji σ (fun q hq=>hp q (by simp[hq])) h f,KM (hp r (by simp)) ha];simp only[List.mem_cons,exists_eq_or_imp]
    constructor
    ·rintro((h|h)|h)
     ·exact Or.inl h
     ·exact Or.inr (Or.inl ⟨hs,h⟩)
     ·exact Or.inr (Or.inr h)
    ·rintro(h|⟨_,h⟩|h)
     ·exact Or.inl (Or.inl h)
     ·exact Or.inl (Or.inr h)
     ·exact Or.inr h
  ·rename_i hs;rw[ji σ (fun q hq=>hp q (by simp[hq])) h f];simp only[List.mem_cons,exists_eq_or_imp]
   constructor
   ·rintro(h|h)
    ·exact Or.inl h
    ·exact Or.inr (Or.inr h)
   ·rintro(h|⟨h,_⟩|h)
    ·exact Or.inl h
    ·exact absurd h hs
    ·exact Or.inr h
theorem FH {K N:List aj} {body:List aF} {env:List aC} (hs:∀f∈N,f∈K) {i:Nat} {a:aF} (hi:body[i]?=some a) (ha:a.no=false) (h:iq (gM K (i:Nat) N) body env):iq (fun _=>K) body env:=by
 refine⟨h.1,h.2.1,h.2.2.1,fun j b hj=> ?_⟩;obtain⟨f,hf,hb⟩:=h.2.2.2 j b hj;refine⟨f,hf,?_⟩;unfold gM at hb;split at hb
 ·rename_i e;have e:j=i:=by omega
  subst e;rw[hi] at hj;cases hj;rw[ha] at hb⊢;exact aO.2 (hs f (aO.1 hb))
 ·exact hb
theorem IB {K N:List aj} {body:List aF} {env:List aC} {i:Nat} {a:aF} (hi:body[i]?=some a) (ha:a.no=false) (h:iq (fun _=>K) body env) {g:aj} (hg:aQ a env=some g) (hN:g∈N):iq (gM K (i:Nat) N) body env:=by
 refine⟨h.1,h.2.1,h.2.2.1,fun j b hj=> ?_⟩;obtain⟨f,hf,hb⟩:=h.2.2.2 j b hj;refine⟨f,hf,?_⟩;unfold gM;split
 ·rename_i e;have e:j=i:=by omega
  subst e;rw[hi] at hj;cases hj;rw[hg] at hf;cases hf;rw[ha,aO.2 hN];rfl
 ·exact hb
theorem om {K N:List aj} {r:aA} {f:aj} (hs:∀f∈N,f∈K) (h:Makes K N r f):∃env,iq (fun _=>K) r.body env∧aQ r.head env=some f:=by
 rcases h with⟨_,h⟩|⟨_,i,a,env,h1,h2,h3,h4⟩
 ·exact h
 ·exact⟨env,FH hs h1 h2 h3,h4⟩
def Semi (K N:List aj) (r:aA):Prop:=∀env f,iq (fun _=>K) r.body env→aQ r.head env=some f→f∈K∨Makes K N r f
theorem yF {K N:List aj} {r:aA} {env:List aC} {f:aj} (hf:iq (fun _=>K) r.body env) (hh:aQ r.head env=some f) (h:∃a∈r.body,a.no=false∧∃g,aQ a env=some g∧g∈N):Makes K N r f:=by
 obtain⟨a,ha,hn,g,hg,hN⟩:=h;obtain⟨i,hi⟩:=List.getElem?_of_mem ha;refine Or.inr ⟨fun hall=> ?_,i,a,env,hi,hn,IB hi hn hf hg hN,hh⟩;have:=List.all_eq_true.1 hall a ha;rw[hn] at this;cases this
theorem BM (K:List aj) (r:aA):Semi K K r:=fun env f hf hh=>by
 by_cases h:r.body.all (·.no)=true
 ·exact Or.inr (Or.inl ⟨h,env,hf,hh⟩)
 ·refine Or.inr ?_;obtain⟨a,ha,hn⟩:∃a∈r.body,a.no=false:=by
   refine Classical.byContradiction fun hx=>h (List.all_eq_true.2 fun a ha=> ?_);cases e:a.no
   ·exact absurd ⟨a,ha,e⟩ hx
   ·rfl
  obtain⟨i,hi⟩:=List.getElem?_of_mem ha;obtain⟨g,hg,hb⟩:=hf.2.2.2 i a hi;rw[hn] at hb;exact yF hf hh ⟨a,ha,hn,g,hg,aO.1 hb⟩
theorem FI {K N K':List aj} {r:aA} (hK:∀f∈K,f∈K') (hs:Semi K N r) (hm:∀f,Makes K N r f→f∈K') {N':List aj} (hN:∀f∈K',f∉K→f∈N'):Semi K' N' r:=fun env f hf hh=>by
 by_cases h:∃a∈r.body,a.no=false∧∃g,aQ a env=some g∧g∈N'
 ·exact Or.inr (yF hf hh h)
 ·have hfK:iq (fun _=>K) r.body env:=by
   refine⟨hf.1,hf.2.1,hf.2.2.1,fun j b hj=> ?_⟩;obtain⟨g,hg,hb⟩:=hf.2.2.2 j b hj;refine⟨g,hg,?_⟩;have hbm:=kF hj;cases hn:b.no
   ·rw[hn] at hb;have S9:=aO.1 hb
    by_cases hgK:g∈K
    ·rw[aO.2 hgK];rfl
    ·exact absurd ⟨b,hbm,hn,g,hg,hN g S9 hgK⟩ h
   ·rw[hn] at hb;cases hi:inB K g
    ·rfl
    ·have:=aO.2 (hK g (aO.1 hi));rw[this] at hb;cases hb
  rcases hs env f hfK hh with h1|h1
  ·exact Or.inl (hK f h1)
  ·exact Or.inl (hm f h1)
structure qV (p:List aA) (c:Nat) (r:nO):Prop where
 good:GoodS p r.known
 up:Up r.fresh
 sub:∀f∈r.fresh,f∈r.known
 lev:0≤r.level∧r.level≤c
 rnd:0≤r.rounds∧r.rounds≤1000
 done:r.done=decide (r.level=c)
theorem qW {p:List aA} {c:Nat} {l:List aj} (h:GoodS p l):qV p c ⟨l,l,0,0,decide (c=0)⟩:=
 ⟨h,h.up,fun _ h=>h,⟨Int.le_refl _,by simp⟩,⟨Int.le_refl _,by simp⟩,by
  simp only[decide_eq_decide];omega⟩
theorem Dg {p:List aA} (hp:cZ p) (σ:aA→Nat) {K N:List aj} {st:Int} (hK:GoodS p K) (hN:∀f∈N,f∈K) {M:List aj} (h:fV K N st p (p.map σ) []=some M):∀f∈M,iH f∧sD p f=true:=fun f hf=>by
 rcases(ji σ hp.rules h f).1 hf with h1|⟨r,hr,_,hm⟩
 ·cases h1
 ·obtain⟨env,he,hh⟩:=om hN hm;obtain⟨a,b,c⟩:=nQ (hp.rules r hr) hK.right he hh;exact⟨a,Bo hp hr b c⟩
theorem Dh {p:List aA} {K M:List aj} (hK:GoodS p K) (hM:∀f∈M,iH f∧sD p f=true) (hl:(fO (K++M)).length≤200):GoodS p (fO (K++M)):=by
 have key:∀f∈fO (K++M),iH f∧sD p f=true:=fun f hf=>by
  rcases List.mem_append.1 (bU.1 hf) with h|h
  ·exact⟨hK.right f h,hK.fit f h⟩
  ·exact hM f h
 exact⟨gV _,fun f hf=>(key f hf).1,hl,fun f hf=>(key f hf).2⟩
theorem Ah {K M:List aj} (hK:Up K):qU K M=[]↔fO (K++M)=K:=by
 constructor
 ·intro h;refine(uV hK fun f=> ?_).symm;rw[List.mem_append];refine⟨Or.inl,fun h1=>h1.elim id fun h1=>Classical.byContradiction fun hn=> ?_⟩;have:=nC.2 ⟨h1,hn⟩;rw[h] at this;cases this
 ·intro h;refine List.eq_nil_iff_forall_not_mem.2 fun f hf=> ?_;obtain⟨h1,h2⟩:=nC.1 hf;exact h2 (h▸bU.2 (List.mem_append.2 (Or.inr h1)))
theorem uO {p:List aA} {ss:List Nat} {r x:nO} (h:jG p ss r=(0,x)):r.rounds≠1000∧∃M,fV r.known r.fresh r.level p ss []=some M∧(fO (r.known++M)).length≤200∧
  ((qU r.known M=[]∧x=⟨fO (r.known++M),fO (r.known++M),r.level+1,r.rounds+1,decide (r.level+1=countP ss)⟩)∨(qU r.known M≠[]∧x=⟨fO (r.known++M),qU r.known M,r.level,r.rounds+1,false⟩)):=by
 unfold jG at h;split at h
 ·simp at h
 ·rename_i hr;split at h
  ·simp at h
  ·rename_i M hM;split at h
   ·simp at h
   ·rename_i hl;split at h
    ·rename_i hn;simp only[Prod.mk.injEq,true_and] at h;exact⟨hr,M,hM,by omega,Or.inl ⟨hn,h.symm⟩⟩
    ·rename_i hn;simp only[Prod.mk.injEq,true_and] at h;exact⟨hr,M,hM,by omega,Or.inr ⟨hn,h.symm⟩⟩
theorem oo {p:List aA} (hp:cZ p) (σ:aA→Nat) {r x:nO} (hr:qV p (countP (p.map σ)) r) (hd:r.done=false) (h:jG p (p.map σ) r=(0,x)):
  qV p (countP (p.map σ)) x∧(∀f∈r.known,f∈x.known)∧x.rounds=r.rounds+1∧((x.level=r.level∧r.known.length<x.known.length)∨(x.level=r.level+1∧x.known=r.known)):=by
 obtain⟨h0,M,hM,hl,hx⟩:=uO h;have hg:=Dh hr.good (Dg hp σ hr.good hr.sub hM) hl;have hsub:∀f∈r.known,f∈fO (r.known++M):=fun f hf=>bU.2 (List.mem_append.2 (Or.inl hf));have hdn:=hr.done;rw[hd] at hdn;have hdn:r.level≠countP (p.map σ):=by simpa using hdn.symm
 have Ur:=hr.lev;have hrnd:=hr.rnd;rcases hx with⟨hn,rfl⟩|⟨hn,rfl⟩
 ·refine⟨⟨hg,gV _,fun _ h=>h,⟨?_,?_⟩,⟨?_,?_⟩,rfl⟩,hsub,rfl,Or.inr ⟨rfl,(Ah hr.good.up).1 hn⟩⟩ <;> dsimp only <;> omega
 ·refine⟨⟨hg,gV _,fun f hf=>bU.2 (List.mem_append.2 (Or.inr (nC.1 hf).1)),⟨?_,?_⟩,⟨?_,?_⟩,?_⟩,hsub,rfl,Or.inl ⟨rfl,?_⟩⟩
  ·dsimp only;omega
  ·dsimp only;omega
  ·dsimp only;omega
  ·dsimp only;omega
  ·simp[hdn]
  ·have h1:=sw hr.good.up hsub;refine Classical.byContradiction fun h2=>hn ((Ah hr.good.up).2 (zH hr.good.up (gV _) hsub (by dsimp only at h2;omega)).symm)
theorem uj {p:List aA} {ss:List Nat} {r:nO} (h:r.done=true):∀n,fZ p ss n r=(0,r)
 |0=>rfl
 |n+1=>by unfold fZ;rw[if_pos h]
theorem Di {p:List aA} {ss:List Nat} {r:nO} (h:r.done=false) (n:Nat):fZ p ss (n+1) r=if(jG p ss r).1≠0 then((jG p ss r).1,pq) else fZ p ss n (jG p ss r).2:=by
 rw[fZ,if_neg (by simp[h])]
end Go.Proofs.YtafmbokfkbccaaaGreatDoor
namespace Go.Proofs.YtafmbokfkbccaaaGreatDoor
open Go.RowKit Go.Sort Go.Maps
theorem gT.stay {base:Nat} {w w':World} {v:Value} {l:List aG} (h:gT w base v l) (hs:w.heap.size≤w'.heap.size) (hk:∀k,k<w.heap.size→base≤k→w'.heap[k]?=w.heap[k]?):gT w' base v l:=by
 obtain⟨xs,ho,hx⟩:=h;refine⟨xs,⟨ho.1,?_⟩,fun i hi'=> ?_⟩
 ·rcases ho.2 with e|⟨g,cap,cur,rfl,hbg,hg,r⟩
  ·exact Or.inl e
  ·exact Or.inr ⟨g,cap,cur,rfl,hbg,by rw[hk g (Array.getElem?_eq_some_iff.1 hg).1 hbg];exact hg,r⟩
 ·obtain⟨c1,s,c2,c3,c4⟩:=hx i hi';exact⟨c1,s,c2,c3.kept' hs fun j hj e=>hk j hj (c4 j e).1,fun j e=>⟨(c4 j e).1,Nat.lt_of_lt_of_le (c4 j e).2.1 hs,(c4 j e).2.2⟩⟩
theorem gT.lt {base:Nat} {w:World} {v:Value} {l:List aG} (h:gT w base v l) {k:Nat} (hk:v.ownBlock=some k):base≤k∧k<w.heap.size:=by
 obtain⟨xs,ho,_⟩:=h;exact ho.lt k hk
theorem gT.slice {base:Nat} {w:World} {v:Value} {l:List aG} (h:gT w base v l):∃a cap,v=.slice a l.length cap:=by
 obtain⟨xs,ho,_⟩:=h;rcases ho.2 with⟨rfl,e⟩|⟨g,cap,cur,rfl,_⟩
 ·exact⟨none,0,by rw[e]⟩
 ·exact⟨_,cap,rfl⟩
def MkB (mb:Nat) (kv nv:Value) (D:List aj) (w:World):Prop:=∃dv,w.heap[mb]?=some (.cells #[kv,nv,dv] 280 (0,0))∧gT w (mb+1) dv D
theorem MkB.below {mb:Nat} {kv nv:Value} {D:List aj} {w w':World} (h:MkB mb kv nv D w) (k:Below w.heap.size w w'):MkB mb kv nv D w':=by
 obtain⟨dv,h1,h2⟩:=h;exact⟨dv,(k.block _ (Array.getElem?_eq_some_iff.1 h1).1).trans h1,h2.stay k.size fun j hj _=>k.block j hj⟩
theorem MkB.drewN {mb:Nat} {kv nv:Value} {D:List aj} {w:World} (h:MkB mb kv nv D w) (q:Nat):MkB mb kv nv D (w.drewN q):=h.below ⟨rfl,rfl,rfl,Nat.le_refl _,fun _ _=>rfl⟩
theorem MkB.lt {mb:Nat} {kv nv:Value} {D:List aj} {w:World} (h:MkB mb kv nv D w):mb<w.heap.size:=by
 obtain⟨dv,h1,_⟩:=h;exact(Array.getElem?_eq_some_iff.1 h1).1
def QI (K D L:List aj):List aj:=if K.length+D.length≤200 then fO (D++L.filter fun f=> !inB K f) else D
structure Ai (K D acc:List aj):Prop where
 up:Up D
 of:∀f∈D,f∈acc∧f∉K
 all:K.length+D.length≤200→∀f∈acc,f∉K→f∈D
 few:D.length≤20400
theorem Ai.nil (K:List aj):Ai K [] []:=⟨List.Pairwise.nil,fun _ h=>(by cases h),fun _ _ h=>(by cases h),by simp⟩
theorem Ai.add {K D acc:List aj} (h:Ai K D acc) (L:List aj) (hL:L.length≤20000):Ai K (QI K D L) (acc++L):=by
 unfold QI;split
 ·rename_i hc;have hm:∀f,f∈fO (D++L.filter fun f=> !inB K f)↔f∈D∨(f∈L∧f∉K):=fun f=>by
   rw[bU,List.mem_append,List.mem_filter];refine or_congr Iff.rfl (and_congr Iff.rfl ?_);rw[Bool.not_eq_true',←Bool.not_eq_true,aO]
  refine⟨gV _,fun f hf=> ?_,fun _ f hf hn=> ?_,?_⟩
  ·rcases(hm f).1 hf with h1|⟨h1,h2⟩
   ·exact⟨List.mem_append.2 (Or.inl (h.of f h1).1),(h.of f h1).2⟩
   ·exact⟨List.mem_append.2 (Or.inr h1),h2⟩
  ·rcases List.mem_append.1 hf with h1|h1
   ·exact(hm f).2 (Or.inl (h.all hc f h1 hn))
   ·exact(hm f).2 (Or.inr ⟨h1,hn⟩)
  ·have h1:=Bh (D++L.filter fun f=> !inB K f);have h2:=List.length_filter_le (fun f=> !inB K f) L;rw[List.length_append] at h1;omega
 ·rename_i hc;exact⟨h.up,fun f hf=>⟨List.mem_append.2 (Or.inl (h.of f hf).1),(h.of f hf).2⟩,fun h'=>absurd h' hc,h.few⟩
end Go.Proofs.YtafmbokfkbccaaaGreatDoor
