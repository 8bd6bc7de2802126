import Derived.Test.YtafmbokfkbccaaaGreatDoorJN4
import Derived.Test.YtafmbokfkbccaaaGreatDoorJN2
import Derived.Test.YtafmbokfkbccaaaGreatDoorJN3
import Derived.Lib.AppendStr
namespace Go.Proofs.YtafmbokfkbccaaaGreatDoor
theorem jm {r:aA} {fs x:List au} (hc:Covers r.body) (h:gH r fs=some x) (f:au):f∈x↔∃env,jE (fun _=>fs) r.body env∧aV r.head env=some f:=by
 unfold gH at h;cases e:lX (fun _=>fs) r.body with
 |none=>rw[e] at h;cases h
 |some R=>
  rw[e] at h;cases h;rw[cu,List.mem_filterMap];exact⟨fun⟨l,hl,hf⟩=>⟨l,(nT hc e l).1 hl,hf⟩,fun⟨l,hl,hf⟩=>⟨l,(nT hc e l).2 hl,hf⟩⟩
theorem jo {a:aF} {l:List aD} {f:au} (h:aV a l=some f):f.1=bs a.name∧aN l a.terms=some f.2:=by
 unfold aV at h;cases e:aN l a.terms with
 |none=>rw[e] at h;cases h
 |some r=>rw[e] at h;cases h;exact⟨rfl,rfl⟩
theorem xZ {fs gs:List au} {body:List aF} {env:List aD} (hpos:∀a∈body,a.no=false→∀f:au,f.1=bs a.name→f∈fs→f∈gs)
  (hneg:∀a∈body,a.no=true→∀f:au,f.1=bs a.name→f∈gs→f∈fs) (h:jE (fun _=>fs) body env):jE (fun _=>gs) body env:=by
 obtain⟨h1,h2,h3,h4⟩:=h;refine⟨h1,h2,h3,ji.2 fun a ha=> ?_⟩;obtain⟨f,hf,hi⟩:=ji.1 h4 a ha;refine⟨f,hf,?_⟩;have hn:=(jo hf).1;cases hno:a.no with
 |false=>
  rw[hno] at hi;exact aZ.2 (hpos a ha hno f hn (aZ.1 hi))
 |true=>
  rw[hno] at hi;cases e:inB gs f with
  |false=>rfl
  |true=>rw[aZ.2 (hneg a ha hno f hn (aZ.1 e))] at hi;cases hi
def kJ (f:au):Prop:=isNamed (raw f.1)=true∧f.2.length≤4∧∀s∈f.2,isNamed (raw s)=true
theorem sQ {l:List aD}:∀{ts:List dH} {r:List ByteArray},aN l ts=some r→∀t∈ts,∃u∈r,bq l t=some u
 |[],_,_=>fun _ h=>by cases h
 |t::ts,r,h=>fun u hu=>by
  simp only[aN] at h;cases e:bq l t with
  |none=>rw[e] at h;cases h
  |some s=>
   rw[e] at h;dsimp only at h;cases e2:aN l ts with
   |none=>rw[e2] at h;cases h
   |some q=>
    rw[e2] at h;cases h;rcases List.mem_cons.1 hu with rfl|hu
    ·exact⟨s,by simp,e⟩
    ·obtain⟨v,hv,hw⟩:=sQ e2 u hu;exact⟨v,by simp[hv],hw⟩
theorem oW {l:List aD}:∀{ts:List dH} {r:List ByteArray},aN l ts=some r→∀u∈r,∃t∈ts,bq l t=some u
 |[],_,h=>fun _ hu=>by cases h;cases hu
 |t::ts,r,h=>fun u hu=>by
  simp only[aN] at h;cases e:bq l t with
  |none=>rw[e] at h;cases h
  |some s=>
   rw[e] at h;dsimp only at h;cases e2:aN l ts with
   |none=>rw[e2] at h;cases h
   |some q=>
    rw[e2] at h;cases h;rcases List.mem_cons.1 hu with rfl|hu
    ·exact⟨t,by simp,e⟩
    ·obtain⟨v,hv,hw⟩:=oW e2 u hu;exact⟨v,by simp[hv],hw⟩
theorem zI {fs:List au} {body:List aF} {env:List aD} (hr:∀f∈fs,kJ f) (h:jE (fun _=>fs) body env) {v s:ByteArray} (hg:dX env v=some s):isNamed (raw s)=true:=by
 obtain⟨_,_,h3,h4⟩:=h;have hk0:v∈bO env:=List.mem_map.2 ⟨_,rX hg,rfl⟩;obtain⟨k,hk,rfl⟩:=List.mem_map.1 ((h3 v).1 hk0);rcases(iA body).1 hk with hk|⟨a,ha,hno,t,ht,ht1,rfl⟩
 ·cases hk
 obtain⟨f,hf,hi⟩:=ji.1 h4 a ha;rw[hno] at hi;obtain⟨u,hu,hw⟩:=sQ (jo hf).2 t ht;unfold bq at hw;rw[if_pos ht1,hg] at hw;cases hw;exact(hr f (aZ.1 hi)).2.2 _ hu
theorem sS {a:aF} (h:aR a=0):isNamed a.name=true∧a.terms.length≤4∧∀t∈a.terms,bN t=false:=by
 unfold aR at h;split at h
 ·cases h
 ·rename_i h1;split at h
  ·cases h
  ·rename_i h2;split at h
   ·cases h
   ·rename_i h3;refine⟨by simpa using h1,by omega,fun t ht=> ?_⟩;cases e:bN t with
    |false=>rfl
    |true=>exact absurd (List.any_eq_true.2 ⟨t,ht,e⟩) h3
theorem qb {r:aA} {fs:List au} {env:List aD} {f:au} (hR:mg r) (hr:∀f∈fs,kJ f) (h:jE (fun _=>fs) r.body env) (hf:aV r.head env=some f):
  kJ f∧f.1=bs r.head.name∧f.2.length=r.head.terms.length:=by
 obtain⟨h1,h2⟩:=jo hf;obtain⟨h3,h4,h5⟩:=sS hR.head;have hl:=jY h2;refine⟨⟨by rw[h1,iD];exact h3,by omega,fun s hs=> ?_⟩,h1,hl⟩;obtain⟨t,ht,hw⟩:=oW h2 s hs;unfold bq at hw;split at hw
 ·exact zI hr h hw
 ·rename_i ht1;cases hw;have:=h5 t ht;unfold bN at this;rw[if_neg ht1] at this;rw[iD];simpa using this
structure GoodS (p:List aA) (L:List au):Prop where
 up:Up L
 right:∀f∈L,kJ f
 few:L.length≤200
 fit:∀f∈L,zH p f=true
theorem Dc {p:List aA} {f:au}:zH p f=true↔∀a∈gu p,bs a.name=f.1→a.terms.length=f.2.length:=by
 unfold zH gu;simp only[List.all_eq_true,Bool.or_eq_true,Bool.not_eq_true',decide_eq_false_iff_not,decide_eq_true_eq,List.mem_flatMap]
 constructor
 ·rintro h a ⟨r,hr,ha⟩ e;exact(h r hr a ha).resolve_left fun hn=>hn e
 ·intro h r hr a ha
  by_cases e:bs a.name=f.1
  ·exact Or.inr (h a ⟨r,hr,ha⟩ e)
  ·exact Or.inl e
theorem Df {p:List aA} (hp:cZ p) {r:aA} (hr:r∈p) {f:au} (h1:f.1=bs r.head.name) (h2:f.2.length=r.head.terms.length):zH p f=true:=
 Dc.2 fun a ha e=>by
  rw[h2];exact hp.even a ha r.head (List.mem_flatMap.2 ⟨r,hr,by simp⟩) (qO (e.trans h1))
theorem dJ {r:aA} (h:mg r):Covers r.body:=sN h.body
theorem jq {n:Int} {fs:List au} (σ:aA→Nat):∀{p:List aA} {acc S:List au},jk n fs p (p.map σ) acc=(0,S)→
  (∀r∈p,(σ r:Int)=n→∃x,gH r fs=some x∧∀f∈x,f∈S)∧(∀f∈acc,f∈S)∧(∀f∈S,f∈acc∨∃r∈p,(σ r:Int)=n∧∃x,gH r fs=some x∧f∈x)∧Up S∧((dK acc).length≤200→S.length≤200)
 |[],acc,S,h=>by
  simp only[jk,Prod.mk.injEq,true_and] at h;subst h;exact⟨fun _ h=>(by cases h),fun f hf=>cu.2 hf,fun f hf=>Or.inl (cu.1 hf),iI _,id⟩
 |r::p,acc,S,h=>by
  simp only[jk,List.map_cons] at h;split at h
  ·rename_i hs;split at h
   ·simp at h
   ·rename_i x hx;split at h
    ·simp at h
    ·rename_i hlen;obtain⟨h1,h2,h3,h4,h5⟩:=jq σ h;refine⟨fun q hq hqn=> ?_,fun f hf=>h2 f (by simp[hf]),fun f hf=> ?_,h4,fun _=>h5 (by omega)⟩
     ·rcases List.mem_cons.1 hq with rfl|hq
      ·exact⟨x,hx,fun f hf=>h2 f (by simp[hf])⟩
      ·exact h1 q hq hqn
     ·rcases h3 f hf with hf|⟨q,hq,hqn,y,hy,hf⟩
      ·rcases List.mem_append.1 hf with hf|hf
       ·exact Or.inl hf
       ·exact Or.inr ⟨r,by simp,hs,x,hx,hf⟩
      ·exact Or.inr ⟨q,by simp[hq],hqn,y,hy,hf⟩
  ·rename_i hs;obtain⟨h1,h2,h3,h4,h5⟩:=jq σ h;refine⟨fun q hq hqn=> ?_,h2,fun f hf=> ?_,h4,h5⟩
   ·rcases List.mem_cons.1 hq with rfl|hq
    ·exact absurd hqn hs
    ·exact h1 q hq hqn
   ·rcases h3 f hf with hf|⟨q,hq,hqn,y,hy,hf⟩
    ·exact Or.inl hf
    ·exact Or.inr ⟨q,by simp[hq],hqn,y,hy,hf⟩
theorem mh {p:List aA} (hp:cZ p) (σ:aA→Nat) {n:Int} {L S:List au} (hL:GoodS p L) (h:fu p (p.map σ) n L=(0,S)):GoodS p S∧∀f∈L,f∈S:=by
 obtain⟨h1,h2,h3,h4,h5⟩:=jq σ h;have key:∀f∈S,f∈L∨(kJ f∧zH p f=true):=fun f hf=>by
  rcases h3 f hf with hf|⟨r,hr,_,x,hx,hf⟩
  ·exact Or.inl hf
  ·obtain⟨env,he,jD⟩:=(jm (dJ (hp.rules r hr)) hx f).1 hf;obtain⟨a,b,c⟩:=qb (hp.rules r hr) hL.right he jD;exact Or.inr ⟨a,Df hp hr b c⟩
 refine⟨⟨h4,fun f hf=>(key f hf).elim (hL.right f) (·.1),h5 (by rw[zG hL.up];exact hL.few),fun f hf=>(key f hf).elim (hL.fit f) (·.2)⟩,h2⟩
inductive Walks (p:List aA) (ss:List Nat) (n:Int):List au→List au→Prop
 |stop {L:List au}:fu p ss n L=(0,L)→Walks p ss n L L
 |go {L L' M:List au}:fu p ss n L=(0,L')→Walks p ss n L' M→Walks p ss n L M
theorem vU {p:List aA} (hp:cZ p) (σ:aA→Nat) {n:Int}:∀(k:Nat) {L M:List au},GoodS p L→jl p (p.map σ) n k L=(0,M)→200<L.length+k→Walks p (p.map σ) n L M
 |0,L,M,hL,_,hk=>by have:=hL.few;omega
 |k+1,L,M,hL,h,hk=>by
  unfold jl at h;obtain⟨e,x,hx⟩:∃e x,fu p (p.map σ) n L=(e,x):=⟨_,_,rfl⟩;rw[hx] at h;dsimp only at h;split at h
  ·rename_i he;simp at h;exact absurd h.1 he
  ·rename_i he;have he:e=0:=by simpa using he
   subst he;obtain⟨g1,g2⟩:=mh hp σ hL hx;split at h
   ·rename_i hlen;have e:L=x:=BX hL.up g1.up g2 (by omega);simp at h;subst h;subst e;exact .stop hx
   ·rename_i hlen;have:=sO hL.up g2;exact .go hx (vU hp σ k g1 h (by omega))
theorem zJ {p:List aA} (hp:cZ p) (σ:aA→Nat) {n:Int} {P:List au→Prop} (hP:∀L L',GoodS p L→P L→fu p (p.map σ) n L=(0,L')→P L') {L M:List au} (h:Walks p (p.map σ) n L M):
  GoodS p L→P L→GoodS p M∧P M∧fu p (p.map σ) n M=(0,M)∧∀f∈L,f∈M:=by
 induction h with
 |stop h=>exact fun hL hPL=>⟨hL,hPL,h,fun _ h=>h⟩
 |go h _ ih=>
  intro hL hPL;obtain⟨g1,g2⟩:=mh hp σ hL h;obtain⟨a,b,c,d⟩:=ih g1 (hP _ _ hL hPL h);exact⟨a,b,c,fun f hf=>d f (g2 f hf)⟩
theorem Gc {p:List aA} (hp:cZ p) (σ:aA→Nat) {P:Nat→List au→Prop} (hP:∀(n:Nat) L M,GoodS p L→P n L→Walks p (p.map σ) n L M→P (n+1) M):
  ∀(c n:Nat) {L M:List au},GoodS p L→P n L→oV p (p.map σ) c n L=(0,M)→GoodS p M∧P (n+c) M∧∀f∈L,f∈M
 |0,n,L,M,hL,hPL,h=>by
  simp[oV] at h;subst h;exact⟨hL,hPL,fun _ h=>h⟩
 |c+1,n,L,M,hL,hPL,h=>by
  unfold oV at h;obtain⟨e,x,hx⟩:∃e x,jl p (p.map σ) n 201 L=(e,x):=⟨_,_,rfl⟩;rw[hx] at h;dsimp only at h;split at h
  ·rename_i he;simp at h;exact absurd h.1 he
  ·rename_i he;have he:e=0:=by simpa using he
   subst he;have hw:=vU hp σ 201 hL hx (by omega);obtain⟨g1,_,_,g2⟩:=zJ hp σ (P:=fun _=>True) (fun _ _ _ _ _=>trivial) hw hL trivial;obtain⟨a,b,d⟩:=Gc hp σ hP c (n+1) g1 (hP n L x hL hPL hw) h;exact⟨a,by rw[show n+(c+1)=n+1+c by omega];exact b,fun f hf=>d f (g2 f hf)⟩
structure Way (p:List aA) (τ:Bs→Nat) (l:List au) (n m:Nat) (L:List au):Prop where
 told:∀f∈l,f∈L
 of:∀f∈L,f∉l→∃r∈p,τ r.head.name<m∧f.1=bs r.head.name
 closed:∀r∈p,τ r.head.name<n→∀env f,jE (fun _=>L) r.body env→aV r.head env=some f→f∈L
 made:∀f∈L,f∉l→∃r∈p,τ r.head.name<m∧∃env,jE (fun _=>L) r.body env∧aV r.head env=some f
theorem Jy {p:List aA} (hp:cZ p) {τ:Bs→Nat} (hτ:Sol p τ) {l:List au} {n:Nat} {L L':List au} (hw:Way p τ l n (n+1) L) (h:fu p (p.map fun r=>τ r.head.name) n L=(0,L')):Way p τ l n (n+1) L':=by
 obtain⟨h1,h2,h3,h4,h5⟩:=jq (fun r=>τ r.head.name) h;have hnew:∀f∈L',f∈L∨∃r∈p,τ r.head.name=n∧∃env,jE (fun _=>L) r.body env∧aV r.head env=some f∧f.1=bs r.head.name:=fun f hf=>by
  rcases h3 f hf with hf|⟨r,hr,hn,x,hx,hf⟩
  ·exact Or.inl hf
  ·obtain⟨env,he,jD⟩:=(jm (dJ (hp.rules r hr)) hx f).1 hf;exact Or.inr ⟨r,hr,Int.ofNat.inj hn,env,he,jD,(jo jD).1⟩
 have hold:∀r∈p,∀a∈r.body,τ r.head.name<n+step a→∀f:au,f.1=bs a.name→f∈L'→f∈L:=fun r hr a ha hlt f hfn hf=>by
  rcases hnew f hf with hf|⟨q,hq,hqn,_,_,_,hqf⟩
  ·exact hf
  ·exfalso
   have e:a.name=q.head.name:=qO (hfn.symm.trans hqf);have:=hτ r hr a ha ⟨q,hq,e.symm⟩;rw[e] at this;omega
 have hfits:∀r∈p,τ r.head.name<n+1→∀env,jE (fun _=>L) r.body env→jE (fun _=>L') r.body env:=fun r hr hrn env he=>
  xZ (fun a _ _ f _ hf=>h2 f hf) (fun a ha hno f hfn hf=>hold r hr a ha (by simp only[step,hno,if_true];omega) f hfn hf) he
 refine⟨fun f hf=>h2 f (hw.told f hf),fun f hf hfl=> ?_,fun r hr hrn env f he jD=> ?_,fun f hf hfl=> ?_⟩
 ·rcases hnew f hf with hf|⟨q,hq,hqn,_,_,_,hqf⟩
  ·exact hw.of f hf hfl
  ·exact⟨q,hq,by omega,hqf⟩
 ·refine h2 f (hw.closed r hr hrn env f (xZ (fun a ha hno f hfn hf=>hold r hr a ha (by omega) f hfn hf) (fun a _ _ f _ hf=>h2 f hf) he) jD)
 ·rcases hnew f hf with hf|⟨q,hq,hqn,env,he,jD,_⟩
  ·obtain⟨r,hr,hrn,env,he,jD⟩:=hw.made f hf hfl;exact⟨r,hr,hrn,env,hfits r hr hrn env he,jD⟩
  ·exact⟨q,hq,by omega,env,hfits q hq (by omega) env he,jD⟩
theorem Gd {p:List aA} (hp:cZ p) {τ:Bs→Nat} (hτ:Sol p τ) {l:List au} {n:Nat} {L M:List au} (hL:GoodS p L) (hw:Way p τ l n n L) (h:Walks p (p.map fun r=>τ r.head.name) n L M):Way p τ l (n+1) (n+1) M:=by
 have h0:Way p τ l n (n+1) L:=⟨hw.told,fun f hf hn=>by obtain⟨r,hr,h1,h2⟩:=hw.of f hf hn;exact⟨r,hr,by omega,h2⟩,hw.closed,fun f hf hn=>by obtain⟨r,hr,h1,h2⟩:=hw.made f hf hn;exact⟨r,hr,by omega,h2⟩⟩;obtain⟨g,hm,hfix,_⟩:=zJ hp (fun r=>τ r.head.name) (P:=Way p τ l n (n+1)) (fun L L' _ hw ho=>Jy hp hτ hw ho) h hL h0;obtain⟨h1,_⟩:=jq (fun r=>τ r.head.name) hfix;refine⟨hm.told,hm.of,fun r hr hrn env f he jD=> ?_,hm.made⟩
 by_cases e:τ r.head.name<n
 ·exact hm.closed r hr e env f he jD
 ·have e2:τ r.head.name=n:=by omega
  obtain⟨x,hx,hxm⟩:=h1 r hr (by rw[e2]);exact hxm f ((jm (dJ (hp.rules r hr)) hx f).2 ⟨env,he,jD⟩)
theorem Gf {p:List aA} (hp:cZ p) {τ:Bs→Nat} (hτ:Sol p τ) {l m:List au} (hl:GoodS p l) (h:oV p (p.map fun r=>τ r.head.name) (countP (p.map fun r=>τ r.head.name)) 0 l=(0,m)):
  GoodS p m∧Way p τ l (countP (p.map fun r=>τ r.head.name)) (countP (p.map fun r=>τ r.head.name)) m:=by
 have h0:Way p τ l 0 0 l:=⟨fun _ h=>h,fun f hf hn=>absurd hf hn,fun r _ h=>by omega,fun f hf hn=>absurd hf hn⟩;obtain⟨a,b,_⟩:=Gc hp (fun r=>τ r.head.name) (P:=fun n=>Way p τ l n n) (fun n L M hL hw hW=>Gd hp hτ hL hw hW) _ 0 hl h0 h;exact⟨a,by rw[Nat.zero_add] at b;exact b⟩
theorem Gg {p:List aA} (hp:cZ p) {τ:Bs→Nat} (hτ:Sol p τ) {l m:List au} (hl:GoodS p l) (h:oV p (p.map fun r=>τ r.head.name) (countP (p.map fun r=>τ r.head.name)) 0 l=(0,m)):
  (∀f∈l,f∈m)∧∀r∈p,∀x,gH r m=some x→∀f∈x,f∈m:=by
 obtain⟨_,hw⟩:=Gf hp hτ hl h;refine⟨hw.told,fun r hr x hx f hf=> ?_⟩;obtain⟨env,he,jD⟩:=(jm (dJ (hp.rules r hr)) hx f).1 hf;exact hw.closed r hr (lZ (List.mem_map.2 ⟨r,hr,rfl⟩)) env f he jD
end Go.Proofs.YtafmbokfkbccaaaGreatDoor
namespace Go.Proofs.YtafmbokfkbccaaaGreatDoor
structure fG where
 known:List au
 fresh:List au
 level:Int
 rounds:Int
 done:Bool
def dZ:fG:=⟨[],[],0,0,false⟩
def vV (K N:List au) (r:aA):Nat→List aF→List au→Option (List au)
 |_,[],acc=>some acc
 |k,a::l,acc=>if a.no then vV K N r (k+1) l acc else
  match lX (gG K k N) r.body with
  |none=>none
  |some R=>vV K N r (k+1) l (acc++R.filterMap fun e=>aV r.head e)
def BA (K N:List au) (r:aA) (acc:List au):Option (List au):=if r.body.all (·.no) then
  match gH r K with
  |none=>none
  |some x=>some (acc++x)
 else vV K N r 0 r.body acc
def dV (K N:List au) (st:Int):List aA→List Nat→List au→Option (List au)
 |[],_,acc=>some acc
 |_::_,[],acc=>some acc
 |r::p,s::ss,acc=>if(s:Int)=st then
   match BA K N r acc with
   |none=>none
   |some acc'=>dV K N st p ss acc'
  else dV K N st p ss acc
def qd (K acc:List au):List au:=dK (acc.filter fun f=> !inB K f)
def iQ (p:List aA) (ss:List Nat) (r:fG):Int×fG:=if r.rounds=1000 then(5,dZ) else
 match dV r.known r.fresh r.level p ss [] with
 |none=>(4,dZ)
 |some acc=>if 200<(dK (r.known++acc)).length then(5,dZ) else
  if qd r.known acc=[] then(0,⟨dK (r.known++acc),dK (r.known++acc),r.level+1,r.rounds+1,decide (r.level+1=countP ss)⟩)
  else(0,⟨dK (r.known++acc),qd r.known acc,r.level,r.rounds+1,false⟩)
def eU (p:List aA) (ss:List Nat):Nat→fG→Int×fG
 |0,r=>(0,r)
 |n+1,r=>if r.done then(0,r) else if(iQ p ss r).1≠0 then((iQ p ss r).1,dZ) else eU p ss n (iQ p ss r).2
theorem mo {K acc:List au} {f:au}:f∈qd K acc↔f∈acc∧f∉K:=by
 unfold qd;rw[cu,List.mem_filter]
 constructor
 ·rintro⟨h1,h2⟩;exact⟨h1,fun h=>by rw[aZ.2 h] at h2;cases h2⟩
 ·rintro⟨h1,h2⟩;refine⟨h1,?_⟩;cases h:inB K f
  ·rfl
  ·exact absurd (aZ.1 h) h2
def Makes (K N:List au) (r:aA) (f:au):Prop:=(r.body.all (·.no)=true∧∃env,jE (fun _=>K) r.body env∧aV r.head env=some f)∨
 (¬r.body.all (·.no)=true∧∃i a env,r.body[i]?=some a∧a.no=false∧jE (gG K (i:Nat) N) r.body env∧aV r.head env=some f)
theorem at_mem {K N:List au} {r:aA}:∀{l:List aF} {k:Nat} {acc S:List au},vV K N r k l acc=some S→∀f,f∈S↔f∈acc∨∃i a,l[i]?=some a∧a.no=false∧∃R,lX (gG K ((k+i:Nat):Int) N) r.body=some R∧∃e∈R,aV r.head e=some f
 |[],k,acc,S,h,f=>by
  simp only[vV,Option.some.injEq] at h;subst h;refine⟨Or.inl,fun h=>h.elim id ?_⟩;rintro⟨i,a,h,_⟩;simp at h
 |a::l,k,acc,S,h,f=>by
  unfold vV at h;split at h
  ·rename_i hn;rw[at_mem h f]
   constructor
   ·rintro(h|⟨i,b,h1,h2,h3⟩)
    ·exact Or.inl h
    ·exact Or.inr ⟨i+1,b,by simpa using h1,h2,by rw[show k+(i+1)=k+1+i by omega];exact h3⟩
   ·rintro(h|⟨i,b,h1,h2,h3⟩)
    ·exact Or.inl h
    ·cases i with
     |zero=>simp at h1;subst h1;rw[hn] at h2;cases h2
     |succ i=>exact Or.inr ⟨i,b,by simpa using h1,h2,by rw[show k+1+i=k+(i+1) by omega];exact h3⟩
  ·rename_i hn;split at h
   ·cases h
   ·rename_i R hR;rw[at_mem h f,List.mem_append]
    constructor
    ·rintro((h|h)|⟨i,b,h1,h2,h3⟩)
     ·exact Or.inl h
     ·obtain⟨e,he,hf⟩:=List.mem_filterMap.1 h;exact Or.inr ⟨0,a,rfl,by simpa using hn,R,hR,e,he,hf⟩
     ·exact Or.inr ⟨i+1,b,by simpa using h1,h2,by rw[show k+(i+1)=k+1+i by omega];exact h3⟩
    ·rintro(h|⟨i,b,h1,h2,h3⟩)
     ·exact Or.inl (Or.inl h)
     ·cases i with
      |zero=>
       obtain⟨R',hR',e,he,hf⟩:=h3;have:R=R':=Option.some.inj (hR.symm.trans hR');subst this;exact Or.inl (Or.inr (List.mem_filterMap.2 ⟨e,he,hf⟩))
      |succ i=>exact Or.inr ⟨i,b,by simpa using h1,h2,by rw[show k+1+i=k+(i+1) by omega];exact h3⟩
theorem BZ {K N:List au} {r:aA}:∀{l:List aF} {k:Nat} {acc S:List au},vV K N r k l acc=some S→∀i a,l[i]?=some a→a.no=false→∃R,lX (gG K ((k+i:Nat):Int) N) r.body=some R
 |[],k,acc,S,h,i,a,hi,_=>by simp at hi
 |a::l,k,acc,S,h,i,b,hi,hb=>by
  unfold vV at h;split at h
  ·rename_i hn;cases i with
   |zero=>simp at hi;subst hi;rw[hn] at hb;cases hb
   |succ i=>rw[show k+(i+1)=k+1+i by omega];exact BZ h i b (by simpa using hi) hb
  ·split at h
   ·cases h
   ·rename_i R hR;cases i with
    |zero=>exact⟨R,hR⟩
    |succ i=>rw[show k+(i+1)=k+1+i by omega];exact BZ h i b (by simpa using hi) hb
theorem LK {K N:List au} {r:aA} (hr:mg r) {acc S:List au} (h:BA K N r acc=some S) (f:au):f∈S↔f∈acc∨Makes K N r f:=by
 have hc:=dJ hr;unfold BA at h;split at h
 ·rename_i hno;split at h
  ·cases h
  ·rename_i x hx;simp only[Option.some.injEq] at h;subst h;rw[List.mem_append,jm hc hx]
   constructor
   ·rintro(h|h)
    ·exact Or.inl h
    ·exact Or.inr (Or.inl ⟨hno,h⟩)
   ·rintro(h|⟨_,h⟩|⟨h,_⟩)
    ·exact Or.inl h
    ·exact Or.inr h
    ·exact absurd hno h
 ·rename_i hno;rw[at_mem h f]
  constructor
  ·rintro(h1|⟨i,a,h1,h2,R,h3,e,h4,h5⟩)
   ·exact Or.inl h1
   ·rw[Nat.zero_add] at h3;exact Or.inr (Or.inr ⟨hno,i,a,e,h1,h2,(nT hc h3 e).1 h4,h5⟩)
  ·rintro(h1|⟨h1,_⟩|⟨_,i,a,e,h1,h2,h3,h4⟩)
   ·exact Or.inl h1
   ·exact absurd h1 hno
   ·obtain⟨R,hR⟩:=BZ h i a h1 h2;refine Or.inr ⟨i,a,h1,h2,R,hR,e,(nT hc hR e).2 ?_,h4⟩;rw[Nat.zero_add];exact h3
theorem mq {K N:List au} {st:Int} (σ:aA→Nat):∀{p:List aA} {acc S:List au},(∀r∈p,mg r)→dV K N st p (p.map σ) acc=some S→∀f,f∈S↔f∈acc∨∃r∈p,(σ r:Int)=st∧Makes K N r f
 |[],acc,S,_,h,f=>by
  simp only[dV,Option.some.injEq] at h;subst h;simp
 |r::p,acc,S,hp,h,f=>by
  simp only[dV,List.map_cons] at h;split at h
  ·rename_i hs;split at h
   ·cases h
   ·rename_i acc' ha;rw[mq σ (fun q hq=>hp q (by simp[hq])) h f,LK (hp r (by simp)) ha];simp only[List.mem_cons,exists_eq_or_imp]
    constructor
    ·rintro((h|h)|h)
     ·exact Or.inl h
     ·exact Or.inr (Or.inl ⟨hs,h⟩)
     ·exact Or.inr (Or.inr h)
    ·rintro(h|⟨_,h⟩|h)
     ·exact Or.inl (Or.inl h)
     ·exact Or.inl (Or.inr h)
     ·exact Or.inr h
  ·rename_i hs;rw[mq σ (fun q hq=>hp q (by simp[hq])) h f];simp only[List.mem_cons,exists_eq_or_imp]
   constructor
   ·rintro(h|h)
    ·exact Or.inl h
    ·exact Or.inr (Or.inr h)
   ·rintro(h|⟨h,_⟩|h)
    ·exact Or.inl h
    ·exact absurd h hs
    ·exact Or.inr h
theorem Gh {K N:List au} {body:List aF} {env:List aD} (hs:∀f∈N,f∈K) {i:Nat} {a:aF} (hi:body[i]?=some a) (ha:a.no=false) (h:jE (gG K (i:Nat) N) body env):jE (fun _=>K) body env:=by
 refine⟨h.1,h.2.1,h.2.2.1,fun j b hj=> ?_⟩;obtain⟨f,hf,hb⟩:=h.2.2.2 j b hj;refine⟨f,hf,?_⟩;unfold gG at hb;split at hb
 ·rename_i e;have e:j=i:=by omega
  subst e;rw[hi] at hj;cases hj;rw[ha] at hb⊢;exact aZ.2 (hs f (aZ.1 hb))
 ·exact hb
theorem Jz {K N:List au} {body:List aF} {env:List aD} {i:Nat} {a:aF} (hi:body[i]?=some a) (ha:a.no=false) (h:jE (fun _=>K) body env) {g:au} (hg:aV a env=some g) (hN:g∈N):jE (gG K (i:Nat) N) body env:=by
 refine⟨h.1,h.2.1,h.2.2.1,fun j b hj=> ?_⟩;obtain⟨f,hf,hb⟩:=h.2.2.2 j b hj;refine⟨f,hf,?_⟩;unfold gG;split
 ·rename_i e;have e:j=i:=by omega
  subst e;rw[hi] at hj;cases hj;rw[hg] at hf;cases hf;rw[ha,aZ.2 hN];rfl
 ·exact hb
theorem vW {K N:List au} {r:aA} {f:au} (hs:∀f∈N,f∈K) (h:Makes K N r f):∃env,jE (fun _=>K) r.body env∧aV r.head env=some f:=by
 rcases h with⟨_,h⟩|⟨_,i,a,env,h1,h2,h3,h4⟩
 ·exact h
 ·exact⟨env,Gh hs h1 h2 h3,h4⟩
def Semi (K N:List au) (r:aA):Prop:=∀env f,jE (fun _=>K) r.body env→aV r.head env=some f→f∈K∨Makes K N r f
theorem zK {K N:List au} {r:aA} {env:List aD} {f:au} (hf:jE (fun _=>K) r.body env) (hh:aV r.head env=some f) (h:∃a∈r.body,a.no=false∧∃g,aV a env=some g∧g∈N):Makes K N r f:=by
 obtain⟨a,ha,hn,g,hg,hN⟩:=h;obtain⟨i,hi⟩:=List.getElem?_of_mem ha;refine Or.inr ⟨fun hall=> ?_,i,a,env,hi,hn,Jz hi hn hf hg hN,hh⟩;have:=List.all_eq_true.1 hall a ha;rw[hn] at this;cases this
theorem Dg (K:List au) (r:aA):Semi K K r:=fun env f hf hh=>by
 by_cases h:r.body.all (·.no)=true
 ·exact Or.inr (Or.inl ⟨h,env,hf,hh⟩)
 ·refine Or.inr ?_;obtain⟨a,ha,hn⟩:∃a∈r.body,a.no=false:=by
   refine Classical.byContradiction fun hx=>h (List.all_eq_true.2 fun a ha=> ?_);cases e:a.no
   ·exact absurd ⟨a,ha,e⟩ hx
   ·rfl
  obtain⟨i,hi⟩:=List.getElem?_of_mem ha;obtain⟨g,hg,hb⟩:=hf.2.2.2 i a hi;rw[hn] at hb;exact zK hf hh ⟨a,ha,hn,g,hg,aZ.1 hb⟩
theorem Gi {K N K':List au} {r:aA} (hK:∀f∈K,f∈K') (hs:Semi K N r) (hm:∀f,Makes K N r f→f∈K') {N':List au} (hN:∀f∈K',f∉K→f∈N'):Semi K' N' r:=fun env f hf hh=>by
 by_cases h:∃a∈r.body,a.no=false∧∃g,aV a env=some g∧g∈N'
 ·exact Or.inr (zK hf hh h)
 ·have hfK:jE (fun _=>K) r.body env:=by
   refine⟨hf.1,hf.2.1,hf.2.2.1,fun j b hj=> ?_⟩;obtain⟨g,hg,hb⟩:=hf.2.2.2 j b hj;refine⟨g,hg,?_⟩;have hbm:=lY hj;cases hn:b.no
   ·rw[hn] at hb;have Vi:=aZ.1 hb
    by_cases hgK:g∈K
    ·rw[aZ.2 hgK];rfl
    ·exact absurd ⟨b,hbm,hn,g,hg,hN g Vi hgK⟩ h
   ·rw[hn] at hb;cases hi:inB K g
    ·rfl
    ·have:=aZ.2 (hK g (aZ.1 hi));rw[this] at hb;cases hb
  rcases hs env f hfK hh with h1|h1
  ·exact Or.inl (hK f h1)
  ·exact Or.inl (hm f h1)
structure jQ (p:List aA) (c:Nat) (r:fG):Prop where
 good:GoodS p r.known
 up:Up r.fresh
 sub:∀f∈r.fresh,f∈r.known
 lev:0≤r.level∧r.level≤c
 rnd:0≤r.rounds∧r.rounds≤1000
 done:r.done=decide (r.level=c)
theorem sU {p:List aA} {c:Nat} {l:List au} (h:GoodS p l):jQ p c ⟨l,l,0,0,decide (c=0)⟩:=
 ⟨h,h.up,fun _ h=>h,⟨Int.le_refl _,by simp⟩,⟨Int.le_refl _,by simp⟩,by
  simp only[decide_eq_decide];omega⟩
theorem Ee {p:List aA} (hp:cZ p) (σ:aA→Nat) {K N:List au} {st:Int} (hK:GoodS p K) (hN:∀f∈N,f∈K) {M:List au} (h:dV K N st p (p.map σ) []=some M):∀f∈M,kJ f∧zH p f=true:=fun f hf=>by
 rcases(mq σ hp.rules h f).1 hf with h1|⟨r,hr,_,hm⟩
 ·cases h1
 ·obtain⟨env,he,hh⟩:=vW hN hm;obtain⟨a,b,c⟩:=qb (hp.rules r hr) hK.right he hh;exact⟨a,Df hp hr b c⟩
theorem Ef {p:List aA} {K M:List au} (hK:GoodS p K) (hM:∀f∈M,kJ f∧zH p f=true) (hl:(dK (K++M)).length≤200):GoodS p (dK (K++M)):=by
 have key:∀f∈dK (K++M),kJ f∧zH p f=true:=fun f hf=>by
  rcases List.mem_append.1 (cu.1 hf) with h|h
  ·exact⟨hK.right f h,hK.fit f h⟩
  ·exact hM f h
 exact⟨iI _,fun f hf=>(key f hf).1,hl,fun f hf=>(key f hf).2⟩
theorem Ca {K M:List au} (hK:Up K):qd K M=[]↔dK (K++M)=K:=by
 constructor
 ·intro h;refine(p8 hK fun f=> ?_).symm;rw[List.mem_append];refine⟨Or.inl,fun h1=>h1.elim id fun h1=>Classical.byContradiction fun hn=> ?_⟩;have:=mo.2 ⟨h1,hn⟩;rw[h] at this;cases this
 ·intro h;refine List.eq_nil_iff_forall_not_mem.2 fun f hf=> ?_;obtain⟨h1,h2⟩:=mo.1 hf;exact h2 (h▸cu.2 (List.mem_append.2 (Or.inr h1)))
theorem sF {p:List aA} {ss:List Nat} {r x:fG} (h:iQ p ss r=(0,x)):r.rounds≠1000∧∃M,dV r.known r.fresh r.level p ss []=some M∧(dK (r.known++M)).length≤200∧
  ((qd r.known M=[]∧x=⟨dK (r.known++M),dK (r.known++M),r.level+1,r.rounds+1,decide (r.level+1=countP ss)⟩)∨(qd r.known M≠[]∧x=⟨dK (r.known++M),qd r.known M,r.level,r.rounds+1,false⟩)):=by
 unfold iQ at h;split at h
 ·simp at h
 ·rename_i hr;split at h
  ·simp at h
  ·rename_i M hM;split at h
   ·simp at h
   ·rename_i hl;split at h
    ·rename_i hn;simp only[Prod.mk.injEq,true_and] at h;exact⟨hr,M,hM,by omega,Or.inl ⟨hn,h.symm⟩⟩
    ·rename_i hn;simp only[Prod.mk.injEq,true_and] at h;exact⟨hr,M,hM,by omega,Or.inr ⟨hn,h.symm⟩⟩
theorem qg {p:List aA} (hp:cZ p) (σ:aA→Nat) {r x:fG} (hr:jQ p (countP (p.map σ)) r) (hd:r.done=false) (h:iQ p (p.map σ) r=(0,x)):
  jQ p (countP (p.map σ)) x∧(∀f∈r.known,f∈x.known)∧x.rounds=r.rounds+1∧((x.level=r.level∧r.known.length<x.known.length)∨(x.level=r.level+1∧x.known=r.known)):=by
 obtain⟨h0,M,hM,hl,hx⟩:=sF h;have hg:=Ef hr.good (Ee hp σ hr.good hr.sub hM) hl;have hsub:∀f∈r.known,f∈dK (r.known++M):=fun f hf=>cu.2 (List.mem_append.2 (Or.inl hf));have hdn:=hr.done;rw[hd] at hdn;have hdn:r.level≠countP (p.map σ):=by simpa using hdn.symm
 have QT:=hr.lev;have hrnd:=hr.rnd;rcases hx with⟨hn,rfl⟩|⟨hn,rfl⟩
 ·refine⟨⟨hg,iI _,fun _ h=>h,⟨?_,?_⟩,⟨?_,?_⟩,rfl⟩,hsub,rfl,Or.inr ⟨rfl,(Ca hr.good.up).1 hn⟩⟩ <;> dsimp only <;> omega
 ·refine⟨⟨hg,iI _,fun f hf=>cu.2 (List.mem_append.2 (Or.inr (mo.1 hf).1)),⟨?_,?_⟩,⟨?_,?_⟩,?_⟩,hsub,rfl,Or.inl ⟨rfl,?_⟩⟩
  ·dsimp only;omega
  ·dsimp only;omega
  ·dsimp only;omega
  ·dsimp only;omega
  ·simp[hdn]
  ·have h1:=sO hr.good.up hsub;refine Classical.byContradiction fun h2=>hn ((Ca hr.good.up).2 (BX hr.good.up (iI _) hsub (by dsimp only at h2;omega)).symm)
theorem mW {p:List aA} {ss:List Nat} {r:fG} (h:r.done=true):∀n,eU p ss n r=(0,r)
 |0=>rfl
 |n+1=>by unfold eU;rw[if_pos h]
theorem qh {p:List aA} {ss:List Nat} {r:fG} (h:r.done=false) (n:Nat):eU p ss (n+1) r=if(iQ p ss r).1≠0 then((iQ p ss r).1,dZ) else eU p ss n (iQ p ss r).2:=by
 rw[eU,if_neg (by simp[h])]
theorem zL {p:List aA} {ss:List Nat}:∀(n m:Nat) (r:fG),(eU p ss n r).1=0→eU p ss (n+m) r=eU p ss m (eU p ss n r).2
 |0,m,r,_=>by rw[Nat.zero_add];rfl
 |n+1,m,r,h=>by
  rw[show n+1+m=n+m+1 by omega]
  by_cases hd:r.done=true
  ·rw[mW hd,mW hd,mW hd]
  ·have hd:r.done=false:=by simpa using hd
   rw[qh hd] at h⊢;rw[qh hd];split
   ·rename_i he;rw[if_pos he] at h;exact absurd h he
   ·rename_i he;rw[if_neg he] at h;exact zL n m _ h
theorem lq {p:List aA} (hp:cZ p) (σ:aA→Nat):∀(n:Nat) {r x:fG},jQ p (countP (p.map σ)) r→eU p (p.map σ) n r=(0,x)→jQ p (countP (p.map σ)) x
 |0,r,x,hr,h=>by simp[eU] at h;subst h;exact hr
 |n+1,r,x,hr,h=>by
  unfold eU at h;split at h
  ·simp at h;subst h;exact hr
  ·rename_i hd;split at h
   ·rename_i he;simp at h;exact absurd h.1 he
   ·rename_i he;have hn:iQ p (p.map σ) r=(0,(iQ p (p.map σ) r).2):=by rw[←Classical.byContradiction fun h:¬(iQ p (p.map σ) r).1=0=>he h]
    exact lq hp σ n (qg hp σ hr (by simpa using hd) hn).1 h
end Go.Proofs.YtafmbokfkbccaaaGreatDoor
namespace Go.Proofs.YtafmbokfkbccaaaGreatDoor
def oZ (b:Bool):UInt8:=if b then 1 else 0
def qj (s:ByteArray):Bs:=UInt8.ofNat s.size::raw s
def qm (f:au):Bs:=qj f.1++(UInt8.ofNat f.2.length::f.2.flatMap qj)
def Eh (r:fG):Bs:=[UInt8.ofNat r.level.toNat,UInt8.ofNat (r.rounds.toNat/256),UInt8.ofNat (r.rounds.toNat%256),oZ r.done,UInt8.ofNat r.known.length]
def vk (r:fG):Bs:=Eh r++r.known.flatMap qm++r.known.map fun f=>oZ (inB r.fresh f)
abbrev RdS:=Bs×Bool
def mD (n:Nat) (s:RdS):Bs×RdS:=if s.1.length<n then([],([],true)) else(s.1.take n,(s.1.drop n,s.2))
def nU (s:RdS):Nat×RdS:=(((mD 1 s).1.headD 0).toNat,(mD 1 s).2)
def ny (s:RdS):ByteArray×RdS:=(bs (mD (nU s).1 (nU s).2).1,(mD (nU s).1 (nU s).2).2)
def lM (s:RdS):Bool×RdS:=(decide ((nU s).1=1),((nU s).2.1,(nU s).2.2||decide (1<(nU s).1)))
def iF:Nat→RdS→List ByteArray×RdS
 |0,s=>([],s)
 |n+1,s=>((ny s).1::(iF n (ny s).2).1,(iF n (ny s).2).2)
def rE (s:RdS):au×RdS:=(((ny s).1,(iF (nU (ny s).2).1 (nU (ny s).2).2).1),(iF (nU (ny s).2).1 (nU (ny s).2).2).2)
def gV:Nat→RdS→List au×RdS
 |0,s=>([],s)
 |n+1,s=>((rE s).1::(gV n (rE s).2).1,(gV n (rE s).2).2)
def iR:List au→RdS→List au×RdS
 |[],s=>([],s)
 |f::l,s=>(if(lM s).1 then f::(iR l (lM s).2).1 else(iR l (lM s).2).1,(iR l (lM s).2).2)
def Cb (s:RdS):(Nat×Nat×Nat×Bool×Nat)×RdS:=
 let a:=nU s;let b:=nU a.2;let c:=nU b.2;let d:=lM c.2;let e:=nU d.2
 ((a.1,b.1,c.1,d.1,e.1),e.2)
def BD (s:RdS):fG×RdS:=
 let h:=Cb s;let k:=gV h.1.2.2.2.2 h.2;let n:=iR k.1 k.2
 (⟨k.1,n.1,h.1.1,256*h.1.2.1+h.1.2.2.1,h.1.2.2.2.1⟩,n.2)
def lN (b:Bs):fG×Bool:=((BD (b,false)).1,!(BD (b,false)).2.2&&decide ((BD (b,false)).2.1=[]))
theorem zM {n:Nat} {t l:Bs} {a:Bool} (h:t.length=n):mD n (t++l,a)=(t,(l,a)):=by
 subst h;unfold mD;rw[if_neg (by simp),List.take_left,List.drop_left]
theorem o8 (c:UInt8) (l:Bs) (a:Bool):nU (c::l,a)=(c.toNat,(l,a)):=by
 unfold nU;rw[show((c::l,a):RdS)=([c]++l,a) from rfl,zM (n:=1) rfl];rfl
theorem ofNat_toNat {n:Nat} (h:n<256):(UInt8.ofNat n).toNat=n:=by simp;omega
theorem zN {t:ByteArray} {l:Bs} {a:Bool} (h:t.size<256):ny (qj t++l,a)=(t,(l,a)):=by
 unfold ny;rw[qj,List.cons_append,o8];simp only;rw[ofNat_toNat h,zM (aP t),jW]
theorem vX (b:Bool) (l:Bs) (a:Bool):lM (oZ b::l,a)=(b,(l,a)):=by
 unfold lM;rw[o8];cases b <;> cases a <;> rfl
theorem vY:∀{ts:List ByteArray} {l:Bs} {a:Bool},(∀t∈ts,t.size<256)→iF ts.length (ts.flatMap qj++l,a)=(ts,(l,a))
 |[],l,a,_=>rfl
 |t::ts,l,a,h=>by
  rw[List.flatMap_cons,List.append_assoc,List.length_cons,iF,zN (h t (by simp)),vY fun t ht=>h t (by simp[ht])]
def zO (f:au):Prop:=f.1.size<256∧f.2.length<256∧∀t∈f.2,t.size<256
theorem Gj {f:au} {l:Bs} {a:Bool} (h:zO f):rE (qm f++l,a)=(f,(l,a)):=by
 unfold rE qm;rw[List.append_assoc,zN h.1,List.cons_append];simp only;rw[o8];simp only;rw[ofNat_toNat h.2.1,vY h.2.2]
theorem vZ:∀{fs:List au} {l:Bs} {a:Bool},(∀f∈fs,zO f)→gV fs.length (fs.flatMap qm++l,a)=(fs,(l,a))
 |[],l,a,_=>rfl
 |t::ts,l,a,h=>by
  rw[List.flatMap_cons,List.append_assoc,List.length_cons,gV,Gj (h t (by simp)),vZ fun t ht=>h t (by simp[ht])]
theorem zP (N:List au):∀{fs:List au} {l:Bs} {a:Bool},iR fs (fs.map (fun f=>oZ (inB N f))++l,a)=(fs.filter (inB N),(l,a))
 |[],l,a=>rfl
 |t::ts,l,a=>by
  rw[List.map_cons,List.cons_append,iR,vX];simp only;rw[zP N,List.filter_cons]
structure Cc (r:fG):Prop where
 Vj:0≤r.level
 lev:r.level<256
 Vk:0≤r.rounds
 rou:r.rounds<65536
 few:r.known.length<256
 facts:∀f∈r.known,zO f
 fresh:r.fresh=r.known.filter (inB r.fresh)
theorem JA {r:fG} (h:Cc r):BD (vk r,false)=(r,([],false)):=by
 obtain⟨h1,h2,h3,h4,h5,h6,h7⟩:=h;have e:Cb (vk r,false)=((r.level.toNat,r.rounds.toNat/256,r.rounds.toNat%256,r.done,r.known.length),(r.known.flatMap qm++(r.known.map (fun f=>oZ (inB r.fresh f))++[]),false)):=by
  unfold Cb vk Eh;simp only[List.cons_append,List.nil_append,List.append_nil];simp only[o8,vX];rw[ofNat_toNat (by omega),ofNat_toNat (by omega),ofNat_toNat (by omega),ofNat_toNat h5]
 unfold BD;rw[e];simp only;rw[vZ h6];simp only;rw[zP,←h7];obtain⟨k,n,lv,ro,dn⟩:=r;simp only[Prod.mk.injEq,fG.mk.injEq,true_and,and_true] at*;omega
theorem zQ {r:fG} (h:Cc r):lN (vk r)=(r,true):=by
 unfold lN;rw[JA h];rfl
end Go.Proofs.YtafmbokfkbccaaaGreatDoor
namespace Go.Proofs.YtafmbokfkbccaaaGreatDoor
open Go.RowKit Go.Sort
theorem Gl:∃i,Tryz.prog.info? 5=some i∧i.zero=some (.int .u8 0)∧i.size=1∧i.bytes=1:=⟨Tryz.t5,by kernel_rfl,by kernel_rfl,by kernel_rfl,by kernel_rfl⟩
def kK (l:Bs):List Value:=l.map fun b=>.int .u8 (b.toNat:Int)
theorem wh (l:Bs):(kK l).length=l.length:=List.length_map _
theorem o9 (l m:Bs):kK (l++m)=kK l++kK m:=List.map_append
theorem Ei (s:ByteArray):Lib.strCells s=kK (raw s):=rfl
def jA (lo:Nat) (w:World) (v:Value) (l:Bs):Prop:=w.ownsRow lo 5 1 v l.length (kK l)
theorem jA.lt {lo:Nat} {w:World} {v:Value} {l:Bs} (h:jA lo w v l) {k:Nat} (hk:v.ownBlock=some k):lo≤k∧k<w.heap.size:=World.ownsRow.lt h k hk
theorem jA.slice {lo:Nat} {w:World} {v:Value} {l:Bs} (h:jA lo w v l):∃a cap,v=.slice a l.length cap:=by
 rcases h.2 with⟨rfl,e⟩|⟨g,cap,cur,rfl,_⟩
 ·exact⟨none,0,by rw[e]⟩
 ·exact⟨_,cap,rfl⟩
theorem jA.slice3 {lo:Nat} {w:World} {v:Value} {l:Bs} (h:jA lo w v l):∃a n cap,v=.slice a n cap:=by
 obtain⟨a,cap,e⟩:=h.slice;exact⟨a,_,cap,e⟩
theorem jA.stay {lo:Nat} {w w':World} {v:Value} {l:Bs} (h:jA lo w v l) (hk:∀k,k<w.heap.size→lo≤k→w'.heap[k]?=w.heap[k]?):jA lo w' v l:=by
 refine⟨h.1,?_⟩;rcases h.2 with e|⟨g,cap,cur,rfl,hbg,hg,r⟩
 ·exact Or.inl e
 ·exact Or.inr ⟨g,cap,cur,rfl,hbg,by rw[hk g (Array.getElem?_eq_some_iff.1 hg).1 hbg];exact hg,r⟩
theorem jA.later {lo:Nat} {w w':World} {v:Value} {l:Bs} (h:jA lo w v l) (k:Later w w'):jA lo w' v l:=h.stay fun _ hi _=>k.block hi
structure Gro (v:Value) (w:World) (v':Value) (w':World):Prop where
 os:w'.os=w.os
 tape:w'.tape=w.tape
 output:w'.output=w.output
 size:w.heap.size≤w'.heap.size
 block:∀k,k<w.heap.size→v.ownBlock≠some k→w'.heap[k]?=w.heap[k]?
 own:∀k,v'.ownBlock=some k→v.ownBlock=some k∨w.heap.size≤k
theorem Gro.refl (v:Value) (w:World):Gro v w v w:=⟨rfl,rfl,rfl,Nat.le_refl _,fun _ _ _=>rfl,fun _ h=>Or.inl h⟩
theorem Gro.trans {v v1 v2:Value} {w w1 w2:World} (h:Gro v w v1 w1) (k:Gro v1 w1 v2 w2):Gro v w v2 w2:=
 ⟨k.os.trans h.os,k.tape.trans h.tape,k.output.trans h.output,Nat.le_trans h.size k.size,
  fun i hi hv=>(k.block i (Nat.lt_of_lt_of_le hi h.size) fun e=>by rcases h.own i e with e|e;exact hv e;omega).trans (h.block i hi hv),
  fun i hi=>by
   rcases k.own i hi with e|e
   ·exact h.own i e
   ·exact Or.inr (Nat.le_trans h.size e)⟩
theorem Gro.of_later {v:Value} {w w':World} (h:Later w w'):Gro v w v w':=⟨h.below.os,h.below.tape,h.below.output,h.size,fun _ hi _=>h.block hi,fun _ e=>Or.inl e⟩
theorem Gro.of_below {v:Value} {w w':World} (h:Below w.heap.size w w'):Gro v w v w':=⟨h.os,h.tape,h.output,h.size,fun k hi _=>h.block k hi,fun _ e=>Or.inl e⟩
theorem Gro.below {lo:Nat} {v v':Value} {w w':World} (h:Gro v w v' w') (hlo:lo≤w.heap.size) (hv:∀k,v.ownBlock=some k→lo≤k):Below lo w w':=
 ⟨h.os,h.tape,h.output,h.size,fun k hk=>h.block k (by omega) fun e=>by have:=hv k e;omega⟩
theorem qo {lo:Nat} {w:World} {v:Value} {l:Bs} (h:jA lo w v l) {x:UInt8} {n:Int} (hx:(x.toNat:Int)=n) (hl:l.length+1≤1099511627776) (hlo:lo≤w.heap.size):
  ∃v' w',(Builtin.append_ #[48,48] 48 #[v,.slice (some ⟨w.heap.size,0,none⟩) 1 1]).run Tryz.prog (w.alloc (.cells #[.int .u8 n] 5))=.ok v' w'∧jA lo w' v' (l++[x])∧Gro v w v' w':=by
 subst hx;obtain⟨i,i1,i2,i3,i4⟩:=Gl;obtain⟨v',w',hrun,r1,r2,_,r4⟩:=dY (P:=Tryz.prog) (w.alloc (.cells #[.int .u8 (x.toNat:Int)] 5)) lo 48 48 5 i _ 1 1 Tryz.underlying48 i1 i2 i3 i4 rfl Nat.one_pos v l.length (kK l) (World.ownsRow.alloc h _) ⟨w.heap.size,0,none⟩ 1 1 [.int .u8 (x.toNat:Int)] rfl
  (fun j u hu=>by
   rw[Addr.add_lit,Nat.zero_add,cell_of_row _ w.heap.size j _ _ _ (heap_alloc_new w _)];simpa using hu)
  (fun u hu=>by simp at hu;subst hu;rfl) (by simp only[maxLen];omega) (by omega) (by simp;omega)
 refine⟨v',w',hrun,?_,?_⟩
 ·unfold jA;rw[o9,List.length_append];exact r1
 ·exact⟨r2.os,r2.tape,r2.output,Nat.le_trans (by simp) r2.size,fun k hk hv=>(r2.block k (by simp;omega) (fun e=>hv e.symm)).trans (Below.heap_alloc w _ k hk),
   fun k e=>(r4 k e).imp id fun h=>by simp at h;omega⟩
theorem appendText {lo:Nat} {w:World} {v:Value} {l:Bs} (h:jA lo w v l) (s:ByteArray) (hl:l.length+s.size≤1099511627776) (hlo:lo≤w.heap.size):
  ∃v' w',(Builtin.append_ #[48,9] 48 #[v,.string s]).run Tryz.prog w=.ok v' w'∧jA lo w' v' (l++raw s)∧Gro v w v' w':=by
 obtain⟨i,i1,i2,i3,i4⟩:=Gl;obtain⟨v',w',hrun,r1,r2,_⟩:=Lib.run_append_own_string (P:=Tryz.prog) w lo 48 9 48 5 i Tryz.underlying48 Tryz.underlying9 i1 i2 i3 i4 v l.length (kK l) h s (by simp only[maxLen];omega) (by omega) hlo;refine⟨v',w',hrun,?_,?_⟩
 ·unfold jA;rw[o9,List.length_append,aP,←Ei];exact r1
 ·refine⟨r2.os,r2.tape,r2.output,r2.size,fun k hk hv=>r2.block k hk (fun e=>hv e.symm),fun k e=> ?_⟩;have hxl:(kK l).length=l.length:=wh l;rcases h.2 with⟨rfl,h0⟩|⟨g,cap,cur,rfl,hbg,hg,hnc,hcm,hcs,htake⟩
  ·have hx:kK l=[]:=List.eq_nil_of_length_eq_zero (by rw[wh];exact h0);obtain⟨v2,w2,N7,q1,_⟩:=Lib.run_append_own_string (P:=Tryz.prog) w w.heap.size 48 9 48 5 i Tryz.underlying48 Tryz.underlying9 i1 i2 i3 i4 (.slice none 0 0) 0 [] (World.ownsRow_nil w _ _ _) s (by simp only[maxLen];omega) (by omega) (Nat.le_refl _);rw[hrun] at N7;cases N7;exact Or.inr (q1.lt k e).1
  ·by_cases hroom:l.length+s.size≤cap
   ·have hr:=Lib.run_append_room_string (P:=Tryz.prog) w 48 9 48 5 i Tryz.underlying48 Tryz.underlying9 i1 i3 g l.length cap cur hg s hroom (by omega);rw[hrun] at hr;cases hr;exact Or.inl e
   ·have holds:∀j u,(kK l)[j]?=some u→w.cell? ((⟨g,0,none⟩:Addr).add j)=some u:=World.ownsRow.cells h (g:=g) rfl;have hr:=Lib.run_append_grow_string (P:=Tryz.prog) w 48 9 48 5 i (.int .u8 0) Tryz.underlying48 Tryz.underlying9 i1 i2 ⟨g,0,none⟩ l.length cap (kK l) (by rw[i3];simpa using hxl) holds s (by omega) (by omega) (by rw[i4];exact growslice_fits (by omega) (by omega));rw[hrun] at hr;cases hr;simp[Value.ownBlock] at e;exact Or.inr (by omega)
theorem pq {P:Program} {w:World} {ops:Array Oper} {rest:List Oper} {o:Oper} {a:Act} {Q:Exit→Act→World→Prop} (hgd:o.guard=none) (s x:Operand) (t u:TypeId)
  (ho:o.op=.call {callee:=.builtin .append,args:=#[s,x],argTypes:=#[t,u]}) (v1 v2 v':Value) (w':World) (hs:a.eval s=v1) (hx:a.eval x=v2)
  (hrun:(Builtin.append_ #[t,u] o.type #[v1,v2]).run P w=.ok v' w') (h:wpList P ops Q rest (a.put o.dst v') w'):wpList P ops Q (o::rest) a w:=
 wpList_plain hgd fun _ hK=>by
  unfold Oper.wp execOp;simp only[ho,resolve,invoke,builtin,Sem.run_bind,Sem.run_pure,Result.andThen_ok,List.map_toArray,List.map_cons,List.map_nil,hs,hx,hrun];exact hK _ _ h
theorem N8 (b:Bool) (w:World):Calls Tryz.prog 129 #[.bool b] w fun e w'=>e=.returned (.int .u8 ((oZ b).toNat:Int))∧w'=w:=by
 cases b
 ·go_enter Tryz.func129,Tryz.ntmps129
  go_wp2;go_ret;exact⟨rfl,rfl⟩
 ·go_enter Tryz.func129,Tryz.ntmps129
  go_wp2;go_ret;exact⟨rfl,rfl⟩
theorem byte_size {n:Nat} (h:n<256):(((UInt8.ofNat n).toNat:Nat):Int)=(n:Int):=by rw[ofNat_toNat h]
set_option maxRecDepth 100000 in
set_option maxHeartbeats 1000000 in
theorem Dh (lo:Nat) (v:Value) (l:Bs) (s:ByteArray) (w:World) (h:jA lo w v l) (hs:s.size<256) (hl:l.length≤1000000000) (hlo:lo≤w.heap.size):
  Calls Tryz.prog 197 #[v,.string s] w fun e w'=>∃v',e=.returned v'∧jA lo w' v' (l++qj s)∧Gro v w v' w':=by
 obtain⟨v1,w1,hr1,hO1,hB1⟩:=qo h (byte_size hs) (by omega) hlo;obtain⟨v2,w2,hr2,hO2,hB2⟩:=appendText hO1 s (by simp;omega) (Nat.le_trans hlo hB1.size);obtain⟨a0,n0,c0,rfl⟩:=h.slice3;obtain⟨a1,n1,c1,rfl⟩:=hO1.slice3;obtain⟨a2,n2,c2,rfl⟩:=hO2.slice3;have HR1:=hide hr1;have HR2:=hide hr2;have HO2:=hide hO2;have HB2:=hide (hB1.trans hB2);clear h hr1 hr2 hO1 hO2 hB1 hB2
 go_enter Tryz.func197,Tryz.ntmps197
 go_wp2_with (first|(at_builtin;refine wpList_append_run rfl (.tmp 5) (.tmp 9) 48 rfl _ _ _ _ rfl rfl HR1.out ?_)|(at_builtin;refine pq rfl (.tmp 10) (.tmp 11) 48 9 rfl _ _ _ _ rfl rfl HR2.out ?_))
 go_ret;exact⟨_,rfl,by have:=HO2.out;rw[List.append_assoc] at this;exact this,HB2.out⟩
def sV (f:au) (j:Nat):Bs:=qj f.1++(UInt8.ofNat f.2.length::(f.2.take j).flatMap qj)
theorem Ej {f:au} {j:Nat} {s:ByteArray} (h:f.2[j]?=some s):sV f (j+1)=sV f j++qj s:=by
 unfold sV;rw[List.take_add_one,h];simp[List.flatMap_append]
theorem zR {f:au} {j:Nat} (h:f.2.length≤j):sV f j=qm f:=by
 unfold sV qm;rw[List.take_of_length_le h]
theorem sW (s:ByteArray):(qj s).length=s.size+1:=by unfold qj;rw[List.length_cons,aP]
theorem wm:∀(l:List ByteArray),(∀t∈l,t.size<256)→(l.flatMap qj).length≤l.length*256
 |[],_=>by simp
 |t::l,h=>by
  have h1:=wm l fun t ht=>h t (by simp[ht]);have h2:=h t (by simp);rw[List.flatMap_cons,List.length_append,sW,List.length_cons];omega
theorem zS {f:au} (h:zO f) (j:Nat):(sV f j).length≤66000:=by
 unfold sV;have h1:=wm (f.2.take j) fun t ht=>h.2.2 t (List.mem_of_mem_take ht);have h2:(f.2.take j).length≤f.2.length:=List.length_take_le' _ _;have:=h.1;have:=h.2.1;rw[List.length_append,sW,List.length_cons];omega
set_option maxRecDepth 100000 in
set_option maxHeartbeats 1000000 in
theorem JB (w0:World) (v s:Value) (l:Bs) (f:au) (w:World) (h:jA w0.heap.size w v l) (hs:Strs w0 s f.2) (hB:Below w0.heap.size w0 w) (hf:zO f) (hl:l.length≤100000000):
  Calls Tryz.prog 130 #[v,.agg #[.string f.1,s]] w fun e w'=>∃v',e=.returned v'∧jA w0.heap.size w' v' (l++qm f)∧Gro v w v' w':=by
 obtain⟨w1,hw1⟩:∃w1,w1=w.alloc (.cells #[.string f.1,s] 27):=⟨_,rfl⟩;have hL1:Later w w1:=by rw[hw1];exact(Later.refl w).alloc _
 have hr1:w1.heap[w.heap.size]?=some (.cells #[.string f.1,s] 27 (0,0)):=by rw[hw1];exact heap_alloc_new w _
 have hlt1:=(Array.getElem?_eq_some_iff.1 hr1).1;have hO1:=h.later hL1;have hv1:∀k,v.ownBlock=some k→w0.heap.size≤k∧k<w.heap.size:=fun k e=>h.lt e;have HT:=hide (Dh w0.heap.size v l f.1 w1 hO1 hf.1 (by omega) (Nat.le_trans hB.size hL1.size));obtain⟨sa,sc,rfl⟩:=aW hs;obtain⟨va,vn,vc,rfl⟩:=h.slice3;obtain⟨_,sa',sc',se,hsb⟩:=hs;simp only[Value.slice.injEq,true_and] at se;obtain⟨rfl,rfl⟩:=se;have HSb:=hide hsb;have HW1:=hide hw1;have HR1:=hide hr1;have HF:=hide hf;have HB:=hide hB;have HV1:=hide hv1;have HL1:=hide hL1;have N9:=hB.size;have hfa:=hf.2.1;clear h hw1 hL1 hO1 hf hsb hv1 hr1 hB;generalize hA:f.2.length=na at*;have HA:=hide hA;clear hA;generalize hN:f.1=nm at*;have HN:=hide hN;clear hN;have q0:w1.cell? ⟨w.heap.size,0,none⟩=some (.string nm):=by rw[cell_of_row _ _ _ _ _ _ HR1.out];rfl
 go_enter Tryz.func130,Tryz.ntmps130
 go_wp2_with (first|(rw[←HW1.out])|fail)
 refine HT.out.mono ?_;rintro e w2 ⟨v2,rfl,hO2,hG2⟩;have hr2:w2.heap[w.heap.size]?=some (.cells #[.string nm,.slice sa na sc] 27 (0,0)):=by
  rw[hG2.block _ hlt1 (fun e=>by have:=HV1.out _ e;omega)];exact HR1.out
 have QU:Gro (.slice va vn vc) w v2 w2:=(Gro.of_later HL1.out).trans hG2;have q1:w2.cell? ⟨w.heap.size,0+1,none⟩=some (.slice sa na sc):=by rw[cell_of_row _ _ _ _ _ _ hr2];rfl
 have q1':w2.cell? ⟨w.heap.size,1,none⟩=some (.slice sa na sc):=q1;have hz2:=QU.size;have hl2:(l++qj nm).length≤100100000:=by
  have:=HF.out.1;rw[List.length_append,sW,←HN.out];omega
 obtain⟨v3,w3,Oa,hO3,hG3⟩:=qo hO2 (byte_size hfa) (by omega) (by omega);have hr3:∀v w',Gro v2 w2 v w'→w'.heap[w.heap.size]?=some (.cells #[.string nm,.slice sa na sc] 27 (0,0)):=fun v w' hg=>by
  rw[hg.block _ (Array.getElem?_eq_some_iff.1 hr2).1 (fun e=>by
   rcases hG2.own _ e with e|e
   ·have:=HV1.out _ e;omega
   ·omega)]
  exact hr2
 have Tc:=hr3 _ _ hG3;have q3:w3.cell? ⟨w.heap.size,0+1,none⟩=some (.slice sa na sc):=by rw[cell_of_row _ _ _ _ _ _ Tc];rfl
 have q3':w3.cell? ⟨w.heap.size,1,none⟩=some (.slice sa na sc):=q3;obtain⟨a2,n2,c2,rfl⟩:=hO2.slice3;obtain⟨a3,n3,c3,rfl⟩:=hO3.slice3;have Td:=QU.trans hG3;have LM:=hide Oa;have HO3:Hid (jA w0.heap.size w3 (.slice a3 n3 c3) (l++sV f 0)):=by
  show jA _ _ _ _;have:=hO3;rw[←HA.out,←HN.out,List.append_assoc] at this;exact this
 have Te:=hide Td;clear hO2 hG2 hr2 QU Oa hO3 hG3 hr3 Tc Td HT HW1 HR1 q0 hl2
 go_wp2_with (first|(at_builtin;refine wpList_append_run rfl (.tmp 11) (.tmp 16) 48 rfl _ _ _ _ rfl rfl LM.out ?_))
 clear LM q1 q1' q3 q3'
 go_loopg [0,21] na (fun g o i wr=>∃j:Nat,j+g=na∧i=.int .i64 j∧Hid (jA w0.heap.size wr o (l++sV f j))∧Hid (Gro (.slice va vn vc) w o wr))
 case atStart=>exact⟨0,by omega,rfl,HO3,Te⟩
 case round=>
  clear HO3 Te;obtain⟨j,hj,rfl,HO,HG⟩:=hrel
  by_cases hlt:j<na
  ·obtain⟨x,hx⟩:∃x,f.2[j]?=some x:=⟨_,List.getElem?_eq_getElem (by rw[HA.out];exact hlt)⟩;obtain⟨b,off,rfl,hb,hc⟩:=HSb.out (fun e=>by rw[e] at hx;simp at hx);have hBr:Below w0.heap.size w0 wr:=HB.out.trans (HG.out.below N9 fun k e=>(HV1.out k e).1);have d0:wr.cell? ⟨b,off+j,none⟩=some (.string x):=by
    rw[hBr.cell (p:=⟨b,off+j,none⟩) hb,hc j hlt];simp[List.getD_eq_getElem?_getD,hx]
   have hpl:=zS HF.out j;have HC:=hide (Dh w0.heap.size u0 (l++sV f j) x wr HO.out (HF.out.2.2 x (List.mem_of_getElem? hx)) (by simp;omega) (Nat.le_trans N9 HG.out.size));have HS:=hide (Ej hx);obtain⟨a4,n4,c4,rfl⟩:=HO.out.slice3;clear hc hBr hpl hx
   go_wp2_with fail
   refine HC.out.mono ?_;rintro e w5 ⟨v5,rfl,hO5,hG5⟩;have HO5:Hid (jA w0.heap.size w5 v5 (l++sV f (j+1))):=by
    show jA _ _ _ _;rw[HS.out,←List.append_assoc];exact hO5
   have HG5:=hide (HG.out.trans hG5);obtain⟨a5,n5,c5,rfl⟩:=hO5.slice3;clear hO5 hG5 HC HO HG HS d0;go_wp2
   go_roundg (na- (j+1))
   case measure=>omega
   case rel=>exact⟨j+1,by omega,by go_num,HO5,HG5⟩
  ·have HO2:Hid (jA w0.heap.size wr u0 (l++qm f)):=by
    have:=HO.out;rw[zR (by rw[HA.out];omega)] at this;exact this
   obtain⟨a4,n4,c4,rfl⟩:=HO.out.slice3;go_wp2;go_ret;exact⟨_,rfl,HO2.out,HG.out⟩
end Go.Proofs.YtafmbokfkbccaaaGreatDoor
