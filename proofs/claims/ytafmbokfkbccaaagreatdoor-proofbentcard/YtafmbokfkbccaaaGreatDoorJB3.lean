import Derived.Test.YtafmbokfkbccaaaGreatDoorJB2
import Derived.Test.YtafmbokfkbccaaaGreatDoorJB1
import Derived.Sort.Grow
import Derived.Deep.Draws
import Derived.Test.YtafmbokfkbccaaaGreatDoorChecked
import Derived.WalkKit
import Derived.WalkSpells
import Derived.WalkLawsBesides
namespace Go.Proofs.YtafmbokfkbccaaaGreatDoor
theorem fD {r:aA} {fs x:List aj} (hc:Covers r.body) (h:dM r fs=some x) (f:aj):f∈x↔∃env,iq (fun _=>fs) r.body env∧aQ r.head env=some f:=by
 unfold dM at h;cases e:lF (fun _=>fs) r.body with
 |none=>rw[e] at h;cases h
 |some R=>
  rw[e] at h;cases h;rw[bU,List.mem_filterMap];exact⟨fun⟨l,hl,hf⟩=>⟨l,(lW hc e l).1 hl,hf⟩,fun⟨l,hl,hf⟩=>⟨l,(lW hc e l).2 hl,hf⟩⟩
theorem je {a:aF} {l:List aC} {f:aj} (h:aQ a l=some f):f.1=bs a.name∧aJ l a.terms=some f.2:=by
 unfold aQ at h;cases e:aJ l a.terms with
 |none=>rw[e] at h;cases h
 |some r=>rw[e] at h;cases h;exact⟨rfl,rfl⟩
theorem Bl {fs gs:List aj} {body:List aF} {env:List aC} (hpos:∀a∈body,a.no=false→∀f:aj,f.1=bs a.name→f∈fs→f∈gs)
  (hneg:∀a∈body,a.no=true→∀f:aj,f.1=bs a.name→f∈gs→f∈fs) (h:iq (fun _=>fs) body env):iq (fun _=>gs) body env:=by
 obtain⟨h1,h2,h3,h4⟩:=h;refine⟨h1,h2,h3,bZ.2 fun a ha=> ?_⟩;obtain⟨f,hf,hi⟩:=bZ.1 h4 a ha;refine⟨f,hf,?_⟩;have hn:=(je hf).1;cases hno:a.no with
 |false=>
  rw[hno] at hi;exact aO.2 (hpos a ha hno f hn (aO.1 hi))
 |true=>
  rw[hno] at hi;cases e:inB gs f with
  |false=>rfl
  |true=>rw[aO.2 (hneg a ha hno f hn (aO.1 e))] at hi;cases hi
def iH (f:aj):Prop:=isNamed (raw f.1)=true∧f.2.length≤4∧∀s∈f.2,isNamed (raw s)=true
theorem qh {l:List aC}:∀{ts:List dh} {r:List ByteArray},aJ l ts=some r→∀t∈ts,∃u∈r,aV l t=some u
 |[],_,_=>fun _ h=>by cases h
 |t::ts,r,h=>fun u hu=>by
  simp only[aJ] at h;cases e:aV l t with
  |none=>rw[e] at h;cases h
  |some s=>
   rw[e] at h;dsimp only at h;cases e2:aJ l ts with
   |none=>rw[e2] at h;cases h
   |some q=>
    rw[e2] at h;cases h;rcases List.mem_cons.1 hu with rfl|hu
    ·exact⟨s,by simp,e⟩
    ·obtain⟨v,hv,hw⟩:=qh e2 u hu;exact⟨v,by simp[hv],hw⟩
theorem mO {l:List aC}:∀{ts:List dh} {r:List ByteArray},aJ l ts=some r→∀u∈r,∃t∈ts,aV l t=some u
 |[],_,h=>fun _ hu=>by cases h;cases hu
 |t::ts,r,h=>fun u hu=>by
  simp only[aJ] at h;cases e:aV l t with
  |none=>rw[e] at h;cases h
  |some s=>
   rw[e] at h;dsimp only at h;cases e2:aJ l ts with
   |none=>rw[e2] at h;cases h
   |some q=>
    rw[e2] at h;cases h;rcases List.mem_cons.1 hu with rfl|hu
    ·exact⟨t,by simp,e⟩
    ·obtain⟨v,hv,hw⟩:=mO e2 u hu;exact⟨v,by simp[hv],hw⟩
theorem xg {fs:List aj} {body:List aF} {env:List aC} (hr:∀f∈fs,iH f) (h:iq (fun _=>fs) body env) {v s:ByteArray} (hg:bT env v=some s):isNamed (raw s)=true:=by
 obtain⟨_,_,h3,h4⟩:=h;have hk0:v∈bD env:=List.mem_map.2 ⟨_,pF hg,rfl⟩;obtain⟨k,hk,rfl⟩:=List.mem_map.1 ((h3 v).1 hk0);rcases(dG body).1 hk with hk|⟨a,ha,hno,t,ht,ht1,rfl⟩
 ·cases hk
 obtain⟨f,hf,hi⟩:=bZ.1 h4 a ha;rw[hno] at hi;obtain⟨u,hu,hw⟩:=qh (je hf).2 t ht;unfold aV at hw;rw[if_pos ht1,hg] at hw;cases hw;exact(hr f (aO.1 hi)).2.2 _ hu
theorem qj {a:aF} (h:aN a=0):isNamed a.name=true∧a.terms.length≤4∧∀t∈a.terms,bI t=false:=by
 unfold aN at h;split at h
 ·cases h
 ·rename_i h1;split at h
  ·cases h
  ·rename_i h2;split at h
   ·cases h
   ·rename_i h3;refine⟨by simpa using h1,by omega,fun t ht=> ?_⟩;cases e:bI t with
    |false=>rfl
    |true=>exact absurd (List.any_eq_true.2 ⟨t,ht,e⟩) h3
theorem nQ {r:aA} {fs:List aj} {env:List aC} {f:aj} (hR:jw r) (hr:∀f∈fs,iH f) (h:iq (fun _=>fs) r.body env) (hf:aQ r.head env=some f):
  iH f∧f.1=bs r.head.name∧f.2.length=r.head.terms.length:=by
 obtain⟨h1,h2⟩:=je hf;obtain⟨h3,h4,h5⟩:=qj hR.head;have hl:=jq h2;refine⟨⟨by rw[h1,iw];exact h3,by omega,fun s hs=> ?_⟩,h1,hl⟩;obtain⟨t,ht,hw⟩:=mO h2 s hs;unfold aV at hw;split at hw
 ·exact xg hr h hw
 ·rename_i ht1;cases hw;have:=h5 t ht;unfold bI at this;rw[if_neg ht1] at this;rw[iw];simpa using this
structure GoodS (p:List aA) (L:List aj):Prop where
 up:Up L
 right:∀f∈L,iH f
 few:L.length≤200
 fit:∀f∈L,sD p f=true
theorem Bn {p:List aA} {f:aj}:sD p f=true↔∀a∈fJ p,bs a.name=f.1→a.terms.length=f.2.length:=by
 unfold sD fJ;simp only[List.all_eq_true,Bool.or_eq_true,Bool.not_eq_true',decide_eq_false_iff_not,decide_eq_true_eq,List.mem_flatMap]
 constructor
 ·rintro h a ⟨r,hr,ha⟩ e;exact(h r hr a ha).resolve_left fun hn=>hn e
 ·intro h r hr a ha
  by_cases e:bs a.name=f.1
  ·exact Or.inr (h a ⟨r,hr,ha⟩ e)
  ·exact Or.inl e
theorem Bo {p:List aA} (hp:cZ p) {r:aA} (hr:r∈p) {f:aj} (h1:f.1=bs r.head.name) (h2:f.2.length=r.head.terms.length):sD p f=true:=
 Bn.2 fun a ha e=>by
  rw[h2];exact hp.even a ha r.head (List.mem_flatMap.2 ⟨r,hr,by simp⟩) (pR (e.trans h1))
theorem bH {r:aA} (h:jw r):Covers r.body:=qb h.body
theorem gH {n:Int} {fs:List aj} (σ:aA→Nat):∀{p:List aA} {acc S:List aj},eP n fs p (p.map σ) acc=(0,S)→
  (∀r∈p,(σ r:Int)=n→∃x,dM r fs=some x∧∀f∈x,f∈S)∧(∀f∈acc,f∈S)∧(∀f∈S,f∈acc∨∃r∈p,(σ r:Int)=n∧∃x,dM r fs=some x∧f∈x)∧Up S∧((fO acc).length≤200→S.length≤200)
 |[],acc,S,h=>by
  simp only[eP,Prod.mk.injEq,true_and] at h;subst h;exact⟨fun _ h=>(by cases h),fun f hf=>bU.2 hf,fun f hf=>Or.inl (bU.1 hf),gV _,id⟩
 |r::p,acc,S,h=>by
  simp only[eP,List.map_cons] at h;split at h
  ·rename_i hs;split at h
   ·simp at h
   ·rename_i x hx;split at h
    ·simp at h
    ·rename_i hlen;obtain⟨h1,h2,h3,h4,h5⟩:=gH σ h;refine⟨fun q hq hqn=> ?_,fun f hf=>h2 f (by simp[hf]),fun f hf=> ?_,h4,fun _=>h5 (by omega)⟩
     ·rcases List.mem_cons.1 hq with rfl|hq
      ·exact⟨x,hx,fun f hf=>h2 f (by simp[hf])⟩
      ·exact h1 q hq hqn
     ·rcases h3 f hf with hf|⟨q,hq,hqn,y,hy,hf⟩
      ·rcases List.mem_append.1 hf with hf|hf
       ·exact Or.inl hf
       ·exact Or.inr ⟨r,by simp,hs,x,hx,hf⟩
      ·exact Or.inr ⟨q,by simp[hq],hqn,y,hy,hf⟩
  ·rename_i hs;obtain⟨h1,h2,h3,h4,h5⟩:=gH σ h;refine⟨fun q hq hqn=> ?_,h2,fun f hf=> ?_,h4,h5⟩
   ·rcases List.mem_cons.1 hq with rfl|hq
    ·exact absurd hqn hs
    ·exact h1 q hq hqn
   ·rcases h3 f hf with hf|⟨q,hq,hqn,y,hy,hf⟩
    ·exact Or.inl hf
    ·exact Or.inr ⟨q,by simp[hq],hqn,y,hy,hf⟩
theorem ql {n:Int} {fs:List aj} (σ:aA→Nat) {T:List aj} (hT:T.length≤200):∀{p:List aA} {acc:List aj},(∀r∈p,(σ r:Int)=n→∃x,dM r fs=some x∧∀f∈x,f∈T)→(∀f∈acc,f∈T)→
  (eP n fs p (p.map σ) acc).1=0
 |[],acc,_,_=>rfl
 |r::p,acc,h,ha=>by
  simp only[eP,List.map_cons];split
  ·rename_i hs;obtain⟨x,hx,hxT⟩:=h r (by simp) hs;rw[hx];have hsub:∀f∈acc++x,f∈T:=fun f hf=>(List.mem_append.1 hf).elim (ha f) (hxT f);have hlen:=sw (gV (acc++x)) fun f hf=>hsub f (bU.1 hf);dsimp only;rw[if_neg (by omega)];exact ql σ hT (fun q hq=>h q (by simp[hq])) hsub
  ·exact ql σ hT (fun q hq=>h q (by simp[hq])) ha
theorem nR {n:Int} {fs:List aj}:∀{p:List aA} {ss:List Nat} {acc:List aj},(eP n fs p ss acc).1=0∨eP n fs p ss acc=(4,[])∨eP n fs p ss acc=(5,[])
 |[],_,_=>Or.inl rfl
 |_::_,[],_=>Or.inl rfl
 |r::p,s::ss,acc=>by
  simp only[eP];split
  ·split
   ·exact Or.inr (Or.inl rfl)
   ·split
    ·exact Or.inr (Or.inr rfl)
    ·exact nR
  ·exact nR
theorem jN {p:List aA} (hp:cZ p) (σ:aA→Nat) {n:Int} {L S:List aj} (hL:GoodS p L) (h:bV p (p.map σ) n L=(0,S)):GoodS p S∧∀f∈L,f∈S:=by
 obtain⟨h1,h2,h3,h4,h5⟩:=gH σ h;have key:∀f∈S,f∈L∨(iH f∧sD p f=true):=fun f hf=>by
  rcases h3 f hf with hf|⟨r,hr,_,x,hx,hf⟩
  ·exact Or.inl hf
  ·obtain⟨env,he,gU⟩:=(fD (bH (hp.rules r hr)) hx f).1 hf;obtain⟨a,b,c⟩:=nQ (hp.rules r hr) hL.right he gU;exact Or.inr ⟨a,Bo hp hr b c⟩
 refine⟨⟨h4,fun f hf=>(key f hf).elim (hL.right f) (·.1),h5 (by rw[oI hL.up];exact hL.few),fun f hf=>(key f hf).elim (hL.fit f) (·.2)⟩,h2⟩
inductive Walks (p:List aA) (ss:List Nat) (n:Int):List aj→List aj→Prop
 |stop {L:List aj}:bV p ss n L=(0,L)→Walks p ss n L L
 |go {L L' M:List aj}:bV p ss n L=(0,L')→Walks p ss n L' M→Walks p ss n L M
theorem tu {p:List aA} (hp:cZ p) (σ:aA→Nat) {n:Int}:∀(k:Nat) {L M:List aj},GoodS p L→dH p (p.map σ) n k L=(0,M)→200<L.length+k→Walks p (p.map σ) n L M
 |0,L,M,hL,_,hk=>by have:=hL.few;omega
 |k+1,L,M,hL,h,hk=>by
  unfold dH at h;obtain⟨e,x,hx⟩:∃e x,bV p (p.map σ) n L=(e,x):=⟨_,_,rfl⟩;rw[hx] at h;dsimp only at h;split at h
  ·rename_i he;simp at h;exact absurd h.1 he
  ·rename_i he;have he:e=0:=by simpa using he
   subst he;obtain⟨g1,g2⟩:=jN hp σ hL hx;split at h
   ·rename_i hlen;have e:L=x:=zH hL.up g1.up g2 (by omega);simp at h;subst h;subst e;exact .stop hx
   ·rename_i hlen;have:=sw hL.up g2;exact .go hx (tu hp σ k g1 h (by omega))
theorem xq {p:List aA} (hp:cZ p) (σ:aA→Nat) {n:Int} {P:List aj→Prop} (hP:∀L L',GoodS p L→P L→bV p (p.map σ) n L=(0,L')→P L') {L M:List aj} (h:Walks p (p.map σ) n L M):
  GoodS p L→P L→GoodS p M∧P M∧bV p (p.map σ) n M=(0,M)∧∀f∈L,f∈M:=by
 induction h with
 |stop h=>exact fun hL hPL=>⟨hL,hPL,h,fun _ h=>h⟩
 |go h _ ih=>
  intro hL hPL;obtain⟨g1,g2⟩:=jN hp σ hL h;obtain⟨a,b,c,d⟩:=ih g1 (hP _ _ hL hPL h);exact⟨a,b,c,fun f hf=>d f (g2 f hf)⟩
theorem Em {p:List aA} (hp:cZ p) (σ:aA→Nat) {P:Nat→List aj→Prop} (hP:∀(n:Nat) L M,GoodS p L→P n L→Walks p (p.map σ) n L M→P (n+1) M):
  ∀(c n:Nat) {L M:List aj},GoodS p L→P n L→gQ p (p.map σ) c n L=(0,M)→GoodS p M∧P (n+c) M∧∀f∈L,f∈M
 |0,n,L,M,hL,hPL,h=>by
  simp[gQ] at h;subst h;exact⟨hL,hPL,fun _ h=>h⟩
 |c+1,n,L,M,hL,hPL,h=>by
  unfold gQ at h;obtain⟨e,x,hx⟩:∃e x,dH p (p.map σ) n 201 L=(e,x):=⟨_,_,rfl⟩;rw[hx] at h;dsimp only at h;split at h
  ·rename_i he;simp at h;exact absurd h.1 he
  ·rename_i he;have he:e=0:=by simpa using he
   subst he;have hw:=tu hp σ 201 hL hx (by omega);obtain⟨g1,_,_,g2⟩:=xq hp σ (P:=fun _=>True) (fun _ _ _ _ _=>trivial) hw hL trivial;obtain⟨a,b,d⟩:=Em hp σ hP c (n+1) g1 (hP n L x hL hPL hw) h;exact⟨a,by rw[show n+(c+1)=n+1+c by omega];exact b,fun f hf=>d f (g2 f hf)⟩
structure Way (p:List aA) (τ:Bs→Nat) (l:List aj) (n m:Nat) (L:List aj):Prop where
 told:∀f∈l,f∈L
 of:∀f∈L,f∉l→∃r∈p,τ r.head.name<m∧f.1=bs r.head.name
 closed:∀r∈p,τ r.head.name<n→∀env f,iq (fun _=>L) r.body env→aQ r.head env=some f→f∈L
 made:∀f∈L,f∉l→∃r∈p,τ r.head.name<m∧∃env,iq (fun _=>L) r.body env∧aQ r.head env=some f
theorem Ht {p:List aA} (hp:cZ p) {τ:Bs→Nat} (hτ:Sol p τ) {l:List aj} {n:Nat} {L L':List aj} (hw:Way p τ l n (n+1) L) (h:bV p (p.map fun r=>τ r.head.name) n L=(0,L')):Way p τ l n (n+1) L':=by
 obtain⟨h1,h2,h3,h4,h5⟩:=gH (fun r=>τ r.head.name) h;have hnew:∀f∈L',f∈L∨∃r∈p,τ r.head.name=n∧∃env,iq (fun _=>L) r.body env∧aQ r.head env=some f∧f.1=bs r.head.name:=fun f hf=>by
  rcases h3 f hf with hf|⟨r,hr,hn,x,hx,hf⟩
  ·exact Or.inl hf
  ·obtain⟨env,he,gU⟩:=(fD (bH (hp.rules r hr)) hx f).1 hf;exact Or.inr ⟨r,hr,Int.ofNat.inj hn,env,he,gU,(je gU).1⟩
 have hold:∀r∈p,∀a∈r.body,τ r.head.name<n+step a→∀f:aj,f.1=bs a.name→f∈L'→f∈L:=fun r hr a ha hlt f hfn hf=>by
  rcases hnew f hf with hf|⟨q,hq,hqn,_,_,_,hqf⟩
  ·exact hf
  ·exfalso
   have e:a.name=q.head.name:=pR (hfn.symm.trans hqf);have:=hτ r hr a ha ⟨q,hq,e.symm⟩;rw[e] at this;omega
 have hfits:∀r∈p,τ r.head.name<n+1→∀env,iq (fun _=>L) r.body env→iq (fun _=>L') r.body env:=fun r hr hrn env he=>
  Bl (fun a _ _ f _ hf=>h2 f hf) (fun a ha hno f hfn hf=>hold r hr a ha (by simp only[step,hno,if_true];omega) f hfn hf) he
 refine⟨fun f hf=>h2 f (hw.told f hf),fun f hf hfl=> ?_,fun r hr hrn env f he gU=> ?_,fun f hf hfl=> ?_⟩
 ·rcases hnew f hf with hf|⟨q,hq,hqn,_,_,_,hqf⟩
  ·exact hw.of f hf hfl
  ·exact⟨q,hq,by omega,hqf⟩
 ·refine h2 f (hw.closed r hr hrn env f (Bl (fun a ha hno f hfn hf=>hold r hr a ha (by omega) f hfn hf) (fun a _ _ f _ hf=>h2 f hf) he) gU)
 ·rcases hnew f hf with hf|⟨q,hq,hqn,env,he,gU,_⟩
  ·obtain⟨r,hr,hrn,env,he,gU⟩:=hw.made f hf hfl;exact⟨r,hr,hrn,env,hfits r hr hrn env he,gU⟩
  ·exact⟨q,hq,by omega,env,hfits q hq (by omega) env he,gU⟩
theorem En {p:List aA} (hp:cZ p) {τ:Bs→Nat} (hτ:Sol p τ) {l:List aj} {n:Nat} {L M:List aj} (hL:GoodS p L) (hw:Way p τ l n n L) (h:Walks p (p.map fun r=>τ r.head.name) n L M):Way p τ l (n+1) (n+1) M:=by
 have h0:Way p τ l n (n+1) L:=⟨hw.told,fun f hf hn=>by obtain⟨r,hr,h1,h2⟩:=hw.of f hf hn;exact⟨r,hr,by omega,h2⟩,hw.closed,fun f hf hn=>by obtain⟨r,hr,h1,h2⟩:=hw.made f hf hn;exact⟨r,hr,by omega,h2⟩⟩;obtain⟨g,hm,hfix,_⟩:=xq hp (fun r=>τ r.head.name) (P:=Way p τ l n (n+1)) (fun L L' _ hw ho=>Ht hp hτ hw ho) h hL h0;obtain⟨h1,_⟩:=gH (fun r=>τ r.head.name) hfix;refine⟨hm.told,hm.of,fun r hr hrn env f he gU=> ?_,hm.made⟩
 by_cases e:τ r.head.name<n
 ·exact hm.closed r hr e env f he gU
 ·have e2:τ r.head.name=n:=by omega
  obtain⟨x,hx,hxm⟩:=h1 r hr (by rw[e2]);exact hxm f ((fD (bH (hp.rules r hr)) hx f).2 ⟨env,he,gU⟩)
theorem zI {p:List aA} (hp:cZ p) {τ:Bs→Nat} (hτ:Sol p τ) {l m:List aj} (hl:GoodS p l) (h:gQ p (p.map fun r=>τ r.head.name) (countP (p.map fun r=>τ r.head.name)) 0 l=(0,m)):
  GoodS p m∧Way p τ l (countP (p.map fun r=>τ r.head.name)) (countP (p.map fun r=>τ r.head.name)) m:=by
 have h0:Way p τ l 0 0 l:=⟨fun _ h=>h,fun f hf hn=>absurd hf hn,fun r _ h=>by omega,fun f hf hn=>absurd hf hn⟩;obtain⟨a,b,_⟩:=Em hp (fun r=>τ r.head.name) (P:=fun n=>Way p τ l n n) (fun n L M hL hw hW=>En hp hτ hL hw hW) _ 0 hl h0 h;exact⟨a,by rw[Nat.zero_add] at b;exact b⟩
theorem qm {p:List aA} (hp:cZ p) {τ:Bs→Nat} (hτ:Sol p τ) {l m:List aj} (hl:GoodS p l) (h:gQ p (p.map fun r=>τ r.head.name) (countP (p.map fun r=>τ r.head.name)) 0 l=(0,m)):
  (∀f∈l,f∈m)∧∀r∈p,∀x,dM r m=some x→∀f∈x,f∈m:=by
 obtain⟨_,hw⟩:=zI hp hτ hl h;refine⟨hw.told,fun r hr x hx f hf=> ?_⟩;obtain⟨env,he,gU⟩:=(fD (bH (hp.rules r hr)) hx f).1 hf;exact hw.closed r hr (kH (List.mem_map.2 ⟨r,hr,rfl⟩)) env f he gU
theorem Cq {p:List aA} (hp:cZ p) {τ:Bs→Nat} (hτ:Sol p τ) {l m:List aj} (hl:GoodS p l) (h:gQ p (p.map fun r=>τ r.head.name) (countP (p.map fun r=>τ r.head.name)) 0 l=(0,m)) (hs:∀r∈p,∃x,dM r m=some x):
  ∀f,f∈m↔f∈l∨∃r∈p,∃x,dM r m=some x∧f∈x:=by
 obtain⟨_,hw⟩:=zI hp hτ hl h;obtain⟨m1,m2⟩:=qm hp hτ hl h;intro f
 constructor
 ·intro hf
  by_cases hfl:f∈l
  ·exact Or.inl hfl
  ·obtain⟨r,hr,_,env,he,gU⟩:=hw.made f hf hfl;obtain⟨x,hx⟩:=hs r hr;exact Or.inr ⟨r,hr,x,hx,(fD (bH (hp.rules r hr)) hx f).2 ⟨env,he,gU⟩⟩
 ·rintro(hf|⟨r,hr,x,hx,hf⟩)
  ·exact m1 f hf
  ·exact m2 r hr x hx f hf
end Go.Proofs.YtafmbokfkbccaaaGreatDoor
namespace Go.Proofs.YtafmbokfkbccaaaGreatDoor
inductive bf where
 |mk (fact:aj) (rule:Int) (kids:List bf):bf
def bf.fact:bf→aj
 | .mk f _ _=>f
def bf.rule:bf→Int
 | .mk _ r _=>r
def bf.kids:bf→List bf
 | .mk _ _ k=>k
def Deep:Nat→bf→Prop
 |0,_=>False
 |n+1,x=>∀k∈x.kids,Deep n k
theorem Deep.mono:∀{n m:Nat} {x:bf},Deep n x→n≤m→Deep m x
 |0,_,_,h,_=>h.elim
 |n+1,0,_,_,h=>by omega
 |n+1,m+1,x,h,hm=>fun k hk=>(h k hk).mono (by omega)
def fE (en:Nat×Nat→Bool):Nat→List bf→Nat×Nat→Nat×Nat
 |0,_,s=>s
 |n+1,L,s=>if L=[]∨en s=true then s else fE en n (L.flatMap bf.kids) (s.1+L.length,s.2+1)
def kr (s:Nat×Nat):Bool:=decide (400<s.1)||decide (60<s.2)
def dW:List aF→List aj→List aC→Int×List aC
 |[],[],b=>(0,b)
 |[],_::_,_=>(5,[])
 |a::as',ks,b=>if a.no then dW as' ks b else match ks with
  |[]=>(5,[])
  |k::ks=>match dL a k b with
   |none=>(8,[])
   |some b'=>dW as' ks b'
def G6 (all:List aj) (body:List aF) (b:List aC):Int:=
 if body.any (fun a=>a.no&&(match aQ a b with|none=>true|some f=>inB all f)) then 10 else 0
def jO (all:List aj) (r:aA) (f:aj) (ks:List aj):Int:=match dL r.head f [] with
 |none=>8
 |some b=>if(dW r.body ks b).1≠0 then(dW r.body ks b).1 else G6 all r.body (dW r.body ks b).2
def jy (g:bf→Int):List bf→Int
 |[]=>0
 |k::ks=>if g k≠0 then g k else jy g ks
def dR (p:List aA) (told all:List aj):Nat→bf→Int
 |0,_=>0
 |n+1,x=>if x.rule<0 then(if x.rule= -1∧x.kids=[]∧inB told x.fact=true then 0 else 6) else match p[x.rule.toNat]? with
  |none=>1
  |some r=>if jO all r x.fact (x.kids.map bf.fact)≠0 then jO all r x.fact (x.kids.map bf.fact) else jy (dR p told all n) x.kids
theorem qo {g:bf→Int}:∀{ks:List bf},jy g ks=0→∀k∈ks,g k=0
 |[],_,_,h=>by cases h
 |k::ks,h,y,hy=>by
  unfold jy at h;split at h
  ·rename_i h0;exact absurd h h0
  ·rename_i h0;rcases List.mem_cons.1 hy with rfl|hy
   ·exact Classical.not_not.1 h0
   ·exact qo h y hy
theorem xu {g:bf→Int}:∀{ks:List bf},(∀k∈ks,g k=0)→jy g ks=0
 |[],_=>rfl
 |k::ks,h=>by
  unfold jy;rw[if_neg (by rw[h k (by simp)];simp)];exact xu fun y hy=>h y (by simp[hy])
theorem mP:∀{body:List aF} {ks:List aj} {b b':List aC} {K:List Bs},bD b=K.map bs→dW body ks b=(0,b')→
  (∃r,b'=b++r)∧bD b'=(dV K body).map bs∧∀a∈body,a.no=false→∃k∈ks,aQ a b'=some k
 |[],[],b,b',K,hk,h=>by
  simp only[dW,Prod.mk.injEq,true_and] at h;subst h;exact⟨⟨[],by simp⟩,hk,fun a ha=>by cases ha⟩
 |[],_::_,b,b',K,hk,h=>by simp[dW] at h
 |a::as',ks,b,b',K,hk,h=>by
  unfold dW at h;rw[iG];cases hno:a.no with
  |true=>
   rw[hno] at h;simp only[if_true] at h⊢;obtain⟨h1,h2,h3⟩:=mP hk h;refine⟨h1,h2,fun c hc hcn=> ?_⟩;rcases List.mem_cons.1 hc with rfl|hc
   ·rw[hno] at hcn;cases hcn
   ·exact h3 c hc hcn
  |false=>
   rw[hno] at h;simp only[Bool.false_eq_true,if_false] at h⊢;cases ks with
   |nil=>simp at h
   |cons k ks=>
    dsimp only at h;cases hm:dL a k b with
    |none=>rw[hm] at h;simp at h
    |some b1=>
     rw[hm] at h;obtain⟨⟨r,hr⟩,hk1,hf1⟩:=kW hk hm;obtain⟨⟨s,hs⟩,h2,h3⟩:=mP hk1 h;refine⟨⟨r++s,by rw[hs,hr,List.append_assoc]⟩,h2,fun c hc hcn=> ?_⟩;rcases List.mem_cons.1 hc with rfl|hc
     ·exact⟨k,by simp,by rw[hs];exact kE hf1⟩
     ·obtain⟨q,hq,e⟩:=h3 c hc hcn;exact⟨q,by simp[hq],e⟩
theorem Eo {all:List aj} {body:List aF} {b:List aC} (h:G6 all body b=0):∀a∈body,a.no=true→∃f,aQ a b=some f∧inB all f=false:=fun a ha hno=>by
 unfold G6 at h;split at h
 ·cases h
 ·rename_i h0;have h1:¬(a.no&&(match aQ a b with|none=>true|some f=>inB all f))=true:=fun hc=>h0 (List.any_eq_true.2 ⟨a,ha,hc⟩);rw[hno,Bool.true_and] at h1;cases hf:aQ a b with
  |none=>rw[hf] at h1;exact absurd rfl h1
  |some f=>rw[hf] at h1;exact⟨f,rfl,by simpa using h1⟩
theorem J8 {all:List aj} {body:List aF} {b:List aC} (h:∀a∈body,a.no=true→∃f,aQ a b=some f∧inB all f=false):G6 all body b=0:=by
 unfold G6;rw[if_neg];intro h0;obtain⟨a,ha,hc⟩:=List.any_eq_true.1 h0;rw[Bool.and_eq_true] at hc;obtain⟨f,hf,hi⟩:=h a ha hc.1;rw[hf] at hc;rw[show(match some f with|none=>true|some f=>inB all f)=inB all f from rfl,hi] at hc;cases hc.2
theorem zJ {all:List aj} {r:aA} {f:aj} {ks:List aj} (hR:jw r) (h:jO all r f ks=0) (hk:∀k∈ks,k∈all):∃env,iq (fun _=>all) r.body env∧aQ r.head env=some f:=by
 unfold jO at h;cases hm:dL r.head f [] with
 |none=>rw[hm] at h;cases h
 |some b=>
  rw[hm] at h;dsimp only at h;obtain⟨e,b',he⟩:∃e b',dW r.body ks b=(e,b'):=⟨_,_,rfl⟩;rw[he] at h;dsimp only at h;split at h
  ·rename_i h0;exact absurd h h0
  ·rename_i h0;have h0:=Classical.not_not.1 h0;subst h0;obtain⟨_,hk0,hf0⟩:=kW (K:=[]) rfl hm;obtain⟨⟨s,hs⟩,hkb,hpos⟩:=mP hk0 he;have hneg:=Eo h;have hvn:(bR [] r.head.terms).Nodup:=jr _ List.nodup_nil;have hn:(bD b').Nodup:=by rw[hkb];exact oH (iX r.body hvn)
   have hp:(jk b').Perm b':=cK b';refine⟨jk b',⟨kG hn,(keys_perm hp).nodup_iff.2 hn,fun v=> ?_,?_⟩,?_⟩
   ·rw[(keys_perm hp).mem_iff,hkb]
    constructor
    ·intro hv;obtain⟨k,hk',rfl⟩:=List.mem_map.1 hv;refine List.mem_map.2 ⟨k,?_,rfl⟩;rcases(dG r.body).1 hk' with h1|h1
     ·have h2:=List.all_eq_true.1 hR.vars k h1;unfold givenBy at h2;obtain⟨a,ha,h3⟩:=List.any_eq_true.1 h2;simp only[Bool.and_eq_true,Bool.not_eq_true'] at h3;have h4:k∈vars a:=by simpa using h3.2
      rcases(gu a.terms).1 h4 with h5|⟨t,ht,ht1,ht2⟩
      ·cases h5
      ·exact(dG r.body).2 (Or.inr ⟨a,ha,h3.1,t,ht,ht1,ht2⟩)
     ·exact(dG r.body).2 (Or.inr h1)
    ·intro hv;obtain⟨k,hk',rfl⟩:=List.mem_map.1 hv;refine List.mem_map.2 ⟨k,?_,rfl⟩;rcases(dG r.body).1 hk' with h1|h1
     ·cases h1
     ·exact(dG r.body).2 (Or.inr h1)
   ·refine SoB.perm (l:=b') (bZ.2 fun a ha=> ?_) hp.symm hn;cases hno:a.no with
    |true=>exact hneg a ha hno
    |false=>
     obtain⟨k,hk1,hk2⟩:=hpos a ha hno;exact⟨k,hk2,aO.2 (hk k hk1)⟩
   ·rw[sW hp ((keys_perm hp).nodup_iff.2 hn),hs];exact kE hf0
inductive Sub:bf→bf→Prop where
 |here (x:bf):Sub x x
 |kid {x k y:bf} (hk:k∈x.kids) (h:Sub k y):Sub x y
theorem qp {p:List aA} {told all:List aj} (hp:∀r∈p,jw r) (ht:∀f∈told,f∈all) (hc:∀r∈p,∀env f,iq (fun _=>all) r.body env→aQ r.head env=some f→f∈all):
  ∀(n:Nat) (x:bf),Deep n x→dR p told all n x=0→∀y,Sub x y→y.fact∈all
 |0,_,h,_,_,_=>h.elim
 |n+1,x,hd,h,y,hy=>by
  unfold dR at h;have key:x.fact∈all∧∀k∈x.kids,∀z,Sub k z→z.fact∈all:=by
   split at h
   ·split at h
    ·rename_i h1;exact⟨ht _ (aO.1 h1.2.2),fun k hk=>by rw[h1.2.1] at hk;cases hk⟩
    ·cases h
   ·split at h
    ·cases h
    ·rename_i r hr;split at h
     ·rename_i h0;exact absurd h h0
     ·rename_i h0;have h0:=Classical.not_not.1 h0;have hk:∀k∈x.kids,∀z,Sub k z→z.fact∈all:=fun k hk z hz=>qp hp ht hc n k (hd k hk) (qo h k hk) z hz;have hrp:=List.mem_of_getElem? hr;obtain⟨env,he,hf⟩:=zJ (hp r hrp) h0 fun k hk'=>by
       obtain⟨z,hz,rfl⟩:=List.mem_map.1 hk';exact hk z hz z (Sub.here z)
      exact⟨hc r hrp env _ he hf,hk⟩
  cases hy with
  |here=>exact key.1
  |kid hk hs=>exact key.2 _ hk _ hs
end Go.Proofs.YtafmbokfkbccaaaGreatDoor
namespace Go.Proofs.YtafmbokfkbccaaaGreatDoor
open Go.RowKit Go.Sort
theorem hide {p:Prop} (h:p):Hid p:=h
theorem bE {p:Prop} (h:Hid p):p:=h
theorem uX {k:IntKind} {a b:Int} (h:a=b):Ending.returned (.int k a)=.returned (.int k b):=by rw[h]
theorem bM {a b:Bool} (h:a=b):Ending.returned (.bool a)=.returned (.bool b):=by rw[h]
def Later (w w':World):Prop:=∃q os,w'=grow (w.drewN q) os
theorem Later.refl (w:World):Later w w:=⟨0,#[],by rw[grow_empty];rfl⟩
theorem Later.trans {a b c:World} (h:Later a b) (k:Later b c):Later a c:=by
 obtain⟨q,os,rfl⟩:=h;obtain⟨r,ps,rfl⟩:=k;exact⟨q+r,os++ps,by show grow (grow ((a.drewN q).drewN r) os) ps=_;rw[grow_grow,World.drewN_drewN]⟩
theorem Later.alloc {a b:World} (h:Later a b) (o:Obj):Later a (b.alloc o):=h.trans ⟨0,#[o],by rw[alloc_eq_grow];rfl⟩
theorem Later.drew {a b:World} (h:Later a b):Later a b.drew:=h.trans ⟨1,#[],by rw[grow_empty];rfl⟩
theorem Later.drewN {a b:World} (h:Later a b) (n:Nat):Later a (b.drewN n):=h.trans ⟨n,#[],by rw[grow_empty]⟩
theorem Later.grow {a b:World} (h:Later a b) (os:Array Obj):Later a (Go.Sort.grow b os):=h.trans ⟨0,os,rfl⟩
theorem Later.size {a b:World} (h:Later a b):a.heap.size≤b.heap.size:=by
 obtain⟨q,os,rfl⟩:=h;rw[size_grow];exact Nat.le_add_right _ _
theorem Later.block {a b:World} (h:Later a b) {k:Nat} (hk:k<a.heap.size):b.heap[k]?=a.heap[k]?:=by
 obtain⟨q,os,rfl⟩:=h;exact heap_grow_old (a.drewN q) os hk
theorem Later.cell {a b:World} (h:Later a b) {p:Addr} (hp:p.block<a.heap.size):b.cell? p=a.cell? p:=World.cell?_of_block (w:=a) (h.block hp)
theorem Later.frozen {a b:World} (h:Later a b) {p:Addr} (hp:p.block<a.heap.size):b.frozen? p=a.frozen? p:=World.frozen?_of_block (w:=a) (h.block hp)
theorem Later.below {a b:World} (h:Later a b):Below a.heap.size a b:=by
 obtain⟨q,os,rfl⟩:=h;exact⟨rfl,rfl,rfl,by rw[size_grow];exact Nat.le_add_right _ _,fun k hk=>heap_grow_old (a.drewN q) os hk⟩
theorem Later.drawn {a b:World} (h:Later a b):a.drawn≤b.drawn:=by
 obtain⟨q,os,rfl⟩:=h;exact Nat.le_add_right _ _
theorem Later.of_below {a b:World} (h:Below a.heap.size a b) (hd:a.drawn≤b.drawn):Later a b:=by
 refine⟨b.drawn-a.drawn,b.heap.extract a.heap.size b.heap.size,?_⟩;have hheap:b.heap=a.heap++b.heap.extract a.heap.size b.heap.size:=by
  apply Array.ext_getElem?
  intro i;rw[Array.getElem?_append];split
  ·rename_i hi;exact h.block i hi
  ·rename_i hi;rw[Array.getElem?_extract];have:=h.size
   by_cases hb:i<b.heap.size
   ·rw[if_pos (by omega)];congr 1;omega
   ·rw[if_neg (by omega),Array.getElem?_eq_none (by omega)]
 obtain⟨bh,bt,bd,bo,bp⟩:=b;obtain⟨ah,at',ad,ao,ap⟩:=a;have e1:=h.os;have e2:=h.tape;have e3:=h.output;simp only at e1 e2 e3 hheap hd;subst e1 e2 e3;show World.mk bh bt bd bo bp=World.mk (ah++bh.extract ah.size bh.size) bt (ad+(bd-ad)) bo bp;rw[show ad+(bd-ad)=bd by omega,←hheap]
theorem Later.setCell {a b:World} (h:Later a b) {p:Addr} (hp:a.heap.size≤p.block) (v:Value):Later a (b.setCell p v):=
 Later.of_below (h.below.setCell hp v) h.drawn
def Strs (w:World) (v:Value) (l:List ByteArray):Prop:=
 l.length≤8796093022208∧∃a cap,v=.slice a l.length cap∧(l≠[]→∃b off,a=some ⟨b,off,none⟩∧b<w.heap.size∧∀i,i<l.length→w.cell? ⟨b,off+i,none⟩=some (.string (l.getD i ByteArray.empty)))
theorem Strs.later {w w':World} {v:Value} {l:List ByteArray} (h:Strs w v l) (k:Later w w'):Strs w' v l:=by
 obtain⟨h0,a,cap,rfl,h1⟩:=h;refine⟨h0,a,cap,rfl,fun hl=> ?_⟩;obtain⟨b,off,rfl,hb,hc⟩:=h1 hl;exact⟨b,off,rfl,Nat.lt_of_lt_of_le hb k.size,fun i hi=>by rw[k.cell (p:=⟨b,off+i,none⟩) hb];exact hc i hi⟩
def bW (w:World) (v:Value) (f:aG):Prop:=∃s,v=.agg #[.string f.1,s]∧Strs w s f.2
theorem bW.later {w w':World} {v:Value} {f:aG} (h:bW w v f) (k:Later w w'):bW w' v f:=by
 obtain⟨s,rfl,h1⟩:=h;exact⟨s,rfl,h1.later k⟩
def aB:aG:=(ByteArray.empty,[])
def Facts (w:World) (v:Value) (l:List aG):Prop:=
 l.length≤3518437208883∧∃a cap,v=.slice a l.length cap∧(l≠[]→∃b off,a=some ⟨b,off,none⟩∧b<w.heap.size∧∀i,i<l.length→w.cell? ⟨b,off+i*2,none⟩=some (.string (l.getD i aB).1)∧∃s,w.cell? ⟨b,off+i*2+1,none⟩=some s∧Strs w s (l.getD i aB).2)
theorem Facts.later {w w':World} {v:Value} {l:List aG} (h:Facts w v l) (k:Later w w'):Facts w' v l:=by
 obtain⟨h0,a,cap,rfl,h1⟩:=h;refine⟨h0,a,cap,rfl,fun hl=> ?_⟩;obtain⟨b,off,rfl,hb,hc⟩:=h1 hl;refine⟨b,off,rfl,Nat.lt_of_lt_of_le hb k.size,fun i hi=> ?_⟩;obtain⟨c1,s,c2,c3⟩:=hc i hi;exact⟨by rw[k.cell (p:=⟨b,off+i*2,none⟩) hb];exact c1,s,by rw[k.cell (p:=⟨b,off+i*2+1,none⟩) hb];exact c2,c3.later k⟩
theorem aD {w:World} {v:Value} {l:List aG} (h:Facts w v l):∃a cap,v=.slice a l.length cap:=by
 obtain⟨_,a,cap,rfl,_⟩:=h;exact⟨a,cap,rfl⟩
theorem aZ {w:World} {v:Value} {l:List ByteArray} (h:Strs w v l):∃a cap,v=.slice a l.length cap:=by
 obtain⟨_,a,cap,rfl,_⟩:=h;exact⟨a,cap,rfl⟩
theorem xw (x y:List ByteArray) (i:Nat) (hx:i<x.length) (hy:i<y.length):
  cmpL (x.drop i) (y.drop i)=if iD (x.getD i ByteArray.empty) (y.getD i ByteArray.empty)≠0 then iD (x.getD i ByteArray.empty) (y.getD i ByteArray.empty) else cmpL (x.drop (i+1)) (y.drop (i+1)):=by
 rw[List.drop_eq_getElem_cons hx,List.drop_eq_getElem_cons hy,cmpL];simp[List.getD_eq_getElem?_getD,hx,hy]
theorem mQ (x y:List ByteArray) (i:Nat) (hx:x.length≤i):cmpL (x.drop i) (y.drop i)=if i<y.length then-1 else 0:=by
 rw[List.drop_eq_nil_of_le hx]
 by_cases hy:i<y.length
 ·rw[List.drop_eq_getElem_cons hy,if_pos hy];rfl
 ·rw[List.drop_eq_nil_of_le (by omega),if_neg hy];rfl
theorem sG (x y:List ByteArray) (i:Nat) (hx:i<x.length) (hy:y.length≤i):cmpL (x.drop i) (y.drop i)=1:=by
 rw[List.drop_eq_nil_of_le hy,List.drop_eq_getElem_cons hx];rfl
end Go.Proofs.YtafmbokfkbccaaaGreatDoor
namespace Go.Proofs.YtafmbokfkbccaaaGreatDoor
open Go.RowKit Go.Sort
set_option maxHeartbeats 400000 in
theorem Ep (x:ByteArray) (w:World):Calls Tryz.prog 256 #[.string x] w fun e w'=>e=.returned (.bool false)∧w'=w:=by
 go_enter Tryz.func256,Tryz.ntmps256
 go_wp2;go_ret;exact⟨by simp,rfl⟩
set_option maxHeartbeats 400000 in
theorem Er (x:Int) (w:World):Calls Tryz.prog 257 #[.int .i64 x] w fun e w'=>e=.returned (.bool false)∧w'=w:=by
 go_enter Tryz.func257,Tryz.ntmps257
 go_wp2;go_ret;exact⟨by simp,rfl⟩
set_option maxHeartbeats 400000 in
theorem jY (x y:ByteArray) (w:World):Calls Tryz.prog 194 #[.string x,.string y] w fun e w'=>e=.returned (.int .i64 (iD x y))∧w'=w:=by
 unfold iD;cases h:Op.bytesLess x.toList y.toList
 ·cases h2:(x.toList==y.toList)
  ·go_enter Tryz.func194,Tryz.ntmps194
   go_wp2_with (go_at_call 256;refine(Ep _ _).mono ?_;rintro e w' ⟨rfl,rfl⟩)
   go_ret;exact⟨by simp,rfl⟩
  ·go_enter Tryz.func194,Tryz.ntmps194
   go_wp2_with (go_at_call 256;refine(Ep _ _).mono ?_;rintro e w' ⟨rfl,rfl⟩)
   go_ret;exact⟨by simp,rfl⟩
 ·go_enter Tryz.func194,Tryz.ntmps194
  go_wp2_with (go_at_call 256;refine(Ep _ _).mono ?_;rintro e w' ⟨rfl,rfl⟩)
  go_ret;exact⟨by simp,rfl⟩
set_option maxHeartbeats 400000 in
theorem Bp (x y:Int) (w:World):Calls Tryz.prog 195 #[.int .i64 x,.int .i64 y] w fun e w'=>e=.returned (.int .i64 (sj x y))∧w'=w:=by
 unfold sj
 by_cases h:x<y
 ·go_enter Tryz.func195,Tryz.ntmps195
  go_wp2_with (go_at_call 257;refine(Er _ _).mono ?_;rintro e w' ⟨rfl,rfl⟩)
  go_ret;exact⟨by simp,rfl⟩
 ·by_cases h2:y<x
  ·go_enter Tryz.func195,Tryz.ntmps195
   go_wp2_with (go_at_call 257;refine(Er _ _).mono ?_;rintro e w' ⟨rfl,rfl⟩)
   go_ret;exact⟨by simp,rfl⟩
  ·go_enter Tryz.func195,Tryz.ntmps195
   go_wp2_with (go_at_call 257;refine(Er _ _).mono ?_;rintro e w' ⟨rfl,rfl⟩)
   go_ret;exact⟨by simp,rfl⟩
set_option maxHeartbeats 400000 in
theorem xA (a:Option Addr) (cap:Nat) (b:Option Addr) (n Cr:Nat) (w:World) (hn:n≤9223372036854775807):
  Calls Tryz.prog 196 #[.slice a 0 cap,.slice b n Cr] w fun e w'=>e=.returned (.int .i64 (if 0<n then-1 else 0))∧w'=w:=by
 by_cases h:0<n
 ·rw[if_pos h];have h':(0:Int)<(n:Int):=by omega
  go_enter Tryz.func196,Tryz.ntmps196
  go_wp2;refine wp_loop_rounds 1 ?_;rw[rounds_succ];go_wp2;go_ret;exact⟨rfl,rfl⟩
 ·rw[if_neg h];obtain rfl:n=0:=by omega
  go_enter Tryz.func196,Tryz.ntmps196
  go_wp2;refine wp_loop_rounds 1 ?_;rw[rounds_succ];go_wp2;go_ret;exact⟨rfl,rfl⟩
set_option maxHeartbeats 400000 in
theorem uY (b off n cap:Nat) (a2:Option Addr) (cap2:Nat) (s0:ByteArray) (w:World) (h0:0<n) (hn:n≤9223372036854775807) (hc:w.cell? ⟨b,off,none⟩=some (.string s0)):
  Calls Tryz.prog 196 #[.slice (some ⟨b,off,none⟩) n cap,.slice a2 0 cap2] w fun e w'=>e=.returned (.int .i64 1)∧w'=w:=by
 have h':(0:Int)<(n:Int):=by omega
 go_enter Tryz.func196,Tryz.ntmps196
 go_wp2;refine wp_loop_rounds 1 ?_;rw[rounds_succ];go_wp2;go_ret;exact⟨rfl,rfl⟩
set_option maxHeartbeats 1000000 in
theorem uZ (b off cap b2 off2 cap2:Nat) (x y:List ByteArray) (w:World) (hx:x.length≤9223372036854775807) (_hy:y.length≤9223372036854775807)
  (hc:∀i,i<x.length→w.cell? ⟨b,off+i,none⟩=some (.string (x.getD i ByteArray.empty))) (hd:∀i,i<y.length→w.cell? ⟨b2,off2+i,none⟩=some (.string (y.getD i ByteArray.empty))):
  Calls Tryz.prog 196 #[.slice (some ⟨b,off,none⟩) x.length cap,.slice (some ⟨b2,off2,none⟩) y.length cap2] w fun e w'=>e=.returned (.int .i64 (cmpL x y))∧w'=w:=by
 have HC:Hid _:=hc;have HD:Hid _:=hd;clear hc hd
 go_enter Tryz.func196,Tryz.ntmps196
 go_wp2
 go_loop [11] (fun i=>∃k:Nat,k≤x.length∧k≤y.length∧i=.int .i64 k∧Hid (cmpL x y=cmpL (x.drop k) (y.drop k))) (fun i=>x.length- (intOf i).toNat)
 case atStart=>exact⟨0,Nat.zero_le _,Nat.zero_le _,rfl,(by simp:cmpL x y=cmpL (x.drop 0) (y.drop 0))⟩
 case round=>
  obtain⟨k,hk,hk2,rfl,HE⟩:=hrel
  by_cases hlt:k<x.length
  ·have h1:=HC.out k hlt
   by_cases hlt2:k<y.length
   ·have h2:=HD.out k hlt2;have e:=xw x y k hlt hlt2;generalize x.getD k ByteArray.empty=sx at*;generalize y.getD k ByteArray.empty=sy at*;have E:Hid _:=e;clear e
    by_cases hz:iD sx sy=0
    ·go_wp2_with (go_at_call 194;refine(jY _ _ _).mono ?_;rintro e w' ⟨rfl,rfl⟩;rw[hz])
     go_round
     case rel=>
      refine⟨k+1,by omega,by omega,by go_num,?_⟩;show cmpL x y=_;rw[HE.out,E.out,if_neg (by omega)]
     case measure=>simp[intOf];omega
    ·have hz':(iD sx sy==0)=false:=by simpa using hz
     have F:Hid (cmpL x y=iD sx sy):=by show _=_;rw[HE.out,E.out,if_pos hz]
     generalize hr:iD sx sy=r at*;have R:Hid _:=hr;clear hr
     go_wp2_with (go_at_call 194;refine(jY _ _ _).mono ?_;rintro e w' ⟨rfl,rfl⟩;rw[R.out])
     go_ret;exact⟨uX F.out.symm,rfl⟩
   ·have F:Hid (cmpL x y=1):=by show _=_;rw[HE.out,sG x y k hlt (by omega)]
    go_wp2;go_ret;exact⟨uX F.out.symm,rfl⟩
  ·have F:Hid (cmpL x y=if k<y.length then-1 else 0):=by show _=_;rw[HE.out,mQ x y k (by omega)]
   obtain rfl:k=x.length:=by omega
   by_cases hy2:x.length<y.length
   ·go_wp2;go_ret;exact⟨uX (by rw[F.out,if_pos hy2]),rfl⟩
   ·go_wp2;go_ret;exact⟨uX (by rw[F.out,if_neg hy2]),rfl⟩
theorem Hu (v1 v2:Value) (x y:List ByteArray) (w:World) (h1:Strs w v1 x) (h2:Strs w v2 y):
  Calls Tryz.prog 196 #[v1,v2] w fun e w'=>e=.returned (.int .i64 (cmpL x y))∧w'=w:=by
 obtain⟨l1,a1,c1,rfl,r1⟩:=h1;obtain⟨l2,a2,c2,rfl,r2⟩:=h2;cases x with
 |nil=>
  have e:cmpL [] y=if 0<y.length then-1 else 0:=by cases y <;> simp[cmpL]
  rw[e];exact xA a1 c1 a2 y.length c2 w (by omega)
 |cons p x=>
  obtain⟨b,off,rfl,_,hc⟩:=r1 (by simp);cases y with
  |nil=>exact uY b off _ c1 a2 c2 p w (by simp) (by omega) (by simpa using hc 0 (by simp))
  |cons q y=>
   obtain⟨b2,off2,rfl,_,hd⟩:=r2 (by simp);exact uZ b off c1 b2 off2 c2 (p::x) (q::y) w (by omega) (by omega) hc hd
set_option maxHeartbeats 1000000 in
theorem jZ (v1 v2:Value) (f g:aG) (w:World) (h1:bW w v1 f) (h2:bW w v2 g):
  Calls Tryz.prog 128 #[v1,v2] w fun e w'=>e=.returned (.int .i64 (fM f g))∧Later w w':=by
 obtain⟨s1,rfl,k1⟩:=h1;obtain⟨s2,rfl,k2⟩:=h2;have l1:=k1.1;have l2:=k2.1;have hL:Hid (∀w',Later w w'→Calls Tryz.prog 196 #[s1,s2] w' fun e w''=>e=.returned (.int .i64 (cmpL f.2 g.2))∧w''=w'):=fun w' hw=>Hu s1 s2 _ _ w' (k1.later hw) (k2.later hw);obtain⟨a1,c1,rfl⟩:=aZ k1;obtain⟨a2,c2,rfl⟩:=aZ k2;clear k1 k2;obtain⟨n1,x⟩:=f;obtain⟨n2,y⟩:=g;unfold fM;dsimp only at*
 by_cases hz:iD n1 n2=0
 ·by_cases hi:sj x.length y.length=0
  ·rw[if_neg (by omega),if_neg (by omega)]
   go_enter Tryz.func128,Tryz.ntmps128
   go_wp2_with (first
    |(go_at_call 194;refine(jY _ _ _).mono ?_;rintro e w' ⟨rfl,rfl⟩;rw[hz])
    |(go_at_call 195;refine(Bp _ _ _).mono ?_;rintro e w' ⟨rfl,rfl⟩;rw[hi])
    |(go_at_call 196;refine(hL.out _ (((Later.refl _).alloc _).alloc _)).mono ?_;rintro e w' ⟨rfl,rfl⟩))
   go_ret;exact⟨rfl,((Later.refl _).alloc _).alloc _⟩
  ·rw[if_neg (by omega),if_pos hi];have hi':(sj x.length y.length==0)=false:=by simpa using hi
   generalize hr:sj x.length y.length=r at*;have R:Hid _:=hr;clear hr
   go_enter Tryz.func128,Tryz.ntmps128
   go_wp2_with (first
    |(go_at_call 194;refine(jY _ _ _).mono ?_;rintro e w' ⟨rfl,rfl⟩;rw[hz])
    |(go_at_call 195;refine(Bp _ _ _).mono ?_;rintro e w' ⟨rfl,rfl⟩;rw[R.out]))
   go_ret;exact⟨rfl,((Later.refl _).alloc _).alloc _⟩
 ·rw[if_pos hz];have hz':(iD n1 n2==0)=false:=by simpa using hz
  generalize hr:iD n1 n2=r at*;have R:Hid _:=hr;clear hr
  go_enter Tryz.func128,Tryz.ntmps128
  go_wp2_with (go_at_call 194;refine(jY _ _ _).mono ?_;rintro e w' ⟨rfl,rfl⟩;rw[R.out])
  go_ret;exact⟨rfl,((Later.refl _).alloc _).alloc _⟩
end Go.Proofs.YtafmbokfkbccaaaGreatDoor
