import Derived.Test.YtafmbokfkbccaaaGreatDoorJW2
namespace Go.Proofs.YtafmbokfkbccaaaGreatDoor
theorem fU {r:aA} {fs x:List aj} (hc:Covers r.body) (h:dX r fs=some x) (f:aj):f∈x↔∃env,iU (fun _=>fs) r.body env∧aR r.head env=some f:=by
 unfold dX at h;cases e:lW (fun _=>fs) r.body with
 |none=>rw[e] at h;cases h
 |some R=>
  rw[e] at h;cases h;rw[bO,List.mem_filterMap];exact⟨fun⟨l,hl,hf⟩=>⟨l,(lZ hc e l).1 hl,hf⟩,fun⟨l,hl,hf⟩=>⟨l,(lZ hc e l).2 hl,hf⟩⟩
theorem jh {a:aF} {l:List aC} {f:aj} (h:aR a l=some f):f.1=bs a.name∧aJ l a.terms=some f.2:=by
 unfold aR at h;cases e:aJ l a.terms with
 |none=>rw[e] at h;cases h
 |some r=>rw[e] at h;cases h;exact⟨rfl,rfl⟩
theorem BI {fs gs:List aj} {body:List aF} {env:List aC} (hpos:∀a∈body,a.no=false→∀f:aj,f.1=bs a.name→f∈fs→f∈gs)
  (hneg:∀a∈body,a.no=true→∀f:aj,f.1=bs a.name→f∈gs→f∈fs) (h:iU (fun _=>fs) body env):iU (fun _=>gs) body env:=by
 obtain⟨h1,h2,h3,h4⟩:=h;refine⟨h1,h2,h3,cZ.2 fun a ha=> ?_⟩;obtain⟨f,hf,hi⟩:=cZ.1 h4 a ha;refine⟨f,hf,?_⟩;have hn:=(jh hf).1;cases hno:a.no with
 |false=>
  rw[hno] at hi;exact aN.2 (hpos a ha hno f hn (aN.1 hi))
 |true=>
  rw[hno] at hi;cases e:inB gs f with
  |false=>rfl
  |true=>rw[aN.2 (hneg a ha hno f hn (aN.1 e))] at hi;cases hi
def gV (f:aj):Prop:=isNamed (raw f.1)=true∧f.2.length≤4∧∀s∈f.2,isNamed (raw s)=true
theorem qO {l:List aC}:∀{ts:List cO} {r:List ByteArray},aJ l ts=some r→∀t∈ts,∃u∈r,aV l t=some u
 |[],_,_=>fun _ h=>by cases h
 |t::ts,r,h=>fun u hu=>by
  simp only[aJ] at h;cases e:aV l t with
  |none=>rw[e] at h;cases h
  |some s=>
   rw[e] at h;dsimp only at h;cases e2:aJ l ts with
   |none=>rw[e2] at h;cases h
   |some q=>
    rw[e2] at h;cases h;rcases List.mem_cons.1 hu with rfl|hu
    ·exact⟨s,by simp,e⟩
    ·obtain⟨v,hv,hw⟩:=qO e2 u hu;exact⟨v,by simp[hv],hw⟩
theorem ng {l:List aC}:∀{ts:List cO} {r:List ByteArray},aJ l ts=some r→∀u∈r,∃t∈ts,aV l t=some u
 |[],_,h=>fun _ hu=>by cases h;cases hu
 |t::ts,r,h=>fun u hu=>by
  simp only[aJ] at h;cases e:aV l t with
  |none=>rw[e] at h;cases h
  |some s=>
   rw[e] at h;dsimp only at h;cases e2:aJ l ts with
   |none=>rw[e2] at h;cases h
   |some q=>
    rw[e2] at h;cases h;rcases List.mem_cons.1 hu with rfl|hu
    ·exact⟨t,by simp,e⟩
    ·obtain⟨v,hv,hw⟩:=ng e2 u hu;exact⟨v,by simp[hv],hw⟩
theorem yA {fs:List aj} {body:List aF} {env:List aC} (hr:∀f∈fs,gV f) (h:iU (fun _=>fs) body env) {v s:ByteArray} (hg:bQ env v=some s):isNamed (raw s)=true:=by
 obtain⟨_,_,h3,h4⟩:=h;have hk0:v∈bH env:=List.mem_map.2 ⟨_,pU hg,rfl⟩;obtain⟨k,hk,rfl⟩:=List.mem_map.1 ((h3 v).1 hk0);rcases(gQ body).1 hk with hk|⟨a,ha,hno,t,ht,ht1,rfl⟩
 ·cases hk
 obtain⟨f,hf,hi⟩:=cZ.1 h4 a ha;rw[hno] at hi;obtain⟨u,hu,hw⟩:=qO (jh hf).2 t ht;unfold aV at hw;rw[if_pos ht1,hg] at hw;cases hw;exact(hr f (aN.1 hi)).2.2 _ hu
theorem qP {a:aF} (h:aO a=0):isNamed a.name=true∧a.terms.length≤4∧∀t∈a.terms,bJ t=false:=by
 unfold aO at h;split at h
 ·cases h
 ·rename_i h1;split at h
  ·cases h
  ·rename_i h2;split at h
   ·cases h
   ·rename_i h3;refine⟨by simpa using h1,by omega,fun t ht=> ?_⟩;cases e:bJ t with
    |false=>rfl
    |true=>exact absurd (List.any_eq_true.2 ⟨t,ht,e⟩) h3
theorem nV {r:aA} {fs:List aj} {env:List aC} {f:aj} (hR:kK r) (hr:∀f∈fs,gV f) (h:iU (fun _=>fs) r.body env) (hf:aR r.head env=some f):
  gV f∧f.1=bs r.head.name∧f.2.length=r.head.terms.length:=by
 obtain⟨h1,h2⟩:=jh hf;obtain⟨h3,h4,h5⟩:=qP hR.head;have hl:=jq h2;refine⟨⟨by rw[h1,ig];exact h3,by omega,fun s hs=> ?_⟩,h1,hl⟩;obtain⟨t,ht,hw⟩:=ng h2 s hs;unfold aV at hw;split at hw
 ·exact yA hr h hw
 ·rename_i ht1;cases hw;have:=h5 t ht;unfold bJ at this;rw[if_neg ht1] at this;rw[ig];simpa using this
structure GoodS (p:List aA) (L:List aj):Prop where
 up:Up L
 right:∀f∈L,gV f
 few:L.length≤200
 fit:∀f∈L,sS p f=true
theorem BJ {p:List aA} {f:aj}:sS p f=true↔∀a∈fM p,bs a.name=f.1→a.terms.length=f.2.length:=by
 unfold sS fM;simp only[List.all_eq_true,Bool.or_eq_true,Bool.not_eq_true',decide_eq_false_iff_not,decide_eq_true_eq,List.mem_flatMap]
 constructor
 ·rintro h a ⟨r,hr,ha⟩ e;exact(h r hr a ha).resolve_left fun hn=>hn e
 ·intro h r hr a ha
  by_cases e:bs a.name=f.1
  ·exact Or.inr (h a ⟨r,hr,ha⟩ e)
  ·exact Or.inl e
theorem BK {p:List aA} (hp:bZ p) {r:aA} (hr:r∈p) {f:aj} (h1:f.1=bs r.head.name) (h2:f.2.length=r.head.terms.length):sS p f=true:=
 BJ.2 fun a ha e=>by
  rw[h2];exact hp.even a ha r.head (List.mem_flatMap.2 ⟨r,hr,by simp⟩) (qj (e.trans h1))
theorem bL {r:aA} (h:kK r):Covers r.body:=qD h.body
theorem gL {n:Int} {fs:List aj} (σ:aA→Nat):∀{p:List aA} {acc S:List aj},eZ n fs p (p.map σ) acc=(0,S)→
  (∀r∈p,(σ r:Int)=n→∃x,dX r fs=some x∧∀f∈x,f∈S)∧(∀f∈acc,f∈S)∧(∀f∈S,f∈acc∨∃r∈p,(σ r:Int)=n∧∃x,dX r fs=some x∧f∈x)∧Up S∧((eY acc).length≤200→S.length≤200)
 |[],acc,S,h=>by
  simp only[eZ,Prod.mk.injEq,true_and] at h;subst h;exact⟨fun _ h=>(by cases h),fun f hf=>bO.2 hf,fun f hf=>Or.inl (bO.1 hf),gF _,id⟩
 |r::p,acc,S,h=>by
  simp only[eZ,List.map_cons] at h;split at h
  ·rename_i hs;split at h
   ·simp at h
   ·rename_i x hx;split at h
    ·simp at h
    ·rename_i hlen;obtain⟨h1,h2,h3,h4,h5⟩:=gL σ h;refine⟨fun q hq hqn=> ?_,fun f hf=>h2 f (by simp[hf]),fun f hf=> ?_,h4,fun _=>h5 (by omega)⟩
     ·rcases List.mem_cons.1 hq with rfl|hq
      ·exact⟨x,hx,fun f hf=>h2 f (by simp[hf])⟩
      ·exact h1 q hq hqn
     ·rcases h3 f hf with hf|⟨q,hq,hqn,y,hy,hf⟩
      ·rcases List.mem_append.1 hf with hf|hf
       ·exact Or.inl hf
       ·exact Or.inr ⟨r,by simp,hs,x,hx,hf⟩
      ·exact Or.inr ⟨q,by simp[hq],hqn,y,hy,hf⟩
  ·rename_i hs;obtain⟨h1,h2,h3,h4,h5⟩:=gL σ h;refine⟨fun q hq hqn=> ?_,h2,fun f hf=> ?_,h4,h5⟩
   ·rcases List.mem_cons.1 hq with rfl|hq
    ·exact absurd hqn hs
    ·exact h1 q hq hqn
   ·rcases h3 f hf with hf|⟨q,hq,hqn,y,hy,hf⟩
    ·exact Or.inl hf
    ·exact Or.inr ⟨q,by simp[hq],hqn,y,hy,hf⟩
theorem qQ {n:Int} {fs:List aj} (σ:aA→Nat) {T:List aj} (hT:T.length≤200):∀{p:List aA} {acc:List aj},(∀r∈p,(σ r:Int)=n→∃x,dX r fs=some x∧∀f∈x,f∈T)→(∀f∈acc,f∈T)→
  (eZ n fs p (p.map σ) acc).1=0
 |[],acc,_,_=>rfl
 |r::p,acc,h,ha=>by
  simp only[eZ,List.map_cons];split
  ·rename_i hs;obtain⟨x,hx,hxT⟩:=h r (by simp) hs;rw[hx];have hsub:∀f∈acc++x,f∈T:=fun f hf=>(List.mem_append.1 hf).elim (ha f) (hxT f);have hlen:=sQ (gF (acc++x)) fun f hf=>hsub f (bO.1 hf);dsimp only;rw[if_neg (by omega)];exact qQ σ hT (fun q hq=>h q (by simp[hq])) hsub
  ·exact qQ σ hT (fun q hq=>h q (by simp[hq])) ha
theorem nW {n:Int} {fs:List aj}:∀{p:List aA} {ss:List Nat} {acc:List aj},(eZ n fs p ss acc).1=0∨eZ n fs p ss acc=(4,[])∨eZ n fs p ss acc=(5,[])
 |[],_,_=>Or.inl rfl
 |_::_,[],_=>Or.inl rfl
 |r::p,s::ss,acc=>by
  simp only[eZ];split
  ·split
   ·exact Or.inr (Or.inl rfl)
   ·split
    ·exact Or.inr (Or.inr rfl)
    ·exact nW
  ·exact nW
theorem jM {p:List aA} (hp:bZ p) (σ:aA→Nat) {n:Int} {L S:List aj} (hL:GoodS p L) (h:bT p (p.map σ) n L=(0,S)):GoodS p S∧∀f∈L,f∈S:=by
 obtain⟨h1,h2,h3,h4,h5⟩:=gL σ h;have key:∀f∈S,f∈L∨(gV f∧sS p f=true):=fun f hf=>by
  rcases h3 f hf with hf|⟨r,hr,_,x,hx,hf⟩
  ·exact Or.inl hf
  ·obtain⟨env,he,iJ⟩:=(fU (bL (hp.rules r hr)) hx f).1 hf;obtain⟨a,b,c⟩:=nV (hp.rules r hr) hL.right he iJ;exact Or.inr ⟨a,BK hp hr b c⟩
 refine⟨⟨h4,fun f hf=>(key f hf).elim (hL.right f) (·.1),h5 (by rw[oQ hL.up];exact hL.few),fun f hf=>(key f hf).elim (hL.fit f) (·.2)⟩,h2⟩
inductive Walks (p:List aA) (ss:List Nat) (n:Int):List aj→List aj→Prop
 |stop {L:List aj}:bT p ss n L=(0,L)→Walks p ss n L L
 |go {L L' M:List aj}:bT p ss n L=(0,L')→Walks p ss n L' M→Walks p ss n L M
theorem uj {p:List aA} (hp:bZ p) (σ:aA→Nat) {n:Int}:∀(k:Nat) {L M:List aj},GoodS p L→dI p (p.map σ) n k L=(0,M)→200<L.length+k→Walks p (p.map σ) n L M
 |0,L,M,hL,_,hk=>by have:=hL.few;omega
 |k+1,L,M,hL,h,hk=>by
  unfold dI at h;obtain⟨e,x,hx⟩:∃e x,bT p (p.map σ) n L=(e,x):=⟨_,_,rfl⟩;rw[hx] at h;dsimp only at h;split at h
  ·rename_i he;simp at h;exact absurd h.1 he
  ·rename_i he;have he:e=0:=by simpa using he
   subst he;obtain⟨g1,g2⟩:=jM hp σ hL hx;split at h
   ·rename_i hlen;have e:L=x:=Ad hL.up g1.up g2 (by omega);simp at h;subst h;subst e;exact .stop hx
   ·rename_i hlen;have:=sQ hL.up g2;exact .go hx (uj hp σ k g1 h (by omega))
theorem yB {p:List aA} (hp:bZ p) (σ:aA→Nat) {n:Int} {P:List aj→Prop} (hP:∀L L',GoodS p L→P L→bT p (p.map σ) n L=(0,L')→P L') {L M:List aj} (h:Walks p (p.map σ) n L M):
  GoodS p L→P L→GoodS p M∧P M∧bT p (p.map σ) n M=(0,M)∧∀f∈L,f∈M:=by
 induction h with
 |stop h=>exact fun hL hPL=>⟨hL,hPL,h,fun _ h=>h⟩
 |go h _ ih=>
  intro hL hPL;obtain⟨g1,g2⟩:=jM hp σ hL h;obtain⟨a,b,c,d⟩:=ih g1 (hP _ _ hL hPL h);exact⟨a,b,c,fun f hf=>d f (g2 f hf)⟩
theorem ET {p:List aA} (hp:bZ p) (σ:aA→Nat) {P:Nat→List aj→Prop} (hP:∀(n:Nat) L M,GoodS p L→P n L→Walks p (p.map σ) n L M→P (n+1) M):
  ∀(c n:Nat) {L M:List aj},GoodS p L→P n L→gZ p (p.map σ) c n L=(0,M)→GoodS p M∧P (n+c) M∧∀f∈L,f∈M
 |0,n,L,M,hL,hPL,h=>by
  simp[gZ] at h;subst h;exact⟨hL,hPL,fun _ h=>h⟩
 |c+1,n,L,M,hL,hPL,h=>by
  unfold gZ at h;obtain⟨e,x,hx⟩:∃e x,dI p (p.map σ) n 201 L=(e,x):=⟨_,_,rfl⟩;rw[hx] at h;dsimp only at h;split at h
  ·rename_i he;simp at h;exact absurd h.1 he
  ·rename_i he;have he:e=0:=by simpa using he
   subst he;have hw:=uj hp σ 201 hL hx (by omega);obtain⟨g1,_,_,g2⟩:=yB hp σ (P:=fun _=>True) (fun _ _ _ _ _=>trivial) hw hL trivial;obtain⟨a,b,d⟩:=ET hp σ hP c (n+1) g1 (hP n L x hL hPL hw) h;exact⟨a,by rw[show n+(c+1)=n+1+c by omega];exact b,fun f hf=>d f (g2 f hf)⟩
structure Way (p:List aA) (τ:Bs→Nat) (l:List aj) (n m:Nat) (L:List aj):Prop where
 told:∀f∈l,f∈L
 of:∀f∈L,f∉l→∃r∈p,τ r.head.name<m∧f.1=bs r.head.name
 closed:∀r∈p,τ r.head.name<n→∀env f,iU (fun _=>L) r.body env→aR r.head env=some f→f∈L
 made:∀f∈L,f∉l→∃r∈p,τ r.head.name<m∧∃env,iU (fun _=>L) r.body env∧aR r.head env=some f
theorem H6 {p:List aA} (hp:bZ p) {τ:Bs→Nat} (hτ:Sol p τ) {l:List aj} {n:Nat} {L L':List aj} (hw:Way p τ l n (n+1) L) (h:bT p (p.map fun r=>τ r.head.name) n L=(0,L')):Way p τ l n (n+1) L':=by
 obtain⟨h1,h2,h3,h4,h5⟩:=gL (fun r=>τ r.head.name) h;have hnew:∀f∈L',f∈L∨∃r∈p,τ r.head.name=n∧∃env,iU (fun _=>L) r.body env∧aR r.head env=some f∧f.1=bs r.head.name:=fun f hf=>by
  rcases h3 f hf with hf|⟨r,hr,hn,x,hx,hf⟩
  ·exact Or.inl hf
  ·obtain⟨env,he,iJ⟩:=(fU (bL (hp.rules r hr)) hx f).1 hf;exact Or.inr ⟨r,hr,Int.ofNat.inj hn,env,he,iJ,(jh iJ).1⟩
 have hold:∀r∈p,∀a∈r.body,τ r.head.name<n+step a→∀f:aj,f.1=bs a.name→f∈L'→f∈L:=fun r hr a ha hlt f hfn hf=>by
  rcases hnew f hf with hf|⟨q,hq,hqn,_,_,_,hqf⟩
  ·exact hf
  ·exfalso
   have e:a.name=q.head.name:=qj (hfn.symm.trans hqf);have:=hτ r hr a ha ⟨q,hq,e.symm⟩;rw[e] at this;omega
 have hfits:∀r∈p,τ r.head.name<n+1→∀env,iU (fun _=>L) r.body env→iU (fun _=>L') r.body env:=fun r hr hrn env he=>
  BI (fun a _ _ f _ hf=>h2 f hf) (fun a ha hno f hfn hf=>hold r hr a ha (by simp only[step,hno,if_true];omega) f hfn hf) he
 refine⟨fun f hf=>h2 f (hw.told f hf),fun f hf hfl=> ?_,fun r hr hrn env f he iJ=> ?_,fun f hf hfl=> ?_⟩
 ·rcases hnew f hf with hf|⟨q,hq,hqn,_,_,_,hqf⟩
  ·exact hw.of f hf hfl
  ·exact⟨q,hq,by omega,hqf⟩
 ·refine h2 f (hw.closed r hr hrn env f (BI (fun a ha hno f hfn hf=>hold r hr a ha (by omega) f hfn hf) (fun a _ _ f _ hf=>h2 f hf) he) iJ)
 ·rcases hnew f hf with hf|⟨q,hq,hqn,env,he,iJ,_⟩
  ·obtain⟨r,hr,hrn,env,he,iJ⟩:=hw.made f hf hfl;exact⟨r,hr,hrn,env,hfits r hr hrn env he,iJ⟩
  ·exact⟨q,hq,by omega,env,hfits q hq (by omega) env he,iJ⟩
theorem EU {p:List aA} (hp:bZ p) {τ:Bs→Nat} (hτ:Sol p τ) {l:List aj} {n:Nat} {L M:List aj} (hL:GoodS p L) (hw:Way p τ l n n L) (h:Walks p (p.map fun r=>τ r.head.name) n L M):Way p τ l (n+1) (n+1) M:=by
 have h0:Way p τ l n (n+1) L:=⟨hw.told,fun f hf hn=>by obtain⟨r,hr,h1,h2⟩:=hw.of f hf hn;exact⟨r,hr,by omega,h2⟩,hw.closed,fun f hf hn=>by obtain⟨r,hr,h1,h2⟩:=hw.made f hf hn;exact⟨r,hr,by omega,h2⟩⟩;obtain⟨g,hm,hfix,_⟩:=yB hp (fun r=>τ r.head.name) (P:=Way p τ l n (n+1)) (fun L L' _ hw ho=>H6 hp hτ hw ho) h hL h0;obtain⟨h1,_⟩:=gL (fun r=>τ r.head.name) hfix;refine⟨hm.told,hm.of,fun r hr hrn env f he iJ=> ?_,hm.made⟩
 by_cases e:τ r.head.name<n
 ·exact hm.closed r hr e env f he iJ
 ·have e2:τ r.head.name=n:=by omega
  obtain⟨x,hx,hxm⟩:=h1 r hr (by rw[e2]);exact hxm f ((fU (bL (hp.rules r hr)) hx f).2 ⟨env,he,iJ⟩)
theorem Al {p:List aA} (hp:bZ p) {τ:Bs→Nat} (hτ:Sol p τ) {l m:List aj} (hl:GoodS p l) (h:gZ p (p.map fun r=>τ r.head.name) (countP (p.map fun r=>τ r.head.name)) 0 l=(0,m)):
  GoodS p m∧Way p τ l (countP (p.map fun r=>τ r.head.name)) (countP (p.map fun r=>τ r.head.name)) m:=by
 have h0:Way p τ l 0 0 l:=⟨fun _ h=>h,fun f hf hn=>absurd hf hn,fun r _ h=>by omega,fun f hf hn=>absurd hf hn⟩;obtain⟨a,b,_⟩:=ET hp (fun r=>τ r.head.name) (P:=fun n=>Way p τ l n n) (fun n L M hL hw hW=>EU hp hτ hL hw hW) _ 0 hl h0 h;exact⟨a,by rw[Nat.zero_add] at b;exact b⟩
theorem qR {p:List aA} (hp:bZ p) {τ:Bs→Nat} (hτ:Sol p τ) {l m:List aj} (hl:GoodS p l) (h:gZ p (p.map fun r=>τ r.head.name) (countP (p.map fun r=>τ r.head.name)) 0 l=(0,m)):
  (∀f∈l,f∈m)∧∀r∈p,∀x,dX r m=some x→∀f∈x,f∈m:=by
 obtain⟨_,hw⟩:=Al hp hτ hl h;refine⟨hw.told,fun r hr x hx f hf=> ?_⟩;obtain⟨env,he,iJ⟩:=(fU (bL (hp.rules r hr)) hx f).1 hf;exact hw.closed r hr (mV (List.mem_map.2 ⟨r,hr,rfl⟩)) env f he iJ
theorem C8 {p:List aA} (hp:bZ p) {τ:Bs→Nat} (hτ:Sol p τ) {l m:List aj} (hl:GoodS p l) (h:gZ p (p.map fun r=>τ r.head.name) (countP (p.map fun r=>τ r.head.name)) 0 l=(0,m)) (hs:∀r∈p,∃x,dX r m=some x):
  ∀f,f∈m↔f∈l∨∃r∈p,∃x,dX r m=some x∧f∈x:=by
 obtain⟨_,hw⟩:=Al hp hτ hl h;obtain⟨m1,m2⟩:=qR hp hτ hl h;intro f
 constructor
 ·intro hf
  by_cases hfl:f∈l
  ·exact Or.inl hfl
  ·obtain⟨r,hr,_,env,he,iJ⟩:=hw.made f hf hfl;obtain⟨x,hx⟩:=hs r hr;exact Or.inr ⟨r,hr,x,hx,(fU (bL (hp.rules r hr)) hx f).2 ⟨env,he,iJ⟩⟩
 ·rintro(hf|⟨r,hr,x,hx,hf⟩)
  ·exact m1 f hf
  ·exact m2 r hr x hx f hf
end Go.Proofs.YtafmbokfkbccaaaGreatDoor
namespace Go.Proofs.YtafmbokfkbccaaaGreatDoor
def J2 {α:Type} (c:α→α→Int) (x:α):List α→List α
 |[]=>[x]
 |y::l=>if c x y≤0 then x::y::l else y::J2 c x l
def kM {α:Type} (c:α→α→Int):List α→List α
 |[]=>[]
 |x::l=>J2 c x (kM c l)
section
variable {α:Type} {c:α→α→Int}
theorem qU (x:α):∀l:List α,(J2 c x l).Perm (x::l)
 |[]=>List.Perm.refl _
 |y::l=>by
  unfold J2;split
  ·exact List.Perm.refl _
  ·exact((qU x l).cons y).trans (List.Perm.swap x y l)
theorem qV:∀l:List α,(kM c l).Perm l
 |[]=>List.Perm.refl _
 |x::l=>(qU x _).trans ((qV l).cons x)
theorem qW (h:Three c) (x:α):∀l:List α,(l.Pairwise fun a b=>c a b≤0)→(J2 c x l).Pairwise fun a b=>c a b≤0
 |[],_=>by simp[J2]
 |y::l,hl=>by
  have hl':=List.pairwise_cons.1 hl;unfold J2;split
  ·rename_i hxy;refine List.pairwise_cons.2 ⟨fun z hz=> ?_,hl⟩;rcases List.mem_cons.1 hz with rfl|hz
   ·exact hxy
   ·exact h.le_trans hxy (hl'.1 z hz)
  ·rename_i hxy;refine List.pairwise_cons.2 ⟨fun z hz=> ?_,qW h x l hl'.2⟩;rcases List.mem_cons.1 ((qU x l).mem_iff.1 hz) with rfl|hz
   ·have:=h.swap z y;omega
   ·exact hl'.1 z hz
theorem ni (h:Three c):∀l:List α,(kM c l).Pairwise fun a b=>c a b≤0
 |[]=>List.Pairwise.nil
 |x::l=>qW h x _ (ni h l)
theorem jN (h:Three c) (l:List α):iW c l=kM c l:=(qB h (qV l) (ni h l)).symm
end
def eS (a b:ByteArray):Int:=if Op.bytesLess a.data.toList b.data.toList then-1 else if a.data.toList==b.data.toList then 0 else 1
def eL:List ByteArray→List ByteArray→Int
 |[],[]=>0
 |[],_::_=> -1
 |_::_,[]=>1
 |a::x,b::y=>if eS a b≠0 then eS a b else eL x y
def eF (f g:aj):Int:=if eS f.1 g.1≠0 then eS f.1 g.1 else if tK f.2.length g.2.length≠0 then tK f.2.length g.2.length else eL f.2 g.2
def eB (a b:aC):Int:=if eS a.1 b.1≠0 then eS a.1 b.1 else eS a.2 b.2
theorem J3:iX=eS:=by funext a b;unfold iX eS;rw[Lib.toList_data,Lib.toList_data]
theorem OD:cmpL=eL:=by
 funext x y
 induction x generalizing y with
 |nil=>cases y <;> rfl
 |cons a x ih=>cases y with
  |nil=>rfl
  |cons b y=>simp only[cmpL,eL,J3,ih]
theorem J4:gu=eF:=by funext f g;unfold gu eF;rw[J3,OD]
theorem Am:sM=eB:=by funext a b;unfold sM eB;rw[J3]
def El (l:List aj):List aj:=kM eF (fH l)
theorem qX (l:List aj):eY l=El l:=by unfold eY El;rw[jN aQ,J4]
def allI (fs:List aj) (body:List aF):Option (List (List aC)):=match eH (fun _=>fs) 0 body [[]] with
 |none=>none
 |some ms=>some (kM (qC eB) ((ms.filter fun l=> !barredB (fun _=>fs) 0 body l).map (kM eB)))
theorem J5 (fs:List aj) (body:List aF):lW (fun _=>fs) body=allI fs body:=by
 have e1:(jK:List aC→List aC)=kM eB:=by funext l;show iW sM l=_;rw[jN gy,Am]
 unfold lW allI;cases eH (fun _=>fs) 0 body [[]] with
 |none=>rfl
 |some ms=>
  dsimp only;rw[jN gP,e1,show iI=qC eB from by rw[←Am]]
def uo (r:aA) (fs:List aj):Option (List aj):=match allI fs r.body with
 |none=>none
 |some R=>some (El (R.filterMap fun l=>aR r.head l))
theorem yC (r:aA) (fs:List aj):dX r fs=uo r fs:=by
 unfold dX uo;rw[J5];cases allI fs r.body with
 |none=>rfl
 |some R=>dsimp only;rw[qX]
def yD (n:Int) (fs:List aj):List aA→List Nat→List aj→Int×List aj
 |[],_,acc=>(0,El acc)
 |_::_,[],acc=>(0,El acc)
 |r::p,s::ss,acc=>if(s:Int)=n then
   match uo r fs with
   |none=>(4,[])
   |some x=>if 200<(El (acc++x)).length then(5,[]) else yD n fs p ss (acc++x)
  else yD n fs p ss acc
theorem wD (n:Int) (fs:List aj):∀(p:List aA) (ss:List Nat) (acc:List aj),eZ n fs p ss acc=yD n fs p ss acc
 |[],_,acc=>by simp only[eZ,yD,qX]
 |_::_,[],acc=>by simp only[eZ,yD,qX]
 |r::p,s::ss,acc=>by
  simp only[eZ,yD];rw[yC];split
  ·cases uo r fs with
   |none=>rfl
   |some x=>
    dsimp only;rw[qX,wD n fs p ss]
  ·exact wD n fs p ss acc
def EW (p:List aA) (ss:List Nat) (n:Int):Nat→List aj→Int×List aj
 |0,l=>(0,l)
 |k+1,l=>match yD n l p ss l with
  |(e,x)=>if e≠0 then(e,[]) else if x.length=l.length then(0,x) else EW p ss n k x
theorem BL (p:List aA) (ss:List Nat) (n:Int):∀(k:Nat) (l:List aj),dI p ss n k l=EW p ss n k l
 |0,l=>rfl
 |k+1,l=>by
  unfold dI EW bT;rw[wD];obtain⟨e,x,h⟩:∃e x,yD n l p ss l=(e,x):=⟨_,_,rfl⟩;rw[h];dsimp only;rw[BL p ss n k x]
def Mg (p:List aA) (ss:List Nat):Nat→Nat→List aj→Int×List aj
 |0,_,l=>(0,l)
 |c+1,n,l=>match EW p ss n 201 l with
  |(e,x)=>if e≠0 then(e,[]) else Mg p ss c (n+1) x
theorem EX (p:List aA) (ss:List Nat):∀(c n:Nat) (l:List aj),gZ p ss c n l=Mg p ss c n l
 |0,n,l=>rfl
 |c+1,n,l=>by
  unfold gZ Mg;rw[BL];obtain⟨e,x,h⟩:∃e x,EW p ss n 201 l=(e,x):=⟨_,_,rfl⟩;rw[h];dsimp only;rw[EX p ss c (n+1) x]
end Go.Proofs.YtafmbokfkbccaaaGreatDoor
namespace Go.Proofs.YtafmbokfkbccaaaGreatDoor
structure kN where
 known:List aj
 fresh:List aj
 level:Int
 rounds:Int
 done:Bool
def l7:kN:=⟨[],[],0,0,false⟩
def Em (K N:List aj) (r:aA):Nat→List aF→List aj→Option (List aj)
 |_,[],acc=>some acc
 |k,a::l,acc=>if a.no then Em K N r (k+1) l acc else
  match lW (gT K k N) r.body with
  |none=>none
  |some R=>Em K N r (k+1) l (acc++R.filterMap fun e=>aR r.head e)
def Jq (K N:List aj) (r:aA) (acc:List aj):Option (List aj):=if r.body.all (·.no) then
  match dX r K with
  |none=>none
  |some x=>some (acc++x)
 else Em K N r 0 r.body acc
def fV (K N:List aj) (st:Int):List aA→List Nat→List aj→Option (List aj)
 |[],_,acc=>some acc
 |_::_,[],acc=>some acc
 |r::p,s::ss,acc=>if(s:Int)=st then
   match Jq K N r acc with
   |none=>none
   |some acc'=>fV K N st p ss acc'
  else fV K N st p ss acc
def qY (K acc:List aj):List aj:=eY (acc.filter fun f=> !inB K f)
def jB (p:List aA) (ss:List Nat) (r:kN):Int×kN:=if r.rounds=1000 then(5,l7) else
 match fV r.known r.fresh r.level p ss [] with
 |none=>(4,l7)
 |some acc=>if 200<(eY (r.known++acc)).length then(5,l7) else
  if qY r.known acc=[] then(0,⟨eY (r.known++acc),eY (r.known++acc),r.level+1,r.rounds+1,decide (r.level+1=countP ss)⟩)
  else(0,⟨eY (r.known++acc),qY r.known acc,r.level,r.rounds+1,false⟩)
def fq (p:List aA) (ss:List Nat):Nat→kN→Int×kN
 |0,r=>(0,r)
 |n+1,r=>if r.done then(0,r) else if(jB p ss r).1≠0 then((jB p ss r).1,l7) else fq p ss n (jB p ss r).2
theorem ny {K acc:List aj} {f:aj}:f∈qY K acc↔f∈acc∧f∉K:=by
 unfold qY;rw[bO,List.mem_filter]
 constructor
 ·rintro⟨h1,h2⟩;exact⟨h1,fun h=>by rw[aN.2 h] at h2;cases h2⟩
 ·rintro⟨h1,h2⟩;refine⟨h1,?_⟩;cases h:inB K f
  ·rfl
  ·exact absurd (aN.1 h) h2
def Makes (K N:List aj) (r:aA) (f:aj):Prop:=(r.body.all (·.no)=true∧∃env,iU (fun _=>K) r.body env∧aR r.head env=some f)∨
 (¬r.body.all (·.no)=true∧∃i a env,r.body[i]?=some a∧a.no=false∧iU (gT K (i:Nat) N) r.body env∧aR r.head env=some f)
theorem at_mem {K N:List aj} {r:aA}:∀{l:List aF} {k:Nat} {acc S:List aj},Em K N r k l acc=some S→∀f,f∈S↔f∈acc∨∃i a,l[i]?=some a∧a.no=false∧∃R,lW (gT K ((k+i:Nat):Int) N) r.body=some R∧∃e∈R,aR r.head e=some f
 |[],k,acc,S,h,f=>by
  simp only[Em,Option.some.injEq] at h;subst h;refine⟨Or.inl,fun h=>h.elim id ?_⟩;rintro⟨i,a,h,_⟩;simp at h
 |a::l,k,acc,S,h,f=>by
  unfold Em at h;split at h
  ·rename_i hn;rw[at_mem h f]
   constructor
   ·rintro(h|⟨i,b,h1,h2,h3⟩)
    ·exact Or.inl h
    ·exact Or.inr ⟨i+1,b,by simpa using h1,h2,by rw[show k+(i+1)=k+1+i by omega];exact h3⟩
   ·rintro(h|⟨i,b,h1,h2,h3⟩)
    ·exact Or.inl h
    ·cases i with
     |zero=>simp at h1;subst h1;rw[hn] at h2;cases h2
     |succ i=>exact Or.inr ⟨i,b,by simpa using h1,h2,by rw[show k+1+i=k+(i+1) by omega];exact h3⟩
  ·rename_i hn;split at h
   ·cases h
   ·rename_i R hR;rw[at_mem h f,List.mem_append]
    constructor
    ·rintro((h|h)|⟨i,b,h1,h2,h3⟩)
     ·exact Or.inl h
     ·obtain⟨e,he,hf⟩:=List.mem_filterMap.1 h;exact Or.inr ⟨0,a,rfl,by simpa using hn,R,hR,e,he,hf⟩
     ·exact Or.inr ⟨i+1,b,by simpa using h1,h2,by rw[show k+(i+1)=k+1+i by omega];exact h3⟩
    ·rintro(h|⟨i,b,h1,h2,h3⟩)
     ·exact Or.inl (Or.inl h)
     ·cases i with
      |zero=>
       obtain⟨R',hR',e,he,hf⟩:=h3;have:R=R':=Option.some.inj (hR.symm.trans hR');subst this;exact Or.inl (Or.inr (List.mem_filterMap.2 ⟨e,he,hf⟩))
      |succ i=>exact Or.inr ⟨i,b,by simpa using h1,h2,by rw[show k+1+i=k+(i+1) by omega];exact h3⟩
theorem Ao {K N:List aj} {r:aA}:∀{l:List aF} {k:Nat} {acc S:List aj},Em K N r k l acc=some S→∀i a,l[i]?=some a→a.no=false→∃R,lW (gT K ((k+i:Nat):Int) N) r.body=some R
 |[],k,acc,S,h,i,a,hi,_=>by simp at hi
 |a::l,k,acc,S,h,i,b,hi,hb=>by
  unfold Em at h;split at h
  ·rename_i hn;cases i with
   |zero=>simp at hi;subst hi;rw[hn] at hb;cases hb
   |succ i=>rw[show k+(i+1)=k+1+i by omega];exact Ao h i b (by simpa using hi) hb
  ·split at h
   ·cases h
   ·rename_i R hR;cases i with
    |zero=>exact⟨R,hR⟩
    |succ i=>rw[show k+(i+1)=k+1+i by omega];exact Ao h i b (by simpa using hi) hb
theorem J6 {K N:List aj} {r:aA} (hr:kK r) {acc S:List aj} (h:Jq K N r acc=some S) (f:aj):f∈S↔f∈acc∨Makes K N r f:=by
 have hc:=bL hr;unfold Jq at h;split at h
 ·rename_i hno;split at h
  ·cases h
  ·rename_i x hx;simp only[Option.some.injEq] at h;subst h;rw[List.mem_append,fU hc hx]
   constructor
   ·rintro(h|h)
    ·exact Or.inl h
    ·exact Or.inr (Or.inl ⟨hno,h⟩)
   ·rintro(h|⟨_,h⟩|⟨h,_⟩)
    ·exact Or.inl h
    ·exact Or.inr h
    ·exact absurd hno h
 ·rename_i hno;rw[at_mem h f]
  constructor
  ·rintro(h1|⟨i,a,h1,h2,R,h3,e,h4,h5⟩)
   ·exact Or.inl h1
   ·rw[Nat.zero_add] at h3;exact Or.inr (Or.inr ⟨hno,i,a,e,h1,h2,(lZ hc h3 e).1 h4,h5⟩)
  ·rintro(h1|⟨h1,_⟩|⟨_,i,a,e,h1,h2,h3,h4⟩)
   ·exact Or.inl h1
   ·exact absurd h1 hno
   ·obtain⟨R,hR⟩:=Ao h i a h1 h2;refine Or.inr ⟨i,a,h1,h2,R,hR,e,(lZ hc hR e).2 ?_,h4⟩;rw[Nat.zero_add];exact h3
theorem ji {K N:List aj} {st:Int} (σ:aA→Nat):∀{p:List aA} {acc S:List aj},(∀r∈p,kK r)→fV K N st p (p.map σ) acc=some S→∀f,f∈S↔f∈acc∨∃r∈p,(σ r:Int)=st∧Makes K N r f
 |[],acc,S,_,h,f=>by
  simp only[fV,Option.some.injEq] at h;subst h;simp
 |r::p,acc,S,hp,h,f=>by
  simp only[fV,List.map_cons] at h;split at h
  ·rename_i hs;split at h
   ·cases h
   ·rename_i acc' ha;rw[ji σ (fun q hq=>hp q (by simp[hq])) h f,J6 (hp r (by simp)) ha];simp only[List.mem_cons,exists_eq_or_imp]
    constructor
    ·rintro((h|h)|h)
     ·exact Or.inl h
     ·exact Or.inr (Or.inl ⟨hs,h⟩)
     ·exact Or.inr (Or.inr h)
    ·rintro(h|⟨_,h⟩|h)
     ·exact Or.inl (Or.inl h)
     ·exact Or.inl (Or.inr h)
     ·exact Or.inr h
  ·rename_i hs;rw[ji σ (fun q hq=>hp q (by simp[hq])) h f];simp only[List.mem_cons,exists_eq_or_imp]
   constructor
   ·rintro(h|h)
    ·exact Or.inl h
    ·exact Or.inr (Or.inr h)
   ·rintro(h|⟨h,_⟩|h)
    ·exact Or.inl h
    ·exact absurd h hs
    ·exact Or.inr h
theorem EY {K N:List aj} {body:List aF} {env:List aC} (hs:∀f∈N,f∈K) {i:Nat} {a:aF} (hi:body[i]?=some a) (ha:a.no=false) (h:iU (gT K (i:Nat) N) body env):iU (fun _=>K) body env:=by
 refine⟨h.1,h.2.1,h.2.2.1,fun j b hj=> ?_⟩;obtain⟨f,hf,hb⟩:=h.2.2.2 j b hj;refine⟨f,hf,?_⟩;unfold gT at hb;split at hb
 ·rename_i e;have e:j=i:=by omega
  subst e;rw[hi] at hj;cases hj;rw[ha] at hb⊢;exact aN.2 (hs f (aN.1 hb))
 ·exact hb
theorem H7 {K N:List aj} {body:List aF} {env:List aC} {i:Nat} {a:aF} (hi:body[i]?=some a) (ha:a.no=false) (h:iU (fun _=>K) body env) {g:aj} (hg:aR a env=some g) (hN:g∈N):iU (gT K (i:Nat) N) body env:=by
 refine⟨h.1,h.2.1,h.2.2.1,fun j b hj=> ?_⟩;obtain⟨f,hf,hb⟩:=h.2.2.2 j b hj;refine⟨f,hf,?_⟩;unfold gT;split
 ·rename_i e;have e:j=i:=by omega
  subst e;rw[hi] at hj;cases hj;rw[hg] at hf;cases hf;rw[ha,aN.2 hN];rfl
 ·exact hb
theorem nX {K N:List aj} {r:aA} {f:aj} (hs:∀f∈N,f∈K) (h:Makes K N r f):∃env,iU (fun _=>K) r.body env∧aR r.head env=some f:=by
 rcases h with⟨_,h⟩|⟨_,i,a,env,h1,h2,h3,h4⟩
 ·exact h
 ·exact⟨env,EY hs h1 h2 h3,h4⟩
def Semi (K N:List aj) (r:aA):Prop:=∀env f,iU (fun _=>K) r.body env→aR r.head env=some f→f∈K∨Makes K N r f
theorem yE {K N:List aj} {r:aA} {env:List aC} {f:aj} (hf:iU (fun _=>K) r.body env) (hh:aR r.head env=some f) (h:∃a∈r.body,a.no=false∧∃g,aR a env=some g∧g∈N):Makes K N r f:=by
 obtain⟨a,ha,hn,g,hg,hN⟩:=h;obtain⟨i,hi⟩:=List.getElem?_of_mem ha;refine Or.inr ⟨fun hall=> ?_,i,a,env,hi,hn,H7 hi hn hf hg hN,hh⟩;have:=List.all_eq_true.1 hall a ha;rw[hn] at this;cases this
theorem BM (K:List aj) (r:aA):Semi K K r:=fun env f hf hh=>by
 by_cases h:r.body.all (·.no)=true
 ·exact Or.inr (Or.inl ⟨h,env,hf,hh⟩)
 ·refine Or.inr ?_;obtain⟨a,ha,hn⟩:∃a∈r.body,a.no=false:=by
   refine Classical.byContradiction fun hx=>h (List.all_eq_true.2 fun a ha=> ?_);cases e:a.no
   ·exact absurd ⟨a,ha,e⟩ hx
   ·rfl
  obtain⟨i,hi⟩:=List.getElem?_of_mem ha;obtain⟨g,hg,hb⟩:=hf.2.2.2 i a hi;rw[hn] at hb;exact yE hf hh ⟨a,ha,hn,g,hg,aN.1 hb⟩
theorem EZ {K N K':List aj} {r:aA} (hK:∀f∈K,f∈K') (hs:Semi K N r) (hm:∀f,Makes K N r f→f∈K') {N':List aj} (hN:∀f∈K',f∉K→f∈N'):Semi K' N' r:=fun env f hf hh=>by
 by_cases h:∃a∈r.body,a.no=false∧∃g,aR a env=some g∧g∈N'
 ·exact Or.inr (yE hf hh h)
 ·have hfK:iU (fun _=>K) r.body env:=by
   refine⟨hf.1,hf.2.1,hf.2.2.1,fun j b hj=> ?_⟩;obtain⟨g,hg,hb⟩:=hf.2.2.2 j b hj;refine⟨g,hg,?_⟩;have hbm:=kJ hj;cases hn:b.no
   ·rw[hn] at hb;have Sq:=aN.1 hb
    by_cases hgK:g∈K
    ·rw[aN.2 hgK];rfl
    ·exact absurd ⟨b,hbm,hn,g,hg,hN g Sq hgK⟩ h
   ·rw[hn] at hb;cases hi:inB K g
    ·rfl
    ·have:=aN.2 (hK g (aN.1 hi));rw[this] at hb;cases hb
  rcases hs env f hfK hh with h1|h1
  ·exact Or.inl (hK f h1)
  ·exact Or.inl (hm f h1)
structure qZ (p:List aA) (c:Nat) (r:kN):Prop where
 good:GoodS p r.known
 up:Up r.fresh
 sub:∀f∈r.fresh,f∈r.known
 lev:0≤r.level∧r.level≤c
 rnd:0≤r.rounds∧r.rounds≤1000
 done:r.done=decide (r.level=c)
theorem q8 {p:List aA} {c:Nat} {l:List aj} (h:GoodS p l):qZ p c ⟨l,l,0,0,decide (c=0)⟩:=
 ⟨h,h.up,fun _ h=>h,⟨Int.le_refl _,by simp⟩,⟨Int.le_refl _,by simp⟩,by
  simp only[decide_eq_decide];omega⟩
theorem C9 {p:List aA} (hp:bZ p) (σ:aA→Nat) {K N:List aj} {st:Int} (hK:GoodS p K) (hN:∀f∈N,f∈K) {M:List aj} (h:fV K N st p (p.map σ) []=some M):∀f∈M,gV f∧sS p f=true:=fun f hf=>by
 rcases(ji σ hp.rules h f).1 hf with h1|⟨r,hr,_,hm⟩
 ·cases h1
 ·obtain⟨env,he,hh⟩:=nX hN hm;obtain⟨a,b,c⟩:=nV (hp.rules r hr) hK.right he hh;exact⟨a,BK hp hr b c⟩
theorem Da {p:List aA} {K M:List aj} (hK:GoodS p K) (hM:∀f∈M,gV f∧sS p f=true) (hl:(eY (K++M)).length≤200):GoodS p (eY (K++M)):=by
 have key:∀f∈eY (K++M),gV f∧sS p f=true:=fun f hf=>by
  rcases List.mem_append.1 (bO.1 hf) with h|h
  ·exact⟨hK.right f h,hK.fit f h⟩
  ·exact hM f h
 exact⟨gF _,fun f hf=>(key f hf).1,hl,fun f hf=>(key f hf).2⟩
theorem Ap {K M:List aj} (hK:Up K):qY K M=[]↔eY (K++M)=K:=by
 constructor
 ·intro h;refine(nR hK fun f=> ?_).symm;rw[List.mem_append];refine⟨Or.inl,fun h1=>h1.elim id fun h1=>Classical.byContradiction fun hn=> ?_⟩;have:=ny.2 ⟨h1,hn⟩;rw[h] at this;cases this
 ·intro h;refine List.eq_nil_iff_forall_not_mem.2 fun f hf=> ?_;obtain⟨h1,h2⟩:=ny.1 hf;exact h2 (h▸bO.2 (List.mem_append.2 (Or.inr h1)))
theorem vo {p:List aA} {ss:List Nat} {r x:kN} (h:jB p ss r=(0,x)):r.rounds≠1000∧∃M,fV r.known r.fresh r.level p ss []=some M∧(eY (r.known++M)).length≤200∧
  ((qY r.known M=[]∧x=⟨eY (r.known++M),eY (r.known++M),r.level+1,r.rounds+1,decide (r.level+1=countP ss)⟩)∨(qY r.known M≠[]∧x=⟨eY (r.known++M),qY r.known M,r.level,r.rounds+1,false⟩)):=by
 unfold jB at h;split at h
 ·simp at h
 ·rename_i hr;split at h
  ·simp at h
  ·rename_i M hM;split at h
   ·simp at h
   ·rename_i hl;split at h
    ·rename_i hn;simp only[Prod.mk.injEq,true_and] at h;exact⟨hr,M,hM,by omega,Or.inl ⟨hn,h.symm⟩⟩
    ·rename_i hn;simp only[Prod.mk.injEq,true_and] at h;exact⟨hr,M,hM,by omega,Or.inr ⟨hn,h.symm⟩⟩
theorem nY {p:List aA} (hp:bZ p) (σ:aA→Nat) {r x:kN} (hr:qZ p (countP (p.map σ)) r) (hd:r.done=false) (h:jB p (p.map σ) r=(0,x)):
  qZ p (countP (p.map σ)) x∧(∀f∈r.known,f∈x.known)∧x.rounds=r.rounds+1∧((x.level=r.level∧r.known.length<x.known.length)∨(x.level=r.level+1∧x.known=r.known)):=by
 obtain⟨h0,M,hM,hl,hx⟩:=vo h;have hg:=Da hr.good (C9 hp σ hr.good hr.sub hM) hl;have hsub:∀f∈r.known,f∈eY (r.known++M):=fun f hf=>bO.2 (List.mem_append.2 (Or.inl hf));have hdn:=hr.done;rw[hd] at hdn;have hdn:r.level≠countP (p.map σ):=by simpa using hdn.symm
 have Uh:=hr.lev;have hrnd:=hr.rnd;rcases hx with⟨hn,rfl⟩|⟨hn,rfl⟩
 ·refine⟨⟨hg,gF _,fun _ h=>h,⟨?_,?_⟩,⟨?_,?_⟩,rfl⟩,hsub,rfl,Or.inr ⟨rfl,(Ap hr.good.up).1 hn⟩⟩ <;> dsimp only <;> omega
 ·refine⟨⟨hg,gF _,fun f hf=>bO.2 (List.mem_append.2 (Or.inr (ny.1 hf).1)),⟨?_,?_⟩,⟨?_,?_⟩,?_⟩,hsub,rfl,Or.inl ⟨rfl,?_⟩⟩
  ·dsimp only;omega
  ·dsimp only;omega
  ·dsimp only;omega
  ·dsimp only;omega
  ·simp[hdn]
  ·have h1:=sQ hr.good.up hsub;refine Classical.byContradiction fun h2=>hn ((Ap hr.good.up).2 (Ad hr.good.up (gF _) hsub (by dsimp only at h2;omega)).symm)
theorem uq {p:List aA} {ss:List Nat} {r:kN} (h:r.done=true):∀n,fq p ss n r=(0,r)
 |0=>rfl
 |n+1=>by unfold fq;rw[if_pos h]
theorem Db {p:List aA} {ss:List Nat} {r:kN} (h:r.done=false) (n:Nat):fq p ss (n+1) r=if(jB p ss r).1≠0 then((jB p ss r).1,l7) else fq p ss n (jB p ss r).2:=by
 rw[fq,if_neg (by simp[h])]
end Go.Proofs.YtafmbokfkbccaaaGreatDoor
namespace Go.Proofs.YtafmbokfkbccaaaGreatDoor
theorem l8 {n:Int} {fs:List aj} (σ:aA→Nat):∀{p:List aA} {acc:List aj},eZ n fs p (p.map σ) acc=(5,[])→
  ∃A:List aj,200<(eY A).length∧∀f∈A,f∈acc∨∃r∈p,(σ r:Int)=n∧∃x,dX r fs=some x∧f∈x
 |[],acc,h=>by simp[eZ] at h
 |r::p,acc,h=>by
  simp only[eZ,List.map_cons] at h;split at h
  ·rename_i hs;split at h
   ·simp at h
   ·rename_i x hx;have key:∀f∈acc++x,f∈acc∨∃q∈r::p,(σ q:Int)=n∧∃x,dX q fs=some x∧f∈x:=fun f hf=>by
     rcases List.mem_append.1 hf with hf|hf
     ·exact Or.inl hf
     ·exact Or.inr ⟨r,by simp,hs,x,hx,hf⟩
    split at h
    ·rename_i hl;exact⟨acc++x,hl,key⟩
    ·obtain⟨A,h1,h2⟩:=l8 σ h;refine⟨A,h1,fun f hf=> ?_⟩;rcases h2 f hf with h3|⟨q,hq,h3⟩
     ·exact key f h3
     ·exact Or.inr ⟨q,by simp[hq],h3⟩
  ·obtain⟨A,h1,h2⟩:=l8 σ h;refine⟨A,h1,fun f hf=> ?_⟩;rcases h2 f hf with h3|⟨q,hq,h3⟩
   ·exact Or.inl h3
   ·exact Or.inr ⟨q,by simp[hq],h3⟩
theorem E5 {p:List aA} (hp:bZ p) (σ:aA→Nat) {n:Int} {K N M:List aj} (hK:GoodS p K) (hN:∀f∈N,f∈K) (hS:∀r∈p,(σ r:Int)=n→Semi K N r)
  (hM:fV K N n p (p.map σ) []=some M) (h4:(bT p (p.map σ) n K).1≠4):bT p (p.map σ) n K=if 200<(eY (K++M)).length then(5,[]) else(0,eY (K++M)):=by
 have hsub:∀r∈p,(σ r:Int)=n→∀x,dX r K=some x→∀f∈x,f∈K++M:=fun r hr hs x hx f hf=>by
  obtain⟨env,he,hh⟩:=(fU (bL (hp.rules r hr)) hx f).1 hf;rw[List.mem_append];exact(hS r hr hs env f he hh).imp id fun h=>(ji σ hp.rules hM f).2 (Or.inr ⟨r,hr,hs,h⟩)
 rcases nW (n:=n) (fs:=K) (p:=p) (ss:=p.map σ) (acc:=K) with h0|h|h
 ·obtain⟨S,hSS⟩:∃S,bT p (p.map σ) n K=(0,S):=⟨(bT p (p.map σ) n K).2,by rw[←show(bT p (p.map σ) n K).1=0 from h0]⟩;obtain⟨h1,h2,h3,h5,h6⟩:=gL σ hSS;have e:S=eY (K++M):=nR h5 fun f=>by
   rw[List.mem_append]
   constructor
   ·intro hf;rcases h3 f hf with h|⟨r,hr,hs,x,hx,hf⟩
    ·exact Or.inl h
    ·exact List.mem_append.1 (hsub r hr hs x hx f hf)
   ·rintro(hf|hf)
    ·exact h2 f hf
    ·rcases(ji σ hp.rules hM f).1 hf with h|⟨r,hr,hs,hm⟩
     ·cases h
     ·obtain⟨x,hx,hxS⟩:=h1 r hr hs;obtain⟨env,he,hh⟩:=nX hN hm;exact hxS f ((fU (bL (hp.rules r hr)) hx f).2 ⟨env,he,hh⟩)
  have hl:=h6 (by rw[oQ hK.up];exact hK.few);rw[e] at hl hSS;rw[if_neg (by omega),hSS]
 ·exact absurd (show(bT p (p.map σ) n K).1=4 by unfold bT;rw[h]) h4
 ·obtain⟨A,h1,h2⟩:=l8 σ h;have h3:(eY A).length≤(eY (K++M)).length:=sQ (gF A) fun f hf=>bO.2 (by
   rcases h2 f (bO.1 hf) with h|⟨r,hr,hs,x,hx,hf⟩
   ·exact List.mem_append.2 (Or.inl h)
   ·exact hsub r hr hs x hx f hf)
  rw[if_pos (by omega)];exact h
def Aq (p:List aA) (ss:List Nat) (c k n:Nat) (K:List aj):Int×List aj:=if(dI p ss n k K).1≠0 then((dI p ss n k K).1,[]) else gZ p ss c (n+1) (dI p ss n k K).2
theorem Dc {p:List aA} {ss:List Nat} {c k n:Nat} {K:List aj}:Aq p ss c (k+1) n K=if(bT p ss n K).1≠0 then((bT p ss n K).1,[]) else if(bT p ss n K).2.length=K.length then gZ p ss c (n+1) (bT p ss n K).2 else Aq p ss c k n (bT p ss n K).2:=by
 unfold Aq;rw[dI];split
 ·rfl
 ·split
  ·rfl
  ·rfl
theorem uw {p:List aA} {ss:List Nat} {c n:Nat} {K:List aj}:gZ p ss (c+1) n K=Aq p ss c 201 n K:=rfl
theorem nZ {p:List aA} (hp:bZ p) (σ:aA→Nat):∀(m c k n:Nat) {r:kN},qZ p (countP (p.map σ)) r→r.level=(n:Nat)→n+(c+1)=countP (p.map σ)→200<r.known.length+k→
  (∀q∈p,(σ q:Int)=n→Semi r.known r.fresh q)→(200:Int)-r.known.length+(countP (p.map σ)-r.level)≤m→(200:Int)-r.known.length+(countP (p.map σ)-r.level)+r.rounds≤999→
  (fq p (p.map σ) m r).1≠4→(Aq p (p.map σ) c k n r.known).1≠4→(fq p (p.map σ) m r).1=(Aq p (p.map σ) c k n r.known).1∧((fq p (p.map σ) m r).1=0→(fq p (p.map σ) m r).2.known=(Aq p (p.map σ) c k n r.known).2)
 |0,c,k,n,r,hr,hn,hc,_,_,hm,_,_,_=>by have:=hr.good.few;omega
 |m+1,c,0,n,r,hr,hn,hc,hk,_,_,_,_,_=>by have:=hr.good.few;omega
 |m+1,c,k+1,n,r,hr,hn,hc,hk,hS,hm,h9,h4,h4'=>by
  have hd:r.done=false:=by rw[hr.done];simp;omega
  rw[Db hd] at h4⊢;rw[Dc] at h4'⊢;have hSt:∀q∈p,(σ q:Int)=r.level→Semi r.known r.fresh q:=fun q hq h=>hS q hq (h.trans hn);have Lu:=hr.good.few;have hrn:r.rounds≠1000:=by omega
  cases hM:fV r.known r.fresh r.level p (p.map σ) [] with
  |none=>
   have e:jB p (p.map σ) r=(4,l7):=by unfold jB;rw[if_neg hrn,hM]
   rw[e] at h4;simp at h4
  |some M=>
   have ho4:(bT p (p.map σ) n r.known).1≠4:=fun e=>h4' (by rw[e];simp);have ho:=E5 hp σ (n:=(n:Int)) hr.good hr.sub hS (hn▸hM) ho4
   by_cases hl:200<(eY (r.known++M)).length
   ·have e:jB p (p.map σ) r=(5,l7):=by unfold jB;rw[if_neg hrn,hM];simp[hl]
    rw[if_pos hl] at ho;rw[ho,e];simp
   ·rw[if_neg hl] at ho;have hsub:∀f∈r.known,f∈eY (r.known++M):=fun f hf=>bO.2 (List.mem_append.2 (Or.inl hf))
    by_cases hnew:qY r.known M=[]
    ·have eK:=(Ap hr.good.up).1 hnew;have e:jB p (p.map σ) r=(0,⟨eY (r.known++M),eY (r.known++M),r.level+1,r.rounds+1,decide (r.level+1=countP (p.map σ))⟩):=by unfold jB;rw[if_neg hrn,hM];simp[hl,hnew]
     obtain⟨g1,g2,g3,g4⟩:=nY hp σ hr hd e;rw[e] at h4⊢;rw[ho] at h4'⊢;simp only[ne_eq,not_true_eq_false,if_false] at h4 h4'⊢;rw[if_pos (by rw[eK])] at h4'⊢;rw[eK] at h4 h4' g1⊢;cases c with
     |zero=>
      have hdn:(⟨r.known,r.known,r.level+1,r.rounds+1,decide (r.level+1=countP (p.map σ))⟩:kN).done=true:=by simp only[decide_eq_true_eq];omega
      rw[uq hdn];exact⟨rfl,fun _=>rfl⟩
     |succ c=>
      rw[uw] at h4'⊢;refine nZ hp σ m c 201 (n+1) g1 (by dsimp only;omega) (by omega) (by dsimp only;omega) (fun q _ _=>BM _ q) (by dsimp only;omega) (by dsimp only;omega) h4 h4'
    ·have e:jB p (p.map σ) r=(0,⟨eY (r.known++M),qY r.known M,r.level,r.rounds+1,false⟩):=by unfold jB;rw[if_neg hrn,hM];simp[hl,hnew]
     obtain⟨g1,g2,g3,g4⟩:=nY hp σ hr hd e;have g5:r.known.length<(eY (r.known++M)).length:=by
      rcases g4 with⟨_,h⟩|⟨h,_⟩
      ·exact h
      ·dsimp only at h;omega
     rw[e] at h4⊢;rw[ho] at h4'⊢;simp only[ne_eq,not_true_eq_false,if_false] at h4 h4'⊢;rw[if_neg (by omega)] at h4'⊢;refine nZ hp σ m c k n g1 hn hc (by dsimp only;omega) (fun q hq hs=> ?_) (by dsimp only;omega) (by dsimp only;omega) h4 h4';refine EZ hsub (hS q hq hs) (fun f hf=>bO.2 (List.mem_append.2 (Or.inr ((ji σ hp.rules hM f).2 (Or.inr ⟨q,hq,hs.trans hn.symm,hf⟩))))) fun f hf hn'=> ?_;exact ny.2 ⟨(List.mem_append.1 (bO.1 hf)).resolve_left hn',hn'⟩
theorem uy {c:Nat}:∀{ss:List Nat},(∀s∈ss,s<c)→countP ss≤c
 |[],_=>Nat.zero_le _
 |s::ss,h=>by
  have h1:=h s (by simp);have h2:=uy (ss:=ss) fun t ht=>h t (by simp[ht]);simp only[countP];omega
theorem Df {p:List aA} (hp:bZ p) (σ:aA→Nat) (hσ:∀r∈p,σ r<16) {l:List aj} (hl:GoodS p l) (h4:(fq p (p.map σ) 1000 ⟨l,l,0,0,decide (countP (p.map σ)=0)⟩).1≠4) (h4':(gZ p (p.map σ) (countP (p.map σ)) 0 l).1≠4):
  (fq p (p.map σ) 1000 ⟨l,l,0,0,decide (countP (p.map σ)=0)⟩).1=(gZ p (p.map σ) (countP (p.map σ)) 0 l).1∧((fq p (p.map σ) 1000 ⟨l,l,0,0,decide (countP (p.map σ)=0)⟩).1=0→(fq p (p.map σ) 1000 ⟨l,l,0,0,decide (countP (p.map σ)=0)⟩).2.known=(gZ p (p.map σ) (countP (p.map σ)) 0 l).2):=by
 have hcs:countP (p.map σ)≤16:=uy fun s hs=>by
  obtain⟨r,hr,rfl⟩:=List.mem_map.1 hs;exact hσ r hr
 have hr:=q8 (c:=countP (p.map σ)) hl;have Lu:=hl.few;cases e:countP (p.map σ) with
 |zero=>
  rw[uq (by simp)];exact⟨rfl,fun _=>rfl⟩
 |succ c=>
  rw[e] at h4 h4' hr;rw[uw] at h4'⊢;refine nZ hp σ 1000 c 201 0 (by rw[e];exact hr) rfl (by omega) (by dsimp only;omega) (fun q _ _=>BM _ q) (by dsimp only;omega) (by dsimp only;omega) h4 h4'
end Go.Proofs.YtafmbokfkbccaaaGreatDoor
