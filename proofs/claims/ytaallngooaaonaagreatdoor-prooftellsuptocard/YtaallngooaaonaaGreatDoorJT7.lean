import Derived.Test.YtaallngooaaonaaGreatDoorJT4
import Derived.Test.YtaallngooaaonaaGreatDoorJT6
import Derived.Test.YtaallngooaaonaaGreatDoorJT5
open Go.RowKit Go.Sort
set_option maxRecDepth 100000
namespace Go.Proofs.YtaallngooaaonaaGreatDoor
abbrev Up (s:List aA):Prop:=s.Pairwise fun a b=>fO a b<0
def fZ:List aA→List aA
 |[]=>[]
 |f::l=>if inB l f then fZ l else f::fZ l
theorem jD:∀{l:List aA} {f:aA},f∈fZ l↔f∈l
 |[],f=>by simp[fZ]
 |g::l,f=>by
  unfold fZ;split;·rename_i h;rw[jD,List.mem_cons];exact⟨Or.inr,fun h'=>h'.elim (fun e=>by rw[e];exact dn.1 h) id⟩
  rw[List.mem_cons,List.mem_cons,jD]
theorem jL:∀(l:List aA),(fZ l).Nodup
 |[]=>List.nodup_nil
 |g::l=>by
  unfold fZ;split;·exact jL l
  rename_i h;exact List.nodup_cons.2 ⟨fun h'=>h (dn.2 (jD.1 h')),jL l⟩
theorem oZ:∀(l:List aA),(fZ l).length≤l.length
 |[]=>Nat.le_refl _
 |g::l=>by have:=oZ l;unfold fZ;split <;> simp <;> omega
def iA (l:List aA):List aA:=iU fO (fZ l)
theorem iB {l:List aA} {f:aA}:f∈iA l↔f∈l:=by unfold iA;rw[(bM _).mem_iff,jD]
theorem nS (l:List aA):Up (iA l):=sV aW (jB aW _) ((bM _).nodup_iff.2 (jL l))
theorem yG (l:List aA):(iA l).length≤l.length:=by unfold iA;rw[(bM _).length_eq];exact oZ l
theorem Dk {s t:List aA} (hs:Up s) (ht:Up t) (h:∀f,f∈s↔f∈t):s=t:=oM aW hs ht h
theorem tC {s l:List aA} (hs:Up s) (h:∀f,f∈s↔f∈l):s=iA l:=Dk hs (nS l) fun f=>by rw[iB,h]
theorem mh {s:List aA} (hs:Up s):iA s=s:=(tC hs fun _=>Iff.rfl).symm
theorem wQ {l m:List aA} (h:∀f,f∈l↔f∈m):iA l=iA m:=Dk (nS l) (nS m) fun f=>by rw[iB,iB,h]
theorem rZ {s:List aA} (hs:Up s):s.Nodup:=zX aW hs
theorem tF:∀{s t:List aA},s.Nodup→(∀f∈s,f∈t)→s.length≤t.length
 |[],_,_,_=>Nat.zero_le _
 |a::s,t,hn,h=>by
  have hn':=List.nodup_cons.1 hn;obtain⟨t1,t2,rfl⟩:=List.append_of_mem (h a (by simp));have:=tF (t:=t1++t2) hn'.2 fun f hf=>by
   have h1:=h f (by simp[hf]);simp only[List.mem_append,List.mem_cons] at h1⊢;rcases h1 with h1|rfl|h1
   ·exact Or.inl h1
   ·exact absurd hf hn'.1
   exact Or.inr h1
  simp only[List.length_cons,List.length_append] at this⊢;omega
theorem EN {s t:List aA} (hs:Up s) (h:∀f∈s,f∈t):s.length≤t.length:=tF (rZ hs) h
theorem G6 {s t:List aA} (hs:Up s) (ht:Up t) (h:∀f∈s,f∈t) (e:t.length≤s.length):s=t:=by
 refine Dk hs ht fun f=>⟨h f,fun hf=>Classical.byContradiction fun hn=>?_⟩;have:=tF (s:=f::s) (t:=t) (List.nodup_cons.2 ⟨hn,rZ hs⟩) fun g hg=>by
  rcases List.mem_cons.1 hg with rfl|hg;·exact hf
  exact h g hg
 simp only[List.length_cons] at this;omega
def gq (r:aG) (fs:List aA):Option (List aA):=match lF (fun _=>fs) r.body with
 |none=>none
 |some R=>some (iA (R.filterMap fun l=>bg r.head l))
def gP (n:Int) (fs:List aA):List aG→List Nat→List aA→Int×List aA
 |[],_,acc=>(0,iA acc)
 |_::_,[],acc=>(0,iA acc)
 |r::p,s::ss,acc=>if(s:Int)=n then
   match gq r fs with
   |none=>(4,[])
   |some x=>if 200<(iA (acc++x)).length then(5,[]) else gP n fs p ss (acc++x)
  else gP n fs p ss acc
def bW (p:List aG) (ss:List Nat) (n:Int) (fs:List aA):Int×List aA:=gP n fs p ss fs
def dM (p:List aG) (ss:List Nat) (n:Int):Nat→List aA→Int×List aA
 |0,l=>(0,l)
 |k+1,l=>if(bW p ss n l).1≠0 then((bW p ss n l).1,[]) else if(bW p ss n l).2.length=l.length then(0,(bW p ss n l).2) else dM p ss n k (bW p ss n l).2
def countP:List Nat→Nat
 |[]=>0
 |s::ss=>max (s+1) (countP ss)
theorem o7:∀{ss:List Nat} {s:Nat},s∈ss→s<countP ss
 |t::ss,s,h=>by
  unfold countP;rcases List.mem_cons.1 h with rfl|h
  ·omega
  have:=o7 h;omega
theorem countP_congr {ss tt:List Nat} (h:∀s,s∈ss↔s∈tt):countP ss=countP tt:=by
 have key:∀{a b:List Nat},(∀s∈a,s∈b)→countP a≤countP b:=by
  intro a
  induction a with
  |nil=>intro b _;exact Nat.zero_le _
  |cons x a ih=>
   intro b hb;have h1:=ih fun s hs=>hb s (List.mem_cons_of_mem _ hs);have h2:=o7 (hb x (by simp));show max (x+1) (countP a)≤countP b;omega
 exact Nat.le_antisymm (key fun s hs=>(h s).1 hs) (key fun s hs=>(h s).2 hs)
def kJ (p:List aG) (ss:List Nat):Nat→Nat→List aA→Int×List aA
 |0,_,l=>(0,l)
 |c+1,n,l=>if(dM p ss n 201 l).1≠0 then((dM p ss n 201 l).1,[]) else kJ p ss c (n+1) (dM p ss n 201 l).2
def BR (p:List aG) (f:aA):Bool:=p.all fun r=>(r.head::r.body).all fun a=> !decide (bs a.name=f.1)||decide (a.terms.length=f.2.length)
structure o8 (r:aG):Prop where
 head:aP r.head=0
 yes:r.head.no=false
 body:aL r.body=0
 vars:(vars r.head).all (givenBy r.body)=true
def gB (p:List aG):List aI:=p.flatMap fun r=>r.head::r.body
theorem yH (l q:List aI):∀m:dU,fitAll m (l++q)=if(fitAll m l).1 then fitAll (fitAll m l).2 q else fitAll m l:=by
 induction l with
 |nil=>intro m;simp[fitAll]
 |cons a l ih=>
  intro m
  by_cases h:(dh m a).1=true
  ·have h1:∀q,fitAll m (a::q)=fitAll (dh m a).2 q:=fun q=>by rw[fitAll,if_pos h]
   rw[List.cons_append,h1,h1,ih]
  have h1:∀q,fitAll m (a::q)=(false,(dh m a).2):=fun q=>by rw[fitAll,if_neg h]
  rw[List.cons_append,h1,h1];rfl
theorem kY (m:dU) (r:aG):(aX m r).1=0↔o8 r∧(fitAll m (r.head::r.body)).1=true:=by
 unfold aX
 constructor
 ·intro h;split at h
  ·rename_i h1;split at h;·cases h
   rename_i h2;split at h
   ·rename_i h3;split at h
    ·rename_i h4;split at h
     ·rename_i h5;refine⟨⟨h1,by simpa using h2,h3,h4⟩,?_⟩;unfold fitAll;rw[if_pos h5];dsimp only at h;split at h;·assumption
      cases h
     cases h
    cases h
   rename_i h3;exact absurd h h3
  rename_i h1;exact absurd h h1
 rintro⟨⟨h1,h2,h3,h4⟩,h5⟩;unfold fitAll at h5;split at h5;·rename_i h6;rw[if_pos h1,if_neg (by simp[h2]),if_pos h3,if_pos h4,if_pos h6,if_pos h5]
 cases h5
theorem vS (m:dU) (r:aG) (h:(aX m r).1=0):(aX m r).2=(fitAll m (r.head::r.body)).2:=by
 obtain⟨⟨h1,h2,h3,h4⟩,h5⟩:=(kY m r).1 h;unfold fitAll at h5⊢;split at h5;·rename_i h6;unfold aX;rw[if_pos h1,if_neg (by simp[h2]),if_pos h3,if_pos h4,if_pos h6,if_pos h6]
 cases h5
theorem tH (p:List aG):∀(m:dU) (i:Nat),(gY m i p).1=0↔(∀r∈p,o8 r)∧(fitAll m (gB p)).1=true:=by
 induction p with
 |nil=>intro m i;simp[gY,gB,fitAll]
 |cons r p ih=>
  intro m i;have ea:gB (r::p)=(r.head::r.body)++gB p:=rfl;rw[ea,yH];unfold gY
  by_cases h:(aX m r).1=0
  ·rw[if_pos h,ih,vS m r h];obtain⟨h1,h2⟩:=(kY m r).1 h;rw[if_pos h2];simp[h1]
  rw[if_neg h];refine⟨fun h'=>absurd h' h,fun⟨h1,h2⟩=>?_⟩
  exfalso
  split at h2;·rename_i h3;exact h ((kY m r).2 ⟨h1 r (by simp),h3⟩)
  rename_i h3;exact h3 h2
def Even (l:List aI):Prop:=∀a∈l,∀b∈l,a.name=b.name→a.terms.length=b.terms.length
theorem wS (l:List aI):∀m:dU,(fitAll m l).1=true↔(∀a∈l,∀n,m a.name=some n→n=a.terms.length)∧Even l:=by
 induction l with
 |nil=>intro m;simp[fitAll,Even]
 |cons a l ih=>
  intro m;unfold fitAll;cases e:m a.name with
  |none=>
   have h1:dh m a=(true,m.put a.name a.terms.length):=by unfold dh;rw[e]
   rw[h1];simp only[if_true];rw[ih]
   constructor
   ·rintro⟨h2,h3⟩;have h4:∀b∈l,b.name=a.name→a.terms.length=b.terms.length:=fun b hb hn=>h2 b hb _ (by unfold dU.put;rw[if_pos hn]);refine⟨fun b hb n hn=>?_,fun b hb c hc hbc=>?_⟩
    ·rcases List.mem_cons.1 hb with rfl|hb;·rw[e] at hn;cases hn
     by_cases hne:b.name=a.name
     ·rw[hne,e] at hn;cases hn
     exact h2 b hb n (by unfold dU.put;rw[if_neg hne];exact hn)
    rcases List.mem_cons.1 hb with rfl|hb'
    ·rcases List.mem_cons.1 hc with rfl|hc;·rfl
     exact h4 c hc hbc.symm
    rcases List.mem_cons.1 hc with rfl|hc;·exact(h4 b hb' hbc).symm
    exact h3 b hb' c hc hbc
   rintro⟨h2,h3⟩;refine⟨fun b hb n hn=>?_,fun b hb c hc=>h3 b (by simp[hb]) c (by simp[hc])⟩;unfold dU.put at hn;split at hn;·rename_i hne;cases hn;exact h3 a (by simp) b (by simp[hb]) hne.symm
   exact h2 b (by simp[hb]) n hn
  |some k=>
   have h1:dh m a=(decide (k=a.terms.length),m):=by unfold dh;rw[e]
   rw[h1]
   by_cases hk:k=a.terms.length
   ·simp only[hk,decide_true,if_true];rw[ih];have h4:(∀b∈l,∀n,m b.name=some n→n=b.terms.length)→∀b∈l,b.name=a.name→a.terms.length=b.terms.length:=fun h b hb hn=>h b hb _ (by rw[hn,e,hk])
    constructor
    ·rintro⟨h2,h3⟩;refine⟨fun b hb n hn=>?_,fun b hb c hc hbc=>?_⟩
     ·rcases List.mem_cons.1 hb with rfl|hb;·rw[e] at hn;cases hn;exact hk
      exact h2 b hb n hn
     rcases List.mem_cons.1 hb with rfl|hb'
     ·rcases List.mem_cons.1 hc with rfl|hc;·rfl
      exact h4 h2 c hc hbc.symm
     rcases List.mem_cons.1 hc with rfl|hc;·exact(h4 h2 b hb' hbc).symm
     exact h3 b hb' c hc hbc
    rintro⟨h2,h3⟩;exact⟨fun b hb=>h2 b (by simp[hb]),fun b hb c hc=>h3 b (by simp[hb]) c (by simp[hc])⟩
   simp only[hk,decide_false];refine⟨fun h=>by simp at h,fun⟨h2,_⟩=>?_⟩;exact absurd (h2 a (by simp) k e) hk
structure dP (p:List aG):Prop where
 few:p.length≤16
 rules:∀r∈p,o8 r
 even:Even (gB p)
theorem mP {p:List aG}:(dw p).1=0↔dP p:=by
 unfold dw
 constructor
 ·intro h;split at h;·cases h
  rename_i h1;obtain⟨h2,h3⟩:=(tH p _ _).1 h;exact⟨by omega,h2,((wS _ _).1 h3).2⟩
 rintro⟨h1,h2,h3⟩;rw[if_neg (by omega)];exact(tH p _ _).2 ⟨h2,(wS _ _).2 ⟨fun _ _ _ h=>(by simp at h),h3⟩⟩
theorem dP.turned {p:List aG} (h:dP p):dP p.reverse:=
 ⟨by rw[List.length_reverse];exact h.few,fun r hr=>h.rules r (List.mem_reverse.1 hr),fun a ha b hb=>h.even a (by simpa[gB] using ha) b (by simpa[gB] using hb)⟩
theorem kK {r:aG} {fs x:List aA} (hc:Covers r.body) (h:gq r fs=some x) (f:aA):f∈x↔∃env,oO (fun _=>fs) r.body env∧bg r.head env=some f:=by
 unfold gq at h;cases e:lF (fun _=>fs) r.body with
 |none=>rw[e] at h;cases h
 |some R=>
  rw[e] at h;cases h;rw[iB,List.mem_filterMap];exact⟨fun⟨l,hl,hf⟩=>⟨l,(qA hc e l).1 hl,hf⟩,fun⟨l,hl,hf⟩=>⟨l,(qA hc e l).2 hl,hf⟩⟩
theorem jM {a:aI} {l:List aD} {f:aA} (h:bg a l=some f):f.1=bs a.name∧aU l a.terms=some f.2:=by
 unfold bg at h;cases e:aU l a.terms with
 |none=>rw[e] at h;cases h
 |some r=>rw[e] at h;cases h;exact⟨rfl,rfl⟩
theorem Dl {fs gs:List aA} {body:List aI} {env:List aD} (hpos:∀a∈body,a.no=false→∀f:aA,f.1=bs a.name→f∈fs→f∈gs)
  (hneg:∀a∈body,a.no=true→∀f:aA,f.1=bs a.name→f∈gs→f∈fs) (h:oO (fun _=>fs) body env):oO (fun _=>gs) body env:=by
 obtain⟨h1,h2,h3,h4⟩:=h;refine⟨h1,h2,h3,iK.2 fun a ha=>?_⟩;obtain⟨f,hf,hi⟩:=iK.1 h4 a ha;refine⟨f,hf,?_⟩;have hn:=(jM hf).1;cases hno:a.no with
 |false=>
  rw[hno] at hi;exact dn.2 (hpos a ha hno f hn (dn.1 hi))
 |true=>
  rw[hno] at hi;cases e:inB gs f with
  |false=>rfl
  |true=>rw[dn.2 (hneg a ha hno f hn (dn.1 e))] at hi;cases hi
def ni (f:aA):Prop:=isNamed (raw f.1)=true∧f.2.length≤4∧∀s∈f.2,isNamed (raw s)=true
theorem tJ {l:List aD}:∀{ts:List dK} {r:List ByteArray},aU l ts=some r→∀t∈ts,∃u∈r,bE l t=some u
 |[],_,_=>fun _ h=>by cases h
 |t::ts,r,h=>fun u hu=>by
  simp only[aU] at h;cases e:bE l t with
  |none=>rw[e] at h;cases h
  |some s=>
   rw[e] at h;dsimp only at h;cases e2:aU l ts with
   |none=>rw[e2] at h;cases h
   |some q=>
    rw[e2] at h;cases h;rcases List.mem_cons.1 hu with rfl|hu
    ·exact⟨s,by simp,e⟩
    obtain⟨v,hv,hw⟩:=tJ e2 u hu;exact⟨v,by simp[hv],hw⟩
theorem o9 {l:List aD}:∀{ts:List dK} {r:List ByteArray},aU l ts=some r→∀u∈r,∃t∈ts,bE l t=some u
 |[],_,h=>fun _ hu=>by cases h;cases hu
 |t::ts,r,h=>fun u hu=>by
  simp only[aU] at h;cases e:bE l t with
  |none=>rw[e] at h;cases h
  |some s=>
   rw[e] at h;dsimp only at h;cases e2:aU l ts with
   |none=>rw[e2] at h;cases h
   |some q=>
    rw[e2] at h;cases h;rcases List.mem_cons.1 hu with rfl|hu
    ·exact⟨t,by simp,e⟩
    obtain⟨v,hv,hw⟩:=o9 e2 u hu;exact⟨v,by simp[hv],hw⟩
theorem tK {fs:List aA} {body:List aI} {env:List aD} (hr:∀f∈fs,ni f) (h:oO (fun _=>fs) body env) {v s:ByteArray} (hg:dB env v=some s):isNamed (raw s)=true:=by
 obtain⟨_,_,h3,h4⟩:=h;have hk0:v∈bJ env:=List.mem_map.2 ⟨_,mO hg,rfl⟩;obtain⟨k,hk,rfl⟩:=List.mem_map.1 ((h3 v).1 hk0);rcases(gN body).1 hk with hk|⟨a,ha,hno,t,ht,ht1,rfl⟩;·cases hk
 obtain⟨f,hf,hi⟩:=iK.1 h4 a ha;rw[hno] at hi;obtain⟨u,hu,hw⟩:=tJ (jM hf).2 t ht;unfold bE at hw;rw[if_pos ht1,hg] at hw;cases hw;exact(hr f (dn.1 hi)).2.2 _ hu
theorem gQ {a:aI} (h:aP a=0):isNamed a.name=true∧a.terms.length≤4∧∀t∈a.terms,aZ t=false:=by
 unfold aP at h;split at h;·cases h
 rename_i h1;split at h;·cases h
 rename_i h2;split at h;·cases h
 rename_i h3;refine⟨by simpa using h1,by omega,fun t ht=>?_⟩;cases e:aZ t with
 |false=>rfl
 |true=>exact absurd (List.any_eq_true.2 ⟨t,ht,e⟩) h3
theorem wT {r:aG} {fs:List aA} {env:List aD} {f:aA} (hR:o8 r) (hr:∀f∈fs,ni f) (h:oO (fun _=>fs) r.body env) (hf:bg r.head env=some f):
  ni f∧f.1=bs r.head.name∧f.2.length=r.head.terms.length:=by
 obtain⟨h1,h2⟩:=jM hf;obtain⟨h3,h4,h5⟩:=gQ hR.head;have hl:=jX h2;refine⟨⟨by rw[h1,jI];exact h3,by omega,fun s hs=>?_⟩,h1,hl⟩;obtain⟨t,ht,hw⟩:=o9 h2 s hs;unfold bE at hw;split at hw;·exact tK hr h hw
 rename_i ht1;cases hw;have:=h5 t ht;unfold aZ at this;rw[if_neg ht1] at this;rw[jI];simpa using this
structure GoodS (p:List aG) (L:List aA):Prop where
 up:Up L
 right:∀f∈L,ni f
 few:L.length≤200
 fit:∀f∈L,BR p f=true
theorem Dm {p:List aG} {f:aA}:BR p f=true↔∀a∈gB p,bs a.name=f.1→a.terms.length=f.2.length:=by
 unfold BR gB;simp only[List.all_eq_true,Bool.or_eq_true,Bool.not_eq_true',decide_eq_false_iff_not,decide_eq_true_eq,List.mem_flatMap]
 constructor
 ·rintro h a ⟨r,hr,ha⟩ e;exact(h r hr a ha).resolve_left fun hn=>hn e
 intro h r hr a ha
 by_cases e:bs a.name=f.1
 ·exact Or.inr (h a ⟨r,hr,ha⟩ e)
 exact Or.inl e
theorem KD {p:List aG} (hp:dP p) {r:aG} (hr:r∈p) {f:aA} (h1:f.1=bs r.head.name) (h2:f.2.length=r.head.terms.length):BR p f=true:=
 Dm.2 fun a ha e=>by rw[h2];exact hp.even a ha r.head (List.mem_flatMap.2 ⟨r,hr,by simp⟩) (mZ (e.trans h1))
theorem fA {r:aG} (h:o8 r):Covers r.body:=kH h.body
theorem jk {n:Int} {fs:List aA} (σ:aG→Nat):∀{p:List aG} {acc S:List aA},gP n fs p (p.map σ) acc=(0,S)→
  (∀r∈p,(σ r:Int)=n→∃x,gq r fs=some x∧∀f∈x,f∈S)∧(∀f∈acc,f∈S)∧(∀f∈S,f∈acc∨∃r∈p,(σ r:Int)=n∧∃x,gq r fs=some x∧f∈x)∧Up S∧((iA acc).length≤200→S.length≤200)
 |[],acc,S,h=>by simp only[gP,Prod.mk.injEq,true_and] at h;subst h;exact⟨fun _ h=>(by cases h),fun f hf=>iB.2 hf,fun f hf=>Or.inl (iB.1 hf),nS _,id⟩
 |r::p,acc,S,h=>by
  simp only[gP,List.map_cons] at h;split at h
  ·rename_i hs;split at h;·simp at h
   rename_i x hx;split at h;·simp at h
   rename_i hlen;obtain⟨h1,h2,h3,h4,h5⟩:=jk σ h;refine⟨fun q hq hqn=>?_,fun f hf=>h2 f (by simp[hf]),fun f hf=>?_,h4,fun _=>h5 (by omega)⟩
   ·rcases List.mem_cons.1 hq with rfl|hq;·exact⟨x,hx,fun f hf=>h2 f (by simp[hf])⟩
    exact h1 q hq hqn
   rcases h3 f hf with hf|⟨q,hq,hqn,y,hy,hf⟩
   ·rcases List.mem_append.1 hf with hf|hf;·exact Or.inl hf
    exact Or.inr ⟨r,by simp,hs,x,hx,hf⟩
   exact Or.inr ⟨q,by simp[hq],hqn,y,hy,hf⟩
  rename_i hs;obtain⟨h1,h2,h3,h4,h5⟩:=jk σ h;refine⟨fun q hq hqn=>?_,h2,fun f hf=>?_,h4,h5⟩
  ·rcases List.mem_cons.1 hq with rfl|hq;·exact absurd hqn hs
   exact h1 q hq hqn
  rcases h3 f hf with hf|⟨q,hq,hqn,y,hy,hf⟩;·exact Or.inl hf
  exact Or.inr ⟨q,by simp[hq],hqn,y,hy,hf⟩
theorem jl {p:List aG} (hp:dP p) (σ:aG→Nat) {n:Int} {L S:List aA} (hL:GoodS p L) (h:bW p (p.map σ) n L=(0,S)):GoodS p S∧∀f∈L,f∈S:=by
 obtain⟨h1,h2,h3,h4,h5⟩:=jk σ h;have key:∀f∈S,f∈L∨(ni f∧BR p f=true):=fun f hf=>by
  rcases h3 f hf with hf|⟨r,hr,_,x,hx,hf⟩;·exact Or.inl hf
  obtain⟨env,he,jr⟩:=(kK (fA (hp.rules r hr)) hx f).1 hf;obtain⟨a,b,c⟩:=wT (hp.rules r hr) hL.right he jr;exact Or.inr ⟨a,KD hp hr b c⟩
 refine⟨⟨h4,fun f hf=>(key f hf).elim (hL.right f) (·.1),h5 (by rw[mh hL.up];exact hL.few),fun f hf=>(key f hf).elim (hL.fit f) (·.2)⟩,h2⟩
inductive Walks (p:List aG) (ss:List Nat) (n:Int):List aA→List aA→Prop
 |stop {L:List aA}:bW p ss n L=(0,L)→Walks p ss n L L
 |go {L L' M:List aA}:bW p ss n L=(0,L')→Walks p ss n L' M→Walks p ss n L M
theorem wU {p:List aG} (hp:dP p) (σ:aG→Nat) {n:Int}:∀(k:Nat) {L M:List aA},GoodS p L→dM p (p.map σ) n k L=(0,M)→200<L.length+k→Walks p (p.map σ) n L M
 |0,L,M,hL,_,hk=>by have:=hL.few;omega
 |k+1,L,M,hL,h,hk=>by
  unfold dM at h;obtain⟨e,x,hx⟩:∃e x,bW p (p.map σ) n L=(e,x):=⟨_,_,rfl⟩;rw[hx] at h;dsimp only at h;split at h;·rename_i he;simp at h;exact absurd h.1 he
  rename_i he;have he:e=0:=by simpa using he
  subst he;obtain⟨g1,g2⟩:=jl hp σ hL hx;split at h;·rename_i hlen;have e:L=x:=G6 hL.up g1.up g2 (by omega);simp at h;subst h;subst e;exact .stop hx
  rename_i hlen;have:=EN hL.up g2;exact .go hx (wU hp σ k g1 h (by omega))
theorem Ab {p:List aG} (hp:dP p) (σ:aG→Nat) {n:Int} {P:List aA→Prop} (hP:∀L L',GoodS p L→P L→bW p (p.map σ) n L=(0,L')→P L') {L M:List aA} (h:Walks p (p.map σ) n L M):
  GoodS p L→P L→GoodS p M∧P M∧bW p (p.map σ) n M=(0,M)∧∀f∈L,f∈M:=by
 induction h with
 |stop h=>exact fun hL hPL=>⟨hL,hPL,h,fun _ h=>h⟩
 |go h _ ih=>
  intro hL hPL;obtain⟨g1,g2⟩:=jl hp σ hL h;obtain⟨a,b,c,d⟩:=ih g1 (hP _ _ hL hPL h);exact⟨a,b,c,fun f hf=>d f (g2 f hf)⟩
theorem G7 {p:List aG} (hp:dP p) (σ:aG→Nat) {P:Nat→List aA→Prop} (hP:∀(n:Nat) L M,GoodS p L→P n L→Walks p (p.map σ) n L M→P (n+1) M):
  ∀(c n:Nat) {L M:List aA},GoodS p L→P n L→kJ p (p.map σ) c n L=(0,M)→GoodS p M∧P (n+c) M∧∀f∈L,f∈M
 |0,n,L,M,hL,hPL,h=>by simp[kJ] at h;subst h;exact⟨hL,hPL,fun _ h=>h⟩
 |c+1,n,L,M,hL,hPL,h=>by
  unfold kJ at h;obtain⟨e,x,hx⟩:∃e x,dM p (p.map σ) n 201 L=(e,x):=⟨_,_,rfl⟩;rw[hx] at h;dsimp only at h;split at h;·rename_i he;simp at h;exact absurd h.1 he
  rename_i he;have he:e=0:=by simpa using he
  subst he;have hw:=wU hp σ 201 hL hx (by omega);obtain⟨g1,_,_,g2⟩:=Ab hp σ (P:=fun _=>True) (fun _ _ _ _ _=>trivial) hw hL trivial;obtain⟨a,b,d⟩:=G7 hp σ hP c (n+1) g1 (hP n L x hL hPL hw) h;exact⟨a,by rw[show n+(c+1)=n+1+c by omega];exact b,fun f hf=>d f (g2 f hf)⟩
structure Way (p:List aG) (τ:Bs→Nat) (l:List aA) (n m:Nat) (L:List aA):Prop where
 told:∀f∈l,f∈L
 of:∀f∈L,f∉l→∃r∈p,τ r.head.name<m∧f.1=bs r.head.name
 closed:∀r∈p,τ r.head.name<n→∀env f,oO (fun _=>L) r.body env→bg r.head env=some f→f∈L
 made:∀f∈L,f∉l→∃r∈p,τ r.head.name<m∧∃env,oO (fun _=>L) r.body env∧bg r.head env=some f
theorem KE {p:List aG} (hp:dP p) {τ:Bs→Nat} (hτ:Sol p τ) {l:List aA} {n:Nat} {L L':List aA} (hw:Way p τ l n (n+1) L) (h:bW p (p.map fun r=>τ r.head.name) n L=(0,L')):Way p τ l n (n+1) L':=by
 obtain⟨h1,h2,h3,h4,h5⟩:=jk (fun r=>τ r.head.name) h;have hnew:∀f∈L',f∈L∨∃r∈p,τ r.head.name=n∧∃env,oO (fun _=>L) r.body env∧bg r.head env=some f∧f.1=bs r.head.name:=fun f hf=>by
  rcases h3 f hf with hf|⟨r,hr,hn,x,hx,hf⟩;·exact Or.inl hf
  obtain⟨env,he,jr⟩:=(kK (fA (hp.rules r hr)) hx f).1 hf;exact Or.inr ⟨r,hr,Int.ofNat.inj hn,env,he,jr,(jM jr).1⟩
 have hold:∀r∈p,∀a∈r.body,τ r.head.name<n+step a→∀f:aA,f.1=bs a.name→f∈L'→f∈L:=fun r hr a ha hlt f hfn hf=>by
  rcases hnew f hf with hf|⟨q,hq,hqn,_,_,_,hqf⟩;·exact hf
  exfalso
  have e:a.name=q.head.name:=mZ (hfn.symm.trans hqf);have:=hτ r hr a ha ⟨q,hq,e.symm⟩;rw[e] at this;omega
 have hfits:∀r∈p,τ r.head.name<n+1→∀env,oO (fun _=>L) r.body env→oO (fun _=>L') r.body env:=fun r hr hrn env he=>
  Dl (fun a _ _ f _ hf=>h2 f hf) (fun a ha hno f hfn hf=>hold r hr a ha (by simp only[step,hno,if_true];omega) f hfn hf) he
 refine⟨fun f hf=>h2 f (hw.told f hf),fun f hf hfl=>?_,fun r hr hrn env f he jr=>?_,fun f hf hfl=>?_⟩
 ·rcases hnew f hf with hf|⟨q,hq,hqn,_,_,_,hqf⟩;·exact hw.of f hf hfl
  exact⟨q,hq,by omega,hqf⟩
 ·refine h2 f (hw.closed r hr hrn env f (Dl (fun a ha hno f hfn hf=>hold r hr a ha (by omega) f hfn hf) (fun a _ _ f _ hf=>h2 f hf) he) jr)
 rcases hnew f hf with hf|⟨q,hq,hqn,env,he,jr,_⟩;·obtain⟨r,hr,hrn,env,he,jr⟩:=hw.made f hf hfl;exact⟨r,hr,hrn,env,hfits r hr hrn env he,jr⟩
 exact⟨q,hq,by omega,env,hfits q hq (by omega) env he,jr⟩
theorem G8 {p:List aG} (hp:dP p) {τ:Bs→Nat} (hτ:Sol p τ) {l:List aA} {n:Nat} {L M:List aA} (hL:GoodS p L) (hw:Way p τ l n n L) (h:Walks p (p.map fun r=>τ r.head.name) n L M):Way p τ l (n+1) (n+1) M:=by
 have h0:Way p τ l n (n+1) L:=⟨hw.told,fun f hf hn=>by obtain⟨r,hr,h1,h2⟩:=hw.of f hf hn;exact⟨r,hr,by omega,h2⟩,hw.closed,fun f hf hn=>by obtain⟨r,hr,h1,h2⟩:=hw.made f hf hn;exact⟨r,hr,by omega,h2⟩⟩;obtain⟨g,hm,hfix,_⟩:=Ab hp (fun r=>τ r.head.name) (P:=Way p τ l n (n+1)) (fun L L' _ hw ho=>KE hp hτ hw ho) h hL h0;obtain⟨h1,_⟩:=jk (fun r=>τ r.head.name) hfix;refine⟨hm.told,hm.of,fun r hr hrn env f he jr=>?_,hm.made⟩
 by_cases e:τ r.head.name<n
 ·exact hm.closed r hr e env f he jr
 have e2:τ r.head.name=n:=by omega
 obtain⟨x,hx,hxm⟩:=h1 r hr (by rw[e2]);exact hxm f ((kK (fA (hp.rules r hr)) hx f).2 ⟨env,he,jr⟩)
theorem G9 {p:List aG} (hp:dP p) {τ:Bs→Nat} (hτ:Sol p τ) {l m:List aA} (hl:GoodS p l) (h:kJ p (p.map fun r=>τ r.head.name) (countP (p.map fun r=>τ r.head.name)) 0 l=(0,m)):
  GoodS p m∧Way p τ l (countP (p.map fun r=>τ r.head.name)) (countP (p.map fun r=>τ r.head.name)) m:=by
 have h0:Way p τ l 0 0 l:=⟨fun _ h=>h,fun f hf hn=>absurd hf hn,fun r _ h=>by omega,fun f hf hn=>absurd hf hn⟩;obtain⟨a,b,_⟩:=G7 hp (fun r=>τ r.head.name) (P:=fun n=>Way p τ l n n) (fun n L M hL hw hW=>G8 hp hτ hL hw hW) _ 0 hl h0 h;exact⟨a,by rw[Nat.zero_add] at b;exact b⟩
theorem He {p:List aG} (hp:dP p) {τ:Bs→Nat} (hτ:Sol p τ) {l m:List aA} (hl:GoodS p l) (h:kJ p (p.map fun r=>τ r.head.name) (countP (p.map fun r=>τ r.head.name)) 0 l=(0,m)):
  (∀f∈l,f∈m)∧∀r∈p,∀x,gq r m=some x→∀f∈x,f∈m:=by
 obtain⟨_,hw⟩:=G9 hp hτ hl h;refine⟨hw.told,fun r hr x hx f hf=>?_⟩;obtain⟨env,he,jr⟩:=(kK (fA (hp.rules r hr)) hx f).1 hf;exact hw.closed r hr (o7 (List.mem_map.2 ⟨r,hr,rfl⟩)) env f he jr
inductive bG where
 |mk (fact:aA) (rule:Int) (kids:List bG):bG
def bG.fact:bG→aA
 | .mk f _ _=>f
def bG.rule:bG→Int
 | .mk _ r _=>r
def bG.kids:bG→List bG
 | .mk _ _ k=>k
def Deep:Nat→bG→Prop
 |0,_=>False
 |n+1,x=>∀k∈x.kids,Deep n k
theorem Deep.mono:∀{n m:Nat} {x:bG},Deep n x→n≤m→Deep m x
 |0,_,_,h,_=>h.elim
 |n+1,0,_,_,h=>by omega
 |n+1,m+1,x,h,hm=>fun k hk=>(h k hk).mono (by omega)
def fT (en:Nat×Nat→Bool):Nat→List bG→Nat×Nat→Nat×Nat
 |0,_,s=>s
 |n+1,L,s=>if L=[]∨en s=true then s else fT en n (L.flatMap bG.kids) (s.1+L.length,s.2+1)
def ig (s:Nat×Nat):Bool:=decide (400<s.1)||decide (60<s.2)
def fH:List aI→List aA→List aD→Int×List aD
 |[],[],b=>(0,b)
 |[],_::_,_=>(5,[])
 |a::as',ks,b=>if a.no then fH as' ks b else match ks with
  |[]=>(5,[])
  |k::ks=>match cZ a k b with
   |none=>(8,[])
   |some b'=>fH as' ks b'
def Kc (all:List aA) (body:List aI) (b:List aD):Int:=
 if body.any (fun a=>a.no&&(match bg a b with|none=>true|some f=>inB all f)) then 10 else 0
def lQ (all:List aA) (r:aG) (f:aA) (ks:List aA):Int:=match cZ r.head f [] with
 |none=>8
 |some b=>if(fH r.body ks b).1≠0 then(fH r.body ks b).1 else Kc all r.body (fH r.body ks b).2
def lG (g:bG→Int):List bG→Int
 |[]=>0
 |k::ks=>if g k≠0 then g k else lG g ks
def dQ (p:List aG) (told all:List aA):Nat→bG→Int
 |0,_=>0
 |n+1,x=>if x.rule<0 then(if x.rule= -1∧x.kids=[]∧inB told x.fact=true then 0 else 6) else match p[x.rule.toNat]? with
  |none=>1
  |some r=>if lQ all r x.fact (x.kids.map bG.fact)≠0 then lQ all r x.fact (x.kids.map bG.fact) else lG (dQ p told all n) x.kids
theorem tL:∀{body:List aI} {ks:List aA} {b b':List aD} {K:List Bs},bJ b=K.map bs→fH body ks b=(0,b')→
  (∃r,b'=b++r)∧bJ b'=(fF K body).map bs∧∀a∈body,a.no=false→∃k∈ks,bg a b'=some k
 |[],[],b,b',K,hk,h=>by simp only[fH,Prod.mk.injEq,true_and] at h;subst h;exact⟨⟨[],by simp⟩,hk,fun a ha=>by cases ha⟩
 |[],_::_,b,b',K,hk,h=>by simp[fH] at h
 |a::as',ks,b,b',K,hk,h=>by
  unfold fH at h;rw[iE];cases hno:a.no with
  |true=>
   rw[hno] at h;simp only[if_true] at h⊢;obtain⟨h1,h2,h3⟩:=tL hk h;refine⟨h1,h2,fun c hc hcn=>?_⟩;rcases List.mem_cons.1 hc with rfl|hc
   ·rw[hno] at hcn;cases hcn
   exact h3 c hc hcn
  |false=>
   rw[hno] at h;simp only[Bool.false_eq_true,if_false] at h⊢;cases ks with
   |nil=>simp at h
   |cons k ks=>
    dsimp only at h;cases hm:cZ a k b with
    |none=>rw[hm] at h;simp at h
    |some b1=>
     rw[hm] at h;obtain⟨⟨r,hr⟩,hk1,hf1⟩:=jd hk hm;obtain⟨⟨s,hs⟩,h2,h3⟩:=tL hk1 h;refine⟨⟨r++s,by rw[hs,hr,List.append_assoc]⟩,h2,fun c hc hcn=>?_⟩;rcases List.mem_cons.1 hc with rfl|hc
     ·exact⟨k,by simp,by rw[hs];exact qY hf1⟩
     obtain⟨q,hq,e⟩:=h3 c hc hcn;exact⟨q,by simp[hq],e⟩
theorem Nj {all:List aA} {body:List aI} {b:List aD} (h:∀a∈body,a.no=true→∃f,bg a b=some f∧inB all f=false):Kc all body b=0:=by unfold Kc;rw[if_neg];intro h0;obtain⟨a,ha,hc⟩:=List.any_eq_true.1 h0;rw[Bool.and_eq_true] at hc;obtain⟨f,hf,hi⟩:=h a ha hc.1;rw[hf] at hc;rw[show(match some f with|none=>true|some f=>inB all f)=inB all f from rfl,hi] at hc;cases hc.2
inductive Sub:bG→bG→Prop where
 |here (x:bG):Sub x x
 |kid {x k y:bG} (hk:k∈x.kids) (h:Sub k y):Sub x y
def noK:aB bG:={size:=4,is:=fun _ _ _ _=>False,len:=fun h=>h.elim,one:=fun h=>h.elim,kept:=fun h _ _=>h,mono:=fun h _=>h}
def X5 (K:aB bG):aB bG where
 size:=4
 is:=fun B w c x=>∃s kv,c=[.string x.fact.1,s,.int .i64 x.rule,kv]∧bsK.sl B w s x.fact.2∧K.sl B w kv x.kids
 len:=fun⟨s,kv,h,_⟩=>by subst h;rfl
 one:=fun⟨s,kv,h,h1,h2⟩ u hu=>by subst h;obtain⟨a,cap,rfl⟩:=aB.slice h1;obtain⟨a',cap',rfl⟩:=aB.slice h2;simp at hu;rcases hu with rfl|rfl|rfl|rfl <;> rfl
 kept:=fun⟨s,kv,h,h1,h2⟩ k1 k2=>⟨s,kv,h,aB.bL h1 k1 k2,aB.bL h2 k1 k2⟩
 mono:=fun⟨s,kv,h,h1,h2⟩ k1=>⟨s,kv,h,aB.bQ h1 k1,aB.bQ h2 k1⟩
def kZ:Nat→aB bG
 |0=>noK
 |n+1=>X5 (kZ n)
theorem Ac:∀n,(kZ n).size=4
 |0=>rfl
 |_+1=>rfl
theorem Ad {α:Type} {K:aB α} {B:Nat→Prop} {w:World} {v:Value} {l:List α} (h:K.sl B w v l) {x:α} (hx:x∈l):∃c,K.is B w c x:=by obtain⟨i,hi,e⟩:=List.getElem_of_mem hx;obtain⟨_,a,cap,_,h1⟩:=h;obtain⟨b,off,_,_,_,hc⟩:=h1 (by intro e;rw[e] at hx;cases hx);obtain⟨c,c1,_⟩:=hc i x (by rw[List.getElem?_eq_getElem hi,e]);exact⟨c,c1⟩
theorem yI {B:Nat→Prop} {w:World}:∀(n:Nat) (c:List Value) (x:bG),(kZ n).is B w c x→Deep n x
 |0,_,_,h=>h.elim
 |n+1,c,x,⟨s,kv,_,_,h2⟩=>fun k hk=>by obtain⟨d,hd⟩:=Ad h2 hk;exact yI n d k hd
def lV (n:Nat) (B:Nat→Prop) (w:World) (v:Value) (x:bG):Prop:=∃s kv,v=.agg #[.string x.fact.1,s,.int .i64 x.rule,kv]∧bsK.sl B w s x.fact.2∧(kZ n).sl B w kv x.kids
theorem lV.deep {n:Nat} {B:Nat→Prop} {w:World} {v:Value} {x:bG} (h:lV n B w v x):Deep (n+1) x:=by obtain⟨s,kv,rfl,h1,h2⟩:=h;exact yI (B:=B) (w:=w) (n+1) _ x ⟨s,kv,rfl,h1,h2⟩
theorem lV.kept {n:Nat} {B:Nat→Prop} {w w':World} {v:Value} {x:bG} (h:lV n B w v x) (hs:w.heap.size≤w'.heap.size) (hk:∀k,k<w.heap.size→B k→w'.heap[k]?=w.heap[k]?):lV n B w' v x:=by obtain⟨s,kv,rfl,h1,h2⟩:=h;exact⟨s,kv,rfl,aB.bL h1 hs hk,aB.bL h2 hs hk⟩
theorem lV.below {n:Nat} {B:Nat→Prop} {w w':World} {v:Value} {x:bG} (h:lV n B w v x) (k:Below w.heap.size w w'):lV n B w' v x:=h.kept k.size fun i hi _=>k.block i hi
theorem lV.fact {n:Nat} {B:Nat→Prop} {w:World} {s kv:Value} {x:bG} {nm:ByteArray} {r:Int} (h:lV n B w (.agg #[.string nm,s,.int .i64 r,kv]) x):dD w (.agg #[.string nm,s]) x.fact:=by obtain⟨s',kv',e,h1,_⟩:=h;simp only[Value.agg.injEq,Array.mk.injEq,List.cons.injEq,Value.string.injEq,and_true] at e;obtain⟨rfl,rfl,_,_⟩:=e;exact⟨_,rfl,iX h1⟩
def qE {α:Type} (K:aB α) (ty:TypeId) (B:Nat→Prop) (w0:World) (lo:Nat) (w:World) (v:Value) (l:List (List α)):Prop:=
 ∃xs,w.ownsRow lo ty 1 v l.length xs∧∀(i:Nat) a,l[i]?=some a→∃u,K.sl B w0 u a∧xs[i]?=some u
section
variable {α:Type} {K:aB α} {ty:TypeId} {B:Nat→Prop} {w0:World} {lo:Nat} {w:World} {v:Value} {l:List (List α)}
theorem qE.nil (K:aB α) (ty:TypeId) (B:Nat→Prop) (w0:World) (lo:Nat) (w:World):qE K ty B w0 lo w (.slice none 0 0) []:=⟨[],World.ownsRow_nil w _ _ _,fun i a h=>by simp at h⟩
theorem qE.slice (h:qE K ty B w0 lo w v l):∃a cap,v=.slice a l.length cap:=by
 obtain⟨xs,ho,_⟩:=h;rcases ho.2 with⟨rfl,e⟩|⟨g,cap,cur,rfl,_⟩;·exact⟨none,0,by rw[e]⟩
 exact⟨_,cap,rfl⟩
theorem qE.lo_le (h:qE K ty B w0 lo w v l):∀k,v.ownBlock=some k→lo≤k∧k<w.heap.size:=fun k e=>by obtain⟨xs,ho,_⟩:=h;exact ho.lt k e
theorem qE.kept {w':World} (h:qE K ty B w0 lo w v l) (hk:∀k,v.ownBlock=some k→w'.heap[k]?=w.heap[k]?):qE K ty B w0 lo w' v l:=by
 obtain⟨xs,ho,hx⟩:=h;refine⟨xs,⟨ho.1,?_⟩,hx⟩;rcases ho.2 with e|⟨g,cap,cur,rfl,hbg,hg,r⟩;·exact Or.inl e
 exact Or.inr ⟨g,cap,cur,rfl,hbg,by rw[hk g rfl];exact hg,r⟩
theorem qE.more {T:TypeId} {i:TypeInfo} (h:qE K ty B w0 lo w v l) (hT:Tryz.prog.underlying T=some (.slice ty)) (i1:Tryz.prog.info? ty=some i) (i2:i.zero=some (.slice none 0 0)) (i3:i.size=1) (i4:i.bytes=24) (hs:lo≤w.heap.size) {u:Value} {a:List α} (hc:K.sl B w0 u a) (hl:l.length+1≤1099511627776):
  ∃v' w',(Builtin.append_ #[T,T] T #[v,.slice (some ⟨w.heap.size,0,none⟩) 1 1]).run Tryz.prog (w.alloc (.cells #[u] ty))=.ok v' w'∧qE K ty B w0 lo w' v' (l++[a])∧(w.alloc (.cells #[u] ty)).grownBy w' v.ownBlock∧w.drawn≤w'.drawn:=by
 obtain⟨xs,ho,hx⟩:=h;have hnews:∀j x,([u]:List Value)[j]?=some x→(w.alloc (.cells #[u] ty)).cell? ((⟨w.heap.size,0,none⟩:Addr).add j)=some x:=by intro j x hx;rw[Addr.add_lit,Nat.zero_add,cell_of_row _ w.heap.size j #[u] ty (0,0) (heap_alloc_new w _)];simpa using hx
 have hone:∀x∈[u],Value.oneCell' x=true:=by
  intro x hx;simp at hx;subst hx;obtain⟨a,cap,rfl⟩:=aB.slice hc
  rfl
 obtain⟨v',w',hrun,r1,r2,r3,r4⟩:=dZ (P:=Tryz.prog) (w.alloc (.cells #[u] ty)) lo T T ty i _ 1 24 hT i1 i2 i3 i4 rfl (by omega) v l.length xs (ho.alloc _) ⟨w.heap.size,0,none⟩ 1 1 [u] rfl hnews hone (by simp only[maxLen];omega) (by omega) (by simp;omega);have hxl:xs.length=l.length:=by have:=ho.1;omega
 refine⟨v',w',hrun,⟨xs++[u],by simpa using r1,fun j b hj=>?_⟩,r2,r3⟩
 by_cases hjl:j<l.length
 ·rw[List.getElem?_append_left hjl] at hj;obtain⟨q,q1,q2⟩:=hx j b hj;exact⟨q,q1,by rw[List.getElem?_append_left (by omega)];exact q2⟩
 rw[List.getElem?_append_right (by omega)] at hj;have hj':j=l.length:=by have:=(List.getElem?_eq_some_iff.1 hj).1;simp at this;omega
 subst hj';simp at hj;subst hj;exact⟨u,hc,by rw[List.getElem?_append_right (by omega),hxl];simp⟩
theorem qE.at (h:qE K ty B w0 lo w v l) {i:Nat} {a:List α} (hi:l[i]?=some a):∃g cap u,v=.slice (some ⟨g,0,none⟩) l.length cap∧g<w.heap.size∧K.sl B w0 u a∧w.cell? ⟨g,i,none⟩=some u:=by
 obtain⟨xs,ho,hx⟩:=h;obtain⟨u,hu,hxu⟩:=hx i a hi;rcases ho.2 with⟨rfl,e⟩|⟨g,cap,cur,rfl,hbg,hg,hnc,_⟩;·have:=(List.getElem?_eq_some_iff.1 hi).1;omega
 refine⟨g,cap,u,rfl,(Array.getElem?_eq_some_iff.1 hg).1,hu,?_⟩;have:=ho.cells (g:=g) rfl i u hxu;rw[Addr.add_lit] at this;simpa using this
end
end Go.Proofs.YtaallngooaaonaaGreatDoor
