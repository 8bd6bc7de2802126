import Derived.Test.YtafmbokfkbccaaaGreatDoorJN34
import Derived.Test.YtafmbokfkbccaaaGreatDoorJN24
import Derived.Test.YtafmbokfkbccaaaGreatDoorJN15
import Derived.BigQuiet
namespace Go.Proofs.YtafmbokfkbccaaaGreatDoor
def Steps (Q:List au→List au→Prop):List au→List (List au)→Prop
 |_,[]=>True
 |L,M::ps=>Q L M∧Steps Q M ps
theorem Steps.append {Q:List au→List au→Prop}:∀{ps qs:List (List au)} {L:List au},Steps Q L ps→Steps Q (bE L ps) qs→Steps Q L (ps++qs)
 |[],_,_,_,h=>h
 |M::ps,qs,L,h,h2=>⟨h.1,Steps.append h.2 (by rw[gU] at h2;exact h2)⟩
theorem Fq {r:aA} (hR:mg r) {L x:List au} (h:gH r L=some x) {f:au} (hf:f∈x):f.1=bs r.head.name:=by
 obtain⟨env,_,he⟩:=(jm (dJ hR) h f).1 hf;exact(jo he).1
theorem kS {p:List aA} (hp:cZ p) (σ:aA→Nat) {n:Int}:∀(k:Nat) {L:List au} {ps:List (List au)},GoodS p L→aT p (p.map σ) n k L=(0,ps)→200<L.length+k→
  GoodS p (bE L ps)∧(∀f∈L,f∈bE L ps)∧(∀f∈bE L ps,f∉L→∃r∈p,(σ r:Int)=n∧f.1=bs r.head.name)∧fu p (p.map σ) n (bE L ps)=(0,bE L ps)
 |0,L,ps,hL,_,hk=>by have:=hL.few;omega
 |k+1,L,ps,hL,h,hk=>by
  unfold aT at h;obtain⟨e,x,hx⟩:∃e x,fu p (p.map σ) n L=(e,x):=⟨_,_,rfl⟩;rw[hx] at h;dsimp only at h;split at h
  ·rename_i he;simp at h;exact absurd h.1 he
  ·rename_i he;have he:e=0:=by simpa using he
   subst he;obtain⟨g1,g2⟩:=mh hp σ hL hx;obtain⟨_,_,o3,_,_⟩:=jq σ hx;have hnew:∀f∈x,f∉L→∃r∈p,(σ r:Int)=n∧f.1=bs r.head.name:=fun f hf hn=>by
    rcases o3 f hf with h1|⟨r,hr,h1,y,hy,hfy⟩
    ·exact absurd h1 hn
    ·exact⟨r,hr,h1,Fq (hp.rules r hr) hy hfy⟩
   split at h
   ·rename_i hlen;have e:L=x:=BX hL.up g1.up g2 (by omega);simp at h;subst h;rw[gU];show GoodS p x∧(∀f∈L,f∈x)∧(∀f∈x,f∉L→_)∧fu p (p.map σ) n x=(0,x);exact⟨g1,g2,hnew,by rw[←e] at hx⊢;exact hx⟩
   ·rename_i hlen;have hle:=sO hL.up g2;obtain⟨e2,qs,hq⟩:∃e qs,aT p (p.map σ) n k x=(e,qs):=⟨_,_,rfl⟩;rw[hq] at h;simp only[Prod.mk.injEq] at h;obtain⟨rfl,rfl⟩:=h;obtain⟨a1,a2,a3,a4⟩:=kS hp σ k g1 hq (by omega);rw[gU];refine⟨a1,fun f hf=>a2 f (g2 f hf),fun f hf hn=> ?_,a4⟩
    by_cases hfx:f∈x
    ·exact hnew f hfx hn
    ·exact a3 f hf hfx
theorem sj {p:List aA} (hp:cZ p) (σ:aA→Nat):∀(c n:Nat) {L:List au} {ps:List (List au)},GoodS p L→bF p (p.map σ) c n L=(0,ps)→
  GoodS p (bE L ps)∧(∀f∈L,f∈bE L ps)∧∀f∈bE L ps,f∉L→∃r∈p,n≤σ r∧f.1=bs r.head.name
 |0,n,L,ps,hL,h=>by
  simp only[bF,Prod.mk.injEq,true_and] at h;subst h;exact⟨hL,fun _ h=>h,fun f hf hn=>absurd hf hn⟩
 |c+1,n,L,ps,hL,h=>by
  unfold bF at h;obtain⟨e,os,ho⟩:∃e os,aT p (p.map σ) n 201 L=(e,os):=⟨_,_,rfl⟩;rw[ho] at h;dsimp only at h;split at h
  ·rename_i he;simp at h;exact absurd h.1 he
  ·rename_i he;have he:e=0:=by simpa using he
   subst he;obtain⟨e2,rs,hr⟩:∃e qs,bF p (p.map σ) c (n+1) (bE L os)=(e,qs):=⟨_,_,rfl⟩;rw[hr] at h;simp only[Prod.mk.injEq] at h;obtain⟨rfl,rfl⟩:=h;obtain⟨a1,a2,a3,_⟩:=kS hp σ 201 hL ho (by omega);obtain⟨b1,b2,b3⟩:=sj hp σ c (n+1) a1 hr;rw[gK];refine⟨b1,fun f hf=>b2 f (a2 f hf),fun f hf hn=> ?_⟩
   by_cases hm:f∈bE L os
   ·obtain⟨r,hr,e,hname⟩:=a3 f hm hn;exact⟨r,hr,by omega,hname⟩
   ·obtain⟨r,hr,e,hname⟩:=b3 f hf hm;exact⟨r,hr,by omega,hname⟩
def Came (p:List aA) (all L M:List au):Prop:=GoodS p L∧(∀f∈L,f∈all)∧
 ∀f∈M,f∉L→∃r∈p,∃env,jE (fun _=>L) r.body env∧aV r.head env=some f∧∀a∈r.body,a.no=true→∀g,aV a env=some g→g∉all
theorem Bl {p:List aA} (hp:cZ p) {τ:Bs→Nat} (hτ:Sol p τ) {n:Nat} {all:List au}:∀(k:Nat) {L:List au} {ps:List (List au)},GoodS p L→aT p (p.map fun r=>τ r.head.name) n k L=(0,ps)→200<L.length+k→
  (∀f∈bE L ps,f∈all)→(∀f∈all,f∉L→∃r∈p,n≤τ r.head.name∧f.1=bs r.head.name)→Steps (Came p all) L ps
 |0,L,ps,hL,_,hk,_,_=>by have:=hL.few;omega
 |k+1,L,ps,hL,h,hk,hsub,hall=>by
  have Si:∀f∈L,f∈all:=fun f hf=>hsub f ((kS hp _ (k+1) hL h hk).2.1 f hf);unfold aT at h;obtain⟨e,x,hx⟩:∃e x,fu p (p.map fun r=>τ r.head.name) n L=(e,x):=⟨_,_,rfl⟩;rw[hx] at h;dsimp only at h;split at h
  ·rename_i he;simp at h;exact absurd h.1 he
  ·rename_i he;have he:e=0:=by simpa using he
   subst he;obtain⟨g1,g2⟩:=mh hp (fun r=>τ r.head.name) hL hx;obtain⟨_,_,o3,_,_⟩:=jq (fun r=>τ r.head.name) hx;have PN:Came p all L x:=⟨hL,Si,fun f hf hn=>by
    rcases o3 f hf with h1|⟨r,hr,hrn,y,hy,hfy⟩
    ·exact absurd h1 hn
    ·obtain⟨env,he,jD⟩:=(jm (dJ (hp.rules r hr)) hy f).1 hfy;refine⟨r,hr,env,he,jD,fun a ha hno g hg hga=> ?_⟩;obtain⟨g',hg',hi⟩:=ji.1 he.2.2.2 a ha;rw[hg] at hg';cases hg';rw[hno] at hi;have hgl:g∉L:=fun hc=>by rw[aZ.2 hc] at hi;cases hi
     obtain⟨q,hq,hqn,IK⟩:=hall g hga hgl;have e1:a.name=q.head.name:=qO ((jo hg).1.symm.trans IK);have h2:=hτ r hr a ha ⟨q,hq,e1.symm⟩;have h3:step a=1:=by unfold step;rw[if_pos hno]
     have h4:τ r.head.name=n:=by exact_mod_cast hrn
     rw[e1,h3,h4] at h2;omega⟩
   split at h
   ·simp at h;subst h;exact⟨PN,trivial⟩
   ·rename_i hlen;have hle:=sO hL.up g2;obtain⟨e2,qs,hq⟩:∃e qs,aT p (p.map fun r=>τ r.head.name) n k x=(e,qs):=⟨_,_,rfl⟩;rw[hq] at h;simp only[Prod.mk.injEq] at h;obtain⟨rfl,rfl⟩:=h;rw[gU] at hsub;exact⟨PN,Bl hp hτ k g1 hq (by omega) hsub fun f hf hn=>hall f hf fun hc=>hn (g2 f hc)⟩
theorem DL {p:List aA} (hp:cZ p) {τ:Bs→Nat} (hτ:Sol p τ):∀(c n:Nat) {L:List au} {ps:List (List au)},GoodS p L→bF p (p.map fun r=>τ r.head.name) c n L=(0,ps)→Steps (Came p (bE L ps)) L ps
 |0,n,L,ps,hL,h=>by
  simp only[bF,Prod.mk.injEq,true_and] at h;subst h
  trivial
 |c+1,n,L,ps,hL,h=>by
  have hg:=sj hp _ (c+1) n hL h;unfold bF at h;obtain⟨e,os,ho⟩:∃e os,aT p (p.map fun r=>τ r.head.name) n 201 L=(e,os):=⟨_,_,rfl⟩;rw[ho] at h;dsimp only at h;split at h
  ·rename_i he;simp at h;exact absurd h.1 he
  ·rename_i he;have he:e=0:=by simpa using he
   subst he;obtain⟨e2,rs,hr⟩:∃e qs,bF p (p.map fun r=>τ r.head.name) c (n+1) (bE L os)=(e,qs):=⟨_,_,rfl⟩;rw[hr] at h;simp only[Prod.mk.injEq] at h;obtain⟨rfl,rfl⟩:=h;obtain⟨a1,a2,a3,_⟩:=kS hp _ 201 hL ho (by omega);obtain⟨b1,b2,b3⟩:=sj hp _ c (n+1) a1 hr;have ih:=DL hp hτ c (n+1) a1 hr;rw[gK] at hg⊢;exact Steps.append (Bl hp hτ 201 hL ho (by omega) b2 fun f hf hn=>hg.2.2 f hf hn) ih
theorem filterMap_filter {α β:Type} {g:α→Option β} {P:α→Bool}:∀{l:List α},(∀x∈l,P x=false→g x=none)→l.filterMap g=(l.filter P).filterMap g
 |[],_=>rfl
 |a::l,h=>by
  have ih:=filterMap_filter (g:=g) (P:=P) (l:=l) fun x hx=>h x (by simp[hx]);rw[List.filter_cons];cases hp:P a with
  |true=>rw[if_pos rfl,List.filterMap_cons,List.filterMap_cons,ih]
  |false=>rw[if_neg (by simp),List.filterMap_cons_none (h a (by simp) hp),ih]
theorem yX {a:aF} {fs gs:List au} (h:(fs.filter fun f=>decide (f.1=bs a.name))=gs.filter fun f=>decide (f.1=bs a.name)) (ls:List (List aD)):aS a fs ls=aS a gs ls:=by
 unfold aS;have key:∀(l:List aD) (q:List au),(q.filterMap fun f=>fK a f l)=((q.filter fun f=>decide (f.1=bs a.name)).filterMap fun f=>fK a f l):=fun l q=>
  filterMap_filter fun x _ hx=>by
   unfold fK;rw[if_neg];rintro⟨e,_⟩;rw[decide_eq_false_iff_not] at hx;exact hx e.symm
 have e:(fun l=>fs.filterMap fun f=>fK a f l)=fun l=>gs.filterMap fun f=>fK a f l:=by
  funext l
  rw[key l fs,key l gs,h]
 rw[e]
theorem uR {fs gs:List au}:∀(body:List aF) (n:Nat) (ls:List (List aD)),(∀a∈body,(fs.filter fun f=>decide (f.1=bs a.name))=gs.filter fun f=>decide (f.1=bs a.name))→fF (fun _=>fs) n body ls=fF (fun _=>gs) n body ls
 |[],_,_,_=>rfl
 |a::body,n,ls,h=>by
  unfold fF;rw[yX (h a (by simp)),uR body _ _ fun x hx=>h x (by simp[hx]),uR body _ _ fun x hx=>h x (by simp[hx])]
theorem DN {p:List aA} (hp:cZ p) {τ:Bs→Nat} (hτ:Sol p τ):∀(c n:Nat) {L:List au} {ps:List (List au)},GoodS p L→bF p (p.map fun r=>τ r.head.name) c n L=(0,ps)→
  ∀r∈p,n≤τ r.head.name→τ r.head.name<n+c→fF (fun _=>bE L ps) 0 r.body [[]]≠none
 |0,n,L,ps,_,_,r,_,h1,h2=>by omega
 |c+1,n,L,ps,hL,h,r,hr,h1,h2=>by
  unfold bF at h;obtain⟨e,os,ho⟩:∃e os,aT p (p.map fun r=>τ r.head.name) n 201 L=(e,os):=⟨_,_,rfl⟩;rw[ho] at h;dsimp only at h;split at h
  ·rename_i he;simp at h;exact absurd h.1 he
  ·rename_i he;have he:e=0:=by simpa using he
   subst he;obtain⟨e2,rs,hrs⟩:∃e qs,bF p (p.map fun r=>τ r.head.name) c (n+1) (bE L os)=(e,qs):=⟨_,_,rfl⟩;rw[hrs] at h;simp only[Prod.mk.injEq] at h;obtain⟨rfl,rfl⟩:=h;obtain⟨a1,a2,a3,a4⟩:=kS hp _ 201 hL ho (by omega);rw[gK]
   by_cases hn:τ r.head.name=n
   ·obtain⟨b1,b2,b3⟩:=sj hp _ c (n+1) a1 hrs;have hsame:∀a∈r.body,((bE (bE L os) rs).filter fun f=>decide (f.1=bs a.name))=(bE L os).filter fun f=>decide (f.1=bs a.name):=fun a ha=>by
     refine vR (b1.up.filter _) (a1.up.filter _) fun f=> ?_;rw[List.mem_filter,List.mem_filter]
     constructor
     ·rintro⟨hf,hname⟩;refine⟨Classical.byContradiction fun hno=> ?_,hname⟩;obtain⟨q,hq,hqn,IK⟩:=b3 f hf hno;have e1:a.name=q.head.name:=qO ((of_decide_eq_true hname).symm.trans IK);have h3:=hτ r hr a ha ⟨q,hq,e1.symm⟩;rw[e1,hn] at h3;omega
     ·rintro⟨hf,hname⟩;exact⟨b2 f hf,hname⟩
    rw[uR r.body 0 [[]] hsame];obtain⟨o1,_⟩:=jq (fun r=>τ r.head.name) a4;obtain⟨x,hx,_⟩:=o1 r hr (by exact_mod_cast hn);intro hnone;unfold gH lX at hx;rw[hnone] at hx;cases hx
   ·exact DN hp hτ c (n+1) a1 hrs r hr (by omega) (by omega)
end Go.Proofs.YtafmbokfkbccaaaGreatDoor
namespace Go.Proofs.YtafmbokfkbccaaaGreatDoor
theorem CP {Q:List au→List au→Prop} {f:au}:∀{ps:List (List au)} {L:List au},Steps Q L ps→f∈bE L ps→f∉L→
  ∃A B,Q A B∧f∉A∧f∈B∧(L::ps).getD (iC (L::ps) f-1) []=A∧1≤iC (L::ps) f∧iC (L::ps) f<(L::ps).length
 |[],L,_,h,hn=>absurd h hn
 |M::ps,L,hs,h,hn=>by
  rw[gU] at h;have hL:inB L f=false:=by
   cases e:inB L f with
   |false=>rfl
   |true=>exact absurd (aZ.1 e) hn
  have e1:iC (L::M::ps) f=iC (M::ps) f+1:=by
   unfold iC;rw[List.findIdx_cons,hL]
   rfl
  by_cases hM:f∈M
  ·have e2:iC (M::ps) f=0:=by
    unfold iC;rw[List.findIdx_cons,aZ.2 hM]
    rfl
   rw[e1,e2];exact⟨L,M,hs.1,hn,hM,rfl,by omega,by simp⟩
  ·obtain⟨A,B,h1,h2,h3,h4,h5,h6⟩:=CP hs.2 h hM;rw[e1];refine⟨A,B,h1,h2,h3,?_,by omega,by simp only[List.length_cons] at h6⊢;omega⟩;rw[show iC (M::ps) f+1-1=(iC (M::ps) f-1)+1 by omega,List.getD_cons_succ];exact h4
theorem rz {g:aA→Option (List au)}:∀(p:List aA) (i:Nat),(∃r∈p,g r≠none)→∃j r of,p[j]?=some r∧g r=some of∧jS g i p=(((i+j:Nat):Int),of)
 |[],_,h=>by obtain⟨r,hr,_⟩:=h;cases hr
 |r::p,i,h=>by
  unfold jS;cases hg:g r with
  |some of=>exact⟨0,r,of,rfl,hg,rfl⟩
  |none=>
   obtain⟨q,hq,hne⟩:=h;have hq':q∈p:=by
    rcases List.mem_cons.1 hq with rfl|hq
    ·exact absurd hg hne
    ·exact hq
   obtain⟨j,s,of,h1,h2,h3⟩:=rz p (i+1) ⟨q,hq',hne⟩;exact⟨j+1,s,of,by simpa using h1,h2,by dsimp only;rw[h3];congr 2;omega⟩
theorem IL {err:List aF→Int} (NP:∀b,err b=0→aO b=0) {all old:List au} {r:aA} (hR:mg r) {f:au} {of:List au} (h:byP err all old r f=some of):EU all r f of=0∧∀k∈of,k∈old:=by
 unfold byP at h;cases hm:fK r.head f [] with
 |none=>rw[hm] at h;cases h
 |some b=>
  rw[hm] at h;dsimp only at h;have h1:=List.find?_some h;have h2:=List.mem_of_find?_eq_some h;obtain⟨l,hl,rfl⟩:=List.mem_map.1 h2;refine⟨?_,fun k hk=>aZ.1 (List.all_eq_true.1 h1 k hk)⟩;unfold q9 at hl;split at hl
  ·cases hl
  ·rename_i he;have he:=Classical.not_not.1 he;cases hR':lX (fun _=>all) (eH b r.body) with
   |none=>rw[hR'] at hl;cases hl
   |some R=>
    rw[hR'] at hl;have hfit:=(nT (sN (NP _ he)) hR' l).1 hl;refine Nf hR hm fun a ha=> ?_;obtain⟨g,hg,hi⟩:=ji.1 hfit.2.2.2 (eZ b a) (List.mem_map.2 ⟨a,ha,rfl⟩);exact⟨g,by rw[←qL];exact hg,hi⟩
theorem pW {b:List aD} {a:aF} {k:Bs}:(∃t∈(eZ b a).terms,t.1=true∧t.2=k)↔(∃t∈a.terms,t.1=true∧t.2=k)∧dX b (bs k)=none:=by
 constructor
 ·rintro⟨t,ht,h1,h2⟩;obtain⟨u,hu,rfl⟩:=List.mem_map.1 ht;unfold dO at h1 h2;cases hu1:u.1 with
  |false=>rw[hu1] at h1;simp at h1;rw[hu1] at h1;cases h1
  |true=>
   rw[hu1] at h1 h2;simp only[if_true] at h1 h2;cases hg:dX b (bs u.2) with
   |some s=>rw[hg] at h1;cases h1
   |none=>
    rw[hg] at h2;dsimp only at h2;exact⟨⟨u,hu,hu1,h2⟩,by rw[←h2];exact hg⟩
 ·rintro⟨⟨u,hu,h1,h2⟩,hg⟩;refine⟨u,List.mem_map.2 ⟨u,hu,?_⟩,h1,h2⟩;unfold dO;rw[h1,if_pos rfl,h2,hg]
theorem xC {b:List aD} {body:List aF} {k:Bs}:k∈fM [] (eH b body)↔k∈fM [] body∧dX b (bs k)=none:=by
 rw[iA,iA]
 constructor
 ·rintro(h|⟨a,ha,hno,h⟩)
  ·cases h
  ·obtain⟨c,hc,rfl⟩:=List.mem_map.1 ha;obtain⟨h1,h2⟩:=pW.1 h;exact⟨Or.inr ⟨c,hc,hno,h1⟩,h2⟩
 ·rintro⟨h|⟨a,ha,hno,h⟩,hg⟩
  ·cases h
  ·exact Or.inr ⟨eZ b a,List.mem_map.2 ⟨a,ha,rfl⟩,hno,pW.2 ⟨h,hg⟩⟩
theorem iO:∀{l:List aF},bG l=0↔∀a∈l,aR a=0
 |[]=>by simp[bG]
 |a::l=>by
  unfold bG
  constructor
  ·intro h;split at h
   ·rename_i h0;intro x hx;rcases List.mem_cons.1 hx with rfl|hx
    ·exact h0
    ·exact iO.1 h x hx
   ·rename_i h0;exact absurd h h0
  ·intro h;rw[if_pos (h a (by simp))];exact iO.2 fun x hx=>h x (by simp[hx])
theorem CQ {b:List aD} {body:List aF} (h:aO body=0) (hb:∀v s,dX b v=some s→isNamed (raw s)=true):aO (eH b body)=0:=by
 unfold aO at h⊢;have el:(eH b body).length=body.length:=List.length_map _;rw[el];split at h
 ·cases h
 ·rename_i h5;rw[if_neg h5];split at h
  ·rename_i h0;split at h
   ·rename_i hv;have ha:bG (eH b body)=0:=iO.2 fun x hx=>by
     obtain⟨a,ha,rfl⟩:=List.mem_map.1 hx;obtain⟨h1,h2,h3⟩:=sS (iO.1 h0 a ha);unfold aR;rw[if_neg (by show¬isNamed a.name=false;rw[h1];simp),if_neg (by show¬4<(a.terms.map (dO b)).length;rw[List.length_map];omega),if_neg];intro hc;obtain⟨t,ht,hw⟩:=List.any_eq_true.1 hc;obtain⟨u,hu,rfl⟩:=List.mem_map.1 ht;have hwu:=h3 u hu;unfold dO at hw;split at hw
     ·split at hw
      ·rename_i s hs;unfold bN at hw;simp[hb _ s hs] at hw
      ·rw[hwu] at hw;cases hw
     ·rw[hwu] at hw;cases hw
    rw[if_pos ha,if_pos];refine List.all_eq_true.2 fun x hx=> ?_;obtain⟨a,ha,rfl⟩:=List.mem_map.1 hx;refine List.all_eq_true.2 fun k hk=> ?_;have hk':∃t∈(eZ b a).terms,t.1=true∧t.2=k:=by
     rcases(iE _).1 hk with h1|h1
     ·cases h1
     ·exact h1
    obtain⟨h1,h2⟩:=pW.1 hk';have h3:k∈vars a:=(iE _).2 (Or.inr h1);have h4:=List.all_eq_true.1 (List.all_eq_true.1 hv a ha) k h3;unfold givenBy at h4⊢;obtain⟨c,hc,h5⟩:=List.any_eq_true.1 h4;simp only[Bool.and_eq_true,Bool.not_eq_true'] at h5;have h6:k∈vars c:=by simpa using h5.2
    refine List.any_eq_true.2 ⟨eZ b c,List.mem_map.2 ⟨c,hc,rfl⟩,?_⟩;simp only[Bool.and_eq_true,Bool.not_eq_true'];refine⟨h5.1,?_⟩;have h7:k∈vars (eZ b c):=by
     refine(iE _).2 (Or.inr (pW.2 ⟨?_,h2⟩));rcases(iE _).1 h6 with h8|h8
     ·cases h8
     ·exact h8
    simpa using h7
   ·cases h
  ·rename_i h0;exact absurd h h0
theorem IQ {b l:List aD} {v:ByteArray}:v∈bO (rest b l)↔v∈bO l∧dX b v=none:=by
 unfold bO rest
 constructor
 ·intro h;obtain⟨x,hx,rfl⟩:=List.mem_map.1 h;obtain⟨h1,h2⟩:=List.mem_filter.1 hx;exact⟨List.mem_map.2 ⟨x,h1,rfl⟩,by simpa using h2⟩
 ·rintro⟨h,hg⟩;obtain⟨x,hx,rfl⟩:=List.mem_map.1 h;exact List.mem_map.2 ⟨x,List.mem_filter.2 ⟨hx,by rw[hg];rfl⟩,rfl⟩
theorem Kv {p:List aA} {err:List aF→Int} (NP:∀b,aO b=0→err b=0) {all L:List au} {r:aA} (hR:mg r) (hL:GoodS p L) (hsub:∀f∈L,f∈all) (IU:fF (fun _=>all) 0 r.body [[]]≠none)
  {f:au} {env:List aD} (hfit:jE (fun _=>L) r.body env) (jD:aV r.head env=some f) (hneg:∀a∈r.body,a.no=true→∀g,aV a env=some g→g∉all):byP err all L r f≠none:=by
 obtain⟨b,hm,hag⟩:=xB (G:=env) (c:=[]) (a:=r.head) (f:=f) (fun v s h=>by cases h) jD;have Dv:∀v s,dX b v=some s→isNamed (raw s)=true:=fun v s h=>zI hL.right hfit (hag v s h);have hwb:=CQ (b:=b) hR.body Dv;obtain⟨R,hRR⟩:=IJ (b:=b) IU;obtain⟨f1,f2,f3,f4⟩:=hfit;have hget:∀v∈bO env,dX (b++rest b env) v=dX env v:=fun v hv=>by
  rw[fJ];cases hg:dX b v with
  |some s=>exact(hag v s hg).symm
  |none=>exact DK hg
 have hfa:∀a∈r.body,aV (eZ b a) (rest b env)=aV a env:=fun a ha=>by
  rw[qL];refine kX fun t ht ht1=>hget _ ((f3 _).2 (fD.2 (dJ hR a ha t ht ht1)))
 have Sj:jE (fun _=>all) (eH b r.body) (rest b env):=by
  refine⟨f1.filter _,?_,fun v=> ?_,ji.2 fun x hx=> ?_⟩
  ·exact(List.Sublist.map _ List.filter_sublist).nodup f2
  ·rw[IQ,f3]
   constructor
   ·rintro⟨hv,hg⟩;obtain⟨k,hk,rfl⟩:=List.mem_map.1 hv;exact fD.2 (xC.2 ⟨hk,hg⟩)
   ·intro hv;obtain⟨k,hk,rfl⟩:=List.mem_map.1 hv;obtain⟨h1,h2⟩:=xC.1 hk;exact⟨fD.2 h1,h2⟩
  ·obtain⟨a,ha,rfl⟩:=List.mem_map.1 hx;obtain⟨g,hg,hi⟩:=ji.1 f4 a ha;refine⟨g,by rw[hfa a ha];exact hg,?_⟩;show inB all g= !a.no;cases hno:a.no with
   |true=>
    have:=hneg a ha hno g hg;cases e:inB all g with
    |false=>rfl
    |true=>exact absurd (aZ.1 e) this
   |false=>
    rw[hno] at hi;exact aZ.2 (hsub g (aZ.1 hi))
 have hmem:=(nT (sN hwb) hRR _).2 Sj;intro hnone;unfold byP at hnone;rw[hm] at hnone;dsimp only at hnone;rw[List.find?_eq_none] at hnone;refine hnone (fO (eH b r.body) (rest b env)) (List.mem_map.2 ⟨_,?_,rfl⟩) (List.all_eq_true.2 fun k hk=> ?_)
 ·unfold q9;rw[if_neg (by rw[NP _ hwb];simp),hRR];exact hmem
 ·unfold fO at hk;obtain⟨x,hx,he⟩:=List.mem_filterMap.1 hk;obtain⟨a,ha,rfl⟩:=List.mem_map.1 hx;obtain⟨g,hg,hi⟩:=ji.1 f4 a ha;rw[show(eZ b a).no=a.no from rfl] at he;cases hno:a.no with
  |true=>rw[hno] at he;cases he
  |false=>
   rw[hno] at he hi;simp only[Bool.false_eq_true,if_false] at he;rw[hfa a ha,hg] at he;cases he;exact hi
structure PO (p:List aA) (told all:List au) (how:au→Int×List au):Prop where
 ok:∀f∈all,(inB told f=true∧how f=(-1,[]))∨∃(i:Nat) (r:aA) (of:List au),p[i]?=some r∧how f=((i:Int),of)∧EU all r f of=0∧∀k∈of,k∈all
theorem PU {p:List aA} (hp:cZ p) {err:List aF→Int} (NP:∀b,err b=0↔aO b=0) {told:List au} {ps:List (List au)} (hs:Steps (Came p (bE told ps)) told ps) (IU:∀r∈p,fF (fun _=>bE told ps) 0 r.body [[]]≠none):
  PO p told (bE told ps) (ru err p told (bE told ps) (told::ps)):=⟨fun f hf=>by
 by_cases ht:inB told f=true
 ·exact Or.inl ⟨ht,by unfold ru;rw[if_pos ht]⟩
 ·right
  have hn:f∉told:=fun hc=>ht (aZ.2 hc);obtain⟨A,B,⟨g1,g2,g3⟩,h2,h3,h4,_,_⟩:=CP hs hf hn;obtain⟨r,hr,env,he,jD,hneg⟩:=g3 f h3 h2;have hby:byP err (bE told ps) ((told::ps).getD (iC (told::ps) f-1) []) r f≠none:=by
   rw[h4];exact Kv (fun b hb=>(NP b).2 hb) (hp.rules r hr) g1 g2 (IU r hr) he jD hneg
  obtain⟨j,q,of,k1,k2,k3⟩:=rz (g:=fun r=>byP err (bE told ps) ((told::ps).getD (iC (told::ps) f-1) []) r f) p 0 ⟨r,hr,hby⟩;obtain⟨s1,s2⟩:=IL (fun b hb=>(NP b).1 hb) (hp.rules q (List.mem_of_getElem? k1)) k2;refine⟨j,q,of,k1,?_,s1,fun k hk=> ?_⟩
  ·unfold ru;rw[if_neg ht,k3];simp
  ·have:=s2 k hk;rw[h4] at this;exact g2 k this⟩
def cnt:Nat→iT→Nat
 |0,_=>0
 |n+1,x=>1+(x.kids.map (cnt n)).sum
end Go.Proofs.YtafmbokfkbccaaaGreatDoor
namespace Go.Proofs.YtafmbokfkbccaaaGreatDoor
open Go.RowKit Go.Sort
theorem Tn.grown {p:Nat} {a b c:World} {row:Option Nat} (h:Tn p a b) (hg:b.grownBy c row) (hr:∀k,row=some k→a.heap.size≤k):Tn p a c:=
 ⟨hg.os.trans h.os,hg.tape.trans h.tape,hg.output.trans h.output,Nat.le_trans h.size hg.size,fun k hk ho=>(hg.block k (Nat.lt_of_lt_of_le hk h.size) (fun e=>by have:=hr k e.symm;omega)).trans (h.block k hk ho)⟩
set_option maxRecDepth 100000 in
theorem Sk (c d:Nat) (w:World):Calls Tryz.prog 54 #[.agg #[.int .i64 c,.int .i64 d]] w fun e w'=>e=.returned (.bool (AO (c,d)))∧Later w w':=by
 unfold AO
 by_cases hc:400<c
 ·have h1:(400:Int)<(c:Int):=by omega
  have e:(decide (400<c)||decide (60<d))=true:=by simp[hc]
  rw[e];clear e hc
  go_enter Tryz.func54,Tryz.ntmps54
  go_wp2;go_ret;exact⟨rfl,(by repeat (first|exact Later.refl _|assumption|refine Later.drewN ?_ _|refine Later.drew ?_|refine Later.alloc ?_ _|refine Later.grow ?_ _))⟩
 ·have h1:¬(400:Int)<(c:Int):=by omega
  by_cases hd:60<d
  ·have h2:(60:Int)<(d:Int):=by omega
   have e:(decide (400<c)||decide (60<d))=true:=by simp[hd]
   rw[e];clear e hc hd
   go_enter Tryz.func54,Tryz.ntmps54
   go_wp2;go_ret;exact⟨rfl,(by repeat (first|exact Later.refl _|assumption|refine Later.drewN ?_ _|refine Later.drew ?_|refine Later.alloc ?_ _|refine Later.grow ?_ _))⟩
  ·have h2:¬(60:Int)<(d:Int):=by omega
   have e:(decide (400<c)||decide (60<d))=false:=by simp[hc,hd]
   rw[e];clear e hc hd
   go_enter Tryz.func54,Tryz.ntmps54
   go_wp2;go_ret;exact⟨rfl,(by repeat (first|exact Later.refl _|assumption|refine Later.drewN ?_ _|refine Later.drew ?_|refine Later.alloc ?_ _|refine Later.grow ?_ _))⟩
theorem AP.base {α:Type} {K:Kind α} {ty:TypeId} {B:Nat→Prop} {w0:World} {lo lo':Nat} {w:World} {v:Value} {l:List (List α)} (h:AP K ty B w0 lo w v l) (hl:lo'≤lo):AP K ty B w0 lo' w v l:=by
 obtain⟨xs,ho,hx⟩:=h;refine⟨xs,⟨ho.1,?_⟩,hx⟩;rcases ho.2 with e|⟨g,cap,cur,e,hg,r⟩
 ·exact Or.inl e
 ·exact Or.inr ⟨g,cap,cur,e,Nat.le_trans hl hg,r⟩
end Go.Proofs.YtafmbokfkbccaaaGreatDoor
namespace Go.Proofs.YtafmbokfkbccaaaGreatDoor
open Go.RowKit Go.Sort
def Xq (all:List au) (b:List aD) (a:aF):Bool:=a.no&&(match aV a b with|none=>true|some f=>inB all f)
end Go.Proofs.YtafmbokfkbccaaaGreatDoor
