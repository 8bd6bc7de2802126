import Derived.Test.YtafmbokfkbccaaaGreatDoorJB7
namespace Go.Proofs.YtafmbokfkbccaaaGreatDoor
theorem jF {α β:Type} {g h:α→Option β}:∀{l:List α},(∀x∈l,g x=h x)→l.filterMap g=l.filterMap h
 |[],_=>rfl
 |a::l,e=>by
  rw[List.filterMap_cons,List.filterMap_cons,e a (by simp),jF fun x hx=>e x (by simp[hx])]
theorem z8 (b l:List aC) (t:dh):aV l (dD b t)=aV (b++l) t:=by
 unfold dD;obtain⟨v,n⟩:=t;cases v with
 |false=>simp[aV]
 |true=>
  simp only[if_true];unfold aV;rw[fA];cases bT b (bs n) with
  |none=>rfl
  |some s=>simp[jo]
theorem lK (b l:List aC):∀ts:List dh,aJ l (ts.map (dD b))=aJ (b++l) ts
 |[]=>rfl
 |t::ts=>by
  rw[List.map_cons];unfold aJ;rw[z8,lK b l ts]
theorem nZ (b l:List aC) (a:aF):aQ (eH b a) l=aQ a (b++l):=by
 unfold aQ eH;rw[lK]
theorem kN {G:List aC}:∀(ts:List dh) (xs:List ByteArray) (c:List aC),(∀v s,bT c v=some s→bT G v=some s)→aJ G ts=some xs→
  ∃m,dQ c ts xs=some m∧∀v s,bT m v=some s→bT G v=some s
 |[],xs,c,h,_=>⟨c,rfl,h⟩
 |t::ts,xs,c,h,hf=>by
  unfold aJ at hf;cases hw:aV G t with
  |none=>rw[hw] at hf;cases hf
  |some x=>
   rw[hw] at hf;dsimp only at hf;cases hr:aJ G ts with
   |none=>rw[hr] at hf;cases hf
   |some r=>
    rw[hr] at hf;cases hf;unfold dQ;cases hc:aV c t with
    |none=>
     refine kN ts r (c++[(bs t.2,x)]) (fun v s hv=> ?_) hr;rw[fA] at hv;cases hg:bT c v with
     |some u=>rw[hg] at hv;cases hv;exact h v _ hg
     |none=>
      rw[hg] at hv;dsimp only at hv;unfold bT at hv;split at hv
      ·rename_i e;cases hv;dsimp only at e;subst e;unfold aV at hw hc;cases ht:t.1 with
       |true=>rw[ht] at hw;simpa using hw
       |false=>rw[ht] at hc;simp at hc
      ·cases hv
    |some s=>
     have e:s=x:=by
      unfold aV at hw hc;cases ht:t.1 with
      |true=>
       rw[ht] at hw hc;simp only[if_true] at hw hc;have:=h _ _ hc;rw[hw] at this;exact(Option.some.inj this).symm
      |false=>
       rw[ht] at hw hc;simp only[Bool.false_eq_true,if_false] at hw hc;exact Option.some.inj (hc.symm.trans hw)
     dsimp only;rw[if_pos e];exact kN ts r c h hr
theorem tY {G c:List aC} {a:aF} {f:aj} (h:∀v s,bT c v=some s→bT G v=some s) (hf:aQ a G=some f):∃m,dL a f c=some m∧∀v s,bT m v=some s→bT G v=some s:=by
 obtain⟨h1,h2⟩:=je hf;obtain⟨m,hm,hm2⟩:=kN a.terms f.2 c h h2;exact⟨m,by unfold dL;rw[if_pos ⟨h1.symm,(jq h2).symm⟩,hm],hm2⟩
theorem og {G:List aC}:∀(body:List aF) (c:List aC),(∀v s,bT c v=some s→bT G v=some s)→(∀a∈body,∃k,aQ a G=some k)→
  ∃b',dW body (body.filterMap fun a=>if a.no then none else aQ a G) c=(0,b')∧∀v s,bT b' v=some s→bT G v=some s
 |[],c,h,_=>⟨c,rfl,h⟩
 |a::body,c,h,hf=>by
  obtain⟨k,hk⟩:=hf a (by simp);cases hno:a.no with
  |true=>
   have e:((a::body).filterMap fun a=>if a.no then none else aQ a G)=body.filterMap fun a=>if a.no then none else aQ a G:=List.filterMap_cons_none (by simp[hno]);rw[e];unfold dW;rw[if_pos hno];exact og body c h fun x hx=>hf x (by simp[hx])
  |false=>
   have e:((a::body).filterMap fun a=>if a.no then none else aQ a G)=k::body.filterMap fun a=>if a.no then none else aQ a G:=List.filterMap_cons_some (by simp[hno,hk]);rw[e];obtain⟨m,hm,hm2⟩:=tY h hk;unfold dW;rw[if_neg (by simp[hno])];dsimp only;rw[hm];exact og body m hm2 fun x hx=>hf x (by simp[hx])
theorem yj (b l:List aC) (body:List aF):fB (dS b body) l=body.filterMap fun a=>if a.no then none else aQ a (b++l):=by
 unfold fB dS;rw[List.filterMap_map];refine jF fun a _=> ?_;show(if a.no then none else aQ (eH b a) l)=_;rw[nZ]
theorem Kw {all:List aj} {r:aA} {f:aj} {b l:List aC} (hR:jw r) (hm:dL r.head f []=some b) (hso:∀a∈r.body,∃g,aQ a (b++l)=some g∧inB all g= !a.no):jO all r f (fB (dS b r.body) l)=0:=by
 obtain⟨_,hk0,_⟩:=kW (K:=[]) rfl hm;obtain⟨b',hb',hag⟩:=og (G:=b++l) r.body b (fun v s h=>by rw[fA,h]) fun a ha=>by obtain⟨g,hg,_⟩:=hso a ha;exact⟨g,hg⟩
 rw[←yj] at hb';obtain⟨_,hkb,_⟩:=mP hk0 hb';unfold jO;rw[hm];dsimp only;rw[hb'];dsimp only;rw[if_neg (by simp)];refine J8 fun a ha hno=> ?_;obtain⟨g,hg,hi⟩:=hso a ha;refine⟨g,?_,by rw[hi,hno];rfl⟩;rw[←hg];refine jV fun t ht ht1=> ?_;have hc:=bH hR a ha t ht ht1;have hkey:bs t.2∈bD b':=by
  rw[hkb];refine eO.2 ((dG r.body).2 (Or.inr ?_));rcases(dG r.body).1 hc with h1|h1
  ·cases h1
  ·exact h1
 obtain⟨s,hs⟩:=jU hkey;rw[hs,hag _ _ hs]
def rest (b l:List aC):List aC:=l.filter fun x=>(bT b x.1).isNone
def agree (b l:List aC):Bool:=l.all fun x=>match bT b x.1 with|none=>true|some s=>decide (s=x.2)
theorem BF {b l:List aC} {v:ByteArray} (h:bT b v=none):bT (rest b l) v=bT l v:=by
 unfold rest
 induction l with
 |nil=>rfl
 |cons x l ih=>
  rw[List.filter_cons]
  by_cases e:x.1=v
  ·have:(bT b x.1).isNone=true:=by rw[e,h];rfl
   rw[if_pos this];simp[bT,e]
  ·cases hx:(bT b x.1).isNone with
   |true=>rw[if_pos rfl];simp only[bT,if_neg e,ih]
   |false=>rw[if_neg (by simp)];simp only[bT,if_neg e,ih]
theorem Fp {b l:List aC} (h:agree b l=true) {v s u:ByteArray} (hb:bT b v=some s) (hl:bT l v=some u):u=s:=by
 have:=List.all_eq_true.1 h _ (pF hl);dsimp only at this;rw[hb] at this;exact(of_decide_eq_true this).symm
theorem kP {b l:List aC} {x:aC}:agree b (l++[x])=(agree b l&&(match bT b x.1 with|none=>true|some s=>decide (s=x.2))):=by
 unfold agree;rw[List.all_append];simp
theorem lq:∀(ts:List dh) (xs:List ByteArray) (l m:List aC),dQ l ts xs=some m→∃r,m=l++r
 |[],_,l,m,h=>⟨[],by cases h;simp⟩
 |_::_,[],l,m,h=>by cases h
 |t::ts,x::xs,l,m,h=>by
  unfold dQ at h;split at h
  ·obtain⟨r,e⟩:=lq ts xs _ m h;exact⟨(bs t.2,x)::r,by rw[e];simp⟩
  ·split at h
   ·exact lq ts xs l m h
   ·cases h
theorem yt {b l m:List aC} (h:agree b l=false) (e:∃r,m=l++r):agree b m=false:=by
 obtain⟨r,rfl⟩:=e;unfold agree at*;rw[List.all_append,h];rfl
def pass (b:List aC):Option (List aC)→Option (List aC)
 |none=>none
 |some m=>if agree b m then some (rest b m) else none
theorem Fq {b:List aC} {o:Option (List aC)} (h:∀m,o=some m→agree b m=false):pass b o=none:=by
 cases o with
 |none=>rfl
 |some m=>
  show(if agree b m=true then some (rest b m) else none)=none;rw[if_neg (by rw[h m rfl];simp)]
theorem gP (b:List aC):∀(ts:List dh) (xs:List ByteArray) (l:List aC),agree b l=true→dQ (rest b l) (ts.map (dD b)) xs=pass b (dQ l ts xs)
 |[],xs,l,h=>by
  show some (rest b l)=(if agree b l=true then some (rest b l) else none);rw[if_pos h]
 |t::ts,[],l,h=>rfl
 |t::ts,x::xs,l,h=>by
  rw[List.map_cons];unfold dQ;obtain⟨v,n⟩:=t;cases v with
  |false=>
   have e1:dD b (false,n)=(false,n):=by simp[dD]
   have e2:∀q:List aC,aV q (false,n)=some (bs n):=fun q=>by simp[aV]
   rw[e1,e2,e2];dsimp only
   by_cases hx:bs n=x
   ·rw[if_pos hx,if_pos hx];exact gP b ts xs l h
   ·rw[if_neg hx,if_neg hx];rfl
  |true=>
   cases hb:bT b (bs n) with
   |some s=>
    have e1:dD b (true,n)=(false,raw s):=by simp[dD,hb]
    have e2:∀q:List aC,aV q (false,raw s)=some s:=fun q=>by simp[aV,jo]
    have e3:∀q:List aC,aV q (true,n)=bT q (bs n):=fun q=>by simp[aV]
    rw[e1,e2,e3];dsimp only;cases hl:bT l (bs n) with
    |some u=>
     have:=Fp h hb hl;subst this;dsimp only
     by_cases hx:u=x
     ·rw[if_pos hx,if_pos hx];exact gP b ts xs l h
     ·rw[if_neg hx,if_neg hx];rfl
    |none=>
     dsimp only
     by_cases hx:s=x
     ·subst hx;rw[if_pos rfl];have h2:agree b (l++[(bs n,s)])=true:=by rw[kP,h];simp[hb]
      have h3:rest b (l++[(bs n,s)])=rest b l:=by unfold rest;rw[List.filter_append];simp[hb]
      rw[←h3];exact gP b ts xs _ h2
     ·rw[if_neg hx];have h2:agree b (l++[(bs n,x)])=false:=by rw[kP,h];simp[hb,hx]
      exact(Fq fun m hm=>yt h2 (lq _ _ _ _ hm)).symm
   |none=>
    have e1:dD b (true,n)=(true,n):=by simp[dD,hb]
    have e3:∀q:List aC,aV q (true,n)=bT q (bs n):=fun q=>by simp[aV]
    rw[e1,e3,e3,BF hb];cases hl:bT l (bs n) with
    |some u=>
     dsimp only
     by_cases hx:u=x
     ·rw[if_pos hx,if_pos hx];exact gP b ts xs l h
     ·rw[if_neg hx,if_neg hx];rfl
    |none=>
     dsimp only;have h2:agree b (l++[(bs n,x)])=true:=by rw[kP,h];simp[hb]
     have h3:rest b (l++[(bs n,x)])=rest b l++[(bs n,x)]:=by unfold rest;rw[List.filter_append];simp[hb]
     rw[←h3];exact gP b ts xs _ h2
theorem Aa (b:List aC) {a:aF} {f:aj} {l:List aC} (h:agree b l=true):dL (eH b a) f (rest b l)=pass b (dL a f l):=by
 unfold dL eH;dsimp only;rw[List.length_map];split
 ·exact gP b a.terms f.2 l h
 ·rfl
def passes (b:List aC) (ls:List (List aC)):List (List aC):=(ls.filter (agree b)).map (rest b)
theorem o9 (b:List aC) (fs:List aj) (g:aj→Option (List aC)):passes b (fs.filterMap g)=fs.filterMap fun f=>pass b (g f):=by
 unfold passes
 induction fs with
 |nil=>rfl
 |cons f fs ih=>
  cases hg:g f with
  |none=>rw[List.filterMap_cons_none hg,List.filterMap_cons_none (by simp[hg,pass])];exact ih
  |some m=>
   rw[List.filterMap_cons_some hg,List.filter_cons];cases ha:agree b m with
   |true=>rw[if_pos rfl,List.map_cons,List.filterMap_cons_some (b:=rest b m) (by simp[hg,pass,ha]),ih]
   |false=>rw[if_neg (by simp),List.filterMap_cons_none (by simp[hg,pass,ha]),ih]
theorem ny (b:List aC) (a:aF) (fs:List aj):∀ls:List (List aC),aK (eH b a) fs (passes b ls)=passes b (aK a fs ls)
 |[]=>rfl
 |l::ls=>by
  have ih:=ny b a fs ls;unfold aK at ih⊢;have e:passes b ((l::ls).flatMap fun l=>fs.filterMap fun f=>dL a f l)=passes b (fs.filterMap fun f=>dL a f l)++passes b (ls.flatMap fun l=>fs.filterMap fun f=>dL a f l):=by
   rw[List.flatMap_cons];unfold passes;rw[List.filter_append,List.map_append]
  rw[e,←ih,o9];cases ha:agree b l with
  |true=>
   have e2:passes b (l::ls)=rest b l::passes b ls:=by unfold passes;rw[List.filter_cons,if_pos ha,List.map_cons]
   rw[e2,List.flatMap_cons]
   congr 1
   exact jF fun f _=>Aa b ha
  |false=>
   have e2:passes b (l::ls)=passes b ls:=by unfold passes;rw[List.filter_cons,if_neg (by simp[ha])]
   rw[e2];have e3:(fs.filterMap fun f=>pass b (dL a f l))=[]:=by
    rw[List.filterMap_eq_nil_iff];intro f _;refine Fq fun m hm=>yt ha ?_;unfold dL at hm;split at hm
    ·exact lq _ _ _ _ hm
    ·cases hm
   rw[e3,List.nil_append]
theorem qP (b:List aC) (fs:List aj):∀(body:List aF) (n:Nat) (ls ms:List (List aC)),eu (fun _=>fs) n body ls=some ms→eu (fun _=>fs) n (dS b body) (passes b ls)=some (passes b ms)
 |[],n,ls,ms,h=>by cases h;rfl
 |a::body,n,ls,ms,h=>by
  show eu _ n (eH b a::dS b body) _=_;unfold eu at h⊢;rw[show(eH b a).no=a.no from rfl];cases hno:a.no with
  |true=>
   rw[hno] at h;simp only[if_true] at h⊢;exact qP b fs body (n+1) ls ms h
  |false=>
   rw[hno] at h;simp only[Bool.false_eq_true,if_false] at h⊢;split at h
   ·cases h
   ·rename_i hlen;have hle:(passes b (aK a fs ls)).length≤(aK a fs ls).length:=by
     unfold passes;rw[List.length_map];exact List.length_filter_le _ _
    rw[ny,if_neg (by omega)];exact qP b fs body (n+1) _ ms h
theorem Fu {b:List aC} {fs:List aj} {body:List aF} (h:eu (fun _=>fs) 0 body [[]]≠none):∃R,lF (fun _=>fs) (dS b body)=some R:=by
 cases e:eu (fun _=>fs) 0 body [[]] with
 |none=>exact absurd e h
 |some ms=>
  have:=qP b fs body 0 [[]] ms e;have e2:passes b [[]]=[[]]:=rfl;rw[e2] at this;unfold lF;rw[this];exact⟨_,rfl⟩
end Go.Proofs.YtafmbokfkbccaaaGreatDoor
namespace Go.Proofs.YtafmbokfkbccaaaGreatDoor
def Steps (Q:List aj→List aj→Prop):List aj→List (List aj)→Prop
 |_,[]=>True
 |L,M::ps=>Q L M∧Steps Q M ps
theorem Steps.append {Q:List aj→List aj→Prop}:∀{ps qs:List (List aj)} {L:List aj},Steps Q L ps→Steps Q (aX L ps) qs→Steps Q L (ps++qs)
 |[],_,_,_,h=>h
 |M::ps,qs,L,h,h2=>⟨h.1,Steps.append h.2 (by rw[gB] at h2;exact h2)⟩
theorem Da {r:aA} (hR:jw r) {L x:List aj} (h:dM r L=some x) {f:aj} (hf:f∈x):f.1=bs r.head.name:=by
 obtain⟨env,_,he⟩:=(fD (bH hR) h f).1 hf;exact(je he).1
theorem jR {p:List aA} (hp:cZ p) (σ:aA→Nat) {n:Int}:∀(k:Nat) {L:List aj} {ps:List (List aj)},GoodS p L→aP p (p.map σ) n k L=(0,ps)→200<L.length+k→
  GoodS p (aX L ps)∧(∀f∈L,f∈aX L ps)∧(∀f∈aX L ps,f∉L→∃r∈p,(σ r:Int)=n∧f.1=bs r.head.name)∧bV p (p.map σ) n (aX L ps)=(0,aX L ps)
 |0,L,ps,hL,_,hk=>by have:=hL.few;omega
 |k+1,L,ps,hL,h,hk=>by
  unfold aP at h;obtain⟨e,x,hx⟩:∃e x,bV p (p.map σ) n L=(e,x):=⟨_,_,rfl⟩;rw[hx] at h;dsimp only at h;split at h
  ·rename_i he;simp at h;exact absurd h.1 he
  ·rename_i he;have he:e=0:=by simpa using he
   subst he;obtain⟨g1,g2⟩:=jN hp σ hL hx;obtain⟨_,_,o3,_,_⟩:=gH σ hx;have hnew:∀f∈x,f∉L→∃r∈p,(σ r:Int)=n∧f.1=bs r.head.name:=fun f hf hn=>by
    rcases o3 f hf with h1|⟨r,hr,h1,y,hy,hfy⟩
    ·exact absurd h1 hn
    ·exact⟨r,hr,h1,Da (hp.rules r hr) hy hfy⟩
   split at h
   ·rename_i hlen;have e:L=x:=zH hL.up g1.up g2 (by omega);simp at h;subst h;rw[gB];show GoodS p x∧(∀f∈L,f∈x)∧(∀f∈x,f∉L→_)∧bV p (p.map σ) n x=(0,x);exact⟨g1,g2,hnew,by rw[←e] at hx⊢;exact hx⟩
   ·rename_i hlen;have hle:=sw hL.up g2;obtain⟨e2,qs,hq⟩:∃e qs,aP p (p.map σ) n k x=(e,qs):=⟨_,_,rfl⟩;rw[hq] at h;simp only[Prod.mk.injEq] at h;obtain⟨rfl,rfl⟩:=h;obtain⟨a1,a2,a3,a4⟩:=jR hp σ k g1 hq (by omega);rw[gB];refine⟨a1,fun f hf=>a2 f (g2 f hf),fun f hf hn=> ?_,a4⟩
    by_cases hfx:f∈x
    ·exact hnew f hfx hn
    ·exact a3 f hf hfx
theorem pK {p:List aA} (hp:cZ p) (σ:aA→Nat):∀(c n:Nat) {L:List aj} {ps:List (List aj)},GoodS p L→bg p (p.map σ) c n L=(0,ps)→
  GoodS p (aX L ps)∧(∀f∈L,f∈aX L ps)∧∀f∈aX L ps,f∉L→∃r∈p,n≤σ r∧f.1=bs r.head.name
 |0,n,L,ps,hL,h=>by
  simp only[bg,Prod.mk.injEq,true_and] at h;subst h;exact⟨hL,fun _ h=>h,fun f hf hn=>absurd hf hn⟩
 |c+1,n,L,ps,hL,h=>by
  unfold bg at h;obtain⟨e,os,ho⟩:∃e os,aP p (p.map σ) n 201 L=(e,os):=⟨_,_,rfl⟩;rw[ho] at h;dsimp only at h;split at h
  ·rename_i he;simp at h;exact absurd h.1 he
  ·rename_i he;have he:e=0:=by simpa using he
   subst he;obtain⟨e2,rs,hr⟩:∃e qs,bg p (p.map σ) c (n+1) (aX L os)=(e,qs):=⟨_,_,rfl⟩;rw[hr] at h;simp only[Prod.mk.injEq] at h;obtain⟨rfl,rfl⟩:=h;obtain⟨a1,a2,a3,_⟩:=jR hp σ 201 hL ho (by omega);obtain⟨b1,b2,b3⟩:=pK hp σ c (n+1) a1 hr;rw[fQ];refine⟨b1,fun f hf=>b2 f (a2 f hf),fun f hf hn=> ?_⟩
   by_cases hm:f∈aX L os
   ·obtain⟨r,hr,e,hname⟩:=a3 f hm hn;exact⟨r,hr,by omega,hname⟩
   ·obtain⟨r,hr,e,hname⟩:=b3 f hf hm;exact⟨r,hr,by omega,hname⟩
def Came (p:List aA) (all L M:List aj):Prop:=GoodS p L∧(∀f∈L,f∈all)∧
 ∀f∈M,f∉L→∃r∈p,∃env,iq (fun _=>L) r.body env∧aQ r.head env=some f∧∀a∈r.body,a.no=true→∀g,aQ a env=some g→g∉all
theorem yu {p:List aA} (hp:cZ p) {τ:Bs→Nat} (hτ:Sol p τ) {n:Nat} {all:List aj}:∀(k:Nat) {L:List aj} {ps:List (List aj)},GoodS p L→aP p (p.map fun r=>τ r.head.name) n k L=(0,ps)→200<L.length+k→
  (∀f∈aX L ps,f∈all)→(∀f∈all,f∉L→∃r∈p,n≤τ r.head.name∧f.1=bs r.head.name)→Steps (Came p all) L ps
 |0,L,ps,hL,_,hk,_,_=>by have:=hL.few;omega
 |k+1,L,ps,hL,h,hk,hsub,hall=>by
  have O3:∀f∈L,f∈all:=fun f hf=>hsub f ((jR hp _ (k+1) hL h hk).2.1 f hf);unfold aP at h;obtain⟨e,x,hx⟩:∃e x,bV p (p.map fun r=>τ r.head.name) n L=(e,x):=⟨_,_,rfl⟩;rw[hx] at h;dsimp only at h;split at h
  ·rename_i he;simp at h;exact absurd h.1 he
  ·rename_i he;have he:e=0:=by simpa using he
   subst he;obtain⟨g1,g2⟩:=jN hp (fun r=>τ r.head.name) hL hx;obtain⟨_,_,o3,_,_⟩:=gH (fun r=>τ r.head.name) hx;have MQ:Came p all L x:=⟨hL,O3,fun f hf hn=>by
    rcases o3 f hf with h1|⟨r,hr,hrn,y,hy,hfy⟩
    ·exact absurd h1 hn
    ·obtain⟨env,he,gU⟩:=(fD (bH (hp.rules r hr)) hy f).1 hfy;refine⟨r,hr,env,he,gU,fun a ha hno g hg hga=> ?_⟩;obtain⟨g',hg',hi⟩:=bZ.1 he.2.2.2 a ha;rw[hg] at hg';cases hg';rw[hno] at hi;have hgl:g∉L:=fun hc=>by rw[aO.2 hc] at hi;cases hi
     obtain⟨q,hq,hqn,Fv⟩:=hall g hga hgl;have e1:a.name=q.head.name:=pR ((je hg).1.symm.trans Fv);have h2:=hτ r hr a ha ⟨q,hq,e1.symm⟩;have h3:step a=1:=by unfold step;rw[if_pos hno]
     have h4:τ r.head.name=n:=by exact_mod_cast hrn
     rw[e1,h3,h4] at h2;omega⟩
   split at h
   ·simp at h;subst h;exact⟨MQ,trivial⟩
   ·rename_i hlen;have hle:=sw hL.up g2;obtain⟨e2,qs,hq⟩:∃e qs,aP p (p.map fun r=>τ r.head.name) n k x=(e,qs):=⟨_,_,rfl⟩;rw[hq] at h;simp only[Prod.mk.injEq] at h;obtain⟨rfl,rfl⟩:=h;rw[gB] at hsub;exact⟨MQ,yu hp hτ k g1 hq (by omega) hsub fun f hf hn=>hall f hf fun hc=>hn (g2 f hc)⟩
theorem BG {p:List aA} (hp:cZ p) {τ:Bs→Nat} (hτ:Sol p τ):∀(c n:Nat) {L:List aj} {ps:List (List aj)},GoodS p L→bg p (p.map fun r=>τ r.head.name) c n L=(0,ps)→Steps (Came p (aX L ps)) L ps
 |0,n,L,ps,hL,h=>by
  simp only[bg,Prod.mk.injEq,true_and] at h;subst h
  trivial
 |c+1,n,L,ps,hL,h=>by
  have hg:=pK hp _ (c+1) n hL h;unfold bg at h;obtain⟨e,os,ho⟩:∃e os,aP p (p.map fun r=>τ r.head.name) n 201 L=(e,os):=⟨_,_,rfl⟩;rw[ho] at h;dsimp only at h;split at h
  ·rename_i he;simp at h;exact absurd h.1 he
  ·rename_i he;have he:e=0:=by simpa using he
   subst he;obtain⟨e2,rs,hr⟩:∃e qs,bg p (p.map fun r=>τ r.head.name) c (n+1) (aX L os)=(e,qs):=⟨_,_,rfl⟩;rw[hr] at h;simp only[Prod.mk.injEq] at h;obtain⟨rfl,rfl⟩:=h;obtain⟨a1,a2,a3,_⟩:=jR hp _ 201 hL ho (by omega);obtain⟨b1,b2,b3⟩:=pK hp _ c (n+1) a1 hr;have ih:=BG hp hτ c (n+1) a1 hr;rw[fQ] at hg⊢;exact Steps.append (yu hp hτ 201 hL ho (by omega) b2 fun f hf hn=>hg.2.2 f hf hn) ih
theorem filterMap_filter {α β:Type} {g:α→Option β} {P:α→Bool}:∀{l:List α},(∀x∈l,P x=false→g x=none)→l.filterMap g=(l.filter P).filterMap g
 |[],_=>rfl
 |a::l,h=>by
  have ih:=filterMap_filter (g:=g) (P:=P) (l:=l) fun x hx=>h x (by simp[hx]);rw[List.filter_cons];cases hp:P a with
  |true=>rw[if_pos rfl,List.filterMap_cons,List.filterMap_cons,ih]
  |false=>rw[if_neg (by simp),List.filterMap_cons_none (h a (by simp) hp),ih]
theorem vT {a:aF} {fs gs:List aj} (h:(fs.filter fun f=>decide (f.1=bs a.name))=gs.filter fun f=>decide (f.1=bs a.name)) (ls:List (List aC)):aK a fs ls=aK a gs ls:=by
 unfold aK;have key:∀(l:List aC) (q:List aj),(q.filterMap fun f=>dL a f l)=((q.filter fun f=>decide (f.1=bs a.name)).filterMap fun f=>dL a f l):=fun l q=>
  filterMap_filter fun x _ hx=>by
   unfold dL;rw[if_neg];rintro⟨e,_⟩;rw[decide_eq_false_iff_not] at hx;exact hx e.symm
 have e:(fun l=>fs.filterMap fun f=>dL a f l)=fun l=>gs.filterMap fun f=>dL a f l:=by
  funext l
  rw[key l fs,key l gs,h]
 rw[e]
theorem qQ {fs gs:List aj}:∀(body:List aF) (n:Nat) (ls:List (List aC)),(∀a∈body,(fs.filter fun f=>decide (f.1=bs a.name))=gs.filter fun f=>decide (f.1=bs a.name))→eu (fun _=>fs) n body ls=eu (fun _=>gs) n body ls
 |[],_,_,_=>rfl
 |a::body,n,ls,h=>by
  unfold eu;rw[vT (h a (by simp)),qQ body _ _ fun x hx=>h x (by simp[hx]),qQ body _ _ fun x hx=>h x (by simp[hx])]
theorem vU {p:List aA} (hp:cZ p) {τ:Bs→Nat} (hτ:Sol p τ):∀(c n:Nat) {L:List aj} {ps:List (List aj)},GoodS p L→bg p (p.map fun r=>τ r.head.name) c n L=(0,ps)→
  ∀r∈p,n≤τ r.head.name→τ r.head.name<n+c→eu (fun _=>aX L ps) 0 r.body [[]]≠none
 |0,n,L,ps,_,_,r,_,h1,h2=>by omega
 |c+1,n,L,ps,hL,h,r,hr,h1,h2=>by
  unfold bg at h;obtain⟨e,os,ho⟩:∃e os,aP p (p.map fun r=>τ r.head.name) n 201 L=(e,os):=⟨_,_,rfl⟩;rw[ho] at h;dsimp only at h;split at h
  ·rename_i he;simp at h;exact absurd h.1 he
  ·rename_i he;have he:e=0:=by simpa using he
   subst he;obtain⟨e2,rs,hrs⟩:∃e qs,bg p (p.map fun r=>τ r.head.name) c (n+1) (aX L os)=(e,qs):=⟨_,_,rfl⟩;rw[hrs] at h;simp only[Prod.mk.injEq] at h;obtain⟨rfl,rfl⟩:=h;obtain⟨a1,a2,a3,a4⟩:=jR hp _ 201 hL ho (by omega);rw[fQ]
   by_cases hn:τ r.head.name=n
   ·obtain⟨b1,b2,b3⟩:=pK hp _ c (n+1) a1 hrs;have hsame:∀a∈r.body,((aX (aX L os) rs).filter fun f=>decide (f.1=bs a.name))=(aX L os).filter fun f=>decide (f.1=bs a.name):=fun a ha=>by
     refine Bj (b1.up.filter _) (a1.up.filter _) fun f=> ?_;rw[List.mem_filter,List.mem_filter]
     constructor
     ·rintro⟨hf,hname⟩;refine⟨Classical.byContradiction fun hno=> ?_,hname⟩;obtain⟨q,hq,hqn,Fv⟩:=b3 f hf hno;have e1:a.name=q.head.name:=pR ((of_decide_eq_true hname).symm.trans Fv);have h3:=hτ r hr a ha ⟨q,hq,e1.symm⟩;rw[e1,hn] at h3;omega
     ·rintro⟨hf,hname⟩;exact⟨b2 f hf,hname⟩
    rw[qQ r.body 0 [[]] hsame];obtain⟨o1,_⟩:=gH (fun r=>τ r.head.name) a4;obtain⟨x,hx,_⟩:=o1 r hr (by exact_mod_cast hn);intro hnone;unfold dM lF at hx;rw[hnone] at hx;cases hx
   ·exact vU hp hτ c (n+1) a1 hrs r hr (by omega) (by omega)
end Go.Proofs.YtafmbokfkbccaaaGreatDoor
namespace Go.Proofs.YtafmbokfkbccaaaGreatDoor
theorem Ab {Q:List aj→List aj→Prop} {f:aj}:∀{ps:List (List aj)} {L:List aj},Steps Q L ps→f∈aX L ps→f∉L→
  ∃A B,Q A B∧f∉A∧f∈B∧(L::ps).getD (gN (L::ps) f-1) []=A∧1≤gN (L::ps) f∧gN (L::ps) f<(L::ps).length
 |[],L,_,h,hn=>absurd h hn
 |M::ps,L,hs,h,hn=>by
  rw[gB] at h;have hL:inB L f=false:=by
   cases e:inB L f with
   |false=>rfl
   |true=>exact absurd (aO.1 e) hn
  have e1:gN (L::M::ps) f=gN (M::ps) f+1:=by
   unfold gN;rw[List.findIdx_cons,hL]
   rfl
  by_cases hM:f∈M
  ·have e2:gN (M::ps) f=0:=by
    unfold gN;rw[List.findIdx_cons,aO.2 hM]
    rfl
   rw[e1,e2];exact⟨L,M,hs.1,hn,hM,rfl,by omega,by simp⟩
  ·obtain⟨A,B,h1,h2,h3,h4,h5,h6⟩:=Ab hs.2 h hM;rw[e1];refine⟨A,B,h1,h2,h3,?_,by omega,by simp only[List.length_cons] at h6⊢;omega⟩;rw[show gN (M::ps) f+1-1=(gN (M::ps) f-1)+1 by omega,List.getD_cons_succ];exact h4
theorem oN {g:aA→Option (List aj)}:∀(p:List aA) (i:Nat),(∃r∈p,g r≠none)→∃j r of,p[j]?=some r∧g r=some of∧jh g i p=(((i+j:Nat):Int),of)
 |[],_,h=>by obtain⟨r,hr,_⟩:=h;cases hr
 |r::p,i,h=>by
  unfold jh;cases hg:g r with
  |some of=>exact⟨0,r,of,rfl,hg,rfl⟩
  |none=>
   obtain⟨q,hq,hne⟩:=h;have hq':q∈p:=by
    rcases List.mem_cons.1 hq with rfl|hq
    ·exact absurd hg hne
    ·exact hq
   obtain⟨j,s,of,h1,h2,h3⟩:=oN p (i+1) ⟨q,hq',hne⟩;exact⟨j+1,s,of,by simpa using h1,h2,by dsimp only;rw[h3];congr 2;omega⟩
theorem Fw {err:List aF→Int} (LX:∀b,err b=0→aL b=0) {all old:List aj} {r:aA} (hR:jw r) {f:aj} {of:List aj} (h:byP err all old r f=some of):jO all r f of=0∧∀k∈of,k∈old:=by
 unfold byP at h;cases hm:dL r.head f [] with
 |none=>rw[hm] at h;cases h
 |some b=>
  rw[hm] at h;dsimp only at h;have h1:=List.find?_some h;have h2:=List.mem_of_find?_eq_some h;obtain⟨l,hl,rfl⟩:=List.mem_map.1 h2;refine⟨?_,fun k hk=>aO.1 (List.all_eq_true.1 h1 k hk)⟩;unfold oK at hl;split at hl
  ·cases hl
  ·rename_i he;have he:=Classical.not_not.1 he;cases hR':lF (fun _=>all) (dS b r.body) with
   |none=>rw[hR'] at hl;cases hl
   |some R=>
    rw[hR'] at hl;have hfit:=(lW (qb (LX _ he)) hR' l).1 hl;refine Kw hR hm fun a ha=> ?_;obtain⟨g,hg,hi⟩:=bZ.1 hfit.2.2.2 (eH b a) (List.mem_map.2 ⟨a,ha,rfl⟩);exact⟨g,by rw[←nZ];exact hg,hi⟩
theorem nA {b:List aC} {a:aF} {k:Bs}:(∃t∈(eH b a).terms,t.1=true∧t.2=k)↔(∃t∈a.terms,t.1=true∧t.2=k)∧bT b (bs k)=none:=by
 constructor
 ·rintro⟨t,ht,h1,h2⟩;obtain⟨u,hu,rfl⟩:=List.mem_map.1 ht;unfold dD at h1 h2;cases hu1:u.1 with
  |false=>rw[hu1] at h1;simp at h1;rw[hu1] at h1;cases h1
  |true=>
   rw[hu1] at h1 h2;simp only[if_true] at h1 h2;cases hg:bT b (bs u.2) with
   |some s=>rw[hg] at h1;cases h1
   |none=>
    rw[hg] at h2;dsimp only at h2;exact⟨⟨u,hu,hu1,h2⟩,by rw[←h2];exact hg⟩
 ·rintro⟨⟨u,hu,h1,h2⟩,hg⟩;refine⟨u,List.mem_map.2 ⟨u,hu,?_⟩,h1,h2⟩;unfold dD;rw[h1,if_pos rfl,h2,hg]
theorem tZ {b:List aC} {body:List aF} {k:Bs}:k∈dV [] (dS b body)↔k∈dV [] body∧bT b (bs k)=none:=by
 rw[dG,dG]
 constructor
 ·rintro(h|⟨a,ha,hno,h⟩)
  ·cases h
  ·obtain⟨c,hc,rfl⟩:=List.mem_map.1 ha;obtain⟨h1,h2⟩:=nA.1 h;exact⟨Or.inr ⟨c,hc,hno,h1⟩,h2⟩
 ·rintro⟨h|⟨a,ha,hno,h⟩,hg⟩
  ·cases h
  ·exact Or.inr ⟨eH b a,List.mem_map.2 ⟨a,ha,rfl⟩,hno,nA.2 ⟨h,hg⟩⟩
theorem ig:∀{l:List aF},bB l=0↔∀a∈l,aN a=0
 |[]=>by simp[bB]
 |a::l=>by
  unfold bB
  constructor
  ·intro h;split at h
   ·rename_i h0;intro x hx;rcases List.mem_cons.1 hx with rfl|hx
    ·exact h0
    ·exact ig.1 h x hx
   ·rename_i h0;exact absurd h h0
  ·intro h;rw[if_pos (h a (by simp))];exact ig.2 fun x hx=>h x (by simp[hx])
theorem Ac {b:List aC} {body:List aF} (h:aL body=0) (hb:∀v s,bT b v=some s→isNamed (raw s)=true):aL (dS b body)=0:=by
 unfold aL at h⊢;have el:(dS b body).length=body.length:=List.length_map _;rw[el];split at h
 ·cases h
 ·rename_i h5;rw[if_neg h5];split at h
  ·rename_i h0;split at h
   ·rename_i hv;have ha:bB (dS b body)=0:=ig.2 fun x hx=>by
     obtain⟨a,ha,rfl⟩:=List.mem_map.1 hx;obtain⟨h1,h2,h3⟩:=qj (ig.1 h0 a ha);unfold aN;rw[if_neg (by show¬isNamed a.name=false;rw[h1];simp),if_neg (by show¬4<(a.terms.map (dD b)).length;rw[List.length_map];omega),if_neg];intro hc;obtain⟨t,ht,hw⟩:=List.any_eq_true.1 hc;obtain⟨u,hu,rfl⟩:=List.mem_map.1 ht;have hwu:=h3 u hu;unfold dD at hw;split at hw
     ·split at hw
      ·rename_i s hs;unfold bI at hw;simp[hb _ s hs] at hw
      ·rw[hwu] at hw;cases hw
     ·rw[hwu] at hw;cases hw
    rw[if_pos ha,if_pos];refine List.all_eq_true.2 fun x hx=> ?_;obtain⟨a,ha,rfl⟩:=List.mem_map.1 hx;refine List.all_eq_true.2 fun k hk=> ?_;have hk':∃t∈(eH b a).terms,t.1=true∧t.2=k:=by
     rcases(gu _).1 hk with h1|h1
     ·cases h1
     ·exact h1
    obtain⟨h1,h2⟩:=nA.1 hk';have h3:k∈vars a:=(gu _).2 (Or.inr h1);have h4:=List.all_eq_true.1 (List.all_eq_true.1 hv a ha) k h3;unfold givenBy at h4⊢;obtain⟨c,hc,h5⟩:=List.any_eq_true.1 h4;simp only[Bool.and_eq_true,Bool.not_eq_true'] at h5;have h6:k∈vars c:=by simpa using h5.2
    refine List.any_eq_true.2 ⟨eH b c,List.mem_map.2 ⟨c,hc,rfl⟩,?_⟩;simp only[Bool.and_eq_true,Bool.not_eq_true'];refine⟨h5.1,?_⟩;have h7:k∈vars (eH b c):=by
     refine(gu _).2 (Or.inr (nA.2 ⟨?_,h2⟩));rcases(gu _).1 h6 with h8|h8
     ·cases h8
     ·exact h8
    simpa using h7
   ·cases h
  ·rename_i h0;exact absurd h h0
theorem Fx {b l:List aC} {v:ByteArray}:v∈bD (rest b l)↔v∈bD l∧bT b v=none:=by
 unfold bD rest
 constructor
 ·intro h;obtain⟨x,hx,rfl⟩:=List.mem_map.1 h;obtain⟨h1,h2⟩:=List.mem_filter.1 hx;exact⟨List.mem_map.2 ⟨x,h1,rfl⟩,by simpa using h2⟩
 ·rintro⟨h,hg⟩;obtain⟨x,hx,rfl⟩:=List.mem_map.1 h;exact List.mem_map.2 ⟨x,List.mem_filter.2 ⟨hx,by rw[hg];rfl⟩,rfl⟩
theorem Iq {p:List aA} {err:List aF→Int} (LX:∀b,aL b=0→err b=0) {all L:List aj} {r:aA} (hR:jw r) (hL:GoodS p L) (hsub:∀f∈L,f∈all) (yw:eu (fun _=>all) 0 r.body [[]]≠none)
  {f:aj} {env:List aC} (hfit:iq (fun _=>L) r.body env) (gU:aQ r.head env=some f) (hneg:∀a∈r.body,a.no=true→∀g,aQ a env=some g→g∉all):byP err all L r f≠none:=by
 obtain⟨b,hm,hag⟩:=tY (G:=env) (c:=[]) (a:=r.head) (f:=f) (fun v s h=>by cases h) gU;have BH:∀v s,bT b v=some s→isNamed (raw s)=true:=fun v s h=>xg hL.right hfit (hag v s h);have hwb:=Ac (b:=b) hR.body BH;obtain⟨R,hRR⟩:=Fu (b:=b) yw;obtain⟨f1,f2,f3,f4⟩:=hfit;have hget:∀v∈bD env,bT (b++rest b env) v=bT env v:=fun v hv=>by
  rw[fA];cases hg:bT b v with
  |some s=>exact(hag v s hg).symm
  |none=>exact BF hg
 have hfa:∀a∈r.body,aQ (eH b a) (rest b env)=aQ a env:=fun a ha=>by
  rw[nZ];refine jV fun t ht ht1=>hget _ ((f3 _).2 (eO.2 (bH hR a ha t ht ht1)))
 have O4:iq (fun _=>all) (dS b r.body) (rest b env):=by
  refine⟨f1.filter _,?_,fun v=> ?_,bZ.2 fun x hx=> ?_⟩
  ·exact(List.Sublist.map _ List.filter_sublist).nodup f2
  ·rw[Fx,f3]
   constructor
   ·rintro⟨hv,hg⟩;obtain⟨k,hk,rfl⟩:=List.mem_map.1 hv;exact eO.2 (tZ.2 ⟨hk,hg⟩)
   ·intro hv;obtain⟨k,hk,rfl⟩:=List.mem_map.1 hv;obtain⟨h1,h2⟩:=tZ.1 hk;exact⟨eO.2 h1,h2⟩
  ·obtain⟨a,ha,rfl⟩:=List.mem_map.1 hx;obtain⟨g,hg,hi⟩:=bZ.1 f4 a ha;refine⟨g,by rw[hfa a ha];exact hg,?_⟩;show inB all g= !a.no;cases hno:a.no with
   |true=>
    have:=hneg a ha hno g hg;cases e:inB all g with
    |false=>rfl
    |true=>exact absurd (aO.1 e) this
   |false=>
    rw[hno] at hi;exact aO.2 (hsub g (aO.1 hi))
 have hmem:=(lW (qb hwb) hRR _).2 O4;intro hnone;unfold byP at hnone;rw[hm] at hnone;dsimp only at hnone;rw[List.find?_eq_none] at hnone;refine hnone (fB (dS b r.body) (rest b env)) (List.mem_map.2 ⟨_,?_,rfl⟩) (List.all_eq_true.2 fun k hk=> ?_)
 ·unfold oK;rw[if_neg (by rw[LX _ hwb];simp),hRR];exact hmem
 ·unfold fB at hk;obtain⟨x,hx,he⟩:=List.mem_filterMap.1 hk;obtain⟨a,ha,rfl⟩:=List.mem_map.1 hx;obtain⟨g,hg,hi⟩:=bZ.1 f4 a ha;rw[show(eH b a).no=a.no from rfl] at he;cases hno:a.no with
  |true=>rw[hno] at he;cases he
  |false=>
   rw[hno] at he hi;simp only[Bool.false_eq_true,if_false] at he;rw[hfa a ha,hg] at he;cases he;exact hi
structure Ky (p:List aA) (told all:List aj) (how:aj→Int×List aj):Prop where
 ok:∀f∈all,(inB told f=true∧how f=(-1,[]))∨∃(i:Nat) (r:aA) (of:List aj),p[i]?=some r∧how f=((i:Int),of)∧jO all r f of=0∧∀k∈of,k∈all
theorem MR {p:List aA} (hp:cZ p) {err:List aF→Int} (LX:∀b,err b=0↔aL b=0) {told:List aj} {ps:List (List aj)} (hs:Steps (Came p (aX told ps)) told ps) (yw:∀r∈p,eu (fun _=>aX told ps) 0 r.body [[]]≠none):
  Ky p told (aX told ps) (mX err p told (aX told ps) (told::ps)):=⟨fun f hf=>by
 by_cases ht:inB told f=true
 ·exact Or.inl ⟨ht,by unfold mX;rw[if_pos ht]⟩
 ·right
  have hn:f∉told:=fun hc=>ht (aO.2 hc);obtain⟨A,B,⟨g1,g2,g3⟩,h2,h3,h4,_,_⟩:=Ab hs hf hn;obtain⟨r,hr,env,he,gU,hneg⟩:=g3 f h3 h2;have hby:byP err (aX told ps) ((told::ps).getD (gN (told::ps) f-1) []) r f≠none:=by
   rw[h4];exact Iq (fun b hb=>(LX b).2 hb) (hp.rules r hr) g1 g2 (yw r hr) he gU hneg
  obtain⟨j,q,of,k1,k2,k3⟩:=oN (g:=fun r=>byP err (aX told ps) ((told::ps).getD (gN (told::ps) f-1) []) r f) p 0 ⟨r,hr,hby⟩;obtain⟨s1,s2⟩:=Fw (fun b hb=>(LX b).1 hb) (hp.rules q (List.mem_of_getElem? k1)) k2;refine⟨j,q,of,k1,?_,s1,fun k hk=> ?_⟩
  ·unfold mX;rw[if_neg ht,k3];simp
  ·have:=s2 k hk;rw[h4] at this;exact g2 k this⟩
def cnt:Nat→bf→Nat
 |0,_=>0
 |n+1,x=>1+(x.kids.map (cnt n)).sum
theorem Fy {en:Nat×Nat→Bool}:∀(m k:Nat) (L:List bf) (s:Nat×Nat),(∀x∈L,Deep m x)→(fE en k L s).1≤s.1+(L.map (cnt m)).sum∧(fE en k L s).2≤s.2+m
 |_,0,L,s,_=>by simp[fE]
 |0,k+1,L,s,h=>by
  have e:L=[]:=by
   cases L with
   |nil=>rfl
   |cons x L=>exact(h x (by simp)).elim
  subst e;simp[fE]
 |m+1,k+1,L,s,h=>by
  unfold fE
  by_cases hc:L=[]∨en s=true
  ·rw[if_pos hc];exact⟨by omega,by omega⟩
  ·rw[if_neg hc];obtain⟨h1,h2⟩:=Fy (en:=en) m k (L.flatMap bf.kids) (s.1+L.length,s.2+1) fun x hx=>by
    obtain⟨y,hy,hxy⟩:=List.mem_flatMap.1 hx;exact h y hy x hxy
   have e:L.length+((L.flatMap bf.kids).map (cnt m)).sum=(L.map (cnt (m+1))).sum:=by
    clear h h1 h2 hc
    induction L with
    |nil=>rfl
    |cons x L ih=>
     rw[List.flatMap_cons,List.map_append,List.sum_append,List.map_cons,List.sum_cons,←ih,List.length_cons];show _=1+(x.kids.map (cnt m)).sum+_;omega
   dsimp only at h1 h2;exact⟨by omega,by omega⟩
theorem uf {g:aj→Nat×Nat→Option bf×(Nat×Nat)} {c:bf→Nat} {Q:aj→bf→Prop}:∀{fs:List aj} {s:Nat×Nat} {ks:List bf} {s':Nat×Nat},(∀f∈fs,∀s x s',g f s=(some x,s')→s'.1=s.1+c x∧Q f x)→iP g fs s=(some ks,s')→
  s'.1=s.1+(ks.map c).sum∧ks.length=fs.length∧∀(i:Nat) f k,fs[i]?=some f→ks[i]?=some k→Q f k
 |[],s,ks,s',_,h=>by
  simp only[iP,Prod.mk.injEq,Option.some.injEq] at h;obtain⟨rfl,rfl⟩:=h;exact⟨by simp,rfl,fun i f k hf=>by simp at hf⟩
 |f::fs,s,ks,s',hg,h=>by
  unfold iP at h;obtain⟨o,s1,h1⟩:∃o s1,g f s=(o,s1):=⟨_,_,rfl⟩;rw[h1] at h;dsimp only at h;cases o with
  |none=>simp at h
  |some k=>
   dsimp only at h;obtain⟨o2,s2,h2⟩:∃o s2,iP g fs s1=(o,s2):=⟨_,_,rfl⟩;rw[h2] at h;dsimp only at h;cases o2 with
   |none=>simp at h
   |some ks2=>
    simp only[Prod.mk.injEq,Option.some.injEq] at h;obtain⟨rfl,rfl⟩:=h;obtain⟨a1,a2⟩:=hg f (by simp) s k s1 h1;obtain⟨b1,b2,b3⟩:=uf (fun f' hf'=>hg f' (by simp[hf'])) h2;refine⟨by rw[b1,a1,List.map_cons,List.sum_cons];omega,by simp[b2],fun i f' k' hf' hk'=> ?_⟩;cases i with
    |zero=>simp at hf' hk';subst hf' hk';exact a2
    |succ i=>exact b3 i f' k' (by simpa using hf') (by simpa using hk')
theorem BI {p:List aA} {told all:List aj} {how:aj→Int×List aj} (H:Ky p told all how):∀(n:Nat) (f:aj) (d:Nat) (s:Nat×Nat) (x:bf) (s':Nat×Nat),n+1+d=62→f∈all→bq how (n+1) f d s=(some x,s')→
  s'.1=s.1+cnt n x∧(x.fact=f∧Deep n x∧∀m,n≤m→dR p told all m x=0)
 |n,f,d,s,x,s',hnd,hf,h=>by
  unfold bq at h;split at h
  ·simp at h
  ·rename_i Kz;have hd:d≤60:=by
    unfold kr at Kz;simp only[Bool.or_eq_true,decide_eq_true_eq,not_or] at Kz;have:=Kz.2;omega
   obtain⟨m,rfl⟩:∃m,n=m+1:=⟨n-1,by omega⟩;obtain⟨o,s1,h1⟩:∃o s1,iP (fun g s=>bq how (m+1) g (d+1) s) (how f).2 (s.1+1,max s.2 d)=(o,s1):=⟨_,_,rfl⟩;rw[h1] at h;dsimp only at h;cases o with
   |none=>simp at h
   |some ks=>
    simp only[Prod.mk.injEq,Option.some.injEq] at h;obtain⟨rfl,rfl⟩:=h;have hof:∀k∈(how f).2,k∈all:=by
     rcases H.ok f hf with⟨_,e⟩|⟨i,r,of,_,e,_,hk⟩
     ·rw[e];intro k hk;cases hk
     ·rw[e];exact hk
    obtain⟨b1,b2,b3⟩:=uf (c:=cnt m) (Q:=fun f x=>x.fact=f∧Deep m x∧∀q,m≤q→dR p told all q x=0) (fun g hg s x s' hgx=>BI H m g (d+1) s x s' (by omega) (hof g hg) hgx) h1;have O5:ks.map bf.fact=(how f).2:=by
     refine List.ext_getElem? fun i=> ?_;rw[List.getElem?_map];cases hk:ks[i]? with
     |none=>
      have:=List.getElem?_eq_none_iff.1 hk;rw[List.getElem?_eq_none (by omega)]
      rfl
     |some k=>
      obtain⟨hi,_⟩:=List.getElem?_eq_some_iff.1 hk;obtain⟨g,hg⟩:∃g,(how f).2[i]?=some g:=⟨_,List.getElem?_eq_getElem (by omega)⟩;rw[hg];show some k.fact=some g;rw[(b3 i g k hg hk).1]
    have hall:∀k∈ks,Deep m k∧∀q,m≤q→dR p told all q k=0:=fun k hk=>by
     obtain⟨i,hi,e⟩:=List.getElem_of_mem hk;have hk':ks[i]?=some k:=by rw[List.getElem?_eq_getElem hi,e]
     obtain⟨g,hg⟩:∃g,(how f).2[i]?=some g:=⟨_,List.getElem?_eq_getElem (by omega)⟩;exact(b3 i g k hg hk').2
    refine⟨?_,rfl,fun k hk=>(hall k hk).1,fun q hq=> ?_⟩
    ·rw[b1];show s.1+1+_=s.1+(1+(ks.map (cnt m)).sum);omega
    ·obtain⟨q',rfl⟩:∃q',q=q'+1:=⟨q-1,by omega⟩;unfold dR;show(if(how f).1<0 then _ else _)=_;rcases H.ok f hf with⟨ht,e⟩|⟨i,r,of,hr,e,hst,_⟩
     ·have hk0:ks=[]:=by
       rw[e] at b2;exact List.eq_nil_of_length_eq_zero b2
      rw[e,if_pos (by decide)];exact if_pos ⟨rfl,hk0,ht⟩
     ·rw[e,if_neg (by show¬(i:Int)<0;omega)];show(match p[((i:Int)).toNat]? with|none=>_|some r=>_)=_;rw[Int.toNat_natCast,hr];show(if jO all r f (ks.map bf.fact)≠0 then _ else jy _ ks)=_;rw[O5,e];rw[if_neg (by rw[hst];simp)];exact xu fun k hk=>(hall k hk).2 q' (by omega)
end Go.Proofs.YtafmbokfkbccaaaGreatDoor
namespace Go.Proofs.YtafmbokfkbccaaaGreatDoor
open Go.RowKit Go.Sort
theorem Tn.grown {p:Nat} {a b c:World} {row:Option Nat} (h:Tn p a b) (hg:b.grownBy c row) (hr:∀k,row=some k→a.heap.size≤k):Tn p a c:=
 ⟨hg.os.trans h.os,hg.tape.trans h.tape,hg.output.trans h.output,Nat.le_trans h.size hg.size,fun k hk ho=>(hg.block k (Nat.lt_of_lt_of_le hk h.size) (fun e=>by have:=hr k e.symm;omega)).trans (h.block k hk ho)⟩
theorem Db:∃i,Tryz.prog.info? 28=some i∧i.zero=some (.slice none 0 0)∧i.size=1∧i.bytes=24:=⟨Tryz.t28,by kernel_rfl,by kernel_rfl,by kernel_rfl,by kernel_rfl⟩
set_option maxRecDepth 100000 in
theorem KA (c d:Nat) (w:World):Calls Tryz.prog 54 #[.agg #[.int .i64 c,.int .i64 d]] w fun e w'=>e=.returned (.bool (kr (c,d)))∧Later w w':=by
 unfold kr
 by_cases hc:400<c
 ·have h1:(400:Int)<(c:Int):=by omega
  have e:(decide (400<c)||decide (60<d))=true:=by simp[hc]
  rw[e];clear e hc
  go_enter Tryz.func54,Tryz.ntmps54
  go_wp2;go_ret;exact⟨rfl,(by repeat (first|exact Later.refl _|assumption|refine Later.drewN ?_ _|refine Later.drew ?_|refine Later.alloc ?_ _|refine Later.grow ?_ _))⟩
 ·have h1:¬(400:Int)<(c:Int):=by omega
  by_cases hd:60<d
  ·have h2:(60:Int)<(d:Int):=by omega
   have e:(decide (400<c)||decide (60<d))=true:=by simp[hd]
   rw[e];clear e hc hd
   go_enter Tryz.func54,Tryz.ntmps54
   go_wp2;go_ret;exact⟨rfl,(by repeat (first|exact Later.refl _|assumption|refine Later.drewN ?_ _|refine Later.drew ?_|refine Later.alloc ?_ _|refine Later.grow ?_ _))⟩
  ·have h2:¬(60:Int)<(d:Int):=by omega
   have e:(decide (400<c)||decide (60<d))=false:=by simp[hc,hd]
   rw[e];clear e hc hd
   go_enter Tryz.func54,Tryz.ntmps54
   go_wp2;go_ret;exact⟨rfl,(by repeat (first|exact Later.refl _|assumption|refine Later.drewN ?_ _|refine Later.drew ?_|refine Later.alloc ?_ _|refine Later.grow ?_ _))⟩
set_option maxRecDepth 100000 in
theorem MS (c d:Nat) (w:World):Calls Tryz.prog 53 #[.agg #[.int .i64 c,.int .i64 d]] w fun e w'=>e=.returned (.bool false)∧Later w w':=by
 go_enter Tryz.func53,Tryz.ntmps53
 go_wp2;go_ret;exact⟨rfl,(by repeat (first|exact Later.refl _|assumption|refine Later.drewN ?_ _|refine Later.drew ?_|refine Later.alloc ?_ _|refine Later.grow ?_ _))⟩
theorem Fz {α:Type} {LL:List (List α)} {j:Nat} {l:List α} (h:LL[j]?=some l):(LL.take (j+1)).flatten=(LL.take j).flatten++l:=by
 rw[List.take_add_one,h,List.flatten_append];simp
theorem KC {α:Type} (LL:List (List α)) (j:Nat):(LL.take j).flatten.length≤LL.flatten.length:=by
 have h:LL.flatten=(LL.take j).flatten++(LL.drop j).flatten:=by rw[←List.flatten_append,List.take_append_drop]
 rw[h,List.length_append];omega
theorem FB {α:Type}:∀{LL:List (List α)},(∀l∈LL,l≠[])→LL.length≤LL.flatten.length
 |[],_=>by simp
 |l::LL,h=>by
  have ih:=FB (LL:=LL) fun q hq=>h q (by simp[hq]);have h1:0<l.length:=List.length_pos_iff.2 (h l (by simp));rw[List.flatten_cons,List.length_append,List.length_cons];omega
theorem BJ {m:Nat}:∀(L:List bf),L.length+((L.flatMap bf.kids).map (cnt m)).sum=(L.map (cnt (m+1))).sum
 |[]=>rfl
 |x::L=>by
  rw[List.flatMap_cons,List.map_append,List.sum_append,List.map_cons,List.sum_cons,←BJ L,List.length_cons];show _=1+(x.kids.map (cnt m)).sum+_;omega
theorem Ir {m:Nat} {ty:TypeId} {B:Nat→Prop} {w0 w:World} {lo:Nat} {v:Value} {LL:List (List bf)} (h:nT (o7 m) ty B w0 lo w v LL):∀x∈LL.flatten,Deep m x:=fun x hx=>by
 obtain⟨l,hl,hxl⟩:=List.mem_flatten.1 hx;obtain⟨i,hi,e⟩:=List.getElem_of_mem hl;obtain⟨xs,_,hxs⟩:=h;obtain⟨u,hu,_⟩:=hxs i l (by rw[List.getElem?_eq_getElem hi,e]);obtain⟨c,hc⟩:=xO hu hxl;exact vG m c x hc
theorem nT.base {α:Type} {K:Kind α} {ty:TypeId} {B:Nat→Prop} {w0:World} {lo lo':Nat} {w:World} {v:Value} {l:List (List α)} (h:nT K ty B w0 lo w v l) (hl:lo'≤lo):nT K ty B w0 lo' w v l:=by
 obtain⟨xs,ho,hx⟩:=h;refine⟨xs,⟨ho.1,?_⟩,hx⟩;rcases ho.2 with e|⟨g,cap,cur,e,hg,r⟩
 ·exact Or.inl e
 ·exact Or.inr ⟨g,cap,cur,e,Nat.le_trans hl hg,r⟩
theorem yx {m:Nat} {B:Nat→Prop} {w:World} {v:Value} {l:List bf} (h:(o7 (m+1)).sl B w v l) {i:Nat} {x:bf} (hx:l[i]?=some x):
  ∃b off s kv,v=.slice (some ⟨b,off,none⟩) l.length (match v with| .slice _ _ c=>c|_=>0)∧b<w.heap.size∧B b∧w.cell? ⟨b,off+i*4,none⟩=some (.string x.fact.1)∧w.cell? ⟨b,off+i*4+1,none⟩=some s∧w.cell? ⟨b,off+i*4+2,none⟩=some (.int .i64 x.rule)∧w.cell? ⟨b,off+i*4+3,none⟩=some kv∧
   bsK.sl B w s x.fact.2∧(o7 m).sl B w kv x.kids:=by
 obtain⟨_,a,cap,rfl,h1⟩:=h;obtain⟨b,off,rfl,hB,hb,hc⟩:=h1 (by intro e;rw[e] at hx;simp at hx);obtain⟨c,⟨s,kv,rfl,h2,h3⟩,hcell⟩:=hc i x hx;exact⟨b,off,s,kv,rfl,hb,hB,(by show w.cell? ⟨b,off+i*4+0,none⟩=_;exact hcell 0 _ rfl),hcell 1 _ rfl,hcell 2 _ rfl,hcell 3 _ rfl,h2,h3⟩
set_option maxRecDepth 100000 in
set_option maxHeartbeats 8000000 in
theorem BK (x:bf) (n g:Nat) (en:Nat×Nat→Bool) (pv:Value) (w:World) (hx:sI n bJ w pv x) (hn:cnt (n+1) x≤4000000) (hnn:n≤4000000) (eg:∀args w,(callFunc g args).run Tryz.prog w=.ok (.enter g args) w)
  (hg:∀(c d:Nat) (w:World),Calls Tryz.prog g #[.agg #[.int .i64 c,.int .i64 d]] w fun e w'=>e=.returned (.bool (en (c,d)))∧Later w w'):
  Calls Tryz.prog 52 #[pv,.func (.func g) #[] #[]] w fun e w'=>e=.returned (.agg #[.int .i64 (fE en (n+2) [x] (0,0)).1,.int .i64 (fE en (n+2) [x] (0,0)).2])∧Below w.heap.size w w':=by
 obtain⟨s,kv,rfl,hs,hkv⟩:=hx;obtain⟨sa,sc,rfl⟩:=Kind.slice hs;obtain⟨ka,kc,rfl⟩:=Kind.slice hkv;obtain⟨i,i1,i2,i3,i4⟩:=Db;obtain⟨A,hA⟩:∃A,A=w.heap.size:=⟨_,rfl⟩;obtain⟨w1,hw1⟩:∃w1,w1=((((w.alloc (.cells #[.string x.fact.1,.slice sa x.fact.2.length sc,.int .i64 x.rule,.slice ka x.kids.length kc] 30)).alloc (.cells #[.int .i64 0,.int .i64 0] 105)).alloc (.cells #[.int .i64 0,.int .i64 0] 105)).alloc (.cells #[.string x.fact.1,.slice sa x.fact.2.length sc,.int .i64 x.rule,.slice ka x.kids.length kc] 30)).alloc (.cells #[.slice (some ⟨w.heap.size+3,0,none⟩) 1 1] 28):=⟨_,rfl⟩;have hL1:Later w w1:=by rw[hw1];exact(((((Later.refl w).alloc _).alloc _).alloc _).alloc _).alloc _
 have hs1:w1.heap.size=A+5:=by rw[hw1,hA];simp
 have hr4:w1.heap[A+1]?=some (.cells #[.int .i64 0,.int .i64 0] 105 (0,0)):=by
  rw[hw1,hA];simp only[bO,World.size_alloc]
  repeat (first|rw[if_pos trivial]|rw[if_pos (by omega)]|rw[if_neg (by omega)])
 have hr5:w1.heap[A+2]?=some (.cells #[.int .i64 0,.int .i64 0] 105 (0,0)):=by
  rw[hw1,hA];simp only[bO,World.size_alloc]
  repeat (first|rw[if_pos trivial]|rw[if_pos (by omega)]|rw[if_neg (by omega)])
 have hr6:w1.heap[A+3]?=some (.cells #[.string x.fact.1,.slice sa x.fact.2.length sc,.int .i64 x.rule,.slice ka x.kids.length kc] 30 (0,0)):=by
  rw[hw1,hA];simp only[bO,World.size_alloc]
  repeat (first|rw[if_pos trivial]|rw[if_pos (by omega)]|rw[if_neg (by omega)])
 have hr7:w1.heap[A+4]?=some (.cells #[.slice (some ⟨A+3,0,none⟩) 1 1] 28 (0,0)):=by
  rw[hw1,hA];simp only[bO,World.size_alloc]
  repeat (first|rw[if_pos trivial]|rw[if_pos (by omega)]|rw[if_neg (by omega)])
 have hB0:∀k,k<w.heap.size→bJ k→(k≠A+2):=fun k hk _=>by omega
 have hS1:bsK.sl (fun k=>k≠A+2) w1 (.slice sa x.fact.2.length sc) x.fact.2:=Kind.aT (Kind.aW hs hB0) hL1.size fun k hk _=>hL1.block hk;have hK1:(o7 n).sl (fun k=>k≠A+2) w1 (.slice ka x.kids.length kc) x.kids:=Kind.aT (Kind.aW hkv hB0) hL1.size fun k hk _=>hL1.block hk;have hx1:(o7 (n+1)).sl (fun k=>k≠A+2) w1 (.slice (some ⟨A+3,0,none⟩) 1 1) [x]:=by
  refine⟨⟨by simp,by show 1≤1;omega⟩,_,1,rfl,fun _=>⟨A+3,0,rfl,by omega,by omega,fun i y hy=> ?_⟩⟩;cases i with
  |succ i=>simp at hy
  |zero=>
   simp at hy;subst hy;refine⟨_,⟨_,_,rfl,hS1,hK1⟩,fun j u hu=> ?_⟩;rw[Nat.zero_mul,Nat.zero_add,cell_of_row _ _ _ _ _ _ hr6];simpa using hu
 have hrow:nT (o7 (n+1)) 28 (fun k=>k≠A+2) w1 (A+3) w1 (.slice (some ⟨A+4,0,none⟩) 1 1) [[x]]:=by
  refine⟨[.slice (some ⟨A+3,0,none⟩) 1 1],⟨rfl,Or.inr ⟨A+4,1,#[.slice (some ⟨A+3,0,none⟩) 1 1],rfl,by omega,hr7,by simp,by simp[maxLen],by simp,by simp⟩⟩,fun i a hi=> ?_⟩;cases i with
  |succ i=>simp at hi
  |zero=>simp at hi;subst hi;exact⟨_,hx1,rfl⟩
 have hsum:([[x]].flatten.map (cnt (n+1))).sum≤4000000:=by simpa using hn
 have O6:=hide hrow;have HR5:=hide hr5;have HR4:=hide hr4;have HL1:=hide hL1;have HG:=hide hg;rw[hA] at O6 HR5 HR4;have HW1:=hide hw1;obtain⟨M,hM⟩:∃M,M=fE en (n+2) [x] (0,0):=⟨_,rfl⟩;rw[←hM];have HM0:Hid (M=fE en (n+2) [[x]].flatten (0,0)):=by show _=_;rw[hM];rfl
 rw[hA] at hs1;clear hs hkv hn hg hL1 hr4 hr5 hr6 hr7 hB0 hS1 hK1 hx1 hrow hw1 hM;clear hA A
 go_enter Tryz.func52,Tryz.ntmps52
 go_wp2;rw[←HW1.out];clear HW1
 go_loopg [6] (n+1) (fun m lv wr=>∃(LL:List (List bf)) (c d:Nat),Hid (nT (o7 m) 28 (fun k=>k≠w.heap.size+2) w1 (w.heap.size+3) wr lv LL)∧Hid (∀l∈LL,l≠[])∧Hid (M=fE en (m+1) LL.flatten (c,d))∧c+(LL.flatten.map (cnt m)).sum≤4000000∧d+m≤n+1∧
  Hid (wr.heap[w.heap.size+2]?=some (.cells #[.int .i64 c,.int .i64 d] 105 (0,0)))∧Hid (Tn (w.heap.size+2) w1 wr))
 case atStart=>exact⟨[[x]],0,0,O6,(fun l hl=>by simp at hl;subst hl;simp),HM0,by omega,by omega,HR5,Tn.refl _ _⟩
 case round=>
  clear O6 HR5 HM0 hsum;obtain⟨LL,c,d,HRo,HNe,HM,hcn,hdm,HR,HT⟩:=hrel;obtain⟨la,ln,lc,rfl,hln⟩:∃a n c,u6=.slice a n c∧n=LL.length:=by obtain⟨a,c,e⟩:=nT.slice HRo.out;exact⟨a,_,c,e,rfl⟩
  have hsz:=HT.out.size;obtain⟨s0,s1,f0,f1,_⟩:=lH HR.out
  by_cases h0:LL=[]
  ·subst h0;obtain rfl:ln=0:=hln;have HMe:Hid (M=(c,d)):=by show _=_;rw[HM.out];unfold fE;rw[if_pos (Or.inl List.flatten_nil)]
   have hr4:wr.heap[w.heap.size+1]?=some (.cells #[.int .i64 0,.int .i64 0] 105 (0,0)):=(HT.out.block _ (by omega) (by omega)).trans HR4.out;obtain⟨t0,t1,t2,t3,_⟩:=lH hr4;have HBw:Hid (Below w.heap.size w ((wr.setCell ⟨w.heap.size+1,0,none⟩ (.int .i64 c)).setCell ⟨w.heap.size+1,1,none⟩ (.int .i64 d))):=by
    refine Below.setCell (Below.setCell (ak HL1.out.below (HT.out.below (n:=w.heap.size) (by omega) HL1.out.size) (Nat.le_refl _)) ?_ _) ?_ _
    ·show w.heap.size≤w.heap.size+1;omega
    ·show w.heap.size≤w.heap.size+1;omega
   have hz0:=dY (j:=1) (dY (j:=0) hr4 (.int .i64 c)) (.int .i64 d);have z0:((wr.setCell ⟨w.heap.size+1,0,none⟩ (.int .i64 c)).setCell ⟨w.heap.size+1,1,none⟩ (.int .i64 d)).cell? ⟨w.heap.size+1,0,none⟩=some (.int .i64 c):=by rw[cell_of_row _ _ _ _ _ _ hz0];rfl
   have z1:((wr.setCell ⟨w.heap.size+1,0,none⟩ (.int .i64 c)).setCell ⟨w.heap.size+1,1,none⟩ (.int .i64 d)).cell? ⟨w.heap.size+1,1,none⟩=some (.int .i64 d):=by rw[cell_of_row _ _ _ _ _ _ hz0];rfl
   have HZ0:=hide z0;have HZ1:=hide z1;clear hr4 hz0 z0 z1 HM;go_wp2;have z0:=HZ0.out;have z1:=HZ1.out;exact bodyPost_ret (v:=.agg #[.int .i64 c,.int .i64 d]) (by simp[results,Tryz.results52,go_sem,z0,z1]) rfl ⟨by rw[HMe.out],HBw.out⟩
  ·have hdp:=Ir HRo.out;obtain⟨m,rfl⟩:∃m,gk=m+1:=by
    cases gk with
    |succ m=>exact⟨m,rfl⟩
    |zero=>
     exfalso
     cases LL with
     |nil=>exact h0 rfl
     |cons l LL=>
      cases l with
      |nil=>exact HNe.out [] (by simp) rfl
      |cons y l=>exact hdp y (by simp)
   have SG:0<LL.length:=by
    cases LL with
    |nil=>exact absurd rfl h0
    |cons l LL=>simp
   have Un:(0:Int)<(ln:Int):=by omega
   have HE:=hide (HG.out c d wr);cases hen:en (c,d) with
   |true=>
    rw[hen] at HE;have HMe:Hid (M=(c,d)):=by show _=_;rw[HM.out];unfold fE;rw[if_pos (Or.inr hen)]
    clear hen HM hdp HNe
    go_wp2_with fail
    refine HE.out.mono ?_;rintro e w2 ⟨rfl,hL2⟩;have hr5:=(hL2.block (by omega)).trans HR.out;have hr4:w2.heap[w.heap.size+1]?=some (.cells #[.int .i64 0,.int .i64 0] 105 (0,0)):=(hL2.block (by omega)).trans ((HT.out.block _ (by omega) (by omega)).trans HR4.out);obtain⟨t0,t1,t2,t3,_⟩:=lH hr4;obtain⟨s0,s1,f0,f1,_⟩:=lH hr5;have HBw:Hid (Below w.heap.size w ((w2.setCell ⟨w.heap.size+1,0,none⟩ (.int .i64 c)).setCell ⟨w.heap.size+1,1,none⟩ (.int .i64 d))):=by
     refine Below.setCell (Below.setCell (ak (ak HL1.out.below (HT.out.below (n:=w.heap.size) (by omega) HL1.out.size) (Nat.le_refl _)) hL2.below (by omega)) ?_ _) ?_ _
     ·show w.heap.size≤w.heap.size+1;omega
     ·show w.heap.size≤w.heap.size+1;omega
    have hz0:=dY (j:=1) (dY (j:=0) hr4 (.int .i64 c)) (.int .i64 d);have HZ0:Hid (((w2.setCell ⟨w.heap.size+1,0,none⟩ (.int .i64 c)).setCell ⟨w.heap.size+1,1,none⟩ (.int .i64 d)).cell? ⟨w.heap.size+1,0,none⟩=some (.int .i64 c)):=by show _=_;rw[cell_of_row _ _ _ _ _ _ hz0];rfl
    have HZ1:Hid (((w2.setCell ⟨w.heap.size+1,0,none⟩ (.int .i64 c)).setCell ⟨w.heap.size+1,1,none⟩ (.int .i64 d)).cell? ⟨w.heap.size+1,1,none⟩=some (.int .i64 d)):=by show _=_;rw[cell_of_row _ _ _ _ _ _ hz0];rfl
    clear hln hr4 hr5 hz0 hL2 HE HR HRo HT;go_wp2;have z0:=HZ0.out;have z1:=HZ1.out;exact bodyPost_ret (v:=.agg #[.int .i64 c,.int .i64 d]) (by simp[results,Tryz.results52,go_sem,z0,z1]) rfl ⟨by rw[HMe.out],HBw.out⟩
   |false=>
    rw[hen] at HE;have HMn:Hid (M=fE en (m+1) (LL.flatten.flatMap bf.kids) (c+LL.flatten.length,d+1)):=by
     show _=_;rw[HM.out]
     conv=>lhs;unfold fE
     rw[if_neg];rintro(h|h)
     ·cases LL with
      |nil=>exact h0 rfl
      |cons l LL=>
       cases l with
       |nil=>exact HNe.out [] (by simp) rfl
       |cons y l=>simp at h
     ·rw[hen] at h;cases h
    have hck:=BJ (m:=m) LL.flatten;have hfl:=KC LL;have hLL:LL.length≤4000000:=by have:=FB HNe.out;omega
    clear hen HM hdp
    go_wp2_with fail
    refine HE.out.mono ?_;rintro e w2 ⟨rfl,hL2⟩;have HR2:=hide ((hL2.block (by omega)).trans HR.out);have HT2:=hide (HT.out.trans (Tn.of_below hL2.below));have O7:=hide (HRo.out.kept fun k hk=>hL2.block (HRo.out.lo_le k hk).2);have hsz2:=HT2.out.size;clear hL2 HE HR HT HRo s0 s1 f0 f1 hsz;go_wp2
    go_loopg [7,26] LL.length (fun q bv i wr=>∃(j:Nat) (BB:List (List bf)),j+q=LL.length∧i=.int .i64 j∧Hid (nT (o7 m) 28 (fun k=>k≠w.heap.size+2) w1 w2.heap.size wr bv BB)∧Hid (∀l∈BB,l≠[])∧Hid (BB.flatten=(LL.take j).flatten.flatMap bf.kids)∧BB.length≤(LL.take j).flatten.length∧
     ∃c1:Nat,Hid (c1=c+(LL.take j).flatten.length)∧Hid (wr.heap[w.heap.size+2]?=some (.cells #[.int .i64 (c1:Int),.int .i64 d] 105 (0,0)))∧Hid (Tn (w.heap.size+2) w2 wr))
    case atStart=>exact⟨0,[],by omega,rfl,nT.nil _ _ _ _ _ _,(fun l hl=>by cases hl),(by simp:_=_),by simp,c,(by simp:_=_),HR2,Tn.refl _ _⟩
    case round=>
     clear HR2;obtain⟨j,BB,hj,rfl,HBr,HBn,HBf,hbl,c1,HC1,HR,HT⟩:=hrel;obtain⟨ba,bn,bc,rfl⟩:∃a n c,u7=.slice a n c:=by obtain⟨a,c,e⟩:=nT.slice HBr.out;exact⟨a,_,c,e⟩
     have hfj:=hfl j;have MU:=HT.out.size
     by_cases hlt:j<LL.length
     ·obtain⟨l,hl⟩:∃l,LL[j]?=some l:=⟨_,List.getElem?_eq_getElem hlt⟩;obtain⟨g1,SH,u,e1,hg1,hu,hc⟩:=O7.out.at hl;have Uo:=(O7.out.lo_le g1 (by rw[e1];rfl)).1;simp only[Value.slice.injEq] at e1;obtain⟨rfl,_,rfl⟩:=e1;have SI:g1<wr.heap.size:=by omega
      have d0:wr.cell? ⟨g1,j,none⟩=some u:=by rw[HT.out.cell (x:=⟨g1,j,none⟩) hg1 (by show g1≠_;omega)];exact hc
      have HU:Hid (∀w',Tn (w.heap.size+2) w1 w'→(o7 (m+1)).sl (fun k=>k≠w.heap.size+2) w' u l):=fun w' h=>Kind.aT hu h.size fun k hk hne=>h.block k hk hne;obtain⟨ua,uc,rfl⟩:=Kind.slice hu;obtain⟨s0,s1,f0,f1,_⟩:=lH HR.out;have hft:=Fz hl;have SK:=hfl (j+1);rw[hft,List.length_append] at SK;obtain⟨cc,hcc⟩:∃cc,cc=c1+l.length:=⟨_,rfl⟩;have hwr:IntKind.i64.wrap ((c1:Int)+(l.length:Int))=(cc:Int):=by
       have:=HC1.out;rw[IntKind.wrap_i64];omega
      have HCC:Hid (cc=c+(LL.take j).flatten.length+l.length):=by show _=_;rw[hcc,HC1.out]
      clear hcc;obtain⟨wa,hwa⟩:∃wa,wa=wr.setCell ⟨w.heap.size+2,0,none⟩ (.int .i64 (cc:Int)):=⟨_,rfl⟩;have hTa:Tn (w.heap.size+2) wr wa:=by rw[hwa];exact Tn.setCell (p:=w.heap.size+2) (Tn.refl _ _) (x:=⟨w.heap.size+2,0,none⟩) (Or.inl rfl) _
      have hRa:wa.heap[w.heap.size+2]?=some (.cells #[.int .i64 (cc:Int),.int .i64 d] 105 (0,0)):=by rw[hwa];rw[dY (j:=0) HR.out];rfl
      have HBa:=hide (HBr.out.kept (w':=wa) fun k hk=>hTa.block k (HBr.out.lo_le k hk).2 (by have:=(HBr.out.lo_le k hk).1;omega));have HTa:=hide (HT.out.trans hTa);have HRa:=hide hRa;have O8:=hTa.size;have HWa:=hide hwa;have HFT:=hide hft;clear hc hl hu hwa hTa hRa HBr HT HR hft;go_wp2;rw[←HWa.out];clear HWa d0 s0 s1 f0 f1 hwr
      go_loopg [7,38] l.length (fun q bv i wr=>∃(k:Nat) (BB:List (List bf)),k+q=l.length∧i=.int .i64 k∧Hid (nT (o7 m) 28 (fun k=>k≠w.heap.size+2) w1 w2.heap.size wr bv BB)∧Hid (∀l∈BB,l≠[])∧Hid (BB.flatten=(LL.take j).flatten.flatMap bf.kids++(l.take k).flatMap bf.kids)∧BB.length≤(LL.take j).flatten.length+k∧
       Hid (wr.heap[w.heap.size+2]?=some (.cells #[.int .i64 (cc:Int),.int .i64 d] 105 (0,0)))∧Hid (Tn (w.heap.size+2) w2 wr))
      case atStart=>exact⟨0,BB,by omega,rfl,HBa,HBn,(by rw[HBf.out];simp:_=_),by omega,HRa,HTa⟩
      case round=>
       clear HBa HBn HBf HRa HTa hbl O8 MU SI;obtain⟨k,BB,hk,rfl,HBr,HBn,HBf,hbl,HR,HT⟩:=hrel;obtain⟨ba,bn,bc,rfl⟩:∃a n c,u7=.slice a n c:=by obtain⟨a,c,e⟩:=nT.slice HBr.out;exact⟨a,_,c,e⟩
       have MU:=HT.out.size
       by_cases hltk:k<l.length
       ·obtain⟨y,hy⟩:∃y,l[k]?=some y:=⟨_,List.getElem?_eq_getElem hltk⟩;obtain⟨b2,o2,s,kv,e2,hb2,hB2,c0,c1,c2,c3,hs2,hk2⟩:=yx (HU.out wr (HT2.out.trans HT.out)) hy;simp only[Value.slice.injEq] at e2;obtain⟨rfl,_,_⟩:=e2;obtain⟨xa,xc,rfl⟩:=Kind.slice hs2;have HKv:Hid ((o7 m).sl (fun k=>k≠w.heap.size+2) w1 kv y.kids):=by
         obtain⟨b3,o3,s3,kv3,e3,hb3,hB3,k0,k1,k2,k3,hs3,hk3⟩:=yx (HU.out w1 (Tn.refl _ _)) hy;simp only[Value.slice.injEq,Option.some.injEq,Addr.mk.injEq] at e3;obtain⟨⟨rfl,rfl,_⟩,_,_⟩:=e3;have:=(HT2.out.trans HT.out).cell (x:=⟨b2,o2+k*4+3,none⟩) hb3 hB3;rw[c3,k3] at this;rw[Option.some.inj this];exact hk3
        obtain⟨ya,yc,rfl⟩:=Kind.slice hk2;have htk:(l.take (k+1)).flatMap bf.kids=(l.take k).flatMap bf.kids++y.kids:=by rw[List.take_add_one,hy,List.flatMap_append];simp
        obtain⟨wb,hwb⟩:∃wb,wb=wr.alloc (.cells #[.string y.fact.1,.slice xa y.fact.2.length xc,.int .i64 y.rule,.slice ya y.kids.length yc] 30):=⟨_,rfl⟩;have hLb:Later wr wb:=by rw[hwb];exact(Later.refl wr).alloc _
        have hRx:wb.heap[wr.heap.size]?=some (.cells #[.string y.fact.1,.slice xa y.fact.2.length xc,.int .i64 y.rule,.slice ya y.kids.length yc] 30 (0,0)):=by rw[hwb];exact heap_alloc_new wr _
        have x3:wb.cell? ⟨wr.heap.size,3,none⟩=some (.slice ya y.kids.length yc):=by rw[cell_of_row _ _ _ _ _ _ hRx];rfl
        have hTb:=HT.out.trans (Tn.of_below hLb.below);have hRb:=(hLb.block (Array.getElem?_eq_some_iff.1 HR.out).1).trans HR.out;have hBb:=HBr.out.kept (w':=wb) fun k hk=>hLb.block (HBr.out.lo_le k hk).2;have SL:=hTb.size
        by_cases hke:y.kids=[]
        ·have hz:¬(0:Int)<(y.kids.length:Int):=by rw[hke];simp
         have HF2:Hid (BB.flatten=(LL.take j).flatten.flatMap bf.kids++(l.take (k+1)).flatMap bf.kids):=by show _=_;rw[htk,hke,List.append_nil];exact HBf.out
         have HBb:=hide hBb;have HRb:=hide hRb;have HTb:=hide hTb;have HWb:=hide hwb;clear hs2 hk2 hy htk hwb hRx hLb hTb hRb hBb hke HKv HBr HR HT HBf
         go_wp2_with (rw[←HWb.out])
         go_roundg (l.length- (k+1))
         case measure=>omega
         case rel=>exact⟨k+1,BB,by omega,by go_num,HBb,HBn,HF2,by omega,HRb,HTb⟩
        ·have hz:(0:Int)<(y.kids.length:Int):=by
          have:0<y.kids.length:=List.length_pos_iff.2 hke;omega
         obtain⟨v',w6,hrun,hO6,hg6,hd6⟩:=hBb.more Tryz.underlying170 i1 i2 i3 i4 SL HKv.out (by omega);have hT6:=(hTb.alloc (.cells #[.slice ya y.kids.length yc] 28)).grown hg6 fun k hk=>(hBb.lo_le k hk).1;have hR6:w6.heap[w.heap.size+2]?=some (.cells #[.int .i64 (cc:Int),.int .i64 d] 105 (0,0)):=by
          have hlt2:=(Array.getElem?_eq_some_iff.1 hRb).1;rw[hg6.block _ (by simp;omega) (fun e=>by have:=(hBb.lo_le _ e.symm).1;omega),Below.heap_alloc _ _ _ hlt2];exact hRb
         obtain⟨a6,n6,c6,rfl⟩:∃a n c,v'=.slice a n c:=by obtain⟨a,c,e⟩:=nT.slice hO6;exact⟨a,_,c,e⟩
         have HN6:Hid (∀q∈BB++[y.kids],q≠[]):=fun q hq=>by
          rcases List.mem_append.1 hq with h|h
          ·exact HBn.out q h
          ·simp at h;subst h;exact hke
         have HF6:Hid ((BB++[y.kids]).flatten=(LL.take j).flatten.flatMap bf.kids++(l.take (k+1)).flatMap bf.kids):=by
          show _=_;rw[List.flatten_append,htk,HBf.out];simp
         have HO6:=hide hO6;have HR6:=hide hR6;have HT6:=hide hT6;have HRn:=hide hrun;have hb6:(BB++[y.kids]).length≤(LL.take j).flatten.length+(k+1):=by rw[List.length_append];simp only[List.length_cons,List.length_nil];omega
         have HWb:=hide hwb;clear hs2 hk2 hy htk hwb hRx hLb hTb hRb hBb hke HKv HBr HR HT HBf HBn hrun hO6 hg6 hd6 hT6 hR6
         go_wp2_with (first|(rw[←HWb.out])|(at_builtin;refine wpList_append_run rfl (.tmp 46) (.tmp 49) 170 rfl _ _ _ _ rfl rfl HRn.out ?_))
         go_roundg (l.length- (k+1))
         case measure=>omega
         case rel=>exact⟨k+1,_,by omega,by go_num,HO6,HN6,HF6,hb6,HR6,HT6⟩
       ·have hke:l.take k=l:=List.take_of_length_le (by omega);have HF2:Hid (BB.flatten=(LL.take (j+1)).flatten.flatMap bf.kids):=by
         show _=_;rw[HFT.out,List.flatMap_append];have:=HBf.out;rw[hke] at this;exact this
        have hl2:BB.length≤(LL.take (j+1)).flatten.length:=by rw[HFT.out,List.length_append];omega
        have HC2:Hid (cc=c+(LL.take (j+1)).flatten.length):=by
         show _=_;rw[HFT.out,List.length_append,←Nat.add_assoc,HCC.out]
        clear hke HBf;go_wp2
        go_roundg (LL.length- (j+1))
        case measure=>omega
        case rel=>exact⟨j+1,BB,by omega,by go_num,HBr,HBn,HF2,hl2,cc,HC2,HR,HT⟩
     ·have he:LL.take j=LL:=List.take_of_length_le (by omega);have QE:Hid (BB.flatten=LL.flatten.flatMap bf.kids):=by have:=HBf.out;rw[he] at this;exact this
      have HC2:Hid (c1=c+LL.flatten.length):=by have:=HC1.out;rw[he] at this;exact this
      have hR:=HR.out;obtain⟨s0,s1,f0,f1,_⟩:=lH hR;obtain⟨d2,hd2⟩:∃d2,d2=d+1:=⟨_,rfl⟩;have hwd:IntKind.i64.wrap ((d:Int)+1)=(d2:Int):=by rw[IntKind.wrap_i64];omega
      obtain⟨wa,hwa⟩:∃wa,wa=wr.setCell ⟨w.heap.size+2,1,none⟩ (.int .i64 (d2:Int)):=⟨_,rfl⟩;have hTa:Tn (w.heap.size+2) wr wa:=by rw[hwa];exact Tn.setCell (p:=w.heap.size+2) (Tn.refl _ _) (x:=⟨w.heap.size+2,1,none⟩) (Or.inl rfl) _
      have HRa:Hid (wa.heap[w.heap.size+2]?=some (.cells #[.int .i64 (c1:Int),.int .i64 (d2:Int)] 105 (0,0))):=by show _=_;rw[hwa];rw[dY (j:=1) hR];rfl
      have HBa:=hide ((HBr.out.kept (w':=wa) fun k hk=>hTa.block k (HBr.out.lo_le k hk).2 (by have:=(HBr.out.lo_le k hk).1;omega)).base (lo':=w.heap.size+3) (by omega));have HTa:=hide (HT2.out.trans (HT.out.trans hTa));have HWa:=hide hwa;have HM2:Hid (M=fE en (m+1) BB.flatten (c1,d2)):=by show _=_;rw[QE.out,HC2.out,hd2];exact HMn.out
      have SN:c1+(BB.flatten.map (cnt m)).sum≤4000000:=by rw[QE.out,HC2.out];omega
      have SQ:d2+m≤n+1:=by omega
      clear he HBf hR HR HBr HT hTa hwa HMn O7 hd2 HC1 HC2;go_wp2;rw[←HWa.out]
      go_roundg m
      case measure=>omega
      case rel=>exact⟨BB,c1,d2,HBa,HBn,HM2,SN,SQ,HRa,HTa⟩
end Go.Proofs.YtafmbokfkbccaaaGreatDoor
