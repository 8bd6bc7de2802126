import Derived.Test.YtaallngooaaonaaGreatDoorJT3
set_option maxRecDepth 100000
namespace Go.Proofs.YtaallngooaaonaaGreatDoor
def eU (l:List Bs) (s:Bs):List Bs:=if l.contains s then l else l++[s]
def bY (l:List Bs) (ts:List dK):List Bs:=ts.foldl (fun l t=>if t.1 then eU l t.2 else l) l
def vars (a:aI):List Bs:=bY [] a.terms
def aZ (t:dK):Bool:=if t.1 then !isVar t.2 else !isNamed t.2
def aP (a:aI):Int:=if isNamed a.name=false then 7 else if 4<a.terms.length then 5 else if a.terms.any aZ then 7 else 0
def givenBy (l:List aI) (s:Bs):Bool:=l.any fun a=> !a.no&&(vars a).contains s
def bH:List aI→Int
 |[]=>0
 |a::l=>if aP a=0 then bH l else aP a
def aL (l:List aI):Int:=if 5<l.length then 5 else if bH l=0 then(if l.all (fun a=>(vars a).all (givenBy l)) then 0 else 9) else bH l
abbrev dU:=Bs→Option Nat
def dU.put (m:dU) (s:Bs) (n:Nat):dU:=fun t=>if t=s then some n else m t
def dh (m:dU) (a:aI):Bool×dU:=match m a.name with
 |none=>(true,m.put a.name a.terms.length)
 |some n=>(decide (n=a.terms.length),m)
def fitAll:dU→List aI→Bool×dU
 |m,[]=>(true,m)
 |m,a::l=>if(dh m a).1 then fitAll (dh m a).2 l else(false,(dh m a).2)
def aX (m:dU) (r:aG):Int×dU:=
 if aP r.head=0 then
  if r.head.no then(2,m) else
  if aL r.body=0 then
   if(vars r.head).all (givenBy r.body) then
    if(dh m r.head).1 then(if(fitAll (dh m r.head).2 r.body).1 then 0 else 8,(fitAll (dh m r.head).2 r.body).2) else(8,(dh m r.head).2)
   else(9,m)
  else(aL r.body,m)
 else(aP r.head,m)
def gY:dU→Nat→List aG→Int×Nat
 |_,_,[]=>(0,0)
 |m,i,r::l=>if(aX m r).1=0 then gY (aX m r).2 (i+1) l else((aX m r).1,i)
def dw (p:List aG):Int×Nat:=if 16<p.length then(5,0) else gY (fun _=>none) 0 p
def behind (m:dU) (a:aI):Nat:=match m a.name with
 |none=>0
 |some n=>if a.no then n+1 else n
def numOf (m:dU) (s:Bs):Nat:=(m s).getD 0
def bD (h:Bs) (x:dU×Bool) (a:aI):dU×Bool:=if numOf x.1 h<behind x.1 a then(x.1.put h (behind x.1 a),true) else x
def gW (x:dU×Bool) (r:aG):dU×Bool:=r.body.foldl (bD r.head.name) x
def liftAll (x:dU×Bool) (p:List aG):dU×Bool:=p.foldl gW x
def kg (m:dU) (p:List aG):dU:=p.foldl (fun m r=>m.put r.head.name 0) m
def start (p:List aG):dU:=kg (fun _=>none) p
def fu (p:List aG):Nat→dU→Option dU
 |0,_=>none
 |n+1,m=>if(liftAll (m,false) p).2 then fu p n (liftAll (m,false) p).1 else some (liftAll (m,false) p).1
def each (m:dU) (p:List aG):List Nat:=p.map fun r=>numOf m r.head.name
def aV (p:List aG):List Nat×Int×Nat:=
 if(dw p).1=0 then match fu p (p.length+1) (start p) with
  |some m=>(each m p,0,0)
  |none=>([],10,0)
 else([],dw p)
def fK (p:List aG) (s:Bs):Prop:=∃r∈p,r.head.name=s
def step (a:aI):Nat:=if a.no then 1 else 0
def Sol (p:List aG) (σ:Bs→Nat):Prop:=∀r∈p,∀a∈r.body,fK p a.name→σ a.name+step a≤σ r.head.name
def qx (p:List aG) (m:dU):Prop:=∀s,(m s).isSome↔fK p s
def lZ (p:List aG) (m:dU):Prop:=∀σ,Sol p σ→∀s,numOf m s≤σ s
theorem l7 {p:List aG} {m:dU} (hd:qx p m) (a:aI) (h:fK p a.name):behind m a=numOf m a.name+step a:=by unfold behind numOf step;have:=(hd a.name).2 h;obtain⟨n,hn⟩:=Option.isSome_iff_exists.1 this;rw[hn];cases a.no <;> simp
theorem nN {p:List aG} {m:dU} (hd:qx p m) (a:aI) (h:¬fK p a.name):behind m a=0:=by
 unfold behind;have:m a.name=none:=by
  cases e:m a.name with
  |none=>rfl
  |some n=>exact absurd ((hd a.name).1 (by rw[e];rfl)) h
 rw[this]
theorem gL (m:dU) (s t:Bs) (n:Nat):numOf (m.put s n) t=if t=s then n else numOf m t:=by
 unfold numOf dU.put
 by_cases h:t=s <;> simp[h]
theorem qx.put {p:List aG} {m:dU} (hd:qx p m) {s:Bs} (hs:fK p s) (n:Nat):qx p (m.put s n):=by
 intro t;unfold dU.put
 by_cases h:t=s
 ·subst h;simp[hs]
 rw[if_neg h];exact hd t
theorem oH {p:List aG} {r:aG} (hr:r∈p) {x:dU×Bool} (hd:qx p x.1) (hl:lZ p x.1) {a:aI} (ha:a∈r.body):
  qx p (bD r.head.name x a).1∧lZ p (bD r.head.name x a).1∧∀s,numOf x.1 s≤numOf (bD r.head.name x a).1 s:=by
 unfold bD;split
 ·rename_i hlt;refine⟨hd.put ⟨r,hr,rfl⟩ _,fun σ hσ s=>?_,fun s=>?_⟩
  ·show numOf (x.1.put _ _) s≤_;rw[gL];split
   ·rename_i h;subst h
    by_cases hh:fK p a.name
    ·rw[l7 hd a hh];have h1:=hσ r hr a ha hh;have h2:=hl σ hσ a.name;omega
    rw[nN hd a hh];omega
   exact hl σ hσ s
  show _≤numOf (x.1.put _ _) s;rw[gL];split;·rename_i h;subst h;omega
  exact Nat.le_refl _
 exact⟨hd,hl,fun _=>Nat.le_refl _⟩
theorem kS {p:List aG} {r:aG} (hr:r∈p) (l:List aI):∀{x:dU×Bool},qx p x.1→lZ p x.1→(∀a∈l,a∈r.body)→
  qx p (l.foldl (bD r.head.name) x).1∧lZ p (l.foldl (bD r.head.name) x).1∧∀s,numOf x.1 s≤numOf (l.foldl (bD r.head.name) x).1 s:=by
 induction l with
 |nil=>intro x hd hl _;exact⟨hd,hl,fun _=>Nat.le_refl _⟩
 |cons a l ih=>
  intro x hd hl ha;obtain⟨d1,l1,u1⟩:=oH hr hd hl (ha a (by simp));obtain⟨d2,l2,u2⟩:=ih d1 l1 (fun b hb=>ha b (by simp[hb]));exact⟨d2,l2,fun s=>Nat.le_trans (u1 s) (u2 s)⟩
theorem jW {p:List aG} (l:List aG):∀{x:dU×Bool},qx p x.1→lZ p x.1→(∀r∈l,r∈p)→
  qx p (liftAll x l).1∧lZ p (liftAll x l).1∧∀s,numOf x.1 s≤numOf (liftAll x l).1 s:=by
 induction l with
 |nil=>intro x hd hl _;exact⟨hd,hl,fun _=>Nat.le_refl _⟩
 |cons r l ih=>
  intro x hd hl hr;obtain⟨d1,l1,u1⟩:=kS (hr r (by simp)) r.body hd hl (fun a h=>h);obtain⟨d2,l2,u2⟩:=ih d1 l1 (fun b hb=>hr b (by simp[hb]));exact⟨d2,l2,fun s=>Nat.le_trans (u1 s) (u2 s)⟩
theorem yA (h:Bs) (x:dU×Bool) (a:aI) (hx:x.2=true):(bD h x a).2=true:=by unfold bD;split <;> simp[hx]
theorem oI (h:Bs) (l:List aI):∀x:dU×Bool,x.2=true→(l.foldl (bD h) x).2=true:=by
 induction l with
 |nil=>intro x hx;exact hx
 |cons a l ih=>intro x hx;exact ih _ (yA h x a hx)
theorem zR (l:List aG):∀x:dU×Bool,x.2=true→(liftAll x l).2=true:=by
 induction l with
 |nil=>intro x hx;exact hx
 |cons r l ih=>intro x hx;exact ih _ (oI _ _ x hx)
theorem yB (h:Bs) (l:List aI):∀m:dU,(l.foldl (bD h) (m,false)).2=false→l.foldl (bD h) (m,false)=(m,false)∧∀a∈l,behind m a≤numOf m h:=by
 induction l with
 |nil=>intro m _;exact⟨rfl,by simp⟩
 |cons a l ih=>
  intro m hm;rw[List.foldl_cons] at hm⊢
  by_cases hlt:numOf m h<behind m a
  ·have:(bD h (m,false) a).2=true:=by unfold bD;rw[if_pos hlt]
   rw[oI h l _ this] at hm;cases hm
  have e:bD h (m,false) a=(m,false):=by unfold bD;rw[if_neg hlt]
  rw[e] at hm⊢;obtain⟨h1,h2⟩:=ih m hm;refine⟨h1,fun b hb=>?_⟩;rcases List.mem_cons.1 hb with rfl|hb
  ·omega
  exact h2 b hb
theorem qX (l:List aG):∀m:dU,(liftAll (m,false) l).2=false→liftAll (m,false) l=(m,false)∧∀r∈l,∀a∈r.body,behind m a≤numOf m r.head.name:=by
 induction l with
 |nil=>intro m _;exact⟨rfl,by simp⟩
 |cons r l ih=>
  intro m hm;unfold liftAll at hm⊢;rw[List.foldl_cons] at hm⊢;have h0:(gW (m,false) r).2=false:=by
   cases hc:(gW (m,false) r).2 with
   |false=>rfl
   |true=>have:=zR l _ hc;unfold liftAll at this;rw[this] at hm;cases hm
  obtain⟨e,h1⟩:=yB _ _ m h0;have e':gW (m,false) r=(m,false):=e;rw[e'] at hm⊢;obtain⟨h2,h3⟩:=ih m hm;refine⟨h2,fun q hq=>?_⟩;rcases List.mem_cons.1 hq with rfl|hq;·exact h1
  exact h3 q hq
theorem yC (l:List aG) (m:dU) (h:∀r∈l,∀a∈r.body,behind m a≤numOf m r.head.name):∀b,liftAll (m,b) l=(m,b):=by
 induction l with
 |nil=>intro b;rfl
 |cons r l ih=>
  intro b;have hr:gW (m,b) r=(m,b):=by
   have:∀q:List aI,(∀a∈q,behind m a≤numOf m r.head.name)→q.foldl (bD r.head.name) (m,b)=(m,b):=by
    intro q
    induction q with
    |nil=>intro _;rfl
    |cons a q iq=>
     intro hq;rw[List.foldl_cons];have:bD r.head.name (m,b) a=(m,b):=by unfold bD;rw[if_neg (by have:=hq a (by simp);show¬numOf m _<behind m a;omega)]
     rw[this];exact iq fun c hc=>hq c (by simp[hc])
   exact this r.body (h r (by simp))
  show liftAll (gW (m,b) r) l=(m,b);rw[hr];exact ih (fun q hq=>h q (by simp[hq])) b
theorem BO (l:List aG):∀(m:dU) (s:Bs),(kg m l s).isSome↔((m s).isSome∨fK l s):=by
 induction l with
 |nil=>intro m s;simp[kg,fK]
 |cons r l ih=>
  intro m s;show(kg (m.put r.head.name 0) l s).isSome↔_;rw[ih];unfold dU.put fK
  by_cases h:s=r.head.name
  ·subst h;simp
  have h':¬r.head.name=s:=fun e=>h e.symm;simp[h,h']
theorem zS (l:List aG):∀(m:dU),(∀s,numOf m s=0)→∀s,numOf (kg m l) s=0:=by
 induction l with
 |nil=>intro m h;exact h
 |cons r l ih=>
  intro m h;exact ih _ fun s=>by rw[gL];split <;> simp[h]
theorem oJ (p:List aG):qx p (start p):=fun s=>by unfold start;rw[BO];simp
theorem qy (p:List aG) (s:Bs):numOf (start p) s=0:=zS p _ (fun _=>rfl) s
theorem nO (p:List aG):lZ p (start p):=fun σ _ s=>by rw[qy];exact Nat.zero_le _
theorem oK {p:List aG}:∀(n:Nat) (m m':dU),qx p m→lZ p m→fu p n m=some m'→qx p m'∧lZ p m'∧∀r∈p,∀a∈r.body,behind m' a≤numOf m' r.head.name:=by
 intro n
 induction n with
 |zero=>intro m m' _ _ h;cases h
 |succ n ih=>
  intro m m' hd hl h;unfold fu at h;split at h;·obtain⟨d1,l1,_⟩:=jW p hd hl (x:=(m,false)) (fun _ h=>h);exact ih _ _ d1 l1 h
  rename_i hf;obtain⟨e,h1⟩:=qX p m (by simpa using hf);rw[e] at h;cases h;exact⟨hd,hl,h1⟩
theorem Mt {p:List aG} {m:dU} (hd:qx p m) (h:∀r∈p,∀a∈r.body,behind m a≤numOf m r.head.name):Sol p (numOf m):=fun r hr a ha hh=>by rw[←l7 hd a hh];exact h r hr a ha
theorem kF {p:List aG} {l:List Nat} {k:Nat} (h:aV p=(l,0,k)):(dw p).1=0∧∃m,l=each m p∧qx p m∧lZ p m∧Sol p (numOf m):=by
 unfold aV at h;split at h
 ·rename_i h0;split at h;·rename_i m hm;obtain⟨d,le,s⟩:=oK _ _ _ (oJ p) (nO p) hm;simp at h;exact⟨h0,m,h.1.symm,d,le,Mt d s⟩
  simp at h
 rename_i h0;rw[Prod.mk.injEq] at h;exact absurd (congrArg Prod.fst h.2) h0
theorem PL {p:List aG} {m:dU} (hl:lZ p m) (hs:Sol p (numOf m)) (k:Nat) (hk:∀r∈p,numOf m r.head.name≠k):∀r∈p,numOf m r.head.name<k:=by
 intro r hr;have hσ:Sol p (fun s=>if numOf m s>k then numOf m s-1 else numOf m s):=by
  intro q hq a ha hh;have h1:=hs q hq a ha hh;have h2:=hk q hq;obtain⟨q',hq',e'⟩:=hh;have h3:=hk q' hq';rw[e'] at h3;have h4:step a≤1:=by unfold step;split <;> omega
  show(if numOf m a.name>k then _ else _)+_≤(if numOf m q.head.name>k then _ else _);split <;> split <;> omega
 have h1:numOf m r.head.name≤(if numOf m r.head.name>k then numOf m r.head.name-1 else numOf m r.head.name):=hl _ hσ r.head.name;have h2:=hk r hr;split at h1 <;> omega
theorem GR {p:List aG} {σ:Bs→Nat} (h:Sol p σ):∃τ,Sol p τ∧∀τ',Sol p τ'→(p.map fun r=>τ r.head.name).sum≤(p.map fun r=>τ' r.head.name).sum:=by
 have:∀n σ,Sol p σ→(p.map fun r=>σ r.head.name).sum=n→∃τ,Sol p τ∧∀τ',Sol p τ'→(p.map fun r=>τ r.head.name).sum≤(p.map fun r=>τ' r.head.name).sum:=by
  intro n
  induction n using Nat.strongRecOn with
  |ind n ih=>
   intro σ hσ hn
   by_cases hx:∃τ',Sol p τ'∧(p.map fun r=>τ' r.head.name).sum<n
   ·obtain⟨τ',h1,h2⟩:=hx;exact ih _ h2 τ' h1 rfl
   refine⟨σ,hσ,fun τ' h'=>?_⟩;rw[hn];exact Nat.le_of_not_lt fun hlt=>hx ⟨τ',h',hlt⟩
 exact this _ σ h rfl
theorem PN {p:List aG} {f g:aG→Nat} (h:∀r∈p,f r≤g r):(p.map f).sum≤(p.map g).sum:=by
 induction p with
 |nil=>simp
 |cons a p ih=>
  have:=ih fun r hr=>h r (by simp[hr]);have:=h a (by simp);simp;omega
theorem sum_lt {p:List aG} {f g:aG→Nat} (h:∀r∈p,f r≤g r) (hx:∃r∈p,f r<g r):(p.map f).sum<(p.map g).sum:=by
 induction p with
 |nil=>obtain⟨r,hr,_⟩:=hx;simp at hr
 |cons a p ih=>
  have h1:=PN fun r hr=>h r (List.mem_cons_of_mem a hr);have h2:=h a (by simp);obtain⟨r,hr,hlt⟩:=hx;rcases List.mem_cons.1 hr with rfl|hr
  ·simp;omega
  have:=ih (fun r hr=>h r (by simp[hr])) ⟨r,hr,hlt⟩;simp;omega
theorem zT {p:List aG} {τ:Bs→Nat} (hτ:Sol p τ) (hmin:∀τ',Sol p τ'→(p.map fun r=>τ r.head.name).sum≤(p.map fun r=>τ' r.head.name).sum) {m:dU} (hl:lZ p m)
  (hu:∃r∈p,numOf m r.head.name≠τ r.head.name):∃r∈p,∃a∈r.body,numOf m r.head.name≠τ r.head.name∧fK p a.name∧numOf m a.name=τ a.name∧τ a.name+step a=τ r.head.name:=by
 refine Classical.byContradiction fun hno=>?_;have hle:∀s,numOf m s≤τ s:=hl τ hτ;have hσ:Sol p (fun s=>if numOf m s=τ s then τ s else τ s-1):=by
  intro r hr a ha hh;have h1:=hτ r hr a ha hh;have h2:=hle r.head.name;have h3:=hle a.name;show(if numOf m a.name=τ a.name then _ else _)+_≤(if numOf m r.head.name=τ r.head.name then _ else _)
  by_cases e2:numOf m r.head.name=τ r.head.name
  ·rw[if_pos e2];split <;> omega
  rw[if_neg e2]
  by_cases e3:numOf m a.name=τ a.name
  ·rw[if_pos e3];have:¬τ a.name+step a=τ r.head.name:=fun e=>hno ⟨r,hr,a,ha,e2,hh,e3,e⟩;omega
  rw[if_neg e3];omega
 obtain⟨r,hr,hne⟩:=hu;have:=hmin _ hσ;have hlt:(p.map fun r=>(fun s=>if numOf m s=τ s then τ s else τ s-1) r.head.name).sum<(p.map fun r=>τ r.head.name).sum:=by
  refine sum_lt (fun q _=>?_) ⟨r,hr,?_⟩
  ·show(if _ then _ else _)≤_;split;·exact Nat.le_refl _
   exact Nat.sub_le _ _
  show(if _ then _ else _)<_;have:=hle r.head.name;rw[if_neg hne];omega
 exact absurd hlt (Nat.not_lt.2 this)
theorem vR {p:List aG} {r:aG} (hr:r∈p) (l:List aI):∀{x:dU×Bool},qx p x.1→lZ p x.1→(∀a∈l,a∈r.body)→∀a∈l,fK p a.name→numOf x.1 a.name+step a≤numOf (l.foldl (bD r.head.name) x).1 r.head.name:=by
 induction l with
 |nil=>intro x _ _ _ a ha;simp at ha
 |cons b l ih=>
  intro x hd hl hb a ha hh;obtain⟨d1,l1,u1⟩:=oH hr hd hl (hb b (by simp));obtain⟨d2,l2,u2⟩:=kS hr l d1 l1 (fun c hc=>hb c (by simp[hc]));rcases List.mem_cons.1 ha with rfl|ha
  ·refine Nat.le_trans ?_ (u2 r.head.name);rw[←l7 hd a hh];unfold bD;split;·show _≤numOf (x.1.put _ _) _;rw[gL,if_pos rfl];exact Nat.le_refl _
   omega
  have:=ih d1 l1 (fun c hc=>hb c (by simp[hc])) a ha hh;have h2:=u1 a.name;exact Nat.le_trans (Nat.add_le_add_right h2 _) this
theorem yD {p:List aG} (l:List aG):∀{x:dU×Bool},qx p x.1→lZ p x.1→(∀r∈l,r∈p)→∀r∈l,∀a∈r.body,fK p a.name→numOf x.1 a.name+step a≤numOf (liftAll x l).1 r.head.name:=by
 induction l with
 |nil=>intro x _ _ _ r hr;simp at hr
 |cons q l ih=>
  intro x hd hl hq r hr a ha hh;obtain⟨d1,l1,u1⟩:=kS (hq q (by simp)) q.body hd hl (fun c hc=>hc);obtain⟨d2,l2,u2⟩:=jW l d1 l1 (fun c hc=>hq c (by simp[hc]));rcases List.mem_cons.1 hr with rfl|hr
  ·exact Nat.le_trans (vR (hq r (by simp)) r.body hd hl (fun c hc=>hc) a ha hh) (u2 _)
  exact Nat.le_trans (Nat.add_le_add_right (u1 a.name) _) (ih d1 l1 (fun c hc=>hq c (by simp[hc])) r hr a ha hh)
def settled (p:List aG) (τ:Bs→Nat) (m:dU):Nat:=(p.map fun r=>if numOf m r.head.name=τ r.head.name then 1 else 0).sum
theorem EF (p:List aG) (τ:Bs→Nat) (m:dU):settled p τ m≤p.length:=by
 unfold settled
 induction p with
 |nil=>simp
 |cons r p ih=>simp only[List.map_cons,List.sum_cons,List.length_cons];split <;> omega
theorem yE {p:List aG} {τ:Bs→Nat} (hτ:Sol p τ) (hmin:∀τ',Sol p τ'→(p.map fun r=>τ r.head.name).sum≤(p.map fun r=>τ' r.head.name).sum) {m:dU} (hd:qx p m) (hl:lZ p m)
  (hu:∃r∈p,numOf m r.head.name≠τ r.head.name) (b:Bool):settled p τ m+1≤settled p τ (liftAll (m,b) p).1:=by
 obtain⟨r,hr,a,ha,h1,h2,h3,h4⟩:=zT hτ hmin hl hu;obtain⟨d1,l1,u1⟩:=jW p hd hl (x:=(m,b)) (fun _ h=>h);have h5:=yD p hd hl (x:=(m,b)) (fun _ h=>h) r hr a ha h2;unfold settled;refine Nat.succ_le_of_lt (sum_lt (fun q hq=>?_) ⟨r,hr,?_⟩)
 ·have e1:=u1 q.head.name;have e2:=l1 τ hτ q.head.name;have e3:numOf (m,b).1 q.head.name=numOf m q.head.name:=rfl;split;·rw[if_pos (by omega)];exact Nat.le_refl _
  split <;> omega
 have e2:=l1 τ hτ r.head.name;have e3:numOf (m,b).1 a.name=numOf m a.name:=rfl;rw[if_neg h1,if_pos (by omega)];omega
theorem yF {p:List aG} {τ:Bs→Nat} (hτ:Sol p τ) (hmin:∀τ',Sol p τ'→(p.map fun r=>τ r.head.name).sum≤(p.map fun r=>τ' r.head.name).sum):
  ∀(n:Nat) (m:dU),qx p m→lZ p m→p.length<n+settled p τ m→∃m',fu p n m=some m':=by
 intro n
 induction n with
 |zero=>intro m _ _ h;have:=EF p τ m;omega
 |succ n ih=>
  intro m hd hl hn;unfold fu
  by_cases hu:∃r∈p,numOf m r.head.name≠τ r.head.name
  ·have hg:=yE hτ hmin hd hl hu false;obtain⟨d1,l1,u1⟩:=jW p hd hl (x:=(m,false)) (fun _ h=>h);split;·exact ih _ d1 l1 (by omega)
   exact⟨_,rfl⟩
  have hall:∀r∈p,numOf m r.head.name=τ r.head.name:=fun r hr=>Classical.byContradiction fun h=>hu ⟨r,hr,h⟩;have hst:liftAll (m,false) p=(m,false):=by
   refine yC p m (fun r hr a ha=>?_) false
   by_cases hh:fK p a.name
   ·rw[l7 hd a hh,hall r hr];obtain⟨q,hq,e⟩:=hh;have h1:=hτ r hr a ha ⟨q,hq,e⟩;have h2:=hall q hq;rw[e] at h2;omega
   rw[nN hd a hh];exact Nat.zero_le _
  rw[hst];exact⟨_,rfl⟩
abbrev aD:=ByteArray×ByteArray
def dB:List aD→ByteArray→Option ByteArray
 |[],_=>none
 |b::l,v=>if b.1=v then some b.2 else dB l v
def bJ (l:List aD):List ByteArray:=l.map (·.1)
theorem fE (l m:List aD) (v:ByteArray):dB (l++m) v=match dB l v with|some s=>some s|none=>dB m v:=by
 induction l with
 |nil=>rfl
 |cons b l ih=>
  simp only[List.cons_append,dB];split;·rfl
  exact ih
theorem iy {l:List aD} {v:ByteArray}:dB l v=none↔v∉bJ l:=by
 induction l with
 |nil=>simp[dB,bJ]
 |cons b l ih=>
  simp only[dB,bJ,List.map_cons,List.mem_cons,not_or];split;·rename_i h;simp[h]
  rename_i h;rw[ih];exact⟨fun h'=>⟨fun e=>h e.symm,h'⟩,fun h'=>h'.2⟩
theorem mO {l:List aD} {v s:ByteArray} (h:dB l v=some s):(v,s)∈l:=by
 induction l with
 |nil=>cases h
 |cons b l ih=>
  simp only[dB] at h;split at h;·rename_i e;cases h;subst e;exact List.mem_cons_self
  exact List.mem_cons_of_mem _ (ih h)
theorem kT {l:List aD} (hn:(bJ l).Nodup) {v s:ByteArray} (h:(v,s)∈l):dB l v=some s:=by
 induction l with
 |nil=>cases h
 |cons b l ih=>
  have hn':b.1∉bJ l∧(bJ l).Nodup:=List.nodup_cons.1 hn;rcases List.mem_cons.1 h with e|h
  ·subst e;simp[dB]
  have:b.1≠v:=fun e=>hn'.1 (by rw[e];exact List.mem_map.2 ⟨_,h,rfl⟩);simp only[dB,if_neg this];exact ih hn'.2 h
theorem kU {l:List aD} {v:ByteArray} (h:v∈bJ l):∃s,dB l v=some s:=by
 cases e:dB l v with
 |none=>exact absurd h (iy.1 e)
 |some s=>exact⟨s,rfl⟩
theorem zU {l m:List aD} (h:l.Perm m) (hn:(bJ l).Nodup) (v:ByteArray):dB l v=dB m v:=by
 have hm:(bJ m).Nodup:=(h.map _).nodup_iff.1 hn;cases e:dB l v with
 |none=>exact(iy.2 fun hv=>iy.1 e ((h.map _).mem_iff.2 hv)).symm
 |some s=>exact(kT hm (h.mem_iff.1 (mO e))).symm
def bE (l:List aD) (t:dK):Option ByteArray:=if t.1 then dB l (bs t.2) else some (bs t.2)
def aU (l:List aD):List dK→Option (List ByteArray)
 |[]=>some []
 |t::ts=>match bE l t with
  |none=>none
  |some s=>match aU l ts with
   |none=>none
   |some r=>some (s::r)
abbrev aA:=ByteArray×List ByteArray
def bg (a:aI) (l:List aD):Option aA:=match aU l a.terms with
 |none=>none
 |some r=>some (bs a.name,r)
def dH (l:List aD):List dK→List ByteArray→Option (List aD)
 |[],_=>some l
 |_::_,[]=>none
 |t::ts,x::xs=>match bE l t with
  |none=>dH (l++[(bs t.2,x)]) ts xs
  |some s=>if s=x then dH l ts xs else none
def cZ (a:aI) (f:aA) (l:List aD):Option (List aD):=
 if bs a.name=f.1∧a.terms.length=f.2.length then dH l a.terms f.2 else none
def aQ (a:aI) (fs:List aA) (ls:List (List aD)):List (List aD):=ls.flatMap fun l=>fs.filterMap fun f=>cZ a f l
def dF (pick:Nat→List aA):Nat→List aI→List (List aD)→Option (List (List aD))
 |_,[],ls=>some ls
 |n,a::ats,ls=>if a.no then dF pick (n+1) ats ls
  else if 20000<(aQ a (pick n) ls).length then none
  else dF pick (n+1) ats (aQ a (pick n) ls)
def inB (l:List aA) (f:aA):Bool:=l.any fun x=>decide (x=f)
theorem dn {l:List aA} {f:aA}:inB l f=true↔f∈l:=by unfold inB;rw[List.any_eq_true];exact⟨fun⟨x,hx,e⟩=>by rw[decide_eq_true_eq] at e;rw[←e];exact hx,fun h=>⟨f,h,by simp⟩⟩
def barredB (pick:Nat→List aA):Nat→List aI→List aD→Bool
 |_,[],_=>false
 |n,a::ats,l=>(a.no&&(match bg a l with|some f=>inB (pick n) f|none=>false))||barredB pick (n+1) ats l
theorem jA {l m:List aD} {t:dK} {s:ByteArray} (h:bE l t=some s):bE (l++m) t=some s:=by
 unfold bE at*;split;·rename_i ht;rw[if_pos ht] at h;rw[fE,h]
 rename_i ht;rw[if_neg ht] at h;exact h
theorem l8 {l m:List aD}:∀{ts:List dK} {r:List ByteArray},aU l ts=some r→aU (l++m) ts=some r
 |[],r,h=>h
 |t::ts,r,h=>by
  simp only[aU] at h⊢;cases e:bE l t with
  |none=>rw[e] at h;cases h
  |some s=>
   rw[e] at h;rw[jA e];dsimp only at h⊢;cases e2:aU l ts with
   |none=>rw[e2] at h;cases h
   |some q=>
    rw[e2] at h;rw[l8 e2];exact h
theorem qY {l m:List aD} {a:aI} {f:aA} (h:bg a l=some f):bg a (l++m)=some f:=by
 unfold bg at*;cases e:aU l a.terms with
 |none=>rw[e] at h;cases h
 |some r=>rw[e] at h;rw[l8 e];exact h
theorem ng {l m:List aD}:∀{ts:List dK},(∀t∈ts,t.1=true→dB l (bs t.2)=dB m (bs t.2))→aU l ts=aU m ts
 |[],_=>rfl
 |t::ts,h=>by
  have e1:bE l t=bE m t:=by
   unfold bE;split;·rename_i ht;exact h t List.mem_cons_self ht
   rfl
  simp only[aU];rw[e1,ng (ts:=ts) fun t ht=>h t (List.mem_cons_of_mem _ ht)]
theorem kV {l m:List aD} {a:aI} (h:∀t∈a.terms,t.1=true→dB l (bs t.2)=dB m (bs t.2)):bg a l=bg a m:=by unfold bg;rw[ng h]
theorem qz {l m:List aD} (h:l.Perm m) (hn:(bJ l).Nodup) (a:aI):bg a l=bg a m:=kV fun _ _ _=>zU h hn _
theorem oL {l:List aD}:∀{ts:List dK},(∀t∈ts,t.1=true→bs t.2∈bJ l)→∃r,aU l ts=some r
 |[],_=>⟨[],rfl⟩
 |t::ts,h=>by
  obtain⟨r,hr⟩:=oL (ts:=ts) fun t ht=>h t (List.mem_cons_of_mem _ ht);have:∃s,bE l t=some s:=by
   unfold bE;split;·rename_i ht;exact kU (h t List.mem_cons_self ht)
   exact⟨_,rfl⟩
  obtain⟨s,hs⟩:=this;exact⟨s::r,by simp only[aU,hs,hr]⟩
theorem wJ {l:List aD} {a:aI} (h:∀t∈a.terms,t.1=true→bs t.2∈bJ l):∃f,bg a l=some f:=by obtain⟨r,hr⟩:=oL h;exact⟨(bs a.name,r),by unfold bg;rw[hr]⟩
theorem jX {l:List aD}:∀{ts:List dK} {r:List ByteArray},aU l ts=some r→r.length=ts.length
 |[],r,h=>by cases h;rfl
 |t::ts,r,h=>by
  simp only[aU] at h;cases e:bE l t with
  |none=>rw[e] at h;cases h
  |some s=>
   rw[e] at h;dsimp only at h;cases e2:aU l ts with
   |none=>rw[e2] at h;cases h
   |some q=>rw[e2] at h;cases h;simp[jX e2]
theorem EG (K:List Bs) (s:Bs):∃r,eU K s=K++r:=by
 unfold eU;split;·exact⟨[],by simp⟩
 exact⟨[s],rfl⟩
theorem iW (K:List Bs) (t:dK) (ts:List dK):bY K (t::ts)=bY (if t.1 then eU K t.2 else K) ts:=rfl
theorem kG:∀(ts:List dK) (K:List Bs),∃r,bY K ts=K++r
 |[],K=>⟨[],by simp[bY]⟩
 |t::ts,K=>by
  rw[iW];split;·obtain⟨r1,h1⟩:=EG K t.2;obtain⟨r2,h2⟩:=kG ts (eU K t.2);exact⟨r1++r2,by rw[h2,h1,List.append_assoc]⟩
  exact kG ts K
theorem zV {K:List Bs} (h:K.Nodup) (s:Bs):(eU K s).Nodup:=by
 unfold eU;split;·exact h
 rename_i hc;rw[List.nodup_append];refine⟨h,by simp,fun a ha b hb=>?_⟩;simp at hb;subst hb;intro e;subst e;simp at hc;exact hc ha
theorem l9:∀(ts:List dK) {K:List Bs},K.Nodup→(bY K ts).Nodup
 |[],_,h=>h
 |t::ts,K,h=>by
  rw[iW];split;·exact l9 ts (zV h _)
  exact l9 ts h
theorem EH {K:List Bs} {s v:Bs}:v∈eU K s↔v∈K∨v=s:=by
 unfold eU;split;·rename_i h;simp at h;exact⟨Or.inl,fun h'=>h'.elim id fun e=>by rw[e];exact h⟩
 simp
theorem iD:∀(ts:List dK) {K:List Bs} {v:Bs},v∈bY K ts↔v∈K∨∃t∈ts,t.1=true∧t.2=v
 |[],K,v=>by simp[bY]
 |t::ts,K,v=>by
  rw[iW,iD ts];cases ht:t.1;·simp[ht]
  simp only[if_true,EH,List.mem_cons,exists_eq_or_imp,ht,true_and]
  constructor
  ·rintro((h|h)|h);·exact Or.inl h
   ·exact Or.inr (Or.inl h.symm)
   exact Or.inr (Or.inr h)
  rintro(h|h|h);·exact Or.inl (Or.inl h)
  ·exact Or.inl (Or.inr h.symm)
  exact Or.inr h
theorem eZ {K:List Bs} {v:Bs}:bs v∈K.map bs↔v∈K:=by
 constructor
 ·intro h;obtain⟨x,hx,e⟩:=List.mem_map.1 h;rw[←mZ e];exact hx
 exact fun h=>List.mem_map.2 ⟨_,h,rfl⟩
theorem zW {K:List Bs} (h:K.Nodup):(K.map bs).Nodup:=by rw[List.Nodup,List.pairwise_map];exact h.imp fun hne e=>hne (mZ e)
theorem sQ:∀(ts:List dK) (xs:List ByteArray) (l m:List aD) (K:List Bs),ts.length=xs.length→bJ l=K.map bs→dH l ts xs=some m→
  (∃r,m=l++r)∧bJ m=(bY K ts).map bs∧aU m ts=some xs
 |[],[],l,m,K,_,hk,h=>by cases h;exact⟨⟨[],by simp⟩,hk,rfl⟩
 |[],_::_,_,_,_,hl,_,_=>by simp at hl
 |_::_,[],_,_,_,hl,_,_=>by simp at hl
 |t::ts,x::xs,l,m,K,hl,hk,h=>by
  have hl':ts.length=xs.length:=by simpa using hl
  simp only[dH] at h;cases e:bE l t with
  |none=>
   rw[e] at h;dsimp only at h;have ht:t.1=true:=by
    unfold bE at e;split at e;·assumption
    cases e
   have hg:dB l (bs t.2)=none:=by unfold bE at e;rwa [if_pos ht] at e
   have hnk:t.2∉K:=fun hm=>iy.1 hg (by rw[hk];exact eZ.2 hm);have ha:eU K t.2=K++[t.2]:=by unfold eU;rw[if_neg (by simpa using hnk)]
   obtain⟨⟨r,hr⟩,h2,h3⟩:=sQ ts xs (l++[(bs t.2,x)]) m (K++[t.2]) hl' (by simp[bJ] at hk⊢;exact hk) h;refine⟨⟨(bs t.2,x)::r,by rw[hr];simp⟩,by rw[iW,if_pos ht,ha];exact h2,?_⟩;simp only[aU];have hw:bE m t=some x:=by rw[hr];refine jA ?_;unfold bE;rw[if_pos ht,fE,hg];simp[dB]
   rw[hw,h3]
  |some s=>
   rw[e] at h;dsimp only at h;split at h
   ·rename_i hs;subst hs;have hK:(if t.1=true then eU K t.2 else K)=K:=by
     split
     ·rename_i ht;unfold bE at e;rw[if_pos ht] at e;unfold eU;rw[if_pos];have:bs t.2∈bJ l:=Classical.byContradiction fun hk=>by rw[iy.2 hk] at e;cases e
      rw[hk] at this;simpa using eZ.1 this
     rfl
    obtain⟨⟨r,hr⟩,h2,h3⟩:=sQ ts xs l m K hl' hk h;refine⟨⟨r,hr⟩,by rw[iW,hK];exact h2,?_⟩;simp only[aU];rw[show bE m t=some s by rw[hr];exact jA e,h3]
   cases h
theorem sS:∀(ts:List dK) (xs:List ByteArray) (l m r:List aD) (K:List Bs),bJ l=K.map bs→m=l++r→bJ m=(bY K ts).map bs→aU m ts=some xs→dH l ts xs=some m
 |[],xs,l,m,r,K,hk,hm,hv,_=>by
  have e:r=[]:=by
   have h1:(bJ m).length=(bJ l).length:=by rw[hv,hk];simp[bY]
   rw[hm] at h1;simp[bJ] at h1;exact h1
  rw[hm,e];simp[dH]
 |t::ts,xs,l,m,r,K,hk,hm,hv,hf=>by
  simp only[aU] at hf;cases e:bE m t with
  |none=>rw[e] at hf;cases hf
  |some s=>
   rw[e] at hf;dsimp only at hf;cases e2:aU m ts with
   |none=>rw[e2] at hf;cases hf
   |some q=>
    rw[e2] at hf;cases hf;rw[iW] at hv;simp only[dH];cases e3:bE l t with
    |some s'=>
     have:=jA (m:=r) e3;rw[←hm,e] at this;cases this;dsimp only;rw[if_pos rfl];have hK:(if t.1=true then eU K t.2 else K)=K:=by
      split
      ·rename_i ht;unfold bE at e3;rw[if_pos ht] at e3;unfold eU;rw[if_pos];have:bs t.2∈bJ l:=Classical.byContradiction fun hk=>by rw[iy.2 hk] at e3;cases e3
       rw[hk] at this;simpa using eZ.1 this
      rfl
     rw[hK] at hv;exact sS ts q l m r K hk hm hv e2
    |none=>
     dsimp only;have ht:t.1=true:=by
      unfold bE at e3;split at e3;·assumption
      cases e3
     have hg:dB l (bs t.2)=none:=by unfold bE at e3;rwa [if_pos ht] at e3
     have hnk:t.2∉K:=fun hm=>iy.1 hg (by rw[hk];exact eZ.2 hm);have ha:eU K t.2=K++[t.2]:=by unfold eU;rw[if_neg (by simpa using hnk)]
     rw[if_pos ht,ha] at hv;obtain⟨q',hq'⟩:=kG ts (K++[t.2]);have hkr:bJ r=bs t.2::q'.map bs:=by have h1:=hv;rw[hq',hm] at h1;simp only[bJ,List.map_append] at h1 hk⊢;rw[hk,List.append_assoc] at h1;simpa using List.append_cancel_left h1
     cases r with
     |nil=>simp[bJ] at hkr
     |cons b r'=>
      have hb:b.1=bs t.2:=by simp[bJ] at hkr;exact hkr.1
      have hbs:b.2=s:=by unfold bE at e;rw[if_pos ht,hm,fE,hg] at e;simp only[dB,hb,if_true] at e;exact Option.some.inj e
      have hbe:b=(bs t.2,s):=by rw[←hb,←hbs]
      subst hbe;exact sS ts q (l++[(bs t.2,s)]) m r' (K++[t.2]) (by simp[bJ] at hk⊢;exact hk) (by rw[hm];simp) hv e2
theorem jd {a:aI} {f:aA} {l m:List aD} {K:List Bs} (hk:bJ l=K.map bs) (h:cZ a f l=some m):(∃r,m=l++r)∧bJ m=(bY K a.terms).map bs∧bg a m=some f:=by
 unfold cZ at h;split at h;·rename_i hc;obtain⟨h1,h2,h3⟩:=sQ a.terms f.2 l m K hc.2 hk h;exact⟨h1,h2,by unfold bg;rw[h3,hc.1]⟩
 cases h
theorem Ky {a:aI} {f:aA} {l m r:List aD} {K:List Bs} (hk:bJ l=K.map bs) (hm:m=l++r) (hv:bJ m=(bY K a.terms).map bs) (hf:bg a m=some f):cZ a f l=some m:=by
 unfold bg at hf;cases e:aU m a.terms with
 |none=>rw[e] at hf;cases hf
 |some x=>
  rw[e] at hf;cases hf;unfold cZ;rw[if_pos ⟨rfl,(jX e).symm⟩];exact sS a.terms x l m r K hk hm hv e
section
variable {α:Type} {c:α→α→Int}
theorem Three.le_trans (h:Three c) {a b d:α} (h1:c a b≤0) (h2:c b d≤0):c a d≤0:=by
 by_cases e1:c a b=0
 ·rw[h.zero _ _ e1];exact h2
 by_cases e2:c b d=0
 ·rw[←h.zero _ _ e2];exact h1
 have:=h.trans a b d (by omega) (by omega);omega
theorem Three.anti (h:Three c) {a b:α} (h1:c a b≤0) (h2:c b a≤0):a=b:=h.zero a b (by have:=h.swap a b;omega)
theorem oM (h:Three c):∀{s t:List α},s.Pairwise (fun a b=>c a b<0)→t.Pairwise (fun a b=>c a b<0)→(∀x,x∈s↔x∈t)→s=t
 |[],[],_,_,_=>rfl
 |[],b::t,_,_,e=>absurd ((e b).2 List.mem_cons_self) (by simp)
 |a::s,[],_,_,e=>absurd ((e a).1 List.mem_cons_self) (by simp)
 |a::s,b::t,hs,ht,e=>by
  have hs':=List.pairwise_cons.1 hs;have ht':=List.pairwise_cons.1 ht;have hab:a=b:=by
   rcases List.mem_cons.1 ((e a).1 List.mem_cons_self) with h1|h1;·exact h1
   rcases List.mem_cons.1 ((e b).2 List.mem_cons_self) with h2|h2;·exact h2.symm
   have x1:=ht'.1 a h1;have x2:=hs'.1 b h2;have:=h.swap a b;omega
  subst hab;have irr:c a a=0:=h.refl a;rw[oM h hs'.2 ht'.2 fun x=>⟨fun hx=>?_,fun hx=>?_⟩]
  ·rcases List.mem_cons.1 ((e x).1 (List.mem_cons_of_mem _ hx)) with h1|h1;·subst h1;have:=hs'.1 x hx;omega
   exact h1
  rcases List.mem_cons.1 ((e x).2 (List.mem_cons_of_mem _ hx)) with h1|h1;·subst h1;have:=ht'.1 x hx;omega
  exact h1
theorem oN (h:Three c):∀{l m:List α},l.Perm m→l.Pairwise (fun a b=>c a b≤0)→m.Pairwise (fun a b=>c a b≤0)→l=m
 |[],m,hp,_,_=>hp.nil_eq
 |a::l,[],hp,_,_=>by simpa using hp.length_eq
 |a::l,b::m,hp,hl,hm=>by
  have hl':=List.pairwise_cons.1 hl;have hm':=List.pairwise_cons.1 hm;have hab:a=b:=by
   rcases List.mem_cons.1 (hp.mem_iff.1 List.mem_cons_self) with h1|h1;·exact h1
   rcases List.mem_cons.1 (hp.mem_iff.2 (List.mem_cons_self (a:=b) (l:=m))) with h2|h2;·exact h2.symm
   exact h.anti (hl'.1 b h2) (hm'.1 a h1)
  subst hab;rw[oN h (List.Perm.cons_inv hp) hl'.2 hm'.2]
def iU (c:α→α→Int) (l:List α):List α:=l.mergeSort fun a b=>decide (c a b≤0)
theorem bM (l:List α):(iU c l).Perm l:=List.mergeSort_perm _ _
theorem jB (h:Three c) (l:List α):(iU c l).Pairwise fun a b=>c a b≤0:=by
 have:=List.pairwise_mergeSort (le:=fun a b=>decide (c a b≤0)) (fun a b d h1 h2=>by
  simp only[decide_eq_true_eq] at*;exact h.le_trans h1 h2) (fun a b=>by
  simp only[Bool.or_eq_true,decide_eq_true_eq];have:=h.swap a b;omega) l
 exact this.imp fun h=>by simpa using h
theorem sU (h:Three c) {l m:List α} (hp:m.Perm l) (hs:m.Pairwise fun a b=>c a b≤0):m=iU c l:=
 oN h (hp.trans (bM l).symm) hs (jB h l)
theorem sV (h:Three c) {l:List α} (hs:l.Pairwise fun a b=>c a b≤0) (hn:l.Nodup):l.Pairwise fun a b=>c a b<0:=
 (hs.and hn).imp fun {a b} ⟨h1,h2⟩=>by
  rcases Int.lt_or_eq_of_le h1 with h3|h3;·exact h3
  exact absurd (h.zero _ _ h3) h2
theorem zX (h:Three c) {l:List α} (hs:l.Pairwise fun a b=>c a b<0):l.Nodup:=hs.imp fun {a b} h1 e=>by subst e;rw[h.refl] at h1;omega
def vM (c:α→α→Int):List α→List α→Int
 |[],[]=>0
 |[],_::_=> -1
 |_::_,[]=>1
 |a::x,b::y=>if c a b≠0 then c a b else vM c x y
theorem zY (h:Three c):∀x y,vM c y x= -vM c x y
 |[],[]=>rfl
 |[],_::_=>rfl
 |_::_,[]=>rfl
 |a::x,b::y=>by
  have:=h.swap a b;simp only[vM]
  by_cases e:c a b=0
  ·rw[if_neg (by omega),if_neg (by omega)];exact zY h x y
  rw[if_pos (by omega),if_pos e];omega
theorem zZ (h:Three c):∀x y,vM c x y=0→x=y
 |[],[],_=>rfl
 |[],_::_,e=>by simp[vM] at e
 |_::_,[],e=>by simp[vM] at e
 |a::x,b::y,e=>by
  simp only[vM] at e
  by_cases e':c a b=0
  ·rw[if_neg (by omega)] at e;rw[h.zero _ _ e',zZ h x y e]
  rw[if_pos e'] at e;exact absurd e e'
theorem wK (h:Three c):∀x y z,vM c x y<0→vM c y z<0→vM c x z<0
 |[],[],z,h1,_=>by simp[vM] at h1
 |[],_::_,[],_,h2=>by simp[vM] at h2
 |[],_::_,_::_,_,_=>by simp[vM]
 |_::_,[],_,h1,_=>by simp[vM] at h1
 |_::_,_::_,[],_,h2=>by simp[vM] at h2
 |a::x,b::y,d::z,h1,h2=>by
  simp only[vM] at h1 h2⊢
  by_cases e1:c a b=0
  ·rw[if_neg (by omega)] at h1;have:=h.zero _ _ e1;subst this
   by_cases e2:c a d=0
   ·rw[if_neg (by omega)] at h2⊢;exact wK h x y z h1 h2
   rw[if_pos e2] at h2⊢;exact h2
  rw[if_pos e1] at h1
  by_cases e2:c b d=0
  ·have:=h.zero _ _ e2;subst this;rw[if_pos e1];exact h1
  rw[if_pos e2] at h2;have:=h.trans a b d h1 h2;rw[if_pos (by omega)];exact this
theorem EI (h:Three c):Three (vM c):=⟨fun a b=>zY h a b,zZ h,wK h⟩
def lU (a b:aD):Int:=if jg a.1 b.1≠0 then jg a.1 b.1 else jg a.2 b.2
theorem eu:Three lU where
 swap a b:=by
  have h1:=cK.swap a.1 b.1;have h2:=cK.swap a.2 b.2;unfold lU
  by_cases e:jg a.1 b.1=0
  ·rw[if_neg (by omega),if_neg (by omega)];exact h2
  rw[if_pos (by omega),if_pos e];exact h1
 zero a b h:=by
  unfold lU at h
  by_cases e:jg a.1 b.1=0
  ·rw[if_neg (by omega)] at h;have:=cK.zero _ _ e;have:=cK.zero _ _ h;obtain⟨a1,a2⟩:=a;obtain⟨b1,b2⟩:=b
   simp_all
  rw[if_pos e] at h;exact absurd h e
 trans a b d h k:=by
  unfold lU at*
  by_cases e1:jg a.1 b.1=0
  ·rw[if_neg (by omega)] at h;rw[cK.zero _ _ e1]
   by_cases e2:jg b.1 d.1=0
   ·rw[if_neg (by omega)] at k⊢;exact cK.trans _ _ _ h k
   rw[if_pos e2] at k⊢;exact k
  rw[if_pos e1] at h
  by_cases e2:jg b.1 d.1=0
  ·rw[←cK.zero _ _ e2,if_pos e1];exact h
  rw[if_pos e2] at k;have:=cK.trans _ _ _ h k;rw[if_pos (by omega)];exact this
abbrev gM:List aD→List aD→Int:=vM lU
theorem bF:Three gM:=EI eu
abbrev gX (l:List aD):List aD:=iU lU l
def lF (pick:Nat→List aA) (body:List aI):Option (List (List aD)):=match dF pick 0 body [[]] with
 |none=>none
 |some ms=>some (iU gM ((ms.filter fun l=> !barredB pick 0 body l).map gX))
def fF (K:List Bs) (ats:List aI):List Bs:=ats.foldl (fun K a=>if a.no then K else bY K a.terms) K
theorem iE (K:List Bs) (a:aI) (ats:List aI):fF K (a::ats)=fF (if a.no then K else bY K a.terms) ats:=rfl
theorem nP:∀(ats:List aI) (K:List Bs),∃r,fF K ats=K++r
 |[],K=>⟨[],by simp[fF]⟩
 |a::ats,K=>by
  rw[iE];split;·exact nP ats K
  obtain⟨r1,h1⟩:=kG a.terms K;obtain⟨r2,h2⟩:=nP ats (bY K a.terms);exact⟨r1++r2,by rw[h2,h1,List.append_assoc]⟩
theorem kW:∀(ats:List aI) {K:List Bs},K.Nodup→(fF K ats).Nodup
 |[],_,h=>h
 |a::ats,K,h=>by
  rw[iE];split;·exact kW ats h
  exact kW ats (l9 _ h)
theorem gN:∀(ats:List aI) {K:List Bs} {v:Bs},v∈fF K ats↔v∈K∨∃a∈ats,a.no=false∧∃t∈a.terms,t.1=true∧t.2=v
 |[],K,v=>by simp[fF]
 |a::ats,K,v=>by
  rw[iE,gN ats];cases ha:a.no;·simp only[Bool.false_eq_true,if_false,iD,List.mem_cons,exists_eq_or_imp,ha,true_and,or_assoc]
  simp[ha]
theorem ji {a:aI} {fs:List aA} {ls:List (List aD)} {m:List aD}:m∈aQ a fs ls↔∃l∈ls,∃f∈fs,cZ a f l=some m:=by simp[aQ,List.mem_flatMap,List.mem_filterMap]
theorem GU {m:List aD} {K r:List Bs} (h:bJ m=(K++r).map bs):bJ (m.take K.length)=K.map bs:=by unfold bJ at*;rw[List.map_take,h,List.map_append,List.take_append_of_le_length (by simp),List.take_of_length_le (by simp)]
theorem nQ (pick:Nat→List aA):∀(ats:List aI) (n:Nat) (ls ms:List (List aD)) (K:List Bs),(∀l∈ls,bJ l=K.map bs)→dF pick n ats ls=some ms→
  ∀m,m∈ms↔(∃l∈ls,∃r,m=l++r)∧bJ m=(fF K ats).map bs∧∀i a,ats[i]?=some a→a.no=false→∃f∈pick (n+i),bg a m=some f
 |[],n,ls,ms,K,hK,h,m=>by
  cases h
  constructor
  ·intro hm;exact⟨⟨m,hm,[],by simp⟩,hK m hm,fun i a h=>by simp at h⟩
  rintro⟨⟨l,hl,r,e⟩,hk,_⟩;have h1:=hK l hl;have:r=[]:=by
   have h2:(bJ m).length=(bJ l).length:=by rw[hk,h1];simp[fF]
   rw[e] at h2;simp[bJ] at h2;exact h2
  rw[e,this];simpa using hl
 |a::ats,n,ls,ms,K,hK,h,m=>by
  simp only[dF] at h;rw[iE];have shift:(∀i b,(a::ats)[i]?=some b→b.no=false→∃f∈pick (n+i),bg b m=some f)↔((a.no=false→∃f∈pick n,bg a m=some f)∧∀i b,ats[i]?=some b→b.no=false→∃f∈pick (n+1+i),bg b m=some f):=by
   constructor
   ·intro H;refine⟨H 0 a rfl,fun i b hb=>?_⟩;have:=H (i+1) b (by simpa using hb)
    rwa [show n+(i+1)=n+1+i by omega] at this
   rintro⟨H0,H1⟩ i b hb;cases i with
   |zero=>simp at hb;subst hb;exact H0
   |succ i=>have:=H1 i b (by simpa using hb);rwa [show n+1+i=n+(i+1) by omega] at this
  rw[shift];cases ha:a.no
  ·rw[ha] at h;simp only[Bool.false_eq_true,if_false,true_imp_iff] at h⊢;split at h;·cases h
   have hK':∀l∈aQ a (pick n) ls,bJ l=(bY K a.terms).map bs:=fun l hl=>by obtain⟨l0,hl0,f,_,hm⟩:=ji.1 hl;exact(jd (hK l0 hl0) hm).2.1
   rw[nQ pick ats (n+1) _ ms _ hK' h m]
   constructor
   ·rintro⟨⟨l',hl',r,e⟩,hk,hr⟩;obtain⟨l,hl,f,hf,hm⟩:=ji.1 hl';obtain⟨⟨r0,e0⟩,_,jr⟩:=jd (hK l hl) hm;exact⟨⟨l,hl,r0++r,by rw[e,e0,List.append_assoc]⟩,hk,⟨f,hf,by rw[e];exact qY jr⟩,hr⟩
   rintro⟨⟨l,hl,r,e⟩,hk,⟨f,hf,jr⟩,hr⟩;obtain⟨q,hq⟩:=nP ats (bY K a.terms);rw[hq] at hk;have hk1:=GU hk;obtain⟨m1,hm1⟩:∃m1,m1=m.take (bY K a.terms).length:=⟨_,rfl⟩;rw[←hm1] at hk1;have hsplit:m=m1++m.drop (bY K a.terms).length:=by rw[hm1];exact(List.take_append_drop _ _).symm
   obtain⟨r0,hr0⟩:=kG a.terms K;have hll:l.length=K.length:=by have:=congrArg List.length (hK l hl);simpa[bJ] using this
   have hpre:m1=l++r.take (r0.length):=by rw[hm1,e,hr0,List.length_append,←hll,List.take_length_add_append]
   have hf1:bg a m1=some f:=by
    rw[←jr];refine kV fun t ht htv=>?_;have hmem:bs t.2∈bJ m1:=by rw[hk1];exact eZ.2 ((iD _).2 (Or.inr ⟨t,ht,htv,rfl⟩))
    obtain⟨s,hs⟩:=kU hmem;rw[hsplit,fE,hs]
   refine⟨⟨m1,ji.2 ⟨l,hl,f,hf,Ky (hK l hl) hpre hk1 hf1⟩,_,hsplit⟩,by rw[hq];exact hk,hr⟩
  rw[ha] at h;simp only[if_true,Bool.true_eq_false,false_imp_iff,true_and] at h⊢;exact nQ pick ats (n+1) ls ms K hK h m
theorem sW (pick:Nat→List aA) (hp:∀i,(pick i).Nodup):∀(ats:List aI) (n:Nat) (ls ms:List (List aD)) (K:List Bs),(∀l∈ls,bJ l=K.map bs)→ls.Nodup→dF pick n ats ls=some ms→ms.Nodup
 |[],_,_,_,_,_,hn,h=>by cases h;exact hn
 |a::ats,n,ls,ms,K,hK,hn,h=>by
  simp only[dF] at h;split at h;·exact sW pick hp ats (n+1) ls ms K hK hn h
  split at h;·cases h
  refine sW pick hp ats (n+1) _ ms (bY K a.terms) (fun l hl=>?_) ?_ h;·obtain⟨l0,hl0,f,_,hm⟩:=ji.1 hl;exact(jd (hK l0 hl0) hm).2.1
  unfold aQ;rw[List.Nodup,List.pairwise_flatMap];refine⟨fun l hl=>?_,?_⟩;·rw[List.pairwise_filterMap];refine(hp n).imp fun {f g} hfg x hx y hy e=>?_;subst e;have h1:=(jd (hK l hl) hx).2.2;rw[(jd (hK l hl) hy).2.2] at h1;exact hfg (Option.some.inj h1).symm
  refine(List.Pairwise.and_mem.1 hn).imp fun {l l'} h3 x hx y hy e=>?_;obtain⟨hl,hl',hne⟩:=h3;subst e;obtain⟨f,_,hx⟩:=List.mem_filterMap.1 hx;obtain⟨g,_,hy⟩:=List.mem_filterMap.1 hy;obtain⟨⟨r,e1⟩,_⟩:=jd (hK l hl) hx;obtain⟨⟨r',e2⟩,_⟩:=jd (hK l' hl') hy;have hlen:l.length=l'.length:=by have:=congrArg List.length ((hK l hl).trans (hK l' hl').symm);simpa[bJ] using this
  exact hne (List.append_inj (e1.symm.trans e2) hlen).1
def dX (fs:List aA) (at_:Int) (os:List aA):Nat→List aA:=fun n=>if(n:Int)=at_ then os else fs
end
theorem Dg {a:aI} {v:Bs}:v∈vars a↔∃t∈a.terms,t.1=true∧t.2=v:=by unfold vars;rw[iD];simp
def Covers (body:List aI):Prop:=∀a∈body,∀t∈a.terms,t.1=true→t.2∈fF [] body
theorem kH {body:List aI} (h:aL body=0):Covers body:=by
 unfold aL at h;split at h;·simp at h
 split at h
 ·split at h;·rename_i hall;intro a ha t ht htv;rw[List.all_eq_true] at hall;have h1:=hall a ha;rw[List.all_eq_true] at h1;have h2:=h1 t.2 (Dg.2 ⟨t,ht,htv,rfl⟩);unfold givenBy at h2;rw[List.any_eq_true] at h2;obtain⟨b,hb,h3⟩:=h2;simp only[Bool.and_eq_true,Bool.not_eq_true',List.contains_eq_mem,decide_eq_true_eq] at h3;refine(gN body).2 (Or.inr ⟨b,hb,h3.1,?_⟩);exact Dg.1 h3.2
  simp at h
 rename_i hne;exact absurd h hne
theorem nR (pick:Nat→List aA) (l:List aD):∀(ats:List aI) (n:Nat),barredB pick n ats l=true↔∃i a,ats[i]?=some a∧a.no=true∧∃f∈pick (n+i),bg a l=some f
 |[],n=>by simp[barredB]
 |a::ats,n=>by
  simp only[barredB,Bool.or_eq_true,Bool.and_eq_true];rw[nR pick l ats (n+1)]
  constructor
  ·rintro(⟨h1,h2⟩|⟨i,b,hb,h1,f,hf,h2⟩)
   ·cases e:bg a l with
    |none=>rw[e] at h2;cases h2
    |some f=>
     rw[e] at h2;exact⟨0,a,rfl,h1,f,dn.1 h2,e⟩
   exact⟨i+1,b,by simpa using hb,h1,f,by rwa [show n+(i+1)=n+1+i by omega],h2⟩
  rintro⟨i,b,hb,h1,f,hf,h2⟩;cases i with
  |zero=>
   simp at hb;subst hb;exact Or.inl ⟨h1,by rw[h2];exact dn.2 hf⟩
  |succ i=>exact Or.inr ⟨i,b,by simpa using hb,h1,f,by rwa [show n+1+i=n+(i+1) by omega],h2⟩
def SoB (pick:Nat→List aA) (body:List aI) (l:List aD):Prop:=∀i a,body[i]?=some a→∃f,bg a l=some f∧inB (pick i) f= !a.no
theorem SoB.perm {pick:Nat→List aA} {body:List aI} {l m:List aD} (h:SoB pick body l) (hp:l.Perm m) (hn:(bJ l).Nodup):SoB pick body m:=fun i a ha=>by obtain⟨f,h1,h2⟩:=h i a ha;exact⟨f,by rw[←qz hp hn];exact h1,h2⟩
theorem qZ {β:Type} {l:List β} {i:Nat} {a:β} (h:l[i]?=some a):a∈l:=by obtain⟨hi,rfl⟩:=List.getElem?_eq_some_iff.1 h;exact List.getElem_mem hi
theorem rY {pick:Nat→List aA} {body:List aI} (hc:Covers body) {ms:List (List aD)} (h:dF pick 0 body [[]]=some ms) (m:List aD):
  m∈ms.filter (fun l=> !barredB pick 0 body l)↔bJ m=(fF [] body).map bs∧SoB pick body m:=by
 rw[List.mem_filter,nQ pick body 0 [[]] ms [] (fun l hl=>by simp at hl;subst hl;rfl) h m];simp only[Bool.not_eq_true',Nat.zero_add]
 constructor
 ·rintro⟨⟨_,hk,hpos⟩,hb⟩;refine⟨hk,fun i a ha=>?_⟩;cases hno:a.no;·obtain⟨f,hf,h1⟩:=hpos i a ha hno;exact⟨f,h1,by rw[dn.2 hf];rfl⟩
  obtain⟨f,hf⟩:=wJ (l:=m) (a:=a) fun t ht htv=>by rw[hk];exact eZ.2 (hc a (qZ ha) t ht htv)
  refine⟨f,hf,?_⟩;cases e:inB (pick i) f;·rfl
  have:barredB pick 0 body m=true:=(nR pick m body 0).2 ⟨i,a,ha,hno,f,by rw[Nat.zero_add];exact dn.1 e,hf⟩;rw[hb] at this;cases this
 rintro⟨hk,hso⟩;refine⟨⟨⟨[],by simp,m,by simp⟩,hk,fun i a ha hno=>?_⟩,?_⟩;·obtain⟨f,h1,h2⟩:=hso i a ha;rw[hno] at h2;exact⟨f,dn.1 h2,h1⟩
 cases e:barredB pick 0 body m;·rfl
 obtain⟨i,a,ha,hno,f,hf,h1⟩:=(nR pick m body 0).1 e;obtain⟨g,h2,h3⟩:=hso i a ha;rw[h1] at h2;cases h2;rw[Nat.zero_add] at hf;rw[hno,dn.2 hf] at h3;cases h3
theorem keys_perm {l m:List aD} (h:l.Perm m):(bJ l).Perm (bJ m):=h.map _
theorem Dh:∀{l m:List aD},bJ l=bJ m→(bJ l).Nodup→(∀v,dB l v=dB m v)→l=m
 |[],[],_,_,_=>rfl
 |[],b::m,h,_,_=>by simp[bJ] at h
 |a::l,[],h,_,_=>by simp[bJ] at h
 |a::l,b::m,h,hn,hg=>by
  have hn':a.1∉bJ l∧(bJ l).Nodup:=List.nodup_cons.1 hn;have h1:a.1=b.1∧bJ l=bJ m:=by simpa[bJ] using h
  have h2:a.2=b.2:=by have:=hg a.1;simp only[dB,if_true] at this;rw[if_pos h1.1.symm] at this;exact Option.some.inj this
  have hab:a=b:=Prod.ext h1.1 h2;subst hab;rw[Dh h1.2 hn'.2 fun v=>?_]
  by_cases hv:a.1=v
  ·subst hv;rw[iy.2 hn'.1,iy.2 (by rw[←h1.2];exact hn'.1)]
  have:=hg v;simpa only[dB,if_neg hv] using this
theorem mg {m:List aD} (hn:(bJ m).Nodup):(gX m).Pairwise fun a b=>lU a b<0:=by refine sV eu (jB eu m) ?_;refine(bM m).nodup_iff.2 ?_;have:(m.map (·.1)).Nodup:=hn;rw[List.Nodup,List.pairwise_map] at this;exact this.imp fun h e=>h (by rw[e])
theorem GV {l m:List aD} (hk:bJ l=bJ m) (hn:(bJ l).Nodup) (h:gX l=gX m):l=m:=by refine Dh hk hn fun v=>zU ?_ hn v;have h1:=(bM (c:=lU) l).symm;have h2:=bM (c:=lU) m;rw[show iU lU l=iU lU m from h] at h1;exact h1.trans h2
def oO (pick:Nat→List aA) (body:List aI) (r:List aD):Prop:=
 r.Pairwise (fun a b=>lU a b<0)∧(bJ r).Nodup∧(∀v,v∈bJ r↔v∈(fF [] body).map bs)∧SoB pick body r
theorem iJ (body:List aI):((fF [] body).map bs).Nodup:=zW (kW body List.nodup_nil)
theorem qA {pick:Nat→List aA} {body:List aI} (hc:Covers body) {R:List (List aD)} (h:lF pick body=some R) (r:List aD):r∈R↔oO pick body r:=by
 unfold lF at h;cases e:dF pick 0 body [[]] with
 |none=>rw[e] at h;cases h
 |some ms=>
  rw[e] at h;cases h;rw[(bM _).mem_iff,List.mem_map]
  constructor
  ·rintro⟨m,hm,rfl⟩;obtain⟨hk,hso⟩:=(rY hc e m).1 hm;have hn:(bJ m).Nodup:=by rw[hk];exact iJ body
   have hp:=(bM (c:=lU) m);refine⟨mg hn,(keys_perm hp).nodup_iff.2 hn,fun v=>?_,hso.perm hp.symm hn⟩;rw[(keys_perm hp).mem_iff,hk]
  rintro⟨hr,hn,hv,hso⟩;obtain⟨m,hm⟩:∃m:List aD,m=(fF [] body).map fun k=>(bs k,(dB r (bs k)).getD ByteArray.empty):=⟨_,rfl⟩;have hk:bJ m=(fF [] body).map bs:=by rw[hm];unfold bJ;rw[List.map_map];rfl
  have hnm:(bJ m).Nodup:=by rw[hk];exact iJ body
  have hmem:∀x,x∈m↔x∈r:=fun x=>by
   constructor
   ·intro hx;rw[hm] at hx;obtain⟨k,hk,rfl⟩:=List.mem_map.1 hx;obtain⟨s,hs⟩:=kU ((hv (bs k)).2 (eZ.2 hk));rw[hs];exact mO hs
   intro hx;have h1:x.1∈(fF [] body).map bs:=(hv x.1).1 (List.mem_map.2 ⟨x,hx,rfl⟩);obtain⟨k,hk,e⟩:=List.mem_map.1 h1;rw[hm];refine List.mem_map.2 ⟨k,hk,?_⟩;have:=kT (v:=x.1) (s:=x.2) hn hx;rw[e,this]
   rfl
  have hsm:gX m=r:=oM eu (mg hnm) hr fun x=>by rw[(bM m).mem_iff];exact hmem x
  refine⟨m,(rY hc e m).2 ⟨hk,?_⟩,hsm⟩;have hp:r.Perm m:=by rw[←hsm];exact bM m
  exact hso.perm hp hn
theorem EJ {pick:Nat→List aA} {body:List aI} (hc:Covers body) (hp:∀i,(pick i).Nodup) {R:List (List aD)} (h:lF pick body=some R):R.Pairwise fun a b=>gM a b<0:=by
 unfold lF at h;cases e:dF pick 0 body [[]] with
 |none=>rw[e] at h;cases h
 |some ms=>
  rw[e] at h;cases h;refine sV bF (jB bF _) ((bM _).nodup_iff.2 ?_);have hms:ms.Nodup:=sW pick hp body 0 [[]] ms [] (fun l hl=>by simp at hl;subst hl;rfl) (by simp) e;rw[List.Nodup,List.pairwise_map];have h1:(ms.filter fun l=> !barredB pick 0 body l).Nodup:=hms.filter _;refine(List.Pairwise.and_mem.1 h1).imp fun {l m} ⟨hl,hm,hne⟩ e'=>hne ?_;have k1:=((rY hc e l).1 hl).1;have k2:=((rY hc e m).1 hm).1;exact GV (k1.trans k2.symm) (by rw[k1];exact iJ body) e'
theorem iK {fs:List aA} {body:List aI} {l:List aD}:SoB (fun _=>fs) body l↔∀a∈body,∃f,bg a l=some f∧inB fs f= !a.no:=by
 constructor
 ·intro h a ha;obtain⟨i,hi⟩:=List.getElem?_of_mem ha;exact h i a hi
 intro h i a ha;exact h a (qZ ha)
end Go.Proofs.YtaallngooaaonaaGreatDoor
