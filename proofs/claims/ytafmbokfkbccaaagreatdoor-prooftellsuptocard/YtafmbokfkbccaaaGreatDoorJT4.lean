import Derived.Test.YtafmbokfkbccaaaGreatDoorJT3
namespace Go.Proofs.YtafmbokfkbccaaaGreatDoor
def eY (l:List Bs) (s:Bs):List Bs:=if l.contains s then l else l++[s]
def cu (l:List Bs) (ts:List dN):List Bs:=ts.foldl (fun l t=>if t.1 then eY l t.2 else l) l
def vars (a:aI):List Bs:=cu [] a.terms
def bf (t:dN):Bool:=if t.1 then !isVar t.2 else !isNamed t.2
def aP (a:aI):Int:=if isNamed a.name=false then 7 else if 4<a.terms.length then 5 else if a.terms.any bf then 7 else 0
def givenBy (l:List aI) (s:Bs):Bool:=l.any fun a=> !a.no&&(vars a).contains s
def bI:List aI→Int
 |[]=>0
 |a::l=>if aP a=0 then bI l else aP a
def aM (l:List aI):Int:=if 5<l.length then 5 else if bI l=0 then(if l.all (fun a=>(vars a).all (givenBy l)) then 0 else 9) else bI l
abbrev dW:=Bs→Option Nat
def dW.put (m:dW) (s:Bs) (n:Nat):dW:=fun t=>if t=s then some n else m t
def dz (m:dW) (a:aI):Bool×dW:=match m a.name with
 |none=>(true,m.put a.name a.terms.length)
 |some n=>(decide (n=a.terms.length),m)
def fitAll:dW→List aI→Bool×dW
 |m,[]=>(true,m)
 |m,a::l=>if(dz m a).1 then fitAll (dz m a).2 l else(false,(dz m a).2)
def aY (m:dW) (r:aD):Int×dW:=
 if aP r.head=0 then
  if r.head.no then(2,m) else
  if aM r.body=0 then
   if(vars r.head).all (givenBy r.body) then
    if(dz m r.head).1 then(if(fitAll (dz m r.head).2 r.body).1 then 0 else 8,(fitAll (dz m r.head).2 r.body).2) else(8,(dz m r.head).2)
   else(9,m)
  else(aM r.body,m)
 else(aP r.head,m)
def iw:dW→Nat→List aD→Int×Nat
 |_,_,[]=>(0,0)
 |m,i,r::l=>if(aY m r).1=0 then iw (aY m r).2 (i+1) l else((aY m r).1,i)
def dD (p:List aD):Int×Nat:=if 16<p.length then(5,0) else iw (fun _=>none) 0 p
def behind (m:dW) (a:aI):Nat:=match m a.name with
 |none=>0
 |some n=>if a.no then n+1 else n
def numOf (m:dW) (s:Bs):Nat:=(m s).getD 0
def bE (h:Bs) (x:dW×Bool) (a:aI):dW×Bool:=if numOf x.1 h<behind x.1 a then(x.1.put h (behind x.1 a),true) else x
def gY (x:dW×Bool) (r:aD):dW×Bool:=r.body.foldl (bE r.head.name) x
def liftAll (x:dW×Bool) (p:List aD):dW×Bool:=p.foldl gY x
def kC (m:dW) (p:List aD):dW:=p.foldl (fun m r=>m.put r.head.name 0) m
def start (p:List aD):dW:=kC (fun _=>none) p
def fB (p:List aD):Nat→dW→Option dW
 |0,_=>none
 |n+1,m=>if(liftAll (m,false) p).2 then fB p n (liftAll (m,false) p).1 else some (liftAll (m,false) p).1
def each (m:dW) (p:List aD):List Nat:=p.map fun r=>numOf m r.head.name
def aW (p:List aD):List Nat×Int×Nat:=
 if(dD p).1=0 then match fB p (p.length+1) (start p) with
  |some m=>(each m p,0,0)
  |none=>([],10,0)
 else([],dD p)
def fO (p:List aD) (s:Bs):Prop:=∃r∈p,r.head.name=s
def step (a:aI):Nat:=if a.no then 1 else 0
def Sol (p:List aD) (σ:Bs→Nat):Prop:=∀r∈p,∀a∈r.body,fO p a.name→σ a.name+step a≤σ r.head.name
def qD (p:List aD) (m:dW):Prop:=∀s,(m s).isSome↔fO p s
def mo (p:List aD) (m:dW):Prop:=∀σ,Sol p σ→∀s,numOf m s≤σ s
theorem mq {p:List aD} {m:dW} (hd:qD p m) (a:aI) (h:fO p a.name):behind m a=numOf m a.name+step a:=by
 unfold behind numOf step;have:=(hd a.name).2 h;obtain⟨n,hn⟩:=Option.isSome_iff_exists.1 this;rw[hn];cases a.no <;> simp
theorem nT {p:List aD} {m:dW} (hd:qD p m) (a:aI) (h:¬fO p a.name):behind m a=0:=by
 unfold behind;have:m a.name=none:=by
  cases e:m a.name with
  |none=>rfl
  |some n=>exact absurd ((hd a.name).1 (by rw[e];rfl)) h
 rw[this]
theorem gN (m:dW) (s t:Bs) (n:Nat):numOf (m.put s n) t=if t=s then n else numOf m t:=by
 unfold numOf dW.put
 by_cases h:t=s <;> simp[h]
theorem qD.put {p:List aD} {m:dW} (hd:qD p m) {s:Bs} (hs:fO p s) (n:Nat):qD p (m.put s n):=by
 intro t;unfold dW.put
 by_cases h:t=s
 ·subst h;simp[hs]
 ·rw[if_neg h];exact hd t
theorem oN {p:List aD} {r:aD} (hr:r∈p) {x:dW×Bool} (hd:qD p x.1) (hl:mo p x.1) {a:aI} (ha:a∈r.body):
  qD p (bE r.head.name x a).1∧mo p (bE r.head.name x a).1∧∀s,numOf x.1 s≤numOf (bE r.head.name x a).1 s:=by
 unfold bE;split
 ·rename_i hlt;refine⟨hd.put ⟨r,hr,rfl⟩ _,fun σ hσ s=> ?_,fun s=> ?_⟩
  ·show numOf (x.1.put _ _) s≤_;rw[gN];split
   ·rename_i h;subst h
    by_cases hh:fO p a.name
    ·rw[mq hd a hh];have h1:=hσ r hr a ha hh;have h2:=hl σ hσ a.name;omega
    ·rw[nT hd a hh];omega
   ·exact hl σ hσ s
  ·show _≤numOf (x.1.put _ _) s;rw[gN];split
   ·rename_i h;subst h;omega
   ·exact Nat.le_refl _
 ·exact⟨hd,hl,fun _=>Nat.le_refl _⟩
theorem kX {p:List aD} {r:aD} (hr:r∈p) (l:List aI):∀{x:dW×Bool},qD p x.1→mo p x.1→(∀a∈l,a∈r.body)→
  qD p (l.foldl (bE r.head.name) x).1∧mo p (l.foldl (bE r.head.name) x).1∧∀s,numOf x.1 s≤numOf (l.foldl (bE r.head.name) x).1 s:=by
 induction l with
 |nil=>intro x hd hl _;exact⟨hd,hl,fun _=>Nat.le_refl _⟩
 |cons a l ih=>
  intro x hd hl ha;obtain⟨d1,l1,u1⟩:=oN hr hd hl (ha a (by simp));obtain⟨d2,l2,u2⟩:=ih d1 l1 (fun b hb=>ha b (by simp[hb]));exact⟨d2,l2,fun s=>Nat.le_trans (u1 s) (u2 s)⟩
theorem j3 {p:List aD} (l:List aD):∀{x:dW×Bool},qD p x.1→mo p x.1→(∀r∈l,r∈p)→
  qD p (liftAll x l).1∧mo p (liftAll x l).1∧∀s,numOf x.1 s≤numOf (liftAll x l).1 s:=by
 induction l with
 |nil=>intro x hd hl _;exact⟨hd,hl,fun _=>Nat.le_refl _⟩
 |cons r l ih=>
  intro x hd hl hr;obtain⟨d1,l1,u1⟩:=kX (hr r (by simp)) r.body hd hl (fun a h=>h);obtain⟨d2,l2,u2⟩:=ih d1 l1 (fun b hb=>hr b (by simp[hb]));exact⟨d2,l2,fun s=>Nat.le_trans (u1 s) (u2 s)⟩
theorem yH (h:Bs) (x:dW×Bool) (a:aI) (hx:x.2=true):(bE h x a).2=true:=by unfold bE;split <;> simp[hx]
theorem oO (h:Bs) (l:List aI):∀x:dW×Bool,x.2=true→(l.foldl (bE h) x).2=true:=by
 induction l with
 |nil=>intro x hx;exact hx
 |cons a l ih=>intro x hx;exact ih _ (yH h x a hx)
theorem zZ (l:List aD):∀x:dW×Bool,x.2=true→(liftAll x l).2=true:=by
 induction l with
 |nil=>intro x hx;exact hx
 |cons r l ih=>intro x hx;exact ih _ (oO _ _ x hx)
theorem yI (h:Bs) (l:List aI):∀m:dW,(l.foldl (bE h) (m,false)).2=false→l.foldl (bE h) (m,false)=(m,false)∧∀a∈l,behind m a≤numOf m h:=by
 induction l with
 |nil=>intro m _;exact⟨rfl,by simp⟩
 |cons a l ih=>
  intro m hm;rw[List.foldl_cons] at hm⊢
  by_cases hlt:numOf m h<behind m a
  ·have:(bE h (m,false) a).2=true:=by unfold bE;rw[if_pos hlt]
   rw[oO h l _ this] at hm;cases hm
  ·have e:bE h (m,false) a=(m,false):=by unfold bE;rw[if_neg hlt]
   rw[e] at hm⊢;obtain⟨h1,h2⟩:=ih m hm;refine⟨h1,fun b hb=> ?_⟩;rcases List.mem_cons.1 hb with rfl|hb
   ·omega
   ·exact h2 b hb
theorem rC (l:List aD):∀m:dW,(liftAll (m,false) l).2=false→liftAll (m,false) l=(m,false)∧∀r∈l,∀a∈r.body,behind m a≤numOf m r.head.name:=by
 induction l with
 |nil=>intro m _;exact⟨rfl,by simp⟩
 |cons r l ih=>
  intro m hm;unfold liftAll at hm⊢;rw[List.foldl_cons] at hm⊢;have h0:(gY (m,false) r).2=false:=by
   cases hc:(gY (m,false) r).2 with
   |false=>rfl
   |true=>have:=zZ l _ hc;unfold liftAll at this;rw[this] at hm;cases hm
  obtain⟨e,h1⟩:=yI _ _ m h0;have e':gY (m,false) r=(m,false):=e;rw[e'] at hm⊢;obtain⟨h2,h3⟩:=ih m hm;refine⟨h2,fun q hq=> ?_⟩;rcases List.mem_cons.1 hq with rfl|hq
  ·exact h1
  ·exact h3 q hq
theorem yJ (l:List aD) (m:dW) (h:∀r∈l,∀a∈r.body,behind m a≤numOf m r.head.name):∀b,liftAll (m,b) l=(m,b):=by
 induction l with
 |nil=>intro b;rfl
 |cons r l ih=>
  intro b;have hr:gY (m,b) r=(m,b):=by
   have:∀q:List aI,(∀a∈q,behind m a≤numOf m r.head.name)→q.foldl (bE r.head.name) (m,b)=(m,b):=by
    intro q
    induction q with
    |nil=>intro _;rfl
    |cons a q iq=>
     intro hq;rw[List.foldl_cons];have:bE r.head.name (m,b) a=(m,b):=by unfold bE;rw[if_neg (by have:=hq a (by simp);show¬numOf m _<behind m a;omega)]
     rw[this];exact iq fun c hc=>hq c (by simp[hc])
   exact this r.body (h r (by simp))
  show liftAll (gY (m,b) r) l=(m,b);rw[hr];exact ih (fun q hq=>h q (by simp[hq])) b
theorem Ce (l:List aD):∀(m:dW) (s:Bs),(kC m l s).isSome↔((m s).isSome∨fO l s):=by
 induction l with
 |nil=>intro m s;simp[kC,fO]
 |cons r l ih=>
  intro m s;show(kC (m.put r.head.name 0) l s).isSome↔_;rw[ih];unfold dW.put fO
  by_cases h:s=r.head.name
  ·subst h;simp
  ·have h':¬r.head.name=s:=fun e=>h e.symm;simp[h,h']
theorem z8 (l:List aD):∀(m:dW),(∀s,numOf m s=0)→∀s,numOf (kC m l) s=0:=by
 induction l with
 |nil=>intro m h;exact h
 |cons r l ih=>
  intro m h;exact ih _ fun s=>by rw[gN];split <;> simp[h]
theorem oP (p:List aD):qD p (start p):=fun s=>by unfold start;rw[Ce];simp
theorem qE (p:List aD) (s:Bs):numOf (start p) s=0:=z8 p _ (fun _=>rfl) s
theorem nU (p:List aD):mo p (start p):=fun σ _ s=>by rw[qE];exact Nat.zero_le _
theorem oQ {p:List aD}:∀(n:Nat) (m m':dW),qD p m→mo p m→fB p n m=some m'→qD p m'∧mo p m'∧∀r∈p,∀a∈r.body,behind m' a≤numOf m' r.head.name:=by
 intro n
 induction n with
 |zero=>intro m m' _ _ h;cases h
 |succ n ih=>
  intro m m' hd hl h;unfold fB at h;split at h
  ·obtain⟨d1,l1,_⟩:=j3 p hd hl (x:=(m,false)) (fun _ h=>h);exact ih _ _ d1 l1 h
  ·rename_i hf;obtain⟨e,h1⟩:=rC p m (by simpa using hf);rw[e] at h;cases h;exact⟨hd,hl,h1⟩
theorem MK {p:List aD} {m:dW} (hd:qD p m) (h:∀r∈p,∀a∈r.body,behind m a≤numOf m r.head.name):Sol p (numOf m):=fun r hr a ha hh=>by
 rw[←mq hd a hh];exact h r hr a ha
theorem kJ {p:List aD} {l:List Nat} {k:Nat} (h:aW p=(l,0,k)):(dD p).1=0∧∃m,l=each m p∧qD p m∧mo p m∧Sol p (numOf m):=by
 unfold aW at h;split at h
 ·rename_i h0;split at h
  ·rename_i m hm;obtain⟨d,le,s⟩:=oQ _ _ _ (oP p) (nU p) hm;simp at h;exact⟨h0,m,h.1.symm,d,le,MK d s⟩
  ·simp at h
 ·rename_i h0;rw[Prod.mk.injEq] at h;exact absurd (congrArg Prod.fst h.2) h0
theorem Qc {p:List aD} {m:dW} (hl:mo p m) (hs:Sol p (numOf m)) (k:Nat) (hk:∀r∈p,numOf m r.head.name≠k):∀r∈p,numOf m r.head.name<k:=by
 intro r hr;have hσ:Sol p (fun s=>if numOf m s>k then numOf m s-1 else numOf m s):=by
  intro q hq a ha hh;have h1:=hs q hq a ha hh;have h2:=hk q hq;obtain⟨q',hq',e'⟩:=hh;have h3:=hk q' hq';rw[e'] at h3;have h4:step a≤1:=by unfold step;split <;> omega
  show(if numOf m a.name>k then _ else _)+_≤(if numOf m q.head.name>k then _ else _);split <;> split <;> omega
 have h1:numOf m r.head.name≤(if numOf m r.head.name>k then numOf m r.head.name-1 else numOf m r.head.name):=hl _ hσ r.head.name;have h2:=hk r hr;split at h1 <;> omega
theorem Hg {p:List aD} {σ:Bs→Nat} (h:Sol p σ):∃τ,Sol p τ∧∀τ',Sol p τ'→(p.map fun r=>τ r.head.name).sum≤(p.map fun r=>τ' r.head.name).sum:=by
 have:∀n σ,Sol p σ→(p.map fun r=>σ r.head.name).sum=n→∃τ,Sol p τ∧∀τ',Sol p τ'→(p.map fun r=>τ r.head.name).sum≤(p.map fun r=>τ' r.head.name).sum:=by
  intro n
  induction n using Nat.strongRecOn with
  |ind n ih=>
   intro σ hσ hn
   by_cases hx:∃τ',Sol p τ'∧(p.map fun r=>τ' r.head.name).sum<n
   ·obtain⟨τ',h1,h2⟩:=hx;exact ih _ h2 τ' h1 rfl
   ·refine⟨σ,hσ,fun τ' h'=> ?_⟩;rw[hn];exact Nat.le_of_not_lt fun hlt=>hx ⟨τ',h',hlt⟩
 exact this _ σ h rfl
theorem Qd {p:List aD} {f g:aD→Nat} (h:∀r∈p,f r≤g r):(p.map f).sum≤(p.map g).sum:=by
 induction p with
 |nil=>simp
 |cons a p ih=>
  have:=ih fun r hr=>h r (by simp[hr]);have:=h a (by simp);simp;omega
theorem sum_lt {p:List aD} {f g:aD→Nat} (h:∀r∈p,f r≤g r) (hx:∃r∈p,f r<g r):(p.map f).sum<(p.map g).sum:=by
 induction p with
 |nil=>obtain⟨r,hr,_⟩:=hx;simp at hr
 |cons a p ih=>
  have h1:=Qd fun r hr=>h r (List.mem_cons_of_mem a hr);have h2:=h a (by simp);obtain⟨r,hr,hlt⟩:=hx;rcases List.mem_cons.1 hr with rfl|hr
  ·simp;omega
  ·have:=ih (fun r hr=>h r (by simp[hr])) ⟨r,hr,hlt⟩;simp;omega
theorem Aa {p:List aD} {τ:Bs→Nat} (hτ:Sol p τ) (hmin:∀τ',Sol p τ'→(p.map fun r=>τ r.head.name).sum≤(p.map fun r=>τ' r.head.name).sum) {m:dW} (hl:mo p m)
  (hu:∃r∈p,numOf m r.head.name≠τ r.head.name):∃r∈p,∃a∈r.body,numOf m r.head.name≠τ r.head.name∧fO p a.name∧numOf m a.name=τ a.name∧τ a.name+step a=τ r.head.name:=by
 refine Classical.byContradiction fun hno=> ?_;have hle:∀s,numOf m s≤τ s:=hl τ hτ;have hσ:Sol p (fun s=>if numOf m s=τ s then τ s else τ s-1):=by
  intro r hr a ha hh;have h1:=hτ r hr a ha hh;have h2:=hle r.head.name;have h3:=hle a.name;show(if numOf m a.name=τ a.name then _ else _)+_≤(if numOf m r.head.name=τ r.head.name then _ else _)
  by_cases e2:numOf m r.head.name=τ r.head.name
  ·rw[if_pos e2];split <;> omega
  ·rw[if_neg e2]
   by_cases e3:numOf m a.name=τ a.name
   ·rw[if_pos e3];have:¬τ a.name+step a=τ r.head.name:=fun e=>hno ⟨r,hr,a,ha,e2,hh,e3,e⟩;omega
   ·rw[if_neg e3];omega
 obtain⟨r,hr,hne⟩:=hu;have:=hmin _ hσ;have hlt:(p.map fun r=>(fun s=>if numOf m s=τ s then τ s else τ s-1) r.head.name).sum<(p.map fun r=>τ r.head.name).sum:=by
  refine sum_lt (fun q _=> ?_) ⟨r,hr,?_⟩
  ·show(if _ then _ else _)≤_;split
   ·exact Nat.le_refl _
   ·exact Nat.sub_le _ _
  ·show(if _ then _ else _)<_;have:=hle r.head.name;rw[if_neg hne];omega
 exact absurd hlt (Nat.not_lt.2 this)
theorem vX {p:List aD} {r:aD} (hr:r∈p) (l:List aI):∀{x:dW×Bool},qD p x.1→mo p x.1→(∀a∈l,a∈r.body)→∀a∈l,fO p a.name→numOf x.1 a.name+step a≤numOf (l.foldl (bE r.head.name) x).1 r.head.name:=by
 induction l with
 |nil=>intro x _ _ _ a ha;simp at ha
 |cons b l ih=>
  intro x hd hl hb a ha hh;obtain⟨d1,l1,u1⟩:=oN hr hd hl (hb b (by simp));obtain⟨d2,l2,u2⟩:=kX hr l d1 l1 (fun c hc=>hb c (by simp[hc]));rcases List.mem_cons.1 ha with rfl|ha
  ·refine Nat.le_trans ?_ (u2 r.head.name);rw[←mq hd a hh];unfold bE;split
   ·show _≤numOf (x.1.put _ _) _;rw[gN,if_pos rfl];exact Nat.le_refl _
   ·omega
  ·have:=ih d1 l1 (fun c hc=>hb c (by simp[hc])) a ha hh;have h2:=u1 a.name;exact Nat.le_trans (Nat.add_le_add_right h2 _) this
theorem yK {p:List aD} (l:List aD):∀{x:dW×Bool},qD p x.1→mo p x.1→(∀r∈l,r∈p)→∀r∈l,∀a∈r.body,fO p a.name→numOf x.1 a.name+step a≤numOf (liftAll x l).1 r.head.name:=by
 induction l with
 |nil=>intro x _ _ _ r hr;simp at hr
 |cons q l ih=>
  intro x hd hl hq r hr a ha hh;obtain⟨d1,l1,u1⟩:=kX (hq q (by simp)) q.body hd hl (fun c hc=>hc);obtain⟨d2,l2,u2⟩:=j3 l d1 l1 (fun c hc=>hq c (by simp[hc]));rcases List.mem_cons.1 hr with rfl|hr
  ·exact Nat.le_trans (vX (hq r (by simp)) r.body hd hl (fun c hc=>hc) a ha hh) (u2 _)
  ·exact Nat.le_trans (Nat.add_le_add_right (u1 a.name) _) (ih d1 l1 (fun c hc=>hq c (by simp[hc])) r hr a ha hh)
def settled (p:List aD) (τ:Bs→Nat) (m:dW):Nat:=(p.map fun r=>if numOf m r.head.name=τ r.head.name then 1 else 0).sum
theorem ET (p:List aD) (τ:Bs→Nat) (m:dW):settled p τ m≤p.length:=by
 unfold settled
 induction p with
 |nil=>simp
 |cons r p ih=>simp only[List.map_cons,List.sum_cons,List.length_cons];split <;> omega
theorem yL {p:List aD} {τ:Bs→Nat} (hτ:Sol p τ) (hmin:∀τ',Sol p τ'→(p.map fun r=>τ r.head.name).sum≤(p.map fun r=>τ' r.head.name).sum) {m:dW} (hd:qD p m) (hl:mo p m)
  (hu:∃r∈p,numOf m r.head.name≠τ r.head.name) (b:Bool):settled p τ m+1≤settled p τ (liftAll (m,b) p).1:=by
 obtain⟨r,hr,a,ha,h1,h2,h3,h4⟩:=Aa hτ hmin hl hu;obtain⟨d1,l1,u1⟩:=j3 p hd hl (x:=(m,b)) (fun _ h=>h);have h5:=yK p hd hl (x:=(m,b)) (fun _ h=>h) r hr a ha h2;unfold settled;refine Nat.succ_le_of_lt (sum_lt (fun q hq=> ?_) ⟨r,hr,?_⟩)
 ·have e1:=u1 q.head.name;have e2:=l1 τ hτ q.head.name;have e3:numOf (m,b).1 q.head.name=numOf m q.head.name:=rfl;split
  ·rw[if_pos (by omega)];exact Nat.le_refl _
  ·split <;> omega
 ·have e2:=l1 τ hτ r.head.name;have e3:numOf (m,b).1 a.name=numOf m a.name:=rfl;rw[if_neg h1,if_pos (by omega)];omega
theorem yM {p:List aD} {τ:Bs→Nat} (hτ:Sol p τ) (hmin:∀τ',Sol p τ'→(p.map fun r=>τ r.head.name).sum≤(p.map fun r=>τ' r.head.name).sum):
  ∀(n:Nat) (m:dW),qD p m→mo p m→p.length<n+settled p τ m→∃m',fB p n m=some m':=by
 intro n
 induction n with
 |zero=>intro m _ _ h;have:=ET p τ m;omega
 |succ n ih=>
  intro m hd hl hn;unfold fB
  by_cases hu:∃r∈p,numOf m r.head.name≠τ r.head.name
  ·have hg:=yL hτ hmin hd hl hu false;obtain⟨d1,l1,u1⟩:=j3 p hd hl (x:=(m,false)) (fun _ h=>h);split
   ·exact ih _ d1 l1 (by omega)
   ·exact⟨_,rfl⟩
  ·have hall:∀r∈p,numOf m r.head.name=τ r.head.name:=fun r hr=>Classical.byContradiction fun h=>hu ⟨r,hr,h⟩;have hst:liftAll (m,false) p=(m,false):=by
    refine yJ p m (fun r hr a ha=> ?_) false
    by_cases hh:fO p a.name
    ·rw[mq hd a hh,hall r hr];obtain⟨q,hq,e⟩:=hh;have h1:=hτ r hr a ha ⟨q,hq,e⟩;have h2:=hall q hq;rw[e] at h2;omega
    ·rw[nT hd a hh];exact Nat.zero_le _
   rw[hst];exact⟨_,rfl⟩
end Go.Proofs.YtafmbokfkbccaaaGreatDoor
namespace Go.Proofs.YtafmbokfkbccaaaGreatDoor
abbrev aB:=ByteArray×ByteArray
def dG:List aB→ByteArray→Option ByteArray
 |[],_=>none
 |b::l,v=>if b.1=v then some b.2 else dG l v
def bK (l:List aB):List ByteArray:=l.map (·.1)
theorem fG (l m:List aB) (v:ByteArray):dG (l++m) v=match dG l v with|some s=>some s|none=>dG m v:=by
 induction l with
 |nil=>rfl
 |cons b l ih=>
  simp only[List.cons_append,dG];split
  ·rfl
  ·exact ih
theorem iD {l:List aB} {v:ByteArray}:dG l v=none↔v∉bK l:=by
 induction l with
 |nil=>simp[dG,bK]
 |cons b l ih=>
  simp only[dG,bK,List.map_cons,List.mem_cons,not_or];split
  ·rename_i h;simp[h]
  ·rename_i h;rw[ih];exact⟨fun h'=>⟨fun e=>h e.symm,h'⟩,fun h'=>h'.2⟩
theorem mW {l:List aB} {v s:ByteArray} (h:dG l v=some s):(v,s)∈l:=by
 induction l with
 |nil=>cases h
 |cons b l ih=>
  simp only[dG] at h;split at h
  ·rename_i e;cases h;subst e;exact List.mem_cons_self
  ·exact List.mem_cons_of_mem _ (ih h)
theorem kY {l:List aB} (hn:(bK l).Nodup) {v s:ByteArray} (h:(v,s)∈l):dG l v=some s:=by
 induction l with
 |nil=>cases h
 |cons b l ih=>
  have hn':b.1∉bK l∧(bK l).Nodup:=List.nodup_cons.1 hn;rcases List.mem_cons.1 h with e|h
  ·subst e;simp[dG]
  ·have:b.1≠v:=fun e=>hn'.1 (by rw[e];exact List.mem_map.2 ⟨_,h,rfl⟩);simp only[dG,if_neg this];exact ih hn'.2 h
theorem kZ {l:List aB} {v:ByteArray} (h:v∈bK l):∃s,dG l v=some s:=by
 cases e:dG l v with
 |none=>exact absurd h (iD.1 e)
 |some s=>exact⟨s,rfl⟩
theorem Ab {l m:List aB} (h:l.Perm m) (hn:(bK l).Nodup) (v:ByteArray):dG l v=dG m v:=by
 have hm:(bK m).Nodup:=(h.map _).nodup_iff.1 hn;cases e:dG l v with
 |none=>exact(iD.2 fun hv=>iD.1 e ((h.map _).mem_iff.2 hv)).symm
 |some s=>exact(kY hm (h.mem_iff.1 (mW e))).symm
def bF (l:List aB) (t:dN):Option ByteArray:=if t.1 then dG l (bs t.2) else some (bs t.2)
def aU (l:List aB):List dN→Option (List ByteArray)
 |[]=>some []
 |t::ts=>match bF l t with
  |none=>none
  |some s=>match aU l ts with
   |none=>none
   |some r=>some (s::r)
abbrev au:=ByteArray×List ByteArray
def bA (a:aI) (l:List aB):Option au:=match aU l a.terms with
 |none=>none
 |some r=>some (bs a.name,r)
def dK (l:List aB):List dN→List ByteArray→Option (List aB)
 |[],_=>some l
 |_::_,[]=>none
 |t::ts,x::xs=>match bF l t with
  |none=>dK (l++[(bs t.2,x)]) ts xs
  |some s=>if s=x then dK l ts xs else none
def dw (a:aI) (f:au) (l:List aB):Option (List aB):=
 if bs a.name=f.1∧a.terms.length=f.2.length then dK l a.terms f.2 else none
def aQ (a:aI) (fs:List au) (ls:List (List aB)):List (List aB):=ls.flatMap fun l=>fs.filterMap fun f=>dw a f l
def dI (pick:Nat→List au):Nat→List aI→List (List aB)→Option (List (List aB))
 |_,[],ls=>some ls
 |n,a::ats,ls=>if a.no then dI pick (n+1) ats ls
  else if 20000<(aQ a (pick n) ls).length then none
  else dI pick (n+1) ats (aQ a (pick n) ls)
def inB (l:List au) (f:au):Bool:=l.any fun x=>decide (x=f)
theorem dB {l:List au} {f:au}:inB l f=true↔f∈l:=by
 unfold inB;rw[List.any_eq_true];exact⟨fun⟨x,hx,e⟩=>by rw[decide_eq_true_eq] at e;rw[←e];exact hx,fun h=>⟨f,h,by simp⟩⟩
def barredB (pick:Nat→List au):Nat→List aI→List aB→Bool
 |_,[],_=>false
 |n,a::ats,l=>(a.no&&(match bA a l with|some f=>inB (pick n) f|none=>false))||barredB pick (n+1) ats l
theorem jG {l m:List aB} {t:dN} {s:ByteArray} (h:bF l t=some s):bF (l++m) t=some s:=by
 unfold bF at*;split
 ·rename_i ht;rw[if_pos ht] at h;rw[fG,h]
 ·rename_i ht;rw[if_neg ht] at h;exact h
theorem mD {l m:List aB}:∀{ts:List dN} {r:List ByteArray},aU l ts=some r→aU (l++m) ts=some r
 |[],r,h=>h
 |t::ts,r,h=>by
  simp only[aU] at h⊢;cases e:bF l t with
  |none=>rw[e] at h;cases h
  |some s=>
   rw[e] at h;rw[jG e];dsimp only at h⊢;cases e2:aU l ts with
   |none=>rw[e2] at h;cases h
   |some q=>
    rw[e2] at h;rw[mD e2];exact h
theorem rD {l m:List aB} {a:aI} {f:au} (h:bA a l=some f):bA a (l++m)=some f:=by
 unfold bA at*;cases e:aU l a.terms with
 |none=>rw[e] at h;cases h
 |some r=>rw[e] at h;rw[mD e];exact h
theorem nE {l m:List aB}:∀{ts:List dN},(∀t∈ts,t.1=true→dG l (bs t.2)=dG m (bs t.2))→aU l ts=aU m ts
 |[],_=>rfl
 |t::ts,h=>by
  have e1:bF l t=bF m t:=by
   unfold bF;split
   ·rename_i ht;exact h t List.mem_cons_self ht
   ·rfl
  simp only[aU];rw[e1,nE (ts:=ts) fun t ht=>h t (List.mem_cons_of_mem _ ht)]
theorem lg {l m:List aB} {a:aI} (h:∀t∈a.terms,t.1=true→dG l (bs t.2)=dG m (bs t.2)):bA a l=bA a m:=by
 unfold bA;rw[nE h]
theorem qF {l m:List aB} (h:l.Perm m) (hn:(bK l).Nodup) (a:aI):bA a l=bA a m:=lg fun _ _ _=>Ab h hn _
theorem oU {l:List aB}:∀{ts:List dN},(∀t∈ts,t.1=true→bs t.2∈bK l)→∃r,aU l ts=some r
 |[],_=>⟨[],rfl⟩
 |t::ts,h=>by
  obtain⟨r,hr⟩:=oU (ts:=ts) fun t ht=>h t (List.mem_cons_of_mem _ ht);have:∃s,bF l t=some s:=by
   unfold bF;split
   ·rename_i ht;exact kZ (h t List.mem_cons_self ht)
   ·exact⟨_,rfl⟩
  obtain⟨s,hs⟩:=this;exact⟨s::r,by simp only[aU,hs,hr]⟩
theorem wU {l:List aB} {a:aI} (h:∀t∈a.terms,t.1=true→bs t.2∈bK l):∃f,bA a l=some f:=by
 obtain⟨r,hr⟩:=oU h;exact⟨(bs a.name,r),by unfold bA;rw[hr]⟩
theorem j4 {l:List aB}:∀{ts:List dN} {r:List ByteArray},aU l ts=some r→r.length=ts.length
 |[],r,h=>by cases h;rfl
 |t::ts,r,h=>by
  simp only[aU] at h;cases e:bF l t with
  |none=>rw[e] at h;cases h
  |some s=>
   rw[e] at h;dsimp only at h;cases e2:aU l ts with
   |none=>rw[e2] at h;cases h
   |some q=>rw[e2] at h;cases h;simp[j4 e2]
theorem EU (K:List Bs) (s:Bs):∃r,eY K s=K++r:=by
 unfold eY;split
 ·exact⟨[],by simp⟩
 ·exact⟨[s],rfl⟩
theorem jc (K:List Bs) (t:dN) (ts:List dN):cu K (t::ts)=cu (if t.1 then eY K t.2 else K) ts:=rfl
theorem kK:∀(ts:List dN) (K:List Bs),∃r,cu K ts=K++r
 |[],K=>⟨[],by simp[cu]⟩
 |t::ts,K=>by
  rw[jc];split
  ·obtain⟨r1,h1⟩:=EU K t.2;obtain⟨r2,h2⟩:=kK ts (eY K t.2);exact⟨r1++r2,by rw[h2,h1,List.append_assoc]⟩
  ·exact kK ts K
theorem Ac {K:List Bs} (h:K.Nodup) (s:Bs):(eY K s).Nodup:=by
 unfold eY;split
 ·exact h
 ·rename_i hc;rw[List.nodup_append];refine⟨h,by simp,fun a ha b hb=> ?_⟩;simp at hb;subst hb;intro e;subst e;simp at hc;exact hc ha
theorem mE:∀(ts:List dN) {K:List Bs},K.Nodup→(cu K ts).Nodup
 |[],_,h=>h
 |t::ts,K,h=>by
  rw[jc];split
  ·exact mE ts (Ac h _)
  ·exact mE ts h
theorem EW {K:List Bs} {s v:Bs}:v∈eY K s↔v∈K∨v=s:=by
 unfold eY;split
 ·rename_i h;simp at h;exact⟨Or.inl,fun h'=>h'.elim id fun e=>by rw[e];exact h⟩
 ·simp
theorem iG:∀(ts:List dN) {K:List Bs} {v:Bs},v∈cu K ts↔v∈K∨∃t∈ts,t.1=true∧t.2=v
 |[],K,v=>by simp[cu]
 |t::ts,K,v=>by
  rw[jc,iG ts];cases ht:t.1
  ·simp[ht]
  ·simp only[if_true,EW,List.mem_cons,exists_eq_or_imp,ht,true_and]
   constructor
   ·rintro((h|h)|h)
    ·exact Or.inl h
    ·exact Or.inr (Or.inl h.symm)
    ·exact Or.inr (Or.inr h)
   ·rintro(h|h|h)
    ·exact Or.inl (Or.inl h)
    ·exact Or.inl (Or.inr h.symm)
    ·exact Or.inr h
theorem fu {K:List Bs} {v:Bs}:bs v∈K.map bs↔v∈K:=by
 constructor
 ·intro h;obtain⟨x,hx,e⟩:=List.mem_map.1 h;rw[←nD e];exact hx
 ·exact fun h=>List.mem_map.2 ⟨_,h,rfl⟩
theorem Ad {K:List Bs} (h:K.Nodup):(K.map bs).Nodup:=by
 rw[List.Nodup,List.pairwise_map];exact h.imp fun hne e=>hne (nD e)
theorem tq:∀(ts:List dN) (xs:List ByteArray) (l m:List aB) (K:List Bs),ts.length=xs.length→bK l=K.map bs→dK l ts xs=some m→
  (∃r,m=l++r)∧bK m=(cu K ts).map bs∧aU m ts=some xs
 |[],[],l,m,K,_,hk,h=>by
  cases h;exact⟨⟨[],by simp⟩,hk,rfl⟩
 |[],_::_,_,_,_,hl,_,_=>by simp at hl
 |_::_,[],_,_,_,hl,_,_=>by simp at hl
 |t::ts,x::xs,l,m,K,hl,hk,h=>by
  have hl':ts.length=xs.length:=by simpa using hl
  simp only[dK] at h;cases e:bF l t with
  |none=>
   rw[e] at h;dsimp only at h;have ht:t.1=true:=by
    unfold bF at e;split at e
    ·assumption
    ·cases e
   have hg:dG l (bs t.2)=none:=by unfold bF at e;rwa [if_pos ht] at e
   have hnk:t.2∉K:=fun hm=>iD.1 hg (by rw[hk];exact fu.2 hm);have ha:eY K t.2=K++[t.2]:=by unfold eY;rw[if_neg (by simpa using hnk)]
   obtain⟨⟨r,hr⟩,h2,h3⟩:=tq ts xs (l++[(bs t.2,x)]) m (K++[t.2]) hl' (by simp[bK] at hk⊢;exact hk) h;refine⟨⟨(bs t.2,x)::r,by rw[hr];simp⟩,by rw[jc,if_pos ht,ha];exact h2,?_⟩;simp only[aU];have hw:bF m t=some x:=by
    rw[hr];refine jG ?_;unfold bF;rw[if_pos ht,fG,hg];simp[dG]
   rw[hw,h3]
  |some s=>
   rw[e] at h;dsimp only at h;split at h
   ·rename_i hs;subst hs;have hK:(if t.1=true then eY K t.2 else K)=K:=by
     split
     ·rename_i ht;unfold bF at e;rw[if_pos ht] at e;unfold eY;rw[if_pos];have:bs t.2∈bK l:=Classical.byContradiction fun hk=>by rw[iD.2 hk] at e;cases e
      rw[hk] at this;simpa using fu.1 this
     ·rfl
    obtain⟨⟨r,hr⟩,h2,h3⟩:=tq ts xs l m K hl' hk h;refine⟨⟨r,hr⟩,by rw[jc,hK];exact h2,?_⟩;simp only[aU];rw[show bF m t=some s by rw[hr];exact jG e,h3]
   ·cases h
theorem tu:∀(ts:List dN) (xs:List ByteArray) (l m r:List aB) (K:List Bs),bK l=K.map bs→m=l++r→bK m=(cu K ts).map bs→aU m ts=some xs→dK l ts xs=some m
 |[],xs,l,m,r,K,hk,hm,hv,_=>by
  have e:r=[]:=by
   have h1:(bK m).length=(bK l).length:=by rw[hv,hk];simp[cu]
   rw[hm] at h1;simp[bK] at h1;exact h1
  rw[hm,e];simp[dK]
 |t::ts,xs,l,m,r,K,hk,hm,hv,hf=>by
  simp only[aU] at hf;cases e:bF m t with
  |none=>rw[e] at hf;cases hf
  |some s=>
   rw[e] at hf;dsimp only at hf;cases e2:aU m ts with
   |none=>rw[e2] at hf;cases hf
   |some q=>
    rw[e2] at hf;cases hf;rw[jc] at hv;simp only[dK];cases e3:bF l t with
    |some s'=>
     have:=jG (m:=r) e3;rw[←hm,e] at this;cases this;dsimp only;rw[if_pos rfl];have hK:(if t.1=true then eY K t.2 else K)=K:=by
      split
      ·rename_i ht;unfold bF at e3;rw[if_pos ht] at e3;unfold eY;rw[if_pos];have:bs t.2∈bK l:=Classical.byContradiction fun hk=>by rw[iD.2 hk] at e3;cases e3
       rw[hk] at this;simpa using fu.1 this
      ·rfl
     rw[hK] at hv;exact tu ts q l m r K hk hm hv e2
    |none=>
     dsimp only;have ht:t.1=true:=by
      unfold bF at e3;split at e3
      ·assumption
      ·cases e3
     have hg:dG l (bs t.2)=none:=by unfold bF at e3;rwa [if_pos ht] at e3
     have hnk:t.2∉K:=fun hm=>iD.1 hg (by rw[hk];exact fu.2 hm);have ha:eY K t.2=K++[t.2]:=by unfold eY;rw[if_neg (by simpa using hnk)]
     rw[if_pos ht,ha] at hv;obtain⟨q',hq'⟩:=kK ts (K++[t.2]);have hkr:bK r=bs t.2::q'.map bs:=by
      have h1:=hv;rw[hq',hm] at h1;simp only[bK,List.map_append] at h1 hk⊢;rw[hk,List.append_assoc] at h1;simpa using List.append_cancel_left h1
     cases r with
     |nil=>simp[bK] at hkr
     |cons b r'=>
      have hb:b.1=bs t.2:=by simp[bK] at hkr;exact hkr.1
      have hbs:b.2=s:=by
       unfold bF at e;rw[if_pos ht,hm,fG,hg] at e;simp only[dG,hb,if_true] at e;exact Option.some.inj e
      have hbe:b=(bs t.2,s):=by rw[←hb,←hbs]
      subst hbe;exact tu ts q (l++[(bs t.2,s)]) m r' (K++[t.2]) (by simp[bK] at hk⊢;exact hk) (by rw[hm];simp) hv e2
theorem jh {a:aI} {f:au} {l m:List aB} {K:List Bs} (hk:bK l=K.map bs) (h:dw a f l=some m):(∃r,m=l++r)∧bK m=(cu K a.terms).map bs∧bA a m=some f:=by
 unfold dw at h;split at h
 ·rename_i hc;obtain⟨h1,h2,h3⟩:=tq a.terms f.2 l m K hc.2 hk h;exact⟨h1,h2,by unfold bA;rw[h3,hc.1]⟩
 ·cases h
theorem KQ {a:aI} {f:au} {l m r:List aB} {K:List Bs} (hk:bK l=K.map bs) (hm:m=l++r) (hv:bK m=(cu K a.terms).map bs) (hf:bA a m=some f):dw a f l=some m:=by
 unfold bA at hf;cases e:aU m a.terms with
 |none=>rw[e] at hf;cases hf
 |some x=>
  rw[e] at hf;cases hf;unfold dw;rw[if_pos ⟨rfl,(j4 e).symm⟩];exact tu a.terms x l m r K hk hm hv e
end Go.Proofs.YtafmbokfkbccaaaGreatDoor
namespace Go.Proofs.YtafmbokfkbccaaaGreatDoor
variable {α:Type} {c:α→α→Int}
theorem Three.le_trans (h:Three c) {a b d:α} (h1:c a b≤0) (h2:c b d≤0):c a d≤0:=by
 by_cases e1:c a b=0
 ·rw[h.zero _ _ e1];exact h2
 ·by_cases e2:c b d=0
  ·rw[←h.zero _ _ e2];exact h1
  ·have:=h.trans a b d (by omega) (by omega);omega
theorem Three.anti (h:Three c) {a b:α} (h1:c a b≤0) (h2:c b a≤0):a=b:=h.zero a b (by have:=h.swap a b;omega)
theorem oV (h:Three c):∀{s t:List α},s.Pairwise (fun a b=>c a b<0)→t.Pairwise (fun a b=>c a b<0)→(∀x,x∈s↔x∈t)→s=t
 |[],[],_,_,_=>rfl
 |[],b::t,_,_,e=>absurd ((e b).2 List.mem_cons_self) (by simp)
 |a::s,[],_,_,e=>absurd ((e a).1 List.mem_cons_self) (by simp)
 |a::s,b::t,hs,ht,e=>by
  have hs':=List.pairwise_cons.1 hs;have ht':=List.pairwise_cons.1 ht;have hab:a=b:=by
   rcases List.mem_cons.1 ((e a).1 List.mem_cons_self) with h1|h1
   ·exact h1
   ·rcases List.mem_cons.1 ((e b).2 List.mem_cons_self) with h2|h2
    ·exact h2.symm
    ·have x1:=ht'.1 a h1;have x2:=hs'.1 b h2;have:=h.swap a b;omega
  subst hab;have irr:c a a=0:=h.refl a;rw[oV h hs'.2 ht'.2 fun x=>⟨fun hx=> ?_,fun hx=> ?_⟩]
  ·rcases List.mem_cons.1 ((e x).1 (List.mem_cons_of_mem _ hx)) with h1|h1
   ·subst h1;have:=hs'.1 x hx;omega
   ·exact h1
  ·rcases List.mem_cons.1 ((e x).2 (List.mem_cons_of_mem _ hx)) with h1|h1
   ·subst h1;have:=ht'.1 x hx;omega
   ·exact h1
theorem oW (h:Three c):∀{l m:List α},l.Perm m→l.Pairwise (fun a b=>c a b≤0)→m.Pairwise (fun a b=>c a b≤0)→l=m
 |[],m,hp,_,_=>hp.nil_eq
 |a::l,[],hp,_,_=>by simpa using hp.length_eq
 |a::l,b::m,hp,hl,hm=>by
  have hl':=List.pairwise_cons.1 hl;have hm':=List.pairwise_cons.1 hm;have hab:a=b:=by
   rcases List.mem_cons.1 (hp.mem_iff.1 List.mem_cons_self) with h1|h1
   ·exact h1
   ·rcases List.mem_cons.1 (hp.mem_iff.2 (List.mem_cons_self (a:=b) (l:=m))) with h2|h2
    ·exact h2.symm
    ·exact h.anti (hl'.1 b h2) (hm'.1 a h1)
  subst hab;rw[oW h (List.Perm.cons_inv hp) hl'.2 hm'.2]
def iY (c:α→α→Int) (l:List α):List α:=l.mergeSort fun a b=>decide (c a b≤0)
theorem bO (l:List α):(iY c l).Perm l:=List.mergeSort_perm _ _
theorem jH (h:Three c) (l:List α):(iY c l).Pairwise fun a b=>c a b≤0:=by
 have:=List.pairwise_mergeSort (le:=fun a b=>decide (c a b≤0)) (fun a b d h1 h2=>by
  simp only[decide_eq_true_eq] at*;exact h.le_trans h1 h2) (fun a b=>by
  simp only[Bool.or_eq_true,decide_eq_true_eq];have:=h.swap a b;omega) l
 exact this.imp fun h=>by simpa using h
theorem tC (h:Three c) {l m:List α} (hp:m.Perm l) (hs:m.Pairwise fun a b=>c a b≤0):m=iY c l:=
 oW h (hp.trans (bO l).symm) hs (jH h l)
theorem tF (h:Three c) {l:List α} (hs:l.Pairwise fun a b=>c a b≤0) (hn:l.Nodup):l.Pairwise fun a b=>c a b<0:=
 (hs.and hn).imp fun {a b} ⟨h1,h2⟩=>by
  rcases Int.lt_or_eq_of_le h1 with h3|h3
  ·exact h3
  ·exact absurd (h.zero _ _ h3) h2
theorem Ae (h:Three c) {l:List α} (hs:l.Pairwise fun a b=>c a b<0):l.Nodup:=hs.imp fun {a b} h1 e=>by
 subst e;rw[h.refl] at h1;omega
def vS (c:α→α→Int):List α→List α→Int
 |[],[]=>0
 |[],_::_=> -1
 |_::_,[]=>1
 |a::x,b::y=>if c a b≠0 then c a b else vS c x y
theorem Af (h:Three c):∀x y,vS c y x= -vS c x y
 |[],[]=>rfl
 |[],_::_=>rfl
 |_::_,[]=>rfl
 |a::x,b::y=>by
  have:=h.swap a b;simp only[vS]
  by_cases e:c a b=0
  ·rw[if_neg (by omega),if_neg (by omega)];exact Af h x y
  ·rw[if_pos (by omega),if_pos e];omega
theorem Ag (h:Three c):∀x y,vS c x y=0→x=y
 |[],[],_=>rfl
 |[],_::_,e=>by simp[vS] at e
 |_::_,[],e=>by simp[vS] at e
 |a::x,b::y,e=>by
  simp only[vS] at e
  by_cases e':c a b=0
  ·rw[if_neg (by omega)] at e;rw[h.zero _ _ e',Ag h x y e]
  ·rw[if_pos e'] at e;exact absurd e e'
theorem wV (h:Three c):∀x y z,vS c x y<0→vS c y z<0→vS c x z<0
 |[],[],z,h1,_=>by simp[vS] at h1
 |[],_::_,[],_,h2=>by simp[vS] at h2
 |[],_::_,_::_,_,_=>by simp[vS]
 |_::_,[],_,h1,_=>by simp[vS] at h1
 |_::_,_::_,[],_,h2=>by simp[vS] at h2
 |a::x,b::y,d::z,h1,h2=>by
  simp only[vS] at h1 h2⊢
  by_cases e1:c a b=0
  ·rw[if_neg (by omega)] at h1;have:=h.zero _ _ e1;subst this
   by_cases e2:c a d=0
   ·rw[if_neg (by omega)] at h2⊢;exact wV h x y z h1 h2
   ·rw[if_pos e2] at h2⊢;exact h2
  ·rw[if_pos e1] at h1
   by_cases e2:c b d=0
   ·have:=h.zero _ _ e2;subst this;rw[if_pos e1];exact h1
   ·rw[if_pos e2] at h2;have:=h.trans a b d h1 h2;rw[if_pos (by omega)];exact this
theorem EX (h:Three c):Three (vS c):=⟨fun a b=>Af h a b,Ag h,wV h⟩
def l7 (a b:aB):Int:=if jl a.1 b.1≠0 then jl a.1 b.1 else jl a.2 b.2
theorem eG:Three l7 where
 swap a b:=by
  have h1:=dh.swap a.1 b.1;have h2:=dh.swap a.2 b.2;unfold l7
  by_cases e:jl a.1 b.1=0
  ·rw[if_neg (by omega),if_neg (by omega)];exact h2
  ·rw[if_pos (by omega),if_pos e];exact h1
 zero a b h:=by
  unfold l7 at h
  by_cases e:jl a.1 b.1=0
  ·rw[if_neg (by omega)] at h;have:=dh.zero _ _ e;have:=dh.zero _ _ h;obtain⟨a1,a2⟩:=a;obtain⟨b1,b2⟩:=b
   simp_all
  ·rw[if_pos e] at h;exact absurd h e
 trans a b d h k:=by
  unfold l7 at*
  by_cases e1:jl a.1 b.1=0
  ·rw[if_neg (by omega)] at h;rw[dh.zero _ _ e1]
   by_cases e2:jl b.1 d.1=0
   ·rw[if_neg (by omega)] at k⊢;exact dh.trans _ _ _ h k
   ·rw[if_pos e2] at k⊢;exact k
  ·rw[if_pos e1] at h
   by_cases e2:jl b.1 d.1=0
   ·rw[←dh.zero _ _ e2,if_pos e1];exact h
   ·rw[if_pos e2] at k;have:=dh.trans _ _ _ h k;rw[if_pos (by omega)];exact this
abbrev gP:List aB→List aB→Int:=vS l7
theorem bG:Three gP:=EX eG
abbrev gZ (l:List aB):List aB:=iY l7 l
def lM (pick:Nat→List au) (body:List aI):Option (List (List aB)):=match dI pick 0 body [[]] with
 |none=>none
 |some ms=>some (iY gP ((ms.filter fun l=> !barredB pick 0 body l).map gZ))
def fH (K:List Bs) (ats:List aI):List Bs:=ats.foldl (fun K a=>if a.no then K else cu K a.terms) K
theorem iH (K:List Bs) (a:aI) (ats:List aI):fH K (a::ats)=fH (if a.no then K else cu K a.terms) ats:=rfl
theorem nV:∀(ats:List aI) (K:List Bs),∃r,fH K ats=K++r
 |[],K=>⟨[],by simp[fH]⟩
 |a::ats,K=>by
  rw[iH];split
  ·exact nV ats K
  ·obtain⟨r1,h1⟩:=kK a.terms K;obtain⟨r2,h2⟩:=nV ats (cu K a.terms);exact⟨r1++r2,by rw[h2,h1,List.append_assoc]⟩
theorem lq:∀(ats:List aI) {K:List Bs},K.Nodup→(fH K ats).Nodup
 |[],_,h=>h
 |a::ats,K,h=>by
  rw[iH];split
  ·exact lq ats h
  ·exact lq ats (mE _ h)
theorem gQ:∀(ats:List aI) {K:List Bs} {v:Bs},v∈fH K ats↔v∈K∨∃a∈ats,a.no=false∧∃t∈a.terms,t.1=true∧t.2=v
 |[],K,v=>by simp[fH]
 |a::ats,K,v=>by
  rw[iH,gQ ats];cases ha:a.no
  ·simp only[Bool.false_eq_true,if_false,iG,List.mem_cons,exists_eq_or_imp,ha,true_and,or_assoc]
  ·simp[ha]
theorem jo {a:aI} {fs:List au} {ls:List (List aB)} {m:List aB}:m∈aQ a fs ls↔∃l∈ls,∃f∈fs,dw a f l=some m:=by
 simp[aQ,List.mem_flatMap,List.mem_filterMap]
theorem Hl {m:List aB} {K r:List Bs} (h:bK m=(K++r).map bs):bK (m.take K.length)=K.map bs:=by
 unfold bK at*;rw[List.map_take,h,List.map_append,List.take_append_of_le_length (by simp),List.take_of_length_le (by simp)]
theorem nW (pick:Nat→List au):∀(ats:List aI) (n:Nat) (ls ms:List (List aB)) (K:List Bs),(∀l∈ls,bK l=K.map bs)→dI pick n ats ls=some ms→
  ∀m,m∈ms↔(∃l∈ls,∃r,m=l++r)∧bK m=(fH K ats).map bs∧∀i a,ats[i]?=some a→a.no=false→∃f∈pick (n+i),bA a m=some f
 |[],n,ls,ms,K,hK,h,m=>by
  cases h
  constructor
  ·intro hm;exact⟨⟨m,hm,[],by simp⟩,hK m hm,fun i a h=>by simp at h⟩
  ·rintro⟨⟨l,hl,r,e⟩,hk,_⟩;have h1:=hK l hl;have:r=[]:=by
    have h2:(bK m).length=(bK l).length:=by rw[hk,h1];simp[fH]
    rw[e] at h2;simp[bK] at h2;exact h2
   rw[e,this];simpa using hl
 |a::ats,n,ls,ms,K,hK,h,m=>by
  simp only[dI] at h;rw[iH];have shift:(∀i b,(a::ats)[i]?=some b→b.no=false→∃f∈pick (n+i),bA b m=some f)↔((a.no=false→∃f∈pick n,bA a m=some f)∧∀i b,ats[i]?=some b→b.no=false→∃f∈pick (n+1+i),bA b m=some f):=by
   constructor
   ·intro H;refine⟨H 0 a rfl,fun i b hb=> ?_⟩;have:=H (i+1) b (by simpa using hb)
    rwa [show n+(i+1)=n+1+i by omega] at this
   ·rintro⟨H0,H1⟩ i b hb;cases i with
    |zero=>simp at hb;subst hb;exact H0
    |succ i=>have:=H1 i b (by simpa using hb);rwa [show n+1+i=n+(i+1) by omega] at this
  rw[shift];cases ha:a.no
  ·rw[ha] at h;simp only[Bool.false_eq_true,if_false,true_imp_iff] at h⊢;split at h
   ·cases h
   ·have hK':∀l∈aQ a (pick n) ls,bK l=(cu K a.terms).map bs:=fun l hl=>by
     obtain⟨l0,hl0,f,_,hm⟩:=jo.1 hl;exact(jh (hK l0 hl0) hm).2.1
    rw[nW pick ats (n+1) _ ms _ hK' h m]
    constructor
    ·rintro⟨⟨l',hl',r,e⟩,hk,hr⟩;obtain⟨l,hl,f,hf,hm⟩:=jo.1 hl';obtain⟨⟨r0,e0⟩,_,jB⟩:=jh (hK l hl) hm;exact⟨⟨l,hl,r0++r,by rw[e,e0,List.append_assoc]⟩,hk,⟨f,hf,by rw[e];exact rD jB⟩,hr⟩
    ·rintro⟨⟨l,hl,r,e⟩,hk,⟨f,hf,jB⟩,hr⟩;obtain⟨q,hq⟩:=nV ats (cu K a.terms);rw[hq] at hk;have hk1:=Hl hk;obtain⟨m1,hm1⟩:∃m1,m1=m.take (cu K a.terms).length:=⟨_,rfl⟩;rw[←hm1] at hk1;have hsplit:m=m1++m.drop (cu K a.terms).length:=by rw[hm1];exact(List.take_append_drop _ _).symm
     obtain⟨r0,hr0⟩:=kK a.terms K;have hll:l.length=K.length:=by
      have:=congrArg List.length (hK l hl);simpa[bK] using this
     have hpre:m1=l++r.take (r0.length):=by
      rw[hm1,e,hr0,List.length_append,←hll,List.take_length_add_append]
     have hf1:bA a m1=some f:=by
      rw[←jB];refine lg fun t ht htv=> ?_;have hmem:bs t.2∈bK m1:=by
       rw[hk1];exact fu.2 ((iG _).2 (Or.inr ⟨t,ht,htv,rfl⟩))
      obtain⟨s,hs⟩:=kZ hmem;rw[hsplit,fG,hs]
     refine⟨⟨m1,jo.2 ⟨l,hl,f,hf,KQ (hK l hl) hpre hk1 hf1⟩,_,hsplit⟩,by rw[hq];exact hk,hr⟩
  ·rw[ha] at h;simp only[if_true,Bool.true_eq_false,false_imp_iff,true_and] at h⊢;exact nW pick ats (n+1) ls ms K hK h m
theorem tH (pick:Nat→List au) (hp:∀i,(pick i).Nodup):∀(ats:List aI) (n:Nat) (ls ms:List (List aB)) (K:List Bs),(∀l∈ls,bK l=K.map bs)→ls.Nodup→dI pick n ats ls=some ms→ms.Nodup
 |[],_,_,_,_,_,hn,h=>by cases h;exact hn
 |a::ats,n,ls,ms,K,hK,hn,h=>by
  simp only[dI] at h;split at h
  ·exact tH pick hp ats (n+1) ls ms K hK hn h
  ·split at h
   ·cases h
   ·refine tH pick hp ats (n+1) _ ms (cu K a.terms) (fun l hl=> ?_) ?_ h
    ·obtain⟨l0,hl0,f,_,hm⟩:=jo.1 hl;exact(jh (hK l0 hl0) hm).2.1
    ·unfold aQ;rw[List.Nodup,List.pairwise_flatMap];refine⟨fun l hl=> ?_,?_⟩
     ·rw[List.pairwise_filterMap];refine(hp n).imp fun {f g} hfg x hx y hy e=> ?_;subst e;have h1:=(jh (hK l hl) hx).2.2;rw[(jh (hK l hl) hy).2.2] at h1;exact hfg (Option.some.inj h1).symm
     ·refine(List.Pairwise.and_mem.1 hn).imp fun {l l'} h3 x hx y hy e=> ?_;obtain⟨hl,hl',hne⟩:=h3;subst e;obtain⟨f,_,hx⟩:=List.mem_filterMap.1 hx;obtain⟨g,_,hy⟩:=List.mem_filterMap.1 hy;obtain⟨⟨r,e1⟩,_⟩:=jh (hK l hl) hx;obtain⟨⟨r',e2⟩,_⟩:=jh (hK l' hl') hy;have hlen:l.length=l'.length:=by
       have:=congrArg List.length ((hK l hl).trans (hK l' hl').symm);simpa[bK] using this
      exact hne (List.append_inj (e1.symm.trans e2) hlen).1
def dZ (fs:List au) (at_:Int) (os:List au):Nat→List au:=fun n=>if(n:Int)=at_ then os else fs
end Go.Proofs.YtafmbokfkbccaaaGreatDoor
namespace Go.Proofs.YtafmbokfkbccaaaGreatDoor
theorem Dq {a:aI} {v:Bs}:v∈vars a↔∃t∈a.terms,t.1=true∧t.2=v:=by
 unfold vars;rw[iG];simp
def Covers (body:List aI):Prop:=∀a∈body,∀t∈a.terms,t.1=true→t.2∈fH [] body
theorem kL {body:List aI} (h:aM body=0):Covers body:=by
 unfold aM at h;split at h
 ·simp at h
 ·split at h
  ·split at h
   ·rename_i hall;intro a ha t ht htv;rw[List.all_eq_true] at hall;have h1:=hall a ha;rw[List.all_eq_true] at h1;have h2:=h1 t.2 (Dq.2 ⟨t,ht,htv,rfl⟩);unfold givenBy at h2;rw[List.any_eq_true] at h2;obtain⟨b,hb,h3⟩:=h2;simp only[Bool.and_eq_true,Bool.not_eq_true',List.contains_eq_mem,decide_eq_true_eq] at h3;refine(gQ body).2 (Or.inr ⟨b,hb,h3.1,?_⟩);exact Dq.1 h3.2
   ·simp at h
  ·rename_i hne;exact absurd h hne
theorem nX (pick:Nat→List au) (l:List aB):∀(ats:List aI) (n:Nat),barredB pick n ats l=true↔∃i a,ats[i]?=some a∧a.no=true∧∃f∈pick (n+i),bA a l=some f
 |[],n=>by simp[barredB]
 |a::ats,n=>by
  simp only[barredB,Bool.or_eq_true,Bool.and_eq_true];rw[nX pick l ats (n+1)]
  constructor
  ·rintro(⟨h1,h2⟩|⟨i,b,hb,h1,f,hf,h2⟩)
   ·cases e:bA a l with
    |none=>rw[e] at h2;cases h2
    |some f=>
     rw[e] at h2;exact⟨0,a,rfl,h1,f,dB.1 h2,e⟩
   ·exact⟨i+1,b,by simpa using hb,h1,f,by rwa [show n+(i+1)=n+1+i by omega],h2⟩
  ·rintro⟨i,b,hb,h1,f,hf,h2⟩;cases i with
   |zero=>
    simp at hb;subst hb;exact Or.inl ⟨h1,by rw[h2];exact dB.2 hf⟩
   |succ i=>exact Or.inr ⟨i,b,by simpa using hb,h1,f,by rwa [show n+1+i=n+(i+1) by omega],h2⟩
def SoB (pick:Nat→List au) (body:List aI) (l:List aB):Prop:=∀i a,body[i]?=some a→∃f,bA a l=some f∧inB (pick i) f= !a.no
theorem SoB.perm {pick:Nat→List au} {body:List aI} {l m:List aB} (h:SoB pick body l) (hp:l.Perm m) (hn:(bK l).Nodup):SoB pick body m:=fun i a ha=>by
 obtain⟨f,h1,h2⟩:=h i a ha;exact⟨f,by rw[←qF hp hn];exact h1,h2⟩
theorem rE {β:Type} {l:List β} {i:Nat} {a:β} (h:l[i]?=some a):a∈l:=by
 obtain⟨hi,rfl⟩:=List.getElem?_eq_some_iff.1 h;exact List.getElem_mem hi
theorem sF {pick:Nat→List au} {body:List aI} (hc:Covers body) {ms:List (List aB)} (h:dI pick 0 body [[]]=some ms) (m:List aB):
  m∈ms.filter (fun l=> !barredB pick 0 body l)↔bK m=(fH [] body).map bs∧SoB pick body m:=by
 rw[List.mem_filter,nW pick body 0 [[]] ms [] (fun l hl=>by simp at hl;subst hl;rfl) h m];simp only[Bool.not_eq_true',Nat.zero_add]
 constructor
 ·rintro⟨⟨_,hk,hpos⟩,hb⟩;refine⟨hk,fun i a ha=> ?_⟩;cases hno:a.no
  ·obtain⟨f,hf,h1⟩:=hpos i a ha hno;exact⟨f,h1,by rw[dB.2 hf];rfl⟩
  ·obtain⟨f,hf⟩:=wU (l:=m) (a:=a) fun t ht htv=>by
    rw[hk];exact fu.2 (hc a (rE ha) t ht htv)
   refine⟨f,hf,?_⟩;cases e:inB (pick i) f
   ·rfl
   ·have:barredB pick 0 body m=true:=(nX pick m body 0).2 ⟨i,a,ha,hno,f,by rw[Nat.zero_add];exact dB.1 e,hf⟩;rw[hb] at this;cases this
 ·rintro⟨hk,hso⟩;refine⟨⟨⟨[],by simp,m,by simp⟩,hk,fun i a ha hno=> ?_⟩,?_⟩
  ·obtain⟨f,h1,h2⟩:=hso i a ha;rw[hno] at h2;exact⟨f,dB.1 h2,h1⟩
  ·cases e:barredB pick 0 body m
   ·rfl
   ·obtain⟨i,a,ha,hno,f,hf,h1⟩:=(nX pick m body 0).1 e;obtain⟨g,h2,h3⟩:=hso i a ha;rw[h1] at h2;cases h2;rw[Nat.zero_add] at hf;rw[hno,dB.2 hf] at h3;cases h3
theorem keys_perm {l m:List aB} (h:l.Perm m):(bK l).Perm (bK m):=h.map _
theorem Dr:∀{l m:List aB},bK l=bK m→(bK l).Nodup→(∀v,dG l v=dG m v)→l=m
 |[],[],_,_,_=>rfl
 |[],b::m,h,_,_=>by simp[bK] at h
 |a::l,[],h,_,_=>by simp[bK] at h
 |a::l,b::m,h,hn,hg=>by
  have hn':a.1∉bK l∧(bK l).Nodup:=List.nodup_cons.1 hn;have h1:a.1=b.1∧bK l=bK m:=by simpa[bK] using h
  have h2:a.2=b.2:=by
   have:=hg a.1;simp only[dG,if_true] at this;rw[if_pos h1.1.symm] at this;exact Option.some.inj this
  have hab:a=b:=Prod.ext h1.1 h2;subst hab;rw[Dr h1.2 hn'.2 fun v=> ?_]
  by_cases hv:a.1=v
  ·subst hv;rw[iD.2 hn'.1,iD.2 (by rw[←h1.2];exact hn'.1)]
  ·have:=hg v;simpa only[dG,if_neg hv] using this
theorem mF {m:List aB} (hn:(bK m).Nodup):(gZ m).Pairwise fun a b=>l7 a b<0:=by
 refine tF eG (jH eG m) ?_;refine(bO m).nodup_iff.2 ?_;have:(m.map (·.1)).Nodup:=hn;rw[List.Nodup,List.pairwise_map] at this;exact this.imp fun h e=>h (by rw[e])
theorem Ho {l m:List aB} (hk:bK l=bK m) (hn:(bK l).Nodup) (h:gZ l=gZ m):l=m:=by
 refine Dr hk hn fun v=>Ab ?_ hn v;have h1:=(bO (c:=l7) l).symm;have h2:=bO (c:=l7) m;rw[show iY l7 l=iY l7 m from h] at h1;exact h1.trans h2
def oZ (pick:Nat→List au) (body:List aI) (r:List aB):Prop:=
 r.Pairwise (fun a b=>l7 a b<0)∧(bK r).Nodup∧(∀v,v∈bK r↔v∈(fH [] body).map bs)∧SoB pick body r
theorem iM (body:List aI):((fH [] body).map bs).Nodup:=Ad (lq body List.nodup_nil)
theorem qG {pick:Nat→List au} {body:List aI} (hc:Covers body) {R:List (List aB)} (h:lM pick body=some R) (r:List aB):r∈R↔oZ pick body r:=by
 unfold lM at h;cases e:dI pick 0 body [[]] with
 |none=>rw[e] at h;cases h
 |some ms=>
  rw[e] at h;cases h;rw[(bO _).mem_iff,List.mem_map]
  constructor
  ·rintro⟨m,hm,rfl⟩;obtain⟨hk,hso⟩:=(sF hc e m).1 hm;have hn:(bK m).Nodup:=by rw[hk];exact iM body
   have hp:=(bO (c:=l7) m);refine⟨mF hn,(keys_perm hp).nodup_iff.2 hn,fun v=> ?_,hso.perm hp.symm hn⟩;rw[(keys_perm hp).mem_iff,hk]
  ·rintro⟨hr,hn,hv,hso⟩;obtain⟨m,hm⟩:∃m:List aB,m=(fH [] body).map fun k=>(bs k,(dG r (bs k)).getD ByteArray.empty):=⟨_,rfl⟩;have hk:bK m=(fH [] body).map bs:=by rw[hm];unfold bK;rw[List.map_map];rfl
   have hnm:(bK m).Nodup:=by rw[hk];exact iM body
   have hmem:∀x,x∈m↔x∈r:=fun x=>by
    constructor
    ·intro hx;rw[hm] at hx;obtain⟨k,hk,rfl⟩:=List.mem_map.1 hx;obtain⟨s,hs⟩:=kZ ((hv (bs k)).2 (fu.2 hk));rw[hs];exact mW hs
    ·intro hx;have h1:x.1∈(fH [] body).map bs:=(hv x.1).1 (List.mem_map.2 ⟨x,hx,rfl⟩);obtain⟨k,hk,e⟩:=List.mem_map.1 h1;rw[hm];refine List.mem_map.2 ⟨k,hk,?_⟩;have:=kY (v:=x.1) (s:=x.2) hn hx;rw[e,this]
     rfl
   have hsm:gZ m=r:=oV eG (mF hnm) hr fun x=>by rw[(bO m).mem_iff];exact hmem x
   refine⟨m,(sF hc e m).2 ⟨hk,?_⟩,hsm⟩;have hp:r.Perm m:=by rw[←hsm];exact bO m
   exact hso.perm hp hn
theorem EY {pick:Nat→List au} {body:List aI} (hc:Covers body) (hp:∀i,(pick i).Nodup) {R:List (List aB)} (h:lM pick body=some R):R.Pairwise fun a b=>gP a b<0:=by
 unfold lM at h;cases e:dI pick 0 body [[]] with
 |none=>rw[e] at h;cases h
 |some ms=>
  rw[e] at h;cases h;refine tF bG (jH bG _) ((bO _).nodup_iff.2 ?_);have hms:ms.Nodup:=tH pick hp body 0 [[]] ms [] (fun l hl=>by simp at hl;subst hl;rfl) (by simp) e;rw[List.Nodup,List.pairwise_map];have h1:(ms.filter fun l=> !barredB pick 0 body l).Nodup:=hms.filter _;refine(List.Pairwise.and_mem.1 h1).imp fun {l m} ⟨hl,hm,hne⟩ e'=>hne ?_;have k1:=((sF hc e l).1 hl).1;have k2:=((sF hc e m).1 hm).1;exact Ho (k1.trans k2.symm) (by rw[k1];exact iM body) e'
theorem iN {fs:List au} {body:List aI} {l:List aB}:SoB (fun _=>fs) body l↔∀a∈body,∃f,bA a l=some f∧inB fs f= !a.no:=by
 constructor
 ·intro h a ha;obtain⟨i,hi⟩:=List.getElem?_of_mem ha;exact h i a hi
 ·intro h i a ha;exact h a (rE ha)
end Go.Proofs.YtafmbokfkbccaaaGreatDoor
