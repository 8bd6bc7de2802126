import Derived.Test.YtafmbokfkbccaaaGreatDoorJB33
import Derived.Test.YtafmbokfkbccaaaGreatDoorJB21
namespace Go.Proofs.YtafmbokfkbccaaaGreatDoor
theorem l9 {n:Int} {fs:List aj} (σ:aA→Nat):∀{p:List aA} {acc:List aj},eP n fs p (p.map σ) acc=(5,[])→
  ∃A:List aj,200<(fO A).length∧∀f∈A,f∈acc∨∃r∈p,(σ r:Int)=n∧∃x,dM r fs=some x∧f∈x
 |[],acc,h=>by simp[eP] at h
 |r::p,acc,h=>by
  simp only[eP,List.map_cons] at h;split at h
  ·rename_i hs;split at h
   ·simp at h
   ·rename_i x hx;have key:∀f∈acc++x,f∈acc∨∃q∈r::p,(σ q:Int)=n∧∃x,dM q fs=some x∧f∈x:=fun f hf=>by
     rcases List.mem_append.1 hf with hf|hf
     ·exact Or.inl hf
     ·exact Or.inr ⟨r,by simp,hs,x,hx,hf⟩
    split at h
    ·rename_i hl;exact⟨acc++x,hl,key⟩
    ·obtain⟨A,h1,h2⟩:=l9 σ h;refine⟨A,h1,fun f hf=> ?_⟩;rcases h2 f hf with h3|⟨q,hq,h3⟩
     ·exact key f h3
     ·exact Or.inr ⟨q,by simp[hq],h3⟩
  ·obtain⟨A,h1,h2⟩:=l9 σ h;refine⟨A,h1,fun f hf=> ?_⟩;rcases h2 f hf with h3|⟨q,hq,h3⟩
   ·exact Or.inl h3
   ·exact Or.inr ⟨q,by simp[hq],h3⟩
theorem FU {p:List aA} (hp:cZ p) (σ:aA→Nat) {n:Int} {K N M:List aj} (hK:GoodS p K) (hN:∀f∈N,f∈K) (hS:∀r∈p,(σ r:Int)=n→Semi K N r)
  (hM:fV K N n p (p.map σ) []=some M) (h4:(bV p (p.map σ) n K).1≠4):bV p (p.map σ) n K=if 200<(fO (K++M)).length then(5,[]) else(0,fO (K++M)):=by
 have hsub:∀r∈p,(σ r:Int)=n→∀x,dM r K=some x→∀f∈x,f∈K++M:=fun r hr hs x hx f hf=>by
  obtain⟨env,he,hh⟩:=(fD (bH (hp.rules r hr)) hx f).1 hf;rw[List.mem_append];exact(hS r hr hs env f he hh).imp id fun h=>(ji σ hp.rules hM f).2 (Or.inr ⟨r,hr,hs,h⟩)
 rcases nR (n:=n) (fs:=K) (p:=p) (ss:=p.map σ) (acc:=K) with h0|h|h
 ·obtain⟨S,hSS⟩:∃S,bV p (p.map σ) n K=(0,S):=⟨(bV p (p.map σ) n K).2,by rw[←show(bV p (p.map σ) n K).1=0 from h0]⟩;obtain⟨h1,h2,h3,h5,h6⟩:=gH σ hSS;have e:S=fO (K++M):=uV h5 fun f=>by
   rw[List.mem_append]
   constructor
   ·intro hf;rcases h3 f hf with h|⟨r,hr,hs,x,hx,hf⟩
    ·exact Or.inl h
    ·exact List.mem_append.1 (hsub r hr hs x hx f hf)
   ·rintro(hf|hf)
    ·exact h2 f hf
    ·rcases(ji σ hp.rules hM f).1 hf with h|⟨r,hr,hs,hm⟩
     ·cases h
     ·obtain⟨x,hx,hxS⟩:=h1 r hr hs;obtain⟨env,he,hh⟩:=om hN hm;exact hxS f ((fD (bH (hp.rules r hr)) hx f).2 ⟨env,he,hh⟩)
  have hl:=h6 (by rw[oI hK.up];exact hK.few);rw[e] at hl hSS;rw[if_neg (by omega),hSS]
 ·exact absurd (show(bV p (p.map σ) n K).1=4 by unfold bV;rw[h]) h4
 ·obtain⟨A,h1,h2⟩:=l9 σ h;have h3:(fO A).length≤(fO (K++M)).length:=sw (gV A) fun f hf=>bU.2 (by
   rcases h2 f (bU.1 hf) with h|⟨r,hr,hs,x,hx,hf⟩
   ·exact List.mem_append.2 (Or.inl h)
   ·exact hsub r hr hs x hx f hf)
  rw[if_pos (by omega)];exact h
def Ap (p:List aA) (ss:List Nat) (c k n:Nat) (K:List aj):Int×List aj:=if(dH p ss n k K).1≠0 then((dH p ss n k K).1,[]) else gQ p ss c (n+1) (dH p ss n k K).2
theorem Dn {p:List aA} {ss:List Nat} {c k n:Nat} {K:List aj}:Ap p ss c (k+1) n K=if(bV p ss n K).1≠0 then((bV p ss n K).1,[]) else if(bV p ss n K).2.length=K.length then gQ p ss c (n+1) (bV p ss n K).2 else Ap p ss c k n (bV p ss n K).2:=by
 unfold Ap;rw[dH];split
 ·rfl
 ·split
  ·rfl
  ·rfl
theorem uD {p:List aA} {ss:List Nat} {c n:Nat} {K:List aj}:gQ p ss (c+1) n K=Ap p ss c 201 n K:=rfl
theorem ow {p:List aA} (hp:cZ p) (σ:aA→Nat):∀(m c k n:Nat) {r:nO},qV p (countP (p.map σ)) r→r.level=(n:Nat)→n+(c+1)=countP (p.map σ)→200<r.known.length+k→
  (∀q∈p,(σ q:Int)=n→Semi r.known r.fresh q)→(200:Int)-r.known.length+(countP (p.map σ)-r.level)≤m→(200:Int)-r.known.length+(countP (p.map σ)-r.level)+r.rounds≤999→
  (fZ p (p.map σ) m r).1≠4→(Ap p (p.map σ) c k n r.known).1≠4→(fZ p (p.map σ) m r).1=(Ap p (p.map σ) c k n r.known).1∧((fZ p (p.map σ) m r).1=0→(fZ p (p.map σ) m r).2.known=(Ap p (p.map σ) c k n r.known).2)
 |0,c,k,n,r,hr,hn,hc,_,_,hm,_,_,_=>by have:=hr.good.few;omega
 |m+1,c,0,n,r,hr,hn,hc,hk,_,_,_,_,_=>by have:=hr.good.few;omega
 |m+1,c,k+1,n,r,hr,hn,hc,hk,hS,hm,h9,h4,h4'=>by
  have hd:r.done=false:=by rw[hr.done];simp;omega
  rw[Di hd] at h4⊢;rw[Dn] at h4'⊢;have hSt:∀q∈p,(σ q:Int)=r.level→Semi r.known r.fresh q:=fun q hq h=>hS q hq (h.trans hn);have LY:=hr.good.few;have hrn:r.rounds≠1000:=by omega
  cases hM:fV r.known r.fresh r.level p (p.map σ) [] with
  |none=>
   have e:jG p (p.map σ) r=(4,pq):=by unfold jG;rw[if_neg hrn,hM]
   rw[e] at h4;simp at h4
  |some M=>
   have ho4:(bV p (p.map σ) n r.known).1≠4:=fun e=>h4' (by rw[e];simp);have ho:=FU hp σ (n:=(n:Int)) hr.good hr.sub hS (hn▸hM) ho4
   by_cases hl:200<(fO (r.known++M)).length
   ·have e:jG p (p.map σ) r=(5,pq):=by unfold jG;rw[if_neg hrn,hM];simp[hl]
    rw[if_pos hl] at ho;rw[ho,e];simp
   ·rw[if_neg hl] at ho;have hsub:∀f∈r.known,f∈fO (r.known++M):=fun f hf=>bU.2 (List.mem_append.2 (Or.inl hf))
    by_cases hnew:qU r.known M=[]
    ·have eK:=(Ah hr.good.up).1 hnew;have e:jG p (p.map σ) r=(0,⟨fO (r.known++M),fO (r.known++M),r.level+1,r.rounds+1,decide (r.level+1=countP (p.map σ))⟩):=by unfold jG;rw[if_neg hrn,hM];simp[hl,hnew]
     obtain⟨g1,g2,g3,g4⟩:=oo hp σ hr hd e;rw[e] at h4⊢;rw[ho] at h4'⊢;simp only[ne_eq,not_true_eq_false,if_false] at h4 h4'⊢;rw[if_pos (by rw[eK])] at h4'⊢;rw[eK] at h4 h4' g1⊢;cases c with
     |zero=>
      have hdn:(⟨r.known,r.known,r.level+1,r.rounds+1,decide (r.level+1=countP (p.map σ))⟩:nO).done=true:=by simp only[decide_eq_true_eq];omega
      rw[uj hdn];exact⟨rfl,fun _=>rfl⟩
     |succ c=>
      rw[uD] at h4'⊢;refine ow hp σ m c 201 (n+1) g1 (by dsimp only;omega) (by omega) (by dsimp only;omega) (fun q _ _=>BM _ q) (by dsimp only;omega) (by dsimp only;omega) h4 h4'
    ·have e:jG p (p.map σ) r=(0,⟨fO (r.known++M),qU r.known M,r.level,r.rounds+1,false⟩):=by unfold jG;rw[if_neg hrn,hM];simp[hl,hnew]
     obtain⟨g1,g2,g3,g4⟩:=oo hp σ hr hd e;have g5:r.known.length<(fO (r.known++M)).length:=by
      rcases g4 with⟨_,h⟩|⟨h,_⟩
      ·exact h
      ·dsimp only at h;omega
     rw[e] at h4⊢;rw[ho] at h4'⊢;simp only[ne_eq,not_true_eq_false,if_false] at h4 h4'⊢;rw[if_neg (by omega)] at h4'⊢;refine ow hp σ m c k n g1 hn hc (by dsimp only;omega) (fun q hq hs=> ?_) (by dsimp only;omega) (by dsimp only;omega) h4 h4';refine FI hsub (hS q hq hs) (fun f hf=>bU.2 (List.mem_append.2 (Or.inr ((ji σ hp.rules hM f).2 (Or.inr ⟨q,hq,hs.trans hn.symm,hf⟩))))) fun f hf hn'=> ?_;exact nC.2 ⟨(List.mem_append.1 (bU.1 hf)).resolve_left hn',hn'⟩
theorem uE {c:Nat}:∀{ss:List Nat},(∀s∈ss,s<c)→countP ss≤c
 |[],_=>Nat.zero_le _
 |s::ss,h=>by
  have h1:=h s (by simp);have h2:=uE (ss:=ss) fun t ht=>h t (by simp[ht]);simp only[countP];omega
theorem Dp {p:List aA} (hp:cZ p) (σ:aA→Nat) (hσ:∀r∈p,σ r<16) {l:List aj} (hl:GoodS p l) (h4:(fZ p (p.map σ) 1000 ⟨l,l,0,0,decide (countP (p.map σ)=0)⟩).1≠4) (h4':(gQ p (p.map σ) (countP (p.map σ)) 0 l).1≠4):
  (fZ p (p.map σ) 1000 ⟨l,l,0,0,decide (countP (p.map σ)=0)⟩).1=(gQ p (p.map σ) (countP (p.map σ)) 0 l).1∧((fZ p (p.map σ) 1000 ⟨l,l,0,0,decide (countP (p.map σ)=0)⟩).1=0→(fZ p (p.map σ) 1000 ⟨l,l,0,0,decide (countP (p.map σ)=0)⟩).2.known=(gQ p (p.map σ) (countP (p.map σ)) 0 l).2):=by
 have hcs:countP (p.map σ)≤16:=uE fun s hs=>by
  obtain⟨r,hr,rfl⟩:=List.mem_map.1 hs;exact hσ r hr
 have hr:=qW (c:=countP (p.map σ)) hl;have LY:=hl.few;cases e:countP (p.map σ) with
 |zero=>
  rw[uj (by simp)];exact⟨rfl,fun _=>rfl⟩
 |succ c=>
  rw[e] at h4 h4' hr;rw[uD] at h4'⊢;refine ow hp σ 1000 c 201 0 (by rw[e];exact hr) rfl (by omega) (by dsimp only;omega) (fun q _ _=>BM _ q) (by dsimp only;omega) (by dsimp only;omega) h4 h4'
end Go.Proofs.YtafmbokfkbccaaaGreatDoor
namespace Go.Proofs.YtafmbokfkbccaaaGreatDoor
def Oh (pick:Nat→List aj) (body:List aF):Option (List (List aC)):=match eu pick 0 body [[]] with
 |none=>none
 |some ms=>some (kT (pY eB) ((ms.filter fun l=> !barredB pick 0 body l).map (kT eB)))
theorem KX (pick:Nat→List aj) (body:List aF):lF pick body=Oh pick body:=by
 have e1:(jk:List aC→List aC)=kT eB:=by funext l;show iU rZ l=_;rw[jS gy,Ao]
 unfold lF Oh;cases eu pick 0 body [[]] with
 |none=>rfl
 |some ms=>
  dsimp only;rw[jS gL,e1,show iB=pY eB from by rw[←Ao]]
def atJ (K N:List aj) (r:aA):Nat→List aF→List aj→Option (List aj)
 |_,[],acc=>some acc
 |k,a::l,acc=>if a.no then atJ K N r (k+1) l acc else
  match Oh (gM K k N) r.body with
  |none=>none
  |some R=>atJ K N r (k+1) l (acc++R.filterMap fun e=>aQ r.head e)
theorem FV (K N:List aj) (r:aA):∀(l:List aF) (k:Nat) (acc:List aj),Ea K N r k l acc=atJ K N r k l acc
 |[],_,_=>rfl
 |a::l,k,acc=>by
  unfold Ea atJ;split
  ·exact FV K N r l (k+1) acc
  ·rw[KX];cases Oh (gM K k N) r.body with
   |none=>rfl
   |some R=>exact FV K N r l (k+1) _
def Oi (K N:List aj) (r:aA) (acc:List aj):Option (List aj):=if r.body.all (·.no) then
  match uy r K with
  |none=>none
  |some x=>some (acc++x)
 else atJ K N r 0 r.body acc
theorem KY (K N:List aj) (r:aA) (acc:List aj):JO K N r acc=Oi K N r acc:=by
 unfold JO Oi;rw[yN,FV];split
 ·cases uy r K <;> rfl
 ·rfl
def oU (K N:List aj) (st:Int):List aA→List Nat→List aj→Option (List aj)
 |[],_,acc=>some acc
 |_::_,[],acc=>some acc
 |r::p,s::ss,acc=>if(s:Int)=st then
   match Oi K N r acc with
   |none=>none
   |some acc'=>oU K N st p ss acc'
  else oU K N st p ss acc
theorem rJ (K N:List aj) (st:Int):∀(p:List aA) (ss:List Nat) (acc:List aj),fV K N st p ss acc=oU K N st p ss acc
 |[],_,_=>by simp only[fV,oU]
 |_::_,[],_=>by simp only[fV,oU]
 |r::p,s::ss,acc=>by
  simp only[fV,oU];rw[KY];split
  ·cases Oi K N r acc with
   |none=>rfl
   |some x=>exact rJ K N st p ss x
  ·exact rJ K N st p ss acc
def IG (p:List aA) (ss:List Nat) (r:nO):Int×nO:=if r.rounds=1000 then(5,pq) else
 match oU r.known r.fresh r.level p ss [] with
 |none=>(4,pq)
 |some acc=>if 200<(Eb (r.known++acc)).length then(5,pq) else
  if Eb (acc.filter fun f=> !inB r.known f)=[] then(0,⟨Eb (r.known++acc),Eb (r.known++acc),r.level+1,r.rounds+1,decide (r.level+1=countP ss)⟩)
  else(0,⟨Eb (r.known++acc),Eb (acc.filter fun f=> !inB r.known f),r.level,r.rounds+1,false⟩)
theorem II (p:List aA) (ss:List Nat) (r:nO):jG p ss r=IG p ss r:=by
 unfold jG IG qU;rw[rJ];split
 ·rfl
 ·cases oU r.known r.fresh r.level p ss [] with
  |none=>rfl
  |some acc=>simp only[rH]
def yP (p:List aA) (ss:List Nat):Nat→nO→Int×nO
 |0,r=>(0,r)
 |n+1,r=>if r.done then(0,r) else match IG p ss r with
  |(e,x)=>if e≠0 then(e,pq) else yP p ss n x
theorem FW (p:List aA) (ss:List Nat):∀(n:Nat) (r:nO),fZ p ss n r=yP p ss n r
 |0,r=>rfl
 |n+1,r=>by
  unfold fZ yP;rw[II];split
  ·rfl
  ·obtain⟨e,x,h⟩:∃e x,IG p ss r=(e,x):=⟨_,_,rfl⟩;rw[h];dsimp only;rw[FW p ss n x]
end Go.Proofs.YtafmbokfkbccaaaGreatDoor
namespace Go.Proofs.YtafmbokfkbccaaaGreatDoor
def chR : List aA :=
  [⟨⟨false, [119, 97, 121], [(true, [88]), (true, [89])]⟩, [⟨false, [114, 111, 97, 100], [(true, [88]), (true, [89])]⟩]⟩,
   ⟨⟨false, [119, 97, 121], [(true, [88]), (true, [90])]⟩, [⟨false, [119, 97, 121], [(true, [88]), (true, [89])]⟩, ⟨false, [114, 111, 97, 100], [(true, [89]), (true, [90])]⟩]⟩,
   ⟨⟨false, [99, 117, 116], [(true, [88]), (true, [89])]⟩, [⟨false, [116, 111, 119, 110], [(true, [88])]⟩, ⟨false, [116, 111, 119, 110], [(true, [89])]⟩, ⟨true, [119, 97, 121], [(true, [88]), (true, [89])]⟩]⟩]
def chN (i:Nat):ByteArray:=⟨#[116,UInt8.ofNat (97+i)]⟩
def Na (a b:Nat):aj:=(⟨#[114,111,97,100]⟩,[chN a,chN b])
def Nb (a b:Nat):aj:=(⟨#[119,97,121]⟩,[chN a,chN b])
def chL:Nat→List aj
 |0=>[]
 |n+1=>chL n++[Na n (n+1)]
def Nc (n:Nat):nO:=⟨chL n,chL n,0,0,false⟩
def upB:List aj→Bool
 |a::b::l=>decide (eF a b<0)&&upB (b::l)
 |_=>true
def Uu (n:Nat):Bool:=upB (chL n)&&((chL n).all fun f=>sD chR f)&&(match yP chR [0,0,1] (n-1) (Nc n) with
  |(e,x)=>decide (e=0)&& !inB x.known (Nb 0 n))&&(match yP chR [0,0,1] n (Nc n) with
  |(e,x)=>decide (e=0)&&inB x.known (Nb 0 n))
end Go.Proofs.YtafmbokfkbccaaaGreatDoor
namespace Go.Proofs.YtafmbokfkbccaaaGreatDoor
def rdF (u v:ByteArray):aj:=(⟨#[114,111,97,100]⟩,[u,v])
def wyF (u v:ByteArray):aj:=(⟨#[119,97,121]⟩,[u,v])
def cuF (u v:ByteArray):aj:=(⟨#[99,117,116]⟩,[u,v])
def twF (u:ByteArray):aj:=(⟨#[116,111,119,110]⟩,[u])
def aRd (x y:Bs):aF:=⟨false,[114,111,97,100],[(true,x),(true,y)]⟩
def aWy (no:Bool) (x y:Bs):aF:=⟨no,[119,97,121],[(true,x),(true,y)]⟩
def aTw (x:Bs):aF:=⟨false,[116,111,119,110],[(true,x)]⟩
def aCu (x y:Bs):aF:=⟨false,[99,117,116],[(true,x),(true,y)]⟩
def KZ:aA:=⟨aWy false [88] [89],[aRd [88] [89]]⟩
def IJ:aA:=⟨aWy false [88] [90],[aWy false [88] [89],aRd [89] [90]]⟩
def FY:aA:=⟨aCu [88] [89],[aTw [88],aTw [89],aWy true [88] [89]]⟩
theorem uF:chR=[KZ,IJ,FY]:=rfl
theorem nG {no:Bool} {nm x y:Bs} {env:List aC} {f:aj}:aQ ⟨no,nm,[(true,x),(true,y)]⟩ env=some f↔∃u v,bT env (bs x)=some u∧bT env (bs y)=some v∧f=(bs nm,[u,v]):=by
 simp only[aQ,aJ,aV,if_true];cases bT env (bs x) with
 |none=>simp
 |some u=>
  cases bT env (bs y) with
  |none=>simp
  |some v=>simp[eq_comm]
theorem IK {no:Bool} {nm x:Bs} {env:List aC} {f:aj}:aQ ⟨no,nm,[(true,x)]⟩ env=some f↔∃u,bT env (bs x)=some u∧f=(bs nm,[u]):=by
 simp only[aQ,aJ,aV,if_true];cases bT env (bs x) with
 |none=>simp
 |some u=>simp[eq_comm]
theorem bsX:(bs [88]=bs [89])=False:=by simp[bs]
theorem Pv:(bs [88]=bs [90])=False:=by simp[bs]
theorem Pw:(bs [89]=bs [90])=False:=by simp[bs]
theorem K4 (u v:ByteArray):rZ (bs [88],u) (bs [89],v)<0:=by
 have h:eS (bs [88]) (bs [89])= -1:=by decide+kernel
 rw[Ao];simp[eB,h]
theorem Px (u v:ByteArray):rZ (bs [88],u) (bs [90],v)<0:=by
 have h:eS (bs [88]) (bs [90])= -1:=by decide+kernel
 rw[Ao];simp[eB,h]
theorem Py (u v:ByteArray):rZ (bs [89],u) (bs [90],v)<0:=by
 have h:eS (bs [89]) (bs [90])= -1:=by decide+kernel
 rw[Ao];simp[eB,h]
def Dq (fs:List aj) (r:aA) (f:aj):Prop:=∃env,iq (fun _=>fs) r.body env∧aQ r.head env=some f
theorem K5 {fs:List aj} {f:aj}:Dq fs KZ f↔∃u v,rdF u v∈fs∧f=wyF u v:=by
 constructor
 ·rintro⟨env,⟨_,_,_,hs⟩,hf⟩;obtain⟨u,v,h1,h2,rfl⟩:=nG.1 hf;obtain⟨g,hg,hi⟩:=bZ.1 hs _ (by simp[KZ]:aRd [88] [89]∈KZ.body);obtain⟨u',v',h3,h4,rfl⟩:=nG.1 hg;rw[h1] at h3;rw[h2] at h4;cases h3;cases h4;exact⟨u,v,aO.1 hi,rfl⟩
 ·rintro⟨u,v,hm,rfl⟩;refine⟨[(bs [88],u),(bs [89],v)],⟨?_,?_,?_,?_⟩,?_⟩
  ·simp[K4]
  ·simp[bD,bsX]
  ·intro x;have e:dV [] KZ.body=[[88],[89]]:=by rfl
   rw[e];simp[bD]
  ·refine bZ.2 fun a ha=> ?_;simp only[KZ,List.mem_cons,List.not_mem_nil,or_false] at ha;subst ha;exact⟨rdF u v,nG.2 ⟨u,v,by simp[bT],by simp[bT,bsX],rfl⟩,aO.2 hm⟩
  ·exact nG.2 ⟨u,v,by simp[bT],by simp[bT,bsX],rfl⟩
theorem K6 {fs:List aj} {f:aj}:Dq fs IJ f↔∃u v t,wyF u v∈fs∧rdF v t∈fs∧f=wyF u t:=by
 constructor
 ·rintro⟨env,⟨_,_,_,hs⟩,hf⟩;obtain⟨u,t,h1,h2,rfl⟩:=nG.1 hf;obtain⟨g,hg,hi⟩:=bZ.1 hs _ (by simp[IJ]:aWy false [88] [89]∈IJ.body);obtain⟨u',v,h3,h4,rfl⟩:=nG.1 hg;obtain⟨g,hg',hi'⟩:=bZ.1 hs _ (by simp[IJ]:aRd [89] [90]∈IJ.body);obtain⟨v',t',h5,h6,rfl⟩:=nG.1 hg';rw[h1] at h3;rw[h4] at h5;rw[h2] at h6;cases h3;cases h5;cases h6;exact⟨u,v,t,aO.1 hi,aO.1 hi',rfl⟩
 ·rintro⟨u,v,t,hm,hm',rfl⟩;refine⟨[(bs [88],u),(bs [89],v),(bs [90],t)],⟨?_,?_,?_,?_⟩,?_⟩
  ·simp[K4,Px,Py]
  ·simp[bD,bsX,Pv,Pw]
  ·intro x;have e:dV [] IJ.body=[[88],[89],[90]]:=by rfl
   rw[e];simp[bD]
  ·refine bZ.2 fun a ha=> ?_;simp only[IJ,List.mem_cons,List.not_mem_nil,or_false] at ha;rcases ha with rfl|rfl
   ·exact⟨wyF u v,nG.2 ⟨u,v,by simp[bT],by simp[bT,bsX],rfl⟩,aO.2 hm⟩
   ·exact⟨rdF v t,nG.2 ⟨v,t,by simp[bT,bsX],by simp[bT,Pv,Pw],rfl⟩,aO.2 hm'⟩
  ·exact nG.2 ⟨u,t,by simp[bT],by simp[bT,Pv,Pw],rfl⟩
theorem K7 {fs:List aj} {f:aj}:Dq fs FY f↔∃u v,twF u∈fs∧twF v∈fs∧wyF u v∉fs∧f=cuF u v:=by
 constructor
 ·rintro⟨env,⟨_,_,_,hs⟩,hf⟩;obtain⟨u,v,h1,h2,rfl⟩:=nG.1 hf;obtain⟨g,hg,hi⟩:=bZ.1 hs _ (by simp[FY]:aTw [88]∈FY.body);obtain⟨u',h3,rfl⟩:=IK.1 hg;obtain⟨g,hg',hi'⟩:=bZ.1 hs _ (by simp[FY]:aTw [89]∈FY.body);obtain⟨v',h4,rfl⟩:=IK.1 hg';obtain⟨g,hg2,hi2⟩:=bZ.1 hs _ (by simp[FY]:aWy true [88] [89]∈FY.body);obtain⟨u2,v2,h5,h6,rfl⟩:=nG.1 hg2;rw[h1] at h3 h5;rw[h2] at h4 h6;cases h3;cases h4;cases h5;cases h6;refine⟨u,v,aO.1 hi,aO.1 hi',fun hm=> ?_,rfl⟩;have hi3:inB fs (wyF u v)=false:=hi2;rw[aO.2 hm] at hi3;cases hi3
 ·rintro⟨u,v,hm,hm',hn,rfl⟩;refine⟨[(bs [88],u),(bs [89],v)],⟨?_,?_,?_,?_⟩,?_⟩
  ·simp[K4]
  ·simp[bD,bsX]
  ·intro x;have e:dV [] FY.body=[[88],[89]]:=by rfl
   rw[e];simp[bD]
  ·refine bZ.2 fun a ha=> ?_;simp only[FY,List.mem_cons,List.not_mem_nil,or_false] at ha;rcases ha with rfl|rfl|rfl
   ·exact⟨twF u,IK.2 ⟨u,by simp[bT],rfl⟩,aO.2 hm⟩
   ·exact⟨twF v,IK.2 ⟨v,by simp[bT,bsX],rfl⟩,aO.2 hm'⟩
   ·refine⟨wyF u v,nG.2 ⟨u,v,by simp[bT],by simp[bT,bsX],rfl⟩,?_⟩;cases h:inB fs (wyF u v)
    ·rfl
    ·exact absurd (aO.1 h) hn
  ·exact nG.2 ⟨u,v,by simp[bT],by simp[bT,bsX],rfl⟩
def LZ:List aF→Nat
 |[]=>0
 |a::l=>(if a.no then 0 else 1)+LZ l
theorem rM (a:aF) (fs:List aj):∀ls:List (List aC),(aK a fs ls).length≤ls.length*fs.length
 |[]=>by simp[aK]
 |l::ls=>by
  have ih:=rM a fs ls;have h1:(fs.filterMap fun f=>dL a f l).length≤fs.length:=List.length_filterMap_le _ _;unfold aK at ih⊢;rw[List.flatMap_cons,List.length_append,List.length_cons,Nat.succ_mul];omega
theorem wm {pick:Nat→List aj} {F:Nat} (hF:∀i,(pick i).length≤F):∀(body:List aF) (n:Nat) (ls:List (List aC)) (c:Nat),ls.length≤c→(∀k,k≤LZ body→c*F ^ k≤20000)→∃ms,eu pick n body ls=some ms
 |[],n,ls,c,_,_=>⟨ls,rfl⟩
 |a::body,n,ls,c,hc,hk=>by
  unfold eu;split
  ·rename_i ha;exact wm hF body _ ls c hc fun k hk'=>hk k (by simp only[LZ,ha,if_true];omega)
  ·rename_i ha;have h1:(aK a (pick n) ls).length≤c*F:=Nat.le_trans (rM a _ ls) (Nat.mul_le_mul hc (hF n));have h2:c*F≤20000:=by have:=hk 1 (by simp only[LZ,if_neg ha];omega);simpa using this
   rw[if_neg (by omega)];refine wm hF body _ _ (c*F) h1 fun k hk'=> ?_;have:=hk (k+1) (by simp only[LZ,if_neg ha];omega);rw[Nat.pow_succ,Nat.mul_comm (F ^ k) F,←Nat.mul_assoc] at this;exact this
theorem all_some {pick:Nat→List aj} (hF:∀i,(pick i).length≤141) {r:aA} (hr:r∈chR):∃R,lF pick r.body=some R:=by
 have hp:LZ r.body≤2:=by
  rw[uF] at hr;simp only[List.mem_cons,List.not_mem_nil,or_false] at hr;rcases hr with rfl|rfl|rfl <;> decide
 obtain⟨ms,h⟩:=wm hF r.body 0 [[]] 1 (by simp) fun k hk=>by
  have:k=0∨k=1∨k=2:=by omega
  rcases this with rfl|rfl|rfl <;> decide
 exact⟨_,by unfold lF;rw[h]⟩
end Go.Proofs.YtafmbokfkbccaaaGreatDoor
