import Derived.Test.YtafmbokfkbccaaaGreatDoorJW3
namespace Go.Proofs.YtafmbokfkbccaaaGreatDoor
def Oh (pick:Nat→List aj) (body:List aF):Option (List (List aC)):=match eH pick 0 body [[]] with
 |none=>none
 |some ms=>some (kM (qC eB) ((ms.filter fun l=> !barredB pick 0 body l).map (kM eB)))
theorem K5 (pick:Nat→List aj) (body:List aF):lW pick body=Oh pick body:=by
 have e1:(jK:List aC→List aC)=kM eB:=by funext l;show iW sM l=_;rw[jN gy,Am]
 unfold lW Oh;cases eH pick 0 body [[]] with
 |none=>rfl
 |some ms=>
  dsimp only;rw[jN gP,e1,show iI=qC eB from by rw[←Am]]
def atJ (K N:List aj) (r:aA):Nat→List aF→List aj→Option (List aj)
 |_,[],acc=>some acc
 |k,a::l,acc=>if a.no then atJ K N r (k+1) l acc else
  match Oh (gT K k N) r.body with
  |none=>none
  |some R=>atJ K N r (k+1) l (acc++R.filterMap fun e=>aR r.head e)
theorem Gi (K N:List aj) (r:aA):∀(l:List aF) (k:Nat) (acc:List aj),Em K N r k l acc=atJ K N r k l acc
 |[],_,_=>rfl
 |a::l,k,acc=>by
  unfold Em atJ;split
  ·exact Gi K N r l (k+1) acc
  ·rw[K5];cases Oh (gT K k N) r.body with
   |none=>rfl
   |some R=>exact Gi K N r l (k+1) _
def Oi (K N:List aj) (r:aA) (acc:List aj):Option (List aj):=if r.body.all (·.no) then
  match uo r K with
  |none=>none
  |some x=>some (acc++x)
 else atJ K N r 0 r.body acc
theorem K6 (K N:List aj) (r:aA) (acc:List aj):Jq K N r acc=Oi K N r acc:=by
 unfold Jq Oi;rw[yC,Gi];split
 ·cases uo r K <;> rfl
 ·rfl
def pE (K N:List aj) (st:Int):List aA→List Nat→List aj→Option (List aj)
 |[],_,acc=>some acc
 |_::_,[],acc=>some acc
 |r::p,s::ss,acc=>if(s:Int)=st then
   match Oi K N r acc with
   |none=>none
   |some acc'=>pE K N st p ss acc'
  else pE K N st p ss acc
theorem sj (K N:List aj) (st:Int):∀(p:List aA) (ss:List Nat) (acc:List aj),fV K N st p ss acc=pE K N st p ss acc
 |[],_,_=>by simp only[fV,pE]
 |_::_,[],_=>by simp only[fV,pE]
 |r::p,s::ss,acc=>by
  simp only[fV,pE];rw[K6];split
  ·cases Oi K N r acc with
   |none=>rfl
   |some x=>exact sj K N st p ss x
  ·exact sj K N st p ss acc
def I5 (p:List aA) (ss:List Nat) (r:kN):Int×kN:=if r.rounds=1000 then(5,l7) else
 match pE r.known r.fresh r.level p ss [] with
 |none=>(4,l7)
 |some acc=>if 200<(El (r.known++acc)).length then(5,l7) else
  if El (acc.filter fun f=> !inB r.known f)=[] then(0,⟨El (r.known++acc),El (r.known++acc),r.level+1,r.rounds+1,decide (r.level+1=countP ss)⟩)
  else(0,⟨El (r.known++acc),El (acc.filter fun f=> !inB r.known f),r.level,r.rounds+1,false⟩)
theorem I6 (p:List aA) (ss:List Nat) (r:kN):jB p ss r=I5 p ss r:=by
 unfold jB I5 qY;rw[sj];split
 ·rfl
 ·cases pE r.known r.fresh r.level p ss [] with
  |none=>rfl
  |some acc=>simp only[qX]
def zA (p:List aA) (ss:List Nat):Nat→kN→Int×kN
 |0,r=>(0,r)
 |n+1,r=>if r.done then(0,r) else match I5 p ss r with
  |(e,x)=>if e≠0 then(e,l7) else zA p ss n x
theorem Gj (p:List aA) (ss:List Nat):∀(n:Nat) (r:kN),fq p ss n r=zA p ss n r
 |0,r=>rfl
 |n+1,r=>by
  unfold fq zA;rw[I6];split
  ·rfl
  ·obtain⟨e,x,h⟩:∃e x,I5 p ss r=(e,x):=⟨_,_,rfl⟩;rw[h];dsimp only;rw[Gj p ss n x]
end Go.Proofs.YtafmbokfkbccaaaGreatDoor
namespace Go.Proofs.YtafmbokfkbccaaaGreatDoor
def chR : List aA :=
  [⟨⟨false, [119, 97, 121], [(true, [88]), (true, [89])]⟩, [⟨false, [114, 111, 97, 100], [(true, [88]), (true, [89])]⟩]⟩,
   ⟨⟨false, [119, 97, 121], [(true, [88]), (true, [90])]⟩, [⟨false, [119, 97, 121], [(true, [88]), (true, [89])]⟩, ⟨false, [114, 111, 97, 100], [(true, [89]), (true, [90])]⟩]⟩,
   ⟨⟨false, [99, 117, 116], [(true, [88]), (true, [89])]⟩, [⟨false, [116, 111, 119, 110], [(true, [88])]⟩, ⟨false, [116, 111, 119, 110], [(true, [89])]⟩, ⟨true, [119, 97, 121], [(true, [88]), (true, [89])]⟩]⟩]
def chN (i:Nat):ByteArray:=⟨#[116,UInt8.ofNat (97+i)]⟩
def Nr (a b:Nat):aj:=(⟨#[114,111,97,100]⟩,[chN a,chN b])
def Ns (a b:Nat):aj:=(⟨#[119,97,121]⟩,[chN a,chN b])
def chL:Nat→List aj
 |0=>[]
 |n+1=>chL n++[Nr n (n+1)]
def Nt (n:Nat):kN:=⟨chL n,chL n,0,0,false⟩
def upB:List aj→Bool
 |a::b::l=>decide (eF a b<0)&&upB (b::l)
 |_=>true
def UH (n:Nat):Bool:=upB (chL n)&&((chL n).all fun f=>sS chR f)&&(match zA chR [0,0,1] (n-1) (Nt n) with
  |(e,x)=>decide (e=0)&& !inB x.known (Ns 0 n))&&(match zA chR [0,0,1] n (Nt n) with
  |(e,x)=>decide (e=0)&&inB x.known (Ns 0 n))
end Go.Proofs.YtafmbokfkbccaaaGreatDoor
namespace Go.Proofs.YtafmbokfkbccaaaGreatDoor
def rdF (u v:ByteArray):aj:=(⟨#[114,111,97,100]⟩,[u,v])
def wyF (u v:ByteArray):aj:=(⟨#[119,97,121]⟩,[u,v])
def cuF (u v:ByteArray):aj:=(⟨#[99,117,116]⟩,[u,v])
def twF (u:ByteArray):aj:=(⟨#[116,111,119,110]⟩,[u])
def aRd (x y:Bs):aF:=⟨false,[114,111,97,100],[(true,x),(true,y)]⟩
def aWy (no:Bool) (x y:Bs):aF:=⟨no,[119,97,121],[(true,x),(true,y)]⟩
def aTw (x:Bs):aF:=⟨false,[116,111,119,110],[(true,x)]⟩
def aCu (x y:Bs):aF:=⟨false,[99,117,116],[(true,x),(true,y)]⟩
def I7:aA:=⟨aWy false [88] [89],[aRd [88] [89]]⟩
def Gl:aA:=⟨aWy false [88] [90],[aWy false [88] [89],aRd [89] [90]]⟩
def D5:aA:=⟨aCu [88] [89],[aTw [88],aTw [89],aWy true [88] [89]]⟩
theorem sw:chR=[I7,Gl,D5]:=rfl
theorem jP {no:Bool} {nm x y:Bs} {env:List aC} {f:aj}:aR ⟨no,nm,[(true,x),(true,y)]⟩ env=some f↔∃u v,bQ env (bs x)=some u∧bQ env (bs y)=some v∧f=(bs nm,[u,v]):=by
 simp only[aR,aJ,aV,if_true];cases bQ env (bs x) with
 |none=>simp
 |some u=>
  cases bQ env (bs y) with
  |none=>simp
  |some v=>simp[eq_comm]
theorem I8 {no:Bool} {nm x:Bs} {env:List aC} {f:aj}:aR ⟨no,nm,[(true,x)]⟩ env=some f↔∃u,bQ env (bs x)=some u∧f=(bs nm,[u]):=by
 simp only[aR,aJ,aV,if_true];cases bQ env (bs x) with
 |none=>simp
 |some u=>simp[eq_comm]
theorem bsX:(bs [88]=bs [89])=False:=by simp[bs]
theorem Qa:(bs [88]=bs [90])=False:=by simp[bs]
theorem Qb:(bs [89]=bs [90])=False:=by simp[bs]
theorem K7 (u v:ByteArray):sM (bs [88],u) (bs [89],v)<0:=by
 have h:eS (bs [88]) (bs [89])= -1:=by decide+kernel
 rw[Am];simp[eB,h]
theorem Qc (u v:ByteArray):sM (bs [88],u) (bs [90],v)<0:=by
 have h:eS (bs [88]) (bs [90])= -1:=by decide+kernel
 rw[Am];simp[eB,h]
theorem Qd (u v:ByteArray):sM (bs [89],u) (bs [90],v)<0:=by
 have h:eS (bs [89]) (bs [90])= -1:=by decide+kernel
 rw[Am];simp[eB,h]
def D6 (fs:List aj) (r:aA) (f:aj):Prop:=∃env,iU (fun _=>fs) r.body env∧aR r.head env=some f
theorem K8 {fs:List aj} {f:aj}:D6 fs I7 f↔∃u v,rdF u v∈fs∧f=wyF u v:=by
 constructor
 ·rintro⟨env,⟨_,_,_,hs⟩,hf⟩;obtain⟨u,v,h1,h2,rfl⟩:=jP.1 hf;obtain⟨g,hg,hi⟩:=cZ.1 hs _ (by simp[I7]:aRd [88] [89]∈I7.body);obtain⟨u',v',h3,h4,rfl⟩:=jP.1 hg;rw[h1] at h3;rw[h2] at h4;cases h3;cases h4;exact⟨u,v,aN.1 hi,rfl⟩
 ·rintro⟨u,v,hm,rfl⟩;refine⟨[(bs [88],u),(bs [89],v)],⟨?_,?_,?_,?_⟩,?_⟩
  ·simp[K7]
  ·simp[bH,bsX]
  ·intro x;have e:dS [] I7.body=[[88],[89]]:=by rfl
   rw[e];simp[bH]
  ·refine cZ.2 fun a ha=> ?_;simp only[I7,List.mem_cons,List.not_mem_nil,or_false] at ha;subst ha;exact⟨rdF u v,jP.2 ⟨u,v,by simp[bQ],by simp[bQ,bsX],rfl⟩,aN.2 hm⟩
  ·exact jP.2 ⟨u,v,by simp[bQ],by simp[bQ,bsX],rfl⟩
theorem K9 {fs:List aj} {f:aj}:D6 fs Gl f↔∃u v t,wyF u v∈fs∧rdF v t∈fs∧f=wyF u t:=by
 constructor
 ·rintro⟨env,⟨_,_,_,hs⟩,hf⟩;obtain⟨u,t,h1,h2,rfl⟩:=jP.1 hf;obtain⟨g,hg,hi⟩:=cZ.1 hs _ (by simp[Gl]:aWy false [88] [89]∈Gl.body);obtain⟨u',v,h3,h4,rfl⟩:=jP.1 hg;obtain⟨g,hg',hi'⟩:=cZ.1 hs _ (by simp[Gl]:aRd [89] [90]∈Gl.body);obtain⟨v',t',h5,h6,rfl⟩:=jP.1 hg';rw[h1] at h3;rw[h4] at h5;rw[h2] at h6;cases h3;cases h5;cases h6;exact⟨u,v,t,aN.1 hi,aN.1 hi',rfl⟩
 ·rintro⟨u,v,t,hm,hm',rfl⟩;refine⟨[(bs [88],u),(bs [89],v),(bs [90],t)],⟨?_,?_,?_,?_⟩,?_⟩
  ·simp[K7,Qc,Qd]
  ·simp[bH,bsX,Qa,Qb]
  ·intro x;have e:dS [] Gl.body=[[88],[89],[90]]:=by rfl
   rw[e];simp[bH]
  ·refine cZ.2 fun a ha=> ?_;simp only[Gl,List.mem_cons,List.not_mem_nil,or_false] at ha;rcases ha with rfl|rfl
   ·exact⟨wyF u v,jP.2 ⟨u,v,by simp[bQ],by simp[bQ,bsX],rfl⟩,aN.2 hm⟩
   ·exact⟨rdF v t,jP.2 ⟨v,t,by simp[bQ,bsX],by simp[bQ,Qa,Qb],rfl⟩,aN.2 hm'⟩
  ·exact jP.2 ⟨u,t,by simp[bQ],by simp[bQ,Qa,Qb],rfl⟩
theorem La {fs:List aj} {f:aj}:D6 fs D5 f↔∃u v,twF u∈fs∧twF v∈fs∧wyF u v∉fs∧f=cuF u v:=by
 constructor
 ·rintro⟨env,⟨_,_,_,hs⟩,hf⟩;obtain⟨u,v,h1,h2,rfl⟩:=jP.1 hf;obtain⟨g,hg,hi⟩:=cZ.1 hs _ (by simp[D5]:aTw [88]∈D5.body);obtain⟨u',h3,rfl⟩:=I8.1 hg;obtain⟨g,hg',hi'⟩:=cZ.1 hs _ (by simp[D5]:aTw [89]∈D5.body);obtain⟨v',h4,rfl⟩:=I8.1 hg';obtain⟨g,hg2,hi2⟩:=cZ.1 hs _ (by simp[D5]:aWy true [88] [89]∈D5.body);obtain⟨u2,v2,h5,h6,rfl⟩:=jP.1 hg2;rw[h1] at h3 h5;rw[h2] at h4 h6;cases h3;cases h4;cases h5;cases h6;refine⟨u,v,aN.1 hi,aN.1 hi',fun hm=> ?_,rfl⟩;have hi3:inB fs (wyF u v)=false:=hi2;rw[aN.2 hm] at hi3;cases hi3
 ·rintro⟨u,v,hm,hm',hn,rfl⟩;refine⟨[(bs [88],u),(bs [89],v)],⟨?_,?_,?_,?_⟩,?_⟩
  ·simp[K7]
  ·simp[bH,bsX]
  ·intro x;have e:dS [] D5.body=[[88],[89]]:=by rfl
   rw[e];simp[bH]
  ·refine cZ.2 fun a ha=> ?_;simp only[D5,List.mem_cons,List.not_mem_nil,or_false] at ha;rcases ha with rfl|rfl|rfl
   ·exact⟨twF u,I8.2 ⟨u,by simp[bQ],rfl⟩,aN.2 hm⟩
   ·exact⟨twF v,I8.2 ⟨v,by simp[bQ,bsX],rfl⟩,aN.2 hm'⟩
   ·refine⟨wyF u v,jP.2 ⟨u,v,by simp[bQ],by simp[bQ,bsX],rfl⟩,?_⟩;cases h:inB fs (wyF u v)
    ·rfl
    ·exact absurd (aN.1 h) hn
  ·exact jP.2 ⟨u,v,by simp[bQ],by simp[bQ,bsX],rfl⟩
def LJ:List aF→Nat
 |[]=>0
 |a::l=>(if a.no then 0 else 1)+LJ l
theorem sD (a:aF) (fs:List aj):∀ls:List (List aC),(aL a fs ls).length≤ls.length*fs.length
 |[]=>by simp[aL]
 |l::ls=>by
  have ih:=sD a fs ls;have h1:(fs.filterMap fun f=>dH a f l).length≤fs.length:=List.length_filterMap_le _ _;unfold aL at ih⊢;rw[List.flatMap_cons,List.length_append,List.length_cons,Nat.succ_mul];omega
theorem wW {pick:Nat→List aj} {F:Nat} (hF:∀i,(pick i).length≤F):∀(body:List aF) (n:Nat) (ls:List (List aC)) (c:Nat),ls.length≤c→(∀k,k≤LJ body→c*F ^ k≤20000)→∃ms,eH pick n body ls=some ms
 |[],n,ls,c,_,_=>⟨ls,rfl⟩
 |a::body,n,ls,c,hc,hk=>by
  unfold eH;split
  ·rename_i ha;exact wW hF body _ ls c hc fun k hk'=>hk k (by simp only[LJ,ha,if_true];omega)
  ·rename_i ha;have h1:(aL a (pick n) ls).length≤c*F:=Nat.le_trans (sD a _ ls) (Nat.mul_le_mul hc (hF n));have h2:c*F≤20000:=by have:=hk 1 (by simp only[LJ,if_neg ha];omega);simpa using this
   rw[if_neg (by omega)];refine wW hF body _ _ (c*F) h1 fun k hk'=> ?_;have:=hk (k+1) (by simp only[LJ,if_neg ha];omega);rw[Nat.pow_succ,Nat.mul_comm (F ^ k) F,←Nat.mul_assoc] at this;exact this
theorem all_some {pick:Nat→List aj} (hF:∀i,(pick i).length≤141) {r:aA} (hr:r∈chR):∃R,lW pick r.body=some R:=by
 have hp:LJ r.body≤2:=by
  rw[sw] at hr;simp only[List.mem_cons,List.not_mem_nil,or_false] at hr;rcases hr with rfl|rfl|rfl <;> decide
 obtain⟨ms,h⟩:=wW hF r.body 0 [[]] 1 (by simp) fun k hk=>by
  have:k=0∨k=1∨k=2:=by omega
  rcases this with rfl|rfl|rfl <;> decide
 exact⟨_,by unfold lW;rw[h]⟩
end Go.Proofs.YtafmbokfkbccaaaGreatDoor
namespace Go.Proofs.YtafmbokfkbccaaaGreatDoor
inductive jo (E:Nat→Nat→Prop):Nat→Nat→Prop
 |one {a b:Nat}:E a b→jo E a b
 |more {a b c:Nat}:jo E a b→E b c→jo E a c
theorem jo.trans {E:Nat→Nat→Prop} {a b c:Nat} (h:jo E a b) (h':jo E b c):jo E a c:=by
 induction h' with
 |one e=>exact .more h e
 |more _ e ih=>exact .more ih e
theorem jo.mono {E F:Nat→Nat→Prop} (h:∀a b,E a b→F a b) {a b:Nat} (hl:jo E a b):jo F a b:=by
 induction hl with
 |one e=>exact .one (h _ _ e)
 |more _ e ih=>exact .more ih (h _ _ e)
def JE (f:Nat→Nat→Bool) (a b c:Nat):Nat→Nat→Bool:=fun x y=>if x=a∧y=c then f a c||(f a b&&f b c) else f x y
def wX (f:Nat→Nat→Bool) (a b:Nat):Nat→Nat→Nat→Bool
 |0=>f
 |c+1=>JE (wX f a b c) a b c
def zB (n:Nat) (f:Nat→Nat→Bool) (a:Nat):Nat→Nat→Nat→Bool
 |0=>f
 |b+1=>wX (zB n f a b) a b n
def zC (n:Nat) (f:Nat→Nat→Bool):Nat→Nat→Nat→Bool
 |0=>f
 |a+1=>zB n (zC n f a) a n
def pK (n:Nat) (f:Nat→Nat→Bool):Nat→Nat→Nat→Bool
 |0=>f
 |k+1=>zC n (pK n f k) n
def LeR (f g:Nat→Nat→Bool):Prop:=∀x y,f x y=true→g x y=true
theorem LeR.trans {f g h:Nat→Nat→Bool} (a:LeR f g) (b:LeR g h):LeR f h:=fun x y e=>b x y (a x y e)
theorem JF (f:Nat→Nat→Bool) (a b c:Nat):LeR f (JE f a b c):=fun x y e=>by
 unfold JE;split
 ·rename_i h;rw[←h.1,←h.2,e,Bool.true_or]
 ·exact e
theorem nK (f:Nat→Nat→Bool) (a b:Nat):∀c,LeR f (wX f a b c)
 |0=>fun _ _ e=>e
 |c+1=>(nK f a b c).trans (JF _ _ _ _)
theorem nL (n:Nat) (f:Nat→Nat→Bool) (a:Nat):∀b,LeR f (zB n f a b)
 |0=>fun _ _ e=>e
 |b+1=>(nL n f a b).trans (nK _ _ _ _)
theorem qb (n:Nat) (f:Nat→Nat→Bool):∀a,LeR f (zC n f a)
 |0=>fun _ _ e=>e
 |a+1=>(qb n f a).trans (nL _ _ _ _)
theorem zD {f:Nat→Nat→Bool} {a b c:Nat} (h1:f a b=true) (h2:f b c=true):∀{C:Nat},c<C→wX f a b C a c=true
 |0,h=>by omega
 |C+1,h=>by
  by_cases e:c=C
  ·subst e;show JE _ a b c a c=true;unfold JE;rw[if_pos ⟨rfl,rfl⟩,nK f a b c _ _ h1,nK f a b c _ _ h2];simp
  ·exact JF _ _ _ _ _ _ (zD h1 h2 (by omega))
theorem zF {n:Nat} {f:Nat→Nat→Bool} {a b c:Nat} (h1:f a b=true) (h2:f b c=true) (hc:c<n):∀{B:Nat},b<B→zB n f a B a c=true
 |0,h=>by omega
 |B+1,h=>by
  by_cases e:b=B
  ·subst e;exact zD (nL n f a b _ _ h1) (nL n f a b _ _ h2) hc
  ·exact nK _ _ _ _ _ _ (zF h1 h2 hc (by omega))
theorem zG {n:Nat} {f:Nat→Nat→Bool} {a b c:Nat} (h1:f a b=true) (h2:f b c=true) (hb:b<n) (hc:c<n):∀{A:Nat},a<A→zC n f A a c=true
 |0,h=>by omega
 |A+1,h=>by
  by_cases e:a=A
  ·subst e;exact zF (qb n f a _ _ h1) (qb n f a _ _ h2) hc hb
  ·exact nL _ _ _ _ _ _ (zG h1 h2 hb hc (by omega))
def GX (E:Nat→Nat→Prop) (f:Nat→Nat→Bool):Prop:=∀x y,f x y=true→jo E x y
theorem Lb {E:Nat→Nat→Prop} {f:Nat→Nat→Bool} (h:GX E f) (a b c:Nat):GX E (JE f a b c):=fun x y e=>by
 unfold JE at e;split at e
 ·rename_i hx;rw[hx.1,hx.2];simp only[Bool.or_eq_true,Bool.and_eq_true] at e;rcases e with e|e
  ·exact h _ _ e
  ·exact(h _ _ e.1).trans (h _ _ e.2)
 ·exact h _ _ e
theorem zH {E:Nat→Nat→Prop} {f:Nat→Nat→Bool} (h:GX E f) (a b:Nat):∀c,GX E (wX f a b c)
 |0=>h
 |c+1=>Lb (zH h a b c) _ _ _
theorem zI {E:Nat→Nat→Prop} {n:Nat} {f:Nat→Nat→Bool} (h:GX E f) (a:Nat):∀b,GX E (zB n f a b)
 |0=>h
 |b+1=>zH (zI h a b) _ _ _
theorem zJ {E:Nat→Nat→Prop} {n:Nat} {f:Nat→Nat→Bool} (h:GX E f):∀a,GX E (zC n f a)
 |0=>h
 |a+1=>zI (zJ h a) _ _
theorem zK {E:Nat→Nat→Prop} {n:Nat} {f:Nat→Nat→Bool} (h:GX E f):∀k,GX E (pK n f k)
 |0=>h
 |k+1=>zJ (zK h k) _
def Via (E:Nat→Nat→Prop):Nat→Nat→Nat→Prop
 |0=>E
 |k+1=>fun a b=>Via E k a b∨(Via E k a k∧Via E k k b)
theorem Via.trans {E:Nat→Nat→Prop}:∀{k a x b:Nat},x<k→Via E k a x→Via E k x b→Via E k a b
 |0,a,x,b,h,_,_=>by omega
 |k+1,a,x,b,h,h1,h2=>by
  by_cases e:x=k
  ·subst e;exact Or.inr ⟨h1.elim id (·.1),h2.elim id (·.2)⟩
  ·have hx:x<k:=by omega
   rcases h1 with h1|⟨h1,h3⟩
   ·rcases h2 with h2|⟨h2,h4⟩
    ·exact Or.inl (Via.trans hx h1 h2)
    ·exact Or.inr ⟨Via.trans hx h1 h2,h4⟩
   ·rcases h2 with h2|⟨_,h4⟩
    ·exact Or.inr ⟨h1,Via.trans hx h3 h2⟩
    ·exact Or.inr ⟨h1,h4⟩
theorem Gm {E:Nat→Nat→Prop} {a b:Nat} (h:E a b):∀k,Via E k a b
 |0=>h
 |k+1=>Or.inl (Gm h k)
theorem Gn {E:Nat→Nat→Prop} {n:Nat} (hE:∀a b,E a b→a<n∧b<n) {a b:Nat} (h:jo E a b):Via E n a b:=by
 induction h with
 |one e=>exact Gm e n
 |more _ e ih=>exact Via.trans (hE _ _ e).1 ih (Gm e n)
theorem qd {E:Nat→Nat→Prop} {n:Nat} {f:Nat→Nat→Bool} (hf:∀a b,E a b→f a b=true):∀{k:Nat},k≤n→∀{a b},a<n→b<n→Via E k a b→pK n f k a b=true
 |0,_,a,b,_,_,h=>hf a b h
 |k+1,hk,a,b,ha,hb,h=>by
  rcases h with h|⟨h1,h2⟩
  ·exact qb _ _ _ _ _ (qd hf (by omega) ha hb h)
  ·exact zG (qd hf (by omega) ha (by omega) h1) (qd hf (by omega) (by omega) hb h2) (by omega) hb ha
theorem uX {n:Nat} {f:Nat→Nat→Bool} (hf:∀a b,f a b=true→a<n∧b<n) {a b:Nat} (ha:a<n) (hb:b<n):pK n f n a b=true↔jo (fun a b=>f a b=true) a b:=
 ⟨fun h=>zK (fun _ _ e=>.one e) n a b h,fun h=>qd (fun _ _ e=>e) (Nat.le_refl n) ha hb (Gn hf h)⟩
structure Net (n:Nat) (E:Nat→Nat→Prop) (L:List aj):Prop where
 n6:n≤6
 e8:∀a b,E a b→a<8∧b<8
 up:Up L
 few:L.length≤20
 mem:∀f,f∈L↔(∃a b,E a b∧f=rdF (chN a) (chN b))∨∃k,k<n∧f=twF (chN k)
def sF:List (Nat×Nat):=(List.range 8).flatMap fun a=>(List.range 8).map fun b=>(a,b)
theorem nM {a b:Nat} (ha:a<8) (hb:b<8):(a,b)∈sF:=by
 simp only[sF,List.mem_flatMap,List.mem_map,List.mem_range];exact⟨a,ha,b,hb,rfl⟩
def Cr:List (Nat×Nat):=(List.range 6).flatMap fun a=>(List.range 6).map fun b=>(a,b)
theorem D7 {a b:Nat} (ha:a<6) (hb:b<6):(a,b)∈Cr:=by
 simp only[Cr,List.mem_flatMap,List.mem_map,List.mem_range];exact⟨a,ha,b,hb,rfl⟩
theorem D8:sF.length=64:=by decide
theorem D9:Cr.length=36:=by decide
def InU (n:Nat) (E:Nat→Nat→Prop) (L:List aj) (f:aj):Prop:=f∈L∨(∃a b,a<8∧b<8∧jo E a b∧f=wyF (chN a) (chN b))∨∃a b,a<n∧b<n∧f=cuF (chN a) (chN b)
def Nu (L:List aj):List aj:=L++(sF.map fun p=>wyF (chN p.1) (chN p.2))++Cr.map fun p=>cuF (chN p.1) (chN p.2)
variable {n:Nat} {E:Nat→Nat→Prop} {L:List aj}
theorem Net.all (h:Net n E L) {f:aj} (hf:InU n E L f):f∈Nu L:=by
 have h6:=h.n6;simp only[Nu,List.mem_append,List.mem_map];rcases hf with hf|⟨a,b,ha,hb,_,rfl⟩|⟨a,b,ha,hb,rfl⟩
 ·exact Or.inl (Or.inl hf)
 ·exact Or.inl (Or.inr ⟨(a,b),nM ha hb,rfl⟩)
 ·exact Or.inr ⟨(a,b),D7 (by omega) (by omega),rfl⟩
theorem Net.JG (h:Net n E L):(Nu L).length≤141:=by
 have:=h.few;simp only[Nu,List.length_append,List.length_map,D8,D9];omega
theorem Net.len (h:Net n E L) {K:List aj} (hu:Up K) (hK:∀f∈K,InU n E L f):K.length≤141:=
 Nat.le_trans (sQ hu fun f hf=>h.all (hK f hf)) h.JG
theorem oI {a b:Nat} (ha:a<8) (hb:b<8) (h:chN a=chN b):a=b:=by
 have key:∀p∈sF,chN p.1=chN p.2→p.1=p.2:=by decide+kernel
 exact key _ (nM ha hb) h
theorem Nv {u v u' v':ByteArray}:rdF u v=rdF u' v'↔u=u'∧v=v':=by simp[rdF]
theorem Nw {u v u' v':ByteArray}:wyF u v=wyF u' v'↔u=u'∧v=v':=by simp[wyF]
theorem Ny {u v u' v':ByteArray}:cuF u v=cuF u' v'↔u=u'∧v=v':=by simp[cuF]
theorem Nz {u u':ByteArray}:twF u=twF u'↔u=u':=by simp[twF]
theorem Net.rd (h:Net n E L) {u v:ByteArray} (hf:InU n E L (rdF u v)):∃a b,E a b∧u=chN a∧v=chN b:=by
 rcases hf with hf|⟨a,b,_,_,_,e⟩|⟨a,b,_,_,e⟩
 ·rcases(h.mem _).1 hf with⟨a,b,he,e⟩|⟨k,_,e⟩
  ·exact⟨a,b,he,Nv.1 e⟩
  ·simp[rdF,twF] at e
 ·simp[rdF,wyF] at e
 ·simp[rdF,cuF] at e
theorem Net.wy (h:Net n E L) {u v:ByteArray} (hf:InU n E L (wyF u v)):∃a b,a<8∧b<8∧jo E a b∧u=chN a∧v=chN b:=by
 rcases hf with hf|⟨a,b,ha,hb,hl,e⟩|⟨a,b,_,_,e⟩
 ·rcases(h.mem _).1 hf with⟨a,b,he,e⟩|⟨k,_,e⟩
  ·simp[rdF,wyF] at e
  ·simp[wyF,twF] at e
 ·exact⟨a,b,ha,hb,hl,Nw.1 e⟩
 ·simp[wyF,cuF] at e
theorem Net.tw (h:Net n E L) {u:ByteArray} (hf:InU n E L (twF u)):∃k,k<n∧u=chN k:=by
 rcases hf with hf|⟨a,b,_,_,_,e⟩|⟨a,b,_,_,e⟩
 ·rcases(h.mem _).1 hf with⟨a,b,_,e⟩|⟨k,hk,e⟩
  ·simp[rdF,twF] at e
  ·exact⟨k,hk,Nz.1 e⟩
 ·simp[twF,wyF] at e
 ·simp[twF,cuF] at e
theorem Net.made (h:Net n E L) {K:List aj} (hK:∀f∈K,InU n E L f) {r:aA} (hr:r∈chR) {f:aj} (hm:D6 K r f):InU n E L f:=by
 rw[sw] at hr;simp only[List.mem_cons,List.not_mem_nil,or_false] at hr;rcases hr with rfl|rfl|rfl
 ·obtain⟨u,v,h1,rfl⟩:=K8.1 hm;obtain⟨a,b,he,rfl,rfl⟩:=h.rd (hK _ h1);exact Or.inr (Or.inl ⟨a,b,(h.e8 a b he).1,(h.e8 a b he).2,.one he,rfl⟩)
 ·obtain⟨u,v,t,h1,h2,rfl⟩:=K9.1 hm;obtain⟨a,b,ha,hb,hl,rfl,rfl⟩:=h.wy (hK _ h1);obtain⟨c,d,he,e,rfl⟩:=h.rd (hK _ h2);obtain rfl:=oI hb (h.e8 c d he).1 e;exact Or.inr (Or.inl ⟨a,d,ha,(h.e8 _ d he).2,.more hl he,rfl⟩)
 ·obtain⟨u,v,h1,h2,_,rfl⟩:=La.1 hm;obtain⟨a,ha,rfl⟩:=h.tw (hK _ h1);obtain⟨b,hb,rfl⟩:=h.tw (hK _ h2);exact Or.inr (Or.inr ⟨a,b,ha,hb,rfl⟩)
def lvC (s:Bs):Nat:=if s=[99,117,116] then 1 else 0
theorem zL:chR.map (fun r=>lvC r.head.name)=[0,0,1]:=by decide
theorem jQ:bZ chR:=lq.1 (by decide+kernel)
theorem JH:Sol chR lvC:=fun r hr a ha _=>(by decide+kernel:∀r∈chR,∀a∈r.body,lvC a.name+step a≤lvC r.head.name) r hr a ha
theorem Net.good (h:Net n E L):GoodS chR L:=by
 have k1:∀p∈sF,gV (rdF (chN p.1) (chN p.2))∧sS chR (rdF (chN p.1) (chN p.2))=true:=by unfold gV;decide+kernel
 have k2:∀k∈List.range 8,gV (twF (chN k))∧sS chR (twF (chN k))=true:=by unfold gV;decide+kernel
 have key:∀f∈L,gV f∧sS chR f=true:=fun f hf=>by
  rcases(h.mem f).1 hf with⟨a,b,he,rfl⟩|⟨k,hk,rfl⟩
  ·exact k1 (a,b) (nM (h.e8 a b he).1 (h.e8 a b he).2)
  ·exact k2 k (List.mem_range.2 (by have:=h.n6;omega))
 exact⟨h.up,fun f hf=>(key f hf).1,by have:=h.few;omega,fun f hf=>(key f hf).2⟩
theorem Net.heads (h:Net n E L) {K:List aj} (hu:Up K) (hK:∀f∈K,InU n E L f) {r:aA} (hr:r∈chR):∃x,dX r K=some x∧∀f,f∈x↔D6 K r f:=by
 obtain⟨R,hR⟩:=all_some (pick:=fun _=>K) (fun _=>h.len hu hK) hr;have e:dX r K=some (eY (R.filterMap fun l=>aR r.head l)):=by unfold dX;rw[hR]
 exact⟨_,e,fU (bL (jQ.rules r hr)) e⟩
theorem Net.once (h:Net n E L) {K:List aj} (hu:Up K) (hK:∀f∈K,InU n E L f) (st:Int):∃S,bT chR [0,0,1] st K=(0,S)∧Up S∧∀f∈S,InU n E L f:=by
 rw[←zL];have h0:(eZ st K chR (chR.map fun r=>lvC r.head.name) K).1=0:=by
  refine qQ (fun r=>lvC r.head.name) (T:=Nu L) (Nat.le_trans h.JG (by omega)) (fun r hr _=> ?_) fun f hf=>h.all (hK f hf);obtain⟨x,hx,hm⟩:=h.heads hu hK hr;exact⟨x,hx,fun f hf=>h.all (h.made hK hr ((hm f).1 hf))⟩
 have e:bT chR (chR.map fun r=>lvC r.head.name) st K=(0,(bT chR (chR.map fun r=>lvC r.head.name) st K).2):=Prod.ext h0 rfl;obtain⟨_,_,h3,h4,_⟩:=gL (fun r=>lvC r.head.name) e;refine⟨_,e,h4,fun f hf=> ?_⟩;rcases h3 f hf with hf|⟨r,hr,_,x,hx,hf⟩
 ·exact hK f hf
 ·obtain⟨y,hy,hm⟩:=h.heads hu hK hr;rw[hx] at hy;cases hy;exact h.made hK hr ((hm f).1 hf)
theorem Net.over (h:Net n E L) (st:Int):∀(k:Nat) {K:List aj},Up K→(∀f∈K,InU n E L f)→∃S,dI chR [0,0,1] st k K=(0,S)∧Up S∧∀f∈S,InU n E L f
 |0,K,hu,hK=>⟨K,rfl,hu,hK⟩
 |k+1,K,hu,hK=>by
  obtain⟨S,h1,h2,h3⟩:=h.once hu hK st;unfold dI;rw[h1];dsimp only;rw[if_neg (by simp)];split
  ·exact⟨S,rfl,h2,h3⟩
  ·exact h.over st k h2 h3
theorem Net.run (h:Net n E L):∀(c m:Nat) {K:List aj},Up K→(∀f∈K,InU n E L f)→∃S,gZ chR [0,0,1] c m K=(0,S)∧Up S∧∀f∈S,InU n E L f
 |0,m,K,hu,hK=>⟨K,rfl,hu,hK⟩
 |c+1,m,K,hu,hK=>by
  obtain⟨S,h1,h2,h3⟩:=h.over m 201 hu hK;unfold gZ;rw[h1];dsimp only;rw[if_neg (by simp)];exact h.run c (m+1) h2 h3
theorem Net.follows (h:Net n E L):∃M,gZ chR [0,0,1] 2 0 L=(0,M)∧Up M∧(∀f∈M,InU n E L f)∧(∀f∈L,f∈M)∧(∀a b,a<8→b<8→(wyF (chN a) (chN b)∈M↔jo E a b))∧∀a b,a<n→b<n→(cuF (chN a) (chN b)∈M↔¬jo E a b):=by
 obtain⟨M,h1,h2,h3⟩:=h.run 2 0 h.up fun f hf=>Or.inl hf;have h6:=h.n6;have ec:countP (chR.map fun r=>lvC r.head.name)=2:=by decide
 have e1:gZ chR (chR.map fun r=>lvC r.head.name) (countP (chR.map fun r=>lvC r.head.name)) 0 L=(0,M):=by rw[ec,zL];exact h1
 obtain⟨m1,m2⟩:=qR jQ JH h.good e1;have hd:=C8 jQ JH h.good e1 fun r hr=>by obtain⟨x,hx,_⟩:=h.heads h2 h3 hr;exact⟨x,hx⟩
 have hcl:∀r∈chR,∀f,D6 M r f→f∈M:=fun r hr f hf=>by
  obtain⟨x,hx,hm⟩:=h.heads h2 h3 hr;exact m2 r hr x hx f ((hm f).2 hf)
 have hw:∀a b,a<8→b<8→(wyF (chN a) (chN b)∈M↔jo E a b):=fun a b ha hb=>by
  constructor
  ·intro hm;obtain⟨c,d,hc,hd,hl,e1,e2⟩:=h.wy (h3 _ hm);rw[oI ha hc e1,oI hb hd e2];exact hl
  ·intro hl;clear ha hb
   induction hl with
   |one e=>exact hcl I7 (by rw[sw];simp) _ (K8.2 ⟨_,_,m1 _ ((h.mem _).2 (Or.inl ⟨_,_,e,rfl⟩)),rfl⟩)
   |more _ e ih=>exact hcl Gl (by rw[sw];simp) _ (K9.2 ⟨_,_,_,ih,m1 _ ((h.mem _).2 (Or.inl ⟨_,_,e,rfl⟩)),rfl⟩)
 refine⟨M,h1,h2,h3,m1,hw,fun a b ha hb=> ?_⟩
 constructor
 ·intro hm hl;rcases(hd _).1 hm with hL|⟨r,hr,x,hx,hf⟩
  ·rcases(h.mem _).1 hL with⟨_,_,_,e⟩|⟨_,_,e⟩
   ·simp[rdF,cuF] at e
   ·simp[cuF,twF] at e
  ·obtain⟨y,hy,hmm⟩:=h.heads h2 h3 hr;rw[hx] at hy;cases hy;have hmd:=(hmm _).1 hf;rw[sw] at hr;simp only[List.mem_cons,List.not_mem_nil,or_false] at hr;rcases hr with rfl|rfl|rfl
   ·obtain⟨u,v,_,e⟩:=K8.1 hmd;simp[wyF,cuF] at e
   ·obtain⟨u,v,t,_,_,e⟩:=K9.1 hmd;simp[wyF,cuF] at e
   ·obtain⟨u,v,_,_,hn,e⟩:=La.1 hmd;obtain⟨rfl,rfl⟩:=Ny.1 e;exact hn ((hw a b (by omega) (by omega)).2 hl)
 ·intro hl;refine hcl D5 (by rw[sw];simp) _ (La.2 ⟨_,_,m1 _ ((h.mem _).2 (Or.inr ⟨a,ha,rfl⟩)),m1 _ ((h.mem _).2 (Or.inr ⟨b,hb,rfl⟩)),fun hm=>hl ((hw a b (by omega) (by omega)).1 hm),rfl⟩)
theorem wY {K N:List aj} {r:aA} (hr:r∈chR) (hK:K.length≤141) (hN:N.length≤141):∀(l:List aF) (k:Nat) (acc:List aj),∃S,Em K N r k l acc=some S
 |[],k,acc=>⟨acc,rfl⟩
 |a::l,k,acc=>by
  unfold Em;split
  ·exact wY hr hK hN l _ _
  ·obtain⟨R,hR⟩:=all_some (pick:=gT K k N) (fun i=>by unfold gT;split <;> assumption) hr;rw[hR];exact wY hr hK hN l _ _
theorem Gr {K N:List aj} {r:aA} (hr:r∈chR) (hK:K.length≤141) (hN:N.length≤141) (acc:List aj):∃S,Jq K N r acc=some S:=by
 unfold Jq;split
 ·obtain⟨R,hR⟩:=all_some (pick:=fun _=>K) (fun _=>hK) hr;have e:dX r K=some (eY (R.filterMap fun l=>aR r.head l)):=by unfold dX;rw[hR]
  rw[e];exact⟨_,rfl⟩
 ·exact wY hr hK hN _ _ _
theorem mH {K N:List aj} (hK:K.length≤141) (hN:N.length≤141) (st:Int):∀(p:List aA) (ss:List Nat) (acc:List aj),(∀r∈p,r∈chR)→∃S,fV K N st p ss acc=some S
 |[],_,acc,_=>⟨acc,rfl⟩
 |_::_,[],acc,_=>⟨acc,rfl⟩
 |r::p,s::ss,acc,h=>by
  unfold fV;split
  ·obtain⟨S,hS⟩:=Gr (h r (by simp)) hK hN acc;rw[hS];exact mH hK hN st p ss S fun q hq=>h q (by simp[hq])
  ·exact mH hK hN st p ss acc fun q hq=>h q (by simp[hq])
theorem Net.next (h:Net n E L) {r:kN} (hr:qZ chR 2 r) (hK:∀f∈r.known,InU n E L f) (h0:r.rounds≠1000):∃x,jB chR [0,0,1] r=(0,x)∧∀f∈x.known,InU n E L f:=by
 have hk:=h.len hr.good.up hK;have hf:=Nat.le_trans (sQ hr.up hr.sub) hk;obtain⟨M,hM⟩:=mH hk hf r.level chR [0,0,1] [] fun _ h=>h;have hM':=hM;rw[←zL] at hM';have hmem:∀f∈M,InU n E L f:=fun f hf=>by
  rcases(ji (fun r=>lvC r.head.name) jQ.rules hM' f).1 hf with h1|⟨q,hq,_,hm⟩
  ·cases h1
  ·exact h.made hK hq (nX hr.sub hm)
 have hall:∀f∈eY (r.known++M),InU n E L f:=fun f hf=>(List.mem_append.1 (bO.1 hf)).elim (hK f) (hmem f);have hlen:=h.len (gF (r.known++M)) hall;unfold jB;rw[if_neg h0,hM];dsimp only;rw[if_neg (by omega)];split
 ·exact⟨_,rfl,hall⟩
 ·exact⟨_,rfl,hall⟩
theorem Net.steps (h:Net n E L):∀(m:Nat) {r:kN},qZ chR 2 r→(∀f∈r.known,InU n E L f)→r.rounds+m≤1000→∃x,fq chR [0,0,1] m r=(0,x)∧qZ chR 2 x∧∀f∈x.known,InU n E L f
 |0,r,hr,hK,_=>⟨r,rfl,hr,hK⟩
 |m+1,r,hr,hK,hm=>by
  unfold fq;split
  ·exact⟨r,rfl,hr,hK⟩
  ·rename_i hd;obtain⟨x,hx,hxK⟩:=h.next hr hK (by omega)
   have hx':=hx;rw[←zL] at hx';have ec:countP (chR.map fun r=>lvC r.head.name)=2:=by decide
   have hn:=nY jQ (fun r=>lvC r.head.name) (by rw[ec];exact hr) (by simpa using hd) hx';rw[ec] at hn;rw[hx];dsimp only;rw[if_neg (by simp)];exact h.steps m hn.1 hxK (by have:=hn.2.2.1;omega)
theorem Net.rounds (h:Net n E L) {M:List aj} (hM:gZ chR [0,0,1] 2 0 L=(0,M)):∃x,fq chR [0,0,1] 1000 ⟨L,L,0,0,false⟩=(0,x)∧x.known=M:=by
 have ec:countP (chR.map fun r=>lvC r.head.name)=2:=by decide
 obtain⟨x,hx,_⟩:=h.steps 1000 (r:=⟨L,L,0,0,false⟩) (q8 (c:=2) h.good) (fun f hf=>Or.inl hf) (by simp);have hb:=Df jQ (fun r=>lvC r.head.name) (fun r _=>by show lvC _<16;unfold lvC;split <;> omega) h.good;rw[ec,zL] at hb;have hb:=hb (by show(fq chR [0,0,1] 1000 ⟨L,L,0,0,false⟩).1≠4;rw[hx];simp) (by rw[hM];simp);change (fq chR [0,0,1] 1000 ⟨L,L,0,0,false⟩).1=_∧((fq chR [0,0,1] 1000 ⟨L,L,0,0,false⟩).1=0→(fq chR [0,0,1] 1000 ⟨L,L,0,0,false⟩).2.known=_) at hb;refine⟨x,hx,?_⟩;have h2:=hb.2 (by rw[hx]);rw[hx,hM] at h2;exact h2
end Go.Proofs.YtafmbokfkbccaaaGreatDoor
