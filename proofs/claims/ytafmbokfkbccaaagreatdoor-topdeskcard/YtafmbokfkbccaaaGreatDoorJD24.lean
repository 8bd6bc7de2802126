import Derived.Test.YtafmbokfkbccaaaGreatDoorJD23
import Derived.Test.YtafmbokfkbccaaaGreatDoorJD21
import Derived.Test.YtafmbokfkbccaaaGreatDoorJD22
import Derived.Deep.WholeRow
namespace Go.Proofs.YtafmbokfkbccaaaGreatDoor
def rdF (u v:ByteArray):FactB:=(⟨#[114,111,97,100]⟩,[u,v])
def wyF (u v:ByteArray):FactB:=(⟨#[119,97,121]⟩,[u,v])
def cuF (u v:ByteArray):FactB:=(⟨#[99,117,116]⟩,[u,v])
def twF (u:ByteArray):FactB:=(⟨#[116,111,119,110]⟩,[u])
def aRd (x y:Bs):AtomD:=⟨false,[114,111,97,100],[(true,x),(true,y)]⟩
def aWy (no:Bool) (x y:Bs):AtomD:=⟨no,[119,97,121],[(true,x),(true,y)]⟩
def aTw (x:Bs):AtomD:=⟨false,[116,111,119,110],[(true,x)]⟩
def aCu (x y:Bs):AtomD:=⟨false,[99,117,116],[(true,x),(true,y)]⟩
def chR0:RuleD:=⟨aWy false [88] [89],[aRd [88] [89]]⟩
def chR1:RuleD:=⟨aWy false [88] [90],[aWy false [88] [89],aRd [89] [90]]⟩
def chR2:RuleD:=⟨aCu [88] [89],[aTw [88],aTw [89],aWy true [88] [89]]⟩
theorem chR_eq:chR=[chR0,chR1,chR2]:=rfl
theorem fill2 {no:Bool} {nm x y:Bs} {env:List BindD} {f:FactB}:fillB ⟨no,nm,[(true,x),(true,y)]⟩ env=some f↔∃u v,getB env (bs x)=some u∧getB env (bs y)=some v∧f=(bs nm,[u,v]):=by
 simp only[fillB,fillArgs,worthB,if_true];cases getB env (bs x) with
 |none=>simp
 |some u=>
  cases getB env (bs y) with
  |none=>simp
  |some v=>simp[eq_comm]
theorem fill1 {no:Bool} {nm x:Bs} {env:List BindD} {f:FactB}:fillB ⟨no,nm,[(true,x)]⟩ env=some f↔∃u,getB env (bs x)=some u∧f=(bs nm,[u]):=by
 simp only[fillB,fillArgs,worthB,if_true];cases getB env (bs x) with
 |none=>simp
 |some u=>simp[eq_comm]
theorem bsX:(bs [88]=bs [89])=False:=by simp[bs]
theorem bsXZ:(bs [88]=bs [90])=False:=by simp[bs]
theorem bsYZ:(bs [89]=bs [90])=False:=by simp[bs]
theorem cmpXY (u v:ByteArray):cmpB (bs [88],u) (bs [89],v)<0:=by
 have h:eS (bs [88]) (bs [89])= -1:=by decide+kernel
 rw[eB_eq];simp[eB,h]
theorem cmpXZ (u v:ByteArray):cmpB (bs [88],u) (bs [90],v)<0:=by
 have h:eS (bs [88]) (bs [90])= -1:=by decide+kernel
 rw[eB_eq];simp[eB,h]
theorem cmpYZ (u v:ByteArray):cmpB (bs [89],u) (bs [90],v)<0:=by
 have h:eS (bs [89]) (bs [90])= -1:=by decide+kernel
 rw[eB_eq];simp[eB,h]
def MadeB (fs:List FactB) (r:RuleD) (f:FactB):Prop:=∃env,FitsB (fun _=>fs) r.body env∧fillB r.head env=some f
theorem made0 {fs:List FactB} {f:FactB}:MadeB fs chR0 f↔∃u v,rdF u v∈fs∧f=wyF u v:=by
 constructor
 ·rintro⟨env,⟨_,_,_,hs⟩,hf⟩;obtain⟨u,v,h1,h2,rfl⟩:=fill2.1 hf;obtain⟨g,hg,hi⟩:=SoB_const.1 hs _ (by simp[chR0]:aRd [88] [89]∈chR0.body);obtain⟨u',v',h3,h4,rfl⟩:=fill2.1 hg;rw[h1] at h3;rw[h2] at h4;cases h3;cases h4;exact⟨u,v,inB_iff.1 hi,rfl⟩
 ·rintro⟨u,v,hm,rfl⟩;refine⟨[(bs [88],u),(bs [89],v)],⟨?_,?_,?_,?_⟩,?_⟩
  ·simp[cmpXY]
  ·simp[keysB,bsX]
  ·intro x;have e:posVars [] chR0.body=[[88],[89]]:=by rfl
   rw[e];simp[keysB]
  ·refine SoB_const.2 fun a ha=> ?_;simp only[chR0,List.mem_cons,List.not_mem_nil,or_false] at ha;subst ha;exact⟨rdF u v,fill2.2 ⟨u,v,by simp[getB],by simp[getB,bsX],rfl⟩,inB_iff.2 hm⟩
  ·exact fill2.2 ⟨u,v,by simp[getB],by simp[getB,bsX],rfl⟩
theorem made1 {fs:List FactB} {f:FactB}:MadeB fs chR1 f↔∃u v t,wyF u v∈fs∧rdF v t∈fs∧f=wyF u t:=by
 constructor
 ·rintro⟨env,⟨_,_,_,hs⟩,hf⟩;obtain⟨u,t,h1,h2,rfl⟩:=fill2.1 hf;obtain⟨g,hg,hi⟩:=SoB_const.1 hs _ (by simp[chR1]:aWy false [88] [89]∈chR1.body);obtain⟨u',v,h3,h4,rfl⟩:=fill2.1 hg;obtain⟨g,hg',hi'⟩:=SoB_const.1 hs _ (by simp[chR1]:aRd [89] [90]∈chR1.body);obtain⟨v',t',h5,h6,rfl⟩:=fill2.1 hg';rw[h1] at h3;rw[h4] at h5;rw[h2] at h6;cases h3;cases h5;cases h6;exact⟨u,v,t,inB_iff.1 hi,inB_iff.1 hi',rfl⟩
 ·rintro⟨u,v,t,hm,hm',rfl⟩;refine⟨[(bs [88],u),(bs [89],v),(bs [90],t)],⟨?_,?_,?_,?_⟩,?_⟩
  ·simp[cmpXY,cmpXZ,cmpYZ]
  ·simp[keysB,bsX,bsXZ,bsYZ]
  ·intro x;have e:posVars [] chR1.body=[[88],[89],[90]]:=by rfl
   rw[e];simp[keysB]
  ·refine SoB_const.2 fun a ha=> ?_;simp only[chR1,List.mem_cons,List.not_mem_nil,or_false] at ha;rcases ha with rfl|rfl
   ·exact⟨wyF u v,fill2.2 ⟨u,v,by simp[getB],by simp[getB,bsX],rfl⟩,inB_iff.2 hm⟩
   ·exact⟨rdF v t,fill2.2 ⟨v,t,by simp[getB,bsX],by simp[getB,bsXZ,bsYZ],rfl⟩,inB_iff.2 hm'⟩
  ·exact fill2.2 ⟨u,t,by simp[getB],by simp[getB,bsXZ,bsYZ],rfl⟩
theorem made2 {fs:List FactB} {f:FactB}:MadeB fs chR2 f↔∃u v,twF u∈fs∧twF v∈fs∧wyF u v∉fs∧f=cuF u v:=by
 constructor
 ·rintro⟨env,⟨_,_,_,hs⟩,hf⟩;obtain⟨u,v,h1,h2,rfl⟩:=fill2.1 hf;obtain⟨g,hg,hi⟩:=SoB_const.1 hs _ (by simp[chR2]:aTw [88]∈chR2.body);obtain⟨u',h3,rfl⟩:=fill1.1 hg;obtain⟨g,hg',hi'⟩:=SoB_const.1 hs _ (by simp[chR2]:aTw [89]∈chR2.body);obtain⟨v',h4,rfl⟩:=fill1.1 hg';obtain⟨g,hg2,hi2⟩:=SoB_const.1 hs _ (by simp[chR2]:aWy true [88] [89]∈chR2.body);obtain⟨u2,v2,h5,h6,rfl⟩:=fill2.1 hg2;rw[h1] at h3 h5;rw[h2] at h4 h6;cases h3;cases h4;cases h5;cases h6;refine⟨u,v,inB_iff.1 hi,inB_iff.1 hi',fun hm=> ?_,rfl⟩;have hi3:inB fs (wyF u v)=false:=hi2;rw[inB_iff.2 hm] at hi3;cases hi3
 ·rintro⟨u,v,hm,hm',hn,rfl⟩;refine⟨[(bs [88],u),(bs [89],v)],⟨?_,?_,?_,?_⟩,?_⟩
  ·simp[cmpXY]
  ·simp[keysB,bsX]
  ·intro x;have e:posVars [] chR2.body=[[88],[89]]:=by rfl
   rw[e];simp[keysB]
  ·refine SoB_const.2 fun a ha=> ?_;simp only[chR2,List.mem_cons,List.not_mem_nil,or_false] at ha;rcases ha with rfl|rfl|rfl
   ·exact⟨twF u,fill1.2 ⟨u,by simp[getB],rfl⟩,inB_iff.2 hm⟩
   ·exact⟨twF v,fill1.2 ⟨v,by simp[getB,bsX],rfl⟩,inB_iff.2 hm'⟩
   ·refine⟨wyF u v,fill2.2 ⟨u,v,by simp[getB],by simp[getB,bsX],rfl⟩,?_⟩;cases h:inB fs (wyF u v)
    ·rfl
    ·exact absurd (inB_iff.1 h) hn
  ·exact fill2.2 ⟨u,v,by simp[getB],by simp[getB,bsX],rfl⟩
def posN:List AtomD→Nat
 |[]=>0
 |a::l=>(if a.no then 0 else 1)+posN l
theorem meetAll_len (a:AtomD) (fs:List FactB):∀ls:List (List BindD),(meetAllB a fs ls).length≤ls.length*fs.length
 |[]=>by simp[meetAllB]
 |l::ls=>by
  have ih:=meetAll_len a fs ls;have h1:(fs.filterMap fun f=>meetB a f l).length≤fs.length:=List.length_filterMap_le _ _;unfold meetAllB at ih⊢;rw[List.flatMap_cons,List.length_append,List.length_cons,Nat.succ_mul];omega
theorem met_some {pick:Nat→List FactB} {F:Nat} (hF:∀i,(pick i).length≤F):∀(body:List AtomD) (n:Nat) (ls:List (List BindD)) (c:Nat),ls.length≤c→(∀k,k≤posN body→c*F ^ k≤20000)→∃ms,metGo pick n body ls=some ms
 |[],n,ls,c,_,_=>⟨ls,rfl⟩
 |a::body,n,ls,c,hc,hk=>by
  unfold metGo;split
  ·rename_i ha;exact met_some hF body _ ls c hc fun k hk'=>hk k (by simp only[posN,ha,if_true];omega)
  ·rename_i ha;have h1:(meetAllB a (pick n) ls).length≤c*F:=Nat.le_trans (meetAll_len a _ ls) (Nat.mul_le_mul hc (hF n));have h2:c*F≤20000:=by have:=hk 1 (by simp only[posN,if_neg ha];omega);simpa using this
   rw[if_neg (by omega)];refine met_some hF body _ _ (c*F) h1 fun k hk'=> ?_;have:=hk (k+1) (by simp only[posN,if_neg ha];omega);rw[Nat.pow_succ,Nat.mul_comm (F ^ k) F,←Nat.mul_assoc] at this;exact this
theorem all_some {pick:Nat→List FactB} (hF:∀i,(pick i).length≤141) {r:RuleD} (hr:r∈chR):∃R,allB pick r.body=some R:=by
 have hp:posN r.body≤2:=by
  rw[chR_eq] at hr;simp only[List.mem_cons,List.not_mem_nil,or_false] at hr;rcases hr with rfl|rfl|rfl <;> decide
 obtain⟨ms,h⟩:=met_some hF r.body 0 [[]] 1 (by simp) fun k hk=>by
  have:k=0∨k=1∨k=2:=by omega
  rcases this with rfl|rfl|rfl <;> decide
 exact⟨_,by unfold allB;rw[h]⟩
end Go.Proofs.YtafmbokfkbccaaaGreatDoor
namespace Go.Proofs.YtafmbokfkbccaaaGreatDoor
inductive Leads (E:Nat→Nat→Prop):Nat→Nat→Prop
 |one {a b:Nat}:E a b→Leads E a b
 |more {a b c:Nat}:Leads E a b→E b c→Leads E a c
theorem Leads.trans {E:Nat→Nat→Prop} {a b c:Nat} (h:Leads E a b) (h':Leads E b c):Leads E a c:=by
 induction h' with
 |one e=>exact .more h e
 |more _ e ih=>exact .more ih e
theorem Leads.mono {E F:Nat→Nat→Prop} (h:∀a b,E a b→F a b) {a b:Nat} (hl:Leads E a b):Leads F a b:=by
 induction hl with
 |one e=>exact .one (h _ _ e)
 |more _ e ih=>exact .more ih (h _ _ e)
def updR (f:Nat→Nat→Bool) (a b c:Nat):Nat→Nat→Bool:=fun x y=>if x=a∧y=c then f a c||(f a b&&f b c) else f x y
def passC (f:Nat→Nat→Bool) (a b:Nat):Nat→Nat→Nat→Bool
 |0=>f
 |c+1=>updR (passC f a b c) a b c
def passB (n:Nat) (f:Nat→Nat→Bool) (a:Nat):Nat→Nat→Nat→Bool
 |0=>f
 |b+1=>passC (passB n f a b) a b n
def passA (n:Nat) (f:Nat→Nat→Bool):Nat→Nat→Nat→Bool
 |0=>f
 |a+1=>passB n (passA n f a) a n
def passN (n:Nat) (f:Nat→Nat→Bool):Nat→Nat→Nat→Bool
 |0=>f
 |k+1=>passA n (passN n f k) n
def LeR (f g:Nat→Nat→Bool):Prop:=∀x y,f x y=true→g x y=true
theorem LeR.trans {f g h:Nat→Nat→Bool} (a:LeR f g) (b:LeR g h):LeR f h:=fun x y e=>b x y (a x y e)
theorem upd_le (f:Nat→Nat→Bool) (a b c:Nat):LeR f (updR f a b c):=fun x y e=>by
 unfold updR;split
 ·rename_i h;rw[←h.1,←h.2,e,Bool.true_or]
 ·exact e
theorem passC_le (f:Nat→Nat→Bool) (a b:Nat):∀c,LeR f (passC f a b c)
 |0=>fun _ _ e=>e
 |c+1=>(passC_le f a b c).trans (upd_le _ _ _ _)
theorem passB_le (n:Nat) (f:Nat→Nat→Bool) (a:Nat):∀b,LeR f (passB n f a b)
 |0=>fun _ _ e=>e
 |b+1=>(passB_le n f a b).trans (passC_le _ _ _ _)
theorem passA_le (n:Nat) (f:Nat→Nat→Bool):∀a,LeR f (passA n f a)
 |0=>fun _ _ e=>e
 |a+1=>(passA_le n f a).trans (passB_le _ _ _ _)
theorem passC_get {f:Nat→Nat→Bool} {a b c:Nat} (h1:f a b=true) (h2:f b c=true):∀{C:Nat},c<C→passC f a b C a c=true
 |0,h=>by omega
 |C+1,h=>by
  by_cases e:c=C
  ·subst e;show updR _ a b c a c=true;unfold updR;rw[if_pos ⟨rfl,rfl⟩,passC_le f a b c _ _ h1,passC_le f a b c _ _ h2];simp
  ·exact upd_le _ _ _ _ _ _ (passC_get h1 h2 (by omega))
theorem passB_get {n:Nat} {f:Nat→Nat→Bool} {a b c:Nat} (h1:f a b=true) (h2:f b c=true) (hc:c<n):∀{B:Nat},b<B→passB n f a B a c=true
 |0,h=>by omega
 |B+1,h=>by
  by_cases e:b=B
  ·subst e;exact passC_get (passB_le n f a b _ _ h1) (passB_le n f a b _ _ h2) hc
  ·exact passC_le _ _ _ _ _ _ (passB_get h1 h2 hc (by omega))
theorem passA_get {n:Nat} {f:Nat→Nat→Bool} {a b c:Nat} (h1:f a b=true) (h2:f b c=true) (hb:b<n) (hc:c<n):∀{A:Nat},a<A→passA n f A a c=true
 |0,h=>by omega
 |A+1,h=>by
  by_cases e:a=A
  ·subst e;exact passB_get (passA_le n f a _ _ h1) (passA_le n f a _ _ h2) hc hb
  ·exact passB_le _ _ _ _ _ _ (passA_get h1 h2 hb hc (by omega))
def SndR (E:Nat→Nat→Prop) (f:Nat→Nat→Bool):Prop:=∀x y,f x y=true→Leads E x y
theorem upd_snd {E:Nat→Nat→Prop} {f:Nat→Nat→Bool} (h:SndR E f) (a b c:Nat):SndR E (updR f a b c):=fun x y e=>by
 unfold updR at e;split at e
 ·rename_i hx;rw[hx.1,hx.2];simp only[Bool.or_eq_true,Bool.and_eq_true] at e;rcases e with e|e
  ·exact h _ _ e
  ·exact(h _ _ e.1).trans (h _ _ e.2)
 ·exact h _ _ e
theorem passC_snd {E:Nat→Nat→Prop} {f:Nat→Nat→Bool} (h:SndR E f) (a b:Nat):∀c,SndR E (passC f a b c)
 |0=>h
 |c+1=>upd_snd (passC_snd h a b c) _ _ _
theorem passB_snd {E:Nat→Nat→Prop} {n:Nat} {f:Nat→Nat→Bool} (h:SndR E f) (a:Nat):∀b,SndR E (passB n f a b)
 |0=>h
 |b+1=>passC_snd (passB_snd h a b) _ _ _
theorem passA_snd {E:Nat→Nat→Prop} {n:Nat} {f:Nat→Nat→Bool} (h:SndR E f):∀a,SndR E (passA n f a)
 |0=>h
 |a+1=>passB_snd (passA_snd h a) _ _
theorem passN_snd {E:Nat→Nat→Prop} {n:Nat} {f:Nat→Nat→Bool} (h:SndR E f):∀k,SndR E (passN n f k)
 |0=>h
 |k+1=>passA_snd (passN_snd h k) _
def Via (E:Nat→Nat→Prop):Nat→Nat→Nat→Prop
 |0=>E
 |k+1=>fun a b=>Via E k a b∨(Via E k a k∧Via E k k b)
theorem Via.trans {E:Nat→Nat→Prop}:∀{k a x b:Nat},x<k→Via E k a x→Via E k x b→Via E k a b
 |0,a,x,b,h,_,_=>by omega
 |k+1,a,x,b,h,h1,h2=>by
  by_cases e:x=k
  ·subst e;exact Or.inr ⟨h1.elim id (·.1),h2.elim id (·.2)⟩
  ·have hx:x<k:=by omega
   rcases h1 with h1|⟨h1,h3⟩
   ·rcases h2 with h2|⟨h2,h4⟩
    ·exact Or.inl (Via.trans hx h1 h2)
    ·exact Or.inr ⟨Via.trans hx h1 h2,h4⟩
   ·rcases h2 with h2|⟨_,h4⟩
    ·exact Or.inr ⟨h1,Via.trans hx h3 h2⟩
    ·exact Or.inr ⟨h1,h4⟩
theorem via_of {E:Nat→Nat→Prop} {a b:Nat} (h:E a b):∀k,Via E k a b
 |0=>h
 |k+1=>Or.inl (via_of h k)
theorem via_leads {E:Nat→Nat→Prop} {n:Nat} (hE:∀a b,E a b→a<n∧b<n) {a b:Nat} (h:Leads E a b):Via E n a b:=by
 induction h with
 |one e=>exact via_of e n
 |more _ e ih=>exact Via.trans (hE _ _ e).1 ih (via_of e n)
theorem pass_via {E:Nat→Nat→Prop} {n:Nat} {f:Nat→Nat→Bool} (hf:∀a b,E a b→f a b=true):∀{k:Nat},k≤n→∀{a b},a<n→b<n→Via E k a b→passN n f k a b=true
 |0,_,a,b,_,_,h=>hf a b h
 |k+1,hk,a,b,ha,hb,h=>by
  rcases h with h|⟨h1,h2⟩
  ·exact passA_le _ _ _ _ _ (pass_via hf (by omega) ha hb h)
  ·exact passA_get (pass_via hf (by omega) ha (by omega) h1) (pass_via hf (by omega) (by omega) hb h2) (by omega) hb ha
theorem pass_leads {n:Nat} {f:Nat→Nat→Bool} (hf:∀a b,f a b=true→a<n∧b<n) {a b:Nat} (ha:a<n) (hb:b<n):passN n f n a b=true↔Leads (fun a b=>f a b=true) a b:=
 ⟨fun h=>passN_snd (fun _ _ e=>.one e) n a b h,fun h=>pass_via (fun _ _ e=>e) (Nat.le_refl n) ha hb (via_leads hf h)⟩
structure Net (n:Nat) (E:Nat→Nat→Prop) (L:List FactB):Prop where
 n6:n≤6
 e8:∀a b,E a b→a<8∧b<8
 up:Up L
 few:L.length≤20
 mem:∀f,f∈L↔(∃a b,E a b∧f=rdF (chN a) (chN b))∨∃k,k<n∧f=twF (chN k)
def pairs8:List (Nat×Nat):=(List.range 8).flatMap fun a=>(List.range 8).map fun b=>(a,b)
theorem mem_pairs {a b:Nat} (ha:a<8) (hb:b<8):(a,b)∈pairs8:=by
 simp only[pairs8,List.mem_flatMap,List.mem_map,List.mem_range];exact⟨a,ha,b,hb,rfl⟩
def pairs6:List (Nat×Nat):=(List.range 6).flatMap fun a=>(List.range 6).map fun b=>(a,b)
theorem mem_pairs6 {a b:Nat} (ha:a<6) (hb:b<6):(a,b)∈pairs6:=by
 simp only[pairs6,List.mem_flatMap,List.mem_map,List.mem_range];exact⟨a,ha,b,hb,rfl⟩
theorem pairs8_len:pairs8.length=64:=by decide
theorem pairs6_len:pairs6.length=36:=by decide
def InU (n:Nat) (E:Nat→Nat→Prop) (L:List FactB) (f:FactB):Prop:=f∈L∨(∃a b,a<8∧b<8∧Leads E a b∧f=wyF (chN a) (chN b))∨∃a b,a<n∧b<n∧f=cuF (chN a) (chN b)
def allU (L:List FactB):List FactB:=L++(pairs8.map fun p=>wyF (chN p.1) (chN p.2))++pairs6.map fun p=>cuF (chN p.1) (chN p.2)
variable {n:Nat} {E:Nat→Nat→Prop} {L:List FactB}
theorem Net.all (h:Net n E L) {f:FactB} (hf:InU n E L f):f∈allU L:=by
 have h6:=h.n6;simp only[allU,List.mem_append,List.mem_map];rcases hf with hf|⟨a,b,ha,hb,_,rfl⟩|⟨a,b,ha,hb,rfl⟩
 ·exact Or.inl (Or.inl hf)
 ·exact Or.inl (Or.inr ⟨(a,b),mem_pairs ha hb,rfl⟩)
 ·exact Or.inr ⟨(a,b),mem_pairs6 (by omega) (by omega),rfl⟩
theorem Net.allLen (h:Net n E L):(allU L).length≤141:=by
 have:=h.few;simp only[allU,List.length_append,List.length_map,pairs8_len,pairs6_len];omega
theorem Net.len (h:Net n E L) {K:List FactB} (hu:Up K) (hK:∀f∈K,InU n E L f):K.length≤141:=
 Nat.le_trans (up_le hu fun f hf=>h.all (hK f hf)) h.allLen
theorem chN_inj {a b:Nat} (ha:a<8) (hb:b<8) (h:chN a=chN b):a=b:=by
 have key:∀p∈pairs8,chN p.1=chN p.2→p.1=p.2:=by decide+kernel
 exact key _ (mem_pairs ha hb) h
theorem rd_inj {u v u' v':ByteArray}:rdF u v=rdF u' v'↔u=u'∧v=v':=by simp[rdF]
theorem wy_inj {u v u' v':ByteArray}:wyF u v=wyF u' v'↔u=u'∧v=v':=by simp[wyF]
theorem cu_inj {u v u' v':ByteArray}:cuF u v=cuF u' v'↔u=u'∧v=v':=by simp[cuF]
theorem tw_inj {u u':ByteArray}:twF u=twF u'↔u=u':=by simp[twF]
theorem Net.rd (h:Net n E L) {u v:ByteArray} (hf:InU n E L (rdF u v)):∃a b,E a b∧u=chN a∧v=chN b:=by
 rcases hf with hf|⟨a,b,_,_,_,e⟩|⟨a,b,_,_,e⟩
 ·rcases(h.mem _).1 hf with⟨a,b,he,e⟩|⟨k,_,e⟩
  ·exact⟨a,b,he,rd_inj.1 e⟩
  ·simp[rdF,twF] at e
 ·simp[rdF,wyF] at e
 ·simp[rdF,cuF] at e
theorem Net.wy (h:Net n E L) {u v:ByteArray} (hf:InU n E L (wyF u v)):∃a b,a<8∧b<8∧Leads E a b∧u=chN a∧v=chN b:=by
 rcases hf with hf|⟨a,b,ha,hb,hl,e⟩|⟨a,b,_,_,e⟩
 ·rcases(h.mem _).1 hf with⟨a,b,he,e⟩|⟨k,_,e⟩
  ·simp[rdF,wyF] at e
  ·simp[wyF,twF] at e
 ·exact⟨a,b,ha,hb,hl,wy_inj.1 e⟩
 ·simp[wyF,cuF] at e
theorem Net.tw (h:Net n E L) {u:ByteArray} (hf:InU n E L (twF u)):∃k,k<n∧u=chN k:=by
 rcases hf with hf|⟨a,b,_,_,_,e⟩|⟨a,b,_,_,e⟩
 ·rcases(h.mem _).1 hf with⟨a,b,_,e⟩|⟨k,hk,e⟩
  ·simp[rdF,twF] at e
  ·exact⟨k,hk,tw_inj.1 e⟩
 ·simp[twF,wyF] at e
 ·simp[twF,cuF] at e
theorem Net.made (h:Net n E L) {K:List FactB} (hK:∀f∈K,InU n E L f) {r:RuleD} (hr:r∈chR) {f:FactB} (hm:MadeB K r f):InU n E L f:=by
 rw[chR_eq] at hr;simp only[List.mem_cons,List.not_mem_nil,or_false] at hr;rcases hr with rfl|rfl|rfl
 ·obtain⟨u,v,h1,rfl⟩:=made0.1 hm;obtain⟨a,b,he,rfl,rfl⟩:=h.rd (hK _ h1);exact Or.inr (Or.inl ⟨a,b,(h.e8 a b he).1,(h.e8 a b he).2,.one he,rfl⟩)
 ·obtain⟨u,v,t,h1,h2,rfl⟩:=made1.1 hm;obtain⟨a,b,ha,hb,hl,rfl,rfl⟩:=h.wy (hK _ h1);obtain⟨c,d,he,e,rfl⟩:=h.rd (hK _ h2);obtain rfl:=chN_inj hb (h.e8 c d he).1 e;exact Or.inr (Or.inl ⟨a,d,ha,(h.e8 _ d he).2,.more hl he,rfl⟩)
 ·obtain⟨u,v,h1,h2,_,rfl⟩:=made2.1 hm;obtain⟨a,ha,rfl⟩:=h.tw (hK _ h1);obtain⟨b,hb,rfl⟩:=h.tw (hK _ h2);exact Or.inr (Or.inr ⟨a,b,ha,hb,rfl⟩)
def lvC (s:Bs):Nat:=if s=[99,117,116] then 1 else 0
theorem lv_map:chR.map (fun r=>lvC r.head.name)=[0,0,1]:=by decide
theorem ch_rightP:RightP chR:=rightP_iff.1 (by decide+kernel)
theorem ch_sol:Sol chR lvC:=fun r hr a ha _=>(by decide+kernel:∀r∈chR,∀a∈r.body,lvC a.name+step a≤lvC r.head.name) r hr a ha
theorem Net.good (h:Net n E L):GoodS chR L:=by
 have k1:∀p∈pairs8,RightF (rdF (chN p.1) (chN p.2))∧fitF chR (rdF (chN p.1) (chN p.2))=true:=by unfold RightF;decide+kernel
 have k2:∀k∈List.range 8,RightF (twF (chN k))∧fitF chR (twF (chN k))=true:=by unfold RightF;decide+kernel
 have key:∀f∈L,RightF f∧fitF chR f=true:=fun f hf=>by
  rcases(h.mem f).1 hf with⟨a,b,he,rfl⟩|⟨k,hk,rfl⟩
  ·exact k1 (a,b) (mem_pairs (h.e8 a b he).1 (h.e8 a b he).2)
  ·exact k2 k (List.mem_range.2 (by have:=h.n6;omega))
 exact⟨h.up,fun f hf=>(key f hf).1,by have:=h.few;omega,fun f hf=>(key f hf).2⟩
theorem Net.heads (h:Net n E L) {K:List FactB} (hu:Up K) (hK:∀f∈K,InU n E L f) {r:RuleD} (hr:r∈chR):∃x,headsP r K=some x∧∀f,f∈x↔MadeB K r f:=by
 obtain⟨R,hR⟩:=all_some (pick:=fun _=>K) (fun _=>h.len hu hK) hr;have e:headsP r K=some (setF (R.filterMap fun l=>fillB r.head l)):=by unfold headsP;rw[hR]
 exact⟨_,e,heads_mem (covers_right (ch_rightP.rules r hr)) e⟩
theorem Net.once (h:Net n E L) {K:List FactB} (hu:Up K) (hK:∀f∈K,InU n E L f) (st:Int):∃S,onceP chR [0,0,1] st K=(0,S)∧Up S∧∀f∈S,InU n E L f:=by
 rw[←lv_map];have h0:(onceGo st K chR (chR.map fun r=>lvC r.head.name) K).1=0:=by
  refine onceGo_of (fun r=>lvC r.head.name) (T:=allU L) (Nat.le_trans h.allLen (by omega)) (fun r hr _=> ?_) fun f hf=>h.all (hK f hf);obtain⟨x,hx,hm⟩:=h.heads hu hK hr;exact⟨x,hx,fun f hf=>h.all (h.made hK hr ((hm f).1 hf))⟩
 have e:onceP chR (chR.map fun r=>lvC r.head.name) st K=(0,(onceP chR (chR.map fun r=>lvC r.head.name) st K).2):=Prod.ext h0 rfl;obtain⟨_,_,h3,h4,_⟩:=onceGo_ok (fun r=>lvC r.head.name) e;refine⟨_,e,h4,fun f hf=> ?_⟩;rcases h3 f hf with hf|⟨r,hr,_,x,hx,hf⟩
 ·exact hK f hf
 ·obtain⟨y,hy,hm⟩:=h.heads hu hK hr;rw[hx] at hy;cases hy;exact h.made hK hr ((hm f).1 hf)
theorem Net.over (h:Net n E L) (st:Int):∀(k:Nat) {K:List FactB},Up K→(∀f∈K,InU n E L f)→∃S,overGo chR [0,0,1] st k K=(0,S)∧Up S∧∀f∈S,InU n E L f
 |0,K,hu,hK=>⟨K,rfl,hu,hK⟩
 |k+1,K,hu,hK=>by
  obtain⟨S,h1,h2,h3⟩:=h.once hu hK st;unfold overGo;rw[h1];dsimp only;rw[if_neg (by simp)];split
  ·exact⟨S,rfl,h2,h3⟩
  ·exact h.over st k h2 h3
theorem Net.run (h:Net n E L):∀(c m:Nat) {K:List FactB},Up K→(∀f∈K,InU n E L f)→∃S,runGo chR [0,0,1] c m K=(0,S)∧Up S∧∀f∈S,InU n E L f
 |0,m,K,hu,hK=>⟨K,rfl,hu,hK⟩
 |c+1,m,K,hu,hK=>by
  obtain⟨S,h1,h2,h3⟩:=h.over m 201 hu hK;unfold runGo;rw[h1];dsimp only;rw[if_neg (by simp)];exact h.run c (m+1) h2 h3
theorem Net.follows (h:Net n E L):∃M,runGo chR [0,0,1] 2 0 L=(0,M)∧Up M∧(∀f∈M,InU n E L f)∧(∀f∈L,f∈M)∧(∀a b,a<8→b<8→(wyF (chN a) (chN b)∈M↔Leads E a b))∧∀a b,a<n→b<n→(cuF (chN a) (chN b)∈M↔¬Leads E a b):=by
 obtain⟨M,h1,h2,h3⟩:=h.run 2 0 h.up fun f hf=>Or.inl hf;have h6:=h.n6;have ec:countP (chR.map fun r=>lvC r.head.name)=2:=by decide
 have e1:runGo chR (chR.map fun r=>lvC r.head.name) (countP (chR.map fun r=>lvC r.head.name)) 0 L=(0,M):=by rw[ec,lv_map];exact h1
 obtain⟨m1,m2⟩:=run_model ch_rightP ch_sol h.good e1;have hd:=run_needed ch_rightP ch_sol h.good e1 fun r hr=>by obtain⟨x,hx,_⟩:=h.heads h2 h3 hr;exact⟨x,hx⟩
 have hcl:∀r∈chR,∀f,MadeB M r f→f∈M:=fun r hr f hf=>by
  obtain⟨x,hx,hm⟩:=h.heads h2 h3 hr;exact m2 r hr x hx f ((hm f).2 hf)
 have hw:∀a b,a<8→b<8→(wyF (chN a) (chN b)∈M↔Leads E a b):=fun a b ha hb=>by
  constructor
  ·intro hm;obtain⟨c,d,hc,hd,hl,e1,e2⟩:=h.wy (h3 _ hm);rw[chN_inj ha hc e1,chN_inj hb hd e2];exact hl
  ·intro hl;clear ha hb
   induction hl with
   |one e=>exact hcl chR0 (by rw[chR_eq];simp) _ (made0.2 ⟨_,_,m1 _ ((h.mem _).2 (Or.inl ⟨_,_,e,rfl⟩)),rfl⟩)
   |more _ e ih=>exact hcl chR1 (by rw[chR_eq];simp) _ (made1.2 ⟨_,_,_,ih,m1 _ ((h.mem _).2 (Or.inl ⟨_,_,e,rfl⟩)),rfl⟩)
 refine⟨M,h1,h2,h3,m1,hw,fun a b ha hb=> ?_⟩
 constructor
 ·intro hm hl;rcases(hd _).1 hm with hL|⟨r,hr,x,hx,hf⟩
  ·rcases(h.mem _).1 hL with⟨_,_,_,e⟩|⟨_,_,e⟩
   ·simp[rdF,cuF] at e
   ·simp[cuF,twF] at e
  ·obtain⟨y,hy,hmm⟩:=h.heads h2 h3 hr;rw[hx] at hy;cases hy;have hmd:=(hmm _).1 hf;rw[chR_eq] at hr;simp only[List.mem_cons,List.not_mem_nil,or_false] at hr;rcases hr with rfl|rfl|rfl
   ·obtain⟨u,v,_,e⟩:=made0.1 hmd;simp[wyF,cuF] at e
   ·obtain⟨u,v,t,_,_,e⟩:=made1.1 hmd;simp[wyF,cuF] at e
   ·obtain⟨u,v,_,_,hn,e⟩:=made2.1 hmd;obtain⟨rfl,rfl⟩:=cu_inj.1 e;exact hn ((hw a b (by omega) (by omega)).2 hl)
 ·intro hl;refine hcl chR2 (by rw[chR_eq];simp) _ (made2.2 ⟨_,_,m1 _ ((h.mem _).2 (Or.inr ⟨a,ha,rfl⟩)),m1 _ ((h.mem _).2 (Or.inr ⟨b,hb,rfl⟩)),fun hm=>hl ((hw a b (by omega) (by omega)).1 hm),rfl⟩)
theorem at_someN {K N:List FactB} {r:RuleD} (hr:r∈chR) (hK:K.length≤141) (hN:N.length≤141):∀(l:List AtomD) (k:Nat) (acc:List FactB),∃S,atGo K N r k l acc=some S
 |[],k,acc=>⟨acc,rfl⟩
 |a::l,k,acc=>by
  unfold atGo;split
  ·exact at_someN hr hK hN l _ _
  ·obtain⟨R,hR⟩:=all_some (pick:=pickB K k N) (fun i=>by unfold pickB;split <;> assumption) hr;rw[hR];exact at_someN hr hK hN l _ _
theorem ask_someN {K N:List FactB} {r:RuleD} (hr:r∈chR) (hK:K.length≤141) (hN:N.length≤141) (acc:List FactB):∃S,askP K N r acc=some S:=by
 unfold askP;split
 ·obtain⟨R,hR⟩:=all_some (pick:=fun _=>K) (fun _=>hK) hr;have e:headsP r K=some (setF (R.filterMap fun l=>fillB r.head l)):=by unfold headsP;rw[hR]
  rw[e];exact⟨_,rfl⟩
 ·exact at_someN hr hK hN _ _ _
theorem makes_someN {K N:List FactB} (hK:K.length≤141) (hN:N.length≤141) (st:Int):∀(p:List RuleD) (ss:List Nat) (acc:List FactB),(∀r∈p,r∈chR)→∃S,makesGo K N st p ss acc=some S
 |[],_,acc,_=>⟨acc,rfl⟩
 |_::_,[],acc,_=>⟨acc,rfl⟩
 |r::p,s::ss,acc,h=>by
  unfold makesGo;split
  ·obtain⟨S,hS⟩:=ask_someN (h r (by simp)) hK hN acc;rw[hS];exact makes_someN hK hN st p ss S fun q hq=>h q (by simp[hq])
  ·exact makes_someN hK hN st p ss acc fun q hq=>h q (by simp[hq])
theorem Net.next (h:Net n E L) {r:RunD} (hr:RightN chR 2 r) (hK:∀f∈r.known,InU n E L f) (h0:r.rounds≠1000):∃x,nextP chR [0,0,1] r=(0,x)∧∀f∈x.known,InU n E L f:=by
 have hk:=h.len hr.good.up hK;have hf:=Nat.le_trans (up_le hr.up hr.sub) hk;obtain⟨M,hM⟩:=makes_someN hk hf r.level chR [0,0,1] [] fun _ h=>h;have hM':=hM;rw[←lv_map] at hM';have hmem:∀f∈M,InU n E L f:=fun f hf=>by
  rcases(makes_mem (fun r=>lvC r.head.name) ch_rightP.rules hM' f).1 hf with h1|⟨q,hq,_,hm⟩
  ·cases h1
  ·exact h.made hK hq (makes_fits hr.sub hm)
 have hall:∀f∈setF (r.known++M),InU n E L f:=fun f hf=>(List.mem_append.1 (mem_setF.1 hf)).elim (hK f) (hmem f);have hlen:=h.len (setF_up (r.known++M)) hall;unfold nextP;rw[if_neg h0,hM];dsimp only;rw[if_neg (by omega)];split
 ·exact⟨_,rfl,hall⟩
 ·exact⟨_,rfl,hall⟩
theorem Net.steps (h:Net n E L):∀(m:Nat) {r:RunD},RightN chR 2 r→(∀f∈r.known,InU n E L f)→r.rounds+m≤1000→∃x,stepsP chR [0,0,1] m r=(0,x)∧RightN chR 2 x∧∀f∈x.known,InU n E L f
 |0,r,hr,hK,_=>⟨r,rfl,hr,hK⟩
 |m+1,r,hr,hK,hm=>by
  unfold stepsP;split
  ·exact⟨r,rfl,hr,hK⟩
  ·rename_i hd;obtain⟨x,hx,hxK⟩:=h.next hr hK (by omega)
   have hx':=hx;rw[←lv_map] at hx';have ec:countP (chR.map fun r=>lvC r.head.name)=2:=by decide
   have hn:=next_right ch_rightP (fun r=>lvC r.head.name) (by rw[ec];exact hr) (by simpa using hd) hx';rw[ec] at hn;rw[hx];dsimp only;rw[if_neg (by simp)];exact h.steps m hn.1 hxK (by have:=hn.2.2.1;omega)
theorem Net.rounds (h:Net n E L) {M:List FactB} (hM:runGo chR [0,0,1] 2 0 L=(0,M)):∃x,stepsP chR [0,0,1] 1000 ⟨L,L,0,0,false⟩=(0,x)∧x.known=M:=by
 have ec:countP (chR.map fun r=>lvC r.head.name)=2:=by decide
 obtain⟨x,hx,_⟩:=h.steps 1000 (r:=⟨L,L,0,0,false⟩) (right_begin (c:=2) h.good) (fun f hf=>Or.inl hf) (by simp);have hb:=begin_rest ch_rightP (fun r=>lvC r.head.name) (fun r _=>by show lvC _<16;unfold lvC;split <;> omega) h.good;rw[ec,lv_map] at hb;have hb:=hb (by show(stepsP chR [0,0,1] 1000 ⟨L,L,0,0,false⟩).1≠4;rw[hx];simp) (by rw[hM];simp);change (stepsP chR [0,0,1] 1000 ⟨L,L,0,0,false⟩).1=_∧((stepsP chR [0,0,1] 1000 ⟨L,L,0,0,false⟩).1=0→(stepsP chR [0,0,1] 1000 ⟨L,L,0,0,false⟩).2.known=_) at hb;refine⟨x,hx,?_⟩;have h2:=hb.2 (by rw[hx]);rw[hx,hM] at h2;exact h2
end Go.Proofs.YtafmbokfkbccaaaGreatDoor
namespace Go.Proofs.YtafmbokfkbccaaaGreatDoor
open Go.RowKit Go.Sort Go.Maps
def townN (n:Nat) (x:Int):Nat:=(Int.tmod (Int.tmod x n+n) n).toNat
theorem townN_eq {n:Nat} (hn:1≤n) (x:Int):Int.tmod (Int.tmod x n+n) n=(townN n x:Int):=by
 have h1: -(n:Int)<Int.tmod x n:=by have:=Int.lt_tmod_of_pos x (b:=(n:Int)) (by omega);omega
 unfold townN;rw[Int.toNat_of_nonneg (Int.tmod_nonneg _ (by omega))]
theorem townN_lt {n:Nat} (hn:1≤n) (x:Int):townN n x<n:=by
 have h:=townN_eq hn x;have:=Int.tmod_lt_of_pos (Int.tmod x n+n) (b:=(n:Int)) (by omega);omega
theorem tmod_near {n:Nat} (hn:1≤n) (x:Int): -(n:Int)<Int.tmod x n∧Int.tmod x n<n:=
 ⟨Int.lt_tmod_of_pos x (by omega),Int.tmod_lt_of_pos x (by omega)⟩
def IntsZ (w:World) (v:Value) (g:Nat→Int) (n:Nat):Prop:=∃a cap,v=.slice a n cap∧(0<n→∃b off,a=some ⟨b,off,none⟩∧b<w.heap.size∧∀i,i<n→w.cell? ⟨b,off+i,none⟩=some (.int .i64 (g i)))
def rdsF (n:Nat) (g h:Nat→Int) (m:Nat):Nat→Nat→Nat→Bool
 |0=>fun _ _=>false
 |j+1=>if j<m then fun x y=>if x=townN n (g j)∧y=townN n (h j) then true else rdsF n g h m j x y else rdsF n g h m j
def rdsL (n:Nat) (g h:Nat→Int) (m:Nat):Nat→List FactB
 |0=>[]
 |j+1=>if j<m then rdsL n g h m j++[rdF (chN (townN n (g j))) (chN (townN n (h j)))] else rdsL n g h m j
def twsL:Nat→List FactB
 |0=>[]
 |k+1=>twsL k++[twF (chN k)]
theorem rdsL_len (n:Nat) (g h:Nat→Int) (m:Nat):∀j,(rdsL n g h m j).length≤j
 |0=>Nat.le_refl _
 |j+1=>by
  have:=rdsL_len n g h m j;unfold rdsL;split
  ·rw[List.length_append];simp;omega
  ·omega
theorem twsL_len:∀k,(twsL k).length=k
 |0=>rfl
 |k+1=>by rw[twsL,List.length_append,twsL_len k];rfl
theorem mem_twsL {f:FactB}:∀{k:Nat},f∈twsL k↔∃i,i<k∧f=twF (chN i)
 |0=>by simp[twsL]
 |k+1=>by
  rw[twsL,List.mem_append,mem_twsL,List.mem_singleton]
  constructor
  ·rintro(⟨i,hi,e⟩|e)
   ·exact⟨i,by omega,e⟩
   ·exact⟨k,by omega,e⟩
  ·rintro⟨i,hi,e⟩
   by_cases h:i=k
   ·subst h;exact Or.inr e
   ·exact Or.inl ⟨i,by omega,e⟩
theorem mem_rdsL {n:Nat} {g h:Nat→Int} {m:Nat} {f:FactB}:∀{j:Nat},f∈rdsL n g h m j↔∃a b,rdsF n g h m j a b=true∧f=rdF (chN a) (chN b)
 |0=>by simp[rdsL,rdsF]
 |j+1=>by
  by_cases hm:j<m
  ·rw[rdsL,rdsF,if_pos hm,if_pos hm,List.mem_append,mem_rdsL,List.mem_singleton]
   constructor
   ·rintro(⟨a,b,h1,e⟩|e)
    ·refine⟨a,b,?_,e⟩;split
     ·rfl
     ·exact h1
    ·exact⟨_,_,by rw[if_pos ⟨rfl,rfl⟩],e⟩
   ·rintro⟨a,b,h1,e⟩;split at h1
    ·rename_i h2;rw[h2.1,h2.2] at e;exact Or.inr e
    ·exact Or.inl ⟨a,b,h1,e⟩
  ·rw[rdsL,rdsF,if_neg hm,if_neg hm];exact mem_rdsL
theorem rdsF_lt {n:Nat} (hn:1≤n) {g h:Nat→Int} {m:Nat}:∀{j a b:Nat},rdsF n g h m j a b=true→a<n∧b<n
 |0,a,b,e=>by simp[rdsF] at e
 |j+1,a,b,e=>by
  rw[rdsF] at e;split at e
  ·dsimp only at e;split at e
   ·rename_i h2;rw[h2.1,h2.2];exact⟨townN_lt hn _,townN_lt hn _⟩
   ·exact rdsF_lt hn e
  ·exact rdsF_lt hn e
theorem net_of {n:Nat} (h1:1≤n) (h6:n≤6) {g h:Nat→Int} {m j:Nat} (hj:j≤12):Net n (fun a b=>rdsF n g h m j a b=true) (setF (rdsL n g h m j++twsL n)) where
 n6:=h6
 e8 a b e:=by have:=rdsF_lt h1 e;omega
 up:=setF_up _
 few:=by
  have h2:=setF_len (rdsL n g h m j++twsL n);have h3:=rdsL_len n g h m j;rw[List.length_append,twsL_len] at h2;omega
 mem f:=by rw[mem_setF,List.mem_append,mem_rdsL,mem_twsL]
structure NetS (w2 wr:World) (b:Nat) (f:Nat→Nat→Bool) (v:Value) (l:List FactB):Prop where
 tn:Tn b w2 wr
 row:RowR 92 wr b f
 own:OwnF wr w2.heap.size v l
theorem NetS.later {w2 wr w3:World} {b:Nat} {f:Nat→Nat→Bool} {v:Value} {l:List FactB} (h:NetS w2 wr b f v l) (hL:Later wr w3):NetS w2 w3 b f v l:=
 ⟨h.tn.trans (Tn.of_below hL.below),(hL.block h.row.lt).trans h.row,h.own.later hL⟩
theorem NetS.set {w2 wr:World} {b a c:Nat} {f:Nat→Nat→Bool} {v:Value} {l:List FactB} (h:NetS w2 wr b f v l) (hb:b<w2.heap.size) (ha:a<8) (hc:c<8) (u:Bool):NetS w2 (wr.setCell ⟨b,a*8+c,none⟩ (.bool u)) b (fun x y=>if x=a∧y=c then u else f x y) v l:=
 ⟨h.tn.setCell (Or.inl rfl) _,h.row.set ha hc u,h.own.put hb⟩
theorem NetS.more {w2 w3:World} {b:Nat} {f:Nat→Nat→Bool} {v:Value} {l:List FactB} (h:NetS w2 w3 b f v l) (hb:b<w2.heap.size) (x:FactB) (s:Value) (hs:Strs w3 s x.2) (hfar:∀k,s.ownBlock=some k→w2.heap.size≤k∧k<w3.heap.size∧v.ownBlock≠some k) (hl:l.length≤1000):
  ∃a n c w5,(Builtin.append_ #[24,24] 24 #[v,.slice (some ⟨w3.heap.size,0,none⟩) 1 1]).run Tryz.prog (w3.alloc (.cells #[.string x.1,s] 27))=.ok (.slice a n c) w5∧NetS w2 w5 b f (.slice a n c) (l++[x]):=by
 obtain⟨sa,sc,rfl⟩:=sliceStr hs;obtain⟨v5,w5,hrun,hO5,hg5,hd5⟩:=h.own.append x _ hs hfar (by omega) h.tn.size rfl;obtain⟨a,c,rfl⟩:=hO5.slice;have hbv:some b≠v.ownBlock:=fun e=>by have:=(h.own.lt e.symm).1;omega
 have hsz:w3.heap.size≤w5.heap.size:=by have:=hg5.size;rw[World.size_alloc] at this;omega
 have hblk:∀k,k<w3.heap.size→some k≠v.ownBlock→w5.heap[k]?=w3.heap[k]?:=fun k hk ho=>
  (hg5.block k (by rw[World.size_alloc];omega) ho).trans (Below.heap_alloc _ _ _ hk)
 refine⟨a,_,c,w5,hrun,⟨⟨hg5.os.trans h.tn.os,hg5.tape.trans h.tn.tape,hg5.output.trans h.tn.output,Nat.le_trans h.tn.size hsz,fun k hk ho=> ?_⟩,(hblk b h.row.lt hbv).trans h.row,hO5⟩⟩;refine(hblk k (Nat.lt_of_lt_of_le hk h.tn.size) fun e=> ?_).trans (h.tn.block k hk ho);have:=(h.own.lt e.symm).1;omega
end Go.Proofs.YtafmbokfkbccaaaGreatDoor
namespace Go.Proofs.YtafmbokfkbccaaaGreatDoor
open Go.RowKit Go.Sort
def roadsT:Bs:=[119,97,121,40,88,44,89,41,32,58,45,32,114,111,97,100,40,88,44,89,41,46,32,119,97,121,40,88,44,90,41,32,58,45,32,119,97,121,40,88,44,89,41,44,32,114,111,97,100,40,89,44,90,41,46,32,99,117,116,40,88,44,89,41,32,58,45,32,116,111,119,110,40,88,41,44,32,116,111,119,110,40,89,41,44,32,33,119,97,121,40,88,44,89,41,46]
def roadsR : List RuleD :=
  [⟨⟨false, [119, 97, 121], [(true, [88]), (true, [89])]⟩, [⟨false, [114, 111, 97, 100], [(true, [88]), (true, [89])]⟩]⟩,
   ⟨⟨false, [119, 97, 121], [(true, [88]), (true, [90])]⟩, [⟨false, [119, 97, 121], [(true, [88]), (true, [89])]⟩, ⟨false, [114, 111, 97, 100], [(true, [89]), (true, [90])]⟩]⟩,
   ⟨⟨false, [99, 117, 116], [(true, [88]), (true, [89])]⟩, [⟨false, [116, 111, 119, 110], [(true, [88])]⟩, ⟨false, [116, 111, 119, 110], [(true, [89])]⟩, ⟨true, [119, 97, 121], [(true, [88]), (true, [89])]⟩]⟩]
def roadF (a b:Nat):FactB:=(kb [114,111,97,100],[kb (nmL a),kb (nmL b)])
def wayF (a b:Nat):FactB:=(kb [119,97,121],[kb (nmL a),kb (nmL b)])
def roads2:List FactB:=[roadF 0 1,roadF 1 2]
def ways2:List FactB:=[roadF 0 1,roadF 1 2,wayF 0 1,wayF 0 2,wayF 1 2]
theorem told_roads:toldRule roadsT=(roadsR,0,0):=by kernel_rfl
theorem strata_roads:strataP roadsR=([0,0,1],0,0):=by kernel_rfl
theorem run_roads2:runI roadsR [0,0,1] 2 0 roads2=(0,ways2):=by decide+kernel
theorem up_roads2:Up roads2:=by show List.Pairwise _ _;rw[eF_eq];decide+kernel
theorem up_ways2:Up ways2:=by show List.Pairwise _ _;rw[eF_eq];decide+kernel
theorem right_roads2:∀f∈roads2,wrongF f=0:=by decide+kernel
theorem fit_roads2:∀f∈roads2,fitF roadsR f=true:=by decide+kernel
theorem good_roads2:GoodS roadsR roads2:=⟨up_roads2,fun f hf=>wrongF_right.1 (right_roads2 f hf),by decide,fit_roads2⟩
theorem all_roads2:allP roadsR roads2=(0,ways2):=by
 have e1:(strataP roadsR).2.1=0:=by rw[strata_roads]
 have e2:(strataP roadsR).1=[0,0,1]:=by rw[strata_roads]
 have e3:(factsP roadsR roads2).1=0:=by rw[good_facts good_roads2]
 unfold allP;rw[if_neg (fun h=>h e1),if_neg (fun h=>h e3),e2,count5,runI_eq];exact run_roads2
theorem facts2 {w:World} {c:Nat} {n0 n1:ByteArray} {s0 s1:Value} {l0 l1:List ByteArray} {t:TypeId} {fr:Nat×Nat} (h:w.heap[c]?=some (.cells #[.string n0,s0,.string n1,s1] t fr)) (h0:Strs w s0 l0) (h1:Strs w s1 l1):
  Facts w (.slice (some ⟨c,0,none⟩) 2 2) [(n0,l0),(n1,l1)]:=by
 refine⟨by simp,_,2,rfl,fun _=>⟨c,0,rfl,(Array.getElem?_eq_some_iff.1 h).1,fun i hi=> ?_⟩⟩;rw[cell_of_row _ _ _ _ _ _ h,cell_of_row _ _ _ _ _ _ h];simp at hi;have:i=0∨i=1:=by omega
 rcases this with rfl|rfl
 ·exact⟨rfl,s0,rfl,h0⟩
 ·exact⟨rfl,s1,rfl,h1⟩
set_option maxRecDepth 100000 in
set_option maxHeartbeats 4000000 in
theorem aliveT (w:World) (m:Int) (hm:w.cell? ⟨1,0,none⟩=some (.int .i64 m)):Calls Tryz.prog 44 #[] w fun e w'=>e=.returned (.bool true)∧Below w.heap.size w w':=by
 have HP:=hide (parseC (bs roadsT) w m hm);rw[raw_bs,told_roads] at HP;clear hm
 go_enter Tryz.func44,Tryz.ntmps44
 go_wp2_with fail
 refine HP.out.mono ?_;rintro e w1 ⟨v1,rfl,hV1,hB1⟩;dsimp only at hV1⊢;have HV1:=hide (Kind.sl_any hV1);have HB1:=hide hB1;obtain⟨va,vc,rfl⟩:=Kind.slice hV1;clear HP hV1 hB1;obtain⟨w2,hw2⟩:∃w2,w2=w1.alloc (.cells #[.int .i64 0,.int .i64 0] 75):=⟨_,rfl⟩;have hL2:Later w1 w2:=by rw[hw2];exact(Later.refl _).alloc _
 have hr2:w2.heap[w1.heap.size]?=some (.cells #[.int .i64 0,.int .i64 0] 75 (0,0)):=by rw[hw2];exact heap_alloc_new w1 _
 have H01:=hide (roadC 0 1 (by omega) (by omega) w2);have HW2:=hide hw2;clear hw2
 go_wp2_with fail
 rw[←HW2.out];refine H01.out.mono ?_;rintro e w3 ⟨v3,rfl,hF3,hL3⟩;have H12:=hide (roadC 1 2 (by omega) (by omega) w3);obtain⟨s3,rfl,hs3⟩:=hF3;obtain⟨a3,c3,rfl⟩:=sliceStr hs3;have HS3:=hide hs3;have HL3:=hide (hL2.trans hL3);have HR3:=hide ((hL3.block (Array.getElem?_eq_some_iff.1 hr2).1).trans hr2);clear hs3 hL3 H01 hL2 hr2 HW2
 go_wp2_with fail
 refine H12.out.mono ?_;rintro e w4 ⟨v4,rfl,hF4,hL4⟩;obtain⟨s4,rfl,hs4⟩:=hF4;obtain⟨a4,c4,rfl⟩:=sliceStr hs4;obtain⟨w5,hw5⟩:∃w5,w5=w4.alloc (.cells #[.string {data:=#[114,111,97,100]},.slice a3 2 c3,.string {data:=#[114,111,97,100]},.slice a4 2 c4] 27):=⟨_,rfl⟩;have hL5:Later w4 w5:=by rw[hw5];exact(Later.refl _).alloc _
 have hr5:w5.heap[w4.heap.size]?=some (.cells #[.string {data:=#[114,111,97,100]},.slice a3 2 c3,.string {data:=#[114,111,97,100]},.slice a4 2 c4] 27 (0,0)):=by rw[hw5];exact heap_alloc_new w4 _
 have hF5:Facts w5 (.slice (some ⟨w4.heap.size,0,none⟩) 2 2) roads2:=facts2 hr5 (HS3.out.later (hL4.trans hL5)) (hs4.later hL5);have hL15:=HL3.out.trans (hL4.trans hL5);have hB5:=below_trans HB1.out hL15.below HB1.out.size;have HA:=hide (naiveAllC roadsR roads2 (.slice va roadsR.length vc) (.slice (some ⟨w4.heap.size,0,none⟩) 2 2) w5 (Kind.sl_later HV1.out hL15) hF5);rw[all_roads2] at HA;have hr15:w5.heap[w1.heap.size]?=some (.cells #[.int .i64 0,.int .i64 0] 75 (0,0)):=((hL4.trans hL5).block (Array.getElem?_eq_some_iff.1 HR3.out).1).trans HR3.out;have HR5:=hide hr15;have HB5:=hide hB5;have HW5:=hide hw5;clear hs4 hL4 hw5 hL5 hr5 hF5 hL15 hB5 hr15 H12 HS3 HL3 HR3 HV1 HB1
 go_wp2_with fail
 rw[←HW5.out];refine HA.out.mono ?_;rintro e w6 ⟨v6,er,rfl,⟨her,_,hT6⟩,hB6⟩;dsimp only at her hT6;subst her;have hF6:=hT6 rfl;have HF6:=hide hF6;have HB6:=hide (below_trans HB5.out hB6 HB5.out.size);have hr6:=(hB6.block _ (Array.getElem?_eq_some_iff.1 HR5.out).1).trans HR5.out;have c0:w6.cell? ⟨w1.heap.size,0,none⟩=some (.int .i64 0):=by rw[cell_of_row _ _ _ _ _ _ hr6];rfl
 obtain⟨a6,c6,rfl⟩:=sliceFacts hF6;have h5:ways2.length=5:=rfl;rw[h5] at HF6⊢;have H02:=hide (wayC 0 2 (by omega) (by omega) w6);clear hT6 hB6 hF6 h5 hr6 HA HB5 HR5 HW5
 go_wp2_with fail
 refine H02.out.mono ?_;rintro e w7 ⟨v7,rfl,hF7,hL7⟩;have HI:=hide (inC (.slice a6 5 c6) _ ways2 (wayF 0 2) w7 (HF6.out.later hL7) hF7 up_ways2);rw[in_eq,show inB ways2 (wayF 0 2)=true by decide+kernel] at HI;obtain⟨s7,rfl,hs7⟩:=hF7;obtain⟨a7,c7,rfl⟩:=sliceStr hs7;have HB7:=hide (below_trans HB6.out hL7.below HB6.out.size);clear hs7 hL7 H02 c0
 go_wp2_with fail
 refine HI.out.mono ?_;rintro e w8 ⟨rfl,hL8⟩;have HB8:=hide (below_trans HB7.out hL8.below HB7.out.size);clear hL8 HI;go_wp2;go_ret;exact⟨rfl,HB8.out⟩
end Go.Proofs.YtafmbokfkbccaaaGreatDoor
