import Derived.Test.YtafmbokfkbccaaaGreatDoorJB35
import Derived.Test.YtafmbokfkbccaaaGreatDoorJB32
import Derived.Test.YtafmbokfkbccaaaGreatDoorJB34
import Derived.Deep.WholeRow
import Derived.Test.YtafmbokfkbccaaaGreatDoorJB15
import Derived.Test.YtafmbokfkbccaaaGreatDoorJB7
namespace Go.Proofs.YtafmbokfkbccaaaGreatDoor
inductive kU (E:Nat→Nat→Prop):Nat→Nat→Prop
 |one {a b:Nat}:E a b→kU E a b
 |more {a b c:Nat}:kU E a b→E b c→kU E a c
theorem kU.trans {E:Nat→Nat→Prop} {a b c:Nat} (h:kU E a b) (h':kU E b c):kU E a c:=by
 induction h' with
 |one e=>exact .more h e
 |more _ e ih=>exact .more ih e
theorem kU.mono {E F:Nat→Nat→Prop} (h:∀a b,E a b→F a b) {a b:Nat} (hl:kU E a b):kU F a b:=by
 induction hl with
 |one e=>exact .one (h _ _ e)
 |more _ e ih=>exact .more ih (h _ _ e)
def LD (f:Nat→Nat→Bool) (a b c:Nat):Nat→Nat→Bool:=fun x y=>if x=a∧y=c then f a c||(f a b&&f b c) else f x y
def Gz (f:Nat→Nat→Bool) (a b:Nat):Nat→Nat→Nat→Bool
 |0=>f
 |c+1=>LD (Gz f a b c) a b c
def GA (n:Nat) (f:Nat→Nat→Bool) (a:Nat):Nat→Nat→Nat→Bool
 |0=>f
 |b+1=>Gz (GA n f a b) a b n
def GD (n:Nat) (f:Nat→Nat→Bool):Nat→Nat→Nat→Bool
 |0=>f
 |a+1=>GA n (GD n f a) a n
def LG (n:Nat) (f:Nat→Nat→Bool):Nat→Nat→Nat→Bool
 |0=>f
 |k+1=>GD n (LG n f k) n
def LeR (f g:Nat→Nat→Bool):Prop:=∀x y,f x y=true→g x y=true
theorem LeR.trans {f g h:Nat→Nat→Bool} (a:LeR f g) (b:LeR g h):LeR f h:=fun x y e=>b x y (a x y e)
theorem J3 (f:Nat→Nat→Bool) (a b c:Nat):LeR f (LD f a b c):=fun x y e=>by
 unfold LD;split
 ·rename_i h;rw[←h.1,←h.2,e,Bool.true_or]
 ·exact e
theorem nM (f:Nat→Nat→Bool) (a b:Nat):∀c,LeR f (Gz f a b c)
 |0=>fun _ _ e=>e
 |c+1=>(nM f a b c).trans (J3 _ _ _ _)
theorem nN (n:Nat) (f:Nat→Nat→Bool) (a:Nat):∀b,LeR f (GA n f a b)
 |0=>fun _ _ e=>e
 |b+1=>(nN n f a b).trans (nM _ _ _ _)
theorem pQ (n:Nat) (f:Nat→Nat→Bool):∀a,LeR f (GD n f a)
 |0=>fun _ _ e=>e
 |a+1=>(pQ n f a).trans (nN _ _ _ _)
theorem zf {f:Nat→Nat→Bool} {a b c:Nat} (h1:f a b=true) (h2:f b c=true):∀{C:Nat},c<C→Gz f a b C a c=true
 |0,h=>by omega
 |C+1,h=>by
  by_cases e:c=C
  ·subst e;show LD _ a b c a c=true;unfold LD;rw[if_pos ⟨rfl,rfl⟩,nM f a b c _ _ h1,nM f a b c _ _ h2];simp
  ·exact J3 _ _ _ _ _ _ (zf h1 h2 (by omega))
theorem zh {n:Nat} {f:Nat→Nat→Bool} {a b c:Nat} (h1:f a b=true) (h2:f b c=true) (hc:c<n):∀{B:Nat},b<B→GA n f a B a c=true
 |0,h=>by omega
 |B+1,h=>by
  by_cases e:b=B
  ·subst e;exact zf (nN n f a b _ _ h1) (nN n f a b _ _ h2) hc
  ·exact nM _ _ _ _ _ _ (zh h1 h2 hc (by omega))
theorem zi {n:Nat} {f:Nat→Nat→Bool} {a b c:Nat} (h1:f a b=true) (h2:f b c=true) (hb:b<n) (hc:c<n):∀{A:Nat},a<A→GD n f A a c=true
 |0,h=>by omega
 |A+1,h=>by
  by_cases e:a=A
  ·subst e;exact zh (pQ n f a _ _ h1) (pQ n f a _ _ h2) hc hb
  ·exact nN _ _ _ _ _ _ (zi h1 h2 hb hc (by omega))
def Hl (E:Nat→Nat→Prop) (f:Nat→Nat→Bool):Prop:=∀x y,f x y=true→kU E x y
theorem LH {E:Nat→Nat→Prop} {f:Nat→Nat→Bool} (h:Hl E f) (a b c:Nat):Hl E (LD f a b c):=fun x y e=>by
 unfold LD at e;split at e
 ·rename_i hx;rw[hx.1,hx.2];simp only[Bool.or_eq_true,Bool.and_eq_true] at e;rcases e with e|e
  ·exact h _ _ e
  ·exact(h _ _ e.1).trans (h _ _ e.2)
 ·exact h _ _ e
theorem zk {E:Nat→Nat→Prop} {f:Nat→Nat→Bool} (h:Hl E f) (a b:Nat):∀c,Hl E (Gz f a b c)
 |0=>h
 |c+1=>LH (zk h a b c) _ _ _
theorem zm {E:Nat→Nat→Prop} {n:Nat} {f:Nat→Nat→Bool} (h:Hl E f) (a:Nat):∀b,Hl E (GA n f a b)
 |0=>h
 |b+1=>zk (zm h a b) _ _ _
theorem zn {E:Nat→Nat→Prop} {n:Nat} {f:Nat→Nat→Bool} (h:Hl E f):∀a,Hl E (GD n f a)
 |0=>h
 |a+1=>zm (zn h a) _ _
theorem GH {E:Nat→Nat→Prop} {n:Nat} {f:Nat→Nat→Bool} (h:Hl E f):∀k,Hl E (LG n f k)
 |0=>h
 |k+1=>zn (GH h k) _
def Via (E:Nat→Nat→Prop):Nat→Nat→Nat→Prop
 |0=>E
 |k+1=>fun a b=>Via E k a b∨(Via E k a k∧Via E k k b)
theorem Via.trans {E:Nat→Nat→Prop}:∀{k a x b:Nat},x<k→Via E k a x→Via E k x b→Via E k a b
 |0,a,x,b,h,_,_=>by omega
 |k+1,a,x,b,h,h1,h2=>by
  by_cases e:x=k
  ·subst e;exact Or.inr ⟨h1.elim id (·.1),h2.elim id (·.2)⟩
  ·have hx:x<k:=by omega
   rcases h1 with h1|⟨h1,h3⟩
   ·rcases h2 with h2|⟨h2,h4⟩
    ·exact Or.inl (Via.trans hx h1 h2)
    ·exact Or.inr ⟨Via.trans hx h1 h2,h4⟩
   ·rcases h2 with h2|⟨_,h4⟩
    ·exact Or.inr ⟨h1,Via.trans hx h3 h2⟩
    ·exact Or.inr ⟨h1,h4⟩
theorem GI {E:Nat→Nat→Prop} {a b:Nat} (h:E a b):∀k,Via E k a b
 |0=>h
 |k+1=>Or.inl (GI h k)
theorem NV {E:Nat→Nat→Prop} {n:Nat} (hE:∀a b,E a b→a<n∧b<n) {a b:Nat} (h:kU E a b):Via E n a b:=by
 induction h with
 |one e=>exact GI e n
 |more _ e ih=>exact Via.trans (hE _ _ e).1 ih (GI e n)
theorem wI {E:Nat→Nat→Prop} {n:Nat} {f:Nat→Nat→Bool} (hf:∀a b,E a b→f a b=true):∀{k:Nat},k≤n→∀{a b},a<n→b<n→Via E k a b→LG n f k a b=true
 |0,_,a,b,_,_,h=>hf a b h
 |k+1,hk,a,b,ha,hb,h=>by
  rcases h with h|⟨h1,h2⟩
  ·exact pQ _ _ _ _ _ (wI hf (by omega) ha hb h)
  ·exact zi (wI hf (by omega) ha (by omega) h1) (wI hf (by omega) (by omega) hb h2) (by omega) hb ha
structure Net (n:Nat) (E:Nat→Nat→Prop) (L:List aj):Prop where
 n6:n≤6
 e8:∀a b,E a b→a<8∧b<8
 up:Up L
 few:L.length≤20
 mem:∀f,f∈L↔(∃a b,E a b∧f=rdF (chN a) (chN b))∨∃k,k<n∧f=twF (chN k)
def uM:List (Nat×Nat):=(List.range 8).flatMap fun a=>(List.range 8).map fun b=>(a,b)
theorem rY {a b:Nat} (ha:a<8) (hb:b<8):(a,b)∈uM:=by
 simp only[uM,List.mem_flatMap,List.mem_map,List.mem_range];exact⟨a,ha,b,hb,rfl⟩
def Cc:List (Nat×Nat):=(List.range 6).flatMap fun a=>(List.range 6).map fun b=>(a,b)
theorem DY {a b:Nat} (ha:a<6) (hb:b<6):(a,b)∈Cc:=by
 simp only[Cc,List.mem_flatMap,List.mem_map,List.mem_range];exact⟨a,ha,b,hb,rfl⟩
theorem DZ:uM.length=64:=by decide
theorem D5:Cc.length=36:=by decide
def InU (n:Nat) (E:Nat→Nat→Prop) (L:List aj) (f:aj):Prop:=f∈L∨(∃a b,a<8∧b<8∧kU E a b∧f=wyF (chN a) (chN b))∨∃a b,a<n∧b<n∧f=cuF (chN a) (chN b)
def NW (L:List aj):List aj:=L++(uM.map fun p=>wyF (chN p.1) (chN p.2))++Cc.map fun p=>cuF (chN p.1) (chN p.2)
variable {n:Nat} {E:Nat→Nat→Prop} {L:List aj}
theorem Net.all (h:Net n E L) {f:aj} (hf:InU n E L f):f∈NW L:=by
 have h6:=h.n6;simp only[NW,List.mem_append,List.mem_map];rcases hf with hf|⟨a,b,ha,hb,_,rfl⟩|⟨a,b,ha,hb,rfl⟩
 ·exact Or.inl (Or.inl hf)
 ·exact Or.inl (Or.inr ⟨(a,b),rY ha hb,rfl⟩)
 ·exact Or.inr ⟨(a,b),DY (by omega) (by omega),rfl⟩
theorem Net.J4 (h:Net n E L):(NW L).length≤141:=by
 have:=h.few;simp only[NW,List.length_append,List.length_map,DZ,D5];omega
theorem Net.len (h:Net n E L) {K:List aj} (hu:Up K) (hK:∀f∈K,InU n E L f):K.length≤141:=
 Nat.le_trans (sw hu fun f hf=>h.all (hK f hf)) h.J4
theorem AZ {a b:Nat} (ha:a<8) (hb:b<8) (h:chN a=chN b):a=b:=by
 have key:∀p∈uM,chN p.1=chN p.2→p.1=p.2:=by decide+kernel
 exact key _ (rY ha hb) h
theorem NY {u v u' v':ByteArray}:rdF u v=rdF u' v'↔u=u'∧v=v':=by simp[rdF]
theorem NZ {u v u' v':ByteArray}:wyF u v=wyF u' v'↔u=u'∧v=v':=by simp[wyF]
theorem N7 {u v u' v':ByteArray}:cuF u v=cuF u' v'↔u=u'∧v=v':=by simp[cuF]
theorem N8 {u u':ByteArray}:twF u=twF u'↔u=u':=by simp[twF]
theorem Net.rd (h:Net n E L) {u v:ByteArray} (hf:InU n E L (rdF u v)):∃a b,E a b∧u=chN a∧v=chN b:=by
 rcases hf with hf|⟨a,b,_,_,_,e⟩|⟨a,b,_,_,e⟩
 ·rcases(h.mem _).1 hf with⟨a,b,he,e⟩|⟨k,_,e⟩
  ·exact⟨a,b,he,NY.1 e⟩
  ·simp[rdF,twF] at e
 ·simp[rdF,wyF] at e
 ·simp[rdF,cuF] at e
theorem Net.wy (h:Net n E L) {u v:ByteArray} (hf:InU n E L (wyF u v)):∃a b,a<8∧b<8∧kU E a b∧u=chN a∧v=chN b:=by
 rcases hf with hf|⟨a,b,ha,hb,hl,e⟩|⟨a,b,_,_,e⟩
 ·rcases(h.mem _).1 hf with⟨a,b,he,e⟩|⟨k,_,e⟩
  ·simp[rdF,wyF] at e
  ·simp[wyF,twF] at e
 ·exact⟨a,b,ha,hb,hl,NZ.1 e⟩
 ·simp[wyF,cuF] at e
theorem Net.tw (h:Net n E L) {u:ByteArray} (hf:InU n E L (twF u)):∃k,k<n∧u=chN k:=by
 rcases hf with hf|⟨a,b,_,_,_,e⟩|⟨a,b,_,_,e⟩
 ·rcases(h.mem _).1 hf with⟨a,b,_,e⟩|⟨k,hk,e⟩
  ·simp[rdF,twF] at e
  ·exact⟨k,hk,N8.1 e⟩
 ·simp[twF,wyF] at e
 ·simp[twF,cuF] at e
theorem Net.made (h:Net n E L) {K:List aj} (hK:∀f∈K,InU n E L f) {r:aA} (hr:r∈chR) {f:aj} (hm:Dq K r f):InU n E L f:=by
 rw[uF] at hr;simp only[List.mem_cons,List.not_mem_nil,or_false] at hr;rcases hr with rfl|rfl|rfl
 ·obtain⟨u,v,h1,rfl⟩:=K5.1 hm;obtain⟨a,b,he,rfl,rfl⟩:=h.rd (hK _ h1);exact Or.inr (Or.inl ⟨a,b,(h.e8 a b he).1,(h.e8 a b he).2,.one he,rfl⟩)
 ·obtain⟨u,v,t,h1,h2,rfl⟩:=K6.1 hm;obtain⟨a,b,ha,hb,hl,rfl,rfl⟩:=h.wy (hK _ h1);obtain⟨c,d,he,e,rfl⟩:=h.rd (hK _ h2);obtain rfl:=AZ hb (h.e8 c d he).1 e;exact Or.inr (Or.inl ⟨a,d,ha,(h.e8 _ d he).2,.more hl he,rfl⟩)
 ·obtain⟨u,v,h1,h2,_,rfl⟩:=K7.1 hm;obtain⟨a,ha,rfl⟩:=h.tw (hK _ h1);obtain⟨b,hb,rfl⟩:=h.tw (hK _ h2);exact Or.inr (Or.inr ⟨a,b,ha,hb,rfl⟩)
def lvC (s:Bs):Nat:=if s=[99,117,116] then 1 else 0
theorem zq:chR.map (fun r=>lvC r.head.name)=[0,0,1]:=by decide
theorem jT:cZ chR:=kX.1 (by decide+kernel)
theorem J5:Sol chR lvC:=fun r hr a ha _=>(by decide+kernel:∀r∈chR,∀a∈r.body,lvC a.name+step a≤lvC r.head.name) r hr a ha
theorem Net.good (h:Net n E L):GoodS chR L:=by
 have k1:∀p∈uM,iH (rdF (chN p.1) (chN p.2))∧sD chR (rdF (chN p.1) (chN p.2))=true:=by unfold iH;decide+kernel
 have k2:∀k∈List.range 8,iH (twF (chN k))∧sD chR (twF (chN k))=true:=by unfold iH;decide+kernel
 have key:∀f∈L,iH f∧sD chR f=true:=fun f hf=>by
  rcases(h.mem f).1 hf with⟨a,b,he,rfl⟩|⟨k,hk,rfl⟩
  ·exact k1 (a,b) (rY (h.e8 a b he).1 (h.e8 a b he).2)
  ·exact k2 k (List.mem_range.2 (by have:=h.n6;omega))
 exact⟨h.up,fun f hf=>(key f hf).1,by have:=h.few;omega,fun f hf=>(key f hf).2⟩
theorem Net.heads (h:Net n E L) {K:List aj} (hu:Up K) (hK:∀f∈K,InU n E L f) {r:aA} (hr:r∈chR):∃x,dM r K=some x∧∀f,f∈x↔Dq K r f:=by
 obtain⟨R,hR⟩:=all_some (pick:=fun _=>K) (fun _=>h.len hu hK) hr;have e:dM r K=some (fO (R.filterMap fun l=>aQ r.head l)):=by unfold dM;rw[hR]
 exact⟨_,e,fD (bH (jT.rules r hr)) e⟩
theorem Net.once (h:Net n E L) {K:List aj} (hu:Up K) (hK:∀f∈K,InU n E L f) (st:Int):∃S,bV chR [0,0,1] st K=(0,S)∧Up S∧∀f∈S,InU n E L f:=by
 rw[←zq];have h0:(eP st K chR (chR.map fun r=>lvC r.head.name) K).1=0:=by
  refine ql (fun r=>lvC r.head.name) (T:=NW L) (Nat.le_trans h.J4 (by omega)) (fun r hr _=> ?_) fun f hf=>h.all (hK f hf);obtain⟨x,hx,hm⟩:=h.heads hu hK hr;exact⟨x,hx,fun f hf=>h.all (h.made hK hr ((hm f).1 hf))⟩
 have e:bV chR (chR.map fun r=>lvC r.head.name) st K=(0,(bV chR (chR.map fun r=>lvC r.head.name) st K).2):=Prod.ext h0 rfl;obtain⟨_,_,h3,h4,_⟩:=gH (fun r=>lvC r.head.name) e;refine⟨_,e,h4,fun f hf=> ?_⟩;rcases h3 f hf with hf|⟨r,hr,_,x,hx,hf⟩
 ·exact hK f hf
 ·obtain⟨y,hy,hm⟩:=h.heads hu hK hr;rw[hx] at hy;cases hy;exact h.made hK hr ((hm f).1 hf)
theorem Net.over (h:Net n E L) (st:Int):∀(k:Nat) {K:List aj},Up K→(∀f∈K,InU n E L f)→∃S,dH chR [0,0,1] st k K=(0,S)∧Up S∧∀f∈S,InU n E L f
 |0,K,hu,hK=>⟨K,rfl,hu,hK⟩
 |k+1,K,hu,hK=>by
  obtain⟨S,h1,h2,h3⟩:=h.once hu hK st;unfold dH;rw[h1];dsimp only;rw[if_neg (by simp)];split
  ·exact⟨S,rfl,h2,h3⟩
  ·exact h.over st k h2 h3
theorem Net.run (h:Net n E L):∀(c m:Nat) {K:List aj},Up K→(∀f∈K,InU n E L f)→∃S,gQ chR [0,0,1] c m K=(0,S)∧Up S∧∀f∈S,InU n E L f
 |0,m,K,hu,hK=>⟨K,rfl,hu,hK⟩
 |c+1,m,K,hu,hK=>by
  obtain⟨S,h1,h2,h3⟩:=h.over m 201 hu hK;unfold gQ;rw[h1];dsimp only;rw[if_neg (by simp)];exact h.run c (m+1) h2 h3
theorem Net.follows (h:Net n E L):∃M,gQ chR [0,0,1] 2 0 L=(0,M)∧Up M∧(∀f∈M,InU n E L f)∧(∀f∈L,f∈M)∧(∀a b,a<8→b<8→(wyF (chN a) (chN b)∈M↔kU E a b))∧∀a b,a<n→b<n→(cuF (chN a) (chN b)∈M↔¬kU E a b):=by
 obtain⟨M,h1,h2,h3⟩:=h.run 2 0 h.up fun f hf=>Or.inl hf;have h6:=h.n6;have ec:countP (chR.map fun r=>lvC r.head.name)=2:=by decide
 have e1:gQ chR (chR.map fun r=>lvC r.head.name) (countP (chR.map fun r=>lvC r.head.name)) 0 L=(0,M):=by rw[ec,zq];exact h1
 obtain⟨m1,m2⟩:=qm jT J5 h.good e1;have hd:=Cq jT J5 h.good e1 fun r hr=>by obtain⟨x,hx,_⟩:=h.heads h2 h3 hr;exact⟨x,hx⟩
 have hcl:∀r∈chR,∀f,Dq M r f→f∈M:=fun r hr f hf=>by
  obtain⟨x,hx,hm⟩:=h.heads h2 h3 hr;exact m2 r hr x hx f ((hm f).2 hf)
 have hw:∀a b,a<8→b<8→(wyF (chN a) (chN b)∈M↔kU E a b):=fun a b ha hb=>by
  constructor
  ·intro hm;obtain⟨c,d,hc,hd,hl,e1,e2⟩:=h.wy (h3 _ hm);rw[AZ ha hc e1,AZ hb hd e2];exact hl
  ·intro hl;clear ha hb
   induction hl with
   |one e=>exact hcl KZ (by rw[uF];simp) _ (K5.2 ⟨_,_,m1 _ ((h.mem _).2 (Or.inl ⟨_,_,e,rfl⟩)),rfl⟩)
   |more _ e ih=>exact hcl IJ (by rw[uF];simp) _ (K6.2 ⟨_,_,_,ih,m1 _ ((h.mem _).2 (Or.inl ⟨_,_,e,rfl⟩)),rfl⟩)
 refine⟨M,h1,h2,h3,m1,hw,fun a b ha hb=> ?_⟩
 constructor
 ·intro hm hl;rcases(hd _).1 hm with hL|⟨r,hr,x,hx,hf⟩
  ·rcases(h.mem _).1 hL with⟨_,_,_,e⟩|⟨_,_,e⟩
   ·simp[rdF,cuF] at e
   ·simp[cuF,twF] at e
  ·obtain⟨y,hy,hmm⟩:=h.heads h2 h3 hr;rw[hx] at hy;cases hy;have hmd:=(hmm _).1 hf;rw[uF] at hr;simp only[List.mem_cons,List.not_mem_nil,or_false] at hr;rcases hr with rfl|rfl|rfl
   ·obtain⟨u,v,_,e⟩:=K5.1 hmd;simp[wyF,cuF] at e
   ·obtain⟨u,v,t,_,_,e⟩:=K6.1 hmd;simp[wyF,cuF] at e
   ·obtain⟨u,v,_,_,hn,e⟩:=K7.1 hmd;obtain⟨rfl,rfl⟩:=N7.1 e;exact hn ((hw a b (by omega) (by omega)).2 hl)
 ·intro hl;refine hcl FY (by rw[uF];simp) _ (K7.2 ⟨_,_,m1 _ ((h.mem _).2 (Or.inr ⟨a,ha,rfl⟩)),m1 _ ((h.mem _).2 (Or.inr ⟨b,hb,rfl⟩)),fun hm=>hl ((hw a b (by omega) (by omega)).1 hm),rfl⟩)
theorem wJ {K N:List aj} {r:aA} (hr:r∈chR) (hK:K.length≤141) (hN:N.length≤141):∀(l:List aF) (k:Nat) (acc:List aj),∃S,Ea K N r k l acc=some S
 |[],k,acc=>⟨acc,rfl⟩
 |a::l,k,acc=>by
  unfold Ea;split
  ·exact wJ hr hK hN l _ _
  ·obtain⟨R,hR⟩:=all_some (pick:=gM K k N) (fun i=>by unfold gM;split <;> assumption) hr;rw[hR];exact wJ hr hK hN l _ _
theorem GJ {K N:List aj} {r:aA} (hr:r∈chR) (hK:K.length≤141) (hN:N.length≤141) (acc:List aj):∃S,JO K N r acc=some S:=by
 unfold JO;split
 ·obtain⟨R,hR⟩:=all_some (pick:=fun _=>K) (fun _=>hK) hr;have e:dM r K=some (fO (R.filterMap fun l=>aQ r.head l)):=by unfold dM;rw[hR]
  rw[e];exact⟨_,rfl⟩
 ·exact wJ hr hK hN _ _ _
theorem mE {K N:List aj} (hK:K.length≤141) (hN:N.length≤141) (st:Int):∀(p:List aA) (ss:List Nat) (acc:List aj),(∀r∈p,r∈chR)→∃S,fV K N st p ss acc=some S
 |[],_,acc,_=>⟨acc,rfl⟩
 |_::_,[],acc,_=>⟨acc,rfl⟩
 |r::p,s::ss,acc,h=>by
  unfold fV;split
  ·obtain⟨S,hS⟩:=GJ (h r (by simp)) hK hN acc;rw[hS];exact mE hK hN st p ss S fun q hq=>h q (by simp[hq])
  ·exact mE hK hN st p ss acc fun q hq=>h q (by simp[hq])
theorem Net.next (h:Net n E L) {r:nO} (hr:qV chR 2 r) (hK:∀f∈r.known,InU n E L f) (h0:r.rounds≠1000):∃x,jG chR [0,0,1] r=(0,x)∧∀f∈x.known,InU n E L f:=by
 have hk:=h.len hr.good.up hK;have hf:=Nat.le_trans (sw hr.up hr.sub) hk;obtain⟨M,hM⟩:=mE hk hf r.level chR [0,0,1] [] fun _ h=>h;have hM':=hM;rw[←zq] at hM';have hmem:∀f∈M,InU n E L f:=fun f hf=>by
  rcases(ji (fun r=>lvC r.head.name) jT.rules hM' f).1 hf with h1|⟨q,hq,_,hm⟩
  ·cases h1
  ·exact h.made hK hq (om hr.sub hm)
 have hall:∀f∈fO (r.known++M),InU n E L f:=fun f hf=>(List.mem_append.1 (bU.1 hf)).elim (hK f) (hmem f);have hlen:=h.len (gV (r.known++M)) hall;unfold jG;rw[if_neg h0,hM];dsimp only;rw[if_neg (by omega)];split
 ·exact⟨_,rfl,hall⟩
 ·exact⟨_,rfl,hall⟩
theorem Net.steps (h:Net n E L):∀(m:Nat) {r:nO},qV chR 2 r→(∀f∈r.known,InU n E L f)→r.rounds+m≤1000→∃x,fZ chR [0,0,1] m r=(0,x)∧qV chR 2 x∧∀f∈x.known,InU n E L f
 |0,r,hr,hK,_=>⟨r,rfl,hr,hK⟩
 |m+1,r,hr,hK,hm=>by
  unfold fZ;split
  ·exact⟨r,rfl,hr,hK⟩
  ·rename_i hd;obtain⟨x,hx,hxK⟩:=h.next hr hK (by omega)
   have hx':=hx;rw[←zq] at hx';have ec:countP (chR.map fun r=>lvC r.head.name)=2:=by decide
   have hn:=oo jT (fun r=>lvC r.head.name) (by rw[ec];exact hr) (by simpa using hd) hx';rw[ec] at hn;rw[hx];dsimp only;rw[if_neg (by simp)];exact h.steps m hn.1 hxK (by have:=hn.2.2.1;omega)
theorem Net.rounds (h:Net n E L) {M:List aj} (hM:gQ chR [0,0,1] 2 0 L=(0,M)):∃x,fZ chR [0,0,1] 1000 ⟨L,L,0,0,false⟩=(0,x)∧x.known=M:=by
 have ec:countP (chR.map fun r=>lvC r.head.name)=2:=by decide
 obtain⟨x,hx,_⟩:=h.steps 1000 (r:=⟨L,L,0,0,false⟩) (qW (c:=2) h.good) (fun f hf=>Or.inl hf) (by simp);have hb:=Dp jT (fun r=>lvC r.head.name) (fun r _=>by show lvC _<16;unfold lvC;split <;> omega) h.good;rw[ec,zq] at hb;have hb:=hb (by show(fZ chR [0,0,1] 1000 ⟨L,L,0,0,false⟩).1≠4;rw[hx];simp) (by rw[hM];simp);change (fZ chR [0,0,1] 1000 ⟨L,L,0,0,false⟩).1=_∧((fZ chR [0,0,1] 1000 ⟨L,L,0,0,false⟩).1=0→(fZ chR [0,0,1] 1000 ⟨L,L,0,0,false⟩).2.known=_) at hb;refine⟨x,hx,?_⟩;have h2:=hb.2 (by rw[hx]);rw[hx,hM] at h2;exact h2
end Go.Proofs.YtafmbokfkbccaaaGreatDoor
namespace Go.Proofs.YtafmbokfkbccaaaGreatDoor
open Go.RowKit Go.Sort Go.Maps
def A8 (n:Nat) (x:Int):Nat:=(Int.tmod (Int.tmod x n+n) n).toNat
theorem Jp {n:Nat} (hn:1≤n) (x:Int):Int.tmod (Int.tmod x n+n) n=(A8 n x:Int):=by
 have h1: -(n:Int)<Int.tmod x n:=by have:=Int.lt_tmod_of_pos x (b:=(n:Int)) (by omega);omega
 unfold A8;rw[Int.toNat_of_nonneg (Int.tmod_nonneg _ (by omega))]
theorem Ce {n:Nat} (hn:1≤n) (x:Int):A8 n x<n:=by
 have h:=Jp hn x;have:=Int.tmod_lt_of_pos (Int.tmod x n+n) (b:=(n:Int)) (by omega);omega
theorem N9 {n:Nat} (hn:1≤n) (x:Int): -(n:Int)<Int.tmod x n∧Int.tmod x n<n:=
 ⟨Int.lt_tmod_of_pos x (by omega),Int.tmod_lt_of_pos x (by omega)⟩
def LJ (w:World) (v:Value) (g:Nat→Int) (n:Nat):Prop:=∃a cap,v=.slice a n cap∧(0<n→∃b off,a=some ⟨b,off,none⟩∧b<w.heap.size∧∀i,i<n→w.cell? ⟨b,off+i,none⟩=some (.int .i64 (g i)))
def Jq (n:Nat) (g h:Nat→Int) (m:Nat):Nat→Nat→Nat→Bool
 |0=>fun _ _=>false
 |j+1=>if j<m then fun x y=>if x=A8 n (g j)∧y=A8 n (h j) then true else Jq n g h m j x y else Jq n g h m j
def J6 (n:Nat) (g h:Nat→Int) (m:Nat):Nat→List aj
 |0=>[]
 |j+1=>if j<m then J6 n g h m j++[rdF (chN (A8 n (g j))) (chN (A8 n (h j)))] else J6 n g h m j
def Mg:Nat→List aj
 |0=>[]
 |k+1=>Mg k++[twF (chN k)]
theorem Jr (n:Nat) (g h:Nat→Int) (m:Nat):∀j,(J6 n g h m j).length≤j
 |0=>Nat.le_refl _
 |j+1=>by
  have:=Jr n g h m j;unfold J6;split
  ·rw[List.length_append];simp;omega
  ·omega
theorem Js:∀k,(Mg k).length=k
 |0=>rfl
 |k+1=>by rw[Mg,List.length_append,Js k];rfl
theorem Jt {f:aj}:∀{k:Nat},f∈Mg k↔∃i,i<k∧f=twF (chN i)
 |0=>by simp[Mg]
 |k+1=>by
  rw[Mg,List.mem_append,Jt,List.mem_singleton]
  constructor
  ·rintro(⟨i,hi,e⟩|e)
   ·exact⟨i,by omega,e⟩
   ·exact⟨k,by omega,e⟩
  ·rintro⟨i,hi,e⟩
   by_cases h:i=k
   ·subst h;exact Or.inr e
   ·exact Or.inl ⟨i,by omega,e⟩
theorem Cg {n:Nat} {g h:Nat→Int} {m:Nat} {f:aj}:∀{j:Nat},f∈J6 n g h m j↔∃a b,Jq n g h m j a b=true∧f=rdF (chN a) (chN b)
 |0=>by simp[J6,Jq]
 |j+1=>by
  by_cases hm:j<m
  ·rw[J6,Jq,if_pos hm,if_pos hm,List.mem_append,Cg,List.mem_singleton]
   constructor
   ·rintro(⟨a,b,h1,e⟩|e)
    ·refine⟨a,b,?_,e⟩;split
     ·rfl
     ·exact h1
    ·exact⟨_,_,by rw[if_pos ⟨rfl,rfl⟩],e⟩
   ·rintro⟨a,b,h1,e⟩;split at h1
    ·rename_i h2;rw[h2.1,h2.2] at e;exact Or.inr e
    ·exact Or.inl ⟨a,b,h1,e⟩
  ·rw[J6,Jq,if_neg hm,if_neg hm];exact Cg
theorem GK {n:Nat} (hn:1≤n) {g h:Nat→Int} {m:Nat}:∀{j a b:Nat},Jq n g h m j a b=true→a<n∧b<n
 |0,a,b,e=>by simp[Jq] at e
 |j+1,a,b,e=>by
  rw[Jq] at e;split at e
  ·dsimp only at e;split at e
   ·rename_i h2;rw[h2.1,h2.2];exact⟨Ce hn _,Ce hn _⟩
   ·exact GK hn e
  ·exact GK hn e
structure Ju (w2 wr:World) (b:Nat) (f:Nat→Nat→Bool) (v:Value) (l:List aj):Prop where
 tn:Tn b w2 wr
 row:Cb 92 wr b f
 own:gT wr w2.heap.size v l
theorem Ju.later {w2 wr w3:World} {b:Nat} {f:Nat→Nat→Bool} {v:Value} {l:List aj} (h:Ju w2 wr b f v l) (hL:Later wr w3):Ju w2 w3 b f v l:=
 ⟨h.tn.trans (Tn.of_below hL.below),(hL.block h.row.lt).trans h.row,h.own.later hL⟩
theorem Ju.set {w2 wr:World} {b a c:Nat} {f:Nat→Nat→Bool} {v:Value} {l:List aj} (h:Ju w2 wr b f v l) (hb:b<w2.heap.size) (ha:a<8) (hc:c<8) (u:Bool):Ju w2 (wr.setCell ⟨b,a*8+c,none⟩ (.bool u)) b (fun x y=>if x=a∧y=c then u else f x y) v l:=
 ⟨h.tn.setCell (Or.inl rfl) _,h.row.set ha hc u,h.own.put hb⟩
theorem Ju.more {w2 w3:World} {b:Nat} {f:Nat→Nat→Bool} {v:Value} {l:List aj} (h:Ju w2 w3 b f v l) (hb:b<w2.heap.size) (x:aj) (s:Value) (hs:Strs w3 s x.2) (Oo:∀k,s.ownBlock=some k→w2.heap.size≤k∧k<w3.heap.size∧v.ownBlock≠some k) (hl:l.length≤1000):
  ∃a n c w5,(Builtin.append_ #[24,24] 24 #[v,.slice (some ⟨w3.heap.size,0,none⟩) 1 1]).run Tryz.prog (w3.alloc (.cells #[.string x.1,s] 27))=.ok (.slice a n c) w5∧Ju w2 w5 b f (.slice a n c) (l++[x]):=by
 obtain⟨sa,sc,rfl⟩:=aZ hs;obtain⟨v5,w5,hrun,hO5,hg5,hd5⟩:=h.own.append x _ hs Oo (by omega) h.tn.size rfl;obtain⟨a,c,rfl⟩:=hO5.slice;have hbv:some b≠v.ownBlock:=fun e=>by have:=(h.own.lt e.symm).1;omega
 have hsz:w3.heap.size≤w5.heap.size:=by have:=hg5.size;rw[World.size_alloc] at this;omega
 have hblk:∀k,k<w3.heap.size→some k≠v.ownBlock→w5.heap[k]?=w3.heap[k]?:=fun k hk ho=>
  (hg5.block k (by rw[World.size_alloc];omega) ho).trans (Below.heap_alloc _ _ _ hk)
 refine⟨a,_,c,w5,hrun,⟨⟨hg5.os.trans h.tn.os,hg5.tape.trans h.tn.tape,hg5.output.trans h.tn.output,Nat.le_trans h.tn.size hsz,fun k hk ho=> ?_⟩,(hblk b h.row.lt hbv).trans h.row,hO5⟩⟩;refine(hblk k (Nat.lt_of_lt_of_le hk h.tn.size) fun e=> ?_).trans (h.tn.block k hk ho);have:=(h.own.lt e.symm).1;omega
end Go.Proofs.YtafmbokfkbccaaaGreatDoor
namespace Go.Proofs.YtafmbokfkbccaaaGreatDoor
open Go.RowKit Go.Sort Go.Maps
theorem D6 {p:List aA} {told all:List aj} {n:Nat} {x y:bf} {g:aj} (h:kS p told=(0,all)) (hd:Deep (n+1) x) (hs:Sub x y) (hy:y.fact=g) (hg:inB all g=false):nI p told n x≠0:=fun hc=>by
 obtain⟨h1,h2,h3⟩:=DW h;unfold nI at hc;rw[h] at hc;rw[if_neg (fun h=>h rfl)] at hc;split at hc
 ·cases hc
 ·have:=qp h1 h2 h3 (n+1) x hd hc y hs;rw[hy] at this;rw[aO.2 this] at hg;cases hg
theorem GL (p:List aA) (told:List aj) (f:aj):(∃er,er≠0∧iM p told f=(er,none))∨∃x,iM p told f=(0,some x):=by
 unfold iM;split
 ·rename_i h;exact Or.inl ⟨_,h,rfl⟩
 ·split
  ·rename_i h;exact Or.inl ⟨_,h,rfl⟩
  ·split
   ·exact Or.inl ⟨6,by decide,rfl⟩
   ·split
    ·exact Or.inl ⟨4,by decide,rfl⟩
    ·rename_i x _;exact Or.inr ⟨x,rfl⟩
def GN (lo n:Nat) (w:World) (b o:Nat) (x:bf):Prop:=lo≤b∧(∃cs t,w.heap[b]?=some (.cells cs t (0,0)))∧∃sa sc ka kc,w.cell? ⟨b,o,none⟩=some (.string x.fact.1)∧w.cell? ⟨b,o+1,none⟩=some (.slice sa x.fact.2.length sc)∧w.cell? ⟨b,o+2,none⟩=some (.int .i64 x.rule)∧w.cell? ⟨b,o+3,none⟩=some (.slice ka x.kids.length kc)∧
 bsK.sl (From lo) w (.slice sa x.fact.2.length sc) x.fact.2∧(Ed n).sl (From lo) w (.slice ka x.kids.length kc) x.kids∧Lv w (.slice ka x.kids.length kc)
theorem GN.prf {lo n b o:Nat} {w:World} {x:bf} (h:GN lo n w b o x):Ld n w b o x:=by
 obtain⟨_,_,sa,sc,ka,kc,h0,h1,h2,h3,h4,h5,_⟩:=h;exact⟨_,_,h0,h1,h2,h3,Kind.dN h4,Kind.dN ((AR n).2 h5)⟩
theorem GN.kid {lo n b o i:Nat} {w:World} {x:bf} (h:GN lo n w b o x) (hi:i<x.kids.length):∃m kb ko kc y,w.cell? ⟨b,o+3,none⟩=some (.slice (some ⟨kb,ko,none⟩) x.kids.length kc)∧GN lo m w kb (ko+i*4) y∧Road w b o kb (ko+i*4):=by
 obtain⟨_,_,sa,sc,ka,kc,h0,h1,h2,h3,h4,h5,h6⟩:=h;obtain⟨_,a,cap,e,h7⟩:=h5;simp only[Value.slice.injEq] at e;obtain⟨rfl,_,rfl⟩:=e;have hne:x.kids≠[]:=by intro e;rw[e] at hi;simp at hi
 obtain⟨kb,ko,rfl,hB,hb,hc⟩:=h7 hne;obtain⟨y,hy⟩:∃y,x.kids[i]?=some y:=⟨_,List.getElem?_eq_getElem hi⟩;obtain⟨c,c1,c2⟩:=hc i y hy;cases n with
 |zero=>exact c1.elim
 |succ m=>
  obtain⟨s,kv,rfl,k1,k2,k3⟩:=c1;obtain⟨sa2,sc2,rfl⟩:=Kind.slice k1;obtain⟨ka2,kc2,rfl⟩:=Kind.slice k2;refine⟨m,kb,ko,kc,y,h3,⟨hB,h6 kb ko _ _ rfl (by omega),sa2,sc2,ka2,kc2,?_,c2 1 _ rfl,c2 2 _ rfl,c2 3 _ rfl,k1,k2,k3⟩,.kid h2 h3 hi (.here _ _)⟩;show w.cell? ⟨kb,ko+i*4+0,none⟩=_;exact c2 0 _ rfl
theorem GN.Ug {lo n b o:Nat} {w:World} {x:bf} {g:aj} {gs:Value} (h:GN lo n w b o x) (hs:bsK.sl (fun k=>k<lo) w gs g.2):wL w ((w.setCell ⟨b,o,none⟩ (.string g.1)).setCell ⟨b,o+1,none⟩ gs) b o g gs∧Tn b w ((w.setCell ⟨b,o,none⟩ (.string g.1)).setCell ⟨b,o+1,none⟩ gs):=by
 obtain⟨hlo,⟨cs,t,hr⟩,sa,sc,ka,kc,h0,h1,h2,h3,_⟩:=h;have hT:Tn b w ((w.setCell ⟨b,o,none⟩ (.string g.1)).setCell ⟨b,o+1,none⟩ gs):=((Tn.refl b w).setCell (Or.inl rfl) _).setCell (Or.inl rfl) _;have hr2:=dY (j:=o+1) (dY (j:=o) hr (.string g.1)) gs;have g0:=h0;have g1:=h1;rw[cell_of_row _ _ _ _ _ _ hr] at g0 g1;have s0:=(Array.getElem?_eq_some_iff.1 g0).1;have s1:=(Array.getElem?_eq_some_iff.1 g1).1;refine⟨⟨⟨_,h0⟩,⟨_,_,_,h1⟩,?_,?_,?_,hT.size,fun k j n0 n1=> ?_⟩,hT⟩
 ·rw[cell_of_row _ _ _ _ _ _ hr2,Array.getElem?_setIfInBounds_ne (by omega),Array.getElem?_setIfInBounds_self_of_lt s0]
 ·rw[cell_of_row _ _ _ _ _ _ hr2,Array.getElem?_setIfInBounds_self_of_lt (by simpa using s1)]
 ·exact Kind.dN (Kind.aT hs hT.size fun k hk hb=>hT.block k hk (by omega))
 ·by_cases hk:k=b
  ·subst hk;rw[cell_of_row _ _ _ _ _ _ hr2,cell_of_row _ _ _ _ _ _ hr,Array.getElem?_setIfInBounds_ne (fun e=>n1 ⟨rfl,e.symm⟩),Array.getElem?_setIfInBounds_ne (fun e=>n0 ⟨rfl,e.symm⟩)]
  ·by_cases hlt:k<w.heap.size
   ·exact World.cell?_of_block (w:=w) (hT.block k hlt hk)
   ·have e1:w.heap[k]?=none:=Array.getElem?_eq_none (by omega);have e2:((w.setCell ⟨b,o,none⟩ (.string g.1)).setCell ⟨b,o+1,none⟩ gs).heap[k]?=none:=by simp[World.setCell,e1,Array.getElem?_modify,Ne.symm hk]
    simp only[World.cell?,e1,e2]
set_option maxRecDepth 100000 in
set_option maxHeartbeats 8000000 in
theorem D7 (pv tv fv gv wv:Value) (p:List aA) (told:List aj) (f g:aj) (gw:Nat→Int) (nw:Nat) (w:World) (m:Int) (hm:w.cell? ⟨1,0,none⟩=some (.int .i64 m)) (hpv:eD.sl bJ w pv p) (ht:Facts w tv told) (hf:bW w fv f) (hg:∃s,gv=.agg #[.string g.1,s]∧bsK.sl bJ w s g.2) (hw:LJ w wv gw nw) (hnw:nw≤9223372036854775807):
  Calls Tryz.prog 4 #[pv,tv,fv,gv,wv] w fun e w'=>e=.returned (.bool true)∧Below w.heap.size w w':=by
 obtain⟨s,rfl,hs⟩:=hf;obtain⟨sa,sc,rfl⟩:=aZ hs;obtain⟨gs,rfl,hgs⟩:=hg;obtain⟨ga,gc,rfl⟩:=Kind.slice hgs;obtain⟨pa,pc,rfl⟩:=Kind.slice hpv;obtain⟨ta,tc,rfl⟩:=aD ht;have HWv:=hide hw;obtain⟨wa,wc,rfl,_⟩:=hw;obtain⟨w1,hw1⟩:∃w1,w1=(w.alloc (.cells #[.string f.1,.slice sa f.2.length sc] 27)).alloc (.cells #[.string g.1,.slice ga g.2.length gc] 27):=⟨_,rfl⟩;have hL1:Later w w1:=by rw[hw1];exact((Later.refl w).alloc _).alloc _
 have hr0:w1.heap[w.heap.size]?=some (.cells #[.string f.1,.slice sa f.2.length sc] 27 (0,0)):=by
  rw[hw1];simp only[bO,World.size_alloc]
  repeat (first|rw[if_pos trivial]|rw[if_pos (by omega)]|rw[if_neg (by omega)])
 have hr1:w1.heap[w.heap.size+1]?=some (.cells #[.string g.1,.slice ga g.2.length gc] 27 (0,0)):=by
  rw[hw1];simp only[bO,World.size_alloc]
  repeat (first|rw[if_pos trivial]|rw[if_pos (by omega)]|rw[if_neg (by omega)])
 have hm1:w1.cell? ⟨1,0,none⟩=some (.int .i64 m):=by
  have hlt:=World.block_lt_of_cell? w _ hm;rw[World.cell?_of_block (w:=w) (hL1.block hlt)];exact hm
 have hs1:w1.heap.size=w.heap.size+2:=by rw[hw1];simp
 have HAl:=hide (NT w1 m hm1);have HPv:=hide hpv;have HTv:=hide ht;have HSt:=hide hs;have HGs:=hide hgs;have HW1:=hide hw1;have HL1:=hide hL1;have HR0:=hide hr0;have HR1:=hide hr1;clear hpv ht hs hgs hw1 hL1 hr0 hr1 hm1 hm;obtain⟨fn,aH⟩:=f;obtain⟨gn,gargs⟩:=g;dsimp only at*
 go_enter Tryz.func4,Tryz.ntmps4
 go_wp2_with (first|(rw[←HW1.out])|fail)
 refine HAl.out.mono ?_;rintro e w2 ⟨rfl,hB2⟩;have hBw2:=ak HL1.out.below hB2 HL1.out.size;have HA:=hide (yM p told _ _ w2 (Kind.aR HPv.out hBw2) (HTv.out.below hBw2));have HB2:=hide hBw2;have L8:=hide hB2;clear hB2 hBw2 HAl HW1
 go_wp2_with fail
 refine HA.out.mono ?_;rintro e w3 ⟨v3,er3,rfl,⟨her,hT1,hT3⟩,hB3⟩;have HB3:=hide (ak HB2.out hB3 HB2.out.size);have I5:Below w1.heap.size w1 w3:=ak L8.out hB3 L8.out.size;have JY:=(I5.block _ (by omega:w.heap.size<w1.heap.size)).trans HR0.out;have y8:=(I5.block _ (by omega:w.heap.size+1<w1.heap.size)).trans HR1.out;have hs3:=I5.size;obtain⟨e0,all,hae⟩:∃e0 all,kS p told=(e0,all):=⟨_,_,rfl⟩;rw[hae] at her hT1 hT3;dsimp only at her hT1 hT3;subst her;have R9:bW w3 (.agg #[.string fn,.slice sa aH.length sc]) (fn,aH):=⟨_,rfl,HSt.out.below HB3.out⟩;have hPr:=J2 p told (fn,aH) _ _ _ w3 (Kind.aR HPv.out HB3.out) (HTv.out.below HB3.out) R9;obtain⟨q0,q1,_,_,_⟩:=lH JY;have q1':w3.cell? ⟨w.heap.size,0+1,none⟩=some (.slice sa aH.length sc):=q1;have Lu:=hide y8;clear HA L8 I5 hB3 JY y8 q1 R9;obtain⟨va,vn,vc,rfl⟩:∃a n c,v3=.slice a n c:=by
  by_cases h0:er3=0
  ·obtain⟨a,c,e⟩:=aD (hT3 h0);exact⟨a,_,c,e⟩
  ·exact⟨none,0,0,hT1 h0⟩
 rcases GL p told (fn,aH) with⟨er,her,hpe⟩|⟨x,hpe⟩
 ·rw[hpe] at hPr;have HPr:=hide hPr;have hne:(er != 0)=true:=by simpa using her
  clear hPr hT1 hT3 hae hpe her
  go_wp2_with fail
  refine HPr.out.mono ?_;rintro e w4 ⟨v4,rfl,hO4,hB4⟩;obtain rfl:v4=j6:=hO4;obtain⟨w5,hw5⟩:∃w5,w5=w4.alloc (.cells #[.string ByteArray.empty,.slice none 0 0,.int .i64 0,.slice none 0 0] 30):=⟨_,rfl⟩;have hL5:Later w4 w5:=by rw[hw5];exact(Later.refl _).alloc _
  have HB5:=hide (ak (ak HB3.out hB4 HB3.out.size) hL5.below (Nat.le_trans HB3.out.size hB4.size));have HW5:=hide hw5;clear hB4 hw5 hL5 HPr q0 q1';unfold j6
  by_cases h3:er3=0
  ·subst h3
   go_wp2_with (first|(rw[←HW5.out])|fail)
   go_ret;exact⟨rfl,HB5.out⟩
  ·have UO:(er3 != 0)=true:=by simpa using h3
   clear h3
   go_wp2_with (first|(rw[←HW5.out])|fail)
   go_ret;exact⟨rfl,HB5.out⟩
 ·obtain⟨_,hck,hcn,_,hfo⟩:=mq hpe;obtain rfl:er3=0:=by have:=(iC p told).1;rw[hae,hfo] at this;exact this
  obtain⟨hup,_⟩:=AY hae (fn,aH);have hF3:=hT3 rfl;obtain⟨va',vc',e3⟩:=aD hF3;simp only[Value.slice.injEq] at e3;obtain⟨rfl,rfl,rfl⟩:=e3;rw[hpe] at hPr;have HPr:=hide hPr;have HF3:=hide hF3;have HUp:=hide hup;have HAe:=hide hae;clear hPr hT1 hT3 hF3 hup hae hpe hck hfo
  go_wp2_with fail
  refine HPr.out.mono ?_;rintro e w4 ⟨v4,rfl,hO4,hB4⟩;obtain⟨s9,k9,rfl,hs9,hk9,hz9⟩:=(hO4:JX 60 (From w3.heap.size) w4 v4 x);obtain⟨sa9,sc9,rfl⟩:=Kind.slice hs9;obtain⟨ka9,kc9,rfl⟩:=Kind.slice hk9;obtain⟨w5,hw5⟩:∃w5,w5=w4.alloc (.cells #[.string x.fact.1,.slice sa9 x.fact.2.length sc9,.int .i64 x.rule,.slice ka9 x.kids.length kc9] 30):=⟨_,rfl⟩;have hL5:Later w4 w5:=by rw[hw5];exact(Later.refl _).alloc _
  have hr5:w5.heap[w4.heap.size]?=some (.cells #[.string x.fact.1,.slice sa9 x.fact.2.length sc9,.int .i64 x.rule,.slice ka9 x.kids.length kc9] 30 (0,0)):=by rw[hw5];exact heap_alloc_new _ _
  have Jd:Below w3.heap.size w3 w5:=ak hB4 hL5.below hB4.size;have Sb:=ak HB3.out Jd HB3.out.size;have zx:=(Jd.block _ (by omega:w.heap.size+1<w3.heap.size)).trans Lu.out;have hG5:bsK.sl bJ w5 (.slice ga gargs.length gc) gargs:=Kind.aR HGs.out Sb;have HIn:=hide (inC _ (.agg #[.string gn,.slice ga gargs.length gc]) all (gn,gargs) w5 (HF3.out.below Jd) ⟨_,rfl,kJ hG5⟩ HUp.out);rw[sN] at HIn;have hPF:GN w3.heap.size 60 w5 w4.heap.size 0 x:=by
   obtain⟨⟨l0,l1,l2,l3⟩,⟨l4,l5,l6⟩,_,_⟩:=iQ hr5;exact⟨hB4.size,⟨_,_,hr5⟩,_,_,_,_,l0,l4,l5,l6,Kind.aT hs9 hL5.size fun k hk _=>hL5.block hk,Kind.aT hk9 hL5.size fun k hk _=>hL5.block hk,hz9.kept hk9 fun k hk _=>hL5.block hk⟩
  obtain⟨y0,y1,_,_,_⟩:=lH zx;have y1':w5.cell? ⟨w.heap.size+1,0+1,none⟩=some (.slice ga gargs.length gc):=y1;have HPF:=hide hPF;have HW5:=hide hw5;have NG:=hide Jd;have Qs:=hide zx;have hs4:=hB4.size;have hs5:=(Array.getElem?_eq_some_iff.1 hr5).1;clear hs9 hk9 hz9 hB4 hw5 hL5 hr5 Jd Sb zx hG5 hPF y1 q0 q1' HPr;obtain⟨xn,hxn⟩:∃xn,xn=x.fact.1:=⟨_,rfl⟩;obtain⟨xl,hxl⟩:∃xl,xl=x.fact.2.length:=⟨_,rfl⟩;obtain⟨xr,hxr⟩:∃xr,xr=x.rule:=⟨_,rfl⟩;obtain⟨xk,hxk⟩:∃xk,xk=x.kids.length:=⟨_,rfl⟩;rw[←hxn,←hxl,←hxr,←hxk] at HW5⊢;clear hxn hxl hxr hxk
  go_wp2_with (first|(rw[←HW5.out])|fail)
  refine HIn.out.mono ?_;rintro e w6 ⟨rfl,hL6⟩;have Qt:=hide (ak NG.out hL6.below NG.out.size);have HB6:=hide (ak HB3.out Qt.out HB3.out.size);cases hin:inB all (gn,gargs) with
  |true=>
   clear hL6 HIn HW5 y0 y1';go_wp2;go_ret;exact⟨rfl,HB6.out⟩
  |false=>
   have hLv:∀{n b o y},GN w3.heap.size n w5 b o y→GN w3.heap.size n w6 b o y:=fun {n b o y} ⟨h1,⟨cs,t,h2⟩,sa,sc,ka,kc,c0,c1,c2,c3,h4,h5,h6⟩=>by
    have hlt:=(Array.getElem?_eq_some_iff.1 h2).1;exact⟨h1,⟨cs,t,(hL6.block hlt).trans h2⟩,sa,sc,ka,kc,by rw[hL6.cell (p:=⟨b,o,none⟩) hlt];exact c0,by rw[hL6.cell (p:=⟨b,o+1,none⟩) hlt];exact c1,by rw[hL6.cell (p:=⟨b,o+2,none⟩) hlt];exact c2,by rw[hL6.cell (p:=⟨b,o+3,none⟩) hlt];exact c3,
     Kind.aT h4 hL6.size fun k hk _=>hL6.block hk,Kind.aT h5 hL6.size fun k hk _=>hL6.block hk,h6.kept h5 fun k hk _=>hL6.block hk⟩
   have HP6:=hide (hLv HPF.out);have Ec:=(hL6.block (Array.getElem?_eq_some_iff.1 Qs.out).1).trans Qs.out;have Ox:=hide Ec;have Uh:Hid (∀i,i<nw→∃b off,wa=some ⟨b,off,none⟩∧w6.cell? ⟨b,off+i,none⟩=some (.int .i64 (gw i))):=fun i hi=>by
    obtain⟨a,c,e,h1⟩:=HWv.out;cases e;obtain⟨b,off,rfl,hb,hc⟩:=h1 (by omega);exact⟨b,off,rfl,by rw[HB6.out.cell (p:=⟨b,off+i,none⟩) hb];exact hc i hi⟩
   have Sc:=hide hin;have hs6:=hL6.size;clear hL6 hLv HPF Qs HIn HW5 y0 y1' Ec hin HWv NG;go_wp2
   go_loopg [15,46] nw (fun q at' i wr=>∃(j n b o:Nat) (y:bf),j+q=nw∧i=.int .i64 j∧at'=.pointer (some ⟨b,o,none⟩)∧Hid (GN w3.heap.size n w6 b o y)∧Hid (Road w6 w4.heap.size 0 b o)∧wr=w6)
   case atStart=>exact⟨0,60,w4.heap.size,0,x,by omega,rfl,rfl,HP6,Road.here _ _,rfl⟩
   case round=>
    obtain⟨j,n,b,o,y,hj,rfl,rfl,HPy,HRo,rfl⟩:=hrel
    by_cases hlt:j<nw
    ·obtain⟨wb,wo,rfl,d0⟩:=Uh.out j hlt;obtain⟨kk,hkk⟩:∃kk,kk=gw j:=⟨_,rfl⟩;rw[←hkk] at d0;clear hkk
     by_cases hneg:0≤kk
     ·obtain⟨kn,rfl⟩:∃kn:Nat,kk=(kn:Int):=⟨kk.toNat,by omega⟩
      by_cases hkl:kn<y.kids.length
      ·obtain⟨n',kb,ko,kc,y',c3,hPk,hRk⟩:=HPy.out.kid hkl;have hki:(kn:Int)<(y.kids.length:Int):=by omega
       have HPk:=hide hPk;have HRk:=hide (HRo.out.trans hRk);obtain⟨yl,hyl⟩:∃yl,yl=y.kids.length:=⟨_,rfl⟩;rw[←hyl] at c3 hki hkl;clear hPk hRk HPy HRo hyl;go_wp2
       go_roundg (nw- (j+1))
       case measure=>omega
       case rel=>exact⟨j+1,n',kb,ko+kn*4,y',by omega,by go_num,rfl,HPk,HRk,rfl⟩
      ·obtain⟨_,_,sa2,sc2,ka2,kc2,_,_,_,c3,_⟩:=HPy.out;have hki:¬(kn:Int)<(y.kids.length:Int):=by omega
       go_wp2
       go_roundg (nw- (j+1))
       case measure=>omega
       case rel=>exact⟨j+1,n,b,o,y,by omega,by go_num,rfl,HPy,HRo,rfl⟩
     ·go_wp2
      go_roundg (nw- (j+1))
      case measure=>omega
      case rel=>exact⟨j+1,n,b,o,y,by omega,by go_num,rfl,HPy,HRo,rfl⟩
    ·obtain⟨hlo,⟨cs,ct,hrb⟩,sa2,sc2,ka2,kc2,c0,c1,c2,c3,_⟩:=HPy.out;have hgl:bsK.sl (fun k=>k<w3.heap.size) wr (.slice ga gargs.length gc) gargs:=by
      refine Kind.aW (B:=fun k=>k<w.heap.size) (Kind.aT (Kind.aW HGs.out fun k hk _=>hk) HB6.out.size fun k hk _=>HB6.out.block k hk) fun k _ hk=> ?_;have hk:k<w.heap.size:=hk;show k<w3.heap.size;omega
     obtain⟨hbe,hTb⟩:=HPy.out.Ug (g:=(gn,gargs)) hgl;have f0:wr.frozen? ⟨b,o,none⟩=false:=dO hrb;have f1:wr.frozen? ⟨b,o+1,none⟩=false:=dO hrb;obtain⟨w7,hw7⟩:∃w7,w7=(wr.setCell ⟨b,o,none⟩ (.string gn)).setCell ⟨b,o+1,none⟩ (.slice ga gargs.length gc):=⟨_,rfl⟩;have hbe:wL wr w7 b o (gn,gargs) (.slice ga gargs.length gc):=by rw[hw7];exact hbe
     have hTb:Tn b wr w7:=by rw[hw7];exact hTb
     obtain⟨x',hx',hcx⟩:=hbe.prf HP6.out.prf;obtain⟨y',hsub,hyf⟩:=I4 (hbe.road HRo.out) hbe.n0 hbe.n1 hbe.st hx';have OM:Below w3.heap.size w3 w7:=ak Qt.out (hTb.below (n:=w3.heap.size) hlo Qt.out.size) (Nat.le_refl _);have OO:=ak HB3.out OM HB3.out.size;obtain⟨s7,kv7,z0,z1,z2,z3,hs7,hk7⟩:=hx';obtain⟨sa7,sc7,rfl⟩:=Kind.slice hs7;obtain⟨ka7,kc7,rfl⟩:=Kind.slice hk7;have hX7:sI 60 bJ w7 (.agg #[.string x'.fact.1,.slice sa7 x'.fact.2.length sc7,.int .i64 x'.rule,.slice ka7 x'.kids.length kc7]) x':=⟨_,_,rfl,hs7,hk7⟩;have hne:=D6 HAe.out hX7.deep hsub hyf Sc.out;have hCh:=JR p told 60 x' _ _ _ w7 (Kind.aR HPv.out OO) (HTv.out.below OO) hX7 (show cnt 61 x'≤4000000 by have:cnt 61 x'=cnt 61 x:=hcx;omega) (by omega);have Oz:=(OM.block _ (by omega:w.heap.size+1<w3.heap.size)).trans Lu.out;obtain⟨u0,u1,_,_,_⟩:=lH Ox.out;have u1':wr.cell? ⟨w.heap.size+1,0+1,none⟩=some (.slice ga gargs.length gc):=u1;obtain⟨E,hE⟩:∃E,E=nI p told 60 x':=⟨_,rfl⟩;rw[←hE] at hne hCh;have hEq:(E != 0)=true:=by simpa using hne
     have HCh:=hide hCh;have Sd:=hide OM;have Sg:=hide OO;have UQ:=hide Oz;have HW7:=hide hw7;obtain⟨n1,hn1⟩:∃n1,n1=x'.fact.1:=⟨_,rfl⟩;obtain⟨n2,hn2⟩:∃n2,n2=x'.fact.2.length:=⟨_,rfl⟩;obtain⟨n3,hn3⟩:∃n3,n3=x'.rule:=⟨_,rfl⟩;obtain⟨n4,hn4⟩:∃n4,n4=x'.kids.length:=⟨_,rfl⟩;rw[←hn1] at z0 HCh;rw[←hn2] at z1 HCh;rw[←hn3] at z2 HCh;rw[←hn4] at z3 HCh;clear hn1 hn2 hn3 hn4 hgl hbe hTb hw7 hcx hsub hyf OM OO hs7 hk7 hX7 hne hCh Oz u1 hE hrb c2 c3 HPy HRo HP6
     go_wp2_with (first|(rw[←HW7.out])|fail)
     refine HCh.out.mono ?_;rintro e w8 ⟨rfl,hB8⟩;have Qu:=ak Sd.out hB8 Sd.out.size;have Qv:=ak Sg.out hB8 Sg.out.size;have Si:=(Qu.block _ (by omega:w.heap.size+1<w3.heap.size)).trans Lu.out;obtain⟨t0,t1,_,_,_⟩:=lH Si;have t1':w8.cell? ⟨w.heap.size+1,0+1,none⟩=some (.slice ga gargs.length gc):=t1;have hIr:=rIn _ (.agg #[.string gn,.slice ga gargs.length gc]) all (gn,gargs) w8 (HF3.out.below Qu) ⟨_,rfl,kJ (Kind.aR HGs.out Qv)⟩;rw[sN,Sc.out] at hIr;have HIr:=hide hIr;have Sj:=hide Qv;clear hIr hB8 Qu Qv Si t1 HCh HW7 z0 z1 z2 z3 u0 u1' f0 f1 c0 c1
     go_wp2_with fail
     refine HIr.out.mono ?_;rintro e w9 ⟨rfl,hL9⟩;have HB9:=hide (ak Sj.out hL9.below Sj.out.size);clear hL9 HIr;go_wp2;go_ret;exact⟨rfl,HB9.out⟩
end Go.Proofs.YtafmbokfkbccaaaGreatDoor
namespace Go.Proofs.YtafmbokfkbccaaaGreatDoor
open Go.ChangeShapes Go.WideShapes Go.ChangeAt Go.RowKit Go.Deep
set_option maxRecDepth 100000 in
theorem GQ:Tryz.prog.cellsOf 3=1:=by kernel_rfl
set_option maxRecDepth 100000 in
theorem Jv {H:Type} {enc:TypeId×Value→H} {W:World} {b0:Nat} {v:Value} {d:DataW H} {p:List MemPlace} (hval:Value.okWide Tryz.prog W .any b0 39 v) (h0:DataW.Trod enc Tryz.prog W 0 (fun _=>true) true 39 v d p):∃g n,LJ W v g n:=by
 obtain⟨a0,Mr,cap0,rfl⟩:=okWide_slice Tryz.underlying39 hval;obtain⟨fuel,hf⟩:=h0;have hf:DataW.trod enc Tryz.prog W 0 (fun _=>true) true fuel 39 [.slice a0 Mr cap0]=some (d,p):=by simpa[Value.cells] using hf
 rcases open_slice Tryz.underlying39 hf with⟨hcs,_⟩|⟨a,len,cap,m,k,D,Pl,hcs,_,hl,hm,hmm,hx,hel⟩
 ·simp only[List.cons.injEq,and_true] at hcs;exact⟨fun _=>0,0,none,0,by rw[hcs],fun h=>by omega⟩
 ·simp only[List.cons.injEq,and_true] at hcs;simp only[if_true] at hmm;subst hmm;rw[GQ] at hel;have each:∀i,i<len→∃z:Int,W.cell? (a.add i)=some (.int .i64 z):=fun i hi=>by
   obtain⟨cs',k1,k2⟩:=hel i (by omega);obtain⟨z,hz,_⟩:=DataW.trod_int Tryz.underlying3 k2;rw[Nat.mul_one] at k1;obtain⟨h1,_,hcell⟩:=World.cells?_some k1;have h2:=hcell 0 (by omega);rw[hz] at h2;refine⟨z,?_⟩;have e:(a.add i).add 0=a.add i:=by
    cases a with
    |mk b o x=>cases x <;> simp[Addr.add]
   rw[←e];exact h2
  refine⟨fun i=>if h:i<len then Classical.choose (each i h) else 0,len,some a,m,by rw[hcs],fun hpos=> ?_⟩;have hplain:∃b off,a=⟨b,off,none⟩:=by
   obtain⟨z,hz⟩:=each 0 hpos;exact qz (W:=W) (by
    have e:a.add 0=a:=by
     cases a with
     |mk b o x=>cases x <;> simp[Addr.add]
    rw[e] at hz;exact hz)
  obtain⟨b,off,rfl⟩:=hplain;refine⟨b,off,rfl,?_,fun i hi=> ?_⟩
  ·obtain⟨z,hz⟩:=each 0 hpos;rw[Addr.add_lit] at hz;exact World.block_lt_of_cell? W _ hz
  ·have h:=Classical.choose_spec (each i hi);have e:(⟨b,off,none⟩:Addr).add i=⟨b,off+i,none⟩:=Addr.add_lit ..;dsimp only;rw[dif_pos hi,←e];exact h
end Go.Proofs.YtafmbokfkbccaaaGreatDoor
