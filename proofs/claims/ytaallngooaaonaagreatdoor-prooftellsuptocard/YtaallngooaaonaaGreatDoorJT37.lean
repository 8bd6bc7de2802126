import Derived.Test.YtaallngooaaonaaGreatDoorJT36
import Derived.Test.YtaallngooaaonaaGreatDoorJT28
import Derived.DeepKeys4
import Derived.Test.YtaallngooaaonaaGreatDoorJT19
open Go.RowKit Go.Sort Go.Maps
set_option maxHeartbeats 1000000
set_option maxRecDepth 100000
namespace Go.Proofs.YtaallngooaaonaaGreatDoor
abbrev Rel:=Bs→Bs→Bool
def Rel.put (f:Rel) (a b:Bs):Rel:=fun x y=>f x y||(decide (x=a)&&decide (y=b))
def iV (k a b:Bs) (s:Rel×Rel):Rel×Rel:=if s.1 a k&&s.1 k b then(s.1.put a b,if s.2 a k||s.2 k b then s.2.put a b else s.2) else s
def fwB (hs:List Bs) (k a:Bs) (s:Rel×Rel):Rel×Rel:=hs.foldl (fun s b=>iV k a b s) s
def fwA (hs:List Bs) (k:Bs) (s:Rel×Rel):Rel×Rel:=hs.foldl (fun s a=>fwB hs k a s) s
def fwK (hs:List Bs) (ks:List Bs) (s:Rel×Rel):Rel×Rel:=ks.foldl (fun s k=>fwA hs k s) s
def RLe (s t:Rel×Rel):Prop:=∀x y,(s.1 x y=true→t.1 x y=true)∧(s.2 x y=true→t.2 x y=true)
theorem RLe.refl (s:Rel×Rel):RLe s s:=fun _ _=>⟨id,id⟩
theorem RLe.trans {s t u:Rel×Rel} (h:RLe s t) (k:RLe t u):RLe s u:=fun x y=>⟨fun e=>(k x y).1 ((h x y).1 e),fun e=>(k x y).2 ((h x y).2 e)⟩
theorem Eh (f:Rel) (a b x y:Bs) (h:f x y=true):f.put a b x y=true:=by unfold Rel.put;rw[h];rfl
theorem sI (f:Rel) (a b:Bs):f.put a b a b=true:=by unfold Rel.put;simp
theorem Bh (k a b:Bs) (s:Rel×Rel):RLe s (iV k a b s):=by
 intro x y;unfold iV;split
 ·refine⟨Eh _ _ _ _ _,fun h=>?_⟩;show(if _ then _ else _:Rel) x y=true;split;·exact Eh _ _ _ _ _ h
  exact h
 exact⟨id,id⟩
theorem zx {α:Type} {f:Rel×Rel→α→Rel×Rel} (hf:∀s x,RLe s (f s x)):∀(l:List α) (s:Rel×Rel),RLe s (l.foldl f s)
 |[],s=>RLe.refl s
 |x::l,s=>(hf s x).trans (zx hf l (f s x))
theorem zy {α:Type} {f:Rel×Rel→α→Rel×Rel} (hf:∀s x,RLe s (f s x)) {Q:Rel×Rel→Prop} (hQ:∀s t,RLe s t→Q s→Q t) {x:α}:∀(l:List α) (s:Rel×Rel),x∈l→(∀t,RLe s t→Q (f t x))→Q (l.foldl f s)
 |[],s,hx,_=>by cases hx
 |y::l,s,hx,h=>by
  rcases List.mem_cons.1 hx with rfl|hx;·exact hQ _ _ (zx hf l _) (h s (RLe.refl s))
  exact zy hf hQ l (f s y) hx fun t ht=>h t ((hf s y).trans ht)
theorem MV (hs:List Bs) (k a:Bs) (s:Rel×Rel):RLe s (fwB hs k a s):=zx (fun s b=>Bh k a b s) hs s
theorem MW (hs:List Bs) (k:Bs) (s:Rel×Rel):RLe s (fwA hs k s):=zx (fun s a=>MV hs k a s) hs s
theorem OG (hs:List Bs) {k a b:Bs} (s:Rel×Rel) (ha:a∈hs) (hb:b∈hs) (h1:s.1 a k=true) (h2:s.1 k b=true):(fwA hs k s).1 a b=true∧((s.2 a k=true∨s.2 k b=true)→(fwA hs k s).2 a b=true):=by
 have hQ:∀u t:Rel×Rel,RLe u t→(u.1 a b=true∧((s.2 a k=true∨s.2 k b=true)→u.2 a b=true))→(t.1 a b=true∧((s.2 a k=true∨s.2 k b=true)→t.2 a b=true)):=fun u t h hu=>⟨(h a b).1 hu.1,fun e=>(h a b).2 (hu.2 e)⟩;refine zy (fun s a=>MV hs k a s) hQ hs s ha fun t ht=>?_;refine zy (fun s b=>Bh k a b s) hQ hs t hb fun u hu=>?_;have hsu:=ht.trans hu;have e1:=(hsu a k).1 h1;have e2:=(hsu k b).1 h2;unfold iV;rw[e1,e2];refine⟨sI _ _ _,fun h=>?_⟩;show(if _ then _ else _:Rel) a b=true;have:(u.2 a k||u.2 k b)=true:=by
  rcases h with h|h;·rw[(hsu a k).2 h];rfl
  rw[(hsu k b).2 h];simp
 rw[if_pos this];exact sI _ _ _
def Told (p:List aG) (hs K:List Bs) (s:Rel×Rel):Prop:=∀a b mid n,a∈hs→b∈hs→mid.Nodup→(∀x∈mid,x∈K)→Trail p a (mid++[b]) n→s.1 a b=true∧(0<n→s.2 a b=true)
theorem Jq {p:List aG} {hs K:List Bs} {s:Rel×Rel} {k:Bs} (hk:k∈hs) (h:Told p hs K s):Told p hs (K++[k]) (fwA hs k s):=by
 intro a b mid n ha hb hn hsub ht
 by_cases hm:k∈mid
 ·obtain⟨m1,m2,rfl⟩:=List.append_of_mem hm;rw[List.append_assoc,List.cons_append] at ht;obtain⟨n1,n2,rfl,t1,t2⟩:=Trail.split m1 ht;have hn':=hn;rw[List.nodup_append] at hn';obtain⟨d1,d2,d3⟩:=hn';have d2':=List.nodup_cons.1 d2;have s1:∀x∈m1,x∈K:=fun x hx=>by
   have:=hsub x (by simp[hx]);rcases List.mem_append.1 this with h|h
   ·exact h
   simp at h;subst h;exact absurd rfl (d3 x hx x (by simp))
  have s2:∀x∈m2,x∈K:=fun x hx=>by
   have:=hsub x (by simp[hx]);rcases List.mem_append.1 this with h|h
   ·exact h
   simp at h;subst h;exact absurd hx d2'.1
  obtain⟨r1,o1⟩:=h a k m1 n1 ha hk d1 s1 t1;obtain⟨r2,o2⟩:=h k b m2 n2 hk hb d2'.2 s2 t2;obtain⟨q1,q2⟩:=OG hs s ha hb r1 r2;refine⟨q1,fun hpos=>q2 ?_⟩
  by_cases h1:0<n1
  ·exact Or.inl (o1 h1)
  exact Or.inr (o2 (by omega))
 have s1:∀x∈mid,x∈K:=fun x hx=>by
  rcases List.mem_append.1 (hsub x hx) with h|h;·exact h
  simp at h;subst h;exact absurd hx hm
 obtain⟨r1,o1⟩:=h a b mid n ha hb hn s1 ht;exact⟨(MW hs k s a b).1 r1,fun hpos=>(MW hs k s a b).2 (o1 hpos)⟩
theorem Ei {p:List aG} {hs:List Bs}:∀(ks K:List Bs) (s:Rel×Rel),(∀k∈ks,k∈hs)→Told p hs K s→Told p hs (K++ks) (fwK hs ks s)
 |[],K,s,_,h=>by rw[List.append_nil];exact h
 |k::ks,K,s,hk,h=>by have h1:=Jq (hk k (by simp)) h;have h2:=Ei ks (K++[k]) (fwA hs k s) (fun x hx=>hk x (by simp[hx])) h1;rw[List.append_assoc] at h2;exact h2
def Bj (σ:Bs→Nat) (s:Rel×Rel):Prop:=∀x y,(s.1 x y=true→σ y≤σ x)∧(s.2 x y=true→σ y+1≤σ x)
theorem Jr {σ:Bs→Nat} {s:Rel×Rel} (hs2:∀x y,s.2 x y=true→s.1 x y=true) (h:Bj σ s) (k a b:Bs):Bj σ (iV k a b s)∧∀x y,(iV k a b s).2 x y=true→(iV k a b s).1 x y=true:=by
 unfold iV;split
 ·rename_i hc;rw[Bool.and_eq_true] at hc;have h1:=(h a k).1 hc.1;have h2:=(h k b).1 hc.2;refine⟨fun x y=>⟨fun e=>?_,fun e=>?_⟩,fun x y e=>?_⟩
  ·unfold Rel.put at e;rw[Bool.or_eq_true] at e;rcases e with e|e
   ·exact(h x y).1 e
   simp at e;rw[e.1,e.2];omega
  ·have e':(if s.2 a k||s.2 k b then s.2.put a b else s.2) x y=true:=e;split at e'
   ·rename_i hc2;unfold Rel.put at e';rw[Bool.or_eq_true] at e' hc2;rcases e' with e'|e'
    ·exact(h x y).2 e'
    simp at e';rw[e'.1,e'.2];rcases hc2 with hc2|hc2
    ·have:=(h a k).2 hc2;omega
    have:=(h k b).2 hc2;omega
   exact(h x y).2 e'
  have e':(if s.2 a k||s.2 k b then s.2.put a b else s.2) x y=true:=e;split at e'
  ·unfold Rel.put at e';rw[Bool.or_eq_true] at e';rcases e' with e'|e'
   ·exact Eh _ _ _ _ _ (hs2 x y e')
   simp at e';rw[e'.1,e'.2];exact sI _ _ _
  exact Eh _ _ _ _ _ (hs2 x y e')
 exact⟨h,hs2⟩
theorem mY {α:Type} {f:Rel×Rel→α→Rel×Rel} {Q:Rel×Rel→Prop} (hf:∀s x,Q s→Q (f s x)):∀(l:List α) (s:Rel×Rel),Q s→Q (l.foldl f s)
 |[],_,h=>h
 |x::l,s,h=>mY hf l _ (hf s x h)
theorem LK {σ:Bs→Nat} {s:Rel×Rel} (hs2:∀x y,s.2 x y=true→s.1 x y=true) (h:Bj σ s) (hs ks:List Bs):Bj σ (fwK hs ks s):=by
 have:(Bj σ (fwK hs ks s)∧∀x y,(fwK hs ks s).2 x y=true→(fwK hs ks s).1 x y=true):=
  mY (Q:=fun s=>Bj σ s∧∀x y,s.2 x y=true→s.1 x y=true) (fun s k h=>mY (Q:=fun s=>Bj σ s∧∀x y,s.2 x y=true→s.1 x y=true) (fun s a h=>mY (Q:=fun s=>Bj σ s∧∀x y,s.2 x y=true→s.1 x y=true) (fun s b h=>Jr h.2 h.1 k a b) hs s h) hs s h) ks s ⟨h,hs2⟩
 exact this.1
theorem MX {p:List aG} {hs:List Bs} (hh:∀x,x∈hs↔fK p x) {s:Rel×Rel} (h1:∀x y,s.1 x y=true↔∃e,Edge p x y e) (h2:∀x y,s.2 x y=true↔Edge p x y 1):
  (∃σ,Sol p σ)↔∀a∈hs,(fwK hs hs s).2 a a=false:=by
 constructor
 ·rintro⟨σ,hσ⟩ a _;have hE:∀{x y:Bs} {e:Nat},Edge p x y e→σ y+e≤σ x:=fun⟨r,hr,t,ht,e1,e2,e3,e4⟩=>by
   rw[←e1,←e2,←e4];exact hσ r hr t ht (by rw[e2];exact e3)
  have hf:=LK (σ:=σ) (fun x y e=>(h1 x y).2 ⟨1,(h2 x y).1 e⟩) (fun x y=>⟨fun e=>by obtain⟨k,hk⟩:=(h1 x y).1 e;have:=hE hk;omega,fun e=>hE ((h2 x y).1 e)⟩) hs hs;cases hc:(fwK hs hs s).2 a a with
  |false=>rfl
  |true=>have:=(hf a a).2 hc;omega
 intro hno;refine vY fun a mid n hn ht=>?_;have hbase:Told p hs [] s:=by
  intro x y m k hx hy _ hsub htr;have:m=[]:=by
   cases m with
   |nil=>rfl
   |cons z m=>exact absurd (hsub z (by simp)) (by simp)
  subst this;cases htr with
  |cons e t=>
   cases t;refine⟨(h1 x y).2 ⟨_,e⟩,fun hpos=>(h2 x y).2 ?_⟩;have h1:=e.le;have: ‹Nat› =1:=by omega
   rw[this] at e;exact e
 have hall:=Ei hs [] s (fun k hk=>hk) hbase;rw[List.nil_append] at hall;have MZ:=ht.heads;have ha:a∈hs:=(hh a).2 (MZ a (by simp));refine Nat.eq_zero_of_not_pos fun hpos=>?_;have:=(hall a a mid n ha ha hn (fun x hx=>(hh x).2 (MZ x (by simp[hx]))) ht).2 hpos;rw[hno a ha] at this;cases this
theorem zA:Keyed Tryz.prog 129:=Keyed.of_law (deep_law_laid (m:=3) (by kernel_rfl) (by decide) (of_decide_eq_true (by kernel_rfl)) (by kernel_rfl) (by kernel_rfl))
theorem Bl:Tryz.prog.cellsOf 129=2:=by kernel_rfl
theorem Js:Tryz.prog.cellsOf 9=1:=by kernel_rfl
theorem OH:Tryz.prog.keyType 129=true:=by kernel_rfl
def pv (a b:Bs):Value:=.agg #[.string (bs a),.string (bs b)]
def pl (a b:Bs):Lit:=.string (keyBytes [.string a,.string b])
theorem sJ {a b:Bs} (ha:a.length≤maxLen) (hb:b.length≤maxLen):keyOf Tryz.prog 129 (pv a b)=some (pl a b):=by
 have hf:(pv a b).formed Tryz.prog 129=true:=by unfold pv Value.formed;rw[Tryz.underlying129,Bl];rfl
 have hu:Tryz.prog.underlying 129=some (.array 2 9):=Tryz.underlying129;have hs:Tryz.prog.underlying 9=some .string:=Tryz.underlying9;have hpos:0<Tryz.prog.types.size:=of_decide_eq_true (by kernel_rfl);obtain⟨N,hN⟩:∃N,Tryz.prog.types.size=N+1:=⟨Tryz.prog.types.size-1,by omega⟩;have h1:(bs a).size≤maxLen:=by rw[jJ];exact ha
 have h2:(bs b).size≤maxLen:=by rw[jJ];exact hb
 have hl:Tryz.prog.keyLits (Tryz.prog.types.size+1) 129 (pv a b).cells.toList=some [.string a,.string b]:=by rw[hN];show Tryz.prog.keyLits (N+1+1) 129 [.string (bs a),.string (bs b)]=_;have r:List.range 2=[0,1]:=rfl;simp only[Program.keyLits,hu,hs,Bl,Js,List.length_cons,List.length_nil,if_true,r,List.mapM_cons,List.mapM_nil,Nat.mul_one,List.drop_zero,List.drop_succ_cons,List.take_succ_cons,List.take_zero];rw[if_pos h1,if_pos h2];simp[bs]
 unfold keyOf;rw[hu,OH,hf];simp only[Bool.and_self,if_true,hl,Option.map_some]
 rfl
theorem Rf {a b c d:Bs} (h:pv a b=pv c d):a=c∧b=d:=by unfold pv at h;simp only[Value.agg.injEq,Array.mk.injEq,List.cons.injEq,Value.string.injEq,and_true] at h;exact⟨mZ h.1,mZ h.2⟩
theorem UK {a b c d:Bs} (ha:a.length≤maxLen) (hb:b.length≤maxLen) (hc:c.length≤maxLen) (hd:d.length≤maxLen) (h:¬(c=a∧d=b)):pl c d≠pl a b:=fun e=>by have h1:=sJ ha hb;have h2:=sJ hc hd;rw[e] at h2;exact h (Rf (zA.inj h2 h1))
def vO (w:World) (b n:Nat) (f:Rel):Prop:=∃D:DataW Unit,w.ownsMap Tryz.prog 129 (plainElem Tryz.prog 4) b n D∧∀x y:Bs,x.length≤maxLen→y.length≤maxLen→D.atKey (pl x y) (.lit (.bool false))=.lit (.bool (f x y))
theorem vO.made (w:World):vO (w.alloc (.map #[] 0)) w.heap.size 0 (fun _ _=>false):=⟨.map [],World.ownsMap_made _ _ _ _,fun _ _ _ _=>rfl⟩
theorem vO.lt {w:World} {b n:Nat} {f:Rel} (h:vO w b n f):b<w.heap.size:=by obtain⟨D,h,_⟩:=h;exact h.lt
theorem vO.block {w w':World} {b n:Nat} {f:Rel} (h:vO w b n f) (e:w'.heap[b]?=w.heap[b]?):vO w' b n f:=by obtain⟨D,h,hf⟩:=h;exact⟨D,dN h e,hf⟩
theorem vO.later {w w':World} {b n:Nat} {f:Rel} (h:vO w b n f) (k:ak w w'):vO w' b n f:=h.block (k.block h.lt)
theorem vO.mono {w:World} {b n m:Nat} {f:Rel} (h:vO w b n f) (hn:n≤m):vO w b m f:=by obtain⟨D,h,hf⟩:=h;exact⟨D,h.mono hn,hf⟩
theorem vO.look {w:World} {b n:Nat} {f:Rel} (h:vO w b n f) {x y:Bs} (hx:x.length≤maxLen) (hy:y.length≤maxLen):(Instr.lookup 128 (.map (some b)) (pv x y) false).run Tryz.prog w=.ok (.bool (f x y)) w:=by
 obtain⟨D,hown,hf⟩:=h;obtain⟨v,ps,hrun,hv⟩:=hown.lookup zA Tryz.underlying128 (DX w) (plainElem_bool Tryz.underlying4 false) (sJ hx hy);rw[hf x y hx hy] at hv;obtain⟨z,rfl,hz⟩:=j6 hv;simp only[Prod.mk.injEq] at hz;have hz:=hz.1
 injection hz with hz
 injection hz with hz
 rw[hrun,hz]
theorem UL (a b:Bs):WideAt.IsKeyLit (pl a b):=trivial
theorem vO.store {w:World} {b n:Nat} {f:Rel} (h:vO w b n f) (hn:n<maxLen) {x y:Bs} (hx:x.length≤maxLen) (hy:y.length≤maxLen):
  ∃w',(Instr.mapUpdate 128 (.map (some b)) (pv x y) (.bool true)).run Tryz.prog w=.ok () w'∧vO w' b (n+1) (f.put x y)∧w.grownBy w' (some b):=by
 obtain⟨D,hown,hf⟩:=h;obtain⟨w',hrun,r1,r2⟩:=hown.update zA Tryz.underlying128 hn (sJ hx hy) (plainElem_bool Tryz.underlying4 true);refine⟨w',hrun,⟨_,r1,fun s t hs ht=>?_⟩,r2⟩
 by_cases e:s=x∧t=y
 ·obtain⟨rfl,rfl⟩:=e;rw[atKey_put_same hown.isMap (UL _ _),sI]
 rw[atKey_put_other (UK hx hy hs ht e),hf s t hs ht];unfold Rel.put;have:(decide (s=x)&&decide (t=y))=false:=by
  rw[Bool.and_eq_false_iff]
  by_cases h1:s=x
  ·exact Or.inr (by simpa using fun h2=>e ⟨h1,h2⟩)
  exact Or.inl (by simpa using h1)
 rw[this,Bool.or_false]
structure zG (S:Nat→Prop) (w w':World):Prop where
 os:w'.os=w.os
 tape:w'.tape=w.tape
 output:w'.output=w.output
 size:w.heap.size≤w'.heap.size
 block:∀k,k<w.heap.size→¬S k→w'.heap[k]?=w.heap[k]?
theorem zG.refl (S:Nat→Prop) (w:World):zG S w w:=⟨rfl,rfl,rfl,Nat.le_refl _,fun _ _ _=>rfl⟩
theorem zG.trans {S:Nat→Prop} {a b c:World} (h:zG S a b) (k:zG S b c):zG S a c:=
 ⟨k.os.trans h.os,k.tape.trans h.tape,k.output.trans h.output,Nat.le_trans h.size k.size,fun i hi ho=>(k.block i (Nat.lt_of_lt_of_le hi h.size) ho).trans (h.block i hi ho)⟩
theorem zG.of_below {S:Nat→Prop} {a b:World} (h:Below a.heap.size a b):zG S a b:=⟨h.os,h.tape,h.output,h.size,fun k hk _=>h.block k hk⟩
theorem zG.gD {S:Nat→Prop} {p:Nat} {a b:World} (h:a.grownBy b (some p)) (hp:S p):zG S a b:=⟨h.os,h.tape,h.output,h.size,fun k hk hS=>h.block k hk (fun e=>by injection e with e;exact hS (e▸hp))⟩
theorem zG.cell {S:Nat→Prop} {a b:World} (h:zG S a b) {x:Addr} (hx:x.block<a.heap.size) (ho:¬S x.block):b.cell? x=a.cell? x:=World.cell?_of_block (w:=a) (h.block _ hx ho)
theorem zG.below {S:Nat→Prop} {n:Nat} {w a b:World} (h:zG S a b) (hb:Below n w a) (hS:∀k,S k→n≤k) (hn:n≤a.heap.size):Below n w b:=
 ⟨h.os.trans hb.os,h.tape.trans hb.tape,h.output.trans hb.output,Nat.le_trans hb.size h.size,fun k hk=>(h.block k (by omega) (fun e=>by have:=hS k e;omega)).trans (hb.block k hk)⟩
def mM (hd:Bs→Bool) (h:Bs) (lev:Bs→Nat) (a:aI):Bs→Nat:=fun s=>if s=h then max (lev h) (if a.no&&hd a.name then lev a.name+1 else lev a.name) else lev s
def jQ (hd:Bs→Bool) (lev:Bs→Nat) (r:aG):Bs→Nat:=r.body.foldl (mM hd r.head.name) lev
def vg (hd:Bs→Bool) (p:List aG) (lev:Bs→Nat):Bs→Nat:=p.foldl (jQ hd) lev
def Kk (hd:Bs→Bool) (p:List aG):Nat→(Bs→Nat)→Bs→Nat
 |0,f=>f
 |n+1,f=>Kk hd p n (vg hd p f)
theorem FP {p:List aG} {hd:Bs→Bool} (hh:∀s,hd s=true↔fK p s) {x:dU×Bool} (hx:qx p x.1) {h:Bs} (hH:fK p h) (a:aI):mM hd h (numOf x.1) a=numOf (bD h x a).1∧qx p (bD h x a).1:=by
 have hb:(if a.no&&hd a.name then numOf x.1 a.name+1 else numOf x.1 a.name)=behind x.1 a:=by
  by_cases hc:fK p a.name
  ·rw[l7 hx a hc,(hh a.name).2 hc];unfold step;cases a.no <;> simp
  have h1:hd a.name=false:=by
   cases e:hd a.name with
   |false=>rfl
   |true=>exact absurd ((hh a.name).1 e) hc
  have h2:x.1 a.name=none:=by
   cases e:x.1 a.name with
   |none=>rfl
   |some n=>exact absurd ((hx a.name).1 (by rw[e];rfl)) hc
  rw[nN hx a hc,h1];simp[numOf,h2]
 constructor
 ·funext s
  unfold mM;rw[hb];unfold bD;split
  ·rename_i hs;subst hs;split;·show _=numOf (x.1.put _ _) _;rw[gL,if_pos rfl];omega
   omega
  rename_i hs;split;·show _=numOf (x.1.put _ _) _;rw[gL,if_neg hs]
  rfl
 unfold bD;split;·exact hx.put hH _
 exact hx
theorem xW {p:List aG} {hd:Bs→Bool} (hh:∀s,hd s=true↔fK p s) {h:Bs} (hH:fK p h):∀(l:List aI) (x:dU×Bool),qx p x.1→l.foldl (mM hd h) (numOf x.1)=numOf (l.foldl (bD h) x).1∧qx p (l.foldl (bD h) x).1
 |[],x,hx=>⟨rfl,hx⟩
 |a::l,x,hx=>by obtain⟨e,hd'⟩:=FP hh hx hH a;rw[List.foldl_cons,List.foldl_cons,e];exact xW hh hH l _ hd'
theorem Bn {p:List aG} {hd:Bs→Bool} (hh:∀s,hd s=true↔fK p s):∀(l:List aG) (x:dU×Bool),(∀r∈l,r∈p)→qx p x.1→l.foldl (jQ hd) (numOf x.1)=numOf (liftAll x l).1∧qx p (liftAll x l).1
 |[],x,_,hx=>⟨rfl,hx⟩
 |r::l,x,hl,hx=>by obtain⟨e,hd'⟩:=xW hh ⟨r,hl r (by simp),rfl⟩ r.body x hx;rw[List.foldl_cons];show l.foldl (jQ hd) (jQ hd (numOf x.1) r)=_∧_;have e':jQ hd (numOf x.1) r=numOf (gW x r).1:=e;rw[e'];exact Bn hh l (gW x r) (fun q hq=>hl q (by simp[hq])) hd'
def lifts (p:List aG):Nat→dU→dU
 |0,m=>m
 |n+1,m=>lifts p n (liftAll (m,false) p).1
theorem Jt {p:List aG} {hd:Bs→Bool} (hh:∀s,hd s=true↔fK p s):∀(n:Nat) (m:dU),qx p m→Kk hd p n (numOf m)=numOf (lifts p n m)
 |0,_,_=>rfl
 |n+1,m,hm=>by obtain⟨e,hd'⟩:=Bn hh p (m,false) (fun _ h=>h) hm;show Kk hd p n (vg hd p (numOf m))=_;have e':vg hd p (numOf m)=numOf (liftAll (m,false) p).1:=e;rw[e'];exact Jt hh n _ hd'
theorem vk {p:List aG} {m:dU} (h:liftAll (m,false) p=(m,false)):∀n,lifts p n m=m
 |0=>rfl
 |n+1=>by show lifts p n (liftAll (m,false) p).1=m;rw[h];exact vk h n
theorem Ej {p:List aG}:∀(n:Nat) (m m':dU) (k:Nat),fu p n m=some m'→n≤k→lifts p k m=m'
 |0,m,m',k,h,_=>by cases h
 |n+1,m,m',k,h,hk=>by
  unfold fu at h;split at h;·obtain⟨k,rfl⟩:∃j,k=j+1:=⟨k-1,by omega⟩;exact Ej n _ m' k h (by omega)
  rename_i hf;obtain⟨e,_⟩:=qX p m (by simpa using hf);rw[e] at h;cases h;exact vk e k
theorem CQ {p:List aG} {hd:Bs→Bool} (hh:∀s,hd s=true↔fK p s) (hw:(dw p).1=0) {σ:Bs→Nat} (h:Sol p σ) (f:Bs→Nat) (hf:∀s,f s=0):aV p=(p.map fun r=>Kk hd p (p.length+1) f r.head.name,0,0):=by
 obtain⟨τ,hτ,hmin⟩:=GR h;obtain⟨m,hm⟩:=yF hτ hmin (p.length+1) (start p) (oJ p) (nO p) (by omega);have e0:f=numOf (start p):=by funext s;rw[hf,qy]
 rw[e0,Jt hh _ _ (oJ p),Ej _ _ _ _ hm (Nat.le_refl _)];unfold aV;rw[if_pos hw,hm]
 rfl
theorem Ju {p:List aG} (hw:(dw p).1=0) (h:¬ ∃σ,Sol p σ):aV p=([],10,0):=by
 unfold aV;rw[if_pos hw];cases hc:fu p (p.length+1) (start p) with
 |none=>rfl
 |some m=>
  obtain⟨d,_,hs⟩:=oK _ _ _ (oJ p) (nO p) hc;exact absurd ⟨_,Mt d hs⟩ h
def heads (p:List aG):List Bs:=p.map fun r=>r.head.name
theorem pY (p:List aG) (s:Bs):s∈heads p↔fK p s:=by unfold heads fK;rw[List.mem_map]
def jo (hs:List Bs) (s:Bs):Bool:=hs.contains s
theorem El (p:List aG) (s:Bs):jo (heads p) s=true↔fK p s:=by unfold jo;rw[List.contains_iff_mem];exact pY p s
def fI (hd:Bs→Bool) (h:Bs) (s:Rel×Rel) (a:aI):Rel×Rel:=if hd a.name then(s.1.put h a.name,if a.no then s.2.put h a.name else s.2) else s
def jf (hd:Bs→Bool) (s:Rel×Rel) (r:aG):Rel×Rel:=r.body.foldl (fI hd r.head.name) s
def iR (hd:Bs→Bool) (s:Rel×Rel) (p:List aG):Rel×Rel:=p.foldl (jf hd) s
theorem Jv (f:Rel) (a b x y:Bs):f.put a b x y=true↔f x y=true∨(x=a∧y=b):=by unfold Rel.put;simp
theorem qd (hd:Bs→Bool) (h x y:Bs):∀(l:List aI) (s:Rel×Rel),
  ((l.foldl (fI hd h) s).1 x y=true↔s.1 x y=true∨(x=h∧∃a∈l,a.name=y∧hd y=true))∧((l.foldl (fI hd h) s).2 x y=true↔s.2 x y=true∨(x=h∧∃a∈l,a.name=y∧hd y=true∧a.no=true))
 |[],s=>by simp
 |a::l,s=>by
  obtain⟨i1,i2⟩:=qd hd h x y l (fI hd h s a);rw[List.foldl_cons,i1,i2];have e1:(fI hd h s a).1 x y=true↔s.1 x y=true∨(x=h∧a.name=y∧hd y=true):=by
   unfold fI;split
   ·rename_i hh;rw[Jv]
    constructor
    ·rintro(k|⟨k1,k2⟩);·exact Or.inl k
     exact Or.inr ⟨k1,k2.symm,by rw[k2];exact hh⟩
    rintro(k|⟨k1,k2,_⟩);·exact Or.inl k
    exact Or.inr ⟨k1,k2.symm⟩
   rename_i hh
   constructor
   ·exact Or.inl
   rintro(k|⟨_,k2,k3⟩);·exact k
   rw[←k2] at k3;exact absurd k3 hh
  have e2:(fI hd h s a).2 x y=true↔s.2 x y=true∨(x=h∧a.name=y∧hd y=true∧a.no=true):=by
   unfold fI;split
   ·rename_i hh;show(if a.no then s.2.put h a.name else s.2) x y=true↔_;split
    ·rename_i hn;rw[Jv]
     constructor
     ·rintro(k|⟨k1,k2⟩);·exact Or.inl k
      exact Or.inr ⟨k1,k2.symm,by rw[k2];exact hh,hn⟩
     rintro(k|⟨k1,k2,_⟩);·exact Or.inl k
     exact Or.inr ⟨k1,k2.symm⟩
    rename_i hn
    constructor
    ·exact Or.inl
    rintro(k|⟨_,_,_,k4⟩);·exact k
    exact absurd k4 hn
   rename_i hh
   constructor
   ·exact Or.inl
   rintro(k|⟨_,k2,k3,_⟩);·exact k
   rw[←k2] at k3;exact absurd k3 hh
  rw[e1,e2];simp only[List.mem_cons,exists_eq_or_imp]
  constructor
  ·constructor
   ·rintro((k|⟨k1,k2,k3⟩)|⟨k1,k2⟩);·exact Or.inl k
    ·exact Or.inr ⟨k1,Or.inl ⟨k2,k3⟩⟩
    exact Or.inr ⟨k1,Or.inr k2⟩
   rintro(k|⟨k1,⟨k2,k3⟩|k2⟩);·exact Or.inl (Or.inl k)
   ·exact Or.inl (Or.inr ⟨k1,k2,k3⟩)
   exact Or.inr ⟨k1,k2⟩
  constructor
  ·rintro((k|⟨k1,k2,k3,k4⟩)|⟨k1,k2⟩);·exact Or.inl k
   ·exact Or.inr ⟨k1,Or.inl ⟨k2,k3,k4⟩⟩
   exact Or.inr ⟨k1,Or.inr k2⟩
  rintro(k|⟨k1,⟨k2,k3,k4⟩|k2⟩);·exact Or.inl (Or.inl k)
  ·exact Or.inl (Or.inr ⟨k1,k2,k3,k4⟩)
  exact Or.inr ⟨k1,k2⟩
theorem vo (hd:Bs→Bool) (x y:Bs):∀(l:List aG) (s:Rel×Rel),
  ((iR hd s l).1 x y=true↔s.1 x y=true∨∃r∈l,x=r.head.name∧∃a∈r.body,a.name=y∧hd y=true)∧((iR hd s l).2 x y=true↔s.2 x y=true∨∃r∈l,x=r.head.name∧∃a∈r.body,a.name=y∧hd y=true∧a.no=true)
 |[],s=>by simp[iR]
 |r::l,s=>by obtain⟨i1,i2⟩:=vo hd x y l (jf hd s r);obtain⟨j1,j2⟩:=qd hd r.head.name x y r.body s;have e:iR hd s (r::l)=iR hd (jf hd s r) l:=rfl;rw[e,i1,i2];unfold jf;rw[j1,j2];simp only[List.mem_cons,exists_eq_or_imp,or_assoc];exact⟨trivial,trivial⟩
theorem edges (p:List aG) (x y:Bs):((iR (jo (heads p)) (fun _ _=>false,fun _ _=>false) p).1 x y=true↔∃e,Edge p x y e)∧((iR (jo (heads p)) (fun _ _=>false,fun _ _=>false) p).2 x y=true↔Edge p x y 1):=by
 obtain⟨i1,i2⟩:=vo (jo (heads p)) x y p (fun _ _=>false,fun _ _=>false);rw[i1,i2,El]
 constructor
 ·constructor
  ·rintro(k|⟨r,hr,k1,a,ha,k2,k3⟩);·cases k
   exact⟨step a,r,hr,a,ha,k1.symm,k2,k3,rfl⟩
  rintro⟨e,r,hr,a,ha,k1,k2,k3,_⟩;exact Or.inr ⟨r,hr,k1.symm,a,ha,k2,k3⟩
 constructor
 ·rintro(k|⟨r,hr,k1,a,ha,k2,k3,k4⟩);·cases k
  exact⟨r,hr,a,ha,k1.symm,k2,k3,by unfold step;rw[k4];rfl⟩
 rintro⟨r,hr,a,ha,k1,k2,k3,k4⟩;refine Or.inr ⟨r,hr,k1.symm,a,ha,k2,k3,?_⟩;unfold step at k4;cases hn:a.no with
 |true=>rfl
 |false=>rw[hn] at k4;cases k4
def fwP (p:List aG):Rel×Rel:=fwK (heads p) (heads p) (iR (jo (heads p)) (fun _ _=>false,fun _ _=>false) p)
theorem Jw {p:List aG} (hw:(dw p).1=0) {a:Bs} (ha:a∈heads p) (h:(fwP p).2 a a=true):aV p=([],10,0):=by refine Ju hw fun hs=>?_;have:=(MX (hs:=heads p) (fun x=>pY p x) (fun x y=>(edges p x y).1) (fun x y=>(edges p x y).2)).1 hs a ha;unfold fwP at h;rw[this] at h;cases h
theorem FQ {p:List aG} (hw:(dw p).1=0) (h:∀a∈heads p,(fwP p).2 a a=false):aV p=(p.map fun r=>Kk (jo (heads p)) p (p.length+1) (fun _=>0) r.head.name,0,0):=by obtain⟨σ,hσ⟩:=(MX (hs:=heads p) (fun x=>pY p x) (fun x y=>(edges p x y).1) (fun x y=>(edges p x y).2)).2 h;exact CQ (fun s=>El p s) hw hσ _ fun _=>rfl
theorem Jy {l:List Bs} {j:Nat} {x:Bs} (h:l[j]?=some x) (s:Bs):jo (l.drop j) s=(decide (x=s)||jo (l.drop (j+1)) s):=by
 obtain⟨h1,e1⟩:=List.getElem?_eq_some_iff.1 h;rw[List.drop_eq_getElem_cons h1,e1];unfold jo;rw[List.contains_cons]
 by_cases e:x=s
 ·subst e;simp
 rw[decide_eq_false e,beq_eq_false_iff_ne.2 (Ne.symm e)]
theorem Rh (hs:List Bs) (v:Value) (g:Nat) (s:Bs) (w:World) (h:w.cell? ⟨g,0,none⟩=some v) (hv:jS.sl bf w v hs):
  Calls Tryz.prog 71 #[.string (bs s),.pointer (some ⟨g,0,none⟩)] w fun x w'=>x=.returned (.bool (jo hs s))∧w'=w:=by
 obtain⟨sa,cap,rfl⟩:=aB.slice hv;have hl0:=hv.1.1;have HV:=au hv;clear hv;have HBX:Hid (∀u:Bs,((bs u).toList==(bs s).toList)=decide (u=s)):=fun u=>MS u s;generalize hbs:bs s=z at*;clear hbs
 go_enter Tryz.func71,Tryz.ntmps71
 go_wp2
 go_loopg [8] hs.length (fun k i wr=>∃j:Nat,j+k=hs.length∧i=.int .i64 j∧Hid (jo hs s=jo (hs.drop j) s)∧wr=w)
 case atStart=>exact⟨0,by omega,rfl,(rfl:_=_),rfl⟩
 obtain⟨j,hj,rfl,HF,rfl⟩:=hrel
 by_cases hlt:j<hs.length
 ·obtain⟨x,hx⟩:∃x,hs[j]?=some x:=⟨_,List.getElem?_eq_getElem hlt⟩;obtain⟨b1,o1,_,rfl,hb1,rfl,hc⟩:=aB.bO HV.out hx;have d0:wr.cell? ⟨b1,o1+j,none⟩=some (.string (bs x)):=by simpa[jS] using hc 0 _ rfl
  have hE:=Jy hx s;have hEq:=HBX.out x;generalize decide (x=s)=du at*;have HE:=au hE;clear hc hx hE;generalize bs x=bx at*;cases du
  ·have HF2:Hid (jo hs s=jo (hs.drop (j+1)) s):=by show _=_;rw[HF.out,HE.out];rfl
   go_wp2
   go_roundg (hs.length- (j+1))
   case measure=>omega
   case rel=>exact⟨j+1,by omega,by go_num,HF2,rfl⟩
  have HF2:Hid (jo hs s=true):=by show _=_;rw[HF.out,HE.out];rfl
  go_wp2;go_ret;exact⟨by rw[HF2.out];rfl,rfl⟩
 have HF2:Hid (jo hs s=false):=by show _=_;rw[HF.out,List.drop_eq_nil_of_le (by omega)];rfl
 go_wp2;go_ret;exact⟨by rw[HF2.out];rfl,rfl⟩
end Go.Proofs.YtaallngooaaonaaGreatDoor
