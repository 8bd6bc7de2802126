import Derived.Test.YtafmbokfkbccaaaGreatDoorJT36
import Derived.Test.YtafmbokfkbccaaaGreatDoorJT28
import Derived.DeepKeys4
import Derived.Test.YtafmbokfkbccaaaGreatDoorJT19
namespace Go.Proofs.YtafmbokfkbccaaaGreatDoor
abbrev Rel:=Bs→Bs→Bool
def Rel.put (f:Rel) (a b:Bs):Rel:=fun x y=>f x y||(decide (x=a)&&decide (y=b))
def iZ (k a b:Bs) (s:Rel×Rel):Rel×Rel:=if s.1 a k&&s.1 k b then(s.1.put a b,if s.2 a k||s.2 k b then s.2.put a b else s.2) else s
def fwB (hs:List Bs) (k a:Bs) (s:Rel×Rel):Rel×Rel:=hs.foldl (fun s b=>iZ k a b s) s
def fwA (hs:List Bs) (k:Bs) (s:Rel×Rel):Rel×Rel:=hs.foldl (fun s a=>fwB hs k a s) s
def fwK (hs:List Bs) (ks:List Bs) (s:Rel×Rel):Rel×Rel:=ks.foldl (fun s k=>fwA hs k s) s
def RLe (s t:Rel×Rel):Prop:=∀x y,(s.1 x y=true→t.1 x y=true)∧(s.2 x y=true→t.2 x y=true)
theorem RLe.refl (s:Rel×Rel):RLe s s:=fun _ _=>⟨id,id⟩
theorem RLe.trans {s t u:Rel×Rel} (h:RLe s t) (k:RLe t u):RLe s u:=fun x y=>⟨fun e=>(k x y).1 ((h x y).1 e),fun e=>(k x y).2 ((h x y).2 e)⟩
theorem Et (f:Rel) (a b x y:Bs) (h:f x y=true):f.put a b x y=true:=by unfold Rel.put;rw[h];rfl
theorem sP (f:Rel) (a b:Bs):f.put a b a b=true:=by unfold Rel.put;simp
theorem Bt (k a b:Bs) (s:Rel×Rel):RLe s (iZ k a b s):=by
 intro x y;unfold iZ;split
 ·refine⟨Et _ _ _ _ _,fun h=> ?_⟩;show(if _ then _ else _:Rel) x y=true;split
  ·exact Et _ _ _ _ _ h
  ·exact h
 ·exact⟨id,id⟩
theorem zG {α:Type} {f:Rel×Rel→α→Rel×Rel} (hf:∀s x,RLe s (f s x)):∀(l:List α) (s:Rel×Rel),RLe s (l.foldl f s)
 |[],s=>RLe.refl s
 |x::l,s=>(hf s x).trans (zG hf l (f s x))
theorem zH {α:Type} {f:Rel×Rel→α→Rel×Rel} (hf:∀s x,RLe s (f s x)) {Q:Rel×Rel→Prop} (hQ:∀s t,RLe s t→Q s→Q t) {x:α}:∀(l:List α) (s:Rel×Rel),x∈l→(∀t,RLe s t→Q (f t x))→Q (l.foldl f s)
 |[],s,hx,_=>by cases hx
 |y::l,s,hx,h=>by
  rcases List.mem_cons.1 hx with rfl|hx
  ·exact hQ _ _ (zG hf l _) (h s (RLe.refl s))
  ·exact zH hf hQ l (f s y) hx fun t ht=>h t ((hf s y).trans ht)
theorem Nb (hs:List Bs) (k a:Bs) (s:Rel×Rel):RLe s (fwB hs k a s):=zG (fun s b=>Bt k a b s) hs s
theorem Nc (hs:List Bs) (k:Bs) (s:Rel×Rel):RLe s (fwA hs k s):=zG (fun s a=>Nb hs k a s) hs s
theorem O3 (hs:List Bs) {k a b:Bs} (s:Rel×Rel) (ha:a∈hs) (hb:b∈hs) (h1:s.1 a k=true) (h2:s.1 k b=true):(fwA hs k s).1 a b=true∧((s.2 a k=true∨s.2 k b=true)→(fwA hs k s).2 a b=true):=by
 have hQ:∀u t:Rel×Rel,RLe u t→(u.1 a b=true∧((s.2 a k=true∨s.2 k b=true)→u.2 a b=true))→(t.1 a b=true∧((s.2 a k=true∨s.2 k b=true)→t.2 a b=true)):=fun u t h hu=>⟨(h a b).1 hu.1,fun e=>(h a b).2 (hu.2 e)⟩;refine zH (fun s a=>Nb hs k a s) hQ hs s ha fun t ht=> ?_;refine zH (fun s b=>Bt k a b s) hQ hs t hb fun u hu=> ?_;have hsu:=ht.trans hu;have e1:=(hsu a k).1 h1;have e2:=(hsu k b).1 h2;unfold iZ;rw[e1,e2];refine⟨sP _ _ _,fun h=> ?_⟩;show(if _ then _ else _:Rel) a b=true;have:(u.2 a k||u.2 k b)=true:=by
  rcases h with h|h
  ·rw[(hsu a k).2 h];rfl
  ·rw[(hsu k b).2 h];simp
 rw[if_pos this];exact sP _ _ _
def Told (p:List aD) (hs K:List Bs) (s:Rel×Rel):Prop:=∀a b mid n,a∈hs→b∈hs→mid.Nodup→(∀x∈mid,x∈K)→Trail p a (mid++[b]) n→s.1 a b=true∧(0<n→s.2 a b=true)
theorem JF {p:List aD} {hs K:List Bs} {s:Rel×Rel} {k:Bs} (hk:k∈hs) (h:Told p hs K s):Told p hs (K++[k]) (fwA hs k s):=by
 intro a b mid n ha hb hn hsub ht
 by_cases hm:k∈mid
 ·obtain⟨m1,m2,rfl⟩:=List.append_of_mem hm;rw[List.append_assoc,List.cons_append] at ht;obtain⟨n1,n2,rfl,t1,t2⟩:=Trail.split m1 ht;have hn':=hn;rw[List.nodup_append] at hn';obtain⟨d1,d2,d3⟩:=hn';have d2':=List.nodup_cons.1 d2;have s1:∀x∈m1,x∈K:=fun x hx=>by
   have:=hsub x (by simp[hx]);rcases List.mem_append.1 this with h|h
   ·exact h
   ·simp at h;subst h;exact absurd rfl (d3 x hx x (by simp))
  have s2:∀x∈m2,x∈K:=fun x hx=>by
   have:=hsub x (by simp[hx]);rcases List.mem_append.1 this with h|h
   ·exact h
   ·simp at h;subst h;exact absurd hx d2'.1
  obtain⟨r1,o1⟩:=h a k m1 n1 ha hk d1 s1 t1;obtain⟨r2,o2⟩:=h k b m2 n2 hk hb d2'.2 s2 t2;obtain⟨q1,q2⟩:=O3 hs s ha hb r1 r2;refine⟨q1,fun hpos=>q2 ?_⟩
  by_cases h1:0<n1
  ·exact Or.inl (o1 h1)
  ·exact Or.inr (o2 (by omega))
 ·have s1:∀x∈mid,x∈K:=fun x hx=>by
   rcases List.mem_append.1 (hsub x hx) with h|h
   ·exact h
   ·simp at h;subst h;exact absurd hx hm
  obtain⟨r1,o1⟩:=h a b mid n ha hb hn s1 ht;exact⟨(Nc hs k s a b).1 r1,fun hpos=>(Nc hs k s a b).2 (o1 hpos)⟩
theorem Eu {p:List aD} {hs:List Bs}:∀(ks K:List Bs) (s:Rel×Rel),(∀k∈ks,k∈hs)→Told p hs K s→Told p hs (K++ks) (fwK hs ks s)
 |[],K,s,_,h=>by rw[List.append_nil];exact h
 |k::ks,K,s,hk,h=>by
  have h1:=JF (hk k (by simp)) h;have h2:=Eu ks (K++[k]) (fwA hs k s) (fun x hx=>hk x (by simp[hx])) h1;rw[List.append_assoc] at h2;exact h2
def Bu (σ:Bs→Nat) (s:Rel×Rel):Prop:=∀x y,(s.1 x y=true→σ y≤σ x)∧(s.2 x y=true→σ y+1≤σ x)
theorem JG {σ:Bs→Nat} {s:Rel×Rel} (hs2:∀x y,s.2 x y=true→s.1 x y=true) (h:Bu σ s) (k a b:Bs):Bu σ (iZ k a b s)∧∀x y,(iZ k a b s).2 x y=true→(iZ k a b s).1 x y=true:=by
 unfold iZ;split
 ·rename_i hc;rw[Bool.and_eq_true] at hc;have h1:=(h a k).1 hc.1;have h2:=(h k b).1 hc.2;refine⟨fun x y=>⟨fun e=> ?_,fun e=> ?_⟩,fun x y e=> ?_⟩
  ·unfold Rel.put at e;rw[Bool.or_eq_true] at e;rcases e with e|e
   ·exact(h x y).1 e
   ·simp at e;rw[e.1,e.2];omega
  ·have e':(if s.2 a k||s.2 k b then s.2.put a b else s.2) x y=true:=e;split at e'
   ·rename_i hc2;unfold Rel.put at e';rw[Bool.or_eq_true] at e' hc2;rcases e' with e'|e'
    ·exact(h x y).2 e'
    ·simp at e';rw[e'.1,e'.2];rcases hc2 with hc2|hc2
     ·have:=(h a k).2 hc2;omega
     ·have:=(h k b).2 hc2;omega
   ·exact(h x y).2 e'
  ·have e':(if s.2 a k||s.2 k b then s.2.put a b else s.2) x y=true:=e;split at e'
   ·unfold Rel.put at e';rw[Bool.or_eq_true] at e';rcases e' with e'|e'
    ·exact Et _ _ _ _ _ (hs2 x y e')
    ·simp at e';rw[e'.1,e'.2];exact sP _ _ _
   ·exact Et _ _ _ _ _ (hs2 x y e')
 ·exact⟨h,hs2⟩
theorem nC {α:Type} {f:Rel×Rel→α→Rel×Rel} {Q:Rel×Rel→Prop} (hf:∀s x,Q s→Q (f s x)):∀(l:List α) (s:Rel×Rel),Q s→Q (l.foldl f s)
 |[],_,h=>h
 |x::l,s,h=>nC hf l _ (hf s x h)
theorem Mc {σ:Bs→Nat} {s:Rel×Rel} (hs2:∀x y,s.2 x y=true→s.1 x y=true) (h:Bu σ s) (hs ks:List Bs):Bu σ (fwK hs ks s):=by
 have:(Bu σ (fwK hs ks s)∧∀x y,(fwK hs ks s).2 x y=true→(fwK hs ks s).1 x y=true):=
  nC (Q:=fun s=>Bu σ s∧∀x y,s.2 x y=true→s.1 x y=true) (fun s k h=>nC (Q:=fun s=>Bu σ s∧∀x y,s.2 x y=true→s.1 x y=true) (fun s a h=>nC (Q:=fun s=>Bu σ s∧∀x y,s.2 x y=true→s.1 x y=true) (fun s b h=>JG h.2 h.1 k a b) hs s h) hs s h) ks s ⟨h,hs2⟩
 exact this.1
theorem Nf {p:List aD} {hs:List Bs} (hh:∀x,x∈hs↔fO p x) {s:Rel×Rel} (h1:∀x y,s.1 x y=true↔∃e,Edge p x y e) (h2:∀x y,s.2 x y=true↔Edge p x y 1):
  (∃σ,Sol p σ)↔∀a∈hs,(fwK hs hs s).2 a a=false:=by
 constructor
 ·rintro⟨σ,hσ⟩ a _;have hE:∀{x y:Bs} {e:Nat},Edge p x y e→σ y+e≤σ x:=fun⟨r,hr,t,ht,e1,e2,e3,e4⟩=>by
   rw[←e1,←e2,←e4];exact hσ r hr t ht (by rw[e2];exact e3)
  have hf:=Mc (σ:=σ) (fun x y e=>(h1 x y).2 ⟨1,(h2 x y).1 e⟩) (fun x y=>⟨fun e=>by obtain⟨k,hk⟩:=(h1 x y).1 e;have:=hE hk;omega,fun e=>hE ((h2 x y).1 e)⟩) hs hs;cases hc:(fwK hs hs s).2 a a with
  |false=>rfl
  |true=>have:=(hf a a).2 hc;omega
 ·intro hno;refine wI fun a mid n hn ht=> ?_;have hbase:Told p hs [] s:=by
   intro x y m k hx hy _ hsub htr;have:m=[]:=by
    cases m with
    |nil=>rfl
    |cons z m=>exact absurd (hsub z (by simp)) (by simp)
   subst this;cases htr with
   |cons e t=>
    cases t;refine⟨(h1 x y).2 ⟨_,e⟩,fun hpos=>(h2 x y).2 ?_⟩;have h1:=e.le;have: ‹Nat› =1:=by omega
    rw[this] at e;exact e
  have hall:=Eu hs [] s (fun k hk=>hk) hbase;rw[List.nil_append] at hall;have Ng:=ht.heads;have ha:a∈hs:=(hh a).2 (Ng a (by simp));refine Nat.eq_zero_of_not_pos fun hpos=> ?_;have:=(hall a a mid n ha ha hn (fun x hx=>(hh x).2 (Ng x (by simp[hx]))) ht).2 hpos;rw[hno a ha] at this;cases this
end Go.Proofs.YtafmbokfkbccaaaGreatDoor
namespace Go.Proofs.YtafmbokfkbccaaaGreatDoor
open Go.RowKit Go.Sort Go.Maps
set_option maxRecDepth 100000 in
theorem zI:Keyed Tryz.prog 255:=Keyed.of_law (deep_law_laid (m:=3) (by kernel_rfl) (by decide) (of_decide_eq_true (by kernel_rfl)) (by kernel_rfl) (by kernel_rfl))
theorem Bv:Tryz.prog.cellsOf 255=2:=by kernel_rfl
theorem JH:Tryz.prog.cellsOf 9=1:=by kernel_rfl
theorem O4:Tryz.prog.keyType 255=true:=by kernel_rfl
def pv (a b:Bs):Value:=.agg #[.string (bs a),.string (bs b)]
def pl (a b:Bs):Lit:=.string (keyBytes [.string a,.string b])
set_option maxRecDepth 100000 in
theorem sQ {a b:Bs} (ha:a.length≤maxLen) (hb:b.length≤maxLen):keyOf Tryz.prog 255 (pv a b)=some (pl a b):=by
 have hf:(pv a b).formed Tryz.prog 255=true:=by
  unfold pv Value.formed;rw[Tryz.underlying255,Bv];rfl
 have hu:Tryz.prog.underlying 255=some (.array 2 9):=Tryz.underlying255;have hs:Tryz.prog.underlying 9=some .string:=Tryz.underlying9;have hpos:0<Tryz.prog.types.size:=of_decide_eq_true (by kernel_rfl);obtain⟨N,hN⟩:∃N,Tryz.prog.types.size=N+1:=⟨Tryz.prog.types.size-1,by omega⟩;have h1:(bs a).size≤maxLen:=by rw[jO];exact ha
 have h2:(bs b).size≤maxLen:=by rw[jO];exact hb
 have hl:Tryz.prog.keyLits (Tryz.prog.types.size+1) 255 (pv a b).cells.toList=some [.string a,.string b]:=by
  rw[hN];show Tryz.prog.keyLits (N+1+1) 255 [.string (bs a),.string (bs b)]=_;have r:List.range 2=[0,1]:=rfl;simp only[Program.keyLits,hu,hs,Bv,JH,List.length_cons,List.length_nil,if_true,r,List.mapM_cons,List.mapM_nil,Nat.mul_one,List.drop_zero,List.drop_succ_cons,List.take_succ_cons,List.take_zero];rw[if_pos h1,if_pos h2];simp[bs]
 unfold keyOf;rw[hu,O4,hf];simp only[Bool.and_self,if_true,hl,Option.map_some]
 rfl
theorem Rv {a b c d:Bs} (h:pv a b=pv c d):a=c∧b=d:=by
 unfold pv at h;simp only[Value.agg.injEq,Array.mk.injEq,List.cons.injEq,Value.string.injEq,and_true] at h;exact⟨nD h.1,nD h.2⟩
theorem UQ {a b c d:Bs} (ha:a.length≤maxLen) (hb:b.length≤maxLen) (hc:c.length≤maxLen) (hd:d.length≤maxLen) (h:¬(c=a∧d=b)):pl c d≠pl a b:=fun e=>by
 have h1:=sQ ha hb;have h2:=sQ hc hd;rw[e] at h2;exact h (Rv (zI.inj h2 h1))
def vU (w:World) (b n:Nat) (f:Rel):Prop:=∃D:DataW Unit,w.ownsMap Tryz.prog 255 (plainElem Tryz.prog 4) b n D∧∀x y:Bs,x.length≤maxLen→y.length≤maxLen→D.atKey (pl x y) (.lit (.bool false))=.lit (.bool (f x y))
theorem vU.made (w:World):vU (w.alloc (.map #[] 0)) w.heap.size 0 (fun _ _=>false):=⟨.map [],World.ownsMap_made _ _ _ _,fun _ _ _ _=>rfl⟩
theorem vU.lt {w:World} {b n:Nat} {f:Rel} (h:vU w b n f):b<w.heap.size:=by obtain⟨D,h,_⟩:=h;exact h.lt
theorem vU.block {w w':World} {b n:Nat} {f:Rel} (h:vU w b n f) (e:w'.heap[b]?=w.heap[b]?):vU w' b n f:=by obtain⟨D,h,hf⟩:=h;exact⟨D,dP h e,hf⟩
theorem vU.later {w w':World} {b n:Nat} {f:Rel} (h:vU w b n f) (k:Later w w'):vU w' b n f:=h.block (k.block h.lt)
theorem vU.mono {w:World} {b n m:Nat} {f:Rel} (h:vU w b n f) (hn:n≤m):vU w b m f:=by obtain⟨D,h,hf⟩:=h;exact⟨D,h.mono hn,hf⟩
set_option maxRecDepth 100000 in
theorem vU.look {w:World} {b n:Nat} {f:Rel} (h:vU w b n f) {x y:Bs} (hx:x.length≤maxLen) (hy:y.length≤maxLen):(Instr.lookup 254 (.map (some b)) (pv x y) false).run Tryz.prog w=.ok (.bool (f x y)) w:=by
 obtain⟨D,hown,hf⟩:=h;obtain⟨v,ps,hrun,hv⟩:=hown.lookup zI Tryz.underlying254 (Eb w) (plainElem_bool Tryz.underlying4 false) (sQ hx hy);rw[hf x y hx hy] at hv;obtain⟨z,rfl,hz⟩:=ku hv;simp only[Prod.mk.injEq] at hz;have hz:=hz.1
 injection hz with hz
 injection hz with hz
 rw[hrun,hz]
theorem UR (a b:Bs):WideAt.IsKeyLit (pl a b):=trivial
set_option maxRecDepth 100000 in
theorem vU.store {w:World} {b n:Nat} {f:Rel} (h:vU w b n f) (hn:n<maxLen) {x y:Bs} (hx:x.length≤maxLen) (hy:y.length≤maxLen):
  ∃w',(Instr.mapUpdate 254 (.map (some b)) (pv x y) (.bool true)).run Tryz.prog w=.ok () w'∧vU w' b (n+1) (f.put x y)∧w.grownBy w' (some b):=by
 obtain⟨D,hown,hf⟩:=h;obtain⟨w',hrun,r1,r2⟩:=hown.update zI Tryz.underlying254 hn (sQ hx hy) (plainElem_bool Tryz.underlying4 true);refine⟨w',hrun,⟨_,r1,fun s t hs ht=> ?_⟩,r2⟩
 by_cases e:s=x∧t=y
 ·obtain⟨rfl,rfl⟩:=e;rw[atKey_put_same hown.isMap (UR _ _),sP]
 ·rw[atKey_put_other (UQ hx hy hs ht e),hf s t hs ht];unfold Rel.put;have:(decide (s=x)&&decide (t=y))=false:=by
   rw[Bool.and_eq_false_iff]
   by_cases h1:s=x
   ·exact Or.inr (by simpa using fun h2=>e ⟨h1,h2⟩)
   ·exact Or.inl (by simpa using h1)
  rw[this,Bool.or_false]
structure zO (S:Nat→Prop) (w w':World):Prop where
 os:w'.os=w.os
 tape:w'.tape=w.tape
 output:w'.output=w.output
 size:w.heap.size≤w'.heap.size
 block:∀k,k<w.heap.size→¬S k→w'.heap[k]?=w.heap[k]?
theorem zO.refl (S:Nat→Prop) (w:World):zO S w w:=⟨rfl,rfl,rfl,Nat.le_refl _,fun _ _ _=>rfl⟩
theorem zO.trans {S:Nat→Prop} {a b c:World} (h:zO S a b) (k:zO S b c):zO S a c:=
 ⟨k.os.trans h.os,k.tape.trans h.tape,k.output.trans h.output,Nat.le_trans h.size k.size,fun i hi ho=>(k.block i (Nat.lt_of_lt_of_le hi h.size) ho).trans (h.block i hi ho)⟩
theorem zO.of_below {S:Nat→Prop} {a b:World} (h:Below a.heap.size a b):zO S a b:=⟨h.os,h.tape,h.output,h.size,fun k hk _=>h.block k hk⟩
theorem zO.gG {S:Nat→Prop} {p:Nat} {a b:World} (h:a.grownBy b (some p)) (hp:S p):zO S a b:=⟨h.os,h.tape,h.output,h.size,fun k hk hS=>h.block k hk (fun e=>by injection e with e;exact hS (e▸hp))⟩
theorem zO.cell {S:Nat→Prop} {a b:World} (h:zO S a b) {x:Addr} (hx:x.block<a.heap.size) (ho:¬S x.block):b.cell? x=a.cell? x:=World.cell?_of_block (w:=a) (h.block _ hx ho)
theorem zO.below {S:Nat→Prop} {n:Nat} {w a b:World} (h:zO S a b) (hb:Below n w a) (hS:∀k,S k→n≤k) (hn:n≤a.heap.size):Below n w b:=
 ⟨h.os.trans hb.os,h.tape.trans hb.tape,h.output.trans hb.output,Nat.le_trans hb.size h.size,fun k hk=>(h.block k (by omega) (fun e=>by have:=hS k e;omega)).trans (hb.block k hk)⟩
end Go.Proofs.YtafmbokfkbccaaaGreatDoor
namespace Go.Proofs.YtafmbokfkbccaaaGreatDoor
def mV (hd:Bs→Bool) (h:Bs) (lev:Bs→Nat) (a:aI):Bs→Nat:=fun s=>if s=h then max (lev h) (if a.no&&hd a.name then lev a.name+1 else lev a.name) else lev s
def jV (hd:Bs→Bool) (lev:Bs→Nat) (r:aD):Bs→Nat:=r.body.foldl (mV hd r.head.name) lev
def vD (hd:Bs→Bool) (p:List aD) (lev:Bs→Nat):Bs→Nat:=p.foldl (jV hd) lev
def KD (hd:Bs→Bool) (p:List aD):Nat→(Bs→Nat)→Bs→Nat
 |0,f=>f
 |n+1,f=>KD hd p n (vD hd p f)
theorem F9 {p:List aD} {hd:Bs→Bool} (hh:∀s,hd s=true↔fO p s) {x:dW×Bool} (hx:qD p x.1) {h:Bs} (hH:fO p h) (a:aI):mV hd h (numOf x.1) a=numOf (bE h x a).1∧qD p (bE h x a).1:=by
 have hb:(if a.no&&hd a.name then numOf x.1 a.name+1 else numOf x.1 a.name)=behind x.1 a:=by
  by_cases hc:fO p a.name
  ·rw[mq hx a hc,(hh a.name).2 hc];unfold step;cases a.no <;> simp
  ·have h1:hd a.name=false:=by
    cases e:hd a.name with
    |false=>rfl
    |true=>exact absurd ((hh a.name).1 e) hc
   have h2:x.1 a.name=none:=by
    cases e:x.1 a.name with
    |none=>rfl
    |some n=>exact absurd ((hx a.name).1 (by rw[e];rfl)) hc
   rw[nT hx a hc,h1];simp[numOf,h2]
 constructor
 ·funext s
  unfold mV;rw[hb];unfold bE;split
  ·rename_i hs;subst hs;split
   ·show _=numOf (x.1.put _ _) _;rw[gN,if_pos rfl];omega
   ·omega
  ·rename_i hs;split
   ·show _=numOf (x.1.put _ _) _;rw[gN,if_neg hs]
   ·rfl
 ·unfold bE;split
  ·exact hx.put hH _
  ·exact hx
theorem yj {p:List aD} {hd:Bs→Bool} (hh:∀s,hd s=true↔fO p s) {h:Bs} (hH:fO p h):∀(l:List aI) (x:dW×Bool),qD p x.1→l.foldl (mV hd h) (numOf x.1)=numOf (l.foldl (bE h) x).1∧qD p (l.foldl (bE h) x).1
 |[],x,hx=>⟨rfl,hx⟩
 |a::l,x,hx=>by
  obtain⟨e,hd'⟩:=F9 hh hx hH a;rw[List.foldl_cons,List.foldl_cons,e];exact yj hh hH l _ hd'
theorem Bw {p:List aD} {hd:Bs→Bool} (hh:∀s,hd s=true↔fO p s):∀(l:List aD) (x:dW×Bool),(∀r∈l,r∈p)→qD p x.1→l.foldl (jV hd) (numOf x.1)=numOf (liftAll x l).1∧qD p (liftAll x l).1
 |[],x,_,hx=>⟨rfl,hx⟩
 |r::l,x,hl,hx=>by
  obtain⟨e,hd'⟩:=yj hh ⟨r,hl r (by simp),rfl⟩ r.body x hx;rw[List.foldl_cons];show l.foldl (jV hd) (jV hd (numOf x.1) r)=_∧_;have e':jV hd (numOf x.1) r=numOf (gY x r).1:=e;rw[e'];exact Bw hh l (gY x r) (fun q hq=>hl q (by simp[hq])) hd'
def lifts (p:List aD):Nat→dW→dW
 |0,m=>m
 |n+1,m=>lifts p n (liftAll (m,false) p).1
theorem JI {p:List aD} {hd:Bs→Bool} (hh:∀s,hd s=true↔fO p s):∀(n:Nat) (m:dW),qD p m→KD hd p n (numOf m)=numOf (lifts p n m)
 |0,_,_=>rfl
 |n+1,m,hm=>by
  obtain⟨e,hd'⟩:=Bw hh p (m,false) (fun _ h=>h) hm;show KD hd p n (vD hd p (numOf m))=_;have e':vD hd p (numOf m)=numOf (liftAll (m,false) p).1:=e;rw[e'];exact JI hh n _ hd'
theorem vE {p:List aD} {m:dW} (h:liftAll (m,false) p=(m,false)):∀n,lifts p n m=m
 |0=>rfl
 |n+1=>by show lifts p n (liftAll (m,false) p).1=m;rw[h];exact vE h n
theorem Ev {p:List aD}:∀(n:Nat) (m m':dW) (k:Nat),fB p n m=some m'→n≤k→lifts p k m=m'
 |0,m,m',k,h,_=>by cases h
 |n+1,m,m',k,h,hk=>by
  unfold fB at h;split at h
  ·obtain⟨k,rfl⟩:∃j,k=j+1:=⟨k-1,by omega⟩;exact Ev n _ m' k h (by omega)
  ·rename_i hf;obtain⟨e,_⟩:=rC p m (by simpa using hf);rw[e] at h;cases h;exact vE e k
theorem C9 {p:List aD} {hd:Bs→Bool} (hh:∀s,hd s=true↔fO p s) (hw:(dD p).1=0) {σ:Bs→Nat} (h:Sol p σ) (f:Bs→Nat) (hf:∀s,f s=0):aW p=(p.map fun r=>KD hd p (p.length+1) f r.head.name,0,0):=by
 obtain⟨τ,hτ,hmin⟩:=Hg h;obtain⟨m,hm⟩:=yM hτ hmin (p.length+1) (start p) (oP p) (nU p) (by omega);have e0:f=numOf (start p):=by funext s;rw[hf,qE]
 rw[e0,JI hh _ _ (oP p),Ev _ _ _ _ hm (Nat.le_refl _)];unfold aW;rw[if_pos hw,hm]
 rfl
theorem JJ {p:List aD} (hw:(dD p).1=0) (h:¬ ∃σ,Sol p σ):aW p=([],10,0):=by
 unfold aW;rw[if_pos hw];cases hc:fB p (p.length+1) (start p) with
 |none=>rfl
 |some m=>
  obtain⟨d,_,hs⟩:=oQ _ _ _ (oP p) (nU p) hc;exact absurd ⟨_,MK d hs⟩ h
end Go.Proofs.YtafmbokfkbccaaaGreatDoor
namespace Go.Proofs.YtafmbokfkbccaaaGreatDoor
open Go.RowKit Go.Sort Go.Maps
def heads (p:List aD):List Bs:=p.map fun r=>r.head.name
theorem ql (p:List aD) (s:Bs):s∈heads p↔fO p s:=by unfold heads fO;rw[List.mem_map]
def jw (hs:List Bs) (s:Bs):Bool:=hs.contains s
theorem Ew (p:List aD) (s:Bs):jw (heads p) s=true↔fO p s:=by unfold jw;rw[List.contains_iff_mem];exact ql p s
def fK (hd:Bs→Bool) (h:Bs) (s:Rel×Rel) (a:aI):Rel×Rel:=if hd a.name then(s.1.put h a.name,if a.no then s.2.put h a.name else s.2) else s
def jk (hd:Bs→Bool) (s:Rel×Rel) (r:aD):Rel×Rel:=r.body.foldl (fK hd r.head.name) s
def iV (hd:Bs→Bool) (s:Rel×Rel) (p:List aD):Rel×Rel:=p.foldl (jk hd) s
theorem JK (f:Rel) (a b x y:Bs):f.put a b x y=true↔f x y=true∨(x=a∧y=b):=by unfold Rel.put;simp
theorem qm (hd:Bs→Bool) (h x y:Bs):∀(l:List aI) (s:Rel×Rel),
  ((l.foldl (fK hd h) s).1 x y=true↔s.1 x y=true∨(x=h∧∃a∈l,a.name=y∧hd y=true))∧((l.foldl (fK hd h) s).2 x y=true↔s.2 x y=true∨(x=h∧∃a∈l,a.name=y∧hd y=true∧a.no=true))
 |[],s=>by simp
 |a::l,s=>by
  obtain⟨i1,i2⟩:=qm hd h x y l (fK hd h s a);rw[List.foldl_cons,i1,i2];have e1:(fK hd h s a).1 x y=true↔s.1 x y=true∨(x=h∧a.name=y∧hd y=true):=by
   unfold fK;split
   ·rename_i hh;rw[JK]
    constructor
    ·rintro(k|⟨k1,k2⟩)
     ·exact Or.inl k
     ·exact Or.inr ⟨k1,k2.symm,by rw[k2];exact hh⟩
    ·rintro(k|⟨k1,k2,_⟩)
     ·exact Or.inl k
     ·exact Or.inr ⟨k1,k2.symm⟩
   ·rename_i hh
    constructor
    ·exact Or.inl
    ·rintro(k|⟨_,k2,k3⟩)
     ·exact k
     ·rw[←k2] at k3;exact absurd k3 hh
  have e2:(fK hd h s a).2 x y=true↔s.2 x y=true∨(x=h∧a.name=y∧hd y=true∧a.no=true):=by
   unfold fK;split
   ·rename_i hh;show(if a.no then s.2.put h a.name else s.2) x y=true↔_;split
    ·rename_i hn;rw[JK]
     constructor
     ·rintro(k|⟨k1,k2⟩)
      ·exact Or.inl k
      ·exact Or.inr ⟨k1,k2.symm,by rw[k2];exact hh,hn⟩
     ·rintro(k|⟨k1,k2,_⟩)
      ·exact Or.inl k
      ·exact Or.inr ⟨k1,k2.symm⟩
    ·rename_i hn
     constructor
     ·exact Or.inl
     ·rintro(k|⟨_,_,_,k4⟩)
      ·exact k
      ·exact absurd k4 hn
   ·rename_i hh
    constructor
    ·exact Or.inl
    ·rintro(k|⟨_,k2,k3,_⟩)
     ·exact k
     ·rw[←k2] at k3;exact absurd k3 hh
  rw[e1,e2];simp only[List.mem_cons,exists_eq_or_imp]
  constructor
  ·constructor
   ·rintro((k|⟨k1,k2,k3⟩)|⟨k1,k2⟩)
    ·exact Or.inl k
    ·exact Or.inr ⟨k1,Or.inl ⟨k2,k3⟩⟩
    ·exact Or.inr ⟨k1,Or.inr k2⟩
   ·rintro(k|⟨k1,⟨k2,k3⟩|k2⟩)
    ·exact Or.inl (Or.inl k)
    ·exact Or.inl (Or.inr ⟨k1,k2,k3⟩)
    ·exact Or.inr ⟨k1,k2⟩
  ·constructor
   ·rintro((k|⟨k1,k2,k3,k4⟩)|⟨k1,k2⟩)
    ·exact Or.inl k
    ·exact Or.inr ⟨k1,Or.inl ⟨k2,k3,k4⟩⟩
    ·exact Or.inr ⟨k1,Or.inr k2⟩
   ·rintro(k|⟨k1,⟨k2,k3,k4⟩|k2⟩)
    ·exact Or.inl (Or.inl k)
    ·exact Or.inl (Or.inr ⟨k1,k2,k3,k4⟩)
    ·exact Or.inr ⟨k1,k2⟩
theorem vF (hd:Bs→Bool) (x y:Bs):∀(l:List aD) (s:Rel×Rel),
  ((iV hd s l).1 x y=true↔s.1 x y=true∨∃r∈l,x=r.head.name∧∃a∈r.body,a.name=y∧hd y=true)∧((iV hd s l).2 x y=true↔s.2 x y=true∨∃r∈l,x=r.head.name∧∃a∈r.body,a.name=y∧hd y=true∧a.no=true)
 |[],s=>by simp[iV]
 |r::l,s=>by
  obtain⟨i1,i2⟩:=vF hd x y l (jk hd s r);obtain⟨j1,j2⟩:=qm hd r.head.name x y r.body s;have e:iV hd s (r::l)=iV hd (jk hd s r) l:=rfl;rw[e,i1,i2];unfold jk;rw[j1,j2];simp only[List.mem_cons,exists_eq_or_imp,or_assoc];exact⟨trivial,trivial⟩
theorem edges (p:List aD) (x y:Bs):((iV (jw (heads p)) (fun _ _=>false,fun _ _=>false) p).1 x y=true↔∃e,Edge p x y e)∧((iV (jw (heads p)) (fun _ _=>false,fun _ _=>false) p).2 x y=true↔Edge p x y 1):=by
 obtain⟨i1,i2⟩:=vF (jw (heads p)) x y p (fun _ _=>false,fun _ _=>false);rw[i1,i2,Ew]
 constructor
 ·constructor
  ·rintro(k|⟨r,hr,k1,a,ha,k2,k3⟩)
   ·cases k
   ·exact⟨step a,r,hr,a,ha,k1.symm,k2,k3,rfl⟩
  ·rintro⟨e,r,hr,a,ha,k1,k2,k3,_⟩;exact Or.inr ⟨r,hr,k1.symm,a,ha,k2,k3⟩
 ·constructor
  ·rintro(k|⟨r,hr,k1,a,ha,k2,k3,k4⟩)
   ·cases k
   ·exact⟨r,hr,a,ha,k1.symm,k2,k3,by unfold step;rw[k4];rfl⟩
  ·rintro⟨r,hr,a,ha,k1,k2,k3,k4⟩;refine Or.inr ⟨r,hr,k1.symm,a,ha,k2,k3,?_⟩;unfold step at k4;cases hn:a.no with
   |true=>rfl
   |false=>rw[hn] at k4;cases k4
def fwP (p:List aD):Rel×Rel:=fwK (heads p) (heads p) (iV (jw (heads p)) (fun _ _=>false,fun _ _=>false) p)
theorem JL {p:List aD} (hw:(dD p).1=0) {a:Bs} (ha:a∈heads p) (h:(fwP p).2 a a=true):aW p=([],10,0):=by
 refine JJ hw fun hs=> ?_;have:=(Nf (hs:=heads p) (fun x=>ql p x) (fun x y=>(edges p x y).1) (fun x y=>(edges p x y).2)).1 hs a ha;unfold fwP at h;rw[this] at h;cases h
theorem Ga {p:List aD} (hw:(dD p).1=0) (h:∀a∈heads p,(fwP p).2 a a=false):aW p=(p.map fun r=>KD (jw (heads p)) p (p.length+1) (fun _=>0) r.head.name,0,0):=by
 obtain⟨σ,hσ⟩:=(Nf (hs:=heads p) (fun x=>ql p x) (fun x y=>(edges p x y).1) (fun x y=>(edges p x y).2)).2 h;exact C9 (fun s=>Ew p s) hw hσ _ fun _=>rfl
theorem JM {l:List Bs} {j:Nat} {x:Bs} (h:l[j]?=some x) (s:Bs):jw (l.drop j) s=(decide (x=s)||jw (l.drop (j+1)) s):=by
 obtain⟨h1,e1⟩:=List.getElem?_eq_some_iff.1 h;rw[List.drop_eq_getElem_cons h1,e1];unfold jw;rw[List.contains_cons]
 by_cases e:x=s
 ·subst e;simp
 ·rw[decide_eq_false e,beq_eq_false_iff_ne.2 (Ne.symm e)]
set_option maxRecDepth 100000 in
set_option maxHeartbeats 1000000 in
theorem Rw (hs:List Bs) (v:Value) (g:Nat) (s:Bs) (w:World) (h:w.cell? ⟨g,0,none⟩=some v) (hv:jX.sl bg w v hs):
  Calls Tryz.prog 182 #[.string (bs s),.pointer (some ⟨g,0,none⟩)] w fun x w'=>x=.returned (.bool (jw hs s))∧w'=w:=by
 obtain⟨sa,cap,rfl⟩:=Kind.slice hv;have hl0:=hv.1.1;have HV:=hide hv;clear hv;have HBX:Hid (∀u:Bs,((bs u).toList==(bs s).toList)=decide (u=s)):=fun u=>M9 u s;generalize hbs:bs s=z at*;clear hbs
 go_enter Tryz.func182,Tryz.ntmps182
 go_wp2
 go_loopg [8] hs.length (fun k i wr=>∃j:Nat,j+k=hs.length∧i=.int .i64 j∧Hid (jw hs s=jw (hs.drop j) s)∧wr=w)
 case atStart=>exact⟨0,by omega,rfl,(rfl:_=_),rfl⟩
 case round=>
  obtain⟨j,hj,rfl,HF,rfl⟩:=hrel
  by_cases hlt:j<hs.length
  ·obtain⟨x,hx⟩:∃x,hs[j]?=some x:=⟨_,List.getElem?_eq_getElem hlt⟩;obtain⟨b1,o1,_,rfl,hb1,rfl,hc⟩:=Kind.bQ HV.out hx;have d0:wr.cell? ⟨b1,o1+j,none⟩=some (.string (bs x)):=by simpa[jX] using hc 0 _ rfl
   have hE:=JM hx s;have hEq:=HBX.out x;generalize decide (x=s)=du at*;have HE:=hide hE;clear hc hx hE;generalize bs x=bx at*;cases du
   ·have HF2:Hid (jw hs s=jw (hs.drop (j+1)) s):=by show _=_;rw[HF.out,HE.out];rfl
    go_wp2
    go_roundg (hs.length- (j+1))
    case measure=>omega
    case rel=>exact⟨j+1,by omega,by go_num,HF2,rfl⟩
   ·have HF2:Hid (jw hs s=true):=by show _=_;rw[HF.out,HE.out];rfl
    go_wp2;go_ret;exact⟨by rw[HF2.out];rfl,rfl⟩
  ·have HF2:Hid (jw hs s=false):=by show _=_;rw[HF.out,List.drop_eq_nil_of_le (by omega)];rfl
   go_wp2;go_ret;exact⟨by rw[HF2.out];rfl,rfl⟩
end Go.Proofs.YtafmbokfkbccaaaGreatDoor
