import Derived.Test.YtafmbokfkbccaaaGreatDoorJN3
namespace Go.Proofs.YtafmbokfkbccaaaGreatDoor
abbrev aD:=ByteArray×ByteArray
def dX:List aD→ByteArray→Option ByteArray
 |[],_=>none
 |b::l,v=>if b.1=v then some b.2 else dX l v
def bO (l:List aD):List ByteArray:=l.map (·.1)
theorem fJ (l m:List aD) (v:ByteArray):dX (l++m) v=match dX l v with|some s=>some s|none=>dX m v:=by
 induction l with
 |nil=>rfl
 |cons b l ih=>
  simp only[List.cons_append,dX];split
  ·rfl
  ·exact ih
theorem jO {l:List aD} {v:ByteArray}:dX l v=none↔v∉bO l:=by
 induction l with
 |nil=>simp[dX,bO]
 |cons b l ih=>
  simp only[dX,bO,List.map_cons,List.mem_cons,not_or];split
  ·rename_i h;simp[h]
  ·rename_i h;rw[ih];exact⟨fun h'=>⟨fun e=>h e.symm,h'⟩,fun h'=>h'.2⟩
theorem rX {l:List aD} {v s:ByteArray} (h:dX l v=some s):(v,s)∈l:=by
 induction l with
 |nil=>cases h
 |cons b l ih=>
  simp only[dX] at h;split at h
  ·rename_i e;cases h;subst e;exact List.mem_cons_self
  ·exact List.mem_cons_of_mem _ (ih h)
theorem sH {l:List aD} (hn:(bO l).Nodup) {v s:ByteArray} (h:(v,s)∈l):dX l v=some s:=by
 induction l with
 |nil=>cases h
 |cons b l ih=>
  have hn':b.1∉bO l∧(bO l).Nodup:=List.nodup_cons.1 hn;rcases List.mem_cons.1 h with e|h
  ·subst e;simp[dX]
  ·have:b.1≠v:=fun e=>hn'.1 (by rw[e];exact List.mem_map.2 ⟨_,h,rfl⟩);simp only[dX,if_neg this];exact ih hn'.2 h
theorem kW {l:List aD} {v:ByteArray} (h:v∈bO l):∃s,dX l v=some s:=by
 cases e:dX l v with
 |none=>exact absurd h (jO.1 e)
 |some s=>exact⟨s,rfl⟩
theorem Ga {l m:List aD} (h:l.Perm m) (hn:(bO l).Nodup) (v:ByteArray):dX l v=dX m v:=by
 have hm:(bO m).Nodup:=(h.map _).nodup_iff.1 hn;cases e:dX l v with
 |none=>exact(jO.2 fun hv=>jO.1 e ((h.map _).mem_iff.2 hv)).symm
 |some s=>exact(sH hm (h.mem_iff.1 (rX e))).symm
def bq (l:List aD) (t:dH):Option ByteArray:=if t.1 then dX l (bs t.2) else some (bs t.2)
def aN (l:List aD):List dH→Option (List ByteArray)
 |[]=>some []
 |t::ts=>match bq l t with
  |none=>none
  |some s=>match aN l ts with
   |none=>none
   |some r=>some (s::r)
abbrev au:=ByteArray×List ByteArray
def aV (a:aF) (l:List aD):Option au:=match aN l a.terms with
 |none=>none
 |some r=>some (bs a.name,r)
def eG (l:List aD):List dH→List ByteArray→Option (List aD)
 |[],_=>some l
 |_::_,[]=>none
 |t::ts,x::xs=>match bq l t with
  |none=>eG (l++[(bs t.2,x)]) ts xs
  |some s=>if s=x then eG l ts xs else none
def fK (a:aF) (f:au) (l:List aD):Option (List aD):=
 if bs a.name=f.1∧a.terms.length=f.2.length then eG l a.terms f.2 else none
def aS (a:aF) (fs:List au) (ls:List (List aD)):List (List aD):=ls.flatMap fun l=>fs.filterMap fun f=>fK a f l
def fF (pick:Nat→List au):Nat→List aF→List (List aD)→Option (List (List aD))
 |_,[],ls=>some ls
 |n,a::ats,ls=>if a.no then fF pick (n+1) ats ls
  else if 20000<(aS a (pick n) ls).length then none
  else fF pick (n+1) ats (aS a (pick n) ls)
def inB (l:List au) (f:au):Bool:=l.any fun x=>decide (x=f)
theorem aZ {l:List au} {f:au}:inB l f=true↔f∈l:=by
 unfold inB;rw[List.any_eq_true];exact⟨fun⟨x,hx,e⟩=>by rw[decide_eq_true_eq] at e;rw[←e];exact hx,fun h=>⟨f,h,by simp⟩⟩
def barredB (pick:Nat→List au):Nat→List aF→List aD→Bool
 |_,[],_=>false
 |n,a::ats,l=>(a.no&&(match aV a l with|some f=>inB (pick n) f|none=>false))||barredB pick (n+1) ats l
theorem jL {l m:List aD} {t:dH} {s:ByteArray} (h:bq l t=some s):bq (l++m) t=some s:=by
 unfold bq at*;split
 ·rename_i ht;rw[if_pos ht] at h;rw[fJ,h]
 ·rename_i ht;rw[if_neg ht] at h;exact h
theorem lV {l m:List aD}:∀{ts:List dH} {r:List ByteArray},aN l ts=some r→aN (l++m) ts=some r
 |[],r,h=>h
 |t::ts,r,h=>by
  simp only[aN] at h⊢;cases e:bq l t with
  |none=>rw[e] at h;cases h
  |some s=>
   rw[e] at h;rw[jL e];dsimp only at h⊢;cases e2:aN l ts with
   |none=>rw[e2] at h;cases h
   |some q=>
    rw[e2] at h;rw[lV e2];exact h
theorem qP {l m:List aD} {a:aF} {f:au} (h:aV a l=some f):aV a (l++m)=some f:=by
 unfold aV at*;cases e:aN l a.terms with
 |none=>rw[e] at h;cases h
 |some r=>rw[e] at h;rw[lV e];exact h
theorem nE {l m:List aD}:∀{ts:List dH},(∀t∈ts,t.1=true→dX l (bs t.2)=dX m (bs t.2))→aN l ts=aN m ts
 |[],_=>rfl
 |t::ts,h=>by
  have e1:bq l t=bq m t:=by
   unfold bq;split
   ·rename_i ht;exact h t List.mem_cons_self ht
   ·rfl
  simp only[aN];rw[e1,nE (ts:=ts) fun t ht=>h t (List.mem_cons_of_mem _ ht)]
theorem kX {l m:List aD} {a:aF} (h:∀t∈a.terms,t.1=true→dX l (bs t.2)=dX m (bs t.2)):aV a l=aV a m:=by
 unfold aV;rw[nE h]
theorem D9 {l m:List aD} (h:l.Perm m) (hn:(bO l).Nodup) (a:aF):aV a l=aV a m:=kX fun _ _ _=>Ga h hn _
theorem oN {l:List aD}:∀{ts:List dH},(∀t∈ts,t.1=true→bs t.2∈bO l)→∃r,aN l ts=some r
 |[],_=>⟨[],rfl⟩
 |t::ts,h=>by
  obtain⟨r,hr⟩:=oN (ts:=ts) fun t ht=>h t (List.mem_cons_of_mem _ ht);have:∃s,bq l t=some s:=by
   unfold bq;split
   ·rename_i ht;exact kW (h t List.mem_cons_self ht)
   ·exact⟨_,rfl⟩
  obtain⟨s,hs⟩:=this;exact⟨s::r,by simp only[aN,hs,hr]⟩
theorem Ea {l:List aD} {a:aF} (h:∀t∈a.terms,t.1=true→bs t.2∈bO l):∃f,aV a l=some f:=by
 obtain⟨r,hr⟩:=oN h;exact⟨(bs a.name,r),by unfold aV;rw[hr]⟩
theorem jY {l:List aD}:∀{ts:List dH} {r:List ByteArray},aN l ts=some r→r.length=ts.length
 |[],r,h=>by cases h;rfl
 |t::ts,r,h=>by
  simp only[aN] at h;cases e:bq l t with
  |none=>rw[e] at h;cases h
  |some s=>
   rw[e] at h;dsimp only at h;cases e2:aN l ts with
   |none=>rw[e2] at h;cases h
   |some q=>rw[e2] at h;cases h;simp[jY e2]
theorem Eb (K:List Bs) (s:Bs):∃r,eY K s=K++r:=by
 unfold eY;split
 ·exact⟨[],by simp⟩
 ·exact⟨[s],rfl⟩
theorem iX (K:List Bs) (t:dH) (ts:List dH):cO K (t::ts)=cO (if t.1 then eY K t.2 else K) ts:=rfl
theorem kH:∀(ts:List dH) (K:List Bs),∃r,cO K ts=K++r
 |[],K=>⟨[],by simp[cO]⟩
 |t::ts,K=>by
  rw[iX];split
  ·obtain⟨r1,h1⟩:=Eb K t.2;obtain⟨r2,h2⟩:=kH ts (eY K t.2);exact⟨r1++r2,by rw[h2,h1,List.append_assoc]⟩
  ·exact kH ts K
theorem zy {K:List Bs} (h:K.Nodup) (s:Bs):(eY K s).Nodup:=by
 unfold eY;split
 ·exact h
 ·rename_i hc;rw[List.nodup_append];refine⟨h,by simp,fun a ha b hb=> ?_⟩;simp at hb;subst hb;intro e;subst e;simp at hc;exact hc ha
theorem lW:∀(ts:List dH) {K:List Bs},K.Nodup→(cO K ts).Nodup
 |[],_,h=>h
 |t::ts,K,h=>by
  rw[iX];split
  ·exact lW ts (zy h _)
  ·exact lW ts h
theorem Ec {K:List Bs} {s v:Bs}:v∈eY K s↔v∈K∨v=s:=by
 unfold eY;split
 ·rename_i h;simp at h;exact⟨Or.inl,fun h'=>h'.elim id fun e=>by rw[e];exact h⟩
 ·simp
theorem iE:∀(ts:List dH) {K:List Bs} {v:Bs},v∈cO K ts↔v∈K∨∃t∈ts,t.1=true∧t.2=v
 |[],K,v=>by simp[cO]
 |t::ts,K,v=>by
  rw[iX,iE ts];cases ht:t.1
  ·simp[ht]
  ·simp only[if_true,Ec,List.mem_cons,exists_eq_or_imp,ht,true_and]
   constructor
   ·rintro((h|h)|h)
    ·exact Or.inl h
    ·exact Or.inr (Or.inl h.symm)
    ·exact Or.inr (Or.inr h)
   ·rintro(h|h|h)
    ·exact Or.inl (Or.inl h)
    ·exact Or.inl (Or.inr h.symm)
    ·exact Or.inr h
theorem fD {K:List Bs} {v:Bs}:bs v∈K.map bs↔v∈K:=by
 constructor
 ·intro h;obtain⟨x,hx,e⟩:=List.mem_map.1 h;rw[←qO e];exact hx
 ·exact fun h=>List.mem_map.2 ⟨_,h,rfl⟩
theorem zA {K:List Bs} (h:K.Nodup):(K.map bs).Nodup:=by
 rw[List.Nodup,List.pairwise_map];exact h.imp fun hne e=>hne (qO e)
theorem sI:∀(ts:List dH) (xs:List ByteArray) (l m:List aD) (K:List Bs),ts.length=xs.length→bO l=K.map bs→eG l ts xs=some m→
  (∃r,m=l++r)∧bO m=(cO K ts).map bs∧aN m ts=some xs
 |[],[],l,m,K,_,hk,h=>by
  cases h;exact⟨⟨[],by simp⟩,hk,rfl⟩
 |[],_::_,_,_,_,hl,_,_=>by simp at hl
 |_::_,[],_,_,_,hl,_,_=>by simp at hl
 |t::ts,x::xs,l,m,K,hl,hk,h=>by
  have hl':ts.length=xs.length:=by simpa using hl
  simp only[eG] at h;cases e:bq l t with
  |none=>
   rw[e] at h;dsimp only at h;have ht:t.1=true:=by
    unfold bq at e;split at e
    ·assumption
    ·cases e
   have hg:dX l (bs t.2)=none:=by unfold bq at e;rwa [if_pos ht] at e
   have hnk:t.2∉K:=fun hm=>jO.1 hg (by rw[hk];exact fD.2 hm);have ha:eY K t.2=K++[t.2]:=by unfold eY;rw[if_neg (by simpa using hnk)]
   obtain⟨⟨r,hr⟩,h2,h3⟩:=sI ts xs (l++[(bs t.2,x)]) m (K++[t.2]) hl' (by simp[bO] at hk⊢;exact hk) h;refine⟨⟨(bs t.2,x)::r,by rw[hr];simp⟩,by rw[iX,if_pos ht,ha];exact h2,?_⟩;simp only[aN];have hw:bq m t=some x:=by
    rw[hr];refine jL ?_;unfold bq;rw[if_pos ht,fJ,hg];simp[dX]
   rw[hw,h3]
  |some s=>
   rw[e] at h;dsimp only at h;split at h
   ·rename_i hs;subst hs;have hK:(if t.1=true then eY K t.2 else K)=K:=by
     split
     ·rename_i ht;unfold bq at e;rw[if_pos ht] at e;unfold eY;rw[if_pos];have:bs t.2∈bO l:=Classical.byContradiction fun hk=>by rw[jO.2 hk] at e;cases e
      rw[hk] at this;simpa using fD.1 this
     ·rfl
    obtain⟨⟨r,hr⟩,h2,h3⟩:=sI ts xs l m K hl' hk h;refine⟨⟨r,hr⟩,by rw[iX,hK];exact h2,?_⟩;simp only[aN];rw[show bq m t=some s by rw[hr];exact jL e,h3]
   ·cases h
theorem sJ:∀(ts:List dH) (xs:List ByteArray) (l m r:List aD) (K:List Bs),bO l=K.map bs→m=l++r→bO m=(cO K ts).map bs→aN m ts=some xs→eG l ts xs=some m
 |[],xs,l,m,r,K,hk,hm,hv,_=>by
  have e:r=[]:=by
   have h1:(bO m).length=(bO l).length:=by rw[hv,hk];simp[cO]
   rw[hm] at h1;simp[bO] at h1;exact h1
  rw[hm,e];simp[eG]
 |t::ts,xs,l,m,r,K,hk,hm,hv,hf=>by
  simp only[aN] at hf;cases e:bq m t with
  |none=>rw[e] at hf;cases hf
  |some s=>
   rw[e] at hf;dsimp only at hf;cases e2:aN m ts with
   |none=>rw[e2] at hf;cases hf
   |some q=>
    rw[e2] at hf;cases hf;rw[iX] at hv;simp only[eG];cases e3:bq l t with
    |some s'=>
     have:=jL (m:=r) e3;rw[←hm,e] at this;cases this;dsimp only;rw[if_pos rfl];have hK:(if t.1=true then eY K t.2 else K)=K:=by
      split
      ·rename_i ht;unfold bq at e3;rw[if_pos ht] at e3;unfold eY;rw[if_pos];have:bs t.2∈bO l:=Classical.byContradiction fun hk=>by rw[jO.2 hk] at e3;cases e3
       rw[hk] at this;simpa using fD.1 this
      ·rfl
     rw[hK] at hv;exact sJ ts q l m r K hk hm hv e2
    |none=>
     dsimp only;have ht:t.1=true:=by
      unfold bq at e3;split at e3
      ·assumption
      ·cases e3
     have hg:dX l (bs t.2)=none:=by unfold bq at e3;rwa [if_pos ht] at e3
     have hnk:t.2∉K:=fun hm=>jO.1 hg (by rw[hk];exact fD.2 hm);have ha:eY K t.2=K++[t.2]:=by unfold eY;rw[if_neg (by simpa using hnk)]
     rw[if_pos ht,ha] at hv;obtain⟨q',hq'⟩:=kH ts (K++[t.2]);have hkr:bO r=bs t.2::q'.map bs:=by
      have h1:=hv;rw[hq',hm] at h1;simp only[bO,List.map_append] at h1 hk⊢;rw[hk,List.append_assoc] at h1;simpa using List.append_cancel_left h1
     cases r with
     |nil=>simp[bO] at hkr
     |cons b r'=>
      have hb:b.1=bs t.2:=by simp[bO] at hkr;exact hkr.1
      have hbs:b.2=s:=by
       unfold bq at e;rw[if_pos ht,hm,fJ,hg] at e;simp only[dX,hb,if_true] at e;exact Option.some.inj e
      have hbe:b=(bs t.2,s):=by rw[←hb,←hbs]
      subst hbe;exact sJ ts q (l++[(bs t.2,s)]) m r' (K++[t.2]) (by simp[bO] at hk⊢;exact hk) (by rw[hm];simp) hv e2
theorem oO {a:aF} {f:au} {l m:List aD} {K:List Bs} (hk:bO l=K.map bs) (h:fK a f l=some m):(∃r,m=l++r)∧bO m=(cO K a.terms).map bs∧aV a m=some f:=by
 unfold fK at h;split at h
 ·rename_i hc;obtain⟨h1,h2,h3⟩:=sI a.terms f.2 l m K hc.2 hk h;exact⟨h1,h2,by unfold aV;rw[h3,hc.1]⟩
 ·cases h
theorem Jw {a:aF} {f:au} {l m r:List aD} {K:List Bs} (hk:bO l=K.map bs) (hm:m=l++r) (hv:bO m=(cO K a.terms).map bs) (hf:aV a m=some f):fK a f l=some m:=by
 unfold aV at hf;cases e:aN m a.terms with
 |none=>rw[e] at hf;cases hf
 |some x=>
  rw[e] at hf;cases hf;unfold fK;rw[if_pos ⟨rfl,(jY e).symm⟩];exact sJ a.terms x l m r K hk hm hv e
end Go.Proofs.YtafmbokfkbccaaaGreatDoor
namespace Go.Proofs.YtafmbokfkbccaaaGreatDoor
variable {α:Type} {c:α→α→Int}
theorem Three.le_trans (h:Three c) {a b d:α} (h1:c a b≤0) (h2:c b d≤0):c a d≤0:=by
 by_cases e1:c a b=0
 ·rw[h.zero _ _ e1];exact h2
 ·by_cases e2:c b d=0
  ·rw[←h.zero _ _ e2];exact h1
  ·have:=h.trans a b d (by omega) (by omega);omega
theorem Three.anti (h:Three c) {a b:α} (h1:c a b≤0) (h2:c b a≤0):a=b:=h.zero a b (by have:=h.swap a b;omega)
theorem xW (h:Three c):∀{s t:List α},s.Pairwise (fun a b=>c a b<0)→t.Pairwise (fun a b=>c a b<0)→(∀x,x∈s↔x∈t)→s=t
 |[],[],_,_,_=>rfl
 |[],b::t,_,_,e=>absurd ((e b).2 List.mem_cons_self) (by simp)
 |a::s,[],_,_,e=>absurd ((e a).1 List.mem_cons_self) (by simp)
 |a::s,b::t,hs,ht,e=>by
  have hs':=List.pairwise_cons.1 hs;have ht':=List.pairwise_cons.1 ht;have hab:a=b:=by
   rcases List.mem_cons.1 ((e a).1 List.mem_cons_self) with h1|h1
   ·exact h1
   ·rcases List.mem_cons.1 ((e b).2 List.mem_cons_self) with h2|h2
    ·exact h2.symm
    ·have x1:=ht'.1 a h1;have x2:=hs'.1 b h2;have:=h.swap a b;omega
  subst hab;have irr:c a a=0:=h.refl a;rw[xW h hs'.2 ht'.2 fun x=>⟨fun hx=> ?_,fun hx=> ?_⟩]
  ·rcases List.mem_cons.1 ((e x).1 (List.mem_cons_of_mem _ hx)) with h1|h1
   ·subst h1;have:=hs'.1 x hx;omega
   ·exact h1
  ·rcases List.mem_cons.1 ((e x).2 (List.mem_cons_of_mem _ hx)) with h1|h1
   ·subst h1;have:=ht'.1 x hx;omega
   ·exact h1
theorem oP (h:Three c):∀{l m:List α},l.Perm m→l.Pairwise (fun a b=>c a b≤0)→m.Pairwise (fun a b=>c a b≤0)→l=m
 |[],m,hp,_,_=>hp.nil_eq
 |a::l,[],hp,_,_=>by simpa using hp.length_eq
 |a::l,b::m,hp,hl,hm=>by
  have hl':=List.pairwise_cons.1 hl;have hm':=List.pairwise_cons.1 hm;have hab:a=b:=by
   rcases List.mem_cons.1 (hp.mem_iff.1 List.mem_cons_self) with h1|h1
   ·exact h1
   ·rcases List.mem_cons.1 (hp.mem_iff.2 (List.mem_cons_self (a:=b) (l:=m))) with h2|h2
    ·exact h2.symm
    ·exact h.anti (hl'.1 b h2) (hm'.1 a h1)
  subst hab;rw[oP h (List.Perm.cons_inv hp) hl'.2 hm'.2]
def jI (c:α→α→Int) (l:List α):List α:=l.mergeSort fun a b=>decide (c a b≤0)
theorem dP (l:List α):(jI c l).Perm l:=List.mergeSort_perm _ _
theorem kY (h:Three c) (l:List α):(jI c l).Pairwise fun a b=>c a b≤0:=by
 have:=List.pairwise_mergeSort (le:=fun a b=>decide (c a b≤0)) (fun a b d h1 h2=>by
  simp only[decide_eq_true_eq] at*;exact h.le_trans h1 h2) (fun a b=>by
  simp only[Bool.or_eq_true,decide_eq_true_eq];have:=h.swap a b;omega) l
 exact this.imp fun h=>by simpa using h
theorem sK (h:Three c) {l m:List α} (hp:m.Perm l) (hs:m.Pairwise fun a b=>c a b≤0):m=jI c l:=
 oP h (hp.trans (dP l).symm) hs (kY h l)
theorem zB (h:Three c) {l:List α} (hs:l.Pairwise fun a b=>c a b≤0) (hn:l.Nodup):l.Pairwise fun a b=>c a b<0:=
 (hs.and hn).imp fun {a b} ⟨h1,h2⟩=>by
  rcases Int.lt_or_eq_of_le h1 with h3|h3
  ·exact h3
  ·exact absurd (h.zero _ _ h3) h2
theorem zC (h:Three c) {l:List α} (hs:l.Pairwise fun a b=>c a b<0):l.Nodup:=hs.imp fun {a b} h1 e=>by
 subst e;rw[h.refl] at h1;omega
def sM (c:α→α→Int):List α→List α→Int
 |[],[]=>0
 |[],_::_=> -1
 |_::_,[]=>1
 |a::x,b::y=>if c a b≠0 then c a b else sM c x y
theorem zD (h:Three c):∀x y,sM c y x= -sM c x y
 |[],[]=>rfl
 |[],_::_=>rfl
 |_::_,[]=>rfl
 |a::x,b::y=>by
  have:=h.swap a b;simp only[sM]
  by_cases e:c a b=0
  ·rw[if_neg (by omega),if_neg (by omega)];exact zD h x y
  ·rw[if_pos (by omega),if_pos e];omega
theorem zF (h:Three c):∀x y,sM c x y=0→x=y
 |[],[],_=>rfl
 |[],_::_,e=>by simp[sM] at e
 |_::_,[],e=>by simp[sM] at e
 |a::x,b::y,e=>by
  simp only[sM] at e
  by_cases e':c a b=0
  ·rw[if_neg (by omega)] at e;rw[h.zero _ _ e',zF h x y e]
  ·rw[if_pos e'] at e;exact absurd e e'
theorem vQ (h:Three c):∀x y z,sM c x y<0→sM c y z<0→sM c x z<0
 |[],[],z,h1,_=>by simp[sM] at h1
 |[],_::_,[],_,h2=>by simp[sM] at h2
 |[],_::_,_::_,_,_=>by simp[sM]
 |_::_,[],_,h1,_=>by simp[sM] at h1
 |_::_,_::_,[],_,h2=>by simp[sM] at h2
 |a::x,b::y,d::z,h1,h2=>by
  simp only[sM] at h1 h2⊢
  by_cases e1:c a b=0
  ·rw[if_neg (by omega)] at h1;have:=h.zero _ _ e1;subst this
   by_cases e2:c a d=0
   ·rw[if_neg (by omega)] at h2⊢;exact vQ h x y z h1 h2
   ·rw[if_pos e2] at h2⊢;exact h2
  ·rw[if_pos e1] at h1
   by_cases e2:c b d=0
   ·have:=h.zero _ _ e2;subst this;rw[if_pos e1];exact h1
   ·rw[if_pos e2] at h2;have:=h.trans a b d h1 h2;rw[if_pos (by omega)];exact this
theorem Ed (h:Three c):Three (sM c):=⟨fun a b=>zD h a b,zF h,vQ h⟩
def xX (a b:aD):Int:=if jJ a.1 b.1≠0 then jJ a.1 b.1 else jJ a.2 b.2
theorem gN:Three xX where
 swap a b:=by
  have h1:=bQ.swap a.1 b.1;have h2:=bQ.swap a.2 b.2;unfold xX
  by_cases e:jJ a.1 b.1=0
  ·rw[if_neg (by omega),if_neg (by omega)];exact h2
  ·rw[if_pos (by omega),if_pos e];exact h1
 zero a b h:=by
  unfold xX at h
  by_cases e:jJ a.1 b.1=0
  ·rw[if_neg (by omega)] at h;have:=bQ.zero _ _ e;have:=bQ.zero _ _ h;obtain⟨a1,a2⟩:=a;obtain⟨b1,b2⟩:=b
   simp_all
  ·rw[if_pos e] at h;exact absurd h e
 trans a b d h k:=by
  unfold xX at*
  by_cases e1:jJ a.1 b.1=0
  ·rw[if_neg (by omega)] at h;rw[bQ.zero _ _ e1]
   by_cases e2:jJ b.1 d.1=0
   ·rw[if_neg (by omega)] at k⊢;exact bQ.trans _ _ _ h k
   ·rw[if_pos e2] at k⊢;exact k
  ·rw[if_pos e1] at h
   by_cases e2:jJ b.1 d.1=0
   ·rw[←bQ.zero _ _ e2,if_pos e1];exact h
   ·rw[if_pos e2] at k;have:=bQ.trans _ _ _ h k;rw[if_pos (by omega)];exact this
abbrev iY:List aD→List aD→Int:=sM xX
theorem iy:Three iY:=Ed gN
abbrev kI (l:List aD):List aD:=jI xX l
def lX (pick:Nat→List au) (body:List aF):Option (List (List aD)):=match fF pick 0 body [[]] with
 |none=>none
 |some ms=>some (jI iY ((ms.filter fun l=> !barredB pick 0 body l).map kI))
def fM (K:List Bs) (ats:List aF):List Bs:=ats.foldl (fun K a=>if a.no then K else cO K a.terms) K
theorem jh (K:List Bs) (a:aF) (ats:List aF):fM K (a::ats)=fM (if a.no then K else cO K a.terms) ats:=rfl
theorem nR:∀(ats:List aF) (K:List Bs),∃r,fM K ats=K++r
 |[],K=>⟨[],by simp[fM]⟩
 |a::ats,K=>by
  rw[jh];split
  ·exact nR ats K
  ·obtain⟨r1,h1⟩:=kH a.terms K;obtain⟨r2,h2⟩:=nR ats (cO K a.terms);exact⟨r1++r2,by rw[h2,h1,List.append_assoc]⟩
theorem kZ:∀(ats:List aF) {K:List Bs},K.Nodup→(fM K ats).Nodup
 |[],_,h=>h
 |a::ats,K,h=>by
  rw[jh];split
  ·exact kZ ats h
  ·exact kZ ats (lW _ h)
theorem iA:∀(ats:List aF) {K:List Bs} {v:Bs},v∈fM K ats↔v∈K∨∃a∈ats,a.no=false∧∃t∈a.terms,t.1=true∧t.2=v
 |[],K,v=>by simp[fM]
 |a::ats,K,v=>by
  rw[jh,iA ats];cases ha:a.no
  ·simp only[Bool.false_eq_true,if_false,iE,List.mem_cons,exists_eq_or_imp,ha,true_and,or_assoc]
  ·simp[ha]
theorem jZ {a:aF} {fs:List au} {ls:List (List aD)} {m:List aD}:m∈aS a fs ls↔∃l∈ls,∃f∈fs,fK a f l=some m:=by
 simp[aS,List.mem_flatMap,List.mem_filterMap]
theorem Gb {m:List aD} {K r:List Bs} (h:bO m=(K++r).map bs):bO (m.take K.length)=K.map bs:=by
 unfold bO at*;rw[List.map_take,h,List.map_append,List.take_append_of_le_length (by simp),List.take_of_length_le (by simp)]
theorem BU (pick:Nat→List au):∀(ats:List aF) (n:Nat) (ls ms:List (List aD)) (K:List Bs),(∀l∈ls,bO l=K.map bs)→fF pick n ats ls=some ms→
  ∀m,m∈ms↔(∃l∈ls,∃r,m=l++r)∧bO m=(fM K ats).map bs∧∀i a,ats[i]?=some a→a.no=false→∃f∈pick (n+i),aV a m=some f
 |[],n,ls,ms,K,hK,h,m=>by
  cases h
  constructor
  ·intro hm;exact⟨⟨m,hm,[],by simp⟩,hK m hm,fun i a h=>by simp at h⟩
  ·rintro⟨⟨l,hl,r,e⟩,hk,_⟩;have h1:=hK l hl;have:r=[]:=by
    have h2:(bO m).length=(bO l).length:=by rw[hk,h1];simp[fM]
    rw[e] at h2;simp[bO] at h2;exact h2
   rw[e,this];simpa using hl
 |a::ats,n,ls,ms,K,hK,h,m=>by
  simp only[fF] at h;rw[jh];have shift:(∀i b,(a::ats)[i]?=some b→b.no=false→∃f∈pick (n+i),aV b m=some f)↔((a.no=false→∃f∈pick n,aV a m=some f)∧∀i b,ats[i]?=some b→b.no=false→∃f∈pick (n+1+i),aV b m=some f):=by
   constructor
   ·intro H;refine⟨H 0 a rfl,fun i b hb=> ?_⟩;have:=H (i+1) b (by simpa using hb)
    rwa [show n+(i+1)=n+1+i by omega] at this
   ·rintro⟨H0,H1⟩ i b hb;cases i with
    |zero=>simp at hb;subst hb;exact H0
    |succ i=>have:=H1 i b (by simpa using hb);rwa [show n+1+i=n+(i+1) by omega] at this
  rw[shift];cases ha:a.no
  ·rw[ha] at h;simp only[Bool.false_eq_true,if_false,true_imp_iff] at h⊢;split at h
   ·cases h
   ·have hK':∀l∈aS a (pick n) ls,bO l=(cO K a.terms).map bs:=fun l hl=>by
     obtain⟨l0,hl0,f,_,hm⟩:=jZ.1 hl;exact(oO (hK l0 hl0) hm).2.1
    rw[BU pick ats (n+1) _ ms _ hK' h m]
    constructor
    ·rintro⟨⟨l',hl',r,e⟩,hk,hr⟩;obtain⟨l,hl,f,hf,hm⟩:=jZ.1 hl';obtain⟨⟨r0,e0⟩,_,jD⟩:=oO (hK l hl) hm;exact⟨⟨l,hl,r0++r,by rw[e,e0,List.append_assoc]⟩,hk,⟨f,hf,by rw[e];exact qP jD⟩,hr⟩
    ·rintro⟨⟨l,hl,r,e⟩,hk,⟨f,hf,jD⟩,hr⟩;obtain⟨q,hq⟩:=nR ats (cO K a.terms);rw[hq] at hk;have hk1:=Gb hk;obtain⟨m1,hm1⟩:∃m1,m1=m.take (cO K a.terms).length:=⟨_,rfl⟩;rw[←hm1] at hk1;have hsplit:m=m1++m.drop (cO K a.terms).length:=by rw[hm1];exact(List.take_append_drop _ _).symm
     obtain⟨r0,hr0⟩:=kH a.terms K;have hll:l.length=K.length:=by
      have:=congrArg List.length (hK l hl);simpa[bO] using this
     have hpre:m1=l++r.take (r0.length):=by
      rw[hm1,e,hr0,List.length_append,←hll,List.take_length_add_append]
     have hf1:aV a m1=some f:=by
      rw[←jD];refine kX fun t ht htv=> ?_;have hmem:bs t.2∈bO m1:=by
       rw[hk1];exact fD.2 ((iE _).2 (Or.inr ⟨t,ht,htv,rfl⟩))
      obtain⟨s,hs⟩:=kW hmem;rw[hsplit,fJ,hs]
     refine⟨⟨m1,jZ.2 ⟨l,hl,f,hf,Jw (hK l hl) hpre hk1 hf1⟩,_,hsplit⟩,by rw[hq];exact hk,hr⟩
  ·rw[ha] at h;simp only[if_true,Bool.true_eq_false,false_imp_iff,true_and] at h⊢;exact BU pick ats (n+1) ls ms K hK h m
def gG (fs:List au) (at_:Int) (os:List au):Nat→List au:=fun n=>if(n:Int)=at_ then os else fs
end Go.Proofs.YtafmbokfkbccaaaGreatDoor
namespace Go.Proofs.YtafmbokfkbccaaaGreatDoor
theorem Da {a:aF} {v:Bs}:v∈vars a↔∃t∈a.terms,t.1=true∧t.2=v:=by
 unfold vars;rw[iE];simp
def Covers (body:List aF):Prop:=∀a∈body,∀t∈a.terms,t.1=true→t.2∈fM [] body
theorem sN {body:List aF} (h:aO body=0):Covers body:=by
 unfold aO at h;split at h
 ·simp at h
 ·split at h
  ·split at h
   ·rename_i hall;intro a ha t ht htv;rw[List.all_eq_true] at hall;have h1:=hall a ha;rw[List.all_eq_true] at h1;have h2:=h1 t.2 (Da.2 ⟨t,ht,htv,rfl⟩);unfold givenBy at h2;rw[List.any_eq_true] at h2;obtain⟨b,hb,h3⟩:=h2;simp only[Bool.and_eq_true,Bool.not_eq_true',List.contains_eq_mem,decide_eq_true_eq] at h3;refine(iA body).2 (Or.inr ⟨b,hb,h3.1,?_⟩);exact Da.1 h3.2
   ·simp at h
  ·rename_i hne;exact absurd h hne
theorem nS (pick:Nat→List au) (l:List aD):∀(ats:List aF) (n:Nat),barredB pick n ats l=true↔∃i a,ats[i]?=some a∧a.no=true∧∃f∈pick (n+i),aV a l=some f
 |[],n=>by simp[barredB]
 |a::ats,n=>by
  simp only[barredB,Bool.or_eq_true,Bool.and_eq_true];rw[nS pick l ats (n+1)]
  constructor
  ·rintro(⟨h1,h2⟩|⟨i,b,hb,h1,f,hf,h2⟩)
   ·cases e:aV a l with
    |none=>rw[e] at h2;cases h2
    |some f=>
     rw[e] at h2;exact⟨0,a,rfl,h1,f,aZ.1 h2,e⟩
   ·exact⟨i+1,b,by simpa using hb,h1,f,by rwa [show n+(i+1)=n+1+i by omega],h2⟩
  ·rintro⟨i,b,hb,h1,f,hf,h2⟩;cases i with
   |zero=>
    simp at hb;subst hb;exact Or.inl ⟨h1,by rw[h2];exact aZ.2 hf⟩
   |succ i=>exact Or.inr ⟨i,b,by simpa using hb,h1,f,by rwa [show n+1+i=n+(i+1) by omega],h2⟩
def SoB (pick:Nat→List au) (body:List aF) (l:List aD):Prop:=∀i a,body[i]?=some a→∃f,aV a l=some f∧inB (pick i) f= !a.no
theorem SoB.perm {pick:Nat→List au} {body:List aF} {l m:List aD} (h:SoB pick body l) (hp:l.Perm m) (hn:(bO l).Nodup):SoB pick body m:=fun i a ha=>by
 obtain⟨f,h1,h2⟩:=h i a ha;exact⟨f,by rw[←D9 hp hn];exact h1,h2⟩
theorem lY {β:Type} {l:List β} {i:Nat} {a:β} (h:l[i]?=some a):a∈l:=by
 obtain⟨hi,rfl⟩:=List.getElem?_eq_some_iff.1 h;exact List.getElem_mem hi
theorem Db {pick:Nat→List au} {body:List aF} (hc:Covers body) {ms:List (List aD)} (h:fF pick 0 body [[]]=some ms) (m:List aD):
  m∈ms.filter (fun l=> !barredB pick 0 body l)↔bO m=(fM [] body).map bs∧SoB pick body m:=by
 rw[List.mem_filter,BU pick body 0 [[]] ms [] (fun l hl=>by simp at hl;subst hl;rfl) h m];simp only[Bool.not_eq_true',Nat.zero_add]
 constructor
 ·rintro⟨⟨_,hk,hpos⟩,hb⟩;refine⟨hk,fun i a ha=> ?_⟩;cases hno:a.no
  ·obtain⟨f,hf,h1⟩:=hpos i a ha hno;exact⟨f,h1,by rw[aZ.2 hf];rfl⟩
  ·obtain⟨f,hf⟩:=Ea (l:=m) (a:=a) fun t ht htv=>by
    rw[hk];exact fD.2 (hc a (lY ha) t ht htv)
   refine⟨f,hf,?_⟩;cases e:inB (pick i) f
   ·rfl
   ·have:barredB pick 0 body m=true:=(nS pick m body 0).2 ⟨i,a,ha,hno,f,by rw[Nat.zero_add];exact aZ.1 e,hf⟩;rw[hb] at this;cases this
 ·rintro⟨hk,hso⟩;refine⟨⟨⟨[],by simp,m,by simp⟩,hk,fun i a ha hno=> ?_⟩,?_⟩
  ·obtain⟨f,h1,h2⟩:=hso i a ha;rw[hno] at h2;exact⟨f,aZ.1 h2,h1⟩
  ·cases e:barredB pick 0 body m
   ·rfl
   ·obtain⟨i,a,ha,hno,f,hf,h1⟩:=(nS pick m body 0).1 e;obtain⟨g,h2,h3⟩:=hso i a ha;rw[h1] at h2;cases h2;rw[Nat.zero_add] at hf;rw[hno,aZ.2 hf] at h3;cases h3
theorem keys_perm {l m:List aD} (h:l.Perm m):(bO l).Perm (bO m):=h.map _
theorem qQ {m:List aD} (hn:(bO m).Nodup):(kI m).Pairwise fun a b=>xX a b<0:=by
 refine zB gN (kY gN m) ?_;refine(dP m).nodup_iff.2 ?_;have:(m.map (·.1)).Nodup:=hn;rw[List.Nodup,List.pairwise_map] at this;exact this.imp fun h e=>h (by rw[e])
def jE (pick:Nat→List au) (body:List aF) (r:List aD):Prop:=
 r.Pairwise (fun a b=>xX a b<0)∧(bO r).Nodup∧(∀v,v∈bO r↔v∈(fM [] body).map bs)∧SoB pick body r
theorem oQ (body:List aF):((fM [] body).map bs).Nodup:=zA (kZ body List.nodup_nil)
theorem nT {pick:Nat→List au} {body:List aF} (hc:Covers body) {R:List (List aD)} (h:lX pick body=some R) (r:List aD):r∈R↔jE pick body r:=by
 unfold lX at h;cases e:fF pick 0 body [[]] with
 |none=>rw[e] at h;cases h
 |some ms=>
  rw[e] at h;cases h;rw[(dP _).mem_iff,List.mem_map]
  constructor
  ·rintro⟨m,hm,rfl⟩;obtain⟨hk,hso⟩:=(Db hc e m).1 hm;have hn:(bO m).Nodup:=by rw[hk];exact oQ body
   have hp:=(dP (c:=xX) m);refine⟨qQ hn,(keys_perm hp).nodup_iff.2 hn,fun v=> ?_,hso.perm hp.symm hn⟩;rw[(keys_perm hp).mem_iff,hk]
  ·rintro⟨hr,hn,hv,hso⟩;obtain⟨m,hm⟩:∃m:List aD,m=(fM [] body).map fun k=>(bs k,(dX r (bs k)).getD ByteArray.empty):=⟨_,rfl⟩;have hk:bO m=(fM [] body).map bs:=by rw[hm];unfold bO;rw[List.map_map];rfl
   have hnm:(bO m).Nodup:=by rw[hk];exact oQ body
   have hmem:∀x,x∈m↔x∈r:=fun x=>by
    constructor
    ·intro hx;rw[hm] at hx;obtain⟨k,hk,rfl⟩:=List.mem_map.1 hx;obtain⟨s,hs⟩:=kW ((hv (bs k)).2 (fD.2 hk));rw[hs];exact rX hs
    ·intro hx;have h1:x.1∈(fM [] body).map bs:=(hv x.1).1 (List.mem_map.2 ⟨x,hx,rfl⟩);obtain⟨k,hk,e⟩:=List.mem_map.1 h1;rw[hm];refine List.mem_map.2 ⟨k,hk,?_⟩;have:=sH (v:=x.1) (s:=x.2) hn hx;rw[e,this]
     rfl
   have hsm:kI m=r:=xW gN (qQ hnm) hr fun x=>by rw[(dP m).mem_iff];exact hmem x
   refine⟨m,(Db hc e m).2 ⟨hk,?_⟩,hsm⟩;have hp:r.Perm m:=by rw[←hsm];exact dP m
   exact hso.perm hp hn
theorem ji {fs:List au} {body:List aF} {l:List aD}:SoB (fun _=>fs) body l↔∀a∈body,∃f,aV a l=some f∧inB fs f= !a.no:=by
 constructor
 ·intro h a ha;obtain⟨i,hi⟩:=List.getElem?_of_mem ha;exact h i a hi
 ·intro h i a ha;exact h a (lY ha)
end Go.Proofs.YtafmbokfkbccaaaGreatDoor
namespace Go.Proofs.YtafmbokfkbccaaaGreatDoor
abbrev Up (s:List au):Prop:=s.Pairwise fun a b=>gM a b<0
def fQ:List au→List au
 |[]=>[]
 |f::l=>if inB l f then fQ l else f::fQ l
theorem jM:∀{l:List au} {f:au},f∈fQ l↔f∈l
 |[],f=>by simp[fQ]
 |g::l,f=>by
  unfold fQ;split
  ·rename_i h;rw[jM,List.mem_cons];exact⟨Or.inr,fun h'=>h'.elim (fun e=>by rw[e];exact aZ.1 h) id⟩
  ·rw[List.mem_cons,List.mem_cons,jM]
theorem jP:∀(l:List au),(fQ l).Nodup
 |[]=>List.nodup_nil
 |g::l=>by
  unfold fQ;split
  ·exact jP l
  ·rename_i h;exact List.nodup_cons.2 ⟨fun h'=>h (aZ.2 (jM.1 h')),jP l⟩
theorem oU:∀(l:List au),(fQ l).length≤l.length
 |[]=>Nat.le_refl _
 |g::l=>by
  have:=oU l;unfold fQ;split <;> simp <;> omega
def dK (l:List au):List au:=jI gM (fQ l)
theorem cu {l:List au} {f:au}:f∈dK l↔f∈l:=by
 unfold dK;rw[(dP _).mem_iff,jM]
theorem iI (l:List au):Up (dK l):=zB aU (kY aU _) ((dP _).nodup_iff.2 (jP l))
theorem rY (l:List au):(dK l).length≤l.length:=by
 unfold dK;rw[(dP _).length_eq];exact oU l
theorem vR {s t:List au} (hs:Up s) (ht:Up t) (h:∀f,f∈s↔f∈t):s=t:=xW aU hs ht h
theorem p8 {s l:List au} (hs:Up s) (h:∀f,f∈s↔f∈l):s=dK l:=vR hs (iI l) fun f=>by rw[cu,h]
theorem zG {s:List au} (hs:Up s):dK s=s:=(p8 hs fun _=>Iff.rfl).symm
theorem vS {l m:List au} (h:∀f,f∈l↔f∈m):dK l=dK m:=vR (iI l) (iI m) fun f=>by rw[cu,cu,h]
theorem mU {s:List au} (hs:Up s):s.Nodup:=zC aU hs
theorem p9:∀{s t:List au},s.Nodup→(∀f∈s,f∈t)→s.length≤t.length
 |[],_,_,_=>Nat.zero_le _
 |a::s,t,hn,h=>by
  have hn':=List.nodup_cons.1 hn;obtain⟨t1,t2,rfl⟩:=List.append_of_mem (h a (by simp));have:=p9 (t:=t1++t2) hn'.2 fun f hf=>by
   have h1:=h f (by simp[hf]);simp only[List.mem_append,List.mem_cons] at h1⊢;rcases h1 with h1|rfl|h1
   ·exact Or.inl h1
   ·exact absurd hf hn'.1
   ·exact Or.inr h1
  simp only[List.length_cons,List.length_append] at this⊢;omega
theorem sO {s t:List au} (hs:Up s) (h:∀f∈s,f∈t):s.length≤t.length:=p9 (mU hs) h
theorem BX {s t:List au} (hs:Up s) (ht:Up t) (h:∀f∈s,f∈t) (e:t.length≤s.length):s=t:=by
 refine vR hs ht fun f=>⟨h f,fun hf=>Classical.byContradiction fun hn=> ?_⟩;have:=p9 (s:=f::s) (t:=t) (List.nodup_cons.2 ⟨hn,mU hs⟩) fun g hg=>by
  rcases List.mem_cons.1 hg with rfl|hg
  ·exact hf
  ·exact h g hg
 simp only[List.length_cons] at this;omega
def gH (r:aA) (fs:List au):Option (List au):=match lX (fun _=>fs) r.body with
 |none=>none
 |some R=>some (dK (R.filterMap fun l=>aV r.head l))
def jk (n:Int) (fs:List au):List aA→List Nat→List au→Int×List au
 |[],_,acc=>(0,dK acc)
 |_::_,[],acc=>(0,dK acc)
 |r::p,s::ss,acc=>if(s:Int)=n then
   match gH r fs with
   |none=>(4,[])
   |some x=>if 200<(dK (acc++x)).length then(5,[]) else jk n fs p ss (acc++x)
  else jk n fs p ss acc
def fu (p:List aA) (ss:List Nat) (n:Int) (fs:List au):Int×List au:=jk n fs p ss fs
def jl (p:List aA) (ss:List Nat) (n:Int):Nat→List au→Int×List au
 |0,l=>(0,l)
 |k+1,l=>if(fu p ss n l).1≠0 then((fu p ss n l).1,[]) else if(fu p ss n l).2.length=l.length then(0,(fu p ss n l).2) else jl p ss n k (fu p ss n l).2
def countP:List Nat→Nat
 |[]=>0
 |s::ss=>max (s+1) (countP ss)
theorem lZ:∀{ss:List Nat} {s:Nat},s∈ss→s<countP ss
 |t::ss,s,h=>by
  unfold countP;rcases List.mem_cons.1 h with rfl|h
  ·omega
  ·have:=lZ h;omega
theorem countP_congr {ss tt:List Nat} (h:∀s,s∈ss↔s∈tt):countP ss=countP tt:=by
 have key:∀{a b:List Nat},(∀s∈a,s∈b)→countP a≤countP b:=by
  intro a
  induction a with
  |nil=>intro b _;exact Nat.zero_le _
  |cons x a ih=>
   intro b hb;have h1:=ih fun s hs=>hb s (List.mem_cons_of_mem _ hs);have h2:=lZ (hb x (by simp));show max (x+1) (countP a)≤countP b;omega
 exact Nat.le_antisymm (key fun s hs=>(h s).1 hs) (key fun s hs=>(h s).2 hs)
def oV (p:List aA) (ss:List Nat):Nat→Nat→List au→Int×List au
 |0,_,l=>(0,l)
 |c+1,n,l=>if(jl p ss n 201 l).1≠0 then((jl p ss n 201 l).1,[]) else oV p ss c (n+1) (jl p ss n 201 l).2
def zH (p:List aA) (f:au):Bool:=p.all fun r=>(r.head::r.body).all fun a=> !decide (bs a.name=f.1)||decide (a.terms.length=f.2.length)
structure mg (r:aA):Prop where
 head:aR r.head=0
 yes:r.head.no=false
 body:aO r.body=0
 vars:(vars r.head).all (givenBy r.body)=true
def gu (p:List aA):List aF:=p.flatMap fun r=>r.head::r.body
theorem xY (l q:List aF):∀m:fI,fitAll m (l++q)=if(fitAll m l).1 then fitAll (fitAll m l).2 q else fitAll m l:=by
 induction l with
 |nil=>intro m;simp[fitAll]
 |cons a l ih=>
  intro m
  by_cases h:(dA m a).1=true
  ·have h1:∀q,fitAll m (a::q)=fitAll (dA m a).2 q:=fun q=>by rw[fitAll,if_pos h]
   rw[List.cons_append,h1,h1,ih]
  ·have h1:∀q,fitAll m (a::q)=(false,(dA m a).2):=fun q=>by rw[fitAll,if_neg h]
   rw[List.cons_append,h1,h1];rfl
theorem lg (m:fI) (r:aA):(bf m r).1=0↔mg r∧(fitAll m (r.head::r.body)).1=true:=by
 unfold bf
 constructor
 ·intro h;split at h
  ·rename_i h1;split at h
   ·cases h
   ·rename_i h2;split at h
    ·rename_i h3;split at h
     ·rename_i h4;split at h
      ·rename_i h5;refine⟨⟨h1,by simpa using h2,h3,h4⟩,?_⟩;unfold fitAll;rw[if_pos h5];dsimp only at h;split at h
       ·assumption
       ·cases h
      ·cases h
     ·cases h
    ·rename_i h3;exact absurd h h3
  ·rename_i h1;exact absurd h h1
 ·rintro⟨⟨h1,h2,h3,h4⟩,h5⟩;unfold fitAll at h5;split at h5
  ·rename_i h6;rw[if_pos h1,if_neg (by simp[h2]),if_pos h3,if_pos h4,if_pos h6,if_pos h5]
  ·cases h5
theorem vg (m:fI) (r:aA) (h:(bf m r).1=0):(bf m r).2=(fitAll m (r.head::r.body)).2:=by
 obtain⟨⟨h1,h2,h3,h4⟩,h5⟩:=(lg m r).1 h;unfold fitAll at h5⊢;split at h5
 ·rename_i h6;unfold bf;rw[if_pos h1,if_neg (by simp[h2]),if_pos h3,if_pos h4,if_pos h6,if_pos h6]
 ·cases h5
theorem sP (p:List aA):∀(m:fI) (i:Nat),(jC m i p).1=0↔(∀r∈p,mg r)∧(fitAll m (gu p)).1=true:=by
 induction p with
 |nil=>intro m i;simp[jC,gu,fitAll]
 |cons r p ih=>
  intro m i;have ea:gu (r::p)=(r.head::r.body)++gu p:=rfl;rw[ea,xY];unfold jC
  by_cases h:(bf m r).1=0
  ·rw[if_pos h,ih,vg m r h];obtain⟨h1,h2⟩:=(lg m r).1 h;rw[if_pos h2];simp[h1]
  ·rw[if_neg h];refine⟨fun h'=>absurd h' h,fun⟨h1,h2⟩=> ?_⟩
   exfalso
   split at h2
   ·rename_i h3;exact h ((lg m r).2 ⟨h1 r (by simp),h3⟩)
   ·rename_i h3;exact h3 h2
def Even (l:List aF):Prop:=∀a∈l,∀b∈l,a.name=b.name→a.terms.length=b.terms.length
theorem vT (l:List aF):∀m:fI,(fitAll m l).1=true↔(∀a∈l,∀n,m a.name=some n→n=a.terms.length)∧Even l:=by
 induction l with
 |nil=>intro m;simp[fitAll,Even]
 |cons a l ih=>
  intro m;unfold fitAll;cases e:m a.name with
  |none=>
   have h1:dA m a=(true,m.put a.name a.terms.length):=by unfold dA;rw[e]
   rw[h1];simp only[if_true];rw[ih]
   constructor
   ·rintro⟨h2,h3⟩;have h4:∀b∈l,b.name=a.name→a.terms.length=b.terms.length:=fun b hb hn=>h2 b hb _ (by unfold fI.put;rw[if_pos hn]);refine⟨fun b hb n hn=> ?_,fun b hb c hc hbc=> ?_⟩
    ·rcases List.mem_cons.1 hb with rfl|hb
     ·rw[e] at hn;cases hn
     ·by_cases hne:b.name=a.name
      ·rw[hne,e] at hn;cases hn
      ·exact h2 b hb n (by unfold fI.put;rw[if_neg hne];exact hn)
    ·rcases List.mem_cons.1 hb with rfl|hb'
     ·rcases List.mem_cons.1 hc with rfl|hc
      ·rfl
      ·exact h4 c hc hbc.symm
     ·rcases List.mem_cons.1 hc with rfl|hc
      ·exact(h4 b hb' hbc).symm
      ·exact h3 b hb' c hc hbc
   ·rintro⟨h2,h3⟩;refine⟨fun b hb n hn=> ?_,fun b hb c hc=>h3 b (by simp[hb]) c (by simp[hc])⟩;unfold fI.put at hn;split at hn
    ·rename_i hne;cases hn;exact h3 a (by simp) b (by simp[hb]) hne.symm
    ·exact h2 b (by simp[hb]) n hn
  |some k=>
   have h1:dA m a=(decide (k=a.terms.length),m):=by unfold dA;rw[e]
   rw[h1]
   by_cases hk:k=a.terms.length
   ·simp only[hk,decide_true,if_true];rw[ih];have h4:(∀b∈l,∀n,m b.name=some n→n=b.terms.length)→∀b∈l,b.name=a.name→a.terms.length=b.terms.length:=fun h b hb hn=>h b hb _ (by rw[hn,e,hk])
    constructor
    ·rintro⟨h2,h3⟩;refine⟨fun b hb n hn=> ?_,fun b hb c hc hbc=> ?_⟩
     ·rcases List.mem_cons.1 hb with rfl|hb
      ·rw[e] at hn;cases hn;exact hk
      ·exact h2 b hb n hn
     ·rcases List.mem_cons.1 hb with rfl|hb'
      ·rcases List.mem_cons.1 hc with rfl|hc
       ·rfl
       ·exact h4 h2 c hc hbc.symm
      ·rcases List.mem_cons.1 hc with rfl|hc
       ·exact(h4 h2 b hb' hbc).symm
       ·exact h3 b hb' c hc hbc
    ·rintro⟨h2,h3⟩;exact⟨fun b hb=>h2 b (by simp[hb]),fun b hb c hc=>h3 b (by simp[hb]) c (by simp[hc])⟩
   ·simp only[hk,decide_false];refine⟨fun h=>by simp at h,fun⟨h2,_⟩=> ?_⟩;exact absurd (h2 a (by simp) k e) hk
structure cZ (p:List aA):Prop where
 few:p.length≤16
 rules:∀r∈p,mg r
 even:Even (gu p)
theorem mV {p:List aA}:(gX p).1=0↔cZ p:=by
 unfold gX
 constructor
 ·intro h;split at h
  ·cases h
  ·rename_i h1;obtain⟨h2,h3⟩:=(sP p _ _).1 h;exact⟨by omega,h2,((vT _ _).1 h3).2⟩
 ·rintro⟨h1,h2,h3⟩;rw[if_neg (by omega)];exact(sP p _ _).2 ⟨h2,(vT _ _).2 ⟨fun _ _ _ h=>(by simp at h),h3⟩⟩
theorem cZ.turned {p:List aA} (h:cZ p):cZ p.reverse:=
 ⟨by rw[List.length_reverse];exact h.few,fun r hr=>h.rules r (List.mem_reverse.1 hr),fun a ha b hb=>h.even a (by simpa[gu] using ha) b (by simpa[gu] using hb)⟩
end Go.Proofs.YtafmbokfkbccaaaGreatDoor
