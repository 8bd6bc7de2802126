import Derived.Test.YtafmbokfkbccaaaGreatDoorJB1
namespace Go.Proofs.YtafmbokfkbccaaaGreatDoor
abbrev aC:=ByteArray×ByteArray
def bT:List aC→ByteArray→Option ByteArray
 |[],_=>none
 |b::l,v=>if b.1=v then some b.2 else bT l v
def bD (l:List aC):List ByteArray:=l.map (·.1)
theorem fA (l m:List aC) (v:ByteArray):bT (l++m) v=match bT l v with|some s=>some s|none=>bT m v:=by
 induction l with
 |nil=>rfl
 |cons b l ih=>
  simp only[List.cons_append,bT];split
  ·rfl
  ·exact ih
theorem jc {l:List aC} {v:ByteArray}:bT l v=none↔v∉bD l:=by
 induction l with
 |nil=>simp[bT,bD]
 |cons b l ih=>
  simp only[bT,bD,List.map_cons,List.mem_cons,not_or];split
  ·rename_i h;simp[h]
  ·rename_i h;rw[ih];exact⟨fun h'=>⟨fun e=>h e.symm,h'⟩,fun h'=>h'.2⟩
theorem pF {l:List aC} {v s:ByteArray} (h:bT l v=some s):(v,s)∈l:=by
 induction l with
 |nil=>cases h
 |cons b l ih=>
  simp only[bT] at h;split at h
  ·rename_i e;cases h;subst e;exact List.mem_cons_self
  ·exact List.mem_cons_of_mem _ (ih h)
theorem pU {l:List aC} (hn:(bD l).Nodup) {v s:ByteArray} (h:(v,s)∈l):bT l v=some s:=by
 induction l with
 |nil=>cases h
 |cons b l ih=>
  have hn':b.1∉bD l∧(bD l).Nodup:=List.nodup_cons.1 hn;rcases List.mem_cons.1 h with e|h
  ·subst e;simp[bT]
  ·have:b.1≠v:=fun e=>hn'.1 (by rw[e];exact List.mem_map.2 ⟨_,h,rfl⟩);simp only[bT,if_neg this];exact ih hn'.2 h
theorem jU {l:List aC} {v:ByteArray} (h:v∈bD l):∃s,bT l v=some s:=by
 cases e:bT l v with
 |none=>exact absurd h (jc.1 e)
 |some s=>exact⟨s,rfl⟩
theorem Ej {l m:List aC} (h:l.Perm m) (hn:(bD l).Nodup) (v:ByteArray):bT l v=bT m v:=by
 have hm:(bD m).Nodup:=(h.map _).nodup_iff.1 hn;cases e:bT l v with
 |none=>exact(jc.2 fun hv=>jc.1 e ((h.map _).mem_iff.2 hv)).symm
 |some s=>exact(pU hm (h.mem_iff.1 (pF e))).symm
def aV (l:List aC) (t:dh):Option ByteArray:=if t.1 then bT l (bs t.2) else some (bs t.2)
def aJ (l:List aC):List dh→Option (List ByteArray)
 |[]=>some []
 |t::ts=>match aV l t with
  |none=>none
  |some s=>match aJ l ts with
   |none=>none
   |some r=>some (s::r)
abbrev aj:=ByteArray×List ByteArray
def aQ (a:aF) (l:List aC):Option aj:=match aJ l a.terms with
 |none=>none
 |some r=>some (bs a.name,r)
def dQ (l:List aC):List dh→List ByteArray→Option (List aC)
 |[],_=>some l
 |_::_,[]=>none
 |t::ts,x::xs=>match aV l t with
  |none=>dQ (l++[(bs t.2,x)]) ts xs
  |some s=>if s=x then dQ l ts xs else none
def dL (a:aF) (f:aj) (l:List aC):Option (List aC):=
 if bs a.name=f.1∧a.terms.length=f.2.length then dQ l a.terms f.2 else none
def aK (a:aF) (fs:List aj) (ls:List (List aC)):List (List aC):=ls.flatMap fun l=>fs.filterMap fun f=>dL a f l
def eu (pick:Nat→List aj):Nat→List aF→List (List aC)→Option (List (List aC))
 |_,[],ls=>some ls
 |n,a::ats,ls=>if a.no then eu pick (n+1) ats ls
  else if 20000<(aK a (pick n) ls).length then none
  else eu pick (n+1) ats (aK a (pick n) ls)
def inB (l:List aj) (f:aj):Bool:=l.any fun x=>decide (x=f)
theorem aO {l:List aj} {f:aj}:inB l f=true↔f∈l:=by
 unfold inB;rw[List.any_eq_true];exact⟨fun⟨x,hx,e⟩=>by rw[decide_eq_true_eq] at e;rw[←e];exact hx,fun h=>⟨f,h,by simp⟩⟩
def barredB (pick:Nat→List aj):Nat→List aF→List aC→Bool
 |_,[],_=>false
 |n,a::ats,l=>(a.no&&(match aQ a l with|some f=>inB (pick n) f|none=>false))||barredB pick (n+1) ats l
theorem iW {l m:List aC} {t:dh} {s:ByteArray} (h:aV l t=some s):aV (l++m) t=some s:=by
 unfold aV at*;split
 ·rename_i ht;rw[if_pos ht] at h;rw[fA,h]
 ·rename_i ht;rw[if_neg ht] at h;exact h
theorem kD {l m:List aC}:∀{ts:List dh} {r:List ByteArray},aJ l ts=some r→aJ (l++m) ts=some r
 |[],r,h=>h
 |t::ts,r,h=>by
  simp only[aJ] at h⊢;cases e:aV l t with
  |none=>rw[e] at h;cases h
  |some s=>
   rw[e] at h;rw[iW e];dsimp only at h⊢;cases e2:aJ l ts with
   |none=>rw[e2] at h;cases h
   |some q=>
    rw[e2] at h;rw[kD e2];exact h
theorem kE {l m:List aC} {a:aF} {f:aj} (h:aQ a l=some f):aQ a (l++m)=some f:=by
 unfold aQ at*;cases e:aJ l a.terms with
 |none=>rw[e] at h;cases h
 |some r=>rw[e] at h;rw[kD e];exact h
theorem lD {l m:List aC}:∀{ts:List dh},(∀t∈ts,t.1=true→bT l (bs t.2)=bT m (bs t.2))→aJ l ts=aJ m ts
 |[],_=>rfl
 |t::ts,h=>by
  have e1:aV l t=aV m t:=by
   unfold aV;split
   ·rename_i ht;exact h t List.mem_cons_self ht
   ·rfl
  simp only[aJ];rw[e1,lD (ts:=ts) fun t ht=>h t (List.mem_cons_of_mem _ ht)]
theorem jV {l m:List aC} {a:aF} (h:∀t∈a.terms,t.1=true→bT l (bs t.2)=bT m (bs t.2)):aQ a l=aQ a m:=by
 unfold aQ;rw[lD h]
theorem sW {l m:List aC} (h:l.Perm m) (hn:(bD l).Nodup) (a:aF):aQ a l=aQ a m:=jV fun _ _ _=>Ej h hn _
theorem mI {l:List aC}:∀{ts:List dh},(∀t∈ts,t.1=true→bs t.2∈bD l)→∃r,aJ l ts=some r
 |[],_=>⟨[],rfl⟩
 |t::ts,h=>by
  obtain⟨r,hr⟩:=mI (ts:=ts) fun t ht=>h t (List.mem_cons_of_mem _ ht);have:∃s,aV l t=some s:=by
   unfold aV;split
   ·rename_i ht;exact jU (h t List.mem_cons_self ht)
   ·exact⟨_,rfl⟩
  obtain⟨s,hs⟩:=this;exact⟨s::r,by simp only[aJ,hs,hr]⟩
theorem Cj {l:List aC} {a:aF} (h:∀t∈a.terms,t.1=true→bs t.2∈bD l):∃f,aQ a l=some f:=by
 obtain⟨r,hr⟩:=mI h;exact⟨(bs a.name,r),by unfold aQ;rw[hr]⟩
theorem jq {l:List aC}:∀{ts:List dh} {r:List ByteArray},aJ l ts=some r→r.length=ts.length
 |[],r,h=>by cases h;rfl
 |t::ts,r,h=>by
  simp only[aJ] at h;cases e:aV l t with
  |none=>rw[e] at h;cases h
  |some s=>
   rw[e] at h;dsimp only at h;cases e2:aJ l ts with
   |none=>rw[e2] at h;cases h
   |some q=>rw[e2] at h;cases h;simp[jq e2]
theorem Ck (K:List Bs) (s:Bs):∃r,eG K s=K++r:=by
 unfold eG;split
 ·exact⟨[],by simp⟩
 ·exact⟨[s],rfl⟩
theorem iA (K:List Bs) (t:dh) (ts:List dh):bR K (t::ts)=bR (if t.1 then eG K t.2 else K) ts:=rfl
theorem jM:∀(ts:List dh) (K:List Bs),∃r,bR K ts=K++r
 |[],K=>⟨[],by simp[bR]⟩
 |t::ts,K=>by
  rw[iA];split
  ·obtain⟨r1,h1⟩:=Ck K t.2;obtain⟨r2,h2⟩:=jM ts (eG K t.2);exact⟨r1++r2,by rw[h2,h1,List.append_assoc]⟩
  ·exact jM ts K
theorem wV {K:List Bs} (h:K.Nodup) (s:Bs):(eG K s).Nodup:=by
 unfold eG;split
 ·exact h
 ·rename_i hc;rw[List.nodup_append];refine⟨h,by simp,fun a ha b hb=> ?_⟩;simp at hb;subst hb;intro e;subst e;simp at hc;exact hc ha
theorem jr:∀(ts:List dh) {K:List Bs},K.Nodup→(bR K ts).Nodup
 |[],_,h=>h
 |t::ts,K,h=>by
  rw[iA];split
  ·exact jr ts (wV h _)
  ·exact jr ts h
theorem Cm {K:List Bs} {s v:Bs}:v∈eG K s↔v∈K∨v=s:=by
 unfold eG;split
 ·rename_i h;simp at h;exact⟨Or.inl,fun h'=>h'.elim id fun e=>by rw[e];exact h⟩
 ·simp
theorem gu:∀(ts:List dh) {K:List Bs} {v:Bs},v∈bR K ts↔v∈K∨∃t∈ts,t.1=true∧t.2=v
 |[],K,v=>by simp[bR]
 |t::ts,K,v=>by
  rw[iA,gu ts];cases ht:t.1
  ·simp[ht]
  ·simp only[if_true,Cm,List.mem_cons,exists_eq_or_imp,ht,true_and]
   constructor
   ·rintro((h|h)|h)
    ·exact Or.inl h
    ·exact Or.inr (Or.inl h.symm)
    ·exact Or.inr (Or.inr h)
   ·rintro(h|h|h)
    ·exact Or.inl (Or.inl h)
    ·exact Or.inl (Or.inr h.symm)
    ·exact Or.inr h
theorem eO {K:List Bs} {v:Bs}:bs v∈K.map bs↔v∈K:=by
 constructor
 ·intro h;obtain⟨x,hx,e⟩:=List.mem_map.1 h;rw[←pR e];exact hx
 ·exact fun h=>List.mem_map.2 ⟨_,h,rfl⟩
theorem oH {K:List Bs} (h:K.Nodup):(K.map bs).Nodup:=by
 rw[List.Nodup,List.pairwise_map];exact h.imp fun hne e=>hne (pR e)
theorem pV:∀(ts:List dh) (xs:List ByteArray) (l m:List aC) (K:List Bs),ts.length=xs.length→bD l=K.map bs→dQ l ts xs=some m→
  (∃r,m=l++r)∧bD m=(bR K ts).map bs∧aJ m ts=some xs
 |[],[],l,m,K,_,hk,h=>by
  cases h;exact⟨⟨[],by simp⟩,hk,rfl⟩
 |[],_::_,_,_,_,hl,_,_=>by simp at hl
 |_::_,[],_,_,_,hl,_,_=>by simp at hl
 |t::ts,x::xs,l,m,K,hl,hk,h=>by
  have hl':ts.length=xs.length:=by simpa using hl
  simp only[dQ] at h;cases e:aV l t with
  |none=>
   rw[e] at h;dsimp only at h;have ht:t.1=true:=by
    unfold aV at e;split at e
    ·assumption
    ·cases e
   have hg:bT l (bs t.2)=none:=by unfold aV at e;rwa [if_pos ht] at e
   have hnk:t.2∉K:=fun hm=>jc.1 hg (by rw[hk];exact eO.2 hm);have ha:eG K t.2=K++[t.2]:=by unfold eG;rw[if_neg (by simpa using hnk)]
   obtain⟨⟨r,hr⟩,h2,h3⟩:=pV ts xs (l++[(bs t.2,x)]) m (K++[t.2]) hl' (by simp[bD] at hk⊢;exact hk) h;refine⟨⟨(bs t.2,x)::r,by rw[hr];simp⟩,by rw[iA,if_pos ht,ha];exact h2,?_⟩;simp only[aJ];have hw:aV m t=some x:=by
    rw[hr];refine iW ?_;unfold aV;rw[if_pos ht,fA,hg];simp[bT]
   rw[hw,h3]
  |some s=>
   rw[e] at h;dsimp only at h;split at h
   ·rename_i hs;subst hs;have hK:(if t.1=true then eG K t.2 else K)=K:=by
     split
     ·rename_i ht;unfold aV at e;rw[if_pos ht] at e;unfold eG;rw[if_pos];have:bs t.2∈bD l:=Classical.byContradiction fun hk=>by rw[jc.2 hk] at e;cases e
      rw[hk] at this;simpa using eO.1 this
     ·rfl
    obtain⟨⟨r,hr⟩,h2,h3⟩:=pV ts xs l m K hl' hk h;refine⟨⟨r,hr⟩,by rw[iA,hK];exact h2,?_⟩;simp only[aJ];rw[show aV m t=some s by rw[hr];exact iW e,h3]
   ·cases h
theorem pW:∀(ts:List dh) (xs:List ByteArray) (l m r:List aC) (K:List Bs),bD l=K.map bs→m=l++r→bD m=(bR K ts).map bs→aJ m ts=some xs→dQ l ts xs=some m
 |[],xs,l,m,r,K,hk,hm,hv,_=>by
  have e:r=[]:=by
   have h1:(bD m).length=(bD l).length:=by rw[hv,hk];simp[bR]
   rw[hm] at h1;simp[bD] at h1;exact h1
  rw[hm,e];simp[dQ]
 |t::ts,xs,l,m,r,K,hk,hm,hv,hf=>by
  simp only[aJ] at hf;cases e:aV m t with
  |none=>rw[e] at hf;cases hf
  |some s=>
   rw[e] at hf;dsimp only at hf;cases e2:aJ m ts with
   |none=>rw[e2] at hf;cases hf
   |some q=>
    rw[e2] at hf;cases hf;rw[iA] at hv;simp only[dQ];cases e3:aV l t with
    |some s'=>
     have:=iW (m:=r) e3;rw[←hm,e] at this;cases this;dsimp only;rw[if_pos rfl];have hK:(if t.1=true then eG K t.2 else K)=K:=by
      split
      ·rename_i ht;unfold aV at e3;rw[if_pos ht] at e3;unfold eG;rw[if_pos];have:bs t.2∈bD l:=Classical.byContradiction fun hk=>by rw[jc.2 hk] at e3;cases e3
       rw[hk] at this;simpa using eO.1 this
      ·rfl
     rw[hK] at hv;exact pW ts q l m r K hk hm hv e2
    |none=>
     dsimp only;have ht:t.1=true:=by
      unfold aV at e3;split at e3
      ·assumption
      ·cases e3
     have hg:bT l (bs t.2)=none:=by unfold aV at e3;rwa [if_pos ht] at e3
     have hnk:t.2∉K:=fun hm=>jc.1 hg (by rw[hk];exact eO.2 hm);have ha:eG K t.2=K++[t.2]:=by unfold eG;rw[if_neg (by simpa using hnk)]
     rw[if_pos ht,ha] at hv;obtain⟨q',hq'⟩:=jM ts (K++[t.2]);have hkr:bD r=bs t.2::q'.map bs:=by
      have h1:=hv;rw[hq',hm] at h1;simp only[bD,List.map_append] at h1 hk⊢;rw[hk,List.append_assoc] at h1;simpa using List.append_cancel_left h1
     cases r with
     |nil=>simp[bD] at hkr
     |cons b r'=>
      have hb:b.1=bs t.2:=by simp[bD] at hkr;exact hkr.1
      have hbs:b.2=s:=by
       unfold aV at e;rw[if_pos ht,hm,fA,hg] at e;simp only[bT,hb,if_true] at e;exact Option.some.inj e
      have hbe:b=(bs t.2,s):=by rw[←hb,←hbs]
      subst hbe;exact pW ts q (l++[(bs t.2,s)]) m r' (K++[t.2]) (by simp[bD] at hk⊢;exact hk) (by rw[hm];simp) hv e2
theorem kW {a:aF} {f:aj} {l m:List aC} {K:List Bs} (hk:bD l=K.map bs) (h:dL a f l=some m):(∃r,m=l++r)∧bD m=(bR K a.terms).map bs∧aQ a m=some f:=by
 unfold dL at h;split at h
 ·rename_i hc;obtain⟨h1,h2,h3⟩:=pV a.terms f.2 l m K hc.2 hk h;exact⟨h1,h2,by unfold aQ;rw[h3,hc.1]⟩
 ·cases h
theorem Hr {a:aF} {f:aj} {l m r:List aC} {K:List Bs} (hk:bD l=K.map bs) (hm:m=l++r) (hv:bD m=(bR K a.terms).map bs) (hf:aQ a m=some f):dL a f l=some m:=by
 unfold aQ at hf;cases e:aJ m a.terms with
 |none=>rw[e] at hf;cases hf
 |some x=>
  rw[e] at hf;cases hf;unfold dL;rw[if_pos ⟨rfl,(jq e).symm⟩];exact pW a.terms x l m r K hk hm hv e
end Go.Proofs.YtafmbokfkbccaaaGreatDoor
namespace Go.Proofs.YtafmbokfkbccaaaGreatDoor
variable {α:Type} {c:α→α→Int}
theorem Three.le_trans (h:Three c) {a b d:α} (h1:c a b≤0) (h2:c b d≤0):c a d≤0:=by
 by_cases e1:c a b=0
 ·rw[h.zero _ _ e1];exact h2
 ·by_cases e2:c b d=0
  ·rw[←h.zero _ _ e2];exact h1
  ·have:=h.trans a b d (by omega) (by omega);omega
theorem Three.anti (h:Three c) {a b:α} (h1:c a b≤0) (h2:c b a≤0):a=b:=h.zero a b (by have:=h.swap a b;omega)
theorem uU (h:Three c):∀{s t:List α},s.Pairwise (fun a b=>c a b<0)→t.Pairwise (fun a b=>c a b<0)→(∀x,x∈s↔x∈t)→s=t
 |[],[],_,_,_=>rfl
 |[],b::t,_,_,e=>absurd ((e b).2 List.mem_cons_self) (by simp)
 |a::s,[],_,_,e=>absurd ((e a).1 List.mem_cons_self) (by simp)
 |a::s,b::t,hs,ht,e=>by
  have hs':=List.pairwise_cons.1 hs;have ht':=List.pairwise_cons.1 ht;have hab:a=b:=by
   rcases List.mem_cons.1 ((e a).1 List.mem_cons_self) with h1|h1
   ·exact h1
   ·rcases List.mem_cons.1 ((e b).2 List.mem_cons_self) with h2|h2
    ·exact h2.symm
    ·have x1:=ht'.1 a h1;have x2:=hs'.1 b h2;have:=h.swap a b;omega
  subst hab;have irr:c a a=0:=h.refl a;rw[uU h hs'.2 ht'.2 fun x=>⟨fun hx=> ?_,fun hx=> ?_⟩]
  ·rcases List.mem_cons.1 ((e x).1 (List.mem_cons_of_mem _ hx)) with h1|h1
   ·subst h1;have:=hs'.1 x hx;omega
   ·exact h1
  ·rcases List.mem_cons.1 ((e x).2 (List.mem_cons_of_mem _ hx)) with h1|h1
   ·subst h1;have:=ht'.1 x hx;omega
   ·exact h1
theorem mJ (h:Three c):∀{l m:List α},l.Perm m→l.Pairwise (fun a b=>c a b≤0)→m.Pairwise (fun a b=>c a b≤0)→l=m
 |[],m,hp,_,_=>hp.nil_eq
 |a::l,[],hp,_,_=>by simpa using hp.length_eq
 |a::l,b::m,hp,hl,hm=>by
  have hl':=List.pairwise_cons.1 hl;have hm':=List.pairwise_cons.1 hm;have hab:a=b:=by
   rcases List.mem_cons.1 (hp.mem_iff.1 List.mem_cons_self) with h1|h1
   ·exact h1
   ·rcases List.mem_cons.1 (hp.mem_iff.2 (List.mem_cons_self (a:=b) (l:=m))) with h2|h2
    ·exact h2.symm
    ·exact h.anti (hl'.1 b h2) (hm'.1 a h1)
  subst hab;rw[mJ h (List.Perm.cons_inv hp) hl'.2 hm'.2]
def iU (c:α→α→Int) (l:List α):List α:=l.mergeSort fun a b=>decide (c a b≤0)
theorem cK (l:List α):(iU c l).Perm l:=List.mergeSort_perm _ _
theorem jW (h:Three c) (l:List α):(iU c l).Pairwise fun a b=>c a b≤0:=by
 have:=List.pairwise_mergeSort (le:=fun a b=>decide (c a b≤0)) (fun a b d h1 h2=>by
  simp only[decide_eq_true_eq] at*;exact h.le_trans h1 h2) (fun a b=>by
  simp only[Bool.or_eq_true,decide_eq_true_eq];have:=h.swap a b;omega) l
 exact this.imp fun h=>by simpa using h
theorem pX (h:Three c) {l m:List α} (hp:m.Perm l) (hs:m.Pairwise fun a b=>c a b≤0):m=iU c l:=
 mJ h (hp.trans (cK l).symm) hs (jW h l)
theorem wW (h:Three c) {l:List α} (hs:l.Pairwise fun a b=>c a b≤0) (hn:l.Nodup):l.Pairwise fun a b=>c a b<0:=
 (hs.and hn).imp fun {a b} ⟨h1,h2⟩=>by
  rcases Int.lt_or_eq_of_le h1 with h3|h3
  ·exact h3
  ·exact absurd (h.zero _ _ h3) h2
theorem wX (h:Three c) {l:List α} (hs:l.Pairwise fun a b=>c a b<0):l.Nodup:=hs.imp fun {a b} h1 e=>by
 subst e;rw[h.refl] at h1;omega
def pY (c:α→α→Int):List α→List α→Int
 |[],[]=>0
 |[],_::_=> -1
 |_::_,[]=>1
 |a::x,b::y=>if c a b≠0 then c a b else pY c x y
theorem wY (h:Three c):∀x y,pY c y x= -pY c x y
 |[],[]=>rfl
 |[],_::_=>rfl
 |_::_,[]=>rfl
 |a::x,b::y=>by
  have:=h.swap a b;simp only[pY]
  by_cases e:c a b=0
  ·rw[if_neg (by omega),if_neg (by omega)];exact wY h x y
  ·rw[if_pos (by omega),if_pos e];omega
theorem wZ (h:Three c):∀x y,pY c x y=0→x=y
 |[],[],_=>rfl
 |[],_::_,e=>by simp[pY] at e
 |_::_,[],e=>by simp[pY] at e
 |a::x,b::y,e=>by
  simp only[pY] at e
  by_cases e':c a b=0
  ·rw[if_neg (by omega)] at e;rw[h.zero _ _ e',wZ h x y e]
  ·rw[if_pos e'] at e;exact absurd e e'
theorem sZ (h:Three c):∀x y z,pY c x y<0→pY c y z<0→pY c x z<0
 |[],[],z,h1,_=>by simp[pY] at h1
 |[],_::_,[],_,h2=>by simp[pY] at h2
 |[],_::_,_::_,_,_=>by simp[pY]
 |_::_,[],_,h1,_=>by simp[pY] at h1
 |_::_,_::_,[],_,h2=>by simp[pY] at h2
 |a::x,b::y,d::z,h1,h2=>by
  simp only[pY] at h1 h2⊢
  by_cases e1:c a b=0
  ·rw[if_neg (by omega)] at h1;have:=h.zero _ _ e1;subst this
   by_cases e2:c a d=0
   ·rw[if_neg (by omega)] at h2⊢;exact sZ h x y z h1 h2
   ·rw[if_pos e2] at h2⊢;exact h2
  ·rw[if_pos e1] at h1
   by_cases e2:c b d=0
   ·have:=h.zero _ _ e2;subst this;rw[if_pos e1];exact h1
   ·rw[if_pos e2] at h2;have:=h.trans a b d h1 h2;rw[if_pos (by omega)];exact this
theorem Cn (h:Three c):Three (pY c):=⟨fun a b=>wY h a b,wZ h,sZ h⟩
def rZ (a b:aC):Int:=if iD a.1 b.1≠0 then iD a.1 b.1 else iD a.2 b.2
theorem gy:Three rZ where
 swap a b:=by
  have h1:=bG.swap a.1 b.1;have h2:=bG.swap a.2 b.2;unfold rZ
  by_cases e:iD a.1 b.1=0
  ·rw[if_neg (by omega),if_neg (by omega)];exact h2
  ·rw[if_pos (by omega),if_pos e];exact h1
 zero a b h:=by
  unfold rZ at h
  by_cases e:iD a.1 b.1=0
  ·rw[if_neg (by omega)] at h;have:=bG.zero _ _ e;have:=bG.zero _ _ h;obtain⟨a1,a2⟩:=a;obtain⟨b1,b2⟩:=b
   simp_all
  ·rw[if_pos e] at h;exact absurd h e
 trans a b d h k:=by
  unfold rZ at*
  by_cases e1:iD a.1 b.1=0
  ·rw[if_neg (by omega)] at h;rw[bG.zero _ _ e1]
   by_cases e2:iD b.1 d.1=0
   ·rw[if_neg (by omega)] at k⊢;exact bG.trans _ _ _ h k
   ·rw[if_pos e2] at k⊢;exact k
  ·rw[if_pos e1] at h
   by_cases e2:iD b.1 d.1=0
   ·rw[←bG.zero _ _ e2,if_pos e1];exact h
   ·rw[if_pos e2] at k;have:=bG.trans _ _ _ h k;rw[if_pos (by omega)];exact this
abbrev iB:List aC→List aC→Int:=pY rZ
theorem gL:Three iB:=Cn gy
abbrev jk (l:List aC):List aC:=iU rZ l
def lF (pick:Nat→List aj) (body:List aF):Option (List (List aC)):=match eu pick 0 body [[]] with
 |none=>none
 |some ms=>some (iU iB ((ms.filter fun l=> !barredB pick 0 body l).map jk))
def dV (K:List Bs) (ats:List aF):List Bs:=ats.foldl (fun K a=>if a.no then K else bR K a.terms) K
theorem iG (K:List Bs) (a:aF) (ats:List aF):dV K (a::ats)=dV (if a.no then K else bR K a.terms) ats:=rfl
theorem lU:∀(ats:List aF) (K:List Bs),∃r,dV K ats=K++r
 |[],K=>⟨[],by simp[dV]⟩
 |a::ats,K=>by
  rw[iG];split
  ·exact lU ats K
  ·obtain⟨r1,h1⟩:=jM a.terms K;obtain⟨r2,h2⟩:=lU ats (bR K a.terms);exact⟨r1++r2,by rw[h2,h1,List.append_assoc]⟩
theorem iX:∀(ats:List aF) {K:List Bs},K.Nodup→(dV K ats).Nodup
 |[],_,h=>h
 |a::ats,K,h=>by
  rw[iG];split
  ·exact iX ats h
  ·exact iX ats (jr _ h)
theorem dG:∀(ats:List aF) {K:List Bs} {v:Bs},v∈dV K ats↔v∈K∨∃a∈ats,a.no=false∧∃t∈a.terms,t.1=true∧t.2=v
 |[],K,v=>by simp[dV]
 |a::ats,K,v=>by
  rw[iG,dG ats];cases ha:a.no
  ·simp only[Bool.false_eq_true,if_false,gu,List.mem_cons,exists_eq_or_imp,ha,true_and,or_assoc]
  ·simp[ha]
theorem jv {a:aF} {fs:List aj} {ls:List (List aC)} {m:List aC}:m∈aK a fs ls↔∃l∈ls,∃f∈fs,dL a f l=some m:=by
 simp[aK,List.mem_flatMap,List.mem_filterMap]
theorem El {m:List aC} {K r:List Bs} (h:bD m=(K++r).map bs):bD (m.take K.length)=K.map bs:=by
 unfold bD at*;rw[List.map_take,h,List.map_append,List.take_append_of_le_length (by simp),List.take_of_length_le (by simp)]
theorem zG (pick:Nat→List aj):∀(ats:List aF) (n:Nat) (ls ms:List (List aC)) (K:List Bs),(∀l∈ls,bD l=K.map bs)→eu pick n ats ls=some ms→
  ∀m,m∈ms↔(∃l∈ls,∃r,m=l++r)∧bD m=(dV K ats).map bs∧∀i a,ats[i]?=some a→a.no=false→∃f∈pick (n+i),aQ a m=some f
 |[],n,ls,ms,K,hK,h,m=>by
  cases h
  constructor
  ·intro hm;exact⟨⟨m,hm,[],by simp⟩,hK m hm,fun i a h=>by simp at h⟩
  ·rintro⟨⟨l,hl,r,e⟩,hk,_⟩;have h1:=hK l hl;have:r=[]:=by
    have h2:(bD m).length=(bD l).length:=by rw[hk,h1];simp[dV]
    rw[e] at h2;simp[bD] at h2;exact h2
   rw[e,this];simpa using hl
 |a::ats,n,ls,ms,K,hK,h,m=>by
  simp only[eu] at h;rw[iG];have shift:(∀i b,(a::ats)[i]?=some b→b.no=false→∃f∈pick (n+i),aQ b m=some f)↔((a.no=false→∃f∈pick n,aQ a m=some f)∧∀i b,ats[i]?=some b→b.no=false→∃f∈pick (n+1+i),aQ b m=some f):=by
   constructor
   ·intro H;refine⟨H 0 a rfl,fun i b hb=> ?_⟩;have:=H (i+1) b (by simpa using hb)
    rwa [show n+(i+1)=n+1+i by omega] at this
   ·rintro⟨H0,H1⟩ i b hb;cases i with
    |zero=>simp at hb;subst hb;exact H0
    |succ i=>have:=H1 i b (by simpa using hb);rwa [show n+1+i=n+(i+1) by omega] at this
  rw[shift];cases ha:a.no
  ·rw[ha] at h;simp only[Bool.false_eq_true,if_false,true_imp_iff] at h⊢;split at h
   ·cases h
   ·have hK':∀l∈aK a (pick n) ls,bD l=(bR K a.terms).map bs:=fun l hl=>by
     obtain⟨l0,hl0,f,_,hm⟩:=jv.1 hl;exact(kW (hK l0 hl0) hm).2.1
    rw[zG pick ats (n+1) _ ms _ hK' h m]
    constructor
    ·rintro⟨⟨l',hl',r,e⟩,hk,hr⟩;obtain⟨l,hl,f,hf,hm⟩:=jv.1 hl';obtain⟨⟨r0,e0⟩,_,gU⟩:=kW (hK l hl) hm;exact⟨⟨l,hl,r0++r,by rw[e,e0,List.append_assoc]⟩,hk,⟨f,hf,by rw[e];exact kE gU⟩,hr⟩
    ·rintro⟨⟨l,hl,r,e⟩,hk,⟨f,hf,gU⟩,hr⟩;obtain⟨q,hq⟩:=lU ats (bR K a.terms);rw[hq] at hk;have hk1:=El hk;obtain⟨m1,hm1⟩:∃m1,m1=m.take (bR K a.terms).length:=⟨_,rfl⟩;rw[←hm1] at hk1;have hsplit:m=m1++m.drop (bR K a.terms).length:=by rw[hm1];exact(List.take_append_drop _ _).symm
     obtain⟨r0,hr0⟩:=jM a.terms K;have hll:l.length=K.length:=by
      have:=congrArg List.length (hK l hl);simpa[bD] using this
     have hpre:m1=l++r.take (r0.length):=by
      rw[hm1,e,hr0,List.length_append,←hll,List.take_length_add_append]
     have hf1:aQ a m1=some f:=by
      rw[←gU];refine jV fun t ht htv=> ?_;have hmem:bs t.2∈bD m1:=by
       rw[hk1];exact eO.2 ((gu _).2 (Or.inr ⟨t,ht,htv,rfl⟩))
      obtain⟨s,hs⟩:=jU hmem;rw[hsplit,fA,hs]
     refine⟨⟨m1,jv.2 ⟨l,hl,f,hf,Hr (hK l hl) hpre hk1 hf1⟩,_,hsplit⟩,by rw[hq];exact hk,hr⟩
  ·rw[ha] at h;simp only[if_true,Bool.true_eq_false,false_imp_iff,true_and] at h⊢;exact zG pick ats (n+1) ls ms K hK h m
def gM (fs:List aj) (at_:Int) (os:List aj):Nat→List aj:=fun n=>if(n:Int)=at_ then os else fs
end Go.Proofs.YtafmbokfkbccaaaGreatDoor
namespace Go.Proofs.YtafmbokfkbccaaaGreatDoor
theorem Bf {a:aF} {v:Bs}:v∈vars a↔∃t∈a.terms,t.1=true∧t.2=v:=by
 unfold vars;rw[gu];simp
def Covers (body:List aF):Prop:=∀a∈body,∀t∈a.terms,t.1=true→t.2∈dV [] body
theorem qb {body:List aF} (h:aL body=0):Covers body:=by
 unfold aL at h;split at h
 ·simp at h
 ·split at h
  ·split at h
   ·rename_i hall;intro a ha t ht htv;rw[List.all_eq_true] at hall;have h1:=hall a ha;rw[List.all_eq_true] at h1;have h2:=h1 t.2 (Bf.2 ⟨t,ht,htv,rfl⟩);unfold givenBy at h2;rw[List.any_eq_true] at h2;obtain⟨b,hb,h3⟩:=h2;simp only[Bool.and_eq_true,Bool.not_eq_true',List.contains_eq_mem,decide_eq_true_eq] at h3;refine(dG body).2 (Or.inr ⟨b,hb,h3.1,?_⟩);exact Bf.1 h3.2
   ·simp at h
  ·rename_i hne;exact absurd h hne
theorem lV (pick:Nat→List aj) (l:List aC):∀(ats:List aF) (n:Nat),barredB pick n ats l=true↔∃i a,ats[i]?=some a∧a.no=true∧∃f∈pick (n+i),aQ a l=some f
 |[],n=>by simp[barredB]
 |a::ats,n=>by
  simp only[barredB,Bool.or_eq_true,Bool.and_eq_true];rw[lV pick l ats (n+1)]
  constructor
  ·rintro(⟨h1,h2⟩|⟨i,b,hb,h1,f,hf,h2⟩)
   ·cases e:aQ a l with
    |none=>rw[e] at h2;cases h2
    |some f=>
     rw[e] at h2;exact⟨0,a,rfl,h1,f,aO.1 h2,e⟩
   ·exact⟨i+1,b,by simpa using hb,h1,f,by rwa [show n+(i+1)=n+1+i by omega],h2⟩
  ·rintro⟨i,b,hb,h1,f,hf,h2⟩;cases i with
   |zero=>
    simp at hb;subst hb;exact Or.inl ⟨h1,by rw[h2];exact aO.2 hf⟩
   |succ i=>exact Or.inr ⟨i,b,by simpa using hb,h1,f,by rwa [show n+1+i=n+(i+1) by omega],h2⟩
def SoB (pick:Nat→List aj) (body:List aF) (l:List aC):Prop:=∀i a,body[i]?=some a→∃f,aQ a l=some f∧inB (pick i) f= !a.no
theorem SoB.perm {pick:Nat→List aj} {body:List aF} {l m:List aC} (h:SoB pick body l) (hp:l.Perm m) (hn:(bD l).Nodup):SoB pick body m:=fun i a ha=>by
 obtain⟨f,h1,h2⟩:=h i a ha;exact⟨f,by rw[←sW hp hn];exact h1,h2⟩
theorem kF {β:Type} {l:List β} {i:Nat} {a:β} (h:l[i]?=some a):a∈l:=by
 obtain⟨hi,rfl⟩:=List.getElem?_eq_some_iff.1 h;exact List.getElem_mem hi
theorem Bg {pick:Nat→List aj} {body:List aF} (hc:Covers body) {ms:List (List aC)} (h:eu pick 0 body [[]]=some ms) (m:List aC):
  m∈ms.filter (fun l=> !barredB pick 0 body l)↔bD m=(dV [] body).map bs∧SoB pick body m:=by
 rw[List.mem_filter,zG pick body 0 [[]] ms [] (fun l hl=>by simp at hl;subst hl;rfl) h m];simp only[Bool.not_eq_true',Nat.zero_add]
 constructor
 ·rintro⟨⟨_,hk,hpos⟩,hb⟩;refine⟨hk,fun i a ha=> ?_⟩;cases hno:a.no
  ·obtain⟨f,hf,h1⟩:=hpos i a ha hno;exact⟨f,h1,by rw[aO.2 hf];rfl⟩
  ·obtain⟨f,hf⟩:=Cj (l:=m) (a:=a) fun t ht htv=>by
    rw[hk];exact eO.2 (hc a (kF ha) t ht htv)
   refine⟨f,hf,?_⟩;cases e:inB (pick i) f
   ·rfl
   ·have:barredB pick 0 body m=true:=(lV pick m body 0).2 ⟨i,a,ha,hno,f,by rw[Nat.zero_add];exact aO.1 e,hf⟩;rw[hb] at this;cases this
 ·rintro⟨hk,hso⟩;refine⟨⟨⟨[],by simp,m,by simp⟩,hk,fun i a ha hno=> ?_⟩,?_⟩
  ·obtain⟨f,h1,h2⟩:=hso i a ha;rw[hno] at h2;exact⟨f,aO.1 h2,h1⟩
  ·cases e:barredB pick 0 body m
   ·rfl
   ·obtain⟨i,a,ha,hno,f,hf,h1⟩:=(lV pick m body 0).1 e;obtain⟨g,h2,h3⟩:=hso i a ha;rw[h1] at h2;cases h2;rw[Nat.zero_add] at hf;rw[hno,aO.2 hf] at h3;cases h3
theorem keys_perm {l m:List aC} (h:l.Perm m):(bD l).Perm (bD m):=h.map _
theorem kG {m:List aC} (hn:(bD m).Nodup):(jk m).Pairwise fun a b=>rZ a b<0:=by
 refine wW gy (jW gy m) ?_;refine(cK m).nodup_iff.2 ?_;have:(m.map (·.1)).Nodup:=hn;rw[List.Nodup,List.pairwise_map] at this;exact this.imp fun h e=>h (by rw[e])
def iq (pick:Nat→List aj) (body:List aF) (r:List aC):Prop:=
 r.Pairwise (fun a b=>rZ a b<0)∧(bD r).Nodup∧(∀v,v∈bD r↔v∈(dV [] body).map bs)∧SoB pick body r
theorem mK (body:List aF):((dV [] body).map bs).Nodup:=oH (iX body List.nodup_nil)
theorem lW {pick:Nat→List aj} {body:List aF} (hc:Covers body) {R:List (List aC)} (h:lF pick body=some R) (r:List aC):r∈R↔iq pick body r:=by
 unfold lF at h;cases e:eu pick 0 body [[]] with
 |none=>rw[e] at h;cases h
 |some ms=>
  rw[e] at h;cases h;rw[(cK _).mem_iff,List.mem_map]
  constructor
  ·rintro⟨m,hm,rfl⟩;obtain⟨hk,hso⟩:=(Bg hc e m).1 hm;have hn:(bD m).Nodup:=by rw[hk];exact mK body
   have hp:=(cK (c:=rZ) m);refine⟨kG hn,(keys_perm hp).nodup_iff.2 hn,fun v=> ?_,hso.perm hp.symm hn⟩;rw[(keys_perm hp).mem_iff,hk]
  ·rintro⟨hr,hn,hv,hso⟩;obtain⟨m,hm⟩:∃m:List aC,m=(dV [] body).map fun k=>(bs k,(bT r (bs k)).getD ByteArray.empty):=⟨_,rfl⟩;have hk:bD m=(dV [] body).map bs:=by rw[hm];unfold bD;rw[List.map_map];rfl
   have hnm:(bD m).Nodup:=by rw[hk];exact mK body
   have hmem:∀x,x∈m↔x∈r:=fun x=>by
    constructor
    ·intro hx;rw[hm] at hx;obtain⟨k,hk,rfl⟩:=List.mem_map.1 hx;obtain⟨s,hs⟩:=jU ((hv (bs k)).2 (eO.2 hk));rw[hs];exact pF hs
    ·intro hx;have h1:x.1∈(dV [] body).map bs:=(hv x.1).1 (List.mem_map.2 ⟨x,hx,rfl⟩);obtain⟨k,hk,e⟩:=List.mem_map.1 h1;rw[hm];refine List.mem_map.2 ⟨k,hk,?_⟩;have:=pU (v:=x.1) (s:=x.2) hn hx;rw[e,this]
     rfl
   have hsm:jk m=r:=uU gy (kG hnm) hr fun x=>by rw[(cK m).mem_iff];exact hmem x
   refine⟨m,(Bg hc e m).2 ⟨hk,?_⟩,hsm⟩;have hp:r.Perm m:=by rw[←hsm];exact cK m
   exact hso.perm hp hn
theorem bZ {fs:List aj} {body:List aF} {l:List aC}:SoB (fun _=>fs) body l↔∀a∈body,∃f,aQ a l=some f∧inB fs f= !a.no:=by
 constructor
 ·intro h a ha;obtain⟨i,hi⟩:=List.getElem?_of_mem ha;exact h i a hi
 ·intro h i a ha;exact h a (kF ha)
end Go.Proofs.YtafmbokfkbccaaaGreatDoor
namespace Go.Proofs.YtafmbokfkbccaaaGreatDoor
abbrev Up (s:List aj):Prop:=s.Pairwise fun a b=>fM a b<0
def fC:List aj→List aj
 |[]=>[]
 |f::l=>if inB l f then fC l else f::fC l
theorem iY:∀{l:List aj} {f:aj},f∈fC l↔f∈l
 |[],f=>by simp[fC]
 |g::l,f=>by
  unfold fC;split
  ·rename_i h;rw[iY,List.mem_cons];exact⟨Or.inr,fun h'=>h'.elim (fun e=>by rw[e];exact aO.1 h) id⟩
  ·rw[List.mem_cons,List.mem_cons,iY]
theorem jd:∀(l:List aj),(fC l).Nodup
 |[]=>List.nodup_nil
 |g::l=>by
  unfold fC;split
  ·exact jd l
  ·rename_i h;exact List.nodup_cons.2 ⟨fun h'=>h (aO.2 (iY.1 h')),jd l⟩
theorem mM:∀(l:List aj),(fC l).length≤l.length
 |[]=>Nat.le_refl _
 |g::l=>by
  have:=mM l;unfold fC;split <;> simp <;> omega
def fO (l:List aj):List aj:=iU fM (fC l)
theorem bU {l:List aj} {f:aj}:f∈fO l↔f∈l:=by
 unfold fO;rw[(cK _).mem_iff,iY]
theorem gV (l:List aj):Up (fO l):=wW aM (jW aM _) ((cK _).nodup_iff.2 (jd l))
theorem Bh (l:List aj):(fO l).length≤l.length:=by
 unfold fO;rw[(cK _).length_eq];exact mM l
theorem Bj {s t:List aj} (hs:Up s) (ht:Up t) (h:∀f,f∈s↔f∈t):s=t:=uU aM hs ht h
theorem uV {s l:List aj} (hs:Up s) (h:∀f,f∈s↔f∈l):s=fO l:=Bj hs (gV l) fun f=>by rw[bU,h]
theorem oI {s:List aj} (hs:Up s):fO s=s:=(uV hs fun _=>Iff.rfl).symm
theorem Co {l m:List aj} (h:∀f,f∈l↔f∈m):fO l=fO m:=Bj (gV l) (gV m) fun f=>by rw[bU,bU,h]
theorem pG {s:List aj} (hs:Up s):s.Nodup:=wX aM hs
theorem qd:∀{s t:List aj},s.Nodup→(∀f∈s,f∈t)→s.length≤t.length
 |[],_,_,_=>Nat.zero_le _
 |a::s,t,hn,h=>by
  have hn':=List.nodup_cons.1 hn;obtain⟨t1,t2,rfl⟩:=List.append_of_mem (h a (by simp));have:=qd (t:=t1++t2) hn'.2 fun f hf=>by
   have h1:=h f (by simp[hf]);simp only[List.mem_append,List.mem_cons] at h1⊢;rcases h1 with h1|rfl|h1
   ·exact Or.inl h1
   ·exact absurd hf hn'.1
   ·exact Or.inr h1
  simp only[List.length_cons,List.length_append] at this⊢;omega
theorem sw {s t:List aj} (hs:Up s) (h:∀f∈s,f∈t):s.length≤t.length:=qd (pG hs) h
theorem zH {s t:List aj} (hs:Up s) (ht:Up t) (h:∀f∈s,f∈t) (e:t.length≤s.length):s=t:=by
 refine Bj hs ht fun f=>⟨h f,fun hf=>Classical.byContradiction fun hn=> ?_⟩;have:=qd (s:=f::s) (t:=t) (List.nodup_cons.2 ⟨hn,pG hs⟩) fun g hg=>by
  rcases List.mem_cons.1 hg with rfl|hg
  ·exact hf
  ·exact h g hg
 simp only[List.length_cons] at this;omega
def dM (r:aA) (fs:List aj):Option (List aj):=match lF (fun _=>fs) r.body with
 |none=>none
 |some R=>some (fO (R.filterMap fun l=>aQ r.head l))
def eP (n:Int) (fs:List aj):List aA→List Nat→List aj→Int×List aj
 |[],_,acc=>(0,fO acc)
 |_::_,[],acc=>(0,fO acc)
 |r::p,s::ss,acc=>if(s:Int)=n then
   match dM r fs with
   |none=>(4,[])
   |some x=>if 200<(fO (acc++x)).length then(5,[]) else eP n fs p ss (acc++x)
  else eP n fs p ss acc
def bV (p:List aA) (ss:List Nat) (n:Int) (fs:List aj):Int×List aj:=eP n fs p ss fs
def dH (p:List aA) (ss:List Nat) (n:Int):Nat→List aj→Int×List aj
 |0,l=>(0,l)
 |k+1,l=>if(bV p ss n l).1≠0 then((bV p ss n l).1,[]) else if(bV p ss n l).2.length=l.length then(0,(bV p ss n l).2) else dH p ss n k (bV p ss n l).2
def countP:List Nat→Nat
 |[]=>0
 |s::ss=>max (s+1) (countP ss)
theorem kH:∀{ss:List Nat} {s:Nat},s∈ss→s<countP ss
 |t::ss,s,h=>by
  unfold countP;rcases List.mem_cons.1 h with rfl|h
  ·omega
  ·have:=kH h;omega
theorem countP_congr {ss tt:List Nat} (h:∀s,s∈ss↔s∈tt):countP ss=countP tt:=by
 have key:∀{a b:List Nat},(∀s∈a,s∈b)→countP a≤countP b:=by
  intro a
  induction a with
  |nil=>intro b _;exact Nat.zero_le _
  |cons x a ih=>
   intro b hb;have h1:=ih fun s hs=>hb s (List.mem_cons_of_mem _ hs);have h2:=kH (hb x (by simp));show max (x+1) (countP a)≤countP b;omega
 exact Nat.le_antisymm (key fun s hs=>(h s).1 hs) (key fun s hs=>(h s).2 hs)
def gQ (p:List aA) (ss:List Nat):Nat→Nat→List aj→Int×List aj
 |0,_,l=>(0,l)
 |c+1,n,l=>if(dH p ss n 201 l).1≠0 then((dH p ss n 201 l).1,[]) else gQ p ss c (n+1) (dH p ss n 201 l).2
def sD (p:List aA) (f:aj):Bool:=p.all fun r=>(r.head::r.body).all fun a=> !decide (bs a.name=f.1)||decide (a.terms.length=f.2.length)
structure jw (r:aA):Prop where
 head:aN r.head=0
 yes:r.head.no=false
 body:aL r.body=0
 vars:(vars r.head).all (givenBy r.body)=true
def fJ (p:List aA):List aF:=p.flatMap fun r=>r.head::r.body
theorem uW (l q:List aF):∀m:fq,fitAll m (l++q)=if(fitAll m l).1 then fitAll (fitAll m l).2 q else fitAll m l:=by
 induction l with
 |nil=>intro m;simp[fitAll]
 |cons a l ih=>
  intro m
  by_cases h:(bY m a).1=true
  ·have h1:∀q,fitAll m (a::q)=fitAll (bY m a).2 q:=fun q=>by rw[fitAll,if_pos h]
   rw[List.cons_append,h1,h1,ih]
  ·have h1:∀q,fitAll m (a::q)=(false,(bY m a).2):=fun q=>by rw[fitAll,if_neg h]
   rw[List.cons_append,h1,h1];rfl
theorem jX (m:fq) (r:aA):(aU m r).1=0↔jw r∧(fitAll m (r.head::r.body)).1=true:=by
 unfold aU
 constructor
 ·intro h;split at h
  ·rename_i h1;split at h
   ·cases h
   ·rename_i h2;split at h
    ·rename_i h3;split at h
     ·rename_i h4;split at h
      ·rename_i h5;refine⟨⟨h1,by simpa using h2,h3,h4⟩,?_⟩;unfold fitAll;rw[if_pos h5];dsimp only at h;split at h
       ·assumption
       ·cases h
      ·cases h
     ·cases h
    ·rename_i h3;exact absurd h h3
  ·rename_i h1;exact absurd h h1
 ·rintro⟨⟨h1,h2,h3,h4⟩,h5⟩;unfold fitAll at h5;split at h5
  ·rename_i h6;rw[if_pos h1,if_neg (by simp[h2]),if_pos h3,if_pos h4,if_pos h6,if_pos h5]
  ·cases h5
theorem sF (m:fq) (r:aA) (h:(aU m r).1=0):(aU m r).2=(fitAll m (r.head::r.body)).2:=by
 obtain⟨⟨h1,h2,h3,h4⟩,h5⟩:=(jX m r).1 h;unfold fitAll at h5⊢;split at h5
 ·rename_i h6;unfold aU;rw[if_pos h1,if_neg (by simp[h2]),if_pos h3,if_pos h4,if_pos h6,if_pos h6]
 ·cases h5
theorem qg (p:List aA):∀(m:fq) (i:Nat),(iO m i p).1=0↔(∀r∈p,jw r)∧(fitAll m (fJ p)).1=true:=by
 induction p with
 |nil=>intro m i;simp[iO,fJ,fitAll]
 |cons r p ih=>
  intro m i;have ea:fJ (r::p)=(r.head::r.body)++fJ p:=rfl;rw[ea,uW];unfold iO
  by_cases h:(aU m r).1=0
  ·rw[if_pos h,ih,sF m r h];obtain⟨h1,h2⟩:=(jX m r).1 h;rw[if_pos h2];simp[h1]
  ·rw[if_neg h];refine⟨fun h'=>absurd h' h,fun⟨h1,h2⟩=> ?_⟩
   exfalso
   split at h2
   ·rename_i h3;exact h ((jX m r).2 ⟨h1 r (by simp),h3⟩)
   ·rename_i h3;exact h3 h2
def Even (l:List aF):Prop:=∀a∈l,∀b∈l,a.name=b.name→a.terms.length=b.terms.length
theorem tq (l:List aF):∀m:fq,(fitAll m l).1=true↔(∀a∈l,∀n,m a.name=some n→n=a.terms.length)∧Even l:=by
 induction l with
 |nil=>intro m;simp[fitAll,Even]
 |cons a l ih=>
  intro m;unfold fitAll;cases e:m a.name with
  |none=>
   have h1:bY m a=(true,m.put a.name a.terms.length):=by unfold bY;rw[e]
   rw[h1];simp only[if_true];rw[ih]
   constructor
   ·rintro⟨h2,h3⟩;have h4:∀b∈l,b.name=a.name→a.terms.length=b.terms.length:=fun b hb hn=>h2 b hb _ (by unfold fq.put;rw[if_pos hn]);refine⟨fun b hb n hn=> ?_,fun b hb c hc hbc=> ?_⟩
    ·rcases List.mem_cons.1 hb with rfl|hb
     ·rw[e] at hn;cases hn
     ·by_cases hne:b.name=a.name
      ·rw[hne,e] at hn;cases hn
      ·exact h2 b hb n (by unfold fq.put;rw[if_neg hne];exact hn)
    ·rcases List.mem_cons.1 hb with rfl|hb'
     ·rcases List.mem_cons.1 hc with rfl|hc
      ·rfl
      ·exact h4 c hc hbc.symm
     ·rcases List.mem_cons.1 hc with rfl|hc
      ·exact(h4 b hb' hbc).symm
      ·exact h3 b hb' c hc hbc
   ·rintro⟨h2,h3⟩;refine⟨fun b hb n hn=> ?_,fun b hb c hc=>h3 b (by simp[hb]) c (by simp[hc])⟩;unfold fq.put at hn;split at hn
    ·rename_i hne;cases hn;exact h3 a (by simp) b (by simp[hb]) hne.symm
    ·exact h2 b (by simp[hb]) n hn
  |some k=>
   have h1:bY m a=(decide (k=a.terms.length),m):=by unfold bY;rw[e]
   rw[h1]
   by_cases hk:k=a.terms.length
   ·simp only[hk,decide_true,if_true];rw[ih];have h4:(∀b∈l,∀n,m b.name=some n→n=b.terms.length)→∀b∈l,b.name=a.name→a.terms.length=b.terms.length:=fun h b hb hn=>h b hb _ (by rw[hn,e,hk])
    constructor
    ·rintro⟨h2,h3⟩;refine⟨fun b hb n hn=> ?_,fun b hb c hc hbc=> ?_⟩
     ·rcases List.mem_cons.1 hb with rfl|hb
      ·rw[e] at hn;cases hn;exact hk
      ·exact h2 b hb n hn
     ·rcases List.mem_cons.1 hb with rfl|hb'
      ·rcases List.mem_cons.1 hc with rfl|hc
       ·rfl
       ·exact h4 h2 c hc hbc.symm
      ·rcases List.mem_cons.1 hc with rfl|hc
       ·exact(h4 h2 b hb' hbc).symm
       ·exact h3 b hb' c hc hbc
    ·rintro⟨h2,h3⟩;exact⟨fun b hb=>h2 b (by simp[hb]),fun b hb c hc=>h3 b (by simp[hb]) c (by simp[hc])⟩
   ·simp only[hk,decide_false];refine⟨fun h=>by simp at h,fun⟨h2,_⟩=> ?_⟩;exact absurd (h2 a (by simp) k e) hk
structure cZ (p:List aA):Prop where
 few:p.length≤16
 rules:∀r∈p,jw r
 even:Even (fJ p)
theorem kX {p:List aA}:(gG p).1=0↔cZ p:=by
 unfold gG
 constructor
 ·intro h;split at h
  ·cases h
  ·rename_i h1;obtain⟨h2,h3⟩:=(qg p _ _).1 h;exact⟨by omega,h2,((tq _ _).1 h3).2⟩
 ·rintro⟨h1,h2,h3⟩;rw[if_neg (by omega)];exact(qg p _ _).2 ⟨h2,(tq _ _).2 ⟨fun _ _ _ h=>(by simp at h),h3⟩⟩
theorem cZ.turned {p:List aA} (h:cZ p):cZ p.reverse:=
 ⟨by rw[List.length_reverse];exact h.few,fun r hr=>h.rules r (List.mem_reverse.1 hr),fun a ha b hb=>h.even a (by simpa[fJ] using ha) b (by simpa[fJ] using hb)⟩
end Go.Proofs.YtafmbokfkbccaaaGreatDoor
