import Derived.Test.YtafmbokfkbccaaaGreatDoorJW1
namespace Go.Proofs.YtafmbokfkbccaaaGreatDoor
abbrev aC:=ByteArray×ByteArray
def bQ:List aC→ByteArray→Option ByteArray
 |[],_=>none
 |b::l,v=>if b.1=v then some b.2 else bQ l v
def bH (l:List aC):List ByteArray:=l.map (·.1)
theorem dZ (l m:List aC) (v:ByteArray):bQ (l++m) v=match bQ l v with|some s=>some s|none=>bQ m v:=by
 induction l with
 |nil=>rfl
 |cons b l ih=>
  simp only[List.cons_append,bQ];split
  ·rfl
  ·exact ih
theorem jf {l:List aC} {v:ByteArray}:bQ l v=none↔v∉bH l:=by
 induction l with
 |nil=>simp[bQ,bH]
 |cons b l ih=>
  simp only[bQ,bH,List.map_cons,List.mem_cons,not_or];split
  ·rename_i h;simp[h]
  ·rename_i h;rw[ih];exact⟨fun h'=>⟨fun e=>h e.symm,h'⟩,fun h'=>h'.2⟩
theorem pU {l:List aC} {v s:ByteArray} (h:bQ l v=some s):(v,s)∈l:=by
 induction l with
 |nil=>cases h
 |cons b l ih=>
  simp only[bQ] at h;split at h
  ·rename_i e;cases h;subst e;exact List.mem_cons_self
  ·exact List.mem_cons_of_mem _ (ih h)
theorem qy {l:List aC} (hn:(bH l).Nodup) {v s:ByteArray} (h:(v,s)∈l):bQ l v=some s:=by
 induction l with
 |nil=>cases h
 |cons b l ih=>
  have hn':b.1∉bH l∧(bH l).Nodup:=List.nodup_cons.1 hn;rcases List.mem_cons.1 h with e|h
  ·subst e;simp[bQ]
  ·have:b.1≠v:=fun e=>hn'.1 (by rw[e];exact List.mem_map.2 ⟨_,h,rfl⟩);simp only[bQ,if_neg this];exact ih hn'.2 h
theorem jU {l:List aC} {v:ByteArray} (h:v∈bH l):∃s,bQ l v=some s:=by
 cases e:bQ l v with
 |none=>exact absurd h (jf.1 e)
 |some s=>exact⟨s,rfl⟩
theorem EB {l m:List aC} (h:l.Perm m) (hn:(bH l).Nodup) (v:ByteArray):bQ l v=bQ m v:=by
 have hm:(bH m).Nodup:=(h.map _).nodup_iff.1 hn;cases e:bQ l v with
 |none=>exact(jf.2 fun hv=>jf.1 e ((h.map _).mem_iff.2 hv)).symm
 |some s=>exact(qy hm (h.mem_iff.1 (pU e))).symm
def aV (l:List aC) (t:cO):Option ByteArray:=if t.1 then bQ l (bs t.2) else some (bs t.2)
def aJ (l:List aC):List cO→Option (List ByteArray)
 |[]=>some []
 |t::ts=>match aV l t with
  |none=>none
  |some s=>match aJ l ts with
   |none=>none
   |some r=>some (s::r)
abbrev aj:=ByteArray×List ByteArray
def aR (a:aF) (l:List aC):Option aj:=match aJ l a.terms with
 |none=>none
 |some r=>some (bs a.name,r)
def dP (l:List aC):List cO→List ByteArray→Option (List aC)
 |[],_=>some l
 |_::_,[]=>none
 |t::ts,x::xs=>match aV l t with
  |none=>dP (l++[(bs t.2,x)]) ts xs
  |some s=>if s=x then dP l ts xs else none
def dH (a:aF) (f:aj) (l:List aC):Option (List aC):=
 if bs a.name=f.1∧a.terms.length=f.2.length then dP l a.terms f.2 else none
def aL (a:aF) (fs:List aj) (ls:List (List aC)):List (List aC):=ls.flatMap fun l=>fs.filterMap fun f=>dH a f l
def eH (pick:Nat→List aj):Nat→List aF→List (List aC)→Option (List (List aC))
 |_,[],ls=>some ls
 |n,a::ats,ls=>if a.no then eH pick (n+1) ats ls
  else if 20000<(aL a (pick n) ls).length then none
  else eH pick (n+1) ats (aL a (pick n) ls)
def inB (l:List aj) (f:aj):Bool:=l.any fun x=>decide (x=f)
theorem aN {l:List aj} {f:aj}:inB l f=true↔f∈l:=by
 unfold inB;rw[List.any_eq_true];exact⟨fun⟨x,hx,e⟩=>by rw[decide_eq_true_eq] at e;rw[←e];exact hx,fun h=>⟨f,h,by simp⟩⟩
def barredB (pick:Nat→List aj):Nat→List aF→List aC→Bool
 |_,[],_=>false
 |n,a::ats,l=>(a.no&&(match aR a l with|some f=>inB (pick n) f|none=>false))||barredB pick (n+1) ats l
theorem iZ {l m:List aC} {t:cO} {s:ByteArray} (h:aV l t=some s):aV (l++m) t=some s:=by
 unfold aV at*;split
 ·rename_i ht;rw[if_pos ht] at h;rw[dZ,h]
 ·rename_i ht;rw[if_neg ht] at h;exact h
theorem kH {l m:List aC}:∀{ts:List cO} {r:List ByteArray},aJ l ts=some r→aJ (l++m) ts=some r
 |[],r,h=>h
 |t::ts,r,h=>by
  simp only[aJ] at h⊢;cases e:aV l t with
  |none=>rw[e] at h;cases h
  |some s=>
   rw[e] at h;rw[iZ e];dsimp only at h⊢;cases e2:aJ l ts with
   |none=>rw[e2] at h;cases h
   |some q=>
    rw[e2] at h;rw[kH e2];exact h
theorem oO {l m:List aC} {a:aF} {f:aj} (h:aR a l=some f):aR a (l++m)=some f:=by
 unfold aR at*;cases e:aJ l a.terms with
 |none=>rw[e] at h;cases h
 |some r=>rw[e] at h;rw[kH e];exact h
theorem lI {l m:List aC}:∀{ts:List cO},(∀t∈ts,t.1=true→bQ l (bs t.2)=bQ m (bs t.2))→aJ l ts=aJ m ts
 |[],_=>rfl
 |t::ts,h=>by
  have e1:aV l t=aV m t:=by
   unfold aV;split
   ·rename_i ht;exact h t List.mem_cons_self ht
   ·rfl
  simp only[aJ];rw[e1,lI (ts:=ts) fun t ht=>h t (List.mem_cons_of_mem _ ht)]
theorem jV {l m:List aC} {a:aF} (h:∀t∈a.terms,t.1=true→bQ l (bs t.2)=bQ m (bs t.2)):aR a l=aR a m:=by
 unfold aR;rw[lI h]
theorem CF {l m:List aC} (h:l.Perm m) (hn:(bH l).Nodup) (a:aF):aR a l=aR a m:=jV fun _ _ _=>EB h hn _
theorem mO {l:List aC}:∀{ts:List cO},(∀t∈ts,t.1=true→bs t.2∈bH l)→∃r,aJ l ts=some r
 |[],_=>⟨[],rfl⟩
 |t::ts,h=>by
  obtain⟨r,hr⟩:=mO (ts:=ts) fun t ht=>h t (List.mem_cons_of_mem _ ht);have:∃s,aV l t=some s:=by
   unfold aV;split
   ·rename_i ht;exact jU (h t List.mem_cons_self ht)
   ·exact⟨_,rfl⟩
  obtain⟨s,hs⟩:=this;exact⟨s::r,by simp only[aJ,hs,hr]⟩
theorem CG {l:List aC} {a:aF} (h:∀t∈a.terms,t.1=true→bs t.2∈bH l):∃f,aR a l=some f:=by
 obtain⟨r,hr⟩:=mO h;exact⟨(bs a.name,r),by unfold aR;rw[hr]⟩
theorem jq {l:List aC}:∀{ts:List cO} {r:List ByteArray},aJ l ts=some r→r.length=ts.length
 |[],r,h=>by cases h;rfl
 |t::ts,r,h=>by
  simp only[aJ] at h;cases e:aV l t with
  |none=>rw[e] at h;cases h
  |some s=>
   rw[e] at h;dsimp only at h;cases e2:aJ l ts with
   |none=>rw[e2] at h;cases h
   |some q=>rw[e2] at h;cases h;simp[jq e2]
theorem CJ (K:List Bs) (s:Bs):∃r,eu K s=K++r:=by
 unfold eu;split
 ·exact⟨[],by simp⟩
 ·exact⟨[s],rfl⟩
theorem iH (K:List Bs) (t:cO) (ts:List cO):bR K (t::ts)=bR (if t.1 then eu K t.2 else K) ts:=rfl
theorem jJ:∀(ts:List cO) (K:List Bs),∃r,bR K ts=K++r
 |[],K=>⟨[],by simp[bR]⟩
 |t::ts,K=>by
  rw[iH];split
  ·obtain⟨r1,h1⟩:=CJ K t.2;obtain⟨r2,h2⟩:=jJ ts (eu K t.2);exact⟨r1++r2,by rw[h2,h1,List.append_assoc]⟩
  ·exact jJ ts K
theorem xQ {K:List Bs} (h:K.Nodup) (s:Bs):(eu K s).Nodup:=by
 unfold eu;split
 ·exact h
 ·rename_i hc;rw[List.nodup_append];refine⟨h,by simp,fun a ha b hb=> ?_⟩;simp at hb;subst hb;intro e;subst e;simp at hc;exact hc ha
theorem kI:∀(ts:List cO) {K:List Bs},K.Nodup→(bR K ts).Nodup
 |[],_,h=>h
 |t::ts,K,h=>by
  rw[iH];split
  ·exact kI ts (xQ h _)
  ·exact kI ts h
theorem CK {K:List Bs} {s v:Bs}:v∈eu K s↔v∈K∨v=s:=by
 unfold eu;split
 ·rename_i h;simp at h;exact⟨Or.inl,fun h'=>h'.elim id fun e=>by rw[e];exact h⟩
 ·simp
theorem gU:∀(ts:List cO) {K:List Bs} {v:Bs},v∈bR K ts↔v∈K∨∃t∈ts,t.1=true∧t.2=v
 |[],K,v=>by simp[bR]
 |t::ts,K,v=>by
  rw[iH,gU ts];cases ht:t.1
  ·simp[ht]
  ·simp only[if_true,CK,List.mem_cons,exists_eq_or_imp,ht,true_and]
   constructor
   ·rintro((h|h)|h)
    ·exact Or.inl h
    ·exact Or.inr (Or.inl h.symm)
    ·exact Or.inr (Or.inr h)
   ·rintro(h|h|h)
    ·exact Or.inl (Or.inl h)
    ·exact Or.inl (Or.inr h.symm)
    ·exact Or.inr h
theorem eX {K:List Bs} {v:Bs}:bs v∈K.map bs↔v∈K:=by
 constructor
 ·intro h;obtain⟨x,hx,e⟩:=List.mem_map.1 h;rw[←qj e];exact hx
 ·exact fun h=>List.mem_map.2 ⟨_,h,rfl⟩
theorem xR {K:List Bs} (h:K.Nodup):(K.map bs).Nodup:=by
 rw[List.Nodup,List.pairwise_map];exact h.imp fun hne e=>hne (qj e)
theorem qz:∀(ts:List cO) (xs:List ByteArray) (l m:List aC) (K:List Bs),ts.length=xs.length→bH l=K.map bs→dP l ts xs=some m→
  (∃r,m=l++r)∧bH m=(bR K ts).map bs∧aJ m ts=some xs
 |[],[],l,m,K,_,hk,h=>by
  cases h;exact⟨⟨[],by simp⟩,hk,rfl⟩
 |[],_::_,_,_,_,hl,_,_=>by simp at hl
 |_::_,[],_,_,_,hl,_,_=>by simp at hl
 |t::ts,x::xs,l,m,K,hl,hk,h=>by
  have hl':ts.length=xs.length:=by simpa using hl
  simp only[dP] at h;cases e:aV l t with
  |none=>
   rw[e] at h;dsimp only at h;have ht:t.1=true:=by
    unfold aV at e;split at e
    ·assumption
    ·cases e
   have hg:bQ l (bs t.2)=none:=by unfold aV at e;rwa [if_pos ht] at e
   have hnk:t.2∉K:=fun hm=>jf.1 hg (by rw[hk];exact eX.2 hm);have ha:eu K t.2=K++[t.2]:=by unfold eu;rw[if_neg (by simpa using hnk)]
   obtain⟨⟨r,hr⟩,h2,h3⟩:=qz ts xs (l++[(bs t.2,x)]) m (K++[t.2]) hl' (by simp[bH] at hk⊢;exact hk) h;refine⟨⟨(bs t.2,x)::r,by rw[hr];simp⟩,by rw[iH,if_pos ht,ha];exact h2,?_⟩;simp only[aJ];have hw:aV m t=some x:=by
    rw[hr];refine iZ ?_;unfold aV;rw[if_pos ht,dZ,hg];simp[bQ]
   rw[hw,h3]
  |some s=>
   rw[e] at h;dsimp only at h;split at h
   ·rename_i hs;subst hs;have hK:(if t.1=true then eu K t.2 else K)=K:=by
     split
     ·rename_i ht;unfold aV at e;rw[if_pos ht] at e;unfold eu;rw[if_pos];have:bs t.2∈bH l:=Classical.byContradiction fun hk=>by rw[jf.2 hk] at e;cases e
      rw[hk] at this;simpa using eX.1 this
     ·rfl
    obtain⟨⟨r,hr⟩,h2,h3⟩:=qz ts xs l m K hl' hk h;refine⟨⟨r,hr⟩,by rw[iH,hK];exact h2,?_⟩;simp only[aJ];rw[show aV m t=some s by rw[hr];exact iZ e,h3]
   ·cases h
theorem qA:∀(ts:List cO) (xs:List ByteArray) (l m r:List aC) (K:List Bs),bH l=K.map bs→m=l++r→bH m=(bR K ts).map bs→aJ m ts=some xs→dP l ts xs=some m
 |[],xs,l,m,r,K,hk,hm,hv,_=>by
  have e:r=[]:=by
   have h1:(bH m).length=(bH l).length:=by rw[hv,hk];simp[bR]
   rw[hm] at h1;simp[bH] at h1;exact h1
  rw[hm,e];simp[dP]
 |t::ts,xs,l,m,r,K,hk,hm,hv,hf=>by
  simp only[aJ] at hf;cases e:aV m t with
  |none=>rw[e] at hf;cases hf
  |some s=>
   rw[e] at hf;dsimp only at hf;cases e2:aJ m ts with
   |none=>rw[e2] at hf;cases hf
   |some q=>
    rw[e2] at hf;cases hf;rw[iH] at hv;simp only[dP];cases e3:aV l t with
    |some s'=>
     have:=iZ (m:=r) e3;rw[←hm,e] at this;cases this;dsimp only;rw[if_pos rfl];have hK:(if t.1=true then eu K t.2 else K)=K:=by
      split
      ·rename_i ht;unfold aV at e3;rw[if_pos ht] at e3;unfold eu;rw[if_pos];have:bs t.2∈bH l:=Classical.byContradiction fun hk=>by rw[jf.2 hk] at e3;cases e3
       rw[hk] at this;simpa using eX.1 this
      ·rfl
     rw[hK] at hv;exact qA ts q l m r K hk hm hv e2
    |none=>
     dsimp only;have ht:t.1=true:=by
      unfold aV at e3;split at e3
      ·assumption
      ·cases e3
     have hg:bQ l (bs t.2)=none:=by unfold aV at e3;rwa [if_pos ht] at e3
     have hnk:t.2∉K:=fun hm=>jf.1 hg (by rw[hk];exact eX.2 hm);have ha:eu K t.2=K++[t.2]:=by unfold eu;rw[if_neg (by simpa using hnk)]
     rw[if_pos ht,ha] at hv;obtain⟨q',hq'⟩:=jJ ts (K++[t.2]);have hkr:bH r=bs t.2::q'.map bs:=by
      have h1:=hv;rw[hq',hm] at h1;simp only[bH,List.map_append] at h1 hk⊢;rw[hk,List.append_assoc] at h1;simpa using List.append_cancel_left h1
     cases r with
     |nil=>simp[bH] at hkr
     |cons b r'=>
      have hb:b.1=bs t.2:=by simp[bH] at hkr;exact hkr.1
      have hbs:b.2=s:=by
       unfold aV at e;rw[if_pos ht,hm,dZ,hg] at e;simp only[bQ,hb,if_true] at e;exact Option.some.inj e
      have hbe:b=(bs t.2,s):=by rw[←hb,←hbs]
      subst hbe;exact qA ts q (l++[(bs t.2,s)]) m r' (K++[t.2]) (by simp[bH] at hk⊢;exact hk) (by rw[hm];simp) hv e2
theorem iy {a:aF} {f:aj} {l m:List aC} {K:List Bs} (hk:bH l=K.map bs) (h:dH a f l=some m):(∃r,m=l++r)∧bH m=(bR K a.terms).map bs∧aR a m=some f:=by
 unfold dH at h;split at h
 ·rename_i hc;obtain⟨h1,h2,h3⟩:=qz a.terms f.2 l m K hc.2 hk h;exact⟨h1,h2,by unfold aR;rw[h3,hc.1]⟩
 ·cases h
theorem Hg {a:aF} {f:aj} {l m r:List aC} {K:List Bs} (hk:bH l=K.map bs) (hm:m=l++r) (hv:bH m=(bR K a.terms).map bs) (hf:aR a m=some f):dH a f l=some m:=by
 unfold aR at hf;cases e:aJ m a.terms with
 |none=>rw[e] at hf;cases hf
 |some x=>
  rw[e] at hf;cases hf;unfold dH;rw[if_pos ⟨rfl,(jq e).symm⟩];exact qA a.terms x l m r K hk hm hv e
end Go.Proofs.YtafmbokfkbccaaaGreatDoor
namespace Go.Proofs.YtafmbokfkbccaaaGreatDoor
variable {α:Type} {c:α→α→Int}
theorem Three.le_trans (h:Three c) {a b d:α} (h1:c a b≤0) (h2:c b d≤0):c a d≤0:=by
 by_cases e1:c a b=0
 ·rw[h.zero _ _ e1];exact h2
 ·by_cases e2:c b d=0
  ·rw[←h.zero _ _ e2];exact h1
  ·have:=h.trans a b d (by omega) (by omega);omega
theorem Three.anti (h:Three c) {a b:α} (h1:c a b≤0) (h2:c b a≤0):a=b:=h.zero a b (by have:=h.swap a b;omega)
theorem vN (h:Three c):∀{s t:List α},s.Pairwise (fun a b=>c a b<0)→t.Pairwise (fun a b=>c a b<0)→(∀x,x∈s↔x∈t)→s=t
 |[],[],_,_,_=>rfl
 |[],b::t,_,_,e=>absurd ((e b).2 List.mem_cons_self) (by simp)
 |a::s,[],_,_,e=>absurd ((e a).1 List.mem_cons_self) (by simp)
 |a::s,b::t,hs,ht,e=>by
  have hs':=List.pairwise_cons.1 hs;have ht':=List.pairwise_cons.1 ht;have hab:a=b:=by
   rcases List.mem_cons.1 ((e a).1 List.mem_cons_self) with h1|h1
   ·exact h1
   ·rcases List.mem_cons.1 ((e b).2 List.mem_cons_self) with h2|h2
    ·exact h2.symm
    ·have x1:=ht'.1 a h1;have x2:=hs'.1 b h2;have:=h.swap a b;omega
  subst hab;have irr:c a a=0:=h.refl a;rw[vN h hs'.2 ht'.2 fun x=>⟨fun hx=> ?_,fun hx=> ?_⟩]
  ·rcases List.mem_cons.1 ((e x).1 (List.mem_cons_of_mem _ hx)) with h1|h1
   ·subst h1;have:=hs'.1 x hx;omega
   ·exact h1
  ·rcases List.mem_cons.1 ((e x).2 (List.mem_cons_of_mem _ hx)) with h1|h1
   ·subst h1;have:=ht'.1 x hx;omega
   ·exact h1
theorem mP (h:Three c):∀{l m:List α},l.Perm m→l.Pairwise (fun a b=>c a b≤0)→m.Pairwise (fun a b=>c a b≤0)→l=m
 |[],m,hp,_,_=>hp.nil_eq
 |a::l,[],hp,_,_=>by simpa using hp.length_eq
 |a::l,b::m,hp,hl,hm=>by
  have hl':=List.pairwise_cons.1 hl;have hm':=List.pairwise_cons.1 hm;have hab:a=b:=by
   rcases List.mem_cons.1 (hp.mem_iff.1 List.mem_cons_self) with h1|h1
   ·exact h1
   ·rcases List.mem_cons.1 (hp.mem_iff.2 (List.mem_cons_self (a:=b) (l:=m))) with h2|h2
    ·exact h2.symm
    ·exact h.anti (hl'.1 b h2) (hm'.1 a h1)
  subst hab;rw[mP h (List.Perm.cons_inv hp) hl'.2 hm'.2]
def iW (c:α→α→Int) (l:List α):List α:=l.mergeSort fun a b=>decide (c a b≤0)
theorem dG (l:List α):(iW c l).Perm l:=List.mergeSort_perm _ _
theorem jW (h:Three c) (l:List α):(iW c l).Pairwise fun a b=>c a b≤0:=by
 have:=List.pairwise_mergeSort (le:=fun a b=>decide (c a b≤0)) (fun a b d h1 h2=>by
  simp only[decide_eq_true_eq] at*;exact h.le_trans h1 h2) (fun a b=>by
  simp only[Bool.or_eq_true,decide_eq_true_eq];have:=h.swap a b;omega) l
 exact this.imp fun h=>by simpa using h
theorem qB (h:Three c) {l m:List α} (hp:m.Perm l) (hs:m.Pairwise fun a b=>c a b≤0):m=iW c l:=
 mP h (hp.trans (dG l).symm) hs (jW h l)
theorem xS (h:Three c) {l:List α} (hs:l.Pairwise fun a b=>c a b≤0) (hn:l.Nodup):l.Pairwise fun a b=>c a b<0:=
 (hs.and hn).imp fun {a b} ⟨h1,h2⟩=>by
  rcases Int.lt_or_eq_of_le h1 with h3|h3
  ·exact h3
  ·exact absurd (h.zero _ _ h3) h2
theorem xU (h:Three c) {l:List α} (hs:l.Pairwise fun a b=>c a b<0):l.Nodup:=hs.imp fun {a b} h1 e=>by
 subst e;rw[h.refl] at h1;omega
def qC (c:α→α→Int):List α→List α→Int
 |[],[]=>0
 |[],_::_=> -1
 |_::_,[]=>1
 |a::x,b::y=>if c a b≠0 then c a b else qC c x y
theorem xV (h:Three c):∀x y,qC c y x= -qC c x y
 |[],[]=>rfl
 |[],_::_=>rfl
 |_::_,[]=>rfl
 |a::x,b::y=>by
  have:=h.swap a b;simp only[qC]
  by_cases e:c a b=0
  ·rw[if_neg (by omega),if_neg (by omega)];exact xV h x y
  ·rw[if_pos (by omega),if_pos e];omega
theorem xW (h:Three c):∀x y,qC c x y=0→x=y
 |[],[],_=>rfl
 |[],_::_,e=>by simp[qC] at e
 |_::_,[],e=>by simp[qC] at e
 |a::x,b::y,e=>by
  simp only[qC] at e
  by_cases e':c a b=0
  ·rw[if_neg (by omega)] at e;rw[h.zero _ _ e',xW h x y e]
  ·rw[if_pos e'] at e;exact absurd e e'
theorem tX (h:Three c):∀x y z,qC c x y<0→qC c y z<0→qC c x z<0
 |[],[],z,h1,_=>by simp[qC] at h1
 |[],_::_,[],_,h2=>by simp[qC] at h2
 |[],_::_,_::_,_,_=>by simp[qC]
 |_::_,[],_,h1,_=>by simp[qC] at h1
 |_::_,_::_,[],_,h2=>by simp[qC] at h2
 |a::x,b::y,d::z,h1,h2=>by
  simp only[qC] at h1 h2⊢
  by_cases e1:c a b=0
  ·rw[if_neg (by omega)] at h1;have:=h.zero _ _ e1;subst this
   by_cases e2:c a d=0
   ·rw[if_neg (by omega)] at h2⊢;exact tX h x y z h1 h2
   ·rw[if_pos e2] at h2⊢;exact h2
  ·rw[if_pos e1] at h1
   by_cases e2:c b d=0
   ·have:=h.zero _ _ e2;subst this;rw[if_pos e1];exact h1
   ·rw[if_pos e2] at h2;have:=h.trans a b d h1 h2;rw[if_pos (by omega)];exact this
theorem CO (h:Three c):Three (qC c):=⟨fun a b=>xV h a b,xW h,tX h⟩
def sM (a b:aC):Int:=if iX a.1 b.1≠0 then iX a.1 b.1 else iX a.2 b.2
theorem gy:Three sM where
 swap a b:=by
  have h1:=bM.swap a.1 b.1;have h2:=bM.swap a.2 b.2;unfold sM
  by_cases e:iX a.1 b.1=0
  ·rw[if_neg (by omega),if_neg (by omega)];exact h2
  ·rw[if_pos (by omega),if_pos e];exact h1
 zero a b h:=by
  unfold sM at h
  by_cases e:iX a.1 b.1=0
  ·rw[if_neg (by omega)] at h;have:=bM.zero _ _ e;have:=bM.zero _ _ h;obtain⟨a1,a2⟩:=a;obtain⟨b1,b2⟩:=b
   simp_all
  ·rw[if_pos e] at h;exact absurd h e
 trans a b d h k:=by
  unfold sM at*
  by_cases e1:iX a.1 b.1=0
  ·rw[if_neg (by omega)] at h;rw[bM.zero _ _ e1]
   by_cases e2:iX b.1 d.1=0
   ·rw[if_neg (by omega)] at k⊢;exact bM.trans _ _ _ h k
   ·rw[if_pos e2] at k⊢;exact k
  ·rw[if_pos e1] at h
   by_cases e2:iX b.1 d.1=0
   ·rw[←bM.zero _ _ e2,if_pos e1];exact h
   ·rw[if_pos e2] at k;have:=bM.trans _ _ _ h k;rw[if_pos (by omega)];exact this
abbrev iI:List aC→List aC→Int:=qC sM
theorem gP:Three iI:=CO gy
abbrev jK (l:List aC):List aC:=iW sM l
def lW (pick:Nat→List aj) (body:List aF):Option (List (List aC)):=match eH pick 0 body [[]] with
 |none=>none
 |some ms=>some (iW iI ((ms.filter fun l=> !barredB pick 0 body l).map jK))
def dS (K:List Bs) (ats:List aF):List Bs:=ats.foldl (fun K a=>if a.no then K else bR K a.terms) K
theorem iN (K:List Bs) (a:aF) (ats:List aF):dS K (a::ats)=dS (if a.no then K else bR K a.terms) ats:=rfl
theorem lX:∀(ats:List aF) (K:List Bs),∃r,dS K ats=K++r
 |[],K=>⟨[],by simp[dS]⟩
 |a::ats,K=>by
  rw[iN];split
  ·exact lX ats K
  ·obtain⟨r1,h1⟩:=jJ a.terms K;obtain⟨r2,h2⟩:=lX ats (bR K a.terms);exact⟨r1++r2,by rw[h2,h1,List.append_assoc]⟩
theorem jX:∀(ats:List aF) {K:List Bs},K.Nodup→(dS K ats).Nodup
 |[],_,h=>h
 |a::ats,K,h=>by
  rw[iN];split
  ·exact jX ats h
  ·exact jX ats (kI _ h)
theorem gQ:∀(ats:List aF) {K:List Bs} {v:Bs},v∈dS K ats↔v∈K∨∃a∈ats,a.no=false∧∃t∈a.terms,t.1=true∧t.2=v
 |[],K,v=>by simp[dS]
 |a::ats,K,v=>by
  rw[iN,gQ ats];cases ha:a.no
  ·simp only[Bool.false_eq_true,if_false,gU,List.mem_cons,exists_eq_or_imp,ha,true_and,or_assoc]
  ·simp[ha]
theorem jr {a:aF} {fs:List aj} {ls:List (List aC)} {m:List aC}:m∈aL a fs ls↔∃l∈ls,∃f∈fs,dH a f l=some m:=by
 simp[aL,List.mem_flatMap,List.mem_filterMap]
theorem EC {m:List aC} {K r:List Bs} (h:bH m=(K++r).map bs):bH (m.take K.length)=K.map bs:=by
 unfold bH at*;rw[List.map_take,h,List.map_append,List.take_append_of_le_length (by simp),List.take_of_length_le (by simp)]
theorem Ac (pick:Nat→List aj):∀(ats:List aF) (n:Nat) (ls ms:List (List aC)) (K:List Bs),(∀l∈ls,bH l=K.map bs)→eH pick n ats ls=some ms→
  ∀m,m∈ms↔(∃l∈ls,∃r,m=l++r)∧bH m=(dS K ats).map bs∧∀i a,ats[i]?=some a→a.no=false→∃f∈pick (n+i),aR a m=some f
 |[],n,ls,ms,K,hK,h,m=>by
  cases h
  constructor
  ·intro hm;exact⟨⟨m,hm,[],by simp⟩,hK m hm,fun i a h=>by simp at h⟩
  ·rintro⟨⟨l,hl,r,e⟩,hk,_⟩;have h1:=hK l hl;have:r=[]:=by
    have h2:(bH m).length=(bH l).length:=by rw[hk,h1];simp[dS]
    rw[e] at h2;simp[bH] at h2;exact h2
   rw[e,this];simpa using hl
 |a::ats,n,ls,ms,K,hK,h,m=>by
  simp only[eH] at h;rw[iN];have shift:(∀i b,(a::ats)[i]?=some b→b.no=false→∃f∈pick (n+i),aR b m=some f)↔((a.no=false→∃f∈pick n,aR a m=some f)∧∀i b,ats[i]?=some b→b.no=false→∃f∈pick (n+1+i),aR b m=some f):=by
   constructor
   ·intro H;refine⟨H 0 a rfl,fun i b hb=> ?_⟩;have:=H (i+1) b (by simpa using hb)
    rwa [show n+(i+1)=n+1+i by omega] at this
   ·rintro⟨H0,H1⟩ i b hb;cases i with
    |zero=>simp at hb;subst hb;exact H0
    |succ i=>have:=H1 i b (by simpa using hb);rwa [show n+1+i=n+(i+1) by omega] at this
  rw[shift];cases ha:a.no
  ·rw[ha] at h;simp only[Bool.false_eq_true,if_false,true_imp_iff] at h⊢;split at h
   ·cases h
   ·have hK':∀l∈aL a (pick n) ls,bH l=(bR K a.terms).map bs:=fun l hl=>by
     obtain⟨l0,hl0,f,_,hm⟩:=jr.1 hl;exact(iy (hK l0 hl0) hm).2.1
    rw[Ac pick ats (n+1) _ ms _ hK' h m]
    constructor
    ·rintro⟨⟨l',hl',r,e⟩,hk,hr⟩;obtain⟨l,hl,f,hf,hm⟩:=jr.1 hl';obtain⟨⟨r0,e0⟩,_,iJ⟩:=iy (hK l hl) hm;exact⟨⟨l,hl,r0++r,by rw[e,e0,List.append_assoc]⟩,hk,⟨f,hf,by rw[e];exact oO iJ⟩,hr⟩
    ·rintro⟨⟨l,hl,r,e⟩,hk,⟨f,hf,iJ⟩,hr⟩;obtain⟨q,hq⟩:=lX ats (bR K a.terms);rw[hq] at hk;have hk1:=EC hk;obtain⟨m1,hm1⟩:∃m1,m1=m.take (bR K a.terms).length:=⟨_,rfl⟩;rw[←hm1] at hk1;have hsplit:m=m1++m.drop (bR K a.terms).length:=by rw[hm1];exact(List.take_append_drop _ _).symm
     obtain⟨r0,hr0⟩:=jJ a.terms K;have hll:l.length=K.length:=by
      have:=congrArg List.length (hK l hl);simpa[bH] using this
     have hpre:m1=l++r.take (r0.length):=by
      rw[hm1,e,hr0,List.length_append,←hll,List.take_length_add_append]
     have hf1:aR a m1=some f:=by
      rw[←iJ];refine jV fun t ht htv=> ?_;have hmem:bs t.2∈bH m1:=by
       rw[hk1];exact eX.2 ((gU _).2 (Or.inr ⟨t,ht,htv,rfl⟩))
      obtain⟨s,hs⟩:=jU hmem;rw[hsplit,dZ,hs]
     refine⟨⟨m1,jr.2 ⟨l,hl,f,hf,Hg (hK l hl) hpre hk1 hf1⟩,_,hsplit⟩,by rw[hq];exact hk,hr⟩
  ·rw[ha] at h;simp only[if_true,Bool.true_eq_false,false_imp_iff,true_and] at h⊢;exact Ac pick ats (n+1) ls ms K hK h m
def gT (fs:List aj) (at_:Int) (os:List aj):Nat→List aj:=fun n=>if(n:Int)=at_ then os else fs
end Go.Proofs.YtafmbokfkbccaaaGreatDoor
namespace Go.Proofs.YtafmbokfkbccaaaGreatDoor
theorem Bu {a:aF} {v:Bs}:v∈vars a↔∃t∈a.terms,t.1=true∧t.2=v:=by
 unfold vars;rw[gU];simp
def Covers (body:List aF):Prop:=∀a∈body,∀t∈a.terms,t.1=true→t.2∈dS [] body
theorem qD {body:List aF} (h:aM body=0):Covers body:=by
 unfold aM at h;split at h
 ·simp at h
 ·split at h
  ·split at h
   ·rename_i hall;intro a ha t ht htv;rw[List.all_eq_true] at hall;have h1:=hall a ha;rw[List.all_eq_true] at h1;have h2:=h1 t.2 (Bu.2 ⟨t,ht,htv,rfl⟩);unfold givenBy at h2;rw[List.any_eq_true] at h2;obtain⟨b,hb,h3⟩:=h2;simp only[Bool.and_eq_true,Bool.not_eq_true',List.contains_eq_mem,decide_eq_true_eq] at h3;refine(gQ body).2 (Or.inr ⟨b,hb,h3.1,?_⟩);exact Bu.1 h3.2
   ·simp at h
  ·rename_i hne;exact absurd h hne
theorem lY (pick:Nat→List aj) (l:List aC):∀(ats:List aF) (n:Nat),barredB pick n ats l=true↔∃i a,ats[i]?=some a∧a.no=true∧∃f∈pick (n+i),aR a l=some f
 |[],n=>by simp[barredB]
 |a::ats,n=>by
  simp only[barredB,Bool.or_eq_true,Bool.and_eq_true];rw[lY pick l ats (n+1)]
  constructor
  ·rintro(⟨h1,h2⟩|⟨i,b,hb,h1,f,hf,h2⟩)
   ·cases e:aR a l with
    |none=>rw[e] at h2;cases h2
    |some f=>
     rw[e] at h2;exact⟨0,a,rfl,h1,f,aN.1 h2,e⟩
   ·exact⟨i+1,b,by simpa using hb,h1,f,by rwa [show n+(i+1)=n+1+i by omega],h2⟩
  ·rintro⟨i,b,hb,h1,f,hf,h2⟩;cases i with
   |zero=>
    simp at hb;subst hb;exact Or.inl ⟨h1,by rw[h2];exact aN.2 hf⟩
   |succ i=>exact Or.inr ⟨i,b,by simpa using hb,h1,f,by rwa [show n+1+i=n+(i+1) by omega],h2⟩
def SoB (pick:Nat→List aj) (body:List aF) (l:List aC):Prop:=∀i a,body[i]?=some a→∃f,aR a l=some f∧inB (pick i) f= !a.no
theorem SoB.perm {pick:Nat→List aj} {body:List aF} {l m:List aC} (h:SoB pick body l) (hp:l.Perm m) (hn:(bH l).Nodup):SoB pick body m:=fun i a ha=>by
 obtain⟨f,h1,h2⟩:=h i a ha;exact⟨f,by rw[←CF hp hn];exact h1,h2⟩
theorem kJ {β:Type} {l:List β} {i:Nat} {a:β} (h:l[i]?=some a):a∈l:=by
 obtain⟨hi,rfl⟩:=List.getElem?_eq_some_iff.1 h;exact List.getElem_mem hi
theorem Bv {pick:Nat→List aj} {body:List aF} (hc:Covers body) {ms:List (List aC)} (h:eH pick 0 body [[]]=some ms) (m:List aC):
  m∈ms.filter (fun l=> !barredB pick 0 body l)↔bH m=(dS [] body).map bs∧SoB pick body m:=by
 rw[List.mem_filter,Ac pick body 0 [[]] ms [] (fun l hl=>by simp at hl;subst hl;rfl) h m];simp only[Bool.not_eq_true',Nat.zero_add]
 constructor
 ·rintro⟨⟨_,hk,hpos⟩,hb⟩;refine⟨hk,fun i a ha=> ?_⟩;cases hno:a.no
  ·obtain⟨f,hf,h1⟩:=hpos i a ha hno;exact⟨f,h1,by rw[aN.2 hf];rfl⟩
  ·obtain⟨f,hf⟩:=CG (l:=m) (a:=a) fun t ht htv=>by
    rw[hk];exact eX.2 (hc a (kJ ha) t ht htv)
   refine⟨f,hf,?_⟩;cases e:inB (pick i) f
   ·rfl
   ·have:barredB pick 0 body m=true:=(lY pick m body 0).2 ⟨i,a,ha,hno,f,by rw[Nat.zero_add];exact aN.1 e,hf⟩;rw[hb] at this;cases this
 ·rintro⟨hk,hso⟩;refine⟨⟨⟨[],by simp,m,by simp⟩,hk,fun i a ha hno=> ?_⟩,?_⟩
  ·obtain⟨f,h1,h2⟩:=hso i a ha;rw[hno] at h2;exact⟨f,aN.1 h2,h1⟩
  ·cases e:barredB pick 0 body m
   ·rfl
   ·obtain⟨i,a,ha,hno,f,hf,h1⟩:=(lY pick m body 0).1 e;obtain⟨g,h2,h3⟩:=hso i a ha;rw[h1] at h2;cases h2;rw[Nat.zero_add] at hf;rw[hno,aN.2 hf] at h3;cases h3
theorem keys_perm {l m:List aC} (h:l.Perm m):(bH l).Perm (bH m):=h.map _
theorem oP {m:List aC} (hn:(bH m).Nodup):(jK m).Pairwise fun a b=>sM a b<0:=by
 refine xS gy (jW gy m) ?_;refine(dG m).nodup_iff.2 ?_;have:(m.map (·.1)).Nodup:=hn;rw[List.Nodup,List.pairwise_map] at this;exact this.imp fun h e=>h (by rw[e])
def iU (pick:Nat→List aj) (body:List aF) (r:List aC):Prop:=
 r.Pairwise (fun a b=>sM a b<0)∧(bH r).Nodup∧(∀v,v∈bH r↔v∈(dS [] body).map bs)∧SoB pick body r
theorem mQ (body:List aF):((dS [] body).map bs).Nodup:=xR (jX body List.nodup_nil)
theorem lZ {pick:Nat→List aj} {body:List aF} (hc:Covers body) {R:List (List aC)} (h:lW pick body=some R) (r:List aC):r∈R↔iU pick body r:=by
 unfold lW at h;cases e:eH pick 0 body [[]] with
 |none=>rw[e] at h;cases h
 |some ms=>
  rw[e] at h;cases h;rw[(dG _).mem_iff,List.mem_map]
  constructor
  ·rintro⟨m,hm,rfl⟩;obtain⟨hk,hso⟩:=(Bv hc e m).1 hm;have hn:(bH m).Nodup:=by rw[hk];exact mQ body
   have hp:=(dG (c:=sM) m);refine⟨oP hn,(keys_perm hp).nodup_iff.2 hn,fun v=> ?_,hso.perm hp.symm hn⟩;rw[(keys_perm hp).mem_iff,hk]
  ·rintro⟨hr,hn,hv,hso⟩;obtain⟨m,hm⟩:∃m:List aC,m=(dS [] body).map fun k=>(bs k,(bQ r (bs k)).getD ByteArray.empty):=⟨_,rfl⟩;have hk:bH m=(dS [] body).map bs:=by rw[hm];unfold bH;rw[List.map_map];rfl
   have hnm:(bH m).Nodup:=by rw[hk];exact mQ body
   have hmem:∀x,x∈m↔x∈r:=fun x=>by
    constructor
    ·intro hx;rw[hm] at hx;obtain⟨k,hk,rfl⟩:=List.mem_map.1 hx;obtain⟨s,hs⟩:=jU ((hv (bs k)).2 (eX.2 hk));rw[hs];exact pU hs
    ·intro hx;have h1:x.1∈(dS [] body).map bs:=(hv x.1).1 (List.mem_map.2 ⟨x,hx,rfl⟩);obtain⟨k,hk,e⟩:=List.mem_map.1 h1;rw[hm];refine List.mem_map.2 ⟨k,hk,?_⟩;have:=qy (v:=x.1) (s:=x.2) hn hx;rw[e,this]
     rfl
   have hsm:jK m=r:=vN gy (oP hnm) hr fun x=>by rw[(dG m).mem_iff];exact hmem x
   refine⟨m,(Bv hc e m).2 ⟨hk,?_⟩,hsm⟩;have hp:r.Perm m:=by rw[←hsm];exact dG m
   exact hso.perm hp hn
theorem cZ {fs:List aj} {body:List aF} {l:List aC}:SoB (fun _=>fs) body l↔∀a∈body,∃f,aR a l=some f∧inB fs f= !a.no:=by
 constructor
 ·intro h a ha;obtain⟨i,hi⟩:=List.getElem?_of_mem ha;exact h i a hi
 ·intro h i a ha;exact h a (kJ ha)
end Go.Proofs.YtafmbokfkbccaaaGreatDoor
namespace Go.Proofs.YtafmbokfkbccaaaGreatDoor
abbrev Up (s:List aj):Prop:=s.Pairwise fun a b=>gu a b<0
def fH:List aj→List aj
 |[]=>[]
 |f::l=>if inB l f then fH l else f::fH l
theorem jc:∀{l:List aj} {f:aj},f∈fH l↔f∈l
 |[],f=>by simp[fH]
 |g::l,f=>by
  unfold fH;split
  ·rename_i h;rw[jc,List.mem_cons];exact⟨Or.inr,fun h'=>h'.elim (fun e=>by rw[e];exact aN.1 h) id⟩
  ·rw[List.mem_cons,List.mem_cons,jc]
theorem jg:∀(l:List aj),(fH l).Nodup
 |[]=>List.nodup_nil
 |g::l=>by
  unfold fH;split
  ·exact jg l
  ·rename_i h;exact List.nodup_cons.2 ⟨fun h'=>h (aN.2 (jc.1 h')),jg l⟩
theorem mR:∀(l:List aj),(fH l).length≤l.length
 |[]=>Nat.le_refl _
 |g::l=>by
  have:=mR l;unfold fH;split <;> simp <;> omega
def eY (l:List aj):List aj:=iW gu (fH l)
theorem bO {l:List aj} {f:aj}:f∈eY l↔f∈l:=by
 unfold eY;rw[(dG _).mem_iff,jc]
theorem gF (l:List aj):Up (eY l):=xS aQ (jW aQ _) ((dG _).nodup_iff.2 (jg l))
theorem mU (l:List aj):(eY l).length≤l.length:=by
 unfold eY;rw[(dG _).length_eq];exact mR l
theorem Bw {s t:List aj} (hs:Up s) (ht:Up t) (h:∀f,f∈s↔f∈t):s=t:=vN aQ hs ht h
theorem nR {s l:List aj} (hs:Up s) (h:∀f,f∈s↔f∈l):s=eY l:=Bw hs (gF l) fun f=>by rw[bO,h]
theorem oQ {s:List aj} (hs:Up s):eY s=s:=(nR hs fun _=>Iff.rfl).symm
theorem CP {l m:List aj} (h:∀f,f∈l↔f∈m):eY l=eY m:=Bw (gF l) (gF m) fun f=>by rw[bO,bO,h]
theorem pV {s:List aj} (hs:Up s):s.Nodup:=xU aQ hs
theorem qE:∀{s t:List aj},s.Nodup→(∀f∈s,f∈t)→s.length≤t.length
 |[],_,_,_=>Nat.zero_le _
 |a::s,t,hn,h=>by
  have hn':=List.nodup_cons.1 hn;obtain⟨t1,t2,rfl⟩:=List.append_of_mem (h a (by simp));have:=qE (t:=t1++t2) hn'.2 fun f hf=>by
   have h1:=h f (by simp[hf]);simp only[List.mem_append,List.mem_cons] at h1⊢;rcases h1 with h1|rfl|h1
   ·exact Or.inl h1
   ·exact absurd hf hn'.1
   ·exact Or.inr h1
  simp only[List.length_cons,List.length_append] at this⊢;omega
theorem sQ {s t:List aj} (hs:Up s) (h:∀f∈s,f∈t):s.length≤t.length:=qE (pV hs) h
theorem Ad {s t:List aj} (hs:Up s) (ht:Up t) (h:∀f∈s,f∈t) (e:t.length≤s.length):s=t:=by
 refine Bw hs ht fun f=>⟨h f,fun hf=>Classical.byContradiction fun hn=> ?_⟩;have:=qE (s:=f::s) (t:=t) (List.nodup_cons.2 ⟨hn,pV hs⟩) fun g hg=>by
  rcases List.mem_cons.1 hg with rfl|hg
  ·exact hf
  ·exact h g hg
 simp only[List.length_cons] at this;omega
def dX (r:aA) (fs:List aj):Option (List aj):=match lW (fun _=>fs) r.body with
 |none=>none
 |some R=>some (eY (R.filterMap fun l=>aR r.head l))
def eZ (n:Int) (fs:List aj):List aA→List Nat→List aj→Int×List aj
 |[],_,acc=>(0,eY acc)
 |_::_,[],acc=>(0,eY acc)
 |r::p,s::ss,acc=>if(s:Int)=n then
   match dX r fs with
   |none=>(4,[])
   |some x=>if 200<(eY (acc++x)).length then(5,[]) else eZ n fs p ss (acc++x)
  else eZ n fs p ss acc
def bT (p:List aA) (ss:List Nat) (n:Int) (fs:List aj):Int×List aj:=eZ n fs p ss fs
def dI (p:List aA) (ss:List Nat) (n:Int):Nat→List aj→Int×List aj
 |0,l=>(0,l)
 |k+1,l=>if(bT p ss n l).1≠0 then((bT p ss n l).1,[]) else if(bT p ss n l).2.length=l.length then(0,(bT p ss n l).2) else dI p ss n k (bT p ss n l).2
def countP:List Nat→Nat
 |[]=>0
 |s::ss=>max (s+1) (countP ss)
theorem mV:∀{ss:List Nat} {s:Nat},s∈ss→s<countP ss
 |t::ss,s,h=>by
  unfold countP;rcases List.mem_cons.1 h with rfl|h
  ·omega
  ·have:=mV h;omega
theorem countP_congr {ss tt:List Nat} (h:∀s,s∈ss↔s∈tt):countP ss=countP tt:=by
 have key:∀{a b:List Nat},(∀s∈a,s∈b)→countP a≤countP b:=by
  intro a
  induction a with
  |nil=>intro b _;exact Nat.zero_le _
  |cons x a ih=>
   intro b hb;have h1:=ih fun s hs=>hb s (List.mem_cons_of_mem _ hs);have h2:=mV (hb x (by simp));show max (x+1) (countP a)≤countP b;omega
 exact Nat.le_antisymm (key fun s hs=>(h s).1 hs) (key fun s hs=>(h s).2 hs)
def gZ (p:List aA) (ss:List Nat):Nat→Nat→List aj→Int×List aj
 |0,_,l=>(0,l)
 |c+1,n,l=>if(dI p ss n 201 l).1≠0 then((dI p ss n 201 l).1,[]) else gZ p ss c (n+1) (dI p ss n 201 l).2
def sS (p:List aA) (f:aj):Bool:=p.all fun r=>(r.head::r.body).all fun a=> !decide (bs a.name=f.1)||decide (a.terms.length=f.2.length)
structure kK (r:aA):Prop where
 head:aO r.head=0
 yes:r.head.no=false
 body:aM r.body=0
 vars:(vars r.head).all (givenBy r.body)=true
def fM (p:List aA):List aF:=p.flatMap fun r=>r.head::r.body
theorem vO (l q:List aF):∀m:fC,fitAll m (l++q)=if(fitAll m l).1 then fitAll (fitAll m l).2 q else fitAll m l:=by
 induction l with
 |nil=>intro m;simp[fitAll]
 |cons a l ih=>
  intro m
  by_cases h:(bV m a).1=true
  ·have h1:∀q,fitAll m (a::q)=fitAll (bV m a).2 q:=fun q=>by rw[fitAll,if_pos h]
   rw[List.cons_append,h1,h1,ih]
  ·have h1:∀q,fitAll m (a::q)=(false,(bV m a).2):=fun q=>by rw[fitAll,if_neg h]
   rw[List.cons_append,h1,h1];rfl
theorem jY (m:fC) (r:aA):(aU m r).1=0↔kK r∧(fitAll m (r.head::r.body)).1=true:=by
 unfold aU
 constructor
 ·intro h;split at h
  ·rename_i h1;split at h
   ·cases h
   ·rename_i h2;split at h
    ·rename_i h3;split at h
     ·rename_i h4;split at h
      ·rename_i h5;refine⟨⟨h1,by simpa using h2,h3,h4⟩,?_⟩;unfold fitAll;rw[if_pos h5];dsimp only at h;split at h
       ·assumption
       ·cases h
      ·cases h
     ·cases h
    ·rename_i h3;exact absurd h h3
  ·rename_i h1;exact absurd h h1
 ·rintro⟨⟨h1,h2,h3,h4⟩,h5⟩;unfold fitAll at h5;split at h5
  ·rename_i h6;rw[if_pos h1,if_neg (by simp[h2]),if_pos h3,if_pos h4,if_pos h6,if_pos h5]
  ·cases h5
theorem sU (m:fC) (r:aA) (h:(aU m r).1=0):(aU m r).2=(fitAll m (r.head::r.body)).2:=by
 obtain⟨⟨h1,h2,h3,h4⟩,h5⟩:=(jY m r).1 h;unfold fitAll at h5⊢;split at h5
 ·rename_i h6;unfold aU;rw[if_pos h1,if_neg (by simp[h2]),if_pos h3,if_pos h4,if_pos h6,if_pos h6]
 ·cases h5
theorem qF (p:List aA):∀(m:fC) (i:Nat),(iR m i p).1=0↔(∀r∈p,kK r)∧(fitAll m (fM p)).1=true:=by
 induction p with
 |nil=>intro m i;simp[iR,fM,fitAll]
 |cons r p ih=>
  intro m i;have ea:fM (r::p)=(r.head::r.body)++fM p:=rfl;rw[ea,vO];unfold iR
  by_cases h:(aU m r).1=0
  ·rw[if_pos h,ih,sU m r h];obtain⟨h1,h2⟩:=(jY m r).1 h;rw[if_pos h2];simp[h1]
  ·rw[if_neg h];refine⟨fun h'=>absurd h' h,fun⟨h1,h2⟩=> ?_⟩
   exfalso
   split at h2
   ·rename_i h3;exact h ((jY m r).2 ⟨h1 r (by simp),h3⟩)
   ·rename_i h3;exact h3 h2
def Even (l:List aF):Prop:=∀a∈l,∀b∈l,a.name=b.name→a.terms.length=b.terms.length
theorem tY (l:List aF):∀m:fC,(fitAll m l).1=true↔(∀a∈l,∀n,m a.name=some n→n=a.terms.length)∧Even l:=by
 induction l with
 |nil=>intro m;simp[fitAll,Even]
 |cons a l ih=>
  intro m;unfold fitAll;cases e:m a.name with
  |none=>
   have h1:bV m a=(true,m.put a.name a.terms.length):=by unfold bV;rw[e]
   rw[h1];simp only[if_true];rw[ih]
   constructor
   ·rintro⟨h2,h3⟩;have h4:∀b∈l,b.name=a.name→a.terms.length=b.terms.length:=fun b hb hn=>h2 b hb _ (by unfold fC.put;rw[if_pos hn]);refine⟨fun b hb n hn=> ?_,fun b hb c hc hbc=> ?_⟩
    ·rcases List.mem_cons.1 hb with rfl|hb
     ·rw[e] at hn;cases hn
     ·by_cases hne:b.name=a.name
      ·rw[hne,e] at hn;cases hn
      ·exact h2 b hb n (by unfold fC.put;rw[if_neg hne];exact hn)
    ·rcases List.mem_cons.1 hb with rfl|hb'
     ·rcases List.mem_cons.1 hc with rfl|hc
      ·rfl
      ·exact h4 c hc hbc.symm
     ·rcases List.mem_cons.1 hc with rfl|hc
      ·exact(h4 b hb' hbc).symm
      ·exact h3 b hb' c hc hbc
   ·rintro⟨h2,h3⟩;refine⟨fun b hb n hn=> ?_,fun b hb c hc=>h3 b (by simp[hb]) c (by simp[hc])⟩;unfold fC.put at hn;split at hn
    ·rename_i hne;cases hn;exact h3 a (by simp) b (by simp[hb]) hne.symm
    ·exact h2 b (by simp[hb]) n hn
  |some k=>
   have h1:bV m a=(decide (k=a.terms.length),m):=by unfold bV;rw[e]
   rw[h1]
   by_cases hk:k=a.terms.length
   ·simp only[hk,decide_true,if_true];rw[ih];have h4:(∀b∈l,∀n,m b.name=some n→n=b.terms.length)→∀b∈l,b.name=a.name→a.terms.length=b.terms.length:=fun h b hb hn=>h b hb _ (by rw[hn,e,hk])
    constructor
    ·rintro⟨h2,h3⟩;refine⟨fun b hb n hn=> ?_,fun b hb c hc hbc=> ?_⟩
     ·rcases List.mem_cons.1 hb with rfl|hb
      ·rw[e] at hn;cases hn;exact hk
      ·exact h2 b hb n hn
     ·rcases List.mem_cons.1 hb with rfl|hb'
      ·rcases List.mem_cons.1 hc with rfl|hc
       ·rfl
       ·exact h4 h2 c hc hbc.symm
      ·rcases List.mem_cons.1 hc with rfl|hc
       ·exact(h4 h2 b hb' hbc).symm
       ·exact h3 b hb' c hc hbc
    ·rintro⟨h2,h3⟩;exact⟨fun b hb=>h2 b (by simp[hb]),fun b hb c hc=>h3 b (by simp[hb]) c (by simp[hc])⟩
   ·simp only[hk,decide_false];refine⟨fun h=>by simp at h,fun⟨h2,_⟩=> ?_⟩;exact absurd (h2 a (by simp) k e) hk
structure bZ (p:List aA):Prop where
 few:p.length≤16
 rules:∀r∈p,kK r
 even:Even (fM p)
theorem lq {p:List aA}:(gH p).1=0↔bZ p:=by
 unfold gH
 constructor
 ·intro h;split at h
  ·cases h
  ·rename_i h1;obtain⟨h2,h3⟩:=(qF p _ _).1 h;exact⟨by omega,h2,((tY _ _).1 h3).2⟩
 ·rintro⟨h1,h2,h3⟩;rw[if_neg (by omega)];exact(qF p _ _).2 ⟨h2,(tY _ _).2 ⟨fun _ _ _ h=>(by simp at h),h3⟩⟩
theorem bZ.turned {p:List aA} (h:bZ p):bZ p.reverse:=
 ⟨by rw[List.length_reverse];exact h.few,fun r hr=>h.rules r (List.mem_reverse.1 hr),fun a ha b hb=>h.even a (by simpa[fM] using ha) b (by simpa[fM] using hb)⟩
end Go.Proofs.YtafmbokfkbccaaaGreatDoor
