/- Texts of this claim, one behind the other. -/
import Derived.Test.YtafmbokfkbccaaaGreatDoorJA3
namespace Go.Proofs.YtafmbokfkbccaaaGreatDoor
abbrev BindD:=ByteArray×ByteArray
def getB:List BindD→ByteArray→Option ByteArray
 |[],_=>none
 |b::l,v=>if b.1=v then some b.2 else getB l v
def keysB (l:List BindD):List ByteArray:=l.map (·.1)
theorem getB_append (l m:List BindD) (v:ByteArray):getB (l++m) v=match getB l v with|some s=>some s|none=>getB m v:=by
 induction l with
 |nil=>rfl
 |cons b l ih=>
  simp only[List.cons_append,getB]
  split
  ·rfl
  ·exact ih
theorem getB_none {l:List BindD} {v:ByteArray}:getB l v=none↔v∉keysB l:=by
 induction l with
 |nil=>simp[getB,keysB]
 |cons b l ih=>
  simp only[getB,keysB,List.map_cons,List.mem_cons,not_or]
  split
  ·rename_i h;simp[h]
  ·rename_i h
   rw[ih]
   exact⟨fun h'=>⟨fun e=>h e.symm,h'⟩,fun h'=>h'.2⟩
theorem getB_mem {l:List BindD} {v s:ByteArray} (h:getB l v=some s):(v,s)∈l:=by
 induction l with
 |nil=>cases h
 |cons b l ih=>
  simp only[getB] at h
  split at h
  ·rename_i e
   cases h
   subst e
   exact List.mem_cons_self
  ·exact List.mem_cons_of_mem _ (ih h)
theorem getB_of_mem {l:List BindD} (hn:(keysB l).Nodup) {v s:ByteArray} (h:(v,s)∈l):getB l v=some s:=by
 induction l with
 |nil=>cases h
 |cons b l ih=>
  have hn':b.1∉keysB l∧(keysB l).Nodup:=List.nodup_cons.1 hn
  rcases List.mem_cons.1 h with e|h
  ·subst e;simp[getB]
  ·have:b.1≠v:=fun e=>hn'.1 (by rw[e];exact List.mem_map.2 ⟨_,h,rfl⟩)
   simp only[getB,if_neg this]
   exact ih hn'.2 h
theorem getB_isSome {l:List BindD} {v:ByteArray} (h:v∈keysB l):∃s,getB l v=some s:=by
 cases e:getB l v with
 |none=>exact absurd h (getB_none.1 e)
 |some s=>exact⟨s,rfl⟩
theorem getB_perm {l m:List BindD} (h:l.Perm m) (hn:(keysB l).Nodup) (v:ByteArray):getB l v=getB m v:=by
 have hm:(keysB m).Nodup:=(h.map _).nodup_iff.1 hn
 cases e:getB l v with
 |none=>exact(getB_none.2 fun hv=>getB_none.1 e ((h.map _).mem_iff.2 hv)).symm
 |some s=>exact(getB_of_mem hm (h.mem_iff.1 (getB_mem e))).symm
def worthB (l:List BindD) (t:TermD):Option ByteArray:=if t.1 then getB l (bs t.2) else some (bs t.2)
def fillArgs (l:List BindD):List TermD→Option (List ByteArray)
 |[]=>some []
 |t::ts=>match worthB l t with
  |none=>none
  |some s=>match fillArgs l ts with
   |none=>none
   |some r=>some (s::r)
abbrev FactB:=ByteArray×List ByteArray
def fillB (a:AtomD) (l:List BindD):Option FactB:=match fillArgs l a.terms with
 |none=>none
 |some r=>some (bs a.name,r)
def meetGo (l:List BindD):List TermD→List ByteArray→Option (List BindD)
 |[],_=>some l
 |_::_,[]=>none
 |t::ts,x::xs=>match worthB l t with
  |none=>meetGo (l++[(bs t.2,x)]) ts xs
  |some s=>if s=x then meetGo l ts xs else none
def meetB (a:AtomD) (f:FactB) (l:List BindD):Option (List BindD):=
 if bs a.name=f.1∧a.terms.length=f.2.length then meetGo l a.terms f.2 else none
def meetAllB (a:AtomD) (fs:List FactB) (ls:List (List BindD)):List (List BindD):=ls.flatMap fun l=>fs.filterMap fun f=>meetB a f l
def metGo (pick:Nat→List FactB):Nat→List AtomD→List (List BindD)→Option (List (List BindD))
 |_,[],ls=>some ls
 |n,a::ats,ls=>if a.no then metGo pick (n+1) ats ls
  else if 20000<(meetAllB a (pick n) ls).length then none
  else metGo pick (n+1) ats (meetAllB a (pick n) ls)
def inB (l:List FactB) (f:FactB):Bool:=l.any fun x=>decide (x=f)
theorem inB_iff {l:List FactB} {f:FactB}:inB l f=true↔f∈l:=by
 unfold inB
 rw[List.any_eq_true]
 exact⟨fun⟨x,hx,e⟩=>by rw[decide_eq_true_eq] at e;rw[←e];exact hx,fun h=>⟨f,h,by simp⟩⟩
def barredB (pick:Nat→List FactB):Nat→List AtomD→List BindD→Bool
 |_,[],_=>false
 |n,a::ats,l=>(a.no&&(match fillB a l with|some f=>inB (pick n) f|none=>false))||barredB pick (n+1) ats l
theorem worthB_append {l m:List BindD} {t:TermD} {s:ByteArray} (h:worthB l t=some s):worthB (l++m) t=some s:=by
 unfold worthB at*
 split
 ·rename_i ht
  rw[if_pos ht] at h
  rw[getB_append,h]
 ·rename_i ht
  rw[if_neg ht] at h
  exact h
theorem fillArgs_append {l m:List BindD}:∀{ts:List TermD} {r:List ByteArray},fillArgs l ts=some r→fillArgs (l++m) ts=some r
 |[],r,h=>h
 |t::ts,r,h=>by
  simp only[fillArgs] at h⊢
  cases e:worthB l t with
  |none=>rw[e] at h;cases h
  |some s=>
   rw[e] at h
   rw[worthB_append e]
   dsimp only at h⊢
   cases e2:fillArgs l ts with
   |none=>rw[e2] at h;cases h
   |some q=>
    rw[e2] at h
    rw[fillArgs_append e2]
    exact h
theorem fillB_append {l m:List BindD} {a:AtomD} {f:FactB} (h:fillB a l=some f):fillB a (l++m)=some f:=by
 unfold fillB at*
 cases e:fillArgs l a.terms with
 |none=>rw[e] at h;cases h
 |some r=>rw[e] at h;rw[fillArgs_append e];exact h
theorem fillArgs_congr {l m:List BindD}:∀{ts:List TermD},(∀t∈ts,t.1=true→getB l (bs t.2)=getB m (bs t.2))→fillArgs l ts=fillArgs m ts
 |[],_=>rfl
 |t::ts,h=>by
  have e1:worthB l t=worthB m t:=by
   unfold worthB
   split
   ·rename_i ht;exact h t List.mem_cons_self ht
   ·rfl
  simp only[fillArgs]
  rw[e1,fillArgs_congr (ts:=ts) fun t ht=>h t (List.mem_cons_of_mem _ ht)]
theorem fillB_congr {l m:List BindD} {a:AtomD} (h:∀t∈a.terms,t.1=true→getB l (bs t.2)=getB m (bs t.2)):fillB a l=fillB a m:=by
 unfold fillB
 rw[fillArgs_congr h]
theorem fillB_perm {l m:List BindD} (h:l.Perm m) (hn:(keysB l).Nodup) (a:AtomD):fillB a l=fillB a m:=fillB_congr fun _ _ _=>getB_perm h hn _
theorem fillArgs_some {l:List BindD}:∀{ts:List TermD},(∀t∈ts,t.1=true→bs t.2∈keysB l)→∃r,fillArgs l ts=some r
 |[],_=>⟨[],rfl⟩
 |t::ts,h=>by
  obtain⟨r,hr⟩:=fillArgs_some (ts:=ts) fun t ht=>h t (List.mem_cons_of_mem _ ht)
  have:∃s,worthB l t=some s:=by
   unfold worthB
   split
   ·rename_i ht;exact getB_isSome (h t List.mem_cons_self ht)
   ·exact⟨_,rfl⟩
  obtain⟨s,hs⟩:=this
  exact⟨s::r,by simp only[fillArgs,hs,hr]⟩
theorem fillB_some {l:List BindD} {a:AtomD} (h:∀t∈a.terms,t.1=true→bs t.2∈keysB l):∃f,fillB a l=some f:=by
 obtain⟨r,hr⟩:=fillArgs_some h
 exact⟨(bs a.name,r),by unfold fillB;rw[hr]⟩
theorem fillArgs_len {l:List BindD}:∀{ts:List TermD} {r:List ByteArray},fillArgs l ts=some r→r.length=ts.length
 |[],r,h=>by cases h;rfl
 |t::ts,r,h=>by
  simp only[fillArgs] at h
  cases e:worthB l t with
  |none=>rw[e] at h;cases h
  |some s=>
   rw[e] at h
   dsimp only at h
   cases e2:fillArgs l ts with
   |none=>rw[e2] at h;cases h
   |some q=>rw[e2] at h;cases h;simp[fillArgs_len e2]
theorem addNew_pre (K:List Bs) (s:Bs):∃r,addNew K s=K++r:=by
 unfold addNew
 split
 ·exact⟨[],by simp⟩
 ·exact⟨[s],rfl⟩
theorem varsGo_cons (K:List Bs) (t:TermD) (ts:List TermD):varsGo K (t::ts)=varsGo (if t.1 then addNew K t.2 else K) ts:=rfl
theorem varsGo_pre:∀(ts:List TermD) (K:List Bs),∃r,varsGo K ts=K++r
 |[],K=>⟨[],by simp[varsGo]⟩
 |t::ts,K=>by
  rw[varsGo_cons]
  split
  ·obtain⟨r1,h1⟩:=addNew_pre K t.2
   obtain⟨r2,h2⟩:=varsGo_pre ts (addNew K t.2)
   exact⟨r1++r2,by rw[h2,h1,List.append_assoc]⟩
  ·exact varsGo_pre ts K
theorem addNew_nodup {K:List Bs} (h:K.Nodup) (s:Bs):(addNew K s).Nodup:=by
 unfold addNew
 split
 ·exact h
 ·rename_i hc
  rw[List.nodup_append]
  refine⟨h,by simp,fun a ha b hb=> ?_⟩
  simp at hb
  subst hb
  intro e
  subst e
  simp at hc
  exact hc ha
theorem varsGo_nodup:∀(ts:List TermD) {K:List Bs},K.Nodup→(varsGo K ts).Nodup
 |[],_,h=>h
 |t::ts,K,h=>by
  rw[varsGo_cons]
  split
  ·exact varsGo_nodup ts (addNew_nodup h _)
  ·exact varsGo_nodup ts h
theorem mem_addNew {K:List Bs} {s v:Bs}:v∈addNew K s↔v∈K∨v=s:=by
 unfold addNew
 split
 ·rename_i h
  simp at h
  exact⟨Or.inl,fun h'=>h'.elim id fun e=>by rw[e];exact h⟩
 ·simp
theorem mem_varsGo:∀(ts:List TermD) {K:List Bs} {v:Bs},v∈varsGo K ts↔v∈K∨∃t∈ts,t.1=true∧t.2=v
 |[],K,v=>by simp[varsGo]
 |t::ts,K,v=>by
  rw[varsGo_cons,mem_varsGo ts]
  cases ht:t.1
  ·simp[ht]
  ·simp only[if_true,mem_addNew,List.mem_cons,exists_eq_or_imp,ht,true_and]
   constructor
   ·rintro((h|h)|h)
    ·exact Or.inl h
    ·exact Or.inr (Or.inl h.symm)
    ·exact Or.inr (Or.inr h)
   ·rintro(h|h|h)
    ·exact Or.inl (Or.inl h)
    ·exact Or.inl (Or.inr h.symm)
    ·exact Or.inr h
theorem mem_map_bs {K:List Bs} {v:Bs}:bs v∈K.map bs↔v∈K:=by
 constructor
 ·intro h
  obtain⟨x,hx,e⟩:=List.mem_map.1 h
  rw[←bs_inj e];exact hx
 ·exact fun h=>List.mem_map.2 ⟨_,h,rfl⟩
theorem nodup_map_bs {K:List Bs} (h:K.Nodup):(K.map bs).Nodup:=by
 rw[List.Nodup,List.pairwise_map]
 exact h.imp fun hne e=>hne (bs_inj e)
theorem meetGo_ok:∀(ts:List TermD) (xs:List ByteArray) (l m:List BindD) (K:List Bs),ts.length=xs.length→keysB l=K.map bs→meetGo l ts xs=some m→
  (∃r,m=l++r)∧keysB m=(varsGo K ts).map bs∧fillArgs m ts=some xs
 |[],[],l,m,K,_,hk,h=>by
  cases h
  exact⟨⟨[],by simp⟩,hk,rfl⟩
 |[],_::_,_,_,_,hl,_,_=>by simp at hl
 |_::_,[],_,_,_,hl,_,_=>by simp at hl
 |t::ts,x::xs,l,m,K,hl,hk,h=>by
  have hl':ts.length=xs.length:=by simpa using hl
  simp only[meetGo] at h
  cases e:worthB l t with
  |none=>
   rw[e] at h
   dsimp only at h
   have ht:t.1=true:=by
    unfold worthB at e
    split at e
    ·assumption
    ·cases e
   have hg:getB l (bs t.2)=none:=by unfold worthB at e;rwa [if_pos ht] at e
   have hnk:t.2∉K:=fun hm=>getB_none.1 hg (by rw[hk];exact mem_map_bs.2 hm)
   have ha:addNew K t.2=K++[t.2]:=by unfold addNew;rw[if_neg (by simpa using hnk)]
   obtain⟨⟨r,hr⟩,h2,h3⟩:=meetGo_ok ts xs (l++[(bs t.2,x)]) m (K++[t.2]) hl' (by simp[keysB] at hk⊢;exact hk) h
   refine⟨⟨(bs t.2,x)::r,by rw[hr];simp⟩,by rw[varsGo_cons,if_pos ht,ha];exact h2,?_⟩
   simp only[fillArgs]
   have hw:worthB m t=some x:=by
    rw[hr]
    refine worthB_append ?_
    unfold worthB
    rw[if_pos ht,getB_append,hg]
    simp[getB]
   rw[hw,h3]
  |some s=>
   rw[e] at h
   dsimp only at h
   split at h
   ·rename_i hs
    subst hs
    have hK:(if t.1=true then addNew K t.2 else K)=K:=by
     split
     ·rename_i ht
      unfold worthB at e
      rw[if_pos ht] at e
      unfold addNew
      rw[if_pos]
      have:bs t.2∈keysB l:=Classical.byContradiction fun hk=>by rw[getB_none.2 hk] at e;cases e
      rw[hk] at this
      simpa using mem_map_bs.1 this
     ·rfl
    obtain⟨⟨r,hr⟩,h2,h3⟩:=meetGo_ok ts xs l m K hl' hk h
    refine⟨⟨r,hr⟩,by rw[varsGo_cons,hK];exact h2,?_⟩
    simp only[fillArgs]
    rw[show worthB m t=some s by rw[hr];exact worthB_append e,h3]
   ·cases h
theorem meetGo_of:∀(ts:List TermD) (xs:List ByteArray) (l m r:List BindD) (K:List Bs),keysB l=K.map bs→m=l++r→keysB m=(varsGo K ts).map bs→fillArgs m ts=some xs→meetGo l ts xs=some m
 |[],xs,l,m,r,K,hk,hm,hv,_=>by
  have e:r=[]:=by
   have h1:(keysB m).length=(keysB l).length:=by rw[hv,hk];simp[varsGo]
   rw[hm] at h1
   simp[keysB] at h1
   exact h1
  rw[hm,e]
  simp[meetGo]
 |t::ts,xs,l,m,r,K,hk,hm,hv,hf=>by
  simp only[fillArgs] at hf
  cases e:worthB m t with
  |none=>rw[e] at hf;cases hf
  |some s=>
   rw[e] at hf
   dsimp only at hf
   cases e2:fillArgs m ts with
   |none=>rw[e2] at hf;cases hf
   |some q=>
    rw[e2] at hf
    cases hf
    rw[varsGo_cons] at hv
    simp only[meetGo]
    cases e3:worthB l t with
    |some s'=>
     have:=worthB_append (m:=r) e3
     rw[←hm,e] at this
     cases this
     dsimp only
     rw[if_pos rfl]
     have hK:(if t.1=true then addNew K t.2 else K)=K:=by
      split
      ·rename_i ht
       unfold worthB at e3
       rw[if_pos ht] at e3
       unfold addNew
       rw[if_pos]
       have:bs t.2∈keysB l:=Classical.byContradiction fun hk=>by rw[getB_none.2 hk] at e3;cases e3
       rw[hk] at this
       simpa using mem_map_bs.1 this
      ·rfl
     rw[hK] at hv
     exact meetGo_of ts q l m r K hk hm hv e2
    |none=>
     dsimp only
     have ht:t.1=true:=by
      unfold worthB at e3
      split at e3
      ·assumption
      ·cases e3
     have hg:getB l (bs t.2)=none:=by unfold worthB at e3;rwa [if_pos ht] at e3
     have hnk:t.2∉K:=fun hm=>getB_none.1 hg (by rw[hk];exact mem_map_bs.2 hm)
     have ha:addNew K t.2=K++[t.2]:=by unfold addNew;rw[if_neg (by simpa using hnk)]
     rw[if_pos ht,ha] at hv
     obtain⟨q',hq'⟩:=varsGo_pre ts (K++[t.2])
     have hkr:keysB r=bs t.2::q'.map bs:=by
      have h1:=hv
      rw[hq',hm] at h1
      simp only[keysB,List.map_append] at h1 hk⊢
      rw[hk,List.append_assoc] at h1
      simpa using List.append_cancel_left h1
     cases r with
     |nil=>simp[keysB] at hkr
     |cons b r'=>
      have hb:b.1=bs t.2:=by simp[keysB] at hkr;exact hkr.1
      have hbs:b.2=s:=by
       unfold worthB at e
       rw[if_pos ht,hm,getB_append,hg] at e
       simp only[getB,hb,if_true] at e
       exact Option.some.inj e
      have hbe:b=(bs t.2,s):=by rw[←hb,←hbs]
      subst hbe
      exact meetGo_of ts q (l++[(bs t.2,s)]) m r' (K++[t.2]) (by simp[keysB] at hk⊢;exact hk) (by rw[hm];simp) hv e2
theorem meetB_ok {a:AtomD} {f:FactB} {l m:List BindD} {K:List Bs} (hk:keysB l=K.map bs) (h:meetB a f l=some m):(∃r,m=l++r)∧keysB m=(varsGo K a.terms).map bs∧fillB a m=some f:=by
 unfold meetB at h
 split at h
 ·rename_i hc
  obtain⟨h1,h2,h3⟩:=meetGo_ok a.terms f.2 l m K hc.2 hk h
  exact⟨h1,h2,by unfold fillB;rw[h3,hc.1]⟩
 ·cases h
theorem meetB_of {a:AtomD} {f:FactB} {l m r:List BindD} {K:List Bs} (hk:keysB l=K.map bs) (hm:m=l++r) (hv:keysB m=(varsGo K a.terms).map bs) (hf:fillB a m=some f):meetB a f l=some m:=by
 unfold fillB at hf
 cases e:fillArgs m a.terms with
 |none=>rw[e] at hf;cases hf
 |some x=>
  rw[e] at hf
  cases hf
  unfold meetB
  rw[if_pos ⟨rfl,(fillArgs_len e).symm⟩]
  exact meetGo_of a.terms x l m r K hk hm hv e
end Go.Proofs.YtafmbokfkbccaaaGreatDoor
namespace Go.Proofs.YtafmbokfkbccaaaGreatDoor
variable {α:Type} {c:α→α→Int}
theorem Three.le_trans (h:Three c) {a b d:α} (h1:c a b≤0) (h2:c b d≤0):c a d≤0:=by
 by_cases e1:c a b=0
 ·rw[h.zero _ _ e1];exact h2
 ·by_cases e2:c b d=0
  ·rw[←h.zero _ _ e2];exact h1
  ·have:=h.trans a b d (by omega) (by omega)
   omega
theorem Three.anti (h:Three c) {a b:α} (h1:c a b≤0) (h2:c b a≤0):a=b:=h.zero a b (by have:=h.swap a b;omega)
theorem rise_ext (h:Three c):∀{s t:List α},s.Pairwise (fun a b=>c a b<0)→t.Pairwise (fun a b=>c a b<0)→(∀x,x∈s↔x∈t)→s=t
 |[],[],_,_,_=>rfl
 |[],b::t,_,_,e=>absurd ((e b).2 List.mem_cons_self) (by simp)
 |a::s,[],_,_,e=>absurd ((e a).1 List.mem_cons_self) (by simp)
 |a::s,b::t,hs,ht,e=>by
  have hs':=List.pairwise_cons.1 hs
  have ht':=List.pairwise_cons.1 ht
  have hab:a=b:=by
   rcases List.mem_cons.1 ((e a).1 List.mem_cons_self) with h1|h1
   ·exact h1
   ·rcases List.mem_cons.1 ((e b).2 List.mem_cons_self) with h2|h2
    ·exact h2.symm
    ·have x1:=ht'.1 a h1
     have x2:=hs'.1 b h2
     have:=h.swap a b
     omega
  subst hab
  have irr:c a a=0:=h.refl a
  rw[rise_ext h hs'.2 ht'.2 fun x=>⟨fun hx=> ?_,fun hx=> ?_⟩]
  ·rcases List.mem_cons.1 ((e x).1 (List.mem_cons_of_mem _ hx)) with h1|h1
   ·subst h1;have:=hs'.1 x hx;omega
   ·exact h1
  ·rcases List.mem_cons.1 ((e x).2 (List.mem_cons_of_mem _ hx)) with h1|h1
   ·subst h1;have:=ht'.1 x hx;omega
   ·exact h1
theorem sorted_unique (h:Three c):∀{l m:List α},l.Perm m→l.Pairwise (fun a b=>c a b≤0)→m.Pairwise (fun a b=>c a b≤0)→l=m
 |[],m,hp,_,_=>hp.nil_eq
 |a::l,[],hp,_,_=>by simpa using hp.length_eq
 |a::l,b::m,hp,hl,hm=>by
  have hl':=List.pairwise_cons.1 hl
  have hm':=List.pairwise_cons.1 hm
  have hab:a=b:=by
   rcases List.mem_cons.1 (hp.mem_iff.1 List.mem_cons_self) with h1|h1
   ·exact h1
   ·rcases List.mem_cons.1 (hp.mem_iff.2 (List.mem_cons_self (a:=b) (l:=m))) with h2|h2
    ·exact h2.symm
    ·exact h.anti (hl'.1 b h2) (hm'.1 a h1)
  subst hab
  rw[sorted_unique h (List.Perm.cons_inv hp) hl'.2 hm'.2]
def sortBy (c:α→α→Int) (l:List α):List α:=l.mergeSort fun a b=>decide (c a b≤0)
theorem sortBy_perm (l:List α):(sortBy c l).Perm l:=List.mergeSort_perm _ _
theorem sortBy_sorted (h:Three c) (l:List α):(sortBy c l).Pairwise fun a b=>c a b≤0:=by
 have:=List.pairwise_mergeSort (le:=fun a b=>decide (c a b≤0)) (fun a b d h1 h2=>by
  simp only[decide_eq_true_eq] at*
  exact h.le_trans h1 h2) (fun a b=>by
  simp only[Bool.or_eq_true,decide_eq_true_eq]
  have:=h.swap a b
  omega) l
 exact this.imp fun h=>by simpa using h
theorem sortBy_of (h:Three c) {l m:List α} (hp:m.Perm l) (hs:m.Pairwise fun a b=>c a b≤0):m=sortBy c l:=
 sorted_unique h (hp.trans (sortBy_perm l).symm) hs (sortBy_sorted h l)
theorem strict_of (h:Three c) {l:List α} (hs:l.Pairwise fun a b=>c a b≤0) (hn:l.Nodup):l.Pairwise fun a b=>c a b<0:=
 (hs.and hn).imp fun {a b} ⟨h1,h2⟩=>by
  rcases Int.lt_or_eq_of_le h1 with h3|h3
  ·exact h3
  ·exact absurd (h.zero _ _ h3) h2
theorem strict_nodup (h:Three c) {l:List α} (hs:l.Pairwise fun a b=>c a b<0):l.Nodup:=hs.imp fun {a b} h1 e=>by
 subst e
 rw[h.refl] at h1
 omega
def cmpX (c:α→α→Int):List α→List α→Int
 |[],[]=>0
 |[],_::_=> -1
 |_::_,[]=>1
 |a::x,b::y=>if c a b≠0 then c a b else cmpX c x y
theorem cmpX_swap (h:Three c):∀x y,cmpX c y x= -cmpX c x y
 |[],[]=>rfl
 |[],_::_=>rfl
 |_::_,[]=>rfl
 |a::x,b::y=>by
  have:=h.swap a b
  simp only[cmpX]
  by_cases e:c a b=0
  ·rw[if_neg (by omega),if_neg (by omega)];exact cmpX_swap h x y
  ·rw[if_pos (by omega),if_pos e];omega
theorem cmpX_zero (h:Three c):∀x y,cmpX c x y=0→x=y
 |[],[],_=>rfl
 |[],_::_,e=>by simp[cmpX] at e
 |_::_,[],e=>by simp[cmpX] at e
 |a::x,b::y,e=>by
  simp only[cmpX] at e
  by_cases e':c a b=0
  ·rw[if_neg (by omega)] at e
   rw[h.zero _ _ e',cmpX_zero h x y e]
  ·rw[if_pos e'] at e;exact absurd e e'
theorem cmpX_trans (h:Three c):∀x y z,cmpX c x y<0→cmpX c y z<0→cmpX c x z<0
 |[],[],z,h1,_=>by simp[cmpX] at h1
 |[],_::_,[],_,h2=>by simp[cmpX] at h2
 |[],_::_,_::_,_,_=>by simp[cmpX]
 |_::_,[],_,h1,_=>by simp[cmpX] at h1
 |_::_,_::_,[],_,h2=>by simp[cmpX] at h2
 |a::x,b::y,d::z,h1,h2=>by
  simp only[cmpX] at h1 h2⊢
  by_cases e1:c a b=0
  ·rw[if_neg (by omega)] at h1
   have:=h.zero _ _ e1
   subst this
   by_cases e2:c a d=0
   ·rw[if_neg (by omega)] at h2⊢;exact cmpX_trans h x y z h1 h2
   ·rw[if_pos e2] at h2⊢;exact h2
  ·rw[if_pos e1] at h1
   by_cases e2:c b d=0
   ·have:=h.zero _ _ e2
    subst this
    rw[if_pos e1];exact h1
   ·rw[if_pos e2] at h2
    have:=h.trans a b d h1 h2
    rw[if_pos (by omega)];exact this
theorem three_cmpX (h:Three c):Three (cmpX c):=⟨fun a b=>cmpX_swap h a b,cmpX_zero h,cmpX_trans h⟩
def cmpB (a b:BindD):Int:=if cmpS a.1 b.1≠0 then cmpS a.1 b.1 else cmpS a.2 b.2
theorem three_cmpB:Three cmpB where
 swap a b:=by
  have h1:=three_cmpS.swap a.1 b.1
  have h2:=three_cmpS.swap a.2 b.2
  unfold cmpB
  by_cases e:cmpS a.1 b.1=0
  ·rw[if_neg (by omega),if_neg (by omega)];exact h2
  ·rw[if_pos (by omega),if_pos e];exact h1
 zero a b h:=by
  unfold cmpB at h
  by_cases e:cmpS a.1 b.1=0
  ·rw[if_neg (by omega)] at h
   have:=three_cmpS.zero _ _ e
   have:=three_cmpS.zero _ _ h
   obtain⟨a1,a2⟩:=a
   obtain⟨b1,b2⟩:=b
   simp_all
  ·rw[if_pos e] at h;exact absurd h e
 trans a b d h k:=by
  unfold cmpB at*
  by_cases e1:cmpS a.1 b.1=0
  ·rw[if_neg (by omega)] at h
   rw[three_cmpS.zero _ _ e1]
   by_cases e2:cmpS b.1 d.1=0
   ·rw[if_neg (by omega)] at k⊢;exact three_cmpS.trans _ _ _ h k
   ·rw[if_pos e2] at k⊢;exact k
  ·rw[if_pos e1] at h
   by_cases e2:cmpS b.1 d.1=0
   ·rw[←three_cmpS.zero _ _ e2,if_pos e1];exact h
   ·rw[if_pos e2] at k
    have:=three_cmpS.trans _ _ _ h k
    rw[if_pos (by omega)];exact this
abbrev cmpBs:List BindD→List BindD→Int:=cmpX cmpB
theorem three_cmpBs:Three cmpBs:=three_cmpX three_cmpB
abbrev sortB (l:List BindD):List BindD:=sortBy cmpB l
def allB (pick:Nat→List FactB) (body:List AtomD):Option (List (List BindD)):=match metGo pick 0 body [[]] with
 |none=>none
 |some ms=>some (sortBy cmpBs ((ms.filter fun l=> !barredB pick 0 body l).map sortB))
def posVars (K:List Bs) (ats:List AtomD):List Bs:=ats.foldl (fun K a=>if a.no then K else varsGo K a.terms) K
theorem posVars_cons (K:List Bs) (a:AtomD) (ats:List AtomD):posVars K (a::ats)=posVars (if a.no then K else varsGo K a.terms) ats:=rfl
theorem posVars_pre:∀(ats:List AtomD) (K:List Bs),∃r,posVars K ats=K++r
 |[],K=>⟨[],by simp[posVars]⟩
 |a::ats,K=>by
  rw[posVars_cons]
  split
  ·exact posVars_pre ats K
  ·obtain⟨r1,h1⟩:=varsGo_pre a.terms K
   obtain⟨r2,h2⟩:=posVars_pre ats (varsGo K a.terms)
   exact⟨r1++r2,by rw[h2,h1,List.append_assoc]⟩
theorem posVars_nodup:∀(ats:List AtomD) {K:List Bs},K.Nodup→(posVars K ats).Nodup
 |[],_,h=>h
 |a::ats,K,h=>by
  rw[posVars_cons]
  split
  ·exact posVars_nodup ats h
  ·exact posVars_nodup ats (varsGo_nodup _ h)
theorem mem_posVars:∀(ats:List AtomD) {K:List Bs} {v:Bs},v∈posVars K ats↔v∈K∨∃a∈ats,a.no=false∧∃t∈a.terms,t.1=true∧t.2=v
 |[],K,v=>by simp[posVars]
 |a::ats,K,v=>by
  rw[posVars_cons,mem_posVars ats]
  cases ha:a.no
  ·simp only[Bool.false_eq_true,if_false,mem_varsGo,List.mem_cons,exists_eq_or_imp,ha,true_and,or_assoc]
  ·simp[ha]
theorem mem_meetAllB {a:AtomD} {fs:List FactB} {ls:List (List BindD)} {m:List BindD}:m∈meetAllB a fs ls↔∃l∈ls,∃f∈fs,meetB a f l=some m:=by
 simp[meetAllB,List.mem_flatMap,List.mem_filterMap]
theorem keys_take {m:List BindD} {K r:List Bs} (h:keysB m=(K++r).map bs):keysB (m.take K.length)=K.map bs:=by
 unfold keysB at*
 rw[List.map_take,h,List.map_append,List.take_append_of_le_length (by simp),List.take_of_length_le (by simp)]
theorem met_mem (pick:Nat→List FactB):∀(ats:List AtomD) (n:Nat) (ls ms:List (List BindD)) (K:List Bs),(∀l∈ls,keysB l=K.map bs)→metGo pick n ats ls=some ms→
  ∀m,m∈ms↔(∃l∈ls,∃r,m=l++r)∧keysB m=(posVars K ats).map bs∧∀i a,ats[i]?=some a→a.no=false→∃f∈pick (n+i),fillB a m=some f
 |[],n,ls,ms,K,hK,h,m=>by
  cases h
  constructor
  ·intro hm
   exact⟨⟨m,hm,[],by simp⟩,hK m hm,fun i a h=>by simp at h⟩
  ·rintro⟨⟨l,hl,r,e⟩,hk,_⟩
   have h1:=hK l hl
   have:r=[]:=by
    have h2:(keysB m).length=(keysB l).length:=by rw[hk,h1];simp[posVars]
    rw[e] at h2
    simp[keysB] at h2
    exact h2
   rw[e,this]
   simpa using hl
 |a::ats,n,ls,ms,K,hK,h,m=>by
  simp only[metGo] at h
  rw[posVars_cons]
  have shift:(∀i b,(a::ats)[i]?=some b→b.no=false→∃f∈pick (n+i),fillB b m=some f)↔((a.no=false→∃f∈pick n,fillB a m=some f)∧∀i b,ats[i]?=some b→b.no=false→∃f∈pick (n+1+i),fillB b m=some f):=by
   constructor
   ·intro H
    refine⟨H 0 a rfl,fun i b hb=> ?_⟩
    have:=H (i+1) b (by simpa using hb)
    rwa [show n+(i+1)=n+1+i by omega] at this
   ·rintro⟨H0,H1⟩ i b hb
    cases i with
    |zero=>simp at hb;subst hb;exact H0
    |succ i=>have:=H1 i b (by simpa using hb);rwa [show n+1+i=n+(i+1) by omega] at this
  rw[shift]
  cases ha:a.no
  ·rw[ha] at h
   simp only[Bool.false_eq_true,if_false,true_imp_iff] at h⊢
   split at h
   ·cases h
   ·have hK':∀l∈meetAllB a (pick n) ls,keysB l=(varsGo K a.terms).map bs:=fun l hl=>by
     obtain⟨l0,hl0,f,_,hm⟩:=mem_meetAllB.1 hl
     exact(meetB_ok (hK l0 hl0) hm).2.1
    rw[met_mem pick ats (n+1) _ ms _ hK' h m]
    constructor
    ·rintro⟨⟨l',hl',r,e⟩,hk,hr⟩
     obtain⟨l,hl,f,hf,hm⟩:=mem_meetAllB.1 hl'
     obtain⟨⟨r0,e0⟩,_,hfill⟩:=meetB_ok (hK l hl) hm
     exact⟨⟨l,hl,r0++r,by rw[e,e0,List.append_assoc]⟩,hk,⟨f,hf,by rw[e];exact fillB_append hfill⟩,hr⟩
    ·rintro⟨⟨l,hl,r,e⟩,hk,⟨f,hf,hfill⟩,hr⟩
     obtain⟨q,hq⟩:=posVars_pre ats (varsGo K a.terms)
     rw[hq] at hk
     have hk1:=keys_take hk
     obtain⟨m1,hm1⟩:∃m1,m1=m.take (varsGo K a.terms).length:=⟨_,rfl⟩
     rw[←hm1] at hk1
     have hsplit:m=m1++m.drop (varsGo K a.terms).length:=by rw[hm1];exact(List.take_append_drop _ _).symm
     obtain⟨r0,hr0⟩:=varsGo_pre a.terms K
     have hll:l.length=K.length:=by
      have:=congrArg List.length (hK l hl)
      simpa[keysB] using this
     have hpre:m1=l++r.take (r0.length):=by
      rw[hm1,e,hr0,List.length_append,←hll,List.take_length_add_append]
     have hf1:fillB a m1=some f:=by
      rw[←hfill]
      refine fillB_congr fun t ht htv=> ?_
      have hmem:bs t.2∈keysB m1:=by
       rw[hk1]
       exact mem_map_bs.2 ((mem_varsGo _).2 (Or.inr ⟨t,ht,htv,rfl⟩))
      obtain⟨s,hs⟩:=getB_isSome hmem
      rw[hsplit,getB_append,hs]
     refine⟨⟨m1,mem_meetAllB.2 ⟨l,hl,f,hf,meetB_of (hK l hl) hpre hk1 hf1⟩,_,hsplit⟩,by rw[hq];exact hk,hr⟩
  ·rw[ha] at h
   simp only[if_true,Bool.true_eq_false,false_imp_iff,true_and] at h⊢
   exact met_mem pick ats (n+1) ls ms K hK h m
def pickB (fs:List FactB) (at_:Int) (os:List FactB):Nat→List FactB:=fun n=>if(n:Int)=at_ then os else fs
end Go.Proofs.YtafmbokfkbccaaaGreatDoor
namespace Go.Proofs.YtafmbokfkbccaaaGreatDoor
theorem vars_iff {a:AtomD} {v:Bs}:v∈vars a↔∃t∈a.terms,t.1=true∧t.2=v:=by
 unfold vars
 rw[mem_varsGo]
 simp
def Covers (body:List AtomD):Prop:=∀a∈body,∀t∈a.terms,t.1=true→t.2∈posVars [] body
theorem covers_of {body:List AtomD} (h:wrongBody body=0):Covers body:=by
 unfold wrongBody at h
 split at h
 ·simp at h
 ·split at h
  ·split at h
   ·rename_i hall
    intro a ha t ht htv
    rw[List.all_eq_true] at hall
    have h1:=hall a ha
    rw[List.all_eq_true] at h1
    have h2:=h1 t.2 (vars_iff.2 ⟨t,ht,htv,rfl⟩)
    unfold givenBy at h2
    rw[List.any_eq_true] at h2
    obtain⟨b,hb,h3⟩:=h2
    simp only[Bool.and_eq_true,Bool.not_eq_true',List.contains_eq_mem,decide_eq_true_eq] at h3
    refine(mem_posVars body).2 (Or.inr ⟨b,hb,h3.1,?_⟩)
    exact vars_iff.1 h3.2
   ·simp at h
  ·rename_i hne
   exact absurd h hne
theorem barredB_iff (pick:Nat→List FactB) (l:List BindD):∀(ats:List AtomD) (n:Nat),barredB pick n ats l=true↔∃i a,ats[i]?=some a∧a.no=true∧∃f∈pick (n+i),fillB a l=some f
 |[],n=>by simp[barredB]
 |a::ats,n=>by
  simp only[barredB,Bool.or_eq_true,Bool.and_eq_true]
  rw[barredB_iff pick l ats (n+1)]
  constructor
  ·rintro(⟨h1,h2⟩|⟨i,b,hb,h1,f,hf,h2⟩)
   ·cases e:fillB a l with
    |none=>rw[e] at h2;cases h2
    |some f=>
     rw[e] at h2
     exact⟨0,a,rfl,h1,f,inB_iff.1 h2,e⟩
   ·exact⟨i+1,b,by simpa using hb,h1,f,by rwa [show n+(i+1)=n+1+i by omega],h2⟩
  ·rintro⟨i,b,hb,h1,f,hf,h2⟩
   cases i with
   |zero=>
    simp at hb
    subst hb
    exact Or.inl ⟨h1,by rw[h2];exact inB_iff.2 hf⟩
   |succ i=>exact Or.inr ⟨i,b,by simpa using hb,h1,f,by rwa [show n+1+i=n+(i+1) by omega],h2⟩
def SoB (pick:Nat→List FactB) (body:List AtomD) (l:List BindD):Prop:=∀i a,body[i]?=some a→∃f,fillB a l=some f∧inB (pick i) f= !a.no
theorem SoB.perm {pick:Nat→List FactB} {body:List AtomD} {l m:List BindD} (h:SoB pick body l) (hp:l.Perm m) (hn:(keysB l).Nodup):SoB pick body m:=fun i a ha=>by
 obtain⟨f,h1,h2⟩:=h i a ha
 exact⟨f,by rw[←fillB_perm hp hn];exact h1,h2⟩
theorem getElem_mem' {β:Type} {l:List β} {i:Nat} {a:β} (h:l[i]?=some a):a∈l:=by
 obtain⟨hi,rfl⟩:=List.getElem?_eq_some_iff.1 h
 exact List.getElem_mem hi
theorem kept_mem {pick:Nat→List FactB} {body:List AtomD} (hc:Covers body) {ms:List (List BindD)} (h:metGo pick 0 body [[]]=some ms) (m:List BindD):
  m∈ms.filter (fun l=> !barredB pick 0 body l)↔keysB m=(posVars [] body).map bs∧SoB pick body m:=by
 rw[List.mem_filter,met_mem pick body 0 [[]] ms [] (fun l hl=>by simp at hl;subst hl;rfl) h m]
 simp only[Bool.not_eq_true',Nat.zero_add]
 constructor
 ·rintro⟨⟨_,hk,hpos⟩,hb⟩
  refine⟨hk,fun i a ha=> ?_⟩
  cases hno:a.no
  ·obtain⟨f,hf,h1⟩:=hpos i a ha hno
   exact⟨f,h1,by rw[inB_iff.2 hf];rfl⟩
  ·obtain⟨f,hf⟩:=fillB_some (l:=m) (a:=a) fun t ht htv=>by
    rw[hk]
    exact mem_map_bs.2 (hc a (getElem_mem' ha) t ht htv)
   refine⟨f,hf,?_⟩
   cases e:inB (pick i) f
   ·rfl
   ·have:barredB pick 0 body m=true:=(barredB_iff pick m body 0).2 ⟨i,a,ha,hno,f,by rw[Nat.zero_add];exact inB_iff.1 e,hf⟩
    rw[hb] at this
    cases this
 ·rintro⟨hk,hso⟩
  refine⟨⟨⟨[],by simp,m,by simp⟩,hk,fun i a ha hno=> ?_⟩,?_⟩
  ·obtain⟨f,h1,h2⟩:=hso i a ha
   rw[hno] at h2
   exact⟨f,inB_iff.1 h2,h1⟩
  ·cases e:barredB pick 0 body m
   ·rfl
   ·obtain⟨i,a,ha,hno,f,hf,h1⟩:=(barredB_iff pick m body 0).1 e
    obtain⟨g,h2,h3⟩:=hso i a ha
    rw[h1] at h2
    cases h2
    rw[Nat.zero_add] at hf
    rw[hno,inB_iff.2 hf] at h3
    cases h3
theorem keys_perm {l m:List BindD} (h:l.Perm m):(keysB l).Perm (keysB m):=h.map _
theorem sortB_strict {m:List BindD} (hn:(keysB m).Nodup):(sortB m).Pairwise fun a b=>cmpB a b<0:=by
 refine strict_of three_cmpB (sortBy_sorted three_cmpB m) ?_
 refine(sortBy_perm m).nodup_iff.2 ?_
 have:(m.map (·.1)).Nodup:=hn
 rw[List.Nodup,List.pairwise_map] at this
 exact this.imp fun h e=>h (by rw[e])
def FitsB (pick:Nat→List FactB) (body:List AtomD) (r:List BindD):Prop:=
 r.Pairwise (fun a b=>cmpB a b<0)∧(keysB r).Nodup∧(∀v,v∈keysB r↔v∈(posVars [] body).map bs)∧SoB pick body r
theorem posKeys_nodup (body:List AtomD):((posVars [] body).map bs).Nodup:=nodup_map_bs (posVars_nodup body List.nodup_nil)
theorem all_mem {pick:Nat→List FactB} {body:List AtomD} (hc:Covers body) {R:List (List BindD)} (h:allB pick body=some R) (r:List BindD):r∈R↔FitsB pick body r:=by
 unfold allB at h
 cases e:metGo pick 0 body [[]] with
 |none=>rw[e] at h;cases h
 |some ms=>
  rw[e] at h
  cases h
  rw[(sortBy_perm _).mem_iff,List.mem_map]
  constructor
  ·rintro⟨m,hm,rfl⟩
   obtain⟨hk,hso⟩:=(kept_mem hc e m).1 hm
   have hn:(keysB m).Nodup:=by rw[hk];exact posKeys_nodup body
   have hp:=(sortBy_perm (c:=cmpB) m)
   refine⟨sortB_strict hn,(keys_perm hp).nodup_iff.2 hn,fun v=> ?_,hso.perm hp.symm hn⟩
   rw[(keys_perm hp).mem_iff,hk]
  ·rintro⟨hr,hn,hv,hso⟩
   obtain⟨m,hm⟩:∃m:List BindD,m=(posVars [] body).map fun k=>(bs k,(getB r (bs k)).getD ByteArray.empty):=⟨_,rfl⟩
   have hk:keysB m=(posVars [] body).map bs:=by rw[hm];unfold keysB;rw[List.map_map];rfl
   have hnm:(keysB m).Nodup:=by rw[hk];exact posKeys_nodup body
   have hmem:∀x,x∈m↔x∈r:=fun x=>by
    constructor
    ·intro hx
     rw[hm] at hx
     obtain⟨k,hk,rfl⟩:=List.mem_map.1 hx
     obtain⟨s,hs⟩:=getB_isSome ((hv (bs k)).2 (mem_map_bs.2 hk))
     rw[hs]
     exact getB_mem hs
    ·intro hx
     have h1:x.1∈(posVars [] body).map bs:=(hv x.1).1 (List.mem_map.2 ⟨x,hx,rfl⟩)
     obtain⟨k,hk,e⟩:=List.mem_map.1 h1
     rw[hm]
     refine List.mem_map.2 ⟨k,hk,?_⟩
     have:=getB_of_mem (v:=x.1) (s:=x.2) hn hx
     rw[e,this]
     rfl
   have hsm:sortB m=r:=rise_ext three_cmpB (sortB_strict hnm) hr fun x=>by rw[(sortBy_perm m).mem_iff];exact hmem x
   refine⟨m,(kept_mem hc e m).2 ⟨hk,?_⟩,hsm⟩
   have hp:r.Perm m:=by rw[←hsm];exact sortBy_perm m
   exact hso.perm hp hn
theorem SoB_const {fs:List FactB} {body:List AtomD} {l:List BindD}:SoB (fun _=>fs) body l↔∀a∈body,∃f,fillB a l=some f∧inB fs f= !a.no:=by
 constructor
 ·intro h a ha
  obtain⟨i,hi⟩:=List.getElem?_of_mem ha
  exact h i a hi
 ·intro h i a ha
  exact h a (getElem_mem' ha)
end Go.Proofs.YtafmbokfkbccaaaGreatDoor
namespace Go.Proofs.YtafmbokfkbccaaaGreatDoor
abbrev Up (s:List FactB):Prop:=s.Pairwise fun a b=>cmpF a b<0
def dropTwice:List FactB→List FactB
 |[]=>[]
 |f::l=>if inB l f then dropTwice l else f::dropTwice l
theorem mem_dropTwice:∀{l:List FactB} {f:FactB},f∈dropTwice l↔f∈l
 |[],f=>by simp[dropTwice]
 |g::l,f=>by
  unfold dropTwice
  split
  ·rename_i h
   rw[mem_dropTwice,List.mem_cons]
   exact⟨Or.inr,fun h'=>h'.elim (fun e=>by rw[e];exact inB_iff.1 h) id⟩
  ·rw[List.mem_cons,List.mem_cons,mem_dropTwice]
theorem dropTwice_nodup:∀(l:List FactB),(dropTwice l).Nodup
 |[]=>List.nodup_nil
 |g::l=>by
  unfold dropTwice
  split
  ·exact dropTwice_nodup l
  ·rename_i h
   exact List.nodup_cons.2 ⟨fun h'=>h (inB_iff.2 (mem_dropTwice.1 h')),dropTwice_nodup l⟩
theorem dropTwice_len:∀(l:List FactB),(dropTwice l).length≤l.length
 |[]=>Nat.le_refl _
 |g::l=>by
  have:=dropTwice_len l
  unfold dropTwice
  split <;> simp <;> omega
def setF (l:List FactB):List FactB:=sortBy cmpF (dropTwice l)
theorem mem_setF {l:List FactB} {f:FactB}:f∈setF l↔f∈l:=by
 unfold setF;rw[(sortBy_perm _).mem_iff,mem_dropTwice]
theorem setF_up (l:List FactB):Up (setF l):=strict_of three_cmpF (sortBy_sorted three_cmpF _) ((sortBy_perm _).nodup_iff.2 (dropTwice_nodup l))
theorem setF_len (l:List FactB):(setF l).length≤l.length:=by
 unfold setF;rw[(sortBy_perm _).length_eq];exact dropTwice_len l
theorem up_ext {s t:List FactB} (hs:Up s) (ht:Up t) (h:∀f,f∈s↔f∈t):s=t:=rise_ext three_cmpF hs ht h
theorem setF_of {s l:List FactB} (hs:Up s) (h:∀f,f∈s↔f∈l):s=setF l:=up_ext hs (setF_up l) fun f=>by rw[mem_setF,h]
theorem setF_up_self {s:List FactB} (hs:Up s):setF s=s:=(setF_of hs fun _=>Iff.rfl).symm
theorem setF_congr {l m:List FactB} (h:∀f,f∈l↔f∈m):setF l=setF m:=up_ext (setF_up l) (setF_up m) fun f=>by rw[mem_setF,mem_setF,h]
theorem up_nodup {s:List FactB} (hs:Up s):s.Nodup:=strict_nodup three_cmpF hs
theorem sub_len:∀{s t:List FactB},s.Nodup→(∀f∈s,f∈t)→s.length≤t.length
 |[],_,_,_=>Nat.zero_le _
 |a::s,t,hn,h=>by
  have hn':=List.nodup_cons.1 hn
  obtain⟨t1,t2,rfl⟩:=List.append_of_mem (h a (by simp))
  have:=sub_len (t:=t1++t2) hn'.2 fun f hf=>by
   have h1:=h f (by simp[hf])
   simp only[List.mem_append,List.mem_cons] at h1⊢
   rcases h1 with h1|rfl|h1
   ·exact Or.inl h1
   ·exact absurd hf hn'.1
   ·exact Or.inr h1
  simp only[List.length_cons,List.length_append] at this⊢;omega
theorem up_le {s t:List FactB} (hs:Up s) (h:∀f∈s,f∈t):s.length≤t.length:=sub_len (up_nodup hs) h
theorem up_same {s t:List FactB} (hs:Up s) (ht:Up t) (h:∀f∈s,f∈t) (e:t.length≤s.length):s=t:=by
 refine up_ext hs ht fun f=>⟨h f,fun hf=>Classical.byContradiction fun hn=> ?_⟩
 have:=sub_len (s:=f::s) (t:=t) (List.nodup_cons.2 ⟨hn,up_nodup hs⟩) fun g hg=>by
  rcases List.mem_cons.1 hg with rfl|hg
  ·exact hf
  ·exact h g hg
 simp only[List.length_cons] at this;omega
def headsP (r:RuleD) (fs:List FactB):Option (List FactB):=match allB (fun _=>fs) r.body with
 |none=>none
 |some R=>some (setF (R.filterMap fun l=>fillB r.head l))
def onceGo (n:Int) (fs:List FactB):List RuleD→List Nat→List FactB→Int×List FactB
 |[],_,acc=>(0,setF acc)
 |_::_,[],acc=>(0,setF acc)
 |r::p,s::ss,acc=>if(s:Int)=n then
   match headsP r fs with
   |none=>(4,[])
   |some x=>if 200<(setF (acc++x)).length then(5,[]) else onceGo n fs p ss (acc++x)
  else onceGo n fs p ss acc
def onceP (p:List RuleD) (ss:List Nat) (n:Int) (fs:List FactB):Int×List FactB:=onceGo n fs p ss fs
def overGo (p:List RuleD) (ss:List Nat) (n:Int):Nat→List FactB→Int×List FactB
 |0,l=>(0,l)
 |k+1,l=>if(onceP p ss n l).1≠0 then((onceP p ss n l).1,[]) else if(onceP p ss n l).2.length=l.length then(0,(onceP p ss n l).2) else overGo p ss n k (onceP p ss n l).2
def countP:List Nat→Nat
 |[]=>0
 |s::ss=>max (s+1) (countP ss)
theorem lt_countP:∀{ss:List Nat} {s:Nat},s∈ss→s<countP ss
 |t::ss,s,h=>by
  unfold countP
  rcases List.mem_cons.1 h with rfl|h
  ·omega
  ·have:=lt_countP h;omega
theorem countP_congr {ss tt:List Nat} (h:∀s,s∈ss↔s∈tt):countP ss=countP tt:=by
 have key:∀{a b:List Nat},(∀s∈a,s∈b)→countP a≤countP b:=by
  intro a
  induction a with
  |nil=>intro b _;exact Nat.zero_le _
  |cons x a ih=>
   intro b hb
   have h1:=ih fun s hs=>hb s (List.mem_cons_of_mem _ hs)
   have h2:=lt_countP (hb x (by simp))
   show max (x+1) (countP a)≤countP b
   omega
 exact Nat.le_antisymm (key fun s hs=>(h s).1 hs) (key fun s hs=>(h s).2 hs)
def runGo (p:List RuleD) (ss:List Nat):Nat→Nat→List FactB→Int×List FactB
 |0,_,l=>(0,l)
 |c+1,n,l=>if(overGo p ss n 201 l).1≠0 then((overGo p ss n 201 l).1,[]) else runGo p ss c (n+1) (overGo p ss n 201 l).2
def fitF (p:List RuleD) (f:FactB):Bool:=p.all fun r=>(r.head::r.body).all fun a=> !decide (bs a.name=f.1)||decide (a.terms.length=f.2.length)
structure RightR (r:RuleD):Prop where
 head:wrongAtom r.head=0
 yes:r.head.no=false
 body:wrongBody r.body=0
 vars:(vars r.head).all (givenBy r.body)=true
def atomsP (p:List RuleD):List AtomD:=p.flatMap fun r=>r.head::r.body
theorem fitAll_append (l q:List AtomD):∀m:Nums,fitAll m (l++q)=if(fitAll m l).1 then fitAll (fitAll m l).2 q else fitAll m l:=by
 induction l with
 |nil=>intro m;simp[fitAll]
 |cons a l ih=>
  intro m
  by_cases h:(fitOne m a).1=true
  ·have h1:∀q,fitAll m (a::q)=fitAll (fitOne m a).2 q:=fun q=>by rw[fitAll,if_pos h]
   rw[List.cons_append,h1,h1,ih]
  ·have h1:∀q,fitAll m (a::q)=(false,(fitOne m a).2):=fun q=>by rw[fitAll,if_neg h]
   rw[List.cons_append,h1,h1];rfl
theorem wrongRule_iff (m:Nums) (r:RuleD):(wrongRule m r).1=0↔RightR r∧(fitAll m (r.head::r.body)).1=true:=by
 unfold wrongRule
 constructor
 ·intro h
  split at h
  ·rename_i h1
   split at h
   ·cases h
   ·rename_i h2
    split at h
    ·rename_i h3
     split at h
     ·rename_i h4
      split at h
      ·rename_i h5
       refine⟨⟨h1,by simpa using h2,h3,h4⟩,?_⟩
       unfold fitAll
       rw[if_pos h5]
       dsimp only at h
       split at h
       ·assumption
       ·cases h
      ·cases h
     ·cases h
    ·rename_i h3;exact absurd h h3
  ·rename_i h1;exact absurd h h1
 ·rintro⟨⟨h1,h2,h3,h4⟩,h5⟩
  unfold fitAll at h5
  split at h5
  ·rename_i h6
   rw[if_pos h1,if_neg (by simp[h2]),if_pos h3,if_pos h4,if_pos h6,if_pos h5]
  ·cases h5
theorem wrongRule_next (m:Nums) (r:RuleD) (h:(wrongRule m r).1=0):(wrongRule m r).2=(fitAll m (r.head::r.body)).2:=by
 obtain⟨⟨h1,h2,h3,h4⟩,h5⟩:=(wrongRule_iff m r).1 h
 unfold fitAll at h5⊢
 split at h5
 ·rename_i h6
  unfold wrongRule
  rw[if_pos h1,if_neg (by simp[h2]),if_pos h3,if_pos h4,if_pos h6,if_pos h6]
 ·cases h5
theorem wrongGo_iff (p:List RuleD):∀(m:Nums) (i:Nat),(wrongGo m i p).1=0↔(∀r∈p,RightR r)∧(fitAll m (atomsP p)).1=true:=by
 induction p with
 |nil=>intro m i;simp[wrongGo,atomsP,fitAll]
 |cons r p ih=>
  intro m i
  have ea:atomsP (r::p)=(r.head::r.body)++atomsP p:=rfl
  rw[ea,fitAll_append]
  unfold wrongGo
  by_cases h:(wrongRule m r).1=0
  ·rw[if_pos h,ih,wrongRule_next m r h]
   obtain⟨h1,h2⟩:=(wrongRule_iff m r).1 h
   rw[if_pos h2]
   simp[h1]
  ·rw[if_neg h]
   refine⟨fun h'=>absurd h' h,fun⟨h1,h2⟩=> ?_⟩
   exfalso
   split at h2
   ·rename_i h3;exact h ((wrongRule_iff m r).2 ⟨h1 r (by simp),h3⟩)
   ·rename_i h3;exact h3 h2
def Even (l:List AtomD):Prop:=∀a∈l,∀b∈l,a.name=b.name→a.terms.length=b.terms.length
theorem fitAll_iff (l:List AtomD):∀m:Nums,(fitAll m l).1=true↔(∀a∈l,∀n,m a.name=some n→n=a.terms.length)∧Even l:=by
 induction l with
 |nil=>intro m;simp[fitAll,Even]
 |cons a l ih=>
  intro m
  unfold fitAll
  cases e:m a.name with
  |none=>
   have h1:fitOne m a=(true,m.put a.name a.terms.length):=by unfold fitOne;rw[e]
   rw[h1]
   simp only[if_true]
   rw[ih]
   constructor
   ·rintro⟨h2,h3⟩
    have h4:∀b∈l,b.name=a.name→a.terms.length=b.terms.length:=fun b hb hn=>h2 b hb _ (by unfold Nums.put;rw[if_pos hn])
    refine⟨fun b hb n hn=> ?_,fun b hb c hc hbc=> ?_⟩
    ·rcases List.mem_cons.1 hb with rfl|hb
     ·rw[e] at hn;cases hn
     ·by_cases hne:b.name=a.name
      ·rw[hne,e] at hn;cases hn
      ·exact h2 b hb n (by unfold Nums.put;rw[if_neg hne];exact hn)
    ·rcases List.mem_cons.1 hb with rfl|hb'
     ·rcases List.mem_cons.1 hc with rfl|hc
      ·rfl
      ·exact h4 c hc hbc.symm
     ·rcases List.mem_cons.1 hc with rfl|hc
      ·exact(h4 b hb' hbc).symm
      ·exact h3 b hb' c hc hbc
   ·rintro⟨h2,h3⟩
    refine⟨fun b hb n hn=> ?_,fun b hb c hc=>h3 b (by simp[hb]) c (by simp[hc])⟩
    unfold Nums.put at hn
    split at hn
    ·rename_i hne;cases hn;exact h3 a (by simp) b (by simp[hb]) hne.symm
    ·exact h2 b (by simp[hb]) n hn
  |some k=>
   have h1:fitOne m a=(decide (k=a.terms.length),m):=by unfold fitOne;rw[e]
   rw[h1]
   by_cases hk:k=a.terms.length
   ·simp only[hk,decide_true,if_true]
    rw[ih]
    have h4:(∀b∈l,∀n,m b.name=some n→n=b.terms.length)→∀b∈l,b.name=a.name→a.terms.length=b.terms.length:=fun h b hb hn=>h b hb _ (by rw[hn,e,hk])
    constructor
    ·rintro⟨h2,h3⟩
     refine⟨fun b hb n hn=> ?_,fun b hb c hc hbc=> ?_⟩
     ·rcases List.mem_cons.1 hb with rfl|hb
      ·rw[e] at hn;cases hn;exact hk
      ·exact h2 b hb n hn
     ·rcases List.mem_cons.1 hb with rfl|hb'
      ·rcases List.mem_cons.1 hc with rfl|hc
       ·rfl
       ·exact h4 h2 c hc hbc.symm
      ·rcases List.mem_cons.1 hc with rfl|hc
       ·exact(h4 h2 b hb' hbc).symm
       ·exact h3 b hb' c hc hbc
    ·rintro⟨h2,h3⟩
     exact⟨fun b hb=>h2 b (by simp[hb]),fun b hb c hc=>h3 b (by simp[hb]) c (by simp[hc])⟩
   ·simp only[hk,decide_false]
    refine⟨fun h=>by simp at h,fun⟨h2,_⟩=> ?_⟩
    exact absurd (h2 a (by simp) k e) hk
structure RightP (p:List RuleD):Prop where
 few:p.length≤16
 rules:∀r∈p,RightR r
 even:Even (atomsP p)
theorem rightP_iff {p:List RuleD}:(wrongP p).1=0↔RightP p:=by
 unfold wrongP
 constructor
 ·intro h
  split at h
  ·cases h
  ·rename_i h1
   obtain⟨h2,h3⟩:=(wrongGo_iff p _ _).1 h
   exact⟨by omega,h2,((fitAll_iff _ _).1 h3).2⟩
 ·rintro⟨h1,h2,h3⟩
  rw[if_neg (by omega)]
  exact(wrongGo_iff p _ _).2 ⟨h2,(fitAll_iff _ _).2 ⟨fun _ _ _ h=>(by simp at h),h3⟩⟩
theorem RightP.turned {p:List RuleD} (h:RightP p):RightP p.reverse:=
 ⟨by rw[List.length_reverse];exact h.few,fun r hr=>h.rules r (List.mem_reverse.1 hr),fun a ha b hb=>h.even a (by simpa[atomsP] using ha) b (by simpa[atomsP] using hb)⟩
end Go.Proofs.YtafmbokfkbccaaaGreatDoor
