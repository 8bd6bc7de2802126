import Derived.Test.YthngiikhgplldaaGreatDoorJR2
set_option maxRecDepth 100000
namespace Go.Proofs.YthngiikhgplldaaGreatDoor
abbrev aI:=ByteArray×ByteArray
def fu:List aI→ByteArray→Option ByteArray
 |[],_=>none
 |b::l,v=>if b.1=v then some b.2 else fu l v
def bU (l:List aI):List ByteArray:=l.map (·.1)
theorem gF (l m:List aI) (v:ByteArray):fu (l++m) v=match fu l v with|some s=>some s|none=>fu m v:=by
 induction l with
 |nil=>rfl
 |cons b l ih=>
  simp only[List.cons_append,fu];split;·rfl
  exact ih
theorem iC {l:List aI} {v:ByteArray}:fu l v=none↔v∉bU l:=by
 induction l with
 |nil=>simp[fu,bU]
 |cons b l ih=>
  simp only[fu,bU,List.map_cons,List.mem_cons,not_or];split;·rename_i h;simp[h]
  rename_i h;rw[ih];exact⟨fun h'=>⟨fun e=>h e.symm,h'⟩,fun h'=>h'.2⟩
theorem sK {l:List aI} {v s:ByteArray} (h:fu l v=some s):(v,s)∈l:=by
 induction l with
 |nil=>cases h
 |cons b l ih=>
  simp only[fu] at h;split at h;·rename_i e;cases h;subst e;exact List.mem_cons_self
  exact List.mem_cons_of_mem _ (ih h)
theorem oF {l:List aI} (hn:(bU l).Nodup) {v s:ByteArray} (h:(v,s)∈l):fu l v=some s:=by
 induction l with
 |nil=>cases h
 |cons b l ih=>
  have hn':b.1∉bU l∧(bU l).Nodup:=List.nodup_cons.1 hn;rcases List.mem_cons.1 h with e|h
  ·subst e;simp[fu]
  have:b.1≠v:=fun e=>hn'.1 (by rw[e];exact List.mem_map.2 ⟨_,h,rfl⟩);simp only[fu,if_neg this];exact ih hn'.2 h
theorem kY {l:List aI} {v:ByteArray} (h:v∈bU l):∃s,fu l v=some s:=by
 cases e:fu l v with
 |none=>exact absurd h (iC.1 e)
 |some s=>exact⟨s,rfl⟩
theorem Ay {l m:List aI} (h:l.Perm m) (hn:(bU l).Nodup) (v:ByteArray):fu l v=fu m v:=by
 have hm:(bU m).Nodup:=(h.map _).nodup_iff.1 hn;cases e:fu l v with
 |none=>exact(iC.2 fun hv=>iC.1 e ((h.map _).mem_iff.2 hv)).symm
 |some s=>exact(oF hm (h.mem_iff.1 (sK e))).symm
def bH (l:List aI) (t:dM):Option ByteArray:=if t.1 then fu l (bs t.2) else some (bs t.2)
def aT (l:List aI):List dM→Option (List ByteArray)
 |[]=>some []
 |t::ts=>match bH l t with
  |none=>none
  |some s=>match aT l ts with
   |none=>none
   |some r=>some (s::r)
abbrev aF:=ByteArray×List ByteArray
def bf (a:aJ) (l:List aI):Option aF:=match aT l a.terms with
 |none=>none
 |some r=>some (bs a.name,r)
def dN (l:List aI):List dM→List ByteArray→Option (List aI)
 |[],_=>some l
 |_::_,[]=>none
 |t::ts,x::xs=>match bH l t with
  |none=>dN (l++[(bs t.2,x)]) ts xs
  |some s=>if s=x then dN l ts xs else none
def fA (a:aJ) (f:aF) (l:List aI):Option (List aI):=
 if bs a.name=f.1∧a.terms.length=f.2.length then dN l a.terms f.2 else none
def aQ (a:aJ) (fs:List aF) (ls:List (List aI)):List (List aI):=ls.flatMap fun l=>fs.filterMap fun f=>fA a f l
def eu (pick:Nat→List aF):Nat→List aJ→List (List aI)→Option (List (List aI))
 |_,[],ls=>some ls
 |n,a::ats,ls=>if a.no then eu pick (n+1) ats ls
  else if 20000<(aQ a (pick n) ls).length then none
  else eu pick (n+1) ats (aQ a (pick n) ls)
def inB (l:List aF) (f:aF):Bool:=l.any fun x=>decide (x=f)
theorem dD {l:List aF} {f:aF}:inB l f=true↔f∈l:=by unfold inB;rw[List.any_eq_true];exact⟨fun⟨x,hx,e⟩=>by rw[decide_eq_true_eq] at e;rw[←e];exact hx,fun h=>⟨f,h,by simp⟩⟩
def barredB (pick:Nat→List aF):Nat→List aJ→List aI→Bool
 |_,[],_=>false
 |n,a::ats,l=>(a.no&&(match bf a l with|some f=>inB (pick n) f|none=>false))||barredB pick (n+1) ats l
theorem gZ {l m:List aI} {t:dM} {s:ByteArray} (h:bH l t=some s):bH (l++m) t=some s:=by
 unfold bH at*;split;·rename_i ht;rw[if_pos ht] at h;rw[gF,h]
 rename_i ht;rw[if_neg ht] at h;exact h
theorem jQ {l m:List aI}:∀{ts:List dM} {r:List ByteArray},aT l ts=some r→aT (l++m) ts=some r
 |[],r,h=>h
 |t::ts,r,h=>by
  simp only[aT] at h⊢;cases e:bH l t with
  |none=>rw[e] at h;cases h
  |some s=>
   rw[e] at h;rw[gZ e];dsimp only at h⊢;cases e2:aT l ts with
   |none=>rw[e2] at h;cases h
   |some q=>
    rw[e2] at h;rw[jQ e2];exact h
theorem uR {l m:List aI} {a:aJ} {f:aF} (h:bf a l=some f):bf a (l++m)=some f:=by
 unfold bf at*;cases e:aT l a.terms with
 |none=>rw[e] at h;cases h
 |some r=>rw[e] at h;rw[jQ e];exact h
theorem kM {l m:List aI}:∀{ts:List dM},(∀t∈ts,t.1=true→fu l (bs t.2)=fu m (bs t.2))→aT l ts=aT m ts
 |[],_=>rfl
 |t::ts,h=>by
  have e1:bH l t=bH m t:=by
   unfold bH;split;·rename_i ht;exact h t List.mem_cons_self ht
   rfl
  simp only[aT];rw[e1,kM (ts:=ts) fun t ht=>h t (List.mem_cons_of_mem _ ht)]
theorem oG {l m:List aI} {a:aJ} (h:∀t∈a.terms,t.1=true→fu l (bs t.2)=fu m (bs t.2)):bf a l=bf a m:=by unfold bf;rw[kM h]
theorem jd {l m:List aI} (h:l.Perm m) (hn:(bU l).Nodup) (a:aJ):bf a l=bf a m:=oG fun _ _ _=>Ay h hn _
theorem lT {l:List aI}:∀{ts:List dM},(∀t∈ts,t.1=true→bs t.2∈bU l)→∃r,aT l ts=some r
 |[],_=>⟨[],rfl⟩
 |t::ts,h=>by
  obtain⟨r,hr⟩:=lT (ts:=ts) fun t ht=>h t (List.mem_cons_of_mem _ ht);have:∃s,bH l t=some s:=by
   unfold bH;split;·rename_i ht;exact kY (h t List.mem_cons_self ht)
   exact⟨_,rfl⟩
  obtain⟨s,hs⟩:=this;exact⟨s::r,by simp only[aT,hs,hr]⟩
theorem qQ {l:List aI} {a:aJ} (h:∀t∈a.terms,t.1=true→bs t.2∈bU l):∃f,bf a l=some f:=by obtain⟨r,hr⟩:=lT h;exact⟨(bs a.name,r),by unfold bf;rw[hr]⟩
theorem jR {l:List aI}:∀{ts:List dM} {r:List ByteArray},aT l ts=some r→r.length=ts.length
 |[],r,h=>by cases h;rfl
 |t::ts,r,h=>by
  simp only[aT] at h;cases e:bH l t with
  |none=>rw[e] at h;cases h
  |some s=>
   rw[e] at h;dsimp only at h;cases e2:aT l ts with
   |none=>rw[e2] at h;cases h
   |some q=>rw[e2] at h;cases h;simp[jR e2]
theorem zm (K:List Bs) (s:Bs):∃r,dz K s=K++r:=by
 unfold dz;split;·exact⟨[],by simp⟩
 exact⟨[s],rfl⟩
theorem gG (K:List Bs) (t:dM) (ts:List dM):bG K (t::ts)=bG (if t.1 then dz K t.2 else K) ts:=rfl
theorem je:∀(ts:List dM) (K:List Bs),∃r,bG K ts=K++r
 |[],K=>⟨[],by simp[bG]⟩
 |t::ts,K=>by
  rw[gG];split;·obtain⟨r1,h1⟩:=zm K t.2;obtain⟨r2,h2⟩:=je ts (dz K t.2);exact⟨r1++r2,by rw[h2,h1,List.append_assoc]⟩
  exact je ts K
theorem uS {K:List Bs} (h:K.Nodup) (s:Bs):(dz K s).Nodup:=by
 unfold dz;split;·exact h
 rename_i hc;rw[List.nodup_append];refine⟨h,by simp,fun a ha b hb=>?_⟩;simp at hb;subst hb;intro e;subst e;simp at hc;exact hc ha
theorem jS:∀(ts:List dM) {K:List Bs},K.Nodup→(bG K ts).Nodup
 |[],_,h=>h
 |t::ts,K,h=>by
  rw[gG];split;·exact jS ts (uS h _)
  exact jS ts h
theorem zn {K:List Bs} {s v:Bs}:v∈dz K s↔v∈K∨v=s:=by
 unfold dz;split;·rename_i h;simp at h;exact⟨Or.inl,fun h'=>h'.elim id fun e=>by rw[e];exact h⟩
 simp
theorem kr:∀(ts:List dM) {K:List Bs} {v:Bs},v∈bG K ts↔v∈K∨∃t∈ts,t.1=true∧t.2=v
 |[],K,v=>by simp[bG]
 |t::ts,K,v=>by
  rw[gG,kr ts];cases ht:t.1;·simp[ht]
  simp only[if_true,zn,List.mem_cons,exists_eq_or_imp,ht,true_and]
  constructor
  ·rintro((h|h)|h);·exact Or.inl h
   ·exact Or.inr (Or.inl h.symm)
   exact Or.inr (Or.inr h)
  rintro(h|h|h);·exact Or.inl (Or.inl h)
  ·exact Or.inl (Or.inr h.symm)
  exact Or.inr h
theorem fJ {K:List Bs} {v:Bs}:bs v∈K.map bs↔v∈K:=by
 constructor
 ·intro h;obtain⟨x,hx,e⟩:=List.mem_map.1 h;rw[←oD e];exact hx
 exact fun h=>List.mem_map.2 ⟨_,h,rfl⟩
theorem uT {K:List Bs} (h:K.Nodup):(K.map bs).Nodup:=by rw[List.Nodup,List.pairwise_map];exact h.imp fun hne e=>hne (oD e)
theorem oH:∀(ts:List dM) (xs:List ByteArray) (l m:List aI) (K:List Bs),ts.length=xs.length→bU l=K.map bs→dN l ts xs=some m→
  (∃r,m=l++r)∧bU m=(bG K ts).map bs∧aT m ts=some xs
 |[],[],l,m,K,_,hk,h=>by cases h;exact⟨⟨[],by simp⟩,hk,rfl⟩
 |[],_::_,_,_,_,hl,_,_=>by simp at hl
 |_::_,[],_,_,_,hl,_,_=>by simp at hl
 |t::ts,x::xs,l,m,K,hl,hk,h=>by
  have hl':ts.length=xs.length:=by simpa using hl
  simp only[dN] at h;cases e:bH l t with
  |none=>
   rw[e] at h;dsimp only at h;have ht:t.1=true:=by
    unfold bH at e;split at e;·assumption
    cases e
   have hg:fu l (bs t.2)=none:=by unfold bH at e;rwa [if_pos ht] at e
   have hnk:t.2∉K:=fun hm=>iC.1 hg (by rw[hk];exact fJ.2 hm);have ha:dz K t.2=K++[t.2]:=by unfold dz;rw[if_neg (by simpa using hnk)]
   obtain⟨⟨r,hr⟩,h2,h3⟩:=oH ts xs (l++[(bs t.2,x)]) m (K++[t.2]) hl' (by simp[bU] at hk⊢;exact hk) h;refine⟨⟨(bs t.2,x)::r,by rw[hr];simp⟩,by rw[gG,if_pos ht,ha];exact h2,?_⟩;simp only[aT];have hw:bH m t=some x:=by rw[hr];refine gZ ?_;unfold bH;rw[if_pos ht,gF,hg];simp[fu]
   rw[hw,h3]
  |some s=>
   rw[e] at h;dsimp only at h;split at h
   ·rename_i hs;subst hs;have hK:(if t.1=true then dz K t.2 else K)=K:=by
     split
     ·rename_i ht;unfold bH at e;rw[if_pos ht] at e;unfold dz;rw[if_pos];have:bs t.2∈bU l:=Classical.byContradiction fun hk=>by rw[iC.2 hk] at e;cases e
      rw[hk] at this;simpa using fJ.1 this
     rfl
    obtain⟨⟨r,hr⟩,h2,h3⟩:=oH ts xs l m K hl' hk h;refine⟨⟨r,hr⟩,by rw[gG,hK];exact h2,?_⟩;simp only[aT];rw[show bH m t=some s by rw[hr];exact gZ e,h3]
   cases h
theorem oI:∀(ts:List dM) (xs:List ByteArray) (l m r:List aI) (K:List Bs),bU l=K.map bs→m=l++r→bU m=(bG K ts).map bs→aT m ts=some xs→dN l ts xs=some m
 |[],xs,l,m,r,K,hk,hm,hv,_=>by
  have e:r=[]:=by
   have h1:(bU m).length=(bU l).length:=by rw[hv,hk];simp[bG]
   rw[hm] at h1;simp[bU] at h1;exact h1
  rw[hm,e];simp[dN]
 |t::ts,xs,l,m,r,K,hk,hm,hv,hf=>by
  simp only[aT] at hf;cases e:bH m t with
  |none=>rw[e] at hf;cases hf
  |some s=>
   rw[e] at hf;dsimp only at hf;cases e2:aT m ts with
   |none=>rw[e2] at hf;cases hf
   |some q=>
    rw[e2] at hf;cases hf;rw[gG] at hv;simp only[dN];cases e3:bH l t with
    |some s'=>
     have:=gZ (m:=r) e3;rw[←hm,e] at this;cases this;dsimp only;rw[if_pos rfl];have hK:(if t.1=true then dz K t.2 else K)=K:=by
      split
      ·rename_i ht;unfold bH at e3;rw[if_pos ht] at e3;unfold dz;rw[if_pos];have:bs t.2∈bU l:=Classical.byContradiction fun hk=>by rw[iC.2 hk] at e3;cases e3
       rw[hk] at this;simpa using fJ.1 this
      rfl
     rw[hK] at hv;exact oI ts q l m r K hk hm hv e2
    |none=>
     dsimp only;have ht:t.1=true:=by
      unfold bH at e3;split at e3;·assumption
      cases e3
     have hg:fu l (bs t.2)=none:=by unfold bH at e3;rwa [if_pos ht] at e3
     have hnk:t.2∉K:=fun hm=>iC.1 hg (by rw[hk];exact fJ.2 hm);have ha:dz K t.2=K++[t.2]:=by unfold dz;rw[if_neg (by simpa using hnk)]
     rw[if_pos ht,ha] at hv;obtain⟨q',hq'⟩:=je ts (K++[t.2]);have hkr:bU r=bs t.2::q'.map bs:=by have h1:=hv;rw[hq',hm] at h1;simp only[bU,List.map_append] at h1 hk⊢;rw[hk,List.append_assoc] at h1;simpa using List.append_cancel_left h1
     cases r with
     |nil=>simp[bU] at hkr
     |cons b r'=>
      have hb:b.1=bs t.2:=by simp[bU] at hkr;exact hkr.1
      have hbs:b.2=s:=by unfold bH at e;rw[if_pos ht,hm,gF,hg] at e;simp only[fu,hb,if_true] at e;exact Option.some.inj e
      have hbe:b=(bs t.2,s):=by rw[←hb,←hbs]
      subst hbe;exact oI ts q (l++[(bs t.2,s)]) m r' (K++[t.2]) (by simp[bU] at hk⊢;exact hk) (by rw[hm];simp) hv e2
theorem yu {a:aJ} {f:aF} {l m:List aI} {K:List Bs} (hk:bU l=K.map bs) (h:fA a f l=some m):(∃r,m=l++r)∧bU m=(bG K a.terms).map bs∧bf a m=some f:=by
 unfold fA at h;split at h;·rename_i hc;obtain⟨h1,h2,h3⟩:=oH a.terms f.2 l m K hc.2 hk h;exact⟨h1,h2,by unfold bf;rw[h3,hc.1]⟩
 cases h
theorem Dg {a:aJ} {f:aF} {l m r:List aI} {K:List Bs} (hk:bU l=K.map bs) (hm:m=l++r) (hv:bU m=(bG K a.terms).map bs) (hf:bf a m=some f):fA a f l=some m:=by
 unfold bf at hf;cases e:aT m a.terms with
 |none=>rw[e] at hf;cases hf
 |some x=>
  rw[e] at hf;cases hf;unfold fA;rw[if_pos ⟨rfl,(jR e).symm⟩];exact oI a.terms x l m r K hk hm hv e
section
variable {α:Type} {c:α→α→Int}
theorem Three.le_trans (h:Three c) {a b d:α} (h1:c a b≤0) (h2:c b d≤0):c a d≤0:=by
 by_cases e1:c a b=0
 ·rw[h.zero _ _ e1];exact h2
 by_cases e2:c b d=0
 ·rw[←h.zero _ _ e2];exact h1
 have:=h.trans a b d (by omega) (by omega);omega
theorem Three.anti (h:Three c) {a b:α} (h1:c a b≤0) (h2:c b a≤0):a=b:=h.zero a b (by have:=h.swap a b;omega)
theorem sM (h:Three c):∀{s t:List α},s.Pairwise (fun a b=>c a b<0)→t.Pairwise (fun a b=>c a b<0)→(∀x,x∈s↔x∈t)→s=t
 |[],[],_,_,_=>rfl
 |[],b::t,_,_,e=>absurd ((e b).2 List.mem_cons_self) (by simp)
 |a::s,[],_,_,e=>absurd ((e a).1 List.mem_cons_self) (by simp)
 |a::s,b::t,hs,ht,e=>by
  have hs':=List.pairwise_cons.1 hs;have ht':=List.pairwise_cons.1 ht;have hab:a=b:=by
   rcases List.mem_cons.1 ((e a).1 List.mem_cons_self) with h1|h1;·exact h1
   rcases List.mem_cons.1 ((e b).2 List.mem_cons_self) with h2|h2;·exact h2.symm
   have x1:=ht'.1 a h1;have x2:=hs'.1 b h2;have:=h.swap a b;omega
  subst hab;have irr:c a a=0:=h.refl a;rw[sM h hs'.2 ht'.2 fun x=>⟨fun hx=>?_,fun hx=>?_⟩]
  ·rcases List.mem_cons.1 ((e x).1 (List.mem_cons_of_mem _ hx)) with h1|h1;·subst h1;have:=hs'.1 x hx;omega
   exact h1
  rcases List.mem_cons.1 ((e x).2 (List.mem_cons_of_mem _ hx)) with h1|h1;·subst h1;have:=ht'.1 x hx;omega
  exact h1
theorem lU (h:Three c):∀{l m:List α},l.Perm m→l.Pairwise (fun a b=>c a b≤0)→m.Pairwise (fun a b=>c a b≤0)→l=m
 |[],m,hp,_,_=>hp.nil_eq
 |a::l,[],hp,_,_=>by simpa using hp.length_eq
 |a::l,b::m,hp,hl,hm=>by
  have hl':=List.pairwise_cons.1 hl;have hm':=List.pairwise_cons.1 hm;have hab:a=b:=by
   rcases List.mem_cons.1 (hp.mem_iff.1 List.mem_cons_self) with h1|h1;·exact h1
   rcases List.mem_cons.1 (hp.mem_iff.2 (List.mem_cons_self (a:=b) (l:=m))) with h2|h2;·exact h2.symm
   exact h.anti (hl'.1 b h2) (hm'.1 a h1)
  subst hab;rw[lU h (List.Perm.cons_inv hp) hl'.2 hm'.2]
def jf (c:α→α→Int) (l:List α):List α:=l.mergeSort fun a b=>decide (c a b≤0)
theorem bF (l:List α):(jf c l).Perm l:=List.mergeSort_perm _ _
theorem jr (h:Three c) (l:List α):(jf c l).Pairwise fun a b=>c a b≤0:=by
 have:=List.pairwise_mergeSort (le:=fun a b=>decide (c a b≤0)) (fun a b d h1 h2=>by
  simp only[decide_eq_true_eq] at*;exact h.le_trans h1 h2) (fun a b=>by
  simp only[Bool.or_eq_true,decide_eq_true_eq];have:=h.swap a b;omega) l
 exact this.imp fun h=>by simpa using h
theorem uU (h:Three c) {l m:List α} (hp:m.Perm l) (hs:m.Pairwise fun a b=>c a b≤0):m=jf c l:=
 lU h (hp.trans (bF l).symm) hs (jr h l)
theorem uV (h:Three c) {l:List α} (hs:l.Pairwise fun a b=>c a b≤0) (hn:l.Nodup):l.Pairwise fun a b=>c a b<0:=
 (hs.and hn).imp fun {a b} ⟨h1,h2⟩=>by
  rcases Int.lt_or_eq_of_le h1 with h3|h3;·exact h3
  exact absurd (h.zero _ _ h3) h2
theorem uW (h:Three c) {l:List α} (hs:l.Pairwise fun a b=>c a b<0):l.Nodup:=hs.imp fun {a b} h1 e=>by subst e;rw[h.refl] at h1;omega
def sN (c:α→α→Int):List α→List α→Int
 |[],[]=>0
 |[],_::_=> -1
 |_::_,[]=>1
 |a::x,b::y=>if c a b≠0 then c a b else sN c x y
theorem uX (h:Three c):∀x y,sN c y x= -sN c x y
 |[],[]=>rfl
 |[],_::_=>rfl
 |_::_,[]=>rfl
 |a::x,b::y=>by
  have:=h.swap a b;simp only[sN]
  by_cases e:c a b=0
  ·rw[if_neg (by omega),if_neg (by omega)];exact uX h x y
  rw[if_pos (by omega),if_pos e];omega
theorem uY (h:Three c):∀x y,sN c x y=0→x=y
 |[],[],_=>rfl
 |[],_::_,e=>by simp[sN] at e
 |_::_,[],e=>by simp[sN] at e
 |a::x,b::y,e=>by
  simp only[sN] at e
  by_cases e':c a b=0
  ·rw[if_neg (by omega)] at e;rw[h.zero _ _ e',uY h x y e]
  rw[if_pos e'] at e;exact absurd e e'
theorem qR (h:Three c):∀x y z,sN c x y<0→sN c y z<0→sN c x z<0
 |[],[],z,h1,_=>by simp[sN] at h1
 |[],_::_,[],_,h2=>by simp[sN] at h2
 |[],_::_,_::_,_,_=>by simp[sN]
 |_::_,[],_,h1,_=>by simp[sN] at h1
 |_::_,_::_,[],_,h2=>by simp[sN] at h2
 |a::x,b::y,d::z,h1,h2=>by
  simp only[sN] at h1 h2⊢
  by_cases e1:c a b=0
  ·rw[if_neg (by omega)] at h1;have:=h.zero _ _ e1;subst this
   by_cases e2:c a d=0
   ·rw[if_neg (by omega)] at h2⊢;exact qR h x y z h1 h2
   rw[if_pos e2] at h2⊢;exact h2
  rw[if_pos e1] at h1
  by_cases e2:c b d=0
  ·have:=h.zero _ _ e2;subst this;rw[if_pos e1];exact h1
  rw[if_pos e2] at h2;have:=h.trans a b d h1 h2;rw[if_pos (by omega)];exact this
theorem zo (h:Three c):Three (sN c):=⟨fun a b=>uX h a b,uY h,qR h⟩
def uZ (a b:aI):Int:=if gV a.1 b.1≠0 then gV a.1 b.1 else gV a.2 b.2
theorem gH:Three uZ where
 swap a b:=by
  have h1:=bJ.swap a.1 b.1;have h2:=bJ.swap a.2 b.2;unfold uZ
  by_cases e:gV a.1 b.1=0
  ·rw[if_neg (by omega),if_neg (by omega)];exact h2
  rw[if_pos (by omega),if_pos e];exact h1
 zero a b h:=by
  unfold uZ at h
  by_cases e:gV a.1 b.1=0
  ·rw[if_neg (by omega)] at h;have:=bJ.zero _ _ e;have:=bJ.zero _ _ h;obtain⟨a1,a2⟩:=a;obtain⟨b1,b2⟩:=b
   simp_all
  rw[if_pos e] at h;exact absurd h e
 trans a b d h k:=by
  unfold uZ at*
  by_cases e1:gV a.1 b.1=0
  ·rw[if_neg (by omega)] at h;rw[bJ.zero _ _ e1]
   by_cases e2:gV b.1 d.1=0
   ·rw[if_neg (by omega)] at k⊢;exact bJ.trans _ _ _ h k
   rw[if_pos e2] at k⊢;exact k
  rw[if_pos e1] at h
  by_cases e2:gV b.1 d.1=0
  ·rw[←bJ.zero _ _ e2,if_pos e1];exact h
  rw[if_pos e2] at k;have:=bJ.trans _ _ _ h k;rw[if_pos (by omega)];exact this
abbrev gW:List aI→List aI→Int:=sN uZ
theorem iD:Three gW:=zo gH
abbrev jg (l:List aI):List aI:=jf uZ l
def mK (pick:Nat→List aF) (body:List aJ):Option (List (List aI)):=match eu pick 0 body [[]] with
 |none=>none
 |some ms=>some (jf gW ((ms.filter fun l=> !barredB pick 0 body l).map jg))
def fD (K:List Bs) (ats:List aJ):List Bs:=ats.foldl (fun K a=>if a.no then K else bG K a.terms) K
theorem iL (K:List Bs) (a:aJ) (ats:List aJ):fD K (a::ats)=fD (if a.no then K else bG K a.terms) ats:=rfl
theorem kZ:∀(ats:List aJ) (K:List Bs),∃r,fD K ats=K++r
 |[],K=>⟨[],by simp[fD]⟩
 |a::ats,K=>by
  rw[iL];split;·exact kZ ats K
  obtain⟨r1,h1⟩:=je a.terms K;obtain⟨r2,h2⟩:=kZ ats (bG K a.terms);exact⟨r1++r2,by rw[h2,h1,List.append_assoc]⟩
theorem jv:∀(ats:List aJ) {K:List Bs},K.Nodup→(fD K ats).Nodup
 |[],_,h=>h
 |a::ats,K,h=>by
  rw[iL];split;·exact jv ats h
  exact jv ats (jS _ h)
theorem lg:∀(ats:List aJ) {K:List Bs} {v:Bs},v∈fD K ats↔v∈K∨∃a∈ats,a.no=false∧∃t∈a.terms,t.1=true∧t.2=v
 |[],K,v=>by simp[fD]
 |a::ats,K,v=>by
  rw[iL,lg ats];cases ha:a.no;·simp only[Bool.false_eq_true,if_false,kr,List.mem_cons,exists_eq_or_imp,ha,true_and,or_assoc]
  simp[ha]
theorem iM {a:aJ} {fs:List aF} {ls:List (List aI)} {m:List aI}:m∈aQ a fs ls↔∃l∈ls,∃f∈fs,fA a f l=some m:=by simp[aQ,List.mem_flatMap,List.mem_filterMap]
theorem Az {m:List aI} {K r:List Bs} (h:bU m=(K++r).map bs):bU (m.take K.length)=K.map bs:=by unfold bU at*;rw[List.map_take,h,List.map_append,List.take_append_of_le_length (by simp),List.take_of_length_le (by simp)]
theorem mU (pick:Nat→List aF):∀(ats:List aJ) (n:Nat) (ls ms:List (List aI)) (K:List Bs),(∀l∈ls,bU l=K.map bs)→eu pick n ats ls=some ms→
  ∀m,m∈ms↔(∃l∈ls,∃r,m=l++r)∧bU m=(fD K ats).map bs∧∀i a,ats[i]?=some a→a.no=false→∃f∈pick (n+i),bf a m=some f
 |[],n,ls,ms,K,hK,h,m=>by
  cases h
  constructor
  ·intro hm;exact⟨⟨m,hm,[],by simp⟩,hK m hm,fun i a h=>by simp at h⟩
  rintro⟨⟨l,hl,r,e⟩,hk,_⟩;have h1:=hK l hl;have:r=[]:=by
   have h2:(bU m).length=(bU l).length:=by rw[hk,h1];simp[fD]
   rw[e] at h2;simp[bU] at h2;exact h2
  rw[e,this];simpa using hl
 |a::ats,n,ls,ms,K,hK,h,m=>by
  simp only[eu] at h;rw[iL];have shift:(∀i b,(a::ats)[i]?=some b→b.no=false→∃f∈pick (n+i),bf b m=some f)↔((a.no=false→∃f∈pick n,bf a m=some f)∧∀i b,ats[i]?=some b→b.no=false→∃f∈pick (n+1+i),bf b m=some f):=by
   constructor
   ·intro H;refine⟨H 0 a rfl,fun i b hb=>?_⟩;have:=H (i+1) b (by simpa using hb)
    rwa [show n+(i+1)=n+1+i by omega] at this
   rintro⟨H0,H1⟩ i b hb;cases i with
   |zero=>simp at hb;subst hb;exact H0
   |succ i=>have:=H1 i b (by simpa using hb);rwa [show n+1+i=n+(i+1) by omega] at this
  rw[shift];cases ha:a.no
  ·rw[ha] at h;simp only[Bool.false_eq_true,if_false,true_imp_iff] at h⊢;split at h;·cases h
   have hK':∀l∈aQ a (pick n) ls,bU l=(bG K a.terms).map bs:=fun l hl=>by obtain⟨l0,hl0,f,_,hm⟩:=iM.1 hl;exact(yu (hK l0 hl0) hm).2.1
   rw[mU pick ats (n+1) _ ms _ hK' h m]
   constructor
   ·rintro⟨⟨l',hl',r,e⟩,hk,hr⟩;obtain⟨l,hl,f,hf,hm⟩:=iM.1 hl';obtain⟨⟨r0,e0⟩,_,EU⟩:=yu (hK l hl) hm;exact⟨⟨l,hl,r0++r,by rw[e,e0,List.append_assoc]⟩,hk,⟨f,hf,by rw[e];exact uR EU⟩,hr⟩
   rintro⟨⟨l,hl,r,e⟩,hk,⟨f,hf,EU⟩,hr⟩;obtain⟨q,hq⟩:=kZ ats (bG K a.terms);rw[hq] at hk;have hk1:=Az hk;obtain⟨m1,hm1⟩:∃m1,m1=m.take (bG K a.terms).length:=⟨_,rfl⟩;rw[←hm1] at hk1;have hsplit:m=m1++m.drop (bG K a.terms).length:=by rw[hm1];exact(List.take_append_drop _ _).symm
   obtain⟨r0,hr0⟩:=je a.terms K;have hll:l.length=K.length:=by have:=congrArg List.length (hK l hl);simpa[bU] using this
   have hpre:m1=l++r.take (r0.length):=by rw[hm1,e,hr0,List.length_append,←hll,List.take_length_add_append]
   have hf1:bf a m1=some f:=by
    rw[←EU];refine oG fun t ht htv=>?_;have hmem:bs t.2∈bU m1:=by rw[hk1];exact fJ.2 ((kr _).2 (Or.inr ⟨t,ht,htv,rfl⟩))
    obtain⟨s,hs⟩:=kY hmem;rw[hsplit,gF,hs]
   refine⟨⟨m1,iM.2 ⟨l,hl,f,hf,Dg (hK l hl) hpre hk1 hf1⟩,_,hsplit⟩,by rw[hq];exact hk,hr⟩
  rw[ha] at h;simp only[if_true,Bool.true_eq_false,false_imp_iff,true_and] at h⊢;exact mU pick ats (n+1) ls ms K hK h m
def bW (fs:List aF) (at_:Int) (os:List aF):Nat→List aF:=fun n=>if(n:Int)=at_ then os else fs
end
theorem yw {a:aJ} {v:Bs}:v∈vars a↔∃t∈a.terms,t.1=true∧t.2=v:=by unfold vars;rw[kr];simp
def Covers (body:List aJ):Prop:=∀a∈body,∀t∈a.terms,t.1=true→t.2∈fD [] body
theorem vg {body:List aJ} (h:aM body=0):Covers body:=by
 unfold aM at h;split at h;·simp at h
 split at h
 ·split at h;·rename_i hall;intro a ha t ht htv;rw[List.all_eq_true] at hall;have h1:=hall a ha;rw[List.all_eq_true] at h1;have h2:=h1 t.2 (yw.2 ⟨t,ht,htv,rfl⟩);unfold givenBy at h2;rw[List.any_eq_true] at h2;obtain⟨b,hb,h3⟩:=h2;simp only[Bool.and_eq_true,Bool.not_eq_true',List.contains_eq_mem,decide_eq_true_eq] at h3;refine(lg body).2 (Or.inr ⟨b,hb,h3.1,?_⟩);exact yw.1 h3.2
  simp at h
 rename_i hne;exact absurd h hne
theorem lq (pick:Nat→List aF) (l:List aI):∀(ats:List aJ) (n:Nat),barredB pick n ats l=true↔∃i a,ats[i]?=some a∧a.no=true∧∃f∈pick (n+i),bf a l=some f
 |[],n=>by simp[barredB]
 |a::ats,n=>by
  simp only[barredB,Bool.or_eq_true,Bool.and_eq_true];rw[lq pick l ats (n+1)]
  constructor
  ·rintro(⟨h1,h2⟩|⟨i,b,hb,h1,f,hf,h2⟩)
   ·cases e:bf a l with
    |none=>rw[e] at h2;cases h2
    |some f=>
     rw[e] at h2;exact⟨0,a,rfl,h1,f,dD.1 h2,e⟩
   exact⟨i+1,b,by simpa using hb,h1,f,by rwa [show n+(i+1)=n+1+i by omega],h2⟩
  rintro⟨i,b,hb,h1,f,hf,h2⟩;cases i with
  |zero=>
   simp at hb;subst hb;exact Or.inl ⟨h1,by rw[h2];exact dD.2 hf⟩
  |succ i=>exact Or.inr ⟨i,b,by simpa using hb,h1,f,by rwa [show n+1+i=n+(i+1) by omega],h2⟩
def SoB (pick:Nat→List aF) (body:List aJ) (l:List aI):Prop:=∀i a,body[i]?=some a→∃f,bf a l=some f∧inB (pick i) f= !a.no
theorem SoB.perm {pick:Nat→List aF} {body:List aJ} {l m:List aI} (h:SoB pick body l) (hp:l.Perm m) (hn:(bU l).Nodup):SoB pick body m:=fun i a ha=>by obtain⟨f,h1,h2⟩:=h i a ha;exact⟨f,by rw[←jd hp hn];exact h1,h2⟩
theorem nN {β:Type} {l:List β} {i:Nat} {a:β} (h:l[i]?=some a):a∈l:=by obtain⟨hi,rfl⟩:=List.getElem?_eq_some_iff.1 h;exact List.getElem_mem hi
theorem yx {pick:Nat→List aF} {body:List aJ} (hc:Covers body) {ms:List (List aI)} (h:eu pick 0 body [[]]=some ms) (m:List aI):
  m∈ms.filter (fun l=> !barredB pick 0 body l)↔bU m=(fD [] body).map bs∧SoB pick body m:=by
 rw[List.mem_filter,mU pick body 0 [[]] ms [] (fun l hl=>by simp at hl;subst hl;rfl) h m];simp only[Bool.not_eq_true',Nat.zero_add]
 constructor
 ·rintro⟨⟨_,hk,hpos⟩,hb⟩;refine⟨hk,fun i a ha=>?_⟩;cases hno:a.no;·obtain⟨f,hf,h1⟩:=hpos i a ha hno;exact⟨f,h1,by rw[dD.2 hf];rfl⟩
  obtain⟨f,hf⟩:=qQ (l:=m) (a:=a) fun t ht htv=>by rw[hk];exact fJ.2 (hc a (nN ha) t ht htv)
  refine⟨f,hf,?_⟩;cases e:inB (pick i) f;·rfl
  have:barredB pick 0 body m=true:=(lq pick m body 0).2 ⟨i,a,ha,hno,f,by rw[Nat.zero_add];exact dD.1 e,hf⟩;rw[hb] at this;cases this
 rintro⟨hk,hso⟩;refine⟨⟨⟨[],by simp,m,by simp⟩,hk,fun i a ha hno=>?_⟩,?_⟩;·obtain⟨f,h1,h2⟩:=hso i a ha;rw[hno] at h2;exact⟨f,dD.1 h2,h1⟩
 cases e:barredB pick 0 body m;·rfl
 obtain⟨i,a,ha,hno,f,hf,h1⟩:=(lq pick m body 0).1 e;obtain⟨g,h2,h3⟩:=hso i a ha;rw[h1] at h2;cases h2;rw[Nat.zero_add] at hf;rw[hno,dD.2 hf] at h3;cases h3
theorem keys_perm {l m:List aI} (h:l.Perm m):(bU l).Perm (bU m):=h.map _
theorem nO {m:List aI} (hn:(bU m).Nodup):(jg m).Pairwise fun a b=>uZ a b<0:=by refine uV gH (jr gH m) ?_;refine(bF m).nodup_iff.2 ?_;have:(m.map (·.1)).Nodup:=hn;rw[List.Nodup,List.pairwise_map] at this;exact this.imp fun h e=>h (by rw[e])
def og (pick:Nat→List aF) (body:List aJ) (r:List aI):Prop:=
 r.Pairwise (fun a b=>uZ a b<0)∧(bU r).Nodup∧(∀v,v∈bU r↔v∈(fD [] body).map bs)∧SoB pick body r
theorem ig (body:List aJ):((fD [] body).map bs).Nodup:=uT (jv body List.nodup_nil)
theorem oJ {pick:Nat→List aF} {body:List aJ} (hc:Covers body) {R:List (List aI)} (h:mK pick body=some R) (r:List aI):r∈R↔og pick body r:=by
 unfold mK at h;cases e:eu pick 0 body [[]] with
 |none=>rw[e] at h;cases h
 |some ms=>
  rw[e] at h;cases h;rw[(bF _).mem_iff,List.mem_map]
  constructor
  ·rintro⟨m,hm,rfl⟩;obtain⟨hk,hso⟩:=(yx hc e m).1 hm;have hn:(bU m).Nodup:=by rw[hk];exact ig body
   have hp:=(bF (c:=uZ) m);refine⟨nO hn,(keys_perm hp).nodup_iff.2 hn,fun v=>?_,hso.perm hp.symm hn⟩;rw[(keys_perm hp).mem_iff,hk]
  rintro⟨hr,hn,hv,hso⟩;obtain⟨m,hm⟩:∃m:List aI,m=(fD [] body).map fun k=>(bs k,(fu r (bs k)).getD ByteArray.empty):=⟨_,rfl⟩;have hk:bU m=(fD [] body).map bs:=by rw[hm];unfold bU;rw[List.map_map];rfl
  have hnm:(bU m).Nodup:=by rw[hk];exact ig body
  have hmem:∀x,x∈m↔x∈r:=fun x=>by
   constructor
   ·intro hx;rw[hm] at hx;obtain⟨k,hk,rfl⟩:=List.mem_map.1 hx;obtain⟨s,hs⟩:=kY ((hv (bs k)).2 (fJ.2 hk));rw[hs];exact sK hs
   intro hx;have h1:x.1∈(fD [] body).map bs:=(hv x.1).1 (List.mem_map.2 ⟨x,hx,rfl⟩);obtain⟨k,hk,e⟩:=List.mem_map.1 h1;rw[hm];refine List.mem_map.2 ⟨k,hk,?_⟩;have:=oF (v:=x.1) (s:=x.2) hn hx;rw[e,this]
   rfl
  have hsm:jg m=r:=sM gH (nO hnm) hr fun x=>by rw[(bF m).mem_iff];exact hmem x
  refine⟨m,(yx hc e m).2 ⟨hk,?_⟩,hsm⟩;have hp:r.Perm m:=by rw[←hsm];exact bF m
  exact hso.perm hp hn
theorem AA {fs:List aF} {body:List aJ} {l:List aI}:SoB (fun _=>fs) body l↔∀a∈body,∃f,bf a l=some f∧inB fs f= !a.no:=by
 constructor
 ·intro h a ha;obtain⟨i,hi⟩:=List.getElem?_of_mem ha;exact h i a hi
 intro h i a ha;exact h a (nN ha)
abbrev Up (s:List aF):Prop:=s.Pairwise fun a b=>fF a b<0
def eT:List aF→List aF
 |[]=>[]
 |f::l=>if inB l f then eT l else f::eT l
theorem iw:∀{l:List aF} {f:aF},f∈eT l↔f∈l
 |[],f=>by simp[eT]
 |g::l,f=>by
  unfold eT;split;·rename_i h;rw[iw,List.mem_cons];exact⟨Or.inr,fun h'=>h'.elim (fun e=>by rw[e];exact dD.1 h) id⟩
  rw[List.mem_cons,List.mem_cons,iw]
theorem iE:∀(l:List aF),(eT l).Nodup
 |[]=>List.nodup_nil
 |g::l=>by
  unfold eT;split;·exact iE l
  rename_i h;exact List.nodup_cons.2 ⟨fun h'=>h (dD.2 (iw.1 h')),iE l⟩
theorem lV:∀(l:List aF),(eT l).length≤l.length
 |[]=>Nat.le_refl _
 |g::l=>by have:=lV l;unfold eT;split <;> simp <;> omega
def bY (l:List aF):List aF:=jf fF (eT l)
theorem dA {l:List aF} {f:aF}:f∈bY l↔f∈l:=by unfold bY;rw[(bF _).mem_iff,iw]
theorem gI (l:List aF):Up (bY l):=uV aV (jr aV _) ((bF _).nodup_iff.2 (iE l))
theorem iN (l:List aF):(bY l).length≤l.length:=by unfold bY;rw[(bF _).length_eq];exact lV l
theorem yA {s t:List aF} (hs:Up s) (ht:Up t) (h:∀f,f∈s↔f∈t):s=t:=sM aV hs ht h
theorem jT {s l:List aF} (hs:Up s) (h:∀f,f∈s↔f∈l):s=bY l:=yA hs (gI l) fun f=>by rw[dA,h]
theorem vk {s:List aF} (hs:Up s):bY s=s:=(jT hs fun _=>Iff.rfl).symm
theorem jh {l m:List aF} (h:∀f,f∈l↔f∈m):bY l=bY m:=yA (gI l) (gI m) fun f=>by rw[dA,dA,h]
theorem ku {s:List aF} (hs:Up s):s.Nodup:=uW aV hs
theorem mV:∀{s t:List aF},s.Nodup→(∀f∈s,f∈t)→s.length≤t.length
 |[],_,_,_=>Nat.zero_le _
 |a::s,t,hn,h=>by
  have hn':=List.nodup_cons.1 hn;obtain⟨t1,t2,rfl⟩:=List.append_of_mem (h a (by simp));have:=mV (t:=t1++t2) hn'.2 fun f hf=>by
   have h1:=h f (by simp[hf]);simp only[List.mem_append,List.mem_cons] at h1⊢;rcases h1 with h1|rfl|h1
   ·exact Or.inl h1
   ·exact absurd hf hn'.1
   exact Or.inr h1
  simp only[List.length_cons,List.length_append] at this⊢;omega
theorem vo {s t:List aF} (hs:Up s) (h:∀f∈s,f∈t):s.length≤t.length:=mV (ku hs) h
theorem EW {s t:List aF} (hs:Up s) (ht:Up t) (h:∀f∈s,f∈t) (e:t.length≤s.length):s=t:=by
 refine yA hs ht fun f=>⟨h f,fun hf=>Classical.byContradiction fun hn=>?_⟩;have:=mV (s:=f::s) (t:=t) (List.nodup_cons.2 ⟨hn,ku hs⟩) fun g hg=>by
  rcases List.mem_cons.1 hg with rfl|hg;·exact hf
  exact h g hg
 simp only[List.length_cons] at this;omega
def gY (r:aD) (fs:List aF):Option (List aF):=match mK (fun _=>fs) r.body with
 |none=>none
 |some R=>some (bY (R.filterMap fun l=>bf r.head l))
def AB (n:Int) (fs:List aF):List aD→List Nat→List aF→Int×List aF
 |[],_,acc=>(0,bY acc)
 |_::_,[],acc=>(0,bY acc)
 |r::p,s::ss,acc=>if(s:Int)=n then
   match gY r fs with
   |none=>(4,[])
   |some x=>if 200<(bY (acc++x)).length then(5,[]) else AB n fs p ss (acc++x)
  else AB n fs p ss acc
def wV (p:List aD) (ss:List Nat) (n:Int) (fs:List aF):Int×List aF:=AB n fs p ss fs
def yB (p:List aD) (ss:List Nat) (n:Int):Nat→List aF→Int×List aF
 |0,l=>(0,l)
 |k+1,l=>if(wV p ss n l).1≠0 then((wV p ss n l).1,[]) else if(wV p ss n l).2.length=l.length then(0,(wV p ss n l).2) else yB p ss n k (wV p ss n l).2
def countP:List Nat→Nat
 |[]=>0
 |s::ss=>max (s+1) (countP ss)
theorem vw:∀{ss:List Nat} {s:Nat},s∈ss→s<countP ss
 |t::ss,s,h=>by
  unfold countP;rcases List.mem_cons.1 h with rfl|h
  ·omega
  have:=vw h;omega
theorem countP_congr {ss tt:List Nat} (h:∀s,s∈ss↔s∈tt):countP ss=countP tt:=by
 have key:∀{a b:List Nat},(∀s∈a,s∈b)→countP a≤countP b:=by
  intro a
  induction a with
  |nil=>intro b _;exact Nat.zero_le _
  |cons x a ih=>
   intro b hb;have h1:=ih fun s hs=>hb s (List.mem_cons_of_mem _ hs);have h2:=vw (hb x (by simp));show max (x+1) (countP a)≤countP b;omega
 exact Nat.le_antisymm (key fun s hs=>(h s).1 hs) (key fun s hs=>(h s).2 hs)
def Gx (p:List aD) (ss:List Nat):Nat→Nat→List aF→Int×List aF
 |0,_,l=>(0,l)
 |c+1,n,l=>if(yB p ss n 201 l).1≠0 then((yB p ss n 201 l).1,[]) else Gx p ss c (n+1) (yB p ss n 201 l).2
def uH (p:List aD) (f:aF):Bool:=p.all fun r=>(r.head::r.body).all fun a=> !decide (bs a.name=f.1)||decide (a.terms.length=f.2.length)
structure oK (r:aD):Prop where
 head:aL r.head=0
 yes:r.head.no=false
 body:aM r.body=0
 vars:(vars r.head).all (givenBy r.body)=true
def eB (p:List aD):List aJ:=p.flatMap fun r=>r.head::r.body
theorem sO (l q:List aJ):∀m:bZ,fitAll m (l++q)=if(fitAll m l).1 then fitAll (fitAll m l).2 q else fitAll m l:=by
 induction l with
 |nil=>intro m;simp[fitAll]
 |cons a l ih=>
  intro m
  by_cases h:(bN m a).1=true
  ·have h1:∀q,fitAll m (a::q)=fitAll (bN m a).2 q:=fun q=>by rw[fitAll,if_pos h]
   rw[List.cons_append,h1,h1,ih]
  have h1:∀q,fitAll m (a::q)=(false,(bN m a).2):=fun q=>by rw[fitAll,if_neg h]
  rw[List.cons_append,h1,h1];rfl
theorem jw (m:bZ) (r:aD):(aU m r).1=0↔oK r∧(fitAll m (r.head::r.body)).1=true:=by
 unfold aU
 constructor
 ·intro h;split at h
  ·rename_i h1;split at h;·cases h
   rename_i h2;split at h
   ·rename_i h3;split at h
    ·rename_i h4;split at h
     ·rename_i h5;refine⟨⟨h1,by simpa using h2,h3,h4⟩,?_⟩;unfold fitAll;rw[if_pos h5];dsimp only at h;split at h;·assumption
      cases h
     cases h
    cases h
   rename_i h3;exact absurd h h3
  rename_i h1;exact absurd h h1
 rintro⟨⟨h1,h2,h3,h4⟩,h5⟩;unfold fitAll at h5;split at h5;·rename_i h6;rw[if_pos h1,if_neg (by simp[h2]),if_pos h3,if_pos h4,if_pos h6,if_pos h5]
 cases h5
theorem qG (m:bZ) (r:aD) (h:(aU m r).1=0):(aU m r).2=(fitAll m (r.head::r.body)).2:=by
 obtain⟨⟨h1,h2,h3,h4⟩,h5⟩:=(jw m r).1 h;unfold fitAll at h5⊢;split at h5;·rename_i h6;unfold aU;rw[if_pos h1,if_neg (by simp[h2]),if_pos h3,if_pos h4,if_pos h6,if_pos h6]
 cases h5
theorem oL (p:List aD):∀(m:bZ) (i:Nat),(fC m i p).1=0↔(∀r∈p,oK r)∧(fitAll m (eB p)).1=true:=by
 induction p with
 |nil=>intro m i;simp[fC,eB,fitAll]
 |cons r p ih=>
  intro m i;have ea:eB (r::p)=(r.head::r.body)++eB p:=rfl;rw[ea,sO];unfold fC
  by_cases h:(aU m r).1=0
  ·rw[if_pos h,ih,qG m r h];obtain⟨h1,h2⟩:=(jw m r).1 h;rw[if_pos h2];simp[h1]
  rw[if_neg h];refine⟨fun h'=>absurd h' h,fun⟨h1,h2⟩=>?_⟩
  exfalso
  split at h2;·rename_i h3;exact h ((jw m r).2 ⟨h1 r (by simp),h3⟩)
  rename_i h3;exact h3 h2
def Even (l:List aJ):Prop:=∀a∈l,∀b∈l,a.name=b.name→a.terms.length=b.terms.length
theorem qU (l:List aJ):∀m:bZ,(fitAll m l).1=true↔(∀a∈l,∀n,m a.name=some n→n=a.terms.length)∧Even l:=by
 induction l with
 |nil=>intro m;simp[fitAll,Even]
 |cons a l ih=>
  intro m;unfold fitAll;cases e:m a.name with
  |none=>
   have h1:bN m a=(true,m.put a.name a.terms.length):=by unfold bN;rw[e]
   rw[h1];simp only[if_true];rw[ih]
   constructor
   ·rintro⟨h2,h3⟩;have h4:∀b∈l,b.name=a.name→a.terms.length=b.terms.length:=fun b hb hn=>h2 b hb _ (by unfold bZ.put;rw[if_pos hn]);refine⟨fun b hb n hn=>?_,fun b hb c hc hbc=>?_⟩
    ·rcases List.mem_cons.1 hb with rfl|hb;·rw[e] at hn;cases hn
     by_cases hne:b.name=a.name
     ·rw[hne,e] at hn;cases hn
     exact h2 b hb n (by unfold bZ.put;rw[if_neg hne];exact hn)
    rcases List.mem_cons.1 hb with rfl|hb'
    ·rcases List.mem_cons.1 hc with rfl|hc;·rfl
     exact h4 c hc hbc.symm
    rcases List.mem_cons.1 hc with rfl|hc;·exact(h4 b hb' hbc).symm
    exact h3 b hb' c hc hbc
   rintro⟨h2,h3⟩;refine⟨fun b hb n hn=>?_,fun b hb c hc=>h3 b (by simp[hb]) c (by simp[hc])⟩;unfold bZ.put at hn;split at hn;·rename_i hne;cases hn;exact h3 a (by simp) b (by simp[hb]) hne.symm
   exact h2 b (by simp[hb]) n hn
  |some k=>
   have h1:bN m a=(decide (k=a.terms.length),m):=by unfold bN;rw[e]
   rw[h1]
   by_cases hk:k=a.terms.length
   ·simp only[hk,decide_true,if_true];rw[ih];have h4:(∀b∈l,∀n,m b.name=some n→n=b.terms.length)→∀b∈l,b.name=a.name→a.terms.length=b.terms.length:=fun h b hb hn=>h b hb _ (by rw[hn,e,hk])
    constructor
    ·rintro⟨h2,h3⟩;refine⟨fun b hb n hn=>?_,fun b hb c hc hbc=>?_⟩
     ·rcases List.mem_cons.1 hb with rfl|hb;·rw[e] at hn;cases hn;exact hk
      exact h2 b hb n hn
     rcases List.mem_cons.1 hb with rfl|hb'
     ·rcases List.mem_cons.1 hc with rfl|hc;·rfl
      exact h4 h2 c hc hbc.symm
     rcases List.mem_cons.1 hc with rfl|hc;·exact(h4 h2 b hb' hbc).symm
     exact h3 b hb' c hc hbc
    rintro⟨h2,h3⟩;exact⟨fun b hb=>h2 b (by simp[hb]),fun b hb c hc=>h3 b (by simp[hb]) c (by simp[hc])⟩
   simp only[hk,decide_false];refine⟨fun h=>by simp at h,fun⟨h2,_⟩=>?_⟩;exact absurd (h2 a (by simp) k e) hk
structure fG (p:List aD):Prop where
 few:p.length≤16
 rules:∀r∈p,oK r
 even:Even (eB p)
theorem kC {p:List aD}:(bQ p).1=0↔fG p:=by
 unfold bQ
 constructor
 ·intro h;split at h;·cases h
  rename_i h1;obtain⟨h2,h3⟩:=(oL p _ _).1 h;exact⟨by omega,h2,((qU _ _).1 h3).2⟩
 rintro⟨h1,h2,h3⟩;rw[if_neg (by omega)];exact(oL p _ _).2 ⟨h2,(qU _ _).2 ⟨fun _ _ _ h=>(by simp at h),h3⟩⟩
theorem fG.turned {p:List aD} (h:fG p):fG p.reverse:=
 ⟨by rw[List.length_reverse];exact h.few,fun r hr=>h.rules r (List.mem_reverse.1 hr),fun a ha b hb=>h.even a (by simpa[eB] using ha) b (by simpa[eB] using hb)⟩
end Go.Proofs.YthngiikhgplldaaGreatDoor
