import Derived.Test.YtafmbokfkbccaaaGreatDoorJD2
namespace Go.Proofs.YtafmbokfkbccaaaGreatDoor
variable {α:Type} {c:α→α→Int}
theorem Three.le_trans (h:Three c) {a b d:α} (h1:c a b≤0) (h2:c b d≤0):c a d≤0:=by
 by_cases e1:c a b=0
 ·rw[h.zero _ _ e1];exact h2
 ·by_cases e2:c b d=0
  ·rw[←h.zero _ _ e2];exact h1
  ·have:=h.trans a b d (by omega) (by omega);omega
theorem Three.anti (h:Three c) {a b:α} (h1:c a b≤0) (h2:c b a≤0):a=b:=h.zero a b (by have:=h.swap a b;omega)
theorem rise_ext (h:Three c):∀{s t:List α},s.Pairwise (fun a b=>c a b<0)→t.Pairwise (fun a b=>c a b<0)→(∀x,x∈s↔x∈t)→s=t
 |[],[],_,_,_=>rfl
 |[],b::t,_,_,e=>absurd ((e b).2 List.mem_cons_self) (by simp)
 |a::s,[],_,_,e=>absurd ((e a).1 List.mem_cons_self) (by simp)
 |a::s,b::t,hs,ht,e=>by
  have hs':=List.pairwise_cons.1 hs;have ht':=List.pairwise_cons.1 ht;have hab:a=b:=by
   rcases List.mem_cons.1 ((e a).1 List.mem_cons_self) with h1|h1
   ·exact h1
   ·rcases List.mem_cons.1 ((e b).2 List.mem_cons_self) with h2|h2
    ·exact h2.symm
    ·have x1:=ht'.1 a h1;have x2:=hs'.1 b h2;have:=h.swap a b;omega
  subst hab;have irr:c a a=0:=h.refl a;rw[rise_ext h hs'.2 ht'.2 fun x=>⟨fun hx=> ?_,fun hx=> ?_⟩]
  ·rcases List.mem_cons.1 ((e x).1 (List.mem_cons_of_mem _ hx)) with h1|h1
   ·subst h1;have:=hs'.1 x hx;omega
   ·exact h1
  ·rcases List.mem_cons.1 ((e x).2 (List.mem_cons_of_mem _ hx)) with h1|h1
   ·subst h1;have:=ht'.1 x hx;omega
   ·exact h1
theorem sorted_unique (h:Three c):∀{l m:List α},l.Perm m→l.Pairwise (fun a b=>c a b≤0)→m.Pairwise (fun a b=>c a b≤0)→l=m
 |[],m,hp,_,_=>hp.nil_eq
 |a::l,[],hp,_,_=>by simpa using hp.length_eq
 |a::l,b::m,hp,hl,hm=>by
  have hl':=List.pairwise_cons.1 hl;have hm':=List.pairwise_cons.1 hm;have hab:a=b:=by
   rcases List.mem_cons.1 (hp.mem_iff.1 List.mem_cons_self) with h1|h1
   ·exact h1
   ·rcases List.mem_cons.1 (hp.mem_iff.2 (List.mem_cons_self (a:=b) (l:=m))) with h2|h2
    ·exact h2.symm
    ·exact h.anti (hl'.1 b h2) (hm'.1 a h1)
  subst hab;rw[sorted_unique h (List.Perm.cons_inv hp) hl'.2 hm'.2]
def sortBy (c:α→α→Int) (l:List α):List α:=l.mergeSort fun a b=>decide (c a b≤0)
theorem sortBy_perm (l:List α):(sortBy c l).Perm l:=List.mergeSort_perm _ _
theorem sortBy_sorted (h:Three c) (l:List α):(sortBy c l).Pairwise fun a b=>c a b≤0:=by
 have:=List.pairwise_mergeSort (le:=fun a b=>decide (c a b≤0)) (fun a b d h1 h2=>by
  simp only[decide_eq_true_eq] at*;exact h.le_trans h1 h2) (fun a b=>by
  simp only[Bool.or_eq_true,decide_eq_true_eq];have:=h.swap a b;omega) l
 exact this.imp fun h=>by simpa using h
theorem sortBy_of (h:Three c) {l m:List α} (hp:m.Perm l) (hs:m.Pairwise fun a b=>c a b≤0):m=sortBy c l:=
 sorted_unique h (hp.trans (sortBy_perm l).symm) hs (sortBy_sorted h l)
theorem strict_of (h:Three c) {l:List α} (hs:l.Pairwise fun a b=>c a b≤0) (hn:l.Nodup):l.Pairwise fun a b=>c a b<0:=
 (hs.and hn).imp fun {a b} ⟨h1,h2⟩=>by
  rcases Int.lt_or_eq_of_le h1 with h3|h3
  ·exact h3
  ·exact absurd (h.zero _ _ h3) h2
theorem strict_nodup (h:Three c) {l:List α} (hs:l.Pairwise fun a b=>c a b<0):l.Nodup:=hs.imp fun {a b} h1 e=>by
 subst e;rw[h.refl] at h1;omega
def cmpX (c:α→α→Int):List α→List α→Int
 |[],[]=>0
 |[],_::_=> -1
 |_::_,[]=>1
 |a::x,b::y=>if c a b≠0 then c a b else cmpX c x y
theorem cmpX_swap (h:Three c):∀x y,cmpX c y x= -cmpX c x y
 |[],[]=>rfl
 |[],_::_=>rfl
 |_::_,[]=>rfl
 |a::x,b::y=>by
  have:=h.swap a b;simp only[cmpX]
  by_cases e:c a b=0
  ·rw[if_neg (by omega),if_neg (by omega)];exact cmpX_swap h x y
  ·rw[if_pos (by omega),if_pos e];omega
theorem cmpX_zero (h:Three c):∀x y,cmpX c x y=0→x=y
 |[],[],_=>rfl
 |[],_::_,e=>by simp[cmpX] at e
 |_::_,[],e=>by simp[cmpX] at e
 |a::x,b::y,e=>by
  simp only[cmpX] at e
  by_cases e':c a b=0
  ·rw[if_neg (by omega)] at e;rw[h.zero _ _ e',cmpX_zero h x y e]
  ·rw[if_pos e'] at e;exact absurd e e'
theorem cmpX_trans (h:Three c):∀x y z,cmpX c x y<0→cmpX c y z<0→cmpX c x z<0
 |[],[],z,h1,_=>by simp[cmpX] at h1
 |[],_::_,[],_,h2=>by simp[cmpX] at h2
 |[],_::_,_::_,_,_=>by simp[cmpX]
 |_::_,[],_,h1,_=>by simp[cmpX] at h1
 |_::_,_::_,[],_,h2=>by simp[cmpX] at h2
 |a::x,b::y,d::z,h1,h2=>by
  simp only[cmpX] at h1 h2⊢
  by_cases e1:c a b=0
  ·rw[if_neg (by omega)] at h1;have:=h.zero _ _ e1;subst this
   by_cases e2:c a d=0
   ·rw[if_neg (by omega)] at h2⊢;exact cmpX_trans h x y z h1 h2
   ·rw[if_pos e2] at h2⊢;exact h2
  ·rw[if_pos e1] at h1
   by_cases e2:c b d=0
   ·have:=h.zero _ _ e2;subst this;rw[if_pos e1];exact h1
   ·rw[if_pos e2] at h2;have:=h.trans a b d h1 h2;rw[if_pos (by omega)];exact this
theorem three_cmpX (h:Three c):Three (cmpX c):=⟨fun a b=>cmpX_swap h a b,cmpX_zero h,cmpX_trans h⟩
def cmpB (a b:BindD):Int:=if cmpS a.1 b.1≠0 then cmpS a.1 b.1 else cmpS a.2 b.2
theorem three_cmpB:Three cmpB where
 swap a b:=by
  have h1:=three_cmpS.swap a.1 b.1;have h2:=three_cmpS.swap a.2 b.2;unfold cmpB
  by_cases e:cmpS a.1 b.1=0
  ·rw[if_neg (by omega),if_neg (by omega)];exact h2
  ·rw[if_pos (by omega),if_pos e];exact h1
 zero a b h:=by
  unfold cmpB at h
  by_cases e:cmpS a.1 b.1=0
  ·rw[if_neg (by omega)] at h;have:=three_cmpS.zero _ _ e;have:=three_cmpS.zero _ _ h;obtain⟨a1,a2⟩:=a;obtain⟨b1,b2⟩:=b
   simp_all
  ·rw[if_pos e] at h;exact absurd h e
 trans a b d h k:=by
  unfold cmpB at*
  by_cases e1:cmpS a.1 b.1=0
  ·rw[if_neg (by omega)] at h;rw[three_cmpS.zero _ _ e1]
   by_cases e2:cmpS b.1 d.1=0
   ·rw[if_neg (by omega)] at k⊢;exact three_cmpS.trans _ _ _ h k
   ·rw[if_pos e2] at k⊢;exact k
  ·rw[if_pos e1] at h
   by_cases e2:cmpS b.1 d.1=0
   ·rw[←three_cmpS.zero _ _ e2,if_pos e1];exact h
   ·rw[if_pos e2] at k;have:=three_cmpS.trans _ _ _ h k;rw[if_pos (by omega)];exact this
abbrev cmpBs:List BindD→List BindD→Int:=cmpX cmpB
theorem three_cmpBs:Three cmpBs:=three_cmpX three_cmpB
abbrev sortB (l:List BindD):List BindD:=sortBy cmpB l
def allB (pick:Nat→List FactB) (body:List AtomD):Option (List (List BindD)):=match metGo pick 0 body [[]] with
 |none=>none
 |some ms=>some (sortBy cmpBs ((ms.filter fun l=> !barredB pick 0 body l).map sortB))
def posVars (K:List Bs) (ats:List AtomD):List Bs:=ats.foldl (fun K a=>if a.no then K else varsGo K a.terms) K
theorem posVars_cons (K:List Bs) (a:AtomD) (ats:List AtomD):posVars K (a::ats)=posVars (if a.no then K else varsGo K a.terms) ats:=rfl
theorem posVars_pre:∀(ats:List AtomD) (K:List Bs),∃r,posVars K ats=K++r
 |[],K=>⟨[],by simp[posVars]⟩
 |a::ats,K=>by
  rw[posVars_cons];split
  ·exact posVars_pre ats K
  ·obtain⟨r1,h1⟩:=varsGo_pre a.terms K;obtain⟨r2,h2⟩:=posVars_pre ats (varsGo K a.terms);exact⟨r1++r2,by rw[h2,h1,List.append_assoc]⟩
theorem posVars_nodup:∀(ats:List AtomD) {K:List Bs},K.Nodup→(posVars K ats).Nodup
 |[],_,h=>h
 |a::ats,K,h=>by
  rw[posVars_cons];split
  ·exact posVars_nodup ats h
  ·exact posVars_nodup ats (varsGo_nodup _ h)
theorem mem_posVars:∀(ats:List AtomD) {K:List Bs} {v:Bs},v∈posVars K ats↔v∈K∨∃a∈ats,a.no=false∧∃t∈a.terms,t.1=true∧t.2=v
 |[],K,v=>by simp[posVars]
 |a::ats,K,v=>by
  rw[posVars_cons,mem_posVars ats];cases ha:a.no
  ·simp only[Bool.false_eq_true,if_false,mem_varsGo,List.mem_cons,exists_eq_or_imp,ha,true_and,or_assoc]
  ·simp[ha]
theorem mem_meetAllB {a:AtomD} {fs:List FactB} {ls:List (List BindD)} {m:List BindD}:m∈meetAllB a fs ls↔∃l∈ls,∃f∈fs,meetB a f l=some m:=by
 simp[meetAllB,List.mem_flatMap,List.mem_filterMap]
theorem keys_take {m:List BindD} {K r:List Bs} (h:keysB m=(K++r).map bs):keysB (m.take K.length)=K.map bs:=by
 unfold keysB at*;rw[List.map_take,h,List.map_append,List.take_append_of_le_length (by simp),List.take_of_length_le (by simp)]
theorem met_mem (pick:Nat→List FactB):∀(ats:List AtomD) (n:Nat) (ls ms:List (List BindD)) (K:List Bs),(∀l∈ls,keysB l=K.map bs)→metGo pick n ats ls=some ms→
  ∀m,m∈ms↔(∃l∈ls,∃r,m=l++r)∧keysB m=(posVars K ats).map bs∧∀i a,ats[i]?=some a→a.no=false→∃f∈pick (n+i),fillB a m=some f
 |[],n,ls,ms,K,hK,h,m=>by
  cases h
  constructor
  ·intro hm;exact⟨⟨m,hm,[],by simp⟩,hK m hm,fun i a h=>by simp at h⟩
  ·rintro⟨⟨l,hl,r,e⟩,hk,_⟩;have h1:=hK l hl;have:r=[]:=by
    have h2:(keysB m).length=(keysB l).length:=by rw[hk,h1];simp[posVars]
    rw[e] at h2;simp[keysB] at h2;exact h2
   rw[e,this];simpa using hl
 |a::ats,n,ls,ms,K,hK,h,m=>by
  simp only[metGo] at h;rw[posVars_cons];have shift:(∀i b,(a::ats)[i]?=some b→b.no=false→∃f∈pick (n+i),fillB b m=some f)↔((a.no=false→∃f∈pick n,fillB a m=some f)∧∀i b,ats[i]?=some b→b.no=false→∃f∈pick (n+1+i),fillB b m=some f):=by
   constructor
   ·intro H;refine⟨H 0 a rfl,fun i b hb=> ?_⟩;have:=H (i+1) b (by simpa using hb)
    rwa [show n+(i+1)=n+1+i by omega] at this
   ·rintro⟨H0,H1⟩ i b hb;cases i with
    |zero=>simp at hb;subst hb;exact H0
    |succ i=>have:=H1 i b (by simpa using hb);rwa [show n+1+i=n+(i+1) by omega] at this
  rw[shift];cases ha:a.no
  ·rw[ha] at h;simp only[Bool.false_eq_true,if_false,true_imp_iff] at h⊢;split at h
   ·cases h
   ·have hK':∀l∈meetAllB a (pick n) ls,keysB l=(varsGo K a.terms).map bs:=fun l hl=>by
     obtain⟨l0,hl0,f,_,hm⟩:=mem_meetAllB.1 hl;exact(meetB_ok (hK l0 hl0) hm).2.1
    rw[met_mem pick ats (n+1) _ ms _ hK' h m]
    constructor
    ·rintro⟨⟨l',hl',r,e⟩,hk,hr⟩;obtain⟨l,hl,f,hf,hm⟩:=mem_meetAllB.1 hl';obtain⟨⟨r0,e0⟩,_,hfill⟩:=meetB_ok (hK l hl) hm;exact⟨⟨l,hl,r0++r,by rw[e,e0,List.append_assoc]⟩,hk,⟨f,hf,by rw[e];exact fillB_append hfill⟩,hr⟩
    ·rintro⟨⟨l,hl,r,e⟩,hk,⟨f,hf,hfill⟩,hr⟩;obtain⟨q,hq⟩:=posVars_pre ats (varsGo K a.terms);rw[hq] at hk;have hk1:=keys_take hk;obtain⟨m1,hm1⟩:∃m1,m1=m.take (varsGo K a.terms).length:=⟨_,rfl⟩;rw[←hm1] at hk1;have hsplit:m=m1++m.drop (varsGo K a.terms).length:=by rw[hm1];exact(List.take_append_drop _ _).symm
     obtain⟨r0,hr0⟩:=varsGo_pre a.terms K;have hll:l.length=K.length:=by
      have:=congrArg List.length (hK l hl);simpa[keysB] using this
     have hpre:m1=l++r.take (r0.length):=by
      rw[hm1,e,hr0,List.length_append,←hll,List.take_length_add_append]
     have hf1:fillB a m1=some f:=by
      rw[←hfill];refine fillB_congr fun t ht htv=> ?_;have hmem:bs t.2∈keysB m1:=by
       rw[hk1];exact mem_map_bs.2 ((mem_varsGo _).2 (Or.inr ⟨t,ht,htv,rfl⟩))
      obtain⟨s,hs⟩:=getB_isSome hmem;rw[hsplit,getB_append,hs]
     refine⟨⟨m1,mem_meetAllB.2 ⟨l,hl,f,hf,meetB_of (hK l hl) hpre hk1 hf1⟩,_,hsplit⟩,by rw[hq];exact hk,hr⟩
  ·rw[ha] at h;simp only[if_true,Bool.true_eq_false,false_imp_iff,true_and] at h⊢;exact met_mem pick ats (n+1) ls ms K hK h m
theorem met_nodup (pick:Nat→List FactB) (hp:∀i,(pick i).Nodup):∀(ats:List AtomD) (n:Nat) (ls ms:List (List BindD)) (K:List Bs),(∀l∈ls,keysB l=K.map bs)→ls.Nodup→metGo pick n ats ls=some ms→ms.Nodup
 |[],_,_,_,_,_,hn,h=>by cases h;exact hn
 |a::ats,n,ls,ms,K,hK,hn,h=>by
  simp only[metGo] at h;split at h
  ·exact met_nodup pick hp ats (n+1) ls ms K hK hn h
  ·split at h
   ·cases h
   ·refine met_nodup pick hp ats (n+1) _ ms (varsGo K a.terms) (fun l hl=> ?_) ?_ h
    ·obtain⟨l0,hl0,f,_,hm⟩:=mem_meetAllB.1 hl;exact(meetB_ok (hK l0 hl0) hm).2.1
    ·unfold meetAllB;rw[List.Nodup,List.pairwise_flatMap];refine⟨fun l hl=> ?_,?_⟩
     ·rw[List.pairwise_filterMap];refine(hp n).imp fun {f g} hfg x hx y hy e=> ?_;subst e;have h1:=(meetB_ok (hK l hl) hx).2.2;rw[(meetB_ok (hK l hl) hy).2.2] at h1;exact hfg (Option.some.inj h1).symm
     ·refine(List.Pairwise.and_mem.1 hn).imp fun {l l'} h3 x hx y hy e=> ?_;obtain⟨hl,hl',hne⟩:=h3;subst e;obtain⟨f,_,hx⟩:=List.mem_filterMap.1 hx;obtain⟨g,_,hy⟩:=List.mem_filterMap.1 hy;obtain⟨⟨r,e1⟩,_⟩:=meetB_ok (hK l hl) hx;obtain⟨⟨r',e2⟩,_⟩:=meetB_ok (hK l' hl') hy;have hlen:l.length=l'.length:=by
       have:=congrArg List.length ((hK l hl).trans (hK l' hl').symm);simpa[keysB] using this
      exact hne (List.append_inj (e1.symm.trans e2) hlen).1
def pickB (fs:List FactB) (at_:Int) (os:List FactB):Nat→List FactB:=fun n=>if(n:Int)=at_ then os else fs
end Go.Proofs.YtafmbokfkbccaaaGreatDoor
namespace Go.Proofs.YtafmbokfkbccaaaGreatDoor
theorem vars_iff {a:AtomD} {v:Bs}:v∈vars a↔∃t∈a.terms,t.1=true∧t.2=v:=by
 unfold vars;rw[mem_varsGo];simp
def Covers (body:List AtomD):Prop:=∀a∈body,∀t∈a.terms,t.1=true→t.2∈posVars [] body
theorem covers_of {body:List AtomD} (h:wrongBody body=0):Covers body:=by
 unfold wrongBody at h;split at h
 ·simp at h
 ·split at h
  ·split at h
   ·rename_i hall;intro a ha t ht htv;rw[List.all_eq_true] at hall;have h1:=hall a ha;rw[List.all_eq_true] at h1;have h2:=h1 t.2 (vars_iff.2 ⟨t,ht,htv,rfl⟩);unfold givenBy at h2;rw[List.any_eq_true] at h2;obtain⟨b,hb,h3⟩:=h2;simp only[Bool.and_eq_true,Bool.not_eq_true',List.contains_eq_mem,decide_eq_true_eq] at h3;refine(mem_posVars body).2 (Or.inr ⟨b,hb,h3.1,?_⟩);exact vars_iff.1 h3.2
   ·simp at h
  ·rename_i hne;exact absurd h hne
theorem barredB_iff (pick:Nat→List FactB) (l:List BindD):∀(ats:List AtomD) (n:Nat),barredB pick n ats l=true↔∃i a,ats[i]?=some a∧a.no=true∧∃f∈pick (n+i),fillB a l=some f
 |[],n=>by simp[barredB]
 |a::ats,n=>by
  simp only[barredB,Bool.or_eq_true,Bool.and_eq_true];rw[barredB_iff pick l ats (n+1)]
  constructor
  ·rintro(⟨h1,h2⟩|⟨i,b,hb,h1,f,hf,h2⟩)
   ·cases e:fillB a l with
    |none=>rw[e] at h2;cases h2
    |some f=>
     rw[e] at h2;exact⟨0,a,rfl,h1,f,inB_iff.1 h2,e⟩
   ·exact⟨i+1,b,by simpa using hb,h1,f,by rwa [show n+(i+1)=n+1+i by omega],h2⟩
  ·rintro⟨i,b,hb,h1,f,hf,h2⟩;cases i with
   |zero=>
    simp at hb;subst hb;exact Or.inl ⟨h1,by rw[h2];exact inB_iff.2 hf⟩
   |succ i=>exact Or.inr ⟨i,b,by simpa using hb,h1,f,by rwa [show n+1+i=n+(i+1) by omega],h2⟩
def SoB (pick:Nat→List FactB) (body:List AtomD) (l:List BindD):Prop:=∀i a,body[i]?=some a→∃f,fillB a l=some f∧inB (pick i) f= !a.no
theorem SoB.perm {pick:Nat→List FactB} {body:List AtomD} {l m:List BindD} (h:SoB pick body l) (hp:l.Perm m) (hn:(keysB l).Nodup):SoB pick body m:=fun i a ha=>by
 obtain⟨f,h1,h2⟩:=h i a ha;exact⟨f,by rw[←fillB_perm hp hn];exact h1,h2⟩
theorem getElem_mem' {β:Type} {l:List β} {i:Nat} {a:β} (h:l[i]?=some a):a∈l:=by
 obtain⟨hi,rfl⟩:=List.getElem?_eq_some_iff.1 h;exact List.getElem_mem hi
theorem kept_mem {pick:Nat→List FactB} {body:List AtomD} (hc:Covers body) {ms:List (List BindD)} (h:metGo pick 0 body [[]]=some ms) (m:List BindD):
  m∈ms.filter (fun l=> !barredB pick 0 body l)↔keysB m=(posVars [] body).map bs∧SoB pick body m:=by
 rw[List.mem_filter,met_mem pick body 0 [[]] ms [] (fun l hl=>by simp at hl;subst hl;rfl) h m];simp only[Bool.not_eq_true',Nat.zero_add]
 constructor
 ·rintro⟨⟨_,hk,hpos⟩,hb⟩;refine⟨hk,fun i a ha=> ?_⟩;cases hno:a.no
  ·obtain⟨f,hf,h1⟩:=hpos i a ha hno;exact⟨f,h1,by rw[inB_iff.2 hf];rfl⟩
  ·obtain⟨f,hf⟩:=fillB_some (l:=m) (a:=a) fun t ht htv=>by
    rw[hk];exact mem_map_bs.2 (hc a (getElem_mem' ha) t ht htv)
   refine⟨f,hf,?_⟩;cases e:inB (pick i) f
   ·rfl
   ·have:barredB pick 0 body m=true:=(barredB_iff pick m body 0).2 ⟨i,a,ha,hno,f,by rw[Nat.zero_add];exact inB_iff.1 e,hf⟩;rw[hb] at this;cases this
 ·rintro⟨hk,hso⟩;refine⟨⟨⟨[],by simp,m,by simp⟩,hk,fun i a ha hno=> ?_⟩,?_⟩
  ·obtain⟨f,h1,h2⟩:=hso i a ha;rw[hno] at h2;exact⟨f,inB_iff.1 h2,h1⟩
  ·cases e:barredB pick 0 body m
   ·rfl
   ·obtain⟨i,a,ha,hno,f,hf,h1⟩:=(barredB_iff pick m body 0).1 e;obtain⟨g,h2,h3⟩:=hso i a ha;rw[h1] at h2;cases h2;rw[Nat.zero_add] at hf;rw[hno,inB_iff.2 hf] at h3;cases h3
theorem keys_perm {l m:List BindD} (h:l.Perm m):(keysB l).Perm (keysB m):=h.map _
theorem list_ext:∀{l m:List BindD},keysB l=keysB m→(keysB l).Nodup→(∀v,getB l v=getB m v)→l=m
 |[],[],_,_,_=>rfl
 |[],b::m,h,_,_=>by simp[keysB] at h
 |a::l,[],h,_,_=>by simp[keysB] at h
 |a::l,b::m,h,hn,hg=>by
  have hn':a.1∉keysB l∧(keysB l).Nodup:=List.nodup_cons.1 hn;have h1:a.1=b.1∧keysB l=keysB m:=by simpa[keysB] using h
  have h2:a.2=b.2:=by
   have:=hg a.1;simp only[getB,if_true] at this;rw[if_pos h1.1.symm] at this;exact Option.some.inj this
  have hab:a=b:=Prod.ext h1.1 h2;subst hab;rw[list_ext h1.2 hn'.2 fun v=> ?_]
  by_cases hv:a.1=v
  ·subst hv;rw[getB_none.2 hn'.1,getB_none.2 (by rw[←h1.2];exact hn'.1)]
  ·have:=hg v;simpa only[getB,if_neg hv] using this
theorem sortB_strict {m:List BindD} (hn:(keysB m).Nodup):(sortB m).Pairwise fun a b=>cmpB a b<0:=by
 refine strict_of three_cmpB (sortBy_sorted three_cmpB m) ?_;refine(sortBy_perm m).nodup_iff.2 ?_;have:(m.map (·.1)).Nodup:=hn;rw[List.Nodup,List.pairwise_map] at this;exact this.imp fun h e=>h (by rw[e])
theorem sortB_inj {l m:List BindD} (hk:keysB l=keysB m) (hn:(keysB l).Nodup) (h:sortB l=sortB m):l=m:=by
 refine list_ext hk hn fun v=>getB_perm ?_ hn v;have h1:=(sortBy_perm (c:=cmpB) l).symm;have h2:=sortBy_perm (c:=cmpB) m;rw[show sortBy cmpB l=sortBy cmpB m from h] at h1;exact h1.trans h2
def FitsB (pick:Nat→List FactB) (body:List AtomD) (r:List BindD):Prop:=
 r.Pairwise (fun a b=>cmpB a b<0)∧(keysB r).Nodup∧(∀v,v∈keysB r↔v∈(posVars [] body).map bs)∧SoB pick body r
theorem posKeys_nodup (body:List AtomD):((posVars [] body).map bs).Nodup:=nodup_map_bs (posVars_nodup body List.nodup_nil)
theorem all_mem {pick:Nat→List FactB} {body:List AtomD} (hc:Covers body) {R:List (List BindD)} (h:allB pick body=some R) (r:List BindD):r∈R↔FitsB pick body r:=by
 unfold allB at h;cases e:metGo pick 0 body [[]] with
 |none=>rw[e] at h;cases h
 |some ms=>
  rw[e] at h;cases h;rw[(sortBy_perm _).mem_iff,List.mem_map]
  constructor
  ·rintro⟨m,hm,rfl⟩;obtain⟨hk,hso⟩:=(kept_mem hc e m).1 hm;have hn:(keysB m).Nodup:=by rw[hk];exact posKeys_nodup body
   have hp:=(sortBy_perm (c:=cmpB) m);refine⟨sortB_strict hn,(keys_perm hp).nodup_iff.2 hn,fun v=> ?_,hso.perm hp.symm hn⟩;rw[(keys_perm hp).mem_iff,hk]
  ·rintro⟨hr,hn,hv,hso⟩;obtain⟨m,hm⟩:∃m:List BindD,m=(posVars [] body).map fun k=>(bs k,(getB r (bs k)).getD ByteArray.empty):=⟨_,rfl⟩;have hk:keysB m=(posVars [] body).map bs:=by rw[hm];unfold keysB;rw[List.map_map];rfl
   have hnm:(keysB m).Nodup:=by rw[hk];exact posKeys_nodup body
   have hmem:∀x,x∈m↔x∈r:=fun x=>by
    constructor
    ·intro hx;rw[hm] at hx;obtain⟨k,hk,rfl⟩:=List.mem_map.1 hx;obtain⟨s,hs⟩:=getB_isSome ((hv (bs k)).2 (mem_map_bs.2 hk));rw[hs];exact getB_mem hs
    ·intro hx;have h1:x.1∈(posVars [] body).map bs:=(hv x.1).1 (List.mem_map.2 ⟨x,hx,rfl⟩);obtain⟨k,hk,e⟩:=List.mem_map.1 h1;rw[hm];refine List.mem_map.2 ⟨k,hk,?_⟩;have:=getB_of_mem (v:=x.1) (s:=x.2) hn hx;rw[e,this]
     rfl
   have hsm:sortB m=r:=rise_ext three_cmpB (sortB_strict hnm) hr fun x=>by rw[(sortBy_perm m).mem_iff];exact hmem x
   refine⟨m,(kept_mem hc e m).2 ⟨hk,?_⟩,hsm⟩;have hp:r.Perm m:=by rw[←hsm];exact sortBy_perm m
   exact hso.perm hp hn
theorem all_strict {pick:Nat→List FactB} {body:List AtomD} (hc:Covers body) (hp:∀i,(pick i).Nodup) {R:List (List BindD)} (h:allB pick body=some R):R.Pairwise fun a b=>cmpBs a b<0:=by
 unfold allB at h;cases e:metGo pick 0 body [[]] with
 |none=>rw[e] at h;cases h
 |some ms=>
  rw[e] at h;cases h;refine strict_of three_cmpBs (sortBy_sorted three_cmpBs _) ((sortBy_perm _).nodup_iff.2 ?_);have hms:ms.Nodup:=met_nodup pick hp body 0 [[]] ms [] (fun l hl=>by simp at hl;subst hl;rfl) (by simp) e;rw[List.Nodup,List.pairwise_map];have h1:(ms.filter fun l=> !barredB pick 0 body l).Nodup:=hms.filter _;refine(List.Pairwise.and_mem.1 h1).imp fun {l m} ⟨hl,hm,hne⟩ e'=>hne ?_;have k1:=((kept_mem hc e l).1 hl).1;have k2:=((kept_mem hc e m).1 hm).1;exact sortB_inj (k1.trans k2.symm) (by rw[k1];exact posKeys_nodup body) e'
theorem SoB_const {fs:List FactB} {body:List AtomD} {l:List BindD}:SoB (fun _=>fs) body l↔∀a∈body,∃f,fillB a l=some f∧inB fs f= !a.no:=by
 constructor
 ·intro h a ha;obtain⟨i,hi⟩:=List.getElem?_of_mem ha;exact h i a hi
 ·intro h i a ha;exact h a (getElem_mem' ha)
end Go.Proofs.YtafmbokfkbccaaaGreatDoor
namespace Go.Proofs.YtafmbokfkbccaaaGreatDoor
abbrev Up (s:List FactB):Prop:=s.Pairwise fun a b=>cmpF a b<0
def dropTwice:List FactB→List FactB
 |[]=>[]
 |f::l=>if inB l f then dropTwice l else f::dropTwice l
theorem mem_dropTwice:∀{l:List FactB} {f:FactB},f∈dropTwice l↔f∈l
 |[],f=>by simp[dropTwice]
 |g::l,f=>by
  unfold dropTwice;split
  ·rename_i h;rw[mem_dropTwice,List.mem_cons];exact⟨Or.inr,fun h'=>h'.elim (fun e=>by rw[e];exact inB_iff.1 h) id⟩
  ·rw[List.mem_cons,List.mem_cons,mem_dropTwice]
theorem dropTwice_nodup:∀(l:List FactB),(dropTwice l).Nodup
 |[]=>List.nodup_nil
 |g::l=>by
  unfold dropTwice;split
  ·exact dropTwice_nodup l
  ·rename_i h;exact List.nodup_cons.2 ⟨fun h'=>h (inB_iff.2 (mem_dropTwice.1 h')),dropTwice_nodup l⟩
theorem dropTwice_len:∀(l:List FactB),(dropTwice l).length≤l.length
 |[]=>Nat.le_refl _
 |g::l=>by
  have:=dropTwice_len l;unfold dropTwice;split <;> simp <;> omega
def setF (l:List FactB):List FactB:=sortBy cmpF (dropTwice l)
theorem mem_setF {l:List FactB} {f:FactB}:f∈setF l↔f∈l:=by
 unfold setF;rw[(sortBy_perm _).mem_iff,mem_dropTwice]
theorem setF_up (l:List FactB):Up (setF l):=strict_of three_cmpF (sortBy_sorted three_cmpF _) ((sortBy_perm _).nodup_iff.2 (dropTwice_nodup l))
theorem setF_len (l:List FactB):(setF l).length≤l.length:=by
 unfold setF;rw[(sortBy_perm _).length_eq];exact dropTwice_len l
theorem up_ext {s t:List FactB} (hs:Up s) (ht:Up t) (h:∀f,f∈s↔f∈t):s=t:=rise_ext three_cmpF hs ht h
theorem setF_of {s l:List FactB} (hs:Up s) (h:∀f,f∈s↔f∈l):s=setF l:=up_ext hs (setF_up l) fun f=>by rw[mem_setF,h]
theorem setF_up_self {s:List FactB} (hs:Up s):setF s=s:=(setF_of hs fun _=>Iff.rfl).symm
theorem setF_congr {l m:List FactB} (h:∀f,f∈l↔f∈m):setF l=setF m:=up_ext (setF_up l) (setF_up m) fun f=>by rw[mem_setF,mem_setF,h]
theorem up_nodup {s:List FactB} (hs:Up s):s.Nodup:=strict_nodup three_cmpF hs
theorem sub_len:∀{s t:List FactB},s.Nodup→(∀f∈s,f∈t)→s.length≤t.length
 |[],_,_,_=>Nat.zero_le _
 |a::s,t,hn,h=>by
  have hn':=List.nodup_cons.1 hn;obtain⟨t1,t2,rfl⟩:=List.append_of_mem (h a (by simp));have:=sub_len (t:=t1++t2) hn'.2 fun f hf=>by
   have h1:=h f (by simp[hf]);simp only[List.mem_append,List.mem_cons] at h1⊢;rcases h1 with h1|rfl|h1
   ·exact Or.inl h1
   ·exact absurd hf hn'.1
   ·exact Or.inr h1
  simp only[List.length_cons,List.length_append] at this⊢;omega
theorem up_le {s t:List FactB} (hs:Up s) (h:∀f∈s,f∈t):s.length≤t.length:=sub_len (up_nodup hs) h
theorem up_same {s t:List FactB} (hs:Up s) (ht:Up t) (h:∀f∈s,f∈t) (e:t.length≤s.length):s=t:=by
 refine up_ext hs ht fun f=>⟨h f,fun hf=>Classical.byContradiction fun hn=> ?_⟩;have:=sub_len (s:=f::s) (t:=t) (List.nodup_cons.2 ⟨hn,up_nodup hs⟩) fun g hg=>by
  rcases List.mem_cons.1 hg with rfl|hg
  ·exact hf
  ·exact h g hg
 simp only[List.length_cons] at this;omega
def headsP (r:RuleD) (fs:List FactB):Option (List FactB):=match allB (fun _=>fs) r.body with
 |none=>none
 |some R=>some (setF (R.filterMap fun l=>fillB r.head l))
def onceGo (n:Int) (fs:List FactB):List RuleD→List Nat→List FactB→Int×List FactB
 |[],_,acc=>(0,setF acc)
 |_::_,[],acc=>(0,setF acc)
 |r::p,s::ss,acc=>if(s:Int)=n then
   match headsP r fs with
   |none=>(4,[])
   |some x=>if 200<(setF (acc++x)).length then(5,[]) else onceGo n fs p ss (acc++x)
  else onceGo n fs p ss acc
def onceP (p:List RuleD) (ss:List Nat) (n:Int) (fs:List FactB):Int×List FactB:=onceGo n fs p ss fs
def overGo (p:List RuleD) (ss:List Nat) (n:Int):Nat→List FactB→Int×List FactB
 |0,l=>(0,l)
 |k+1,l=>if(onceP p ss n l).1≠0 then((onceP p ss n l).1,[]) else if(onceP p ss n l).2.length=l.length then(0,(onceP p ss n l).2) else overGo p ss n k (onceP p ss n l).2
def countP:List Nat→Nat
 |[]=>0
 |s::ss=>max (s+1) (countP ss)
theorem lt_countP:∀{ss:List Nat} {s:Nat},s∈ss→s<countP ss
 |t::ss,s,h=>by
  unfold countP;rcases List.mem_cons.1 h with rfl|h
  ·omega
  ·have:=lt_countP h;omega
theorem countP_congr {ss tt:List Nat} (h:∀s,s∈ss↔s∈tt):countP ss=countP tt:=by
 have key:∀{a b:List Nat},(∀s∈a,s∈b)→countP a≤countP b:=by
  intro a
  induction a with
  |nil=>intro b _;exact Nat.zero_le _
  |cons x a ih=>
   intro b hb;have h1:=ih fun s hs=>hb s (List.mem_cons_of_mem _ hs);have h2:=lt_countP (hb x (by simp));show max (x+1) (countP a)≤countP b;omega
 exact Nat.le_antisymm (key fun s hs=>(h s).1 hs) (key fun s hs=>(h s).2 hs)
def runGo (p:List RuleD) (ss:List Nat):Nat→Nat→List FactB→Int×List FactB
 |0,_,l=>(0,l)
 |c+1,n,l=>if(overGo p ss n 201 l).1≠0 then((overGo p ss n 201 l).1,[]) else runGo p ss c (n+1) (overGo p ss n 201 l).2
def fitF (p:List RuleD) (f:FactB):Bool:=p.all fun r=>(r.head::r.body).all fun a=> !decide (bs a.name=f.1)||decide (a.terms.length=f.2.length)
structure RightR (r:RuleD):Prop where
 head:wrongAtom r.head=0
 yes:r.head.no=false
 body:wrongBody r.body=0
 vars:(vars r.head).all (givenBy r.body)=true
def atomsP (p:List RuleD):List AtomD:=p.flatMap fun r=>r.head::r.body
theorem fitAll_append (l q:List AtomD):∀m:Nums,fitAll m (l++q)=if(fitAll m l).1 then fitAll (fitAll m l).2 q else fitAll m l:=by
 induction l with
 |nil=>intro m;simp[fitAll]
 |cons a l ih=>
  intro m
  by_cases h:(fitOne m a).1=true
  ·have h1:∀q,fitAll m (a::q)=fitAll (fitOne m a).2 q:=fun q=>by rw[fitAll,if_pos h]
   rw[List.cons_append,h1,h1,ih]
  ·have h1:∀q,fitAll m (a::q)=(false,(fitOne m a).2):=fun q=>by rw[fitAll,if_neg h]
   rw[List.cons_append,h1,h1];rfl
theorem wrongRule_iff (m:Nums) (r:RuleD):(wrongRule m r).1=0↔RightR r∧(fitAll m (r.head::r.body)).1=true:=by
 unfold wrongRule
 constructor
 ·intro h;split at h
  ·rename_i h1;split at h
   ·cases h
   ·rename_i h2;split at h
    ·rename_i h3;split at h
     ·rename_i h4;split at h
      ·rename_i h5;refine⟨⟨h1,by simpa using h2,h3,h4⟩,?_⟩;unfold fitAll;rw[if_pos h5];dsimp only at h;split at h
       ·assumption
       ·cases h
      ·cases h
     ·cases h
    ·rename_i h3;exact absurd h h3
  ·rename_i h1;exact absurd h h1
 ·rintro⟨⟨h1,h2,h3,h4⟩,h5⟩;unfold fitAll at h5;split at h5
  ·rename_i h6;rw[if_pos h1,if_neg (by simp[h2]),if_pos h3,if_pos h4,if_pos h6,if_pos h5]
  ·cases h5
theorem wrongRule_next (m:Nums) (r:RuleD) (h:(wrongRule m r).1=0):(wrongRule m r).2=(fitAll m (r.head::r.body)).2:=by
 obtain⟨⟨h1,h2,h3,h4⟩,h5⟩:=(wrongRule_iff m r).1 h;unfold fitAll at h5⊢;split at h5
 ·rename_i h6;unfold wrongRule;rw[if_pos h1,if_neg (by simp[h2]),if_pos h3,if_pos h4,if_pos h6,if_pos h6]
 ·cases h5
theorem wrongGo_iff (p:List RuleD):∀(m:Nums) (i:Nat),(wrongGo m i p).1=0↔(∀r∈p,RightR r)∧(fitAll m (atomsP p)).1=true:=by
 induction p with
 |nil=>intro m i;simp[wrongGo,atomsP,fitAll]
 |cons r p ih=>
  intro m i;have ea:atomsP (r::p)=(r.head::r.body)++atomsP p:=rfl;rw[ea,fitAll_append];unfold wrongGo
  by_cases h:(wrongRule m r).1=0
  ·rw[if_pos h,ih,wrongRule_next m r h];obtain⟨h1,h2⟩:=(wrongRule_iff m r).1 h;rw[if_pos h2];simp[h1]
  ·rw[if_neg h];refine⟨fun h'=>absurd h' h,fun⟨h1,h2⟩=> ?_⟩
   exfalso
   split at h2
   ·rename_i h3;exact h ((wrongRule_iff m r).2 ⟨h1 r (by simp),h3⟩)
   ·rename_i h3;exact h3 h2
def Even (l:List AtomD):Prop:=∀a∈l,∀b∈l,a.name=b.name→a.terms.length=b.terms.length
theorem fitAll_iff (l:List AtomD):∀m:Nums,(fitAll m l).1=true↔(∀a∈l,∀n,m a.name=some n→n=a.terms.length)∧Even l:=by
 induction l with
 |nil=>intro m;simp[fitAll,Even]
 |cons a l ih=>
  intro m;unfold fitAll;cases e:m a.name with
  |none=>
   have h1:fitOne m a=(true,m.put a.name a.terms.length):=by unfold fitOne;rw[e]
   rw[h1];simp only[if_true];rw[ih]
   constructor
   ·rintro⟨h2,h3⟩;have h4:∀b∈l,b.name=a.name→a.terms.length=b.terms.length:=fun b hb hn=>h2 b hb _ (by unfold Nums.put;rw[if_pos hn]);refine⟨fun b hb n hn=> ?_,fun b hb c hc hbc=> ?_⟩
    ·rcases List.mem_cons.1 hb with rfl|hb
     ·rw[e] at hn;cases hn
     ·by_cases hne:b.name=a.name
      ·rw[hne,e] at hn;cases hn
      ·exact h2 b hb n (by unfold Nums.put;rw[if_neg hne];exact hn)
    ·rcases List.mem_cons.1 hb with rfl|hb'
     ·rcases List.mem_cons.1 hc with rfl|hc
      ·rfl
      ·exact h4 c hc hbc.symm
     ·rcases List.mem_cons.1 hc with rfl|hc
      ·exact(h4 b hb' hbc).symm
      ·exact h3 b hb' c hc hbc
   ·rintro⟨h2,h3⟩;refine⟨fun b hb n hn=> ?_,fun b hb c hc=>h3 b (by simp[hb]) c (by simp[hc])⟩;unfold Nums.put at hn;split at hn
    ·rename_i hne;cases hn;exact h3 a (by simp) b (by simp[hb]) hne.symm
    ·exact h2 b (by simp[hb]) n hn
  |some k=>
   have h1:fitOne m a=(decide (k=a.terms.length),m):=by unfold fitOne;rw[e]
   rw[h1]
   by_cases hk:k=a.terms.length
   ·simp only[hk,decide_true,if_true];rw[ih];have h4:(∀b∈l,∀n,m b.name=some n→n=b.terms.length)→∀b∈l,b.name=a.name→a.terms.length=b.terms.length:=fun h b hb hn=>h b hb _ (by rw[hn,e,hk])
    constructor
    ·rintro⟨h2,h3⟩;refine⟨fun b hb n hn=> ?_,fun b hb c hc hbc=> ?_⟩
     ·rcases List.mem_cons.1 hb with rfl|hb
      ·rw[e] at hn;cases hn;exact hk
      ·exact h2 b hb n hn
     ·rcases List.mem_cons.1 hb with rfl|hb'
      ·rcases List.mem_cons.1 hc with rfl|hc
       ·rfl
       ·exact h4 h2 c hc hbc.symm
      ·rcases List.mem_cons.1 hc with rfl|hc
       ·exact(h4 h2 b hb' hbc).symm
       ·exact h3 b hb' c hc hbc
    ·rintro⟨h2,h3⟩;exact⟨fun b hb=>h2 b (by simp[hb]),fun b hb c hc=>h3 b (by simp[hb]) c (by simp[hc])⟩
   ·simp only[hk,decide_false];refine⟨fun h=>by simp at h,fun⟨h2,_⟩=> ?_⟩;exact absurd (h2 a (by simp) k e) hk
structure RightP (p:List RuleD):Prop where
 few:p.length≤16
 rules:∀r∈p,RightR r
 even:Even (atomsP p)
theorem rightP_iff {p:List RuleD}:(wrongP p).1=0↔RightP p:=by
 unfold wrongP
 constructor
 ·intro h;split at h
  ·cases h
  ·rename_i h1;obtain⟨h2,h3⟩:=(wrongGo_iff p _ _).1 h;exact⟨by omega,h2,((fitAll_iff _ _).1 h3).2⟩
 ·rintro⟨h1,h2,h3⟩;rw[if_neg (by omega)];exact(wrongGo_iff p _ _).2 ⟨h2,(fitAll_iff _ _).2 ⟨fun _ _ _ h=>(by simp at h),h3⟩⟩
theorem RightP.turned {p:List RuleD} (h:RightP p):RightP p.reverse:=
 ⟨by rw[List.length_reverse];exact h.few,fun r hr=>h.rules r (List.mem_reverse.1 hr),fun a ha b hb=>h.even a (by simpa[atomsP] using ha) b (by simpa[atomsP] using hb)⟩
end Go.Proofs.YtafmbokfkbccaaaGreatDoor
namespace Go.Proofs.YtafmbokfkbccaaaGreatDoor
theorem heads_mem {r:RuleD} {fs x:List FactB} (hc:Covers r.body) (h:headsP r fs=some x) (f:FactB):f∈x↔∃env,FitsB (fun _=>fs) r.body env∧fillB r.head env=some f:=by
 unfold headsP at h;cases e:allB (fun _=>fs) r.body with
 |none=>rw[e] at h;cases h
 |some R=>
  rw[e] at h;cases h;rw[mem_setF,List.mem_filterMap];exact⟨fun⟨l,hl,hf⟩=>⟨l,(all_mem hc e l).1 hl,hf⟩,fun⟨l,hl,hf⟩=>⟨l,(all_mem hc e l).2 hl,hf⟩⟩
theorem fill_name {a:AtomD} {l:List BindD} {f:FactB} (h:fillB a l=some f):f.1=bs a.name∧fillArgs l a.terms=some f.2:=by
 unfold fillB at h;cases e:fillArgs l a.terms with
 |none=>rw[e] at h;cases h
 |some r=>rw[e] at h;cases h;exact⟨rfl,rfl⟩
theorem fits_sub {fs gs:List FactB} {body:List AtomD} {env:List BindD} (hpos:∀a∈body,a.no=false→∀f:FactB,f.1=bs a.name→f∈fs→f∈gs)
  (hneg:∀a∈body,a.no=true→∀f:FactB,f.1=bs a.name→f∈gs→f∈fs) (h:FitsB (fun _=>fs) body env):FitsB (fun _=>gs) body env:=by
 obtain⟨h1,h2,h3,h4⟩:=h;refine⟨h1,h2,h3,SoB_const.2 fun a ha=> ?_⟩;obtain⟨f,hf,hi⟩:=SoB_const.1 h4 a ha;refine⟨f,hf,?_⟩;have hn:=(fill_name hf).1;cases hno:a.no with
 |false=>
  rw[hno] at hi;exact inB_iff.2 (hpos a ha hno f hn (inB_iff.1 hi))
 |true=>
  rw[hno] at hi;cases e:inB gs f with
  |false=>rfl
  |true=>rw[inB_iff.2 (hneg a ha hno f hn (inB_iff.1 e))] at hi;cases hi
def RightF (f:FactB):Prop:=isNamed (raw f.1)=true∧f.2.length≤4∧∀s∈f.2,isNamed (raw s)=true
theorem fillArgs_to {l:List BindD}:∀{ts:List TermD} {r:List ByteArray},fillArgs l ts=some r→∀t∈ts,∃u∈r,worthB l t=some u
 |[],_,_=>fun _ h=>by cases h
 |t::ts,r,h=>fun u hu=>by
  simp only[fillArgs] at h;cases e:worthB l t with
  |none=>rw[e] at h;cases h
  |some s=>
   rw[e] at h;dsimp only at h;cases e2:fillArgs l ts with
   |none=>rw[e2] at h;cases h
   |some q=>
    rw[e2] at h;cases h;rcases List.mem_cons.1 hu with rfl|hu
    ·exact⟨s,by simp,e⟩
    ·obtain⟨v,hv,hw⟩:=fillArgs_to e2 u hu;exact⟨v,by simp[hv],hw⟩
theorem fillArgs_from {l:List BindD}:∀{ts:List TermD} {r:List ByteArray},fillArgs l ts=some r→∀u∈r,∃t∈ts,worthB l t=some u
 |[],_,h=>fun _ hu=>by cases h;cases hu
 |t::ts,r,h=>fun u hu=>by
  simp only[fillArgs] at h;cases e:worthB l t with
  |none=>rw[e] at h;cases h
  |some s=>
   rw[e] at h;dsimp only at h;cases e2:fillArgs l ts with
   |none=>rw[e2] at h;cases h
   |some q=>
    rw[e2] at h;cases h;rcases List.mem_cons.1 hu with rfl|hu
    ·exact⟨t,by simp,e⟩
    ·obtain⟨v,hv,hw⟩:=fillArgs_from e2 u hu;exact⟨v,by simp[hv],hw⟩
theorem env_right {fs:List FactB} {body:List AtomD} {env:List BindD} (hr:∀f∈fs,RightF f) (h:FitsB (fun _=>fs) body env) {v s:ByteArray} (hg:getB env v=some s):isNamed (raw s)=true:=by
 obtain⟨_,_,h3,h4⟩:=h;have hk0:v∈keysB env:=List.mem_map.2 ⟨_,getB_mem hg,rfl⟩;obtain⟨k,hk,rfl⟩:=List.mem_map.1 ((h3 v).1 hk0);rcases(mem_posVars body).1 hk with hk|⟨a,ha,hno,t,ht,ht1,rfl⟩
 ·cases hk
 obtain⟨f,hf,hi⟩:=SoB_const.1 h4 a ha;rw[hno] at hi;obtain⟨u,hu,hw⟩:=fillArgs_to (fill_name hf).2 t ht;unfold worthB at hw;rw[if_pos ht1,hg] at hw;cases hw;exact(hr f (inB_iff.1 hi)).2.2 _ hu
theorem atom_zero {a:AtomD} (h:wrongAtom a=0):isNamed a.name=true∧a.terms.length≤4∧∀t∈a.terms,wrongTerm t=false:=by
 unfold wrongAtom at h;split at h
 ·cases h
 ·rename_i h1;split at h
  ·cases h
  ·rename_i h2;split at h
   ·cases h
   ·rename_i h3;refine⟨by simpa using h1,by omega,fun t ht=> ?_⟩;cases e:wrongTerm t with
    |false=>rfl
    |true=>exact absurd (List.any_eq_true.2 ⟨t,ht,e⟩) h3
theorem head_right {r:RuleD} {fs:List FactB} {env:List BindD} {f:FactB} (hR:RightR r) (hr:∀f∈fs,RightF f) (h:FitsB (fun _=>fs) r.body env) (hf:fillB r.head env=some f):
  RightF f∧f.1=bs r.head.name∧f.2.length=r.head.terms.length:=by
 obtain⟨h1,h2⟩:=fill_name hf;obtain⟨h3,h4,h5⟩:=atom_zero hR.head;have hl:=fillArgs_len h2;refine⟨⟨by rw[h1,raw_bs];exact h3,by omega,fun s hs=> ?_⟩,h1,hl⟩;obtain⟨t,ht,hw⟩:=fillArgs_from h2 s hs;unfold worthB at hw;split at hw
 ·exact env_right hr h hw
 ·rename_i ht1;cases hw;have:=h5 t ht;unfold wrongTerm at this;rw[if_neg ht1] at this;rw[raw_bs];simpa using this
structure GoodS (p:List RuleD) (L:List FactB):Prop where
 up:Up L
 right:∀f∈L,RightF f
 few:L.length≤200
 fit:∀f∈L,fitF p f=true
theorem fitF_iff {p:List RuleD} {f:FactB}:fitF p f=true↔∀a∈atomsP p,bs a.name=f.1→a.terms.length=f.2.length:=by
 unfold fitF atomsP;simp only[List.all_eq_true,Bool.or_eq_true,Bool.not_eq_true',decide_eq_false_iff_not,decide_eq_true_eq,List.mem_flatMap]
 constructor
 ·rintro h a ⟨r,hr,ha⟩ e;exact(h r hr a ha).resolve_left fun hn=>hn e
 ·intro h r hr a ha
  by_cases e:bs a.name=f.1
  ·exact Or.inr (h a ⟨r,hr,ha⟩ e)
  ·exact Or.inl e
theorem head_fit {p:List RuleD} (hp:RightP p) {r:RuleD} (hr:r∈p) {f:FactB} (h1:f.1=bs r.head.name) (h2:f.2.length=r.head.terms.length):fitF p f=true:=
 fitF_iff.2 fun a ha e=>by
  rw[h2];exact hp.even a ha r.head (List.mem_flatMap.2 ⟨r,hr,by simp⟩) (bs_inj (e.trans h1))
theorem covers_right {r:RuleD} (h:RightR r):Covers r.body:=covers_of h.body
theorem onceGo_ok {n:Int} {fs:List FactB} (σ:RuleD→Nat):∀{p:List RuleD} {acc S:List FactB},onceGo n fs p (p.map σ) acc=(0,S)→
  (∀r∈p,(σ r:Int)=n→∃x,headsP r fs=some x∧∀f∈x,f∈S)∧(∀f∈acc,f∈S)∧(∀f∈S,f∈acc∨∃r∈p,(σ r:Int)=n∧∃x,headsP r fs=some x∧f∈x)∧Up S∧((setF acc).length≤200→S.length≤200)
 |[],acc,S,h=>by
  simp only[onceGo,Prod.mk.injEq,true_and] at h;subst h;exact⟨fun _ h=>(by cases h),fun f hf=>mem_setF.2 hf,fun f hf=>Or.inl (mem_setF.1 hf),setF_up _,id⟩
 |r::p,acc,S,h=>by
  simp only[onceGo,List.map_cons] at h;split at h
  ·rename_i hs;split at h
   ·simp at h
   ·rename_i x hx;split at h
    ·simp at h
    ·rename_i hlen;obtain⟨h1,h2,h3,h4,h5⟩:=onceGo_ok σ h;refine⟨fun q hq hqn=> ?_,fun f hf=>h2 f (by simp[hf]),fun f hf=> ?_,h4,fun _=>h5 (by omega)⟩
     ·rcases List.mem_cons.1 hq with rfl|hq
      ·exact⟨x,hx,fun f hf=>h2 f (by simp[hf])⟩
      ·exact h1 q hq hqn
     ·rcases h3 f hf with hf|⟨q,hq,hqn,y,hy,hf⟩
      ·rcases List.mem_append.1 hf with hf|hf
       ·exact Or.inl hf
       ·exact Or.inr ⟨r,by simp,hs,x,hx,hf⟩
      ·exact Or.inr ⟨q,by simp[hq],hqn,y,hy,hf⟩
  ·rename_i hs;obtain⟨h1,h2,h3,h4,h5⟩:=onceGo_ok σ h;refine⟨fun q hq hqn=> ?_,h2,fun f hf=> ?_,h4,h5⟩
   ·rcases List.mem_cons.1 hq with rfl|hq
    ·exact absurd hqn hs
    ·exact h1 q hq hqn
   ·rcases h3 f hf with hf|⟨q,hq,hqn,y,hy,hf⟩
    ·exact Or.inl hf
    ·exact Or.inr ⟨q,by simp[hq],hqn,y,hy,hf⟩
theorem onceGo_of {n:Int} {fs:List FactB} (σ:RuleD→Nat) {T:List FactB} (hT:T.length≤200):∀{p:List RuleD} {acc:List FactB},(∀r∈p,(σ r:Int)=n→∃x,headsP r fs=some x∧∀f∈x,f∈T)→(∀f∈acc,f∈T)→
  (onceGo n fs p (p.map σ) acc).1=0
 |[],acc,_,_=>rfl
 |r::p,acc,h,ha=>by
  simp only[onceGo,List.map_cons];split
  ·rename_i hs;obtain⟨x,hx,hxT⟩:=h r (by simp) hs;rw[hx];have hsub:∀f∈acc++x,f∈T:=fun f hf=>(List.mem_append.1 hf).elim (ha f) (hxT f);have hlen:=up_le (setF_up (acc++x)) fun f hf=>hsub f (mem_setF.1 hf);dsimp only;rw[if_neg (by omega)];exact onceGo_of σ hT (fun q hq=>h q (by simp[hq])) hsub
  ·exact onceGo_of σ hT (fun q hq=>h q (by simp[hq])) ha
theorem onceGo_err {n:Int} {fs:List FactB}:∀{p:List RuleD} {ss:List Nat} {acc:List FactB},(onceGo n fs p ss acc).1=0∨onceGo n fs p ss acc=(4,[])∨onceGo n fs p ss acc=(5,[])
 |[],_,_=>Or.inl rfl
 |_::_,[],_=>Or.inl rfl
 |r::p,s::ss,acc=>by
  simp only[onceGo];split
  ·split
   ·exact Or.inr (Or.inl rfl)
   ·split
    ·exact Or.inr (Or.inr rfl)
    ·exact onceGo_err
  ·exact onceGo_err
theorem once_good {p:List RuleD} (hp:RightP p) (σ:RuleD→Nat) {n:Int} {L S:List FactB} (hL:GoodS p L) (h:onceP p (p.map σ) n L=(0,S)):GoodS p S∧∀f∈L,f∈S:=by
 obtain⟨h1,h2,h3,h4,h5⟩:=onceGo_ok σ h;have key:∀f∈S,f∈L∨(RightF f∧fitF p f=true):=fun f hf=>by
  rcases h3 f hf with hf|⟨r,hr,_,x,hx,hf⟩
  ·exact Or.inl hf
  ·obtain⟨env,he,hfill⟩:=(heads_mem (covers_right (hp.rules r hr)) hx f).1 hf;obtain⟨a,b,c⟩:=head_right (hp.rules r hr) hL.right he hfill;exact Or.inr ⟨a,head_fit hp hr b c⟩
 refine⟨⟨h4,fun f hf=>(key f hf).elim (hL.right f) (·.1),h5 (by rw[setF_up_self hL.up];exact hL.few),fun f hf=>(key f hf).elim (hL.fit f) (·.2)⟩,h2⟩
inductive Walks (p:List RuleD) (ss:List Nat) (n:Int):List FactB→List FactB→Prop
 |stop {L:List FactB}:onceP p ss n L=(0,L)→Walks p ss n L L
 |go {L L' M:List FactB}:onceP p ss n L=(0,L')→Walks p ss n L' M→Walks p ss n L M
theorem over_walks {p:List RuleD} (hp:RightP p) (σ:RuleD→Nat) {n:Int}:∀(k:Nat) {L M:List FactB},GoodS p L→overGo p (p.map σ) n k L=(0,M)→200<L.length+k→Walks p (p.map σ) n L M
 |0,L,M,hL,_,hk=>by have:=hL.few;omega
 |k+1,L,M,hL,h,hk=>by
  unfold overGo at h;obtain⟨e,x,hx⟩:∃e x,onceP p (p.map σ) n L=(e,x):=⟨_,_,rfl⟩;rw[hx] at h;dsimp only at h;split at h
  ·rename_i he;simp at h;exact absurd h.1 he
  ·rename_i he;have he:e=0:=by simpa using he
   subst he;obtain⟨g1,g2⟩:=once_good hp σ hL hx;split at h
   ·rename_i hlen;have e:L=x:=up_same hL.up g1.up g2 (by omega);simp at h;subst h;subst e;exact .stop hx
   ·rename_i hlen;have:=up_le hL.up g2;exact .go hx (over_walks hp σ k g1 h (by omega))
theorem walks_inv {p:List RuleD} (hp:RightP p) (σ:RuleD→Nat) {n:Int} {P:List FactB→Prop} (hP:∀L L',GoodS p L→P L→onceP p (p.map σ) n L=(0,L')→P L') {L M:List FactB} (h:Walks p (p.map σ) n L M):
  GoodS p L→P L→GoodS p M∧P M∧onceP p (p.map σ) n M=(0,M)∧∀f∈L,f∈M:=by
 induction h with
 |stop h=>exact fun hL hPL=>⟨hL,hPL,h,fun _ h=>h⟩
 |go h _ ih=>
  intro hL hPL;obtain⟨g1,g2⟩:=once_good hp σ hL h;obtain⟨a,b,c,d⟩:=ih g1 (hP _ _ hL hPL h);exact⟨a,b,c,fun f hf=>d f (g2 f hf)⟩
theorem run_inv {p:List RuleD} (hp:RightP p) (σ:RuleD→Nat) {P:Nat→List FactB→Prop} (hP:∀(n:Nat) L M,GoodS p L→P n L→Walks p (p.map σ) n L M→P (n+1) M):
  ∀(c n:Nat) {L M:List FactB},GoodS p L→P n L→runGo p (p.map σ) c n L=(0,M)→GoodS p M∧P (n+c) M∧∀f∈L,f∈M
 |0,n,L,M,hL,hPL,h=>by
  simp[runGo] at h;subst h;exact⟨hL,hPL,fun _ h=>h⟩
 |c+1,n,L,M,hL,hPL,h=>by
  unfold runGo at h;obtain⟨e,x,hx⟩:∃e x,overGo p (p.map σ) n 201 L=(e,x):=⟨_,_,rfl⟩;rw[hx] at h;dsimp only at h;split at h
  ·rename_i he;simp at h;exact absurd h.1 he
  ·rename_i he;have he:e=0:=by simpa using he
   subst he;have hw:=over_walks hp σ 201 hL hx (by omega);obtain⟨g1,_,_,g2⟩:=walks_inv hp σ (P:=fun _=>True) (fun _ _ _ _ _=>trivial) hw hL trivial;obtain⟨a,b,d⟩:=run_inv hp σ hP c (n+1) g1 (hP n L x hL hPL hw) h;exact⟨a,by rw[show n+(c+1)=n+1+c by omega];exact b,fun f hf=>d f (g2 f hf)⟩
structure Way (p:List RuleD) (τ:Bs→Nat) (l:List FactB) (n m:Nat) (L:List FactB):Prop where
 told:∀f∈l,f∈L
 of:∀f∈L,f∉l→∃r∈p,τ r.head.name<m∧f.1=bs r.head.name
 closed:∀r∈p,τ r.head.name<n→∀env f,FitsB (fun _=>L) r.body env→fillB r.head env=some f→f∈L
 made:∀f∈L,f∉l→∃r∈p,τ r.head.name<m∧∃env,FitsB (fun _=>L) r.body env∧fillB r.head env=some f
theorem way_once {p:List RuleD} (hp:RightP p) {τ:Bs→Nat} (hτ:Sol p τ) {l:List FactB} {n:Nat} {L L':List FactB} (hw:Way p τ l n (n+1) L) (h:onceP p (p.map fun r=>τ r.head.name) n L=(0,L')):Way p τ l n (n+1) L':=by
 obtain⟨h1,h2,h3,h4,h5⟩:=onceGo_ok (fun r=>τ r.head.name) h;have hnew:∀f∈L',f∈L∨∃r∈p,τ r.head.name=n∧∃env,FitsB (fun _=>L) r.body env∧fillB r.head env=some f∧f.1=bs r.head.name:=fun f hf=>by
  rcases h3 f hf with hf|⟨r,hr,hn,x,hx,hf⟩
  ·exact Or.inl hf
  ·obtain⟨env,he,hfill⟩:=(heads_mem (covers_right (hp.rules r hr)) hx f).1 hf;exact Or.inr ⟨r,hr,Int.ofNat.inj hn,env,he,hfill,(fill_name hfill).1⟩
 have hold:∀r∈p,∀a∈r.body,τ r.head.name<n+step a→∀f:FactB,f.1=bs a.name→f∈L'→f∈L:=fun r hr a ha hlt f hfn hf=>by
  rcases hnew f hf with hf|⟨q,hq,hqn,_,_,_,hqf⟩
  ·exact hf
  ·exfalso
   have e:a.name=q.head.name:=bs_inj (hfn.symm.trans hqf);have:=hτ r hr a ha ⟨q,hq,e.symm⟩;rw[e] at this;omega
 have hfits:∀r∈p,τ r.head.name<n+1→∀env,FitsB (fun _=>L) r.body env→FitsB (fun _=>L') r.body env:=fun r hr hrn env he=>
  fits_sub (fun a _ _ f _ hf=>h2 f hf) (fun a ha hno f hfn hf=>hold r hr a ha (by simp only[step,hno,if_true];omega) f hfn hf) he
 refine⟨fun f hf=>h2 f (hw.told f hf),fun f hf hfl=> ?_,fun r hr hrn env f he hfill=> ?_,fun f hf hfl=> ?_⟩
 ·rcases hnew f hf with hf|⟨q,hq,hqn,_,_,_,hqf⟩
  ·exact hw.of f hf hfl
  ·exact⟨q,hq,by omega,hqf⟩
 ·refine h2 f (hw.closed r hr hrn env f (fits_sub (fun a ha hno f hfn hf=>hold r hr a ha (by omega) f hfn hf) (fun a _ _ f _ hf=>h2 f hf) he) hfill)
 ·rcases hnew f hf with hf|⟨q,hq,hqn,env,he,hfill,_⟩
  ·obtain⟨r,hr,hrn,env,he,hfill⟩:=hw.made f hf hfl;exact⟨r,hr,hrn,env,hfits r hr hrn env he,hfill⟩
  ·exact⟨q,hq,by omega,env,hfits q hq (by omega) env he,hfill⟩
theorem way_walks {p:List RuleD} (hp:RightP p) {τ:Bs→Nat} (hτ:Sol p τ) {l:List FactB} {n:Nat} {L M:List FactB} (hL:GoodS p L) (hw:Way p τ l n n L) (h:Walks p (p.map fun r=>τ r.head.name) n L M):Way p τ l (n+1) (n+1) M:=by
 have h0:Way p τ l n (n+1) L:=⟨hw.told,fun f hf hn=>by obtain⟨r,hr,h1,h2⟩:=hw.of f hf hn;exact⟨r,hr,by omega,h2⟩,hw.closed,fun f hf hn=>by obtain⟨r,hr,h1,h2⟩:=hw.made f hf hn;exact⟨r,hr,by omega,h2⟩⟩;obtain⟨g,hm,hfix,_⟩:=walks_inv hp (fun r=>τ r.head.name) (P:=Way p τ l n (n+1)) (fun L L' _ hw ho=>way_once hp hτ hw ho) h hL h0;obtain⟨h1,_⟩:=onceGo_ok (fun r=>τ r.head.name) hfix;refine⟨hm.told,hm.of,fun r hr hrn env f he hfill=> ?_,hm.made⟩
 by_cases e:τ r.head.name<n
 ·exact hm.closed r hr e env f he hfill
 ·have e2:τ r.head.name=n:=by omega
  obtain⟨x,hx,hxm⟩:=h1 r hr (by rw[e2]);exact hxm f ((heads_mem (covers_right (hp.rules r hr)) hx f).2 ⟨env,he,hfill⟩)
theorem run_way {p:List RuleD} (hp:RightP p) {τ:Bs→Nat} (hτ:Sol p τ) {l m:List FactB} (hl:GoodS p l) (h:runGo p (p.map fun r=>τ r.head.name) (countP (p.map fun r=>τ r.head.name)) 0 l=(0,m)):
  GoodS p m∧Way p τ l (countP (p.map fun r=>τ r.head.name)) (countP (p.map fun r=>τ r.head.name)) m:=by
 have h0:Way p τ l 0 0 l:=⟨fun _ h=>h,fun f hf hn=>absurd hf hn,fun r _ h=>by omega,fun f hf hn=>absurd hf hn⟩;obtain⟨a,b,_⟩:=run_inv hp (fun r=>τ r.head.name) (P:=fun n=>Way p τ l n n) (fun n L M hL hw hW=>way_walks hp hτ hL hw hW) _ 0 hl h0 h;exact⟨a,by rw[Nat.zero_add] at b;exact b⟩
theorem run_model {p:List RuleD} (hp:RightP p) {τ:Bs→Nat} (hτ:Sol p τ) {l m:List FactB} (hl:GoodS p l) (h:runGo p (p.map fun r=>τ r.head.name) (countP (p.map fun r=>τ r.head.name)) 0 l=(0,m)):
  (∀f∈l,f∈m)∧∀r∈p,∀x,headsP r m=some x→∀f∈x,f∈m:=by
 obtain⟨_,hw⟩:=run_way hp hτ hl h;refine⟨hw.told,fun r hr x hx f hf=> ?_⟩;obtain⟨env,he,hfill⟩:=(heads_mem (covers_right (hp.rules r hr)) hx f).1 hf;exact hw.closed r hr (lt_countP (List.mem_map.2 ⟨r,hr,rfl⟩)) env f he hfill
theorem run_needed {p:List RuleD} (hp:RightP p) {τ:Bs→Nat} (hτ:Sol p τ) {l m:List FactB} (hl:GoodS p l) (h:runGo p (p.map fun r=>τ r.head.name) (countP (p.map fun r=>τ r.head.name)) 0 l=(0,m)) (hs:∀r∈p,∃x,headsP r m=some x):
  ∀f,f∈m↔f∈l∨∃r∈p,∃x,headsP r m=some x∧f∈x:=by
 obtain⟨_,hw⟩:=run_way hp hτ hl h;obtain⟨m1,m2⟩:=run_model hp hτ hl h;intro f
 constructor
 ·intro hf
  by_cases hfl:f∈l
  ·exact Or.inl hfl
  ·obtain⟨r,hr,_,env,he,hfill⟩:=hw.made f hf hfl;obtain⟨x,hx⟩:=hs r hr;exact Or.inr ⟨r,hr,x,hx,(heads_mem (covers_right (hp.rules r hr)) hx f).2 ⟨env,he,hfill⟩⟩
 ·rintro(hf|⟨r,hr,x,hx,hf⟩)
  ·exact m1 f hf
  ·exact m2 r hr x hx f hf
end Go.Proofs.YtafmbokfkbccaaaGreatDoor
