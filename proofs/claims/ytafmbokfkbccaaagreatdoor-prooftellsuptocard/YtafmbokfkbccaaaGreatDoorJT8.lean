import Derived.Test.YtafmbokfkbccaaaGreatDoorJT7
namespace Go.Proofs.YtafmbokfkbccaaaGreatDoor
def aR (p:List aD) (ss:List Nat) (n:Int):Nat→List au→Int×List (List au)
 |0,_=>(0,[])
 |k+1,l=>if(bZ p ss n l).1≠0 then((bZ p ss n l).1,[]) else if(bZ p ss n l).2.length=l.length then(0,[(bZ p ss n l).2])
  else((aR p ss n k (bZ p ss n l).2).1,(bZ p ss n l).2::(aR p ss n k (bZ p ss n l).2).2)
def bU (l:List au) (ps:List (List au)):List au:=ps.getLast?.getD l
theorem gD (l m:List au) (ps:List (List au)):bU l (m::ps)=bU m ps:=by
 unfold bU;cases ps with
 |nil=>rfl
 |cons a ps=>rw[List.getLast?_cons_cons];rw[List.getLast?_cons];rfl
theorem gV (l:List au) (ps qs:List (List au)):bU l (ps++qs)=bU (bU l ps) qs:=by
 induction ps generalizing l with
 |nil=>rfl
 |cons a ps ih=>rw[List.cons_append,gD,gD,ih]
def bD (p:List aD) (ss:List Nat):Nat→Nat→List au→Int×List (List au)
 |0,_,_=>(0,[])
 |c+1,n,l=>if(aR p ss n 201 l).1≠0 then((aR p ss n 201 l).1,[])
  else((bD p ss c (n+1) (bU l (aR p ss n 201 l).2)).1,(aR p ss n 201 l).2++(bD p ss c (n+1) (bU l (aR p ss n 201 l).2)).2)
theorem tY (p:List aD) (ss:List Nat) (n:Int):∀(k:Nat) (l:List au),(dO p ss n k l).1=(aR p ss n k l).1∧((aR p ss n k l).1=0→dO p ss n k l=(0,bU l (aR p ss n k l).2))
 |0,l=>⟨rfl,fun _=>rfl⟩
 |k+1,l=>by
  unfold dO aR
  by_cases h0:(bZ p ss n l).1=0
  ·have h0':¬(bZ p ss n l).1≠0:=fun h=>h h0;simp only[if_neg h0']
   by_cases h1:(bZ p ss n l).2.length=l.length
   ·simp only[if_pos h1];exact⟨trivial,fun _=>rfl⟩
   ·simp only[if_neg h1];obtain⟨h2,h3⟩:=tY p ss n k (bZ p ss n l).2;exact⟨h2,fun h=>by rw[h3 h,gD]⟩
  ·have h0':(bZ p ss n l).1≠0:=h0;simp only[if_pos h0'];exact⟨trivial,fun h=>absurd h h0⟩
theorem sH (p:List aD) (ss:List Nat):∀(c n:Nat) (l:List au),(kN p ss c n l).1=(bD p ss c n l).1∧((bD p ss c n l).1=0→kN p ss c n l=(0,bU l (bD p ss c n l).2))
 |0,n,l=>⟨rfl,fun _=>rfl⟩
 |c+1,n,l=>by
  obtain⟨o1,o2⟩:=tY p ss n 201 l;unfold kN bD
  by_cases h0:(aR p ss n 201 l).1=0
  ·have o3:=o2 h0;have h1:¬(dO p ss n 201 l).1≠0:=fun h=>h (o1.trans h0);have h2:¬(aR p ss n 201 l).1≠0:=fun h=>h h0;simp only[if_neg h1,if_neg h2];rw[o3];obtain⟨h2,h3⟩:=sH p ss c (n+1) (bU l (aR p ss n 201 l).2);exact⟨h2,fun h=>by rw[h3 h,gV]⟩
  ·have h1:(dO p ss n 201 l).1≠0:=fun h=>h0 (o1.symm.trans h);have h2:(aR p ss n 201 l).1≠0:=h0;simp only[if_pos h1,if_pos h2];exact⟨o1,fun h=>absurd h h0⟩
def dn (b:List aB) (t:dN):dN:=if t.1 then(match dG b (bs t.2) with|some s=>(false,raw s)|none=>t) else t
def dX (b:List aB) (a:aI):aI:=⟨a.no,a.name,a.terms.map (dn b)⟩
def dU (b:List aB) (body:List aI):List aI:=body.map (dX b)
def cO (body:List aI) (l:List aB):List au:=body.filterMap fun a=>if a.no then none else bA a l
def j6 (body:List aI) (all:List au) (er:Int):List (List aB):=if er≠0 then[] else(lM (fun _=>all) body).getD []
def byP (err:List aI→Int) (all old:List au) (r:aD) (f:au):Option (List au):=match dw r.head f [] with
 |none=>none
 |some b=>((j6 (dU b r.body) all (err (dU b r.body))).map (cO (dU b r.body))).find? fun of=>of.all (inB old)
def dM (ps:List (List au)) (f:au):Nat:=ps.findIdx fun l=>inB l f
def iB (g:aD→Option (List au)):Nat→List aD→Int×List au
 |_,[]=>(-1,[])
 |i,r::p=>match g r with
  |some of=>(i,of)
  |none=>iB g (i+1) p
def mY (err:List aI→Int) (p:List aD) (told all:List au) (ps:List (List au)) (f:au):Int×List au:=
 if inB told f then(-1,[]) else iB (fun r=>byP err all (ps.getD (dM ps f-1) []) r f) 0 p
def kQ (g:au→Nat×Nat→Option bH×(Nat×Nat)):List au→Nat×Nat→Option (List bH)×(Nat×Nat)
 |[],s=>(some [],s)
 |f::fs,s=>match(g f s).1 with
  |none=>(none,(g f s).2)
  |some k=>match(kQ g fs (g f s).2).1 with
   |none=>(none,(kQ g fs (g f s).2).2)
   |some ks=>(some (k::ks),(kQ g fs (g f s).2).2)
def bJ (how:au→Int×List au):Nat→au→Nat→Nat×Nat→Option bH×(Nat×Nat)
 |0,_,_,s=>(none,s)
 |n+1,f,d,s=>if iA (s.1+1,max s.2 d) then(none,(s.1+1,max s.2 d))
  else match(kQ (fun g s=>bJ how n g (d+1) s) (how f).2 (s.1+1,max s.2 d)).1 with
   |none=>(none,(kQ (fun g s=>bJ how n g (d+1) s) (how f).2 (s.1+1,max s.2 d)).2)
   |some ks=>(some (.mk f (how f).1 ks),(kQ (fun g s=>bJ how n g (d+1) s) (how f).2 (s.1+1,max s.2 d)).2)
end Go.Proofs.YtafmbokfkbccaaaGreatDoor
namespace Go.Proofs.YtafmbokfkbccaaaGreatDoor
theorem kE {α β:Type} {g h:α→Option β}:∀{l:List α},(∀x∈l,g x=h x)→l.filterMap g=l.filterMap h
 |[],_=>rfl
 |a::l,e=>by
  rw[List.filterMap_cons,List.filterMap_cons,e a (by simp),kE fun x hx=>e x (by simp[hx])]
theorem Ci (b l:List aB) (t:dN):bF l (dn b t)=bF (b++l) t:=by
 unfold dn;obtain⟨v,n⟩:=t;cases v with
 |false=>simp[bF]
 |true=>
  simp only[if_true];unfold bF;rw[fG];cases dG b (bs n) with
  |none=>rfl
  |some s=>simp[iX]
theorem nH (b l:List aB):∀ts:List dN,aU l (ts.map (dn b))=aU (b++l) ts
 |[]=>rfl
 |t::ts=>by
  rw[List.map_cons];unfold aU;rw[Ci,nH b l ts]
theorem qL (b l:List aB) (a:aI):bA (dX b a) l=bA a (b++l):=by
 unfold bA dX;rw[nH]
theorem mH {G:List aB}:∀(ts:List dN) (xs:List ByteArray) (c:List aB),(∀v s,dG c v=some s→dG G v=some s)→aU G ts=some xs→
  ∃m,dK c ts xs=some m∧∀v s,dG m v=some s→dG G v=some s
 |[],xs,c,h,_=>⟨c,rfl,h⟩
 |t::ts,xs,c,h,hf=>by
  unfold aU at hf;cases hw:bF G t with
  |none=>rw[hw] at hf;cases hf
  |some x=>
   rw[hw] at hf;dsimp only at hf;cases hr:aU G ts with
   |none=>rw[hr] at hf;cases hf
   |some r=>
    rw[hr] at hf;cases hf;unfold dK;cases hc:bF c t with
    |none=>
     refine mH ts r (c++[(bs t.2,x)]) (fun v s hv=> ?_) hr;rw[fG] at hv;cases hg:dG c v with
     |some u=>rw[hg] at hv;cases hv;exact h v _ hg
     |none=>
      rw[hg] at hv;dsimp only at hv;unfold dG at hv;split at hv
      ·rename_i e;cases hv;dsimp only at e;subst e;unfold bF at hw hc;cases ht:t.1 with
       |true=>rw[ht] at hw;simpa using hw
       |false=>rw[ht] at hc;simp at hc
      ·cases hv
    |some s=>
     have e:s=x:=by
      unfold bF at hw hc;cases ht:t.1 with
      |true=>
       rw[ht] at hw hc;simp only[if_true] at hw hc;have:=h _ _ hc;rw[hw] at this;exact(Option.some.inj this).symm
      |false=>
       rw[ht] at hw hc;simp only[Bool.false_eq_true,if_false] at hw hc;exact Option.some.inj (hc.symm.trans hw)
     dsimp only;rw[if_pos e];exact mH ts r c h hr
theorem xq {G c:List aB} {a:aI} {f:au} (h:∀v s,dG c v=some s→dG G v=some s) (hf:bA a G=some f):∃m,dw a f c=some m∧∀v s,dG m v=some s→dG G v=some s:=by
 obtain⟨h1,h2⟩:=jR hf;obtain⟨m,hm,hm2⟩:=mH a.terms f.2 c h h2;exact⟨m,by unfold dw;rw[if_pos ⟨h1.symm,(j4 h2).symm⟩,hm],hm2⟩
theorem qM {G:List aB}:∀(body:List aI) (c:List aB),(∀v s,dG c v=some s→dG G v=some s)→(∀a∈body,∃k,bA a G=some k)→
  ∃b',fJ body (body.filterMap fun a=>if a.no then none else bA a G) c=(0,b')∧∀v s,dG b' v=some s→dG G v=some s
 |[],c,h,_=>⟨c,rfl,h⟩
 |a::body,c,h,hf=>by
  obtain⟨k,hk⟩:=hf a (by simp);cases hno:a.no with
  |true=>
   have e:((a::body).filterMap fun a=>if a.no then none else bA a G)=body.filterMap fun a=>if a.no then none else bA a G:=List.filterMap_cons_none (by simp[hno]);rw[e];unfold fJ;rw[if_pos hno];exact qM body c h fun x hx=>hf x (by simp[hx])
  |false=>
   have e:((a::body).filterMap fun a=>if a.no then none else bA a G)=k::body.filterMap fun a=>if a.no then none else bA a G:=List.filterMap_cons_some (by simp[hno,hk]);rw[e];obtain⟨m,hm,hm2⟩:=xq h hk;unfold fJ;rw[if_neg (by simp[hno])];dsimp only;rw[hm];exact qM body m hm2 fun x hx=>hf x (by simp[hx])
theorem Am (b l:List aB) (body:List aI):cO (dU b body) l=body.filterMap fun a=>if a.no then none else bA a (b++l):=by
 unfold cO dU;rw[List.filterMap_map];refine kE fun a _=> ?_;show(if a.no then none else bA (dX b a) l)=_;rw[qL]
theorem NG {all:List au} {r:aD} {f:au} {b l:List aB} (hR:pF r) (hm:dw r.head f []=some b) (hso:∀a∈r.body,∃g,bA a (b++l)=some g∧inB all g= !a.no):lX all r f (cO (dU b r.body) l)=0:=by
 obtain⟨_,hk0,_⟩:=jh (K:=[]) rfl hm;obtain⟨b',hb',hag⟩:=qM (G:=b++l) r.body b (fun v s h=>by rw[fG,h]) fun a ha=>by obtain⟨g,hg,_⟩:=hso a ha;exact⟨g,hg⟩
 rw[←Am] at hb';obtain⟨_,hkb,_⟩:=tX hk0 hb';unfold lX;rw[hm];dsimp only;rw[hb'];dsimp only;rw[if_neg (by simp)];refine ND fun a ha hno=> ?_;obtain⟨g,hg,hi⟩:=hso a ha;refine⟨g,?_,by rw[hi,hno];rfl⟩;rw[←hg];refine lg fun t ht ht1=> ?_;have hc:=fC hR a ha t ht ht1;have hkey:bs t.2∈bK b':=by
  rw[hkb];refine fu.2 ((gQ r.body).2 (Or.inr ?_));rcases(gQ r.body).1 hc with h1|h1
  ·cases h1
  ·exact h1
 obtain⟨s,hs⟩:=kZ hkey;rw[hs,hag _ _ hs]
def rest (b l:List aB):List aB:=l.filter fun x=>(dG b x.1).isNone
def agree (b l:List aB):Bool:=l.all fun x=>match dG b x.1 with|none=>true|some s=>decide (s=x.2)
theorem Dy {b l:List aB} {v:ByteArray} (h:dG b v=none):dG (rest b l) v=dG l v:=by
 unfold rest
 induction l with
 |nil=>rfl
 |cons x l ih=>
  rw[List.filter_cons]
  by_cases e:x.1=v
  ·have:(dG b x.1).isNone=true:=by rw[e,h];rfl
   rw[if_pos this];simp[dG,e]
  ·cases hx:(dG b x.1).isNone with
   |true=>rw[if_pos rfl];simp only[dG,if_neg e,ih]
   |false=>rw[if_neg (by simp)];simp only[dG,if_neg e,ih]
theorem Ia {b l:List aB} (h:agree b l=true) {v s u:ByteArray} (hb:dG b v=some s) (hl:dG l v=some u):u=s:=by
 have:=List.all_eq_true.1 h _ (mW hl);dsimp only at this;rw[hb] at this;exact(of_decide_eq_true this).symm
theorem mI {b l:List aB} {x:aB}:agree b (l++[x])=(agree b l&&(match dG b x.1 with|none=>true|some s=>decide (s=x.2))):=by
 unfold agree;rw[List.all_append];simp
theorem mZ:∀(ts:List dN) (xs:List ByteArray) (l m:List aB),dK l ts xs=some m→∃r,m=l++r
 |[],_,l,m,h=>⟨[],by cases h;simp⟩
 |_::_,[],l,m,h=>by cases h
 |t::ts,x::xs,l,m,h=>by
  unfold dK at h;split at h
  ·obtain⟨r,e⟩:=mZ ts xs _ m h;exact⟨(bs t.2,x)::r,by rw[e];simp⟩
  ·split at h
   ·exact mZ ts xs l m h
   ·cases h
theorem Ao {b l m:List aB} (h:agree b l=false) (e:∃r,m=l++r):agree b m=false:=by
 obtain⟨r,rfl⟩:=e;unfold agree at*;rw[List.all_append,h];rfl
def pass (b:List aB):Option (List aB)→Option (List aB)
 |none=>none
 |some m=>if agree b m then some (rest b m) else none
theorem Ib {b:List aB} {o:Option (List aB)} (h:∀m,o=some m→agree b m=false):pass b o=none:=by
 cases o with
 |none=>rfl
 |some m=>
  show(if agree b m=true then some (rest b m) else none)=none;rw[if_neg (by rw[h m rfl];simp)]
theorem iI (b:List aB):∀(ts:List dN) (xs:List ByteArray) (l:List aB),agree b l=true→dK (rest b l) (ts.map (dn b)) xs=pass b (dK l ts xs)
 |[],xs,l,h=>by
  show some (rest b l)=(if agree b l=true then some (rest b l) else none);rw[if_pos h]
 |t::ts,[],l,h=>rfl
 |t::ts,x::xs,l,h=>by
  rw[List.map_cons];unfold dK;obtain⟨v,n⟩:=t;cases v with
  |false=>
   have e1:dn b (false,n)=(false,n):=by simp[dn]
   have e2:∀q:List aB,bF q (false,n)=some (bs n):=fun q=>by simp[bF]
   rw[e1,e2,e2];dsimp only
   by_cases hx:bs n=x
   ·rw[if_pos hx,if_pos hx];exact iI b ts xs l h
   ·rw[if_neg hx,if_neg hx];rfl
  |true=>
   cases hb:dG b (bs n) with
   |some s=>
    have e1:dn b (true,n)=(false,raw s):=by simp[dn,hb]
    have e2:∀q:List aB,bF q (false,raw s)=some s:=fun q=>by simp[bF,iX]
    have e3:∀q:List aB,bF q (true,n)=dG q (bs n):=fun q=>by simp[bF]
    rw[e1,e2,e3];dsimp only;cases hl:dG l (bs n) with
    |some u=>
     have:=Ia h hb hl;subst this;dsimp only
     by_cases hx:u=x
     ·rw[if_pos hx,if_pos hx];exact iI b ts xs l h
     ·rw[if_neg hx,if_neg hx];rfl
    |none=>
     dsimp only
     by_cases hx:s=x
     ·subst hx;rw[if_pos rfl];have h2:agree b (l++[(bs n,s)])=true:=by rw[mI,h];simp[hb]
      have h3:rest b (l++[(bs n,s)])=rest b l:=by unfold rest;rw[List.filter_append];simp[hb]
      rw[←h3];exact iI b ts xs _ h2
     ·rw[if_neg hx];have h2:agree b (l++[(bs n,x)])=false:=by rw[mI,h];simp[hb,hx]
      exact(Ib fun m hm=>Ao h2 (mZ _ _ _ _ hm)).symm
   |none=>
    have e1:dn b (true,n)=(true,n):=by simp[dn,hb]
    have e3:∀q:List aB,bF q (true,n)=dG q (bs n):=fun q=>by simp[bF]
    rw[e1,e3,e3,Dy hb];cases hl:dG l (bs n) with
    |some u=>
     dsimp only
     by_cases hx:u=x
     ·rw[if_pos hx,if_pos hx];exact iI b ts xs l h
     ·rw[if_neg hx,if_neg hx];rfl
    |none=>
     dsimp only;have h2:agree b (l++[(bs n,x)])=true:=by rw[mI,h];simp[hb]
     have h3:rest b (l++[(bs n,x)])=rest b l++[(bs n,x)]:=by unfold rest;rw[List.filter_append];simp[hb]
     rw[←h3];exact iI b ts xs _ h2
theorem Cj (b:List aB) {a:aI} {f:au} {l:List aB} (h:agree b l=true):dw (dX b a) f (rest b l)=pass b (dw a f l):=by
 unfold dw dX;dsimp only;rw[List.length_map];split
 ·exact iI b a.terms f.2 l h
 ·rfl
def passes (b:List aB) (ls:List (List aB)):List (List aB):=(ls.filter (agree b)).map (rest b)
theorem r9 (b:List aB) (fs:List au) (g:au→Option (List aB)):passes b (fs.filterMap g)=fs.filterMap fun f=>pass b (g f):=by
 unfold passes
 induction fs with
 |nil=>rfl
 |cons f fs ih=>
  cases hg:g f with
  |none=>rw[List.filterMap_cons_none hg,List.filterMap_cons_none (by simp[hg,pass])];exact ih
  |some m=>
   rw[List.filterMap_cons_some hg,List.filter_cons];cases ha:agree b m with
   |true=>rw[if_pos rfl,List.map_cons,List.filterMap_cons_some (b:=rest b m) (by simp[hg,pass,ha]),ih]
   |false=>rw[if_neg (by simp),List.filterMap_cons_none (by simp[hg,pass,ha]),ih]
theorem pI (b:List aB) (a:aI) (fs:List au):∀ls:List (List aB),aQ (dX b a) fs (passes b ls)=passes b (aQ a fs ls)
 |[]=>rfl
 |l::ls=>by
  have ih:=pI b a fs ls;unfold aQ at ih⊢;have e:passes b ((l::ls).flatMap fun l=>fs.filterMap fun f=>dw a f l)=passes b (fs.filterMap fun f=>dw a f l)++passes b (ls.flatMap fun l=>fs.filterMap fun f=>dw a f l):=by
   rw[List.flatMap_cons];unfold passes;rw[List.filter_append,List.map_append]
  rw[e,←ih,r9];cases ha:agree b l with
  |true=>
   have e2:passes b (l::ls)=rest b l::passes b ls:=by unfold passes;rw[List.filter_cons,if_pos ha,List.map_cons]
   rw[e2,List.flatMap_cons]
   congr 1
   exact kE fun f _=>Cj b ha
  |false=>
   have e2:passes b (l::ls)=passes b ls:=by unfold passes;rw[List.filter_cons,if_neg (by simp[ha])]
   rw[e2];have e3:(fs.filterMap fun f=>pass b (dw a f l))=[]:=by
    rw[List.filterMap_eq_nil_iff];intro f _;refine Ib fun m hm=>Ao ha ?_;unfold dw at hm;split at hm
    ·exact mZ _ _ _ _ hm
    ·cases hm
   rw[e3,List.nil_append]
theorem tZ (b:List aB) (fs:List au):∀(body:List aI) (n:Nat) (ls ms:List (List aB)),dI (fun _=>fs) n body ls=some ms→dI (fun _=>fs) n (dU b body) (passes b ls)=some (passes b ms)
 |[],n,ls,ms,h=>by cases h;rfl
 |a::body,n,ls,ms,h=>by
  show dI _ n (dX b a::dU b body) _=_;unfold dI at h⊢;rw[show(dX b a).no=a.no from rfl];cases hno:a.no with
  |true=>
   rw[hno] at h;simp only[if_true] at h⊢;exact tZ b fs body (n+1) ls ms h
  |false=>
   rw[hno] at h;simp only[Bool.false_eq_true,if_false] at h⊢;split at h
   ·cases h
   ·rename_i hlen;have hle:(passes b (aQ a fs ls)).length≤(aQ a fs ls).length:=by
     unfold passes;rw[List.length_map];exact List.length_filter_le _ _
    rw[pI,if_neg (by omega)];exact tZ b fs body (n+1) _ ms h
theorem Ic {b:List aB} {fs:List au} {body:List aI} (h:dI (fun _=>fs) 0 body [[]]≠none):∃R,lM (fun _=>fs) (dU b body)=some R:=by
 cases e:dI (fun _=>fs) 0 body [[]] with
 |none=>exact absurd e h
 |some ms=>
  have:=tZ b fs body 0 [[]] ms e;have e2:passes b [[]]=[[]]:=rfl;rw[e2] at this;unfold lM;rw[this];exact⟨_,rfl⟩
end Go.Proofs.YtafmbokfkbccaaaGreatDoor
namespace Go.Proofs.YtafmbokfkbccaaaGreatDoor
def Steps (Q:List au→List au→Prop):List au→List (List au)→Prop
 |_,[]=>True
 |L,M::ps=>Q L M∧Steps Q M ps
theorem Steps.append {Q:List au→List au→Prop}:∀{ps qs:List (List au)} {L:List au},Steps Q L ps→Steps Q (bU L ps) qs→Steps Q L (ps++qs)
 |[],_,_,_,h=>h
 |M::ps,qs,L,h,h2=>⟨h.1,Steps.append h.2 (by rw[gD] at h2;exact h2)⟩
theorem E9 {r:aD} (hR:pF r) {L x:List au} (h:gy r L=some x) {f:au} (hf:f∈x):f.1=bs r.head.name:=by
 obtain⟨env,_,he⟩:=(kP (fC hR) h f).1 hf;exact(jR he).1
theorem jS {p:List aD} (hp:dR p) (σ:aD→Nat) {n:Int}:∀(k:Nat) {L:List au} {ps:List (List au)},GoodS p L→aR p (p.map σ) n k L=(0,ps)→200<L.length+k→
  GoodS p (bU L ps)∧(∀f∈L,f∈bU L ps)∧(∀f∈bU L ps,f∉L→∃r∈p,(σ r:Int)=n∧f.1=bs r.head.name)∧bZ p (p.map σ) n (bU L ps)=(0,bU L ps)
 |0,L,ps,hL,_,hk=>by have:=hL.few;omega
 |k+1,L,ps,hL,h,hk=>by
  unfold aR at h;obtain⟨e,x,hx⟩:∃e x,bZ p (p.map σ) n L=(e,x):=⟨_,_,rfl⟩;rw[hx] at h;dsimp only at h;split at h
  ·rename_i he;simp at h;exact absurd h.1 he
  ·rename_i he;have he:e=0:=by simpa using he
   subst he;obtain⟨g1,g2⟩:=jr hp σ hL hx;obtain⟨_,_,o3,_,_⟩:=jq σ hx;have hnew:∀f∈x,f∉L→∃r∈p,(σ r:Int)=n∧f.1=bs r.head.name:=fun f hf hn=>by
    rcases o3 f hf with h1|⟨r,hr,h1,y,hy,hfy⟩
    ·exact absurd h1 hn
    ·exact⟨r,hr,h1,E9 (hp.rules r hr) hy hfy⟩
   split at h
   ·rename_i hlen;have e:L=x:=Hw hL.up g1.up g2 (by omega);simp at h;subst h;rw[gD];show GoodS p x∧(∀f∈L,f∈x)∧(∀f∈x,f∉L→_)∧bZ p (p.map σ) n x=(0,x);exact⟨g1,g2,hnew,by rw[←e] at hx⊢;exact hx⟩
   ·rename_i hlen;have hle:=E8 hL.up g2;obtain⟨e2,qs,hq⟩:∃e qs,aR p (p.map σ) n k x=(e,qs):=⟨_,_,rfl⟩;rw[hq] at h;simp only[Prod.mk.injEq] at h;obtain⟨rfl,rfl⟩:=h;obtain⟨a1,a2,a3,a4⟩:=jS hp σ k g1 hq (by omega);rw[gD];refine⟨a1,fun f hf=>a2 f (g2 f hf),fun f hf hn=> ?_,a4⟩
    by_cases hfx:f∈x
    ·exact hnew f hfx hn
    ·exact a3 f hf hfx
theorem sI {p:List aD} (hp:dR p) (σ:aD→Nat):∀(c n:Nat) {L:List au} {ps:List (List au)},GoodS p L→bD p (p.map σ) c n L=(0,ps)→
  GoodS p (bU L ps)∧(∀f∈L,f∈bU L ps)∧∀f∈bU L ps,f∉L→∃r∈p,n≤σ r∧f.1=bs r.head.name
 |0,n,L,ps,hL,h=>by
  simp only[bD,Prod.mk.injEq,true_and] at h;subst h;exact⟨hL,fun _ h=>h,fun f hf hn=>absurd hf hn⟩
 |c+1,n,L,ps,hL,h=>by
  unfold bD at h;obtain⟨e,os,ho⟩:∃e os,aR p (p.map σ) n 201 L=(e,os):=⟨_,_,rfl⟩;rw[ho] at h;dsimp only at h;split at h
  ·rename_i he;simp at h;exact absurd h.1 he
  ·rename_i he;have he:e=0:=by simpa using he
   subst he;obtain⟨e2,rs,hr⟩:∃e qs,bD p (p.map σ) c (n+1) (bU L os)=(e,qs):=⟨_,_,rfl⟩;rw[hr] at h;simp only[Prod.mk.injEq] at h;obtain⟨rfl,rfl⟩:=h;obtain⟨a1,a2,a3,_⟩:=jS hp σ 201 hL ho (by omega);obtain⟨b1,b2,b3⟩:=sI hp σ c (n+1) a1 hr;rw[gV];refine⟨b1,fun f hf=>b2 f (a2 f hf),fun f hf hn=> ?_⟩
   by_cases hm:f∈bU L os
   ·obtain⟨r,hr,e,hname⟩:=a3 f hm hn;exact⟨r,hr,by omega,hname⟩
   ·obtain⟨r,hr,e,hname⟩:=b3 f hf hm;exact⟨r,hr,by omega,hname⟩
def Came (p:List aD) (all L M:List au):Prop:=GoodS p L∧(∀f∈L,f∈all)∧
 ∀f∈M,f∉L→∃r∈p,∃env,oZ (fun _=>L) r.body env∧bA r.head env=some f∧∀a∈r.body,a.no=true→∀g,bA a env=some g→g∉all
theorem Ap {p:List aD} (hp:dR p) {τ:Bs→Nat} (hτ:Sol p τ) {n:Nat} {all:List au}:∀(k:Nat) {L:List au} {ps:List (List au)},GoodS p L→aR p (p.map fun r=>τ r.head.name) n k L=(0,ps)→200<L.length+k→
  (∀f∈bU L ps,f∈all)→(∀f∈all,f∉L→∃r∈p,n≤τ r.head.name∧f.1=bs r.head.name)→Steps (Came p all) L ps
 |0,L,ps,hL,_,hk,_,_=>by have:=hL.few;omega
 |k+1,L,ps,hL,h,hk,hsub,hall=>by
  have Tj:∀f∈L,f∈all:=fun f hf=>hsub f ((jS hp _ (k+1) hL h hk).2.1 f hf);unfold aR at h;obtain⟨e,x,hx⟩:∃e x,bZ p (p.map fun r=>τ r.head.name) n L=(e,x):=⟨_,_,rfl⟩;rw[hx] at h;dsimp only at h;split at h
  ·rename_i he;simp at h;exact absurd h.1 he
  ·rename_i he;have he:e=0:=by simpa using he
   subst he;obtain⟨g1,g2⟩:=jr hp (fun r=>τ r.head.name) hL hx;obtain⟨_,_,o3,_,_⟩:=jq (fun r=>τ r.head.name) hx;have Qh:Came p all L x:=⟨hL,Tj,fun f hf hn=>by
    rcases o3 f hf with h1|⟨r,hr,hrn,y,hy,hfy⟩
    ·exact absurd h1 hn
    ·obtain⟨env,he,jB⟩:=(kP (fC (hp.rules r hr)) hy f).1 hfy;refine⟨r,hr,env,he,jB,fun a ha hno g hg hga=> ?_⟩;obtain⟨g',hg',hi⟩:=iN.1 he.2.2.2 a ha;rw[hg] at hg';cases hg';rw[hno] at hi;have hgl:g∉L:=fun hc=>by rw[dB.2 hc] at hi;cases hi
     obtain⟨q,hq,hqn,Ie⟩:=hall g hga hgl;have e1:a.name=q.head.name:=nD ((jR hg).1.symm.trans Ie);have h2:=hτ r hr a ha ⟨q,hq,e1.symm⟩;have h3:step a=1:=by unfold step;rw[if_pos hno]
     have h4:τ r.head.name=n:=by exact_mod_cast hrn
     rw[e1,h3,h4] at h2;omega⟩
   split at h
   ·simp at h;subst h;exact⟨Qh,trivial⟩
   ·rename_i hlen;have hle:=E8 hL.up g2;obtain⟨e2,qs,hq⟩:∃e qs,aR p (p.map fun r=>τ r.head.name) n k x=(e,qs):=⟨_,_,rfl⟩;rw[hq] at h;simp only[Prod.mk.injEq] at h;obtain⟨rfl,rfl⟩:=h;rw[gD] at hsub;exact⟨Qh,Ap hp hτ k g1 hq (by omega) hsub fun f hf hn=>hall f hf fun hc=>hn (g2 f hc)⟩
theorem Dz {p:List aD} (hp:dR p) {τ:Bs→Nat} (hτ:Sol p τ):∀(c n:Nat) {L:List au} {ps:List (List au)},GoodS p L→bD p (p.map fun r=>τ r.head.name) c n L=(0,ps)→Steps (Came p (bU L ps)) L ps
 |0,n,L,ps,hL,h=>by
  simp only[bD,Prod.mk.injEq,true_and] at h;subst h
  trivial
 |c+1,n,L,ps,hL,h=>by
  have hg:=sI hp _ (c+1) n hL h;unfold bD at h;obtain⟨e,os,ho⟩:∃e os,aR p (p.map fun r=>τ r.head.name) n 201 L=(e,os):=⟨_,_,rfl⟩;rw[ho] at h;dsimp only at h;split at h
  ·rename_i he;simp at h;exact absurd h.1 he
  ·rename_i he;have he:e=0:=by simpa using he
   subst he;obtain⟨e2,rs,hr⟩:∃e qs,bD p (p.map fun r=>τ r.head.name) c (n+1) (bU L os)=(e,qs):=⟨_,_,rfl⟩;rw[hr] at h;simp only[Prod.mk.injEq] at h;obtain⟨rfl,rfl⟩:=h;obtain⟨a1,a2,a3,_⟩:=jS hp _ 201 hL ho (by omega);obtain⟨b1,b2,b3⟩:=sI hp _ c (n+1) a1 hr;have ih:=Dz hp hτ c (n+1) a1 hr;rw[gV] at hg⊢;exact Steps.append (Ap hp hτ 201 hL ho (by omega) b2 fun f hf hn=>hg.2.2 f hf hn) ih
theorem filterMap_filter {α β:Type} {g:α→Option β} {P:α→Bool}:∀{l:List α},(∀x∈l,P x=false→g x=none)→l.filterMap g=(l.filter P).filterMap g
 |[],_=>rfl
 |a::l,h=>by
  have ih:=filterMap_filter (g:=g) (P:=P) (l:=l) fun x hx=>h x (by simp[hx]);rw[List.filter_cons];cases hp:P a with
  |true=>rw[if_pos rfl,List.filterMap_cons,List.filterMap_cons,ih]
  |false=>rw[if_neg (by simp),List.filterMap_cons_none (h a (by simp) hp),ih]
theorem yQ {a:aI} {fs gs:List au} (h:(fs.filter fun f=>decide (f.1=bs a.name))=gs.filter fun f=>decide (f.1=bs a.name)) (ls:List (List aB)):aQ a fs ls=aQ a gs ls:=by
 unfold aQ;have key:∀(l:List aB) (q:List au),(q.filterMap fun f=>dw a f l)=((q.filter fun f=>decide (f.1=bs a.name)).filterMap fun f=>dw a f l):=fun l q=>
  filterMap_filter fun x _ hx=>by
   unfold dw;rw[if_neg];rintro⟨e,_⟩;rw[decide_eq_false_iff_not] at hx;exact hx e.symm
 have e:(fun l=>fs.filterMap fun f=>dw a f l)=fun l=>gs.filterMap fun f=>dw a f l:=by
  funext l
  rw[key l fs,key l gs,h]
 rw[e]
theorem uf {fs gs:List au}:∀(body:List aI) (n:Nat) (ls:List (List aB)),(∀a∈body,(fs.filter fun f=>decide (f.1=bs a.name))=gs.filter fun f=>decide (f.1=bs a.name))→dI (fun _=>fs) n body ls=dI (fun _=>gs) n body ls
 |[],_,_,_=>rfl
 |a::body,n,ls,h=>by
  unfold dI;rw[yQ (h a (by simp)),uf body _ _ fun x hx=>h x (by simp[hx]),uf body _ _ fun x hx=>h x (by simp[hx])]
theorem DC {p:List aD} (hp:dR p) {τ:Bs→Nat} (hτ:Sol p τ):∀(c n:Nat) {L:List au} {ps:List (List au)},GoodS p L→bD p (p.map fun r=>τ r.head.name) c n L=(0,ps)→
  ∀r∈p,n≤τ r.head.name→τ r.head.name<n+c→dI (fun _=>bU L ps) 0 r.body [[]]≠none
 |0,n,L,ps,_,_,r,_,h1,h2=>by omega
 |c+1,n,L,ps,hL,h,r,hr,h1,h2=>by
  unfold bD at h;obtain⟨e,os,ho⟩:∃e os,aR p (p.map fun r=>τ r.head.name) n 201 L=(e,os):=⟨_,_,rfl⟩;rw[ho] at h;dsimp only at h;split at h
  ·rename_i he;simp at h;exact absurd h.1 he
  ·rename_i he;have he:e=0:=by simpa using he
   subst he;obtain⟨e2,rs,hrs⟩:∃e qs,bD p (p.map fun r=>τ r.head.name) c (n+1) (bU L os)=(e,qs):=⟨_,_,rfl⟩;rw[hrs] at h;simp only[Prod.mk.injEq] at h;obtain⟨rfl,rfl⟩:=h;obtain⟨a1,a2,a3,a4⟩:=jS hp _ 201 hL ho (by omega);rw[gV]
   by_cases hn:τ r.head.name=n
   ·obtain⟨b1,b2,b3⟩:=sI hp _ c (n+1) a1 hrs;have hsame:∀a∈r.body,((bU (bU L os) rs).filter fun f=>decide (f.1=bs a.name))=(bU L os).filter fun f=>decide (f.1=bs a.name):=fun a ha=>by
     refine Dv (b1.up.filter _) (a1.up.filter _) fun f=> ?_;rw[List.mem_filter,List.mem_filter]
     constructor
     ·rintro⟨hf,hname⟩;refine⟨Classical.byContradiction fun hno=> ?_,hname⟩;obtain⟨q,hq,hqn,Ie⟩:=b3 f hf hno;have e1:a.name=q.head.name:=nD ((of_decide_eq_true hname).symm.trans Ie);have h3:=hτ r hr a ha ⟨q,hq,e1.symm⟩;rw[e1,hn] at h3;omega
     ·rintro⟨hf,hname⟩;exact⟨b2 f hf,hname⟩
    rw[uf r.body 0 [[]] hsame];obtain⟨o1,_⟩:=jq (fun r=>τ r.head.name) a4;obtain⟨x,hx,_⟩:=o1 r hr (by exact_mod_cast hn);intro hnone;unfold gy lM at hx;rw[hnone] at hx;cases hx
   ·exact DC hp hτ c (n+1) a1 hrs r hr (by omega) (by omega)
end Go.Proofs.YtafmbokfkbccaaaGreatDoor
namespace Go.Proofs.YtafmbokfkbccaaaGreatDoor
theorem Ck {Q:List au→List au→Prop} {f:au}:∀{ps:List (List au)} {L:List au},Steps Q L ps→f∈bU L ps→f∉L→
  ∃A B,Q A B∧f∉A∧f∈B∧(L::ps).getD (dM (L::ps) f-1) []=A∧1≤dM (L::ps) f∧dM (L::ps) f<(L::ps).length
 |[],L,_,h,hn=>absurd h hn
 |M::ps,L,hs,h,hn=>by
  rw[gD] at h;have hL:inB L f=false:=by
   cases e:inB L f with
   |false=>rfl
   |true=>exact absurd (dB.1 e) hn
  have e1:dM (L::M::ps) f=dM (M::ps) f+1:=by
   unfold dM;rw[List.findIdx_cons,hL]
   rfl
  by_cases hM:f∈M
  ·have e2:dM (M::ps) f=0:=by
    unfold dM;rw[List.findIdx_cons,dB.2 hM]
    rfl
   rw[e1,e2];exact⟨L,M,hs.1,hn,hM,rfl,by omega,by simp⟩
  ·obtain⟨A,B,h1,h2,h3,h4,h5,h6⟩:=Ck hs.2 h hM;rw[e1];refine⟨A,B,h1,h2,h3,?_,by omega,by simp only[List.length_cons] at h6⊢;omega⟩;rw[show dM (M::ps) f+1-1=(dM (M::ps) f-1)+1 by omega,List.getD_cons_succ];exact h4
theorem rF {g:aD→Option (List au)}:∀(p:List aD) (i:Nat),(∃r∈p,g r≠none)→∃j r of,p[j]?=some r∧g r=some of∧iB g i p=(((i+j:Nat):Int),of)
 |[],_,h=>by obtain⟨r,hr,_⟩:=h;cases hr
 |r::p,i,h=>by
  unfold iB;cases hg:g r with
  |some of=>exact⟨0,r,of,rfl,hg,rfl⟩
  |none=>
   obtain⟨q,hq,hne⟩:=h;have hq':q∈p:=by
    rcases List.mem_cons.1 hq with rfl|hq
    ·exact absurd hg hne
    ·exact hq
   obtain⟨j,s,of,h1,h2,h3⟩:=rF p (i+1) ⟨q,hq',hne⟩;exact⟨j+1,s,of,by simpa using h1,h2,by dsimp only;rw[h3];congr 2;omega⟩
theorem Ig {err:List aI→Int} (PD:∀b,err b=0→aM b=0) {all old:List au} {r:aD} (hR:pF r) {f:au} {of:List au} (h:byP err all old r f=some of):lX all r f of=0∧∀k∈of,k∈old:=by
 unfold byP at h;cases hm:dw r.head f [] with
 |none=>rw[hm] at h;cases h
 |some b=>
  rw[hm] at h;dsimp only at h;have h1:=List.find?_some h;have h2:=List.mem_of_find?_eq_some h;obtain⟨l,hl,rfl⟩:=List.mem_map.1 h2;refine⟨?_,fun k hk=>dB.1 (List.all_eq_true.1 h1 k hk)⟩;unfold j6 at hl;split at hl
  ·cases hl
  ·rename_i he;have he:=Classical.not_not.1 he;cases hR':lM (fun _=>all) (dU b r.body) with
   |none=>rw[hR'] at hl;cases hl
   |some R=>
    rw[hR'] at hl;have hfit:=(qG (kL (PD _ he)) hR' l).1 hl;refine NG hR hm fun a ha=> ?_;obtain⟨g,hg,hi⟩:=iN.1 hfit.2.2.2 (dX b a) (List.mem_map.2 ⟨a,ha,rfl⟩);exact⟨g,by rw[←qL];exact hg,hi⟩
theorem pJ {b:List aB} {a:aI} {k:Bs}:(∃t∈(dX b a).terms,t.1=true∧t.2=k)↔(∃t∈a.terms,t.1=true∧t.2=k)∧dG b (bs k)=none:=by
 constructor
 ·rintro⟨t,ht,h1,h2⟩;obtain⟨u,hu,rfl⟩:=List.mem_map.1 ht;unfold dn at h1 h2;cases hu1:u.1 with
  |false=>rw[hu1] at h1;simp at h1;rw[hu1] at h1;cases h1
  |true=>
   rw[hu1] at h1 h2;simp only[if_true] at h1 h2;cases hg:dG b (bs u.2) with
   |some s=>rw[hg] at h1;cases h1
   |none=>
    rw[hg] at h2;dsimp only at h2;exact⟨⟨u,hu,hu1,h2⟩,by rw[←h2];exact hg⟩
 ·rintro⟨⟨u,hu,h1,h2⟩,hg⟩;refine⟨u,List.mem_map.2 ⟨u,hu,?_⟩,h1,h2⟩;unfold dn;rw[h1,if_pos rfl,h2,hg]
theorem xu {b:List aB} {body:List aI} {k:Bs}:k∈fH [] (dU b body)↔k∈fH [] body∧dG b (bs k)=none:=by
 rw[gQ,gQ]
 constructor
 ·rintro(h|⟨a,ha,hno,h⟩)
  ·cases h
  ·obtain⟨c,hc,rfl⟩:=List.mem_map.1 ha;obtain⟨h1,h2⟩:=pJ.1 h;exact⟨Or.inr ⟨c,hc,hno,h1⟩,h2⟩
 ·rintro⟨h|⟨a,ha,hno,h⟩,hg⟩
  ·cases h
  ·exact Or.inr ⟨dX b a,List.mem_map.2 ⟨a,ha,rfl⟩,hno,pJ.2 ⟨h,hg⟩⟩
theorem iO:∀{l:List aI},bI l=0↔∀a∈l,aP a=0
 |[]=>by simp[bI]
 |a::l=>by
  unfold bI
  constructor
  ·intro h;split at h
   ·rename_i h0;intro x hx;rcases List.mem_cons.1 hx with rfl|hx
    ·exact h0
    ·exact iO.1 h x hx
   ·rename_i h0;exact absurd h h0
  ·intro h;rw[if_pos (h a (by simp))];exact iO.2 fun x hx=>h x (by simp[hx])
theorem ug {b:List aB} {body:List aI} (h:aM body=0) (hb:∀v s,dG b v=some s→isNamed (raw s)=true):aM (dU b body)=0:=by
 unfold aM at h⊢;have el:(dU b body).length=body.length:=List.length_map _;rw[el];split at h
 ·cases h
 ·rename_i h5;rw[if_neg h5];split at h
  ·rename_i h0;split at h
   ·rename_i hv;have ha:bI (dU b body)=0:=iO.2 fun x hx=>by
     obtain⟨a,ha,rfl⟩:=List.mem_map.1 hx;obtain⟨h1,h2,h3⟩:=gU (iO.1 h0 a ha);unfold aP;rw[if_neg (by show¬isNamed a.name=false;rw[h1];simp),if_neg (by show¬4<(a.terms.map (dn b)).length;rw[List.length_map];omega),if_neg];intro hc;obtain⟨t,ht,hw⟩:=List.any_eq_true.1 hc;obtain⟨u,hu,rfl⟩:=List.mem_map.1 ht;have hwu:=h3 u hu;unfold dn at hw;split at hw
     ·split at hw
      ·rename_i s hs;unfold bf at hw;simp[hb _ s hs] at hw
      ·rw[hwu] at hw;cases hw
     ·rw[hwu] at hw;cases hw
    rw[if_pos ha,if_pos];refine List.all_eq_true.2 fun x hx=> ?_;obtain⟨a,ha,rfl⟩:=List.mem_map.1 hx;refine List.all_eq_true.2 fun k hk=> ?_;have hk':∃t∈(dX b a).terms,t.1=true∧t.2=k:=by
     rcases(iG _).1 hk with h1|h1
     ·cases h1
     ·exact h1
    obtain⟨h1,h2⟩:=pJ.1 hk';have h3:k∈vars a:=(iG _).2 (Or.inr h1);have h4:=List.all_eq_true.1 (List.all_eq_true.1 hv a ha) k h3;unfold givenBy at h4⊢;obtain⟨c,hc,h5⟩:=List.any_eq_true.1 h4;simp only[Bool.and_eq_true,Bool.not_eq_true'] at h5;have h6:k∈vars c:=by simpa using h5.2
    refine List.any_eq_true.2 ⟨dX b c,List.mem_map.2 ⟨c,hc,rfl⟩,?_⟩;simp only[Bool.and_eq_true,Bool.not_eq_true'];refine⟨h5.1,?_⟩;have h7:k∈vars (dX b c):=by
     refine(iG _).2 (Or.inr (pJ.2 ⟨?_,h2⟩));rcases(iG _).1 h6 with h8|h8
     ·cases h8
     ·exact h8
    simpa using h7
   ·cases h
  ·rename_i h0;exact absurd h h0
theorem Ih {b l:List aB} {v:ByteArray}:v∈bK (rest b l)↔v∈bK l∧dG b v=none:=by
 unfold bK rest
 constructor
 ·intro h;obtain⟨x,hx,rfl⟩:=List.mem_map.1 h;obtain⟨h1,h2⟩:=List.mem_filter.1 hx;exact⟨List.mem_map.2 ⟨x,h1,rfl⟩,by simpa using h2⟩
 ·rintro⟨h,hg⟩;obtain⟨x,hx,rfl⟩:=List.mem_map.1 h;exact List.mem_map.2 ⟨x,List.mem_filter.2 ⟨hx,by rw[hg];rfl⟩,rfl⟩
theorem KV {p:List aD} {err:List aI→Int} (PD:∀b,aM b=0→err b=0) {all L:List au} {r:aD} (hR:pF r) (hL:GoodS p L) (hsub:∀f∈L,f∈all) (Ii:dI (fun _=>all) 0 r.body [[]]≠none)
  {f:au} {env:List aB} (hfit:oZ (fun _=>L) r.body env) (jB:bA r.head env=some f) (hneg:∀a∈r.body,a.no=true→∀g,bA a env=some g→g∉all):byP err all L r f≠none:=by
 obtain⟨b,hm,hag⟩:=xq (G:=env) (c:=[]) (a:=r.head) (f:=f) (fun v s h=>by cases h) jB;have DF:∀v s,dG b v=some s→isNamed (raw s)=true:=fun v s h=>tV hL.right hfit (hag v s h);have hwb:=ug (b:=b) hR.body DF;obtain⟨R,hRR⟩:=Ic (b:=b) Ii;obtain⟨f1,f2,f3,f4⟩:=hfit;have hget:∀v∈bK env,dG (b++rest b env) v=dG env v:=fun v hv=>by
  rw[fG];cases hg:dG b v with
  |some s=>exact(hag v s hg).symm
  |none=>exact Dy hg
 have hfa:∀a∈r.body,bA (dX b a) (rest b env)=bA a env:=fun a ha=>by
  rw[qL];refine lg fun t ht ht1=>hget _ ((f3 _).2 (fu.2 (fC hR a ha t ht ht1)))
 have NH:oZ (fun _=>all) (dU b r.body) (rest b env):=by
  refine⟨f1.filter _,?_,fun v=> ?_,iN.2 fun x hx=> ?_⟩
  ·exact(List.Sublist.map _ List.filter_sublist).nodup f2
  ·rw[Ih,f3]
   constructor
   ·rintro⟨hv,hg⟩;obtain⟨k,hk,rfl⟩:=List.mem_map.1 hv;exact fu.2 (xu.2 ⟨hk,hg⟩)
   ·intro hv;obtain⟨k,hk,rfl⟩:=List.mem_map.1 hv;obtain⟨h1,h2⟩:=xu.1 hk;exact⟨fu.2 h1,h2⟩
  ·obtain⟨a,ha,rfl⟩:=List.mem_map.1 hx;obtain⟨g,hg,hi⟩:=iN.1 f4 a ha;refine⟨g,by rw[hfa a ha];exact hg,?_⟩;show inB all g= !a.no;cases hno:a.no with
   |true=>
    have:=hneg a ha hno g hg;cases e:inB all g with
    |false=>rfl
    |true=>exact absurd (dB.1 e) this
   |false=>
    rw[hno] at hi;exact dB.2 (hsub g (dB.1 hi))
 have hmem:=(qG (kL hwb) hRR _).2 NH;intro hnone;unfold byP at hnone;rw[hm] at hnone;dsimp only at hnone;rw[List.find?_eq_none] at hnone;refine hnone (cO (dU b r.body) (rest b env)) (List.mem_map.2 ⟨_,?_,rfl⟩) (List.all_eq_true.2 fun k hk=> ?_)
 ·unfold j6;rw[if_neg (by rw[PD _ hwb];simp),hRR];exact hmem
 ·unfold cO at hk;obtain⟨x,hx,he⟩:=List.mem_filterMap.1 hk;obtain⟨a,ha,rfl⟩:=List.mem_map.1 hx;obtain⟨g,hg,hi⟩:=iN.1 f4 a ha;rw[show(dX b a).no=a.no from rfl] at he;cases hno:a.no with
  |true=>rw[hno] at he;cases he
  |false=>
   rw[hno] at he hi;simp only[Bool.false_eq_true,if_false] at he;rw[hfa a ha,hg] at he;cases he;exact hi
structure NI (p:List aD) (told all:List au) (how:au→Int×List au):Prop where
 ok:∀f∈all,(inB told f=true∧how f=(-1,[]))∨∃(i:Nat) (r:aD) (of:List au),p[i]?=some r∧how f=((i:Int),of)∧lX all r f of=0∧∀k∈of,k∈all
theorem Qi {p:List aD} (hp:dR p) {err:List aI→Int} (PD:∀b,err b=0↔aM b=0) {told:List au} {ps:List (List au)} (hs:Steps (Came p (bU told ps)) told ps) (Ii:∀r∈p,dI (fun _=>bU told ps) 0 r.body [[]]≠none):
  NI p told (bU told ps) (mY err p told (bU told ps) (told::ps)):=⟨fun f hf=>by
 by_cases ht:inB told f=true
 ·exact Or.inl ⟨ht,by unfold mY;rw[if_pos ht]⟩
 ·right
  have hn:f∉told:=fun hc=>ht (dB.2 hc);obtain⟨A,B,⟨g1,g2,g3⟩,h2,h3,h4,_,_⟩:=Ck hs hf hn;obtain⟨r,hr,env,he,jB,hneg⟩:=g3 f h3 h2;have hby:byP err (bU told ps) ((told::ps).getD (dM (told::ps) f-1) []) r f≠none:=by
   rw[h4];exact KV (fun b hb=>(PD b).2 hb) (hp.rules r hr) g1 g2 (Ii r hr) he jB hneg
  obtain⟨j,q,of,k1,k2,k3⟩:=rF (g:=fun r=>byP err (bU told ps) ((told::ps).getD (dM (told::ps) f-1) []) r f) p 0 ⟨r,hr,hby⟩;obtain⟨s1,s2⟩:=Ig (fun b hb=>(PD b).1 hb) (hp.rules q (List.mem_of_getElem? k1)) k2;refine⟨j,q,of,k1,?_,s1,fun k hk=> ?_⟩
  ·unfold mY;rw[if_neg ht,k3];simp
  ·have:=s2 k hk;rw[h4] at this;exact g2 k this⟩
def cnt:Nat→bH→Nat
 |0,_=>0
 |n+1,x=>1+(x.kids.map (cnt n)).sum
end Go.Proofs.YtafmbokfkbccaaaGreatDoor
