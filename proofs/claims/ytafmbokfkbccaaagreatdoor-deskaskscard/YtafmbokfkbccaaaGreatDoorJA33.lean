import Derived.Test.YtafmbokfkbccaaaGreatDoorJA23
namespace Go.Proofs.YtafmbokfkbccaaaGreatDoor
def aS (p:List aA) (ss:List Nat) (n:Int):Nat→List au→Int×List (List au)
 |0,_=>(0,[])
 |k+1,l=>if(fq p ss n l).1≠0 then((fq p ss n l).1,[]) else if(fq p ss n l).2.length=l.length then(0,[(fq p ss n l).2])
  else((aS p ss n k (fq p ss n l).2).1,(fq p ss n l).2::(aS p ss n k (fq p ss n l).2).2)
def bE (l:List au) (ps:List (List au)):List au:=ps.getLast?.getD l
theorem gT (l m:List au) (ps:List (List au)):bE l (m::ps)=bE m ps:=by
 unfold bE;cases ps with
 |nil=>rfl
 |cons a ps=>rw[List.getLast?_cons_cons];rw[List.getLast?_cons];rfl
theorem gJ (l:List au) (ps qs:List (List au)):bE l (ps++qs)=bE (bE l ps) qs:=by
 induction ps generalizing l with
 |nil=>rfl
 |cons a ps ih=>rw[List.cons_append,gT,gT,ih]
def bF (p:List aA) (ss:List Nat):Nat→Nat→List au→Int×List (List au)
 |0,_,_=>(0,[])
 |c+1,n,l=>if(aS p ss n 201 l).1≠0 then((aS p ss n 201 l).1,[])
  else((bF p ss c (n+1) (bE l (aS p ss n 201 l).2)).1,(aS p ss n 201 l).2++(bF p ss c (n+1) (bE l (aS p ss n 201 l).2)).2)
theorem AV (p:List aA) (ss:List Nat) (n:Int):∀(k:Nat) (l:List au),(jk p ss n k l).1=(aS p ss n k l).1∧((aS p ss n k l).1=0→jk p ss n k l=(0,bE l (aS p ss n k l).2))
 |0,l=>⟨rfl,fun _=>rfl⟩
 |k+1,l=>by
  unfold jk aS
  by_cases h0:(fq p ss n l).1=0
  ·have h0':¬(fq p ss n l).1≠0:=fun h=>h h0;simp only[if_neg h0']
   by_cases h1:(fq p ss n l).2.length=l.length
   ·simp only[if_pos h1];exact⟨trivial,fun _=>rfl⟩
   ·simp only[if_neg h1];obtain⟨h2,h3⟩:=AV p ss n k (fq p ss n l).2;exact⟨h2,fun h=>by rw[h3 h,gT]⟩
  ·have h0':(fq p ss n l).1≠0:=h0;simp only[if_pos h0'];exact⟨trivial,fun h=>absurd h h0⟩
theorem yO (p:List aA) (ss:List Nat):∀(c n:Nat) (l:List au),(oP p ss c n l).1=(bF p ss c n l).1∧((bF p ss c n l).1=0→oP p ss c n l=(0,bE l (bF p ss c n l).2))
 |0,n,l=>⟨rfl,fun _=>rfl⟩
 |c+1,n,l=>by
  obtain⟨o1,o2⟩:=AV p ss n 201 l;unfold oP bF
  by_cases h0:(aS p ss n 201 l).1=0
  ·have o3:=o2 h0;have h1:¬(jk p ss n 201 l).1≠0:=fun h=>h (o1.trans h0);have h2:¬(aS p ss n 201 l).1≠0:=fun h=>h h0;simp only[if_neg h1,if_neg h2];rw[o3];obtain⟨h2,h3⟩:=yO p ss c (n+1) (bE l (aS p ss n 201 l).2);exact⟨h2,fun h=>by rw[h3 h,gJ]⟩
  ·have h1:(jk p ss n 201 l).1≠0:=fun h=>h0 (o1.symm.trans h);have h2:(aS p ss n 201 l).1≠0:=h0;simp only[if_pos h1,if_pos h2];exact⟨o1,fun h=>absurd h h0⟩
def dK (b:List aD) (t:dF):dF:=if t.1 then(match dU b (bs t.2) with|some s=>(false,raw s)|none=>t) else t
def eY (b:List aD) (a:aF):aF:=⟨a.no,a.name,a.terms.map (dK b)⟩
def eH (b:List aD) (body:List aF):List aF:=body.map (eY b)
def fO (body:List aF) (l:List aD):List au:=body.filterMap fun a=>if a.no then none else aV a l
def qW (body:List aF) (all:List au) (er:Int):List (List aD):=if er≠0 then[] else(lZ (fun _=>all) body).getD []
def byP (err:List aF→Int) (all old:List au) (r:aA) (f:au):Option (List au):=match fK r.head f [] with
 |none=>none
 |some b=>((qW (eH b r.body) all (err (eH b r.body))).map (fO (eH b r.body))).find? fun of=>of.all (inB old)
def iB (ps:List (List au)) (f:au):Nat:=ps.findIdx fun l=>inB l f
def jP (g:aA→Option (List au)):Nat→List aA→Int×List au
 |_,[]=>(-1,[])
 |i,r::p=>match g r with
  |some of=>(i,of)
  |none=>jP g (i+1) p
def qX (err:List aF→Int) (p:List aA) (told all:List au) (ps:List (List au)) (f:au):Int×List au:=
 if inB told f then(-1,[]) else jP (fun r=>byP err all (ps.getD (iB ps f-1) []) r f) 0 p
def lS (g:au→Nat×Nat→Option iR×(Nat×Nat)):List au→Nat×Nat→Option (List iR)×(Nat×Nat)
 |[],s=>(some [],s)
 |f::fs,s=>match(g f s).1 with
  |none=>(none,(g f s).2)
  |some k=>match(lS g fs (g f s).2).1 with
   |none=>(none,(lS g fs (g f s).2).2)
   |some ks=>(some (k::ks),(lS g fs (g f s).2).2)
def cO (how:au→Int×List au):Nat→au→Nat→Nat×Nat→Option iR×(Nat×Nat)
 |0,_,_,s=>(none,s)
 |n+1,f,d,s=>if Av (s.1+1,max s.2 d) then(none,(s.1+1,max s.2 d))
  else match(lS (fun g s=>cO how n g (d+1) s) (how f).2 (s.1+1,max s.2 d)).1 with
   |none=>(none,(lS (fun g s=>cO how n g (d+1) s) (how f).2 (s.1+1,max s.2 d)).2)
   |some ks=>(some (.mk f (how f).1 ks),(lS (fun g s=>cO how n g (d+1) s) (how f).2 (s.1+1,max s.2 d)).2)
end Go.Proofs.YtafmbokfkbccaaaGreatDoor
namespace Go.Proofs.YtafmbokfkbccaaaGreatDoor
theorem kC {α β:Type} {g h:α→Option β}:∀{l:List α},(∀x∈l,g x=h x)→l.filterMap g=l.filterMap h
 |[],_=>rfl
 |a::l,e=>by
  rw[List.filterMap_cons,List.filterMap_cons,e a (by simp),kC fun x hx=>e x (by simp[hx])]
theorem Cy (b l:List aD) (t:dF):bq l (dK b t)=bq (b++l) t:=by
 unfold dK;obtain⟨v,n⟩:=t;cases v with
 |false=>simp[bq]
 |true=>
  simp only[if_true];unfold bq;rw[fJ];cases dU b (bs n) with
  |none=>rfl
  |some s=>simp[kE]
theorem nO (b l:List aD):∀ts:List dF,aN l (ts.map (dK b))=aN (b++l) ts
 |[]=>rfl
 |t::ts=>by
  rw[List.map_cons];unfold aN;rw[Cy,nO b l ts]
theorem qH (b l:List aD) (a:aF):aV (eY b a) l=aV a (b++l):=by
 unfold aV eY;rw[nO]
theorem mK {G:List aD}:∀(ts:List dF) (xs:List ByteArray) (c:List aD),(∀v s,dU c v=some s→dU G v=some s)→aN G ts=some xs→
  ∃m,eu c ts xs=some m∧∀v s,dU m v=some s→dU G v=some s
 |[],xs,c,h,_=>⟨c,rfl,h⟩
 |t::ts,xs,c,h,hf=>by
  unfold aN at hf;cases hw:bq G t with
  |none=>rw[hw] at hf;cases hf
  |some x=>
   rw[hw] at hf;dsimp only at hf;cases hr:aN G ts with
   |none=>rw[hr] at hf;cases hf
   |some r=>
    rw[hr] at hf;cases hf;unfold eu;cases hc:bq c t with
    |none=>
     refine mK ts r (c++[(bs t.2,x)]) (fun v s hv=> ?_) hr;rw[fJ] at hv;cases hg:dU c v with
     |some u=>rw[hg] at hv;cases hv;exact h v _ hg
     |none=>
      rw[hg] at hv;dsimp only at hv;unfold dU at hv;split at hv
      ·rename_i e;cases hv;dsimp only at e;subst e;unfold bq at hw hc;cases ht:t.1 with
       |true=>rw[ht] at hw;simpa using hw
       |false=>rw[ht] at hc;simp at hc
      ·cases hv
    |some s=>
     have e:s=x:=by
      unfold bq at hw hc;cases ht:t.1 with
      |true=>
       rw[ht] at hw hc;simp only[if_true] at hw hc;have:=h _ _ hc;rw[hw] at this;exact(Option.some.inj this).symm
      |false=>
       rw[ht] at hw hc;simp only[Bool.false_eq_true,if_false] at hw hc;exact Option.some.inj (hc.symm.trans hw)
     dsimp only;rw[if_pos e];exact mK ts r c h hr
theorem wW {G c:List aD} {a:aF} {f:au} (h:∀v s,dU c v=some s→dU G v=some s) (hf:aV a G=some f):∃m,fK a f c=some m∧∀v s,dU m v=some s→dU G v=some s:=by
 obtain⟨h1,h2⟩:=jK hf;obtain⟨m,hm,hm2⟩:=mK a.terms f.2 c h h2;exact⟨m,by unfold fK;rw[if_pos ⟨h1.symm,(jV h2).symm⟩,hm],hm2⟩
theorem qI {G:List aD}:∀(body:List aF) (c:List aD),(∀v s,dU c v=some s→dU G v=some s)→(∀a∈body,∃k,aV a G=some k)→
  ∃b',lK body (body.filterMap fun a=>if a.no then none else aV a G) c=(0,b')∧∀v s,dU b' v=some s→dU G v=some s
 |[],c,h,_=>⟨c,rfl,h⟩
 |a::body,c,h,hf=>by
  obtain⟨k,hk⟩:=hf a (by simp);cases hno:a.no with
  |true=>
   have e:((a::body).filterMap fun a=>if a.no then none else aV a G)=body.filterMap fun a=>if a.no then none else aV a G:=List.filterMap_cons_none (by simp[hno]);rw[e];unfold lK;rw[if_pos hno];exact qI body c h fun x hx=>hf x (by simp[hx])
  |false=>
   have e:((a::body).filterMap fun a=>if a.no then none else aV a G)=k::body.filterMap fun a=>if a.no then none else aV a G:=List.filterMap_cons_some (by simp[hno,hk]);rw[e];obtain⟨m,hm,hm2⟩:=wW h hk;unfold lK;rw[if_neg (by simp[hno])];dsimp only;rw[hm];exact qI body m hm2 fun x hx=>hf x (by simp[hx])
theorem AX (b l:List aD) (body:List aF):fO (eH b body) l=body.filterMap fun a=>if a.no then none else aV a (b++l):=by
 unfold fO eH;rw[List.filterMap_map];refine kC fun a _=> ?_;show(if a.no then none else aV (eY b a) l)=_;rw[qH]
theorem M9 {all:List au} {r:aA} {f:au} {b l:List aD} (hR:mg r) (hm:fK r.head f []=some b) (hso:∀a∈r.body,∃g,aV a (b++l)=some g∧inB all g= !a.no):EP all r f (fO (eH b r.body) l)=0:=by
 obtain⟨_,hk0,_⟩:=oK (K:=[]) rfl hm;obtain⟨b',hb',hag⟩:=qI (G:=b++l) r.body b (fun v s h=>by rw[fJ,h]) fun a ha=>by obtain⟨g,hg,_⟩:=hso a ha;exact⟨g,hg⟩
 rw[←AX] at hb';obtain⟨_,hkb,_⟩:=uq hk0 hb';unfold EP;rw[hm];dsimp only;rw[hb'];dsimp only;rw[if_neg (by simp)];refine MH fun a ha hno=> ?_;obtain⟨g,hg,hi⟩:=hso a ha;refine⟨g,?_,by rw[hi,hno];rfl⟩;rw[←hg];refine lg fun t ht ht1=> ?_;have hc:=dV hR a ha t ht ht1;have hkey:bs t.2∈bQ b':=by
  rw[hkb];refine fB.2 ((iy r.body).2 (Or.inr ?_));rcases(iy r.body).1 hc with h1|h1
  ·cases h1
  ·exact h1
 obtain⟨s,hs⟩:=kZ hkey;rw[hs,hag _ _ hs]
def rest (b l:List aD):List aD:=l.filter fun x=>(dU b x.1).isNone
def agree (b l:List aD):Bool:=l.all fun x=>match dU b x.1 with|none=>true|some s=>decide (s=x.2)
theorem Dy {b l:List aD} {v:ByteArray} (h:dU b v=none):dU (rest b l) v=dU l v:=by
 unfold rest
 induction l with
 |nil=>rfl
 |cons x l ih=>
  rw[List.filter_cons]
  by_cases e:x.1=v
  ·have:(dU b x.1).isNone=true:=by rw[e,h];rfl
   rw[if_pos this];simp[dU,e]
  ·cases hx:(dU b x.1).isNone with
   |true=>rw[if_pos rfl];simp only[dU,if_neg e,ih]
   |false=>rw[if_neg (by simp)];simp only[dU,if_neg e,ih]
theorem Il {b l:List aD} (h:agree b l=true) {v s u:ByteArray} (hb:dU b v=some s) (hl:dU l v=some u):u=s:=by
 have:=List.all_eq_true.1 h _ (rP hl);dsimp only at this;rw[hb] at this;exact(of_decide_eq_true this).symm
theorem mM {b l:List aD} {x:aD}:agree b (l++[x])=(agree b l&&(match dU b x.1 with|none=>true|some s=>decide (s=x.2))):=by
 unfold agree;rw[List.all_append];simp
theorem mX:∀(ts:List dF) (xs:List ByteArray) (l m:List aD),eu l ts xs=some m→∃r,m=l++r
 |[],_,l,m,h=>⟨[],by cases h;simp⟩
 |_::_,[],l,m,h=>by cases h
 |t::ts,x::xs,l,m,h=>by
  unfold eu at h;split at h
  ·obtain⟨r,e⟩:=mX ts xs _ m h;exact⟨(bs t.2,x)::r,by rw[e];simp⟩
  ·split at h
   ·exact mX ts xs l m h
   ·cases h
theorem AY {b l m:List aD} (h:agree b l=false) (e:∃r,m=l++r):agree b m=false:=by
 obtain⟨r,rfl⟩:=e;unfold agree at*;rw[List.all_append,h];rfl
def pass (b:List aD):Option (List aD)→Option (List aD)
 |none=>none
 |some m=>if agree b m then some (rest b m) else none
theorem Im {b:List aD} {o:Option (List aD)} (h:∀m,o=some m→agree b m=false):pass b o=none:=by
 cases o with
 |none=>rfl
 |some m=>
  show(if agree b m=true then some (rest b m) else none)=none;rw[if_neg (by rw[h m rfl];simp)]
theorem iE (b:List aD):∀(ts:List dF) (xs:List ByteArray) (l:List aD),agree b l=true→eu (rest b l) (ts.map (dK b)) xs=pass b (eu l ts xs)
 |[],xs,l,h=>by
  show some (rest b l)=(if agree b l=true then some (rest b l) else none);rw[if_pos h]
 |t::ts,[],l,h=>rfl
 |t::ts,x::xs,l,h=>by
  rw[List.map_cons];unfold eu;obtain⟨v,n⟩:=t;cases v with
  |false=>
   have e1:dK b (false,n)=(false,n):=by simp[dK]
   have e2:∀q:List aD,bq q (false,n)=some (bs n):=fun q=>by simp[bq]
   rw[e1,e2,e2];dsimp only
   by_cases hx:bs n=x
   ·rw[if_pos hx,if_pos hx];exact iE b ts xs l h
   ·rw[if_neg hx,if_neg hx];rfl
  |true=>
   cases hb:dU b (bs n) with
   |some s=>
    have e1:dK b (true,n)=(false,raw s):=by simp[dK,hb]
    have e2:∀q:List aD,bq q (false,raw s)=some s:=fun q=>by simp[bq,kE]
    have e3:∀q:List aD,bq q (true,n)=dU q (bs n):=fun q=>by simp[bq]
    rw[e1,e2,e3];dsimp only;cases hl:dU l (bs n) with
    |some u=>
     have:=Il h hb hl;subst this;dsimp only
     by_cases hx:u=x
     ·rw[if_pos hx,if_pos hx];exact iE b ts xs l h
     ·rw[if_neg hx,if_neg hx];rfl
    |none=>
     dsimp only
     by_cases hx:s=x
     ·subst hx;rw[if_pos rfl];have h2:agree b (l++[(bs n,s)])=true:=by rw[mM,h];simp[hb]
      have h3:rest b (l++[(bs n,s)])=rest b l:=by unfold rest;rw[List.filter_append];simp[hb]
      rw[←h3];exact iE b ts xs _ h2
     ·rw[if_neg hx];have h2:agree b (l++[(bs n,x)])=false:=by rw[mM,h];simp[hb,hx]
      exact(Im fun m hm=>AY h2 (mX _ _ _ _ hm)).symm
   |none=>
    have e1:dK b (true,n)=(true,n):=by simp[dK,hb]
    have e3:∀q:List aD,bq q (true,n)=dU q (bs n):=fun q=>by simp[bq]
    rw[e1,e3,e3,Dy hb];cases hl:dU l (bs n) with
    |some u=>
     dsimp only
     by_cases hx:u=x
     ·rw[if_pos hx,if_pos hx];exact iE b ts xs l h
     ·rw[if_neg hx,if_neg hx];rfl
    |none=>
     dsimp only;have h2:agree b (l++[(bs n,x)])=true:=by rw[mM,h];simp[hb]
     have h3:rest b (l++[(bs n,x)])=rest b l++[(bs n,x)]:=by unfold rest;rw[List.filter_append];simp[hb]
     rw[←h3];exact iE b ts xs _ h2
theorem Cz (b:List aD) {a:aF} {f:au} {l:List aD} (h:agree b l=true):fK (eY b a) f (rest b l)=pass b (fK a f l):=by
 unfold fK eY;dsimp only;rw[List.length_map];split
 ·exact iE b a.terms f.2 l h
 ·rfl
def passes (b:List aD) (ls:List (List aD)):List (List aD):=(ls.filter (agree b)).map (rest b)
theorem rJ (b:List aD) (fs:List au) (g:au→Option (List aD)):passes b (fs.filterMap g)=fs.filterMap fun f=>pass b (g f):=by
 unfold passes
 induction fs with
 |nil=>rfl
 |cons f fs ih=>
  cases hg:g f with
  |none=>rw[List.filterMap_cons_none hg,List.filterMap_cons_none (by simp[hg,pass])];exact ih
  |some m=>
   rw[List.filterMap_cons_some hg,List.filter_cons];cases ha:agree b m with
   |true=>rw[if_pos rfl,List.map_cons,List.filterMap_cons_some (b:=rest b m) (by simp[hg,pass,ha]),ih]
   |false=>rw[if_neg (by simp),List.filterMap_cons_none (by simp[hg,pass,ha]),ih]
theorem pV (b:List aD) (a:aF) (fs:List au):∀ls:List (List aD),aR (eY b a) fs (passes b ls)=passes b (aR a fs ls)
 |[]=>rfl
 |l::ls=>by
  have ih:=pV b a fs ls;unfold aR at ih⊢;have e:passes b ((l::ls).flatMap fun l=>fs.filterMap fun f=>fK a f l)=passes b (fs.filterMap fun f=>fK a f l)++passes b (ls.flatMap fun l=>fs.filterMap fun f=>fK a f l):=by
   rw[List.flatMap_cons];unfold passes;rw[List.filter_append,List.map_append]
  rw[e,←ih,rJ];cases ha:agree b l with
  |true=>
   have e2:passes b (l::ls)=rest b l::passes b ls:=by unfold passes;rw[List.filter_cons,if_pos ha,List.map_cons]
   rw[e2,List.flatMap_cons]
   congr 1
   exact kC fun f _=>Cz b ha
  |false=>
   have e2:passes b (l::ls)=passes b ls:=by unfold passes;rw[List.filter_cons,if_neg (by simp[ha])]
   rw[e2];have e3:(fs.filterMap fun f=>pass b (fK a f l))=[]:=by
    rw[List.filterMap_eq_nil_iff];intro f _;refine Im fun m hm=>AY ha ?_;unfold fK at hm;split at hm
    ·exact mX _ _ _ _ hm
    ·cases hm
   rw[e3,List.nil_append]
theorem uL (b:List aD) (fs:List au):∀(body:List aF) (n:Nat) (ls ms:List (List aD)),fG (fun _=>fs) n body ls=some ms→fG (fun _=>fs) n (eH b body) (passes b ls)=some (passes b ms)
 |[],n,ls,ms,h=>by cases h;rfl
 |a::body,n,ls,ms,h=>by
  show fG _ n (eY b a::eH b body) _=_;unfold fG at h⊢;rw[show(eY b a).no=a.no from rfl];cases hno:a.no with
  |true=>
   rw[hno] at h;simp only[if_true] at h⊢;exact uL b fs body (n+1) ls ms h
  |false=>
   rw[hno] at h;simp only[Bool.false_eq_true,if_false] at h⊢;split at h
   ·cases h
   ·rename_i hlen;have hle:(passes b (aR a fs ls)).length≤(aR a fs ls).length:=by
     unfold passes;rw[List.length_map];exact List.length_filter_le _ _
    rw[pV,if_neg (by omega)];exact uL b fs body (n+1) _ ms h
theorem Io {b:List aD} {fs:List au} {body:List aF} (h:fG (fun _=>fs) 0 body [[]]≠none):∃R,lZ (fun _=>fs) (eH b body)=some R:=by
 cases e:fG (fun _=>fs) 0 body [[]] with
 |none=>exact absurd e h
 |some ms=>
  have:=uL b fs body 0 [[]] ms e;have e2:passes b [[]]=[[]]:=rfl;rw[e2] at this;unfold lZ;rw[this];exact⟨_,rfl⟩
end Go.Proofs.YtafmbokfkbccaaaGreatDoor
namespace Go.Proofs.YtafmbokfkbccaaaGreatDoor
def Steps (Q:List au→List au→Prop):List au→List (List au)→Prop
 |_,[]=>True
 |L,M::ps=>Q L M∧Steps Q M ps
theorem Steps.append {Q:List au→List au→Prop}:∀{ps qs:List (List au)} {L:List au},Steps Q L ps→Steps Q (bE L ps) qs→Steps Q L (ps++qs)
 |[],_,_,_,h=>h
 |M::ps,qs,L,h,h2=>⟨h.1,Steps.append h.2 (by rw[gT] at h2;exact h2)⟩
theorem Fa {r:aA} (hR:mg r) {L x:List au} (h:gY r L=some x) {f:au} (hf:f∈x):f.1=bs r.head.name:=by
 obtain⟨env,_,he⟩:=(jJ (dV hR) h f).1 hf;exact(jK he).1
theorem kV {p:List aA} (hp:dB p) (σ:aA→Nat) {n:Int}:∀(k:Nat) {L:List au} {ps:List (List au)},GoodS p L→aS p (p.map σ) n k L=(0,ps)→200<L.length+k→
  GoodS p (bE L ps)∧(∀f∈L,f∈bE L ps)∧(∀f∈bE L ps,f∉L→∃r∈p,(σ r:Int)=n∧f.1=bs r.head.name)∧fq p (p.map σ) n (bE L ps)=(0,bE L ps)
 |0,L,ps,hL,_,hk=>by have:=hL.few;omega
 |k+1,L,ps,hL,h,hk=>by
  unfold aS at h;obtain⟨e,x,hx⟩:∃e x,fq p (p.map σ) n L=(e,x):=⟨_,_,rfl⟩;rw[hx] at h;dsimp only at h;split at h
  ·rename_i he;simp at h;exact absurd h.1 he
  ·rename_i he;have he:e=0:=by simpa using he
   subst he;obtain⟨g1,g2⟩:=mh hp σ hL hx;obtain⟨_,_,o3,_,_⟩:=jl σ hx;have hnew:∀f∈x,f∉L→∃r∈p,(σ r:Int)=n∧f.1=bs r.head.name:=fun f hf hn=>by
    rcases o3 f hf with h1|⟨r,hr,h1,y,hy,hfy⟩
    ·exact absurd h1 hn
    ·exact⟨r,hr,h1,Fa (hp.rules r hr) hy hfy⟩
   split at h
   ·rename_i hlen;have e:L=x:=BK hL.up g1.up g2 (by omega);simp at h;subst h;rw[gT];show GoodS p x∧(∀f∈L,f∈x)∧(∀f∈x,f∉L→_)∧fq p (p.map σ) n x=(0,x);exact⟨g1,g2,hnew,by rw[←e] at hx⊢;exact hx⟩
   ·rename_i hlen;have hle:=sD hL.up g2;obtain⟨e2,qs,hq⟩:∃e qs,aS p (p.map σ) n k x=(e,qs):=⟨_,_,rfl⟩;rw[hq] at h;simp only[Prod.mk.injEq] at h;obtain⟨rfl,rfl⟩:=h;obtain⟨a1,a2,a3,a4⟩:=kV hp σ k g1 hq (by omega);rw[gT];refine⟨a1,fun f hf=>a2 f (g2 f hf),fun f hf hn=> ?_,a4⟩
    by_cases hfx:f∈x
    ·exact hnew f hfx hn
    ·exact a3 f hf hfx
theorem rT {p:List aA} (hp:dB p) (σ:aA→Nat):∀(c n:Nat) {L:List au} {ps:List (List au)},GoodS p L→bF p (p.map σ) c n L=(0,ps)→
  GoodS p (bE L ps)∧(∀f∈L,f∈bE L ps)∧∀f∈bE L ps,f∉L→∃r∈p,n≤σ r∧f.1=bs r.head.name
 |0,n,L,ps,hL,h=>by
  simp only[bF,Prod.mk.injEq,true_and] at h;subst h;exact⟨hL,fun _ h=>h,fun f hf hn=>absurd hf hn⟩
 |c+1,n,L,ps,hL,h=>by
  unfold bF at h;obtain⟨e,os,ho⟩:∃e os,aS p (p.map σ) n 201 L=(e,os):=⟨_,_,rfl⟩;rw[ho] at h;dsimp only at h;split at h
  ·rename_i he;simp at h;exact absurd h.1 he
  ·rename_i he;have he:e=0:=by simpa using he
   subst he;obtain⟨e2,rs,hr⟩:∃e qs,bF p (p.map σ) c (n+1) (bE L os)=(e,qs):=⟨_,_,rfl⟩;rw[hr] at h;simp only[Prod.mk.injEq] at h;obtain⟨rfl,rfl⟩:=h;obtain⟨a1,a2,a3,_⟩:=kV hp σ 201 hL ho (by omega);obtain⟨b1,b2,b3⟩:=rT hp σ c (n+1) a1 hr;rw[gJ];refine⟨b1,fun f hf=>b2 f (a2 f hf),fun f hf hn=> ?_⟩
   by_cases hm:f∈bE L os
   ·obtain⟨r,hr,e,hname⟩:=a3 f hm hn;exact⟨r,hr,by omega,hname⟩
   ·obtain⟨r,hr,e,hname⟩:=b3 f hf hm;exact⟨r,hr,by omega,hname⟩
def Came (p:List aA) (all L M:List au):Prop:=GoodS p L∧(∀f∈L,f∈all)∧
 ∀f∈M,f∉L→∃r∈p,∃env,kL (fun _=>L) r.body env∧aV r.head env=some f∧∀a∈r.body,a.no=true→∀g,aV a env=some g→g∉all
theorem AZ {p:List aA} (hp:dB p) {τ:Bs→Nat} (hτ:Sol p τ) {n:Nat} {all:List au}:∀(k:Nat) {L:List au} {ps:List (List au)},GoodS p L→aS p (p.map fun r=>τ r.head.name) n k L=(0,ps)→200<L.length+k→
  (∀f∈bE L ps,f∈all)→(∀f∈all,f∉L→∃r∈p,n≤τ r.head.name∧f.1=bs r.head.name)→Steps (Came p all) L ps
 |0,L,ps,hL,_,hk,_,_=>by have:=hL.few;omega
 |k+1,L,ps,hL,h,hk,hsub,hall=>by
  have Sj:∀f∈L,f∈all:=fun f hf=>hsub f ((kV hp _ (k+1) hL h hk).2.1 f hf);unfold aS at h;obtain⟨e,x,hx⟩:∃e x,fq p (p.map fun r=>τ r.head.name) n L=(e,x):=⟨_,_,rfl⟩;rw[hx] at h;dsimp only at h;split at h
  ·rename_i he;simp at h;exact absurd h.1 he
  ·rename_i he;have he:e=0:=by simpa using he
   subst he;obtain⟨g1,g2⟩:=mh hp (fun r=>τ r.head.name) hL hx;obtain⟨_,_,o3,_,_⟩:=jl (fun r=>τ r.head.name) hx;have PE:Came p all L x:=⟨hL,Sj,fun f hf hn=>by
    rcases o3 f hf with h1|⟨r,hr,hrn,y,hy,hfy⟩
    ·exact absurd h1 hn
    ·obtain⟨env,he,jw⟩:=(jJ (dV (hp.rules r hr)) hy f).1 hfy;refine⟨r,hr,env,he,jw,fun a ha hno g hg hga=> ?_⟩;obtain⟨g',hg',hi⟩:=jh.1 he.2.2.2 a ha;rw[hg] at hg';cases hg';rw[hno] at hi;have hgl:g∉L:=fun hc=>by rw[bH.2 hc] at hi;cases hi
     obtain⟨q,hq,hqn,Ip⟩:=hall g hga hgl;have e1:a.name=q.head.name:=rV ((jK hg).1.symm.trans Ip);have h2:=hτ r hr a ha ⟨q,hq,e1.symm⟩;have h3:step a=1:=by unfold step;rw[if_pos hno]
     have h4:τ r.head.name=n:=by exact_mod_cast hrn
     rw[e1,h3,h4] at h2;omega⟩
   split at h
   ·simp at h;subst h;exact⟨PE,trivial⟩
   ·rename_i hlen;have hle:=sD hL.up g2;obtain⟨e2,qs,hq⟩:∃e qs,aS p (p.map fun r=>τ r.head.name) n k x=(e,qs):=⟨_,_,rfl⟩;rw[hq] at h;simp only[Prod.mk.injEq] at h;obtain⟨rfl,rfl⟩:=h;rw[gT] at hsub;exact⟨PE,AZ hp hτ k g1 hq (by omega) hsub fun f hf hn=>hall f hf fun hc=>hn (g2 f hc)⟩
theorem Dz {p:List aA} (hp:dB p) {τ:Bs→Nat} (hτ:Sol p τ):∀(c n:Nat) {L:List au} {ps:List (List au)},GoodS p L→bF p (p.map fun r=>τ r.head.name) c n L=(0,ps)→Steps (Came p (bE L ps)) L ps
 |0,n,L,ps,hL,h=>by
  simp only[bF,Prod.mk.injEq,true_and] at h;subst h
  trivial
 |c+1,n,L,ps,hL,h=>by
  have hg:=rT hp _ (c+1) n hL h;unfold bF at h;obtain⟨e,os,ho⟩:∃e os,aS p (p.map fun r=>τ r.head.name) n 201 L=(e,os):=⟨_,_,rfl⟩;rw[ho] at h;dsimp only at h;split at h
  ·rename_i he;simp at h;exact absurd h.1 he
  ·rename_i he;have he:e=0:=by simpa using he
   subst he;obtain⟨e2,rs,hr⟩:∃e qs,bF p (p.map fun r=>τ r.head.name) c (n+1) (bE L os)=(e,qs):=⟨_,_,rfl⟩;rw[hr] at h;simp only[Prod.mk.injEq] at h;obtain⟨rfl,rfl⟩:=h;obtain⟨a1,a2,a3,_⟩:=kV hp _ 201 hL ho (by omega);obtain⟨b1,b2,b3⟩:=rT hp _ c (n+1) a1 hr;have ih:=Dz hp hτ c (n+1) a1 hr;rw[gJ] at hg⊢;exact Steps.append (AZ hp hτ 201 hL ho (by omega) b2 fun f hf hn=>hg.2.2 f hf hn) ih
theorem filterMap_filter {α β:Type} {g:α→Option β} {P:α→Bool}:∀{l:List α},(∀x∈l,P x=false→g x=none)→l.filterMap g=(l.filter P).filterMap g
 |[],_=>rfl
 |a::l,h=>by
  have ih:=filterMap_filter (g:=g) (P:=P) (l:=l) fun x hx=>h x (by simp[hx]);rw[List.filter_cons];cases hp:P a with
  |true=>rw[if_pos rfl,List.filterMap_cons,List.filterMap_cons,ih]
  |false=>rw[if_neg (by simp),List.filterMap_cons_none (h a (by simp) hp),ih]
theorem yP {a:aF} {fs gs:List au} (h:(fs.filter fun f=>decide (f.1=bs a.name))=gs.filter fun f=>decide (f.1=bs a.name)) (ls:List (List aD)):aR a fs ls=aR a gs ls:=by
 unfold aR;have key:∀(l:List aD) (q:List au),(q.filterMap fun f=>fK a f l)=((q.filter fun f=>decide (f.1=bs a.name)).filterMap fun f=>fK a f l):=fun l q=>
  filterMap_filter fun x _ hx=>by
   unfold fK;rw[if_neg];rintro⟨e,_⟩;rw[decide_eq_false_iff_not] at hx;exact hx e.symm
 have e:(fun l=>fs.filterMap fun f=>fK a f l)=fun l=>gs.filterMap fun f=>fK a f l:=by
  funext l
  rw[key l fs,key l gs,h]
 rw[e]
theorem uM {fs gs:List au}:∀(body:List aF) (n:Nat) (ls:List (List aD)),(∀a∈body,(fs.filter fun f=>decide (f.1=bs a.name))=gs.filter fun f=>decide (f.1=bs a.name))→fG (fun _=>fs) n body ls=fG (fun _=>gs) n body ls
 |[],_,_,_=>rfl
 |a::body,n,ls,h=>by
  unfold fG;rw[yP (h a (by simp)),uM body _ _ fun x hx=>h x (by simp[hx]),uM body _ _ fun x hx=>h x (by simp[hx])]
theorem DC {p:List aA} (hp:dB p) {τ:Bs→Nat} (hτ:Sol p τ):∀(c n:Nat) {L:List au} {ps:List (List au)},GoodS p L→bF p (p.map fun r=>τ r.head.name) c n L=(0,ps)→
  ∀r∈p,n≤τ r.head.name→τ r.head.name<n+c→fG (fun _=>bE L ps) 0 r.body [[]]≠none
 |0,n,L,ps,_,_,r,_,h1,h2=>by omega
 |c+1,n,L,ps,hL,h,r,hr,h1,h2=>by
  unfold bF at h;obtain⟨e,os,ho⟩:∃e os,aS p (p.map fun r=>τ r.head.name) n 201 L=(e,os):=⟨_,_,rfl⟩;rw[ho] at h;dsimp only at h;split at h
  ·rename_i he;simp at h;exact absurd h.1 he
  ·rename_i he;have he:e=0:=by simpa using he
   subst he;obtain⟨e2,rs,hrs⟩:∃e qs,bF p (p.map fun r=>τ r.head.name) c (n+1) (bE L os)=(e,qs):=⟨_,_,rfl⟩;rw[hrs] at h;simp only[Prod.mk.injEq] at h;obtain⟨rfl,rfl⟩:=h;obtain⟨a1,a2,a3,a4⟩:=kV hp _ 201 hL ho (by omega);rw[gJ]
   by_cases hn:τ r.head.name=n
   ·obtain⟨b1,b2,b3⟩:=rT hp _ c (n+1) a1 hrs;have hsame:∀a∈r.body,((bE (bE L os) rs).filter fun f=>decide (f.1=bs a.name))=(bE L os).filter fun f=>decide (f.1=bs a.name):=fun a ha=>by
     refine vI (b1.up.filter _) (a1.up.filter _) fun f=> ?_;rw[List.mem_filter,List.mem_filter]
     constructor
     ·rintro⟨hf,hname⟩;refine⟨Classical.byContradiction fun hno=> ?_,hname⟩;obtain⟨q,hq,hqn,Ip⟩:=b3 f hf hno;have e1:a.name=q.head.name:=rV ((of_decide_eq_true hname).symm.trans Ip);have h3:=hτ r hr a ha ⟨q,hq,e1.symm⟩;rw[e1,hn] at h3;omega
     ·rintro⟨hf,hname⟩;exact⟨b2 f hf,hname⟩
    rw[uM r.body 0 [[]] hsame];obtain⟨o1,_⟩:=jl (fun r=>τ r.head.name) a4;obtain⟨x,hx,_⟩:=o1 r hr (by exact_mod_cast hn);intro hnone;unfold gY lZ at hx;rw[hnone] at hx;cases hx
   ·exact DC hp hτ c (n+1) a1 hrs r hr (by omega) (by omega)
end Go.Proofs.YtafmbokfkbccaaaGreatDoor
namespace Go.Proofs.YtafmbokfkbccaaaGreatDoor
theorem CB {Q:List au→List au→Prop} {f:au}:∀{ps:List (List au)} {L:List au},Steps Q L ps→f∈bE L ps→f∉L→
  ∃A B,Q A B∧f∉A∧f∈B∧(L::ps).getD (iB (L::ps) f-1) []=A∧1≤iB (L::ps) f∧iB (L::ps) f<(L::ps).length
 |[],L,_,h,hn=>absurd h hn
 |M::ps,L,hs,h,hn=>by
  rw[gT] at h;have hL:inB L f=false:=by
   cases e:inB L f with
   |false=>rfl
   |true=>exact absurd (bH.1 e) hn
  have e1:iB (L::M::ps) f=iB (M::ps) f+1:=by
   unfold iB;rw[List.findIdx_cons,hL]
   rfl
  by_cases hM:f∈M
  ·have e2:iB (M::ps) f=0:=by
    unfold iB;rw[List.findIdx_cons,bH.2 hM]
    rfl
   rw[e1,e2];exact⟨L,M,hs.1,hn,hM,rfl,by omega,by simp⟩
  ·obtain⟨A,B,h1,h2,h3,h4,h5,h6⟩:=CB hs.2 h hM;rw[e1];refine⟨A,B,h1,h2,h3,?_,by omega,by simp only[List.length_cons] at h6⊢;omega⟩;rw[show iB (M::ps) f+1-1=(iB (M::ps) f-1)+1 by omega,List.getD_cons_succ];exact h4
theorem qY {g:aA→Option (List au)}:∀(p:List aA) (i:Nat),(∃r∈p,g r≠none)→∃j r of,p[j]?=some r∧g r=some of∧jP g i p=(((i+j:Nat):Int),of)
 |[],_,h=>by obtain⟨r,hr,_⟩:=h;cases hr
 |r::p,i,h=>by
  unfold jP;cases hg:g r with
  |some of=>exact⟨0,r,of,rfl,hg,rfl⟩
  |none=>
   obtain⟨q,hq,hne⟩:=h;have hq':q∈p:=by
    rcases List.mem_cons.1 hq with rfl|hq
    ·exact absurd hg hne
    ·exact hq
   obtain⟨j,s,of,h1,h2,h3⟩:=qY p (i+1) ⟨q,hq',hne⟩;exact⟨j+1,s,of,by simpa using h1,h2,by dsimp only;rw[h3];congr 2;omega⟩
theorem Iq {err:List aF→Int} (NK:∀b,err b=0→aP b=0) {all old:List au} {r:aA} (hR:mg r) {f:au} {of:List au} (h:byP err all old r f=some of):EP all r f of=0∧∀k∈of,k∈old:=by
 unfold byP at h;cases hm:fK r.head f [] with
 |none=>rw[hm] at h;cases h
 |some b=>
  rw[hm] at h;dsimp only at h;have h1:=List.find?_some h;have h2:=List.mem_of_find?_eq_some h;obtain⟨l,hl,rfl⟩:=List.mem_map.1 h2;refine⟨?_,fun k hk=>bH.1 (List.all_eq_true.1 h1 k hk)⟩;unfold qW at hl;split at hl
  ·cases hl
  ·rename_i he;have he:=Classical.not_not.1 he;cases hR':lZ (fun _=>all) (eH b r.body) with
   |none=>rw[hR'] at hl;cases hl
   |some R=>
    rw[hR'] at hl;have hfit:=(nS (sw (NK _ he)) hR' l).1 hl;refine M9 hR hm fun a ha=> ?_;obtain⟨g,hg,hi⟩:=jh.1 hfit.2.2.2 (eY b a) (List.mem_map.2 ⟨a,ha,rfl⟩);exact⟨g,by rw[←qH];exact hg,hi⟩
theorem pW {b:List aD} {a:aF} {k:Bs}:(∃t∈(eY b a).terms,t.1=true∧t.2=k)↔(∃t∈a.terms,t.1=true∧t.2=k)∧dU b (bs k)=none:=by
 constructor
 ·rintro⟨t,ht,h1,h2⟩;obtain⟨u,hu,rfl⟩:=List.mem_map.1 ht;unfold dK at h1 h2;cases hu1:u.1 with
  |false=>rw[hu1] at h1;simp at h1;rw[hu1] at h1;cases h1
  |true=>
   rw[hu1] at h1 h2;simp only[if_true] at h1 h2;cases hg:dU b (bs u.2) with
   |some s=>rw[hg] at h1;cases h1
   |none=>
    rw[hg] at h2;dsimp only at h2;exact⟨⟨u,hu,hu1,h2⟩,by rw[←h2];exact hg⟩
 ·rintro⟨⟨u,hu,h1,h2⟩,hg⟩;refine⟨u,List.mem_map.2 ⟨u,hu,?_⟩,h1,h2⟩;unfold dK;rw[h1,if_pos rfl,h2,hg]
theorem wX {b:List aD} {body:List aF} {k:Bs}:k∈fM [] (eH b body)↔k∈fM [] body∧dU b (bs k)=none:=by
 rw[iy,iy]
 constructor
 ·rintro(h|⟨a,ha,hno,h⟩)
  ·cases h
  ·obtain⟨c,hc,rfl⟩:=List.mem_map.1 ha;obtain⟨h1,h2⟩:=pW.1 h;exact⟨Or.inr ⟨c,hc,hno,h1⟩,h2⟩
 ·rintro⟨h|⟨a,ha,hno,h⟩,hg⟩
  ·cases h
  ·exact Or.inr ⟨eY b a,List.mem_map.2 ⟨a,ha,rfl⟩,hno,pW.2 ⟨h,hg⟩⟩
theorem iO:∀{l:List aF},bG l=0↔∀a∈l,aQ a=0
 |[]=>by simp[bG]
 |a::l=>by
  unfold bG
  constructor
  ·intro h;split at h
   ·rename_i h0;intro x hx;rcases List.mem_cons.1 hx with rfl|hx
    ·exact h0
    ·exact iO.1 h x hx
   ·rename_i h0;exact absurd h h0
  ·intro h;rw[if_pos (h a (by simp))];exact iO.2 fun x hx=>h x (by simp[hx])
theorem CF {b:List aD} {body:List aF} (h:aP body=0) (hb:∀v s,dU b v=some s→isNamed (raw s)=true):aP (eH b body)=0:=by
 unfold aP at h⊢;have el:(eH b body).length=body.length:=List.length_map _;rw[el];split at h
 ·cases h
 ·rename_i h5;rw[if_neg h5];split at h
  ·rename_i h0;split at h
   ·rename_i hv;have ha:bG (eH b body)=0:=iO.2 fun x hx=>by
     obtain⟨a,ha,rfl⟩:=List.mem_map.1 hx;obtain⟨h1,h2,h3⟩:=sH (iO.1 h0 a ha);unfold aQ;rw[if_neg (by show¬isNamed a.name=false;rw[h1];simp),if_neg (by show¬4<(a.terms.map (dK b)).length;rw[List.length_map];omega),if_neg];intro hc;obtain⟨t,ht,hw⟩:=List.any_eq_true.1 hc;obtain⟨u,hu,rfl⟩:=List.mem_map.1 ht;have hwu:=h3 u hu;unfold dK at hw;split at hw
     ·split at hw
      ·rename_i s hs;unfold bP at hw;simp[hb _ s hs] at hw
      ·rw[hwu] at hw;cases hw
     ·rw[hwu] at hw;cases hw
    rw[if_pos ha,if_pos];refine List.all_eq_true.2 fun x hx=> ?_;obtain⟨a,ha,rfl⟩:=List.mem_map.1 hx;refine List.all_eq_true.2 fun k hk=> ?_;have hk':∃t∈(eY b a).terms,t.1=true∧t.2=k:=by
     rcases(iC _).1 hk with h1|h1
     ·cases h1
     ·exact h1
    obtain⟨h1,h2⟩:=pW.1 hk';have h3:k∈vars a:=(iC _).2 (Or.inr h1);have h4:=List.all_eq_true.1 (List.all_eq_true.1 hv a ha) k h3;unfold givenBy at h4⊢;obtain⟨c,hc,h5⟩:=List.any_eq_true.1 h4;simp only[Bool.and_eq_true,Bool.not_eq_true'] at h5;have h6:k∈vars c:=by simpa using h5.2
    refine List.any_eq_true.2 ⟨eY b c,List.mem_map.2 ⟨c,hc,rfl⟩,?_⟩;simp only[Bool.and_eq_true,Bool.not_eq_true'];refine⟨h5.1,?_⟩;have h7:k∈vars (eY b c):=by
     refine(iC _).2 (Or.inr (pW.2 ⟨?_,h2⟩));rcases(iC _).1 h6 with h8|h8
     ·cases h8
     ·exact h8
    simpa using h7
   ·cases h
  ·rename_i h0;exact absurd h h0
theorem Ir {b l:List aD} {v:ByteArray}:v∈bQ (rest b l)↔v∈bQ l∧dU b v=none:=by
 unfold bQ rest
 constructor
 ·intro h;obtain⟨x,hx,rfl⟩:=List.mem_map.1 h;obtain⟨h1,h2⟩:=List.mem_filter.1 hx;exact⟨List.mem_map.2 ⟨x,h1,rfl⟩,by simpa using h2⟩
 ·rintro⟨h,hg⟩;obtain⟨x,hx,rfl⟩:=List.mem_map.1 h;exact List.mem_map.2 ⟨x,List.mem_filter.2 ⟨hx,by rw[hg];rfl⟩,rfl⟩
theorem Kh {p:List aA} {err:List aF→Int} (NK:∀b,aP b=0→err b=0) {all L:List au} {r:aA} (hR:mg r) (hL:GoodS p L) (hsub:∀f∈L,f∈all) (Iu:fG (fun _=>all) 0 r.body [[]]≠none)
  {f:au} {env:List aD} (hfit:kL (fun _=>L) r.body env) (jw:aV r.head env=some f) (hneg:∀a∈r.body,a.no=true→∀g,aV a env=some g→g∉all):byP err all L r f≠none:=by
 obtain⟨b,hm,hag⟩:=wW (G:=env) (c:=[]) (a:=r.head) (f:=f) (fun v s h=>by cases h) jw;have Dn:∀v s,dU b v=some s→isNamed (raw s)=true:=fun v s h=>zy hL.right hfit (hag v s h);have hwb:=CF (b:=b) hR.body Dn;obtain⟨R,hRR⟩:=Io (b:=b) Iu;obtain⟨f1,f2,f3,f4⟩:=hfit;have hget:∀v∈bQ env,dU (b++rest b env) v=dU env v:=fun v hv=>by
  rw[fJ];cases hg:dU b v with
  |some s=>exact(hag v s hg).symm
  |none=>exact Dy hg
 have hfa:∀a∈r.body,aV (eY b a) (rest b env)=aV a env:=fun a ha=>by
  rw[qH];refine lg fun t ht ht1=>hget _ ((f3 _).2 (fB.2 (dV hR a ha t ht ht1)))
 have Sk:kL (fun _=>all) (eH b r.body) (rest b env):=by
  refine⟨f1.filter _,?_,fun v=> ?_,jh.2 fun x hx=> ?_⟩
  ·exact(List.Sublist.map _ List.filter_sublist).nodup f2
  ·rw[Ir,f3]
   constructor
   ·rintro⟨hv,hg⟩;obtain⟨k,hk,rfl⟩:=List.mem_map.1 hv;exact fB.2 (wX.2 ⟨hk,hg⟩)
   ·intro hv;obtain⟨k,hk,rfl⟩:=List.mem_map.1 hv;obtain⟨h1,h2⟩:=wX.1 hk;exact⟨fB.2 h1,h2⟩
  ·obtain⟨a,ha,rfl⟩:=List.mem_map.1 hx;obtain⟨g,hg,hi⟩:=jh.1 f4 a ha;refine⟨g,by rw[hfa a ha];exact hg,?_⟩;show inB all g= !a.no;cases hno:a.no with
   |true=>
    have:=hneg a ha hno g hg;cases e:inB all g with
    |false=>rfl
    |true=>exact absurd (bH.1 e) this
   |false=>
    rw[hno] at hi;exact bH.2 (hsub g (bH.1 hi))
 have hmem:=(nS (sw hwb) hRR _).2 Sk;intro hnone;unfold byP at hnone;rw[hm] at hnone;dsimp only at hnone;rw[List.find?_eq_none] at hnone;refine hnone (fO (eH b r.body) (rest b env)) (List.mem_map.2 ⟨_,?_,rfl⟩) (List.all_eq_true.2 fun k hk=> ?_)
 ·unfold qW;rw[if_neg (by rw[NK _ hwb];simp),hRR];exact hmem
 ·unfold fO at hk;obtain⟨x,hx,he⟩:=List.mem_filterMap.1 hk;obtain⟨a,ha,rfl⟩:=List.mem_map.1 hx;obtain⟨g,hg,hi⟩:=jh.1 f4 a ha;rw[show(eY b a).no=a.no from rfl] at he;cases hno:a.no with
  |true=>rw[hno] at he;cases he
  |false=>
   rw[hno] at he hi;simp only[Bool.false_eq_true,if_false] at he;rw[hfa a ha,hg] at he;cases he;exact hi
structure PI (p:List aA) (told all:List au) (how:au→Int×List au):Prop where
 ok:∀f∈all,(inB told f=true∧how f=(-1,[]))∨∃(i:Nat) (r:aA) (of:List au),p[i]?=some r∧how f=((i:Int),of)∧EP all r f of=0∧∀k∈of,k∈all
theorem PK {p:List aA} (hp:dB p) {err:List aF→Int} (NK:∀b,err b=0↔aP b=0) {told:List au} {ps:List (List au)} (hs:Steps (Came p (bE told ps)) told ps) (Iu:∀r∈p,fG (fun _=>bE told ps) 0 r.body [[]]≠none):
  PI p told (bE told ps) (qX err p told (bE told ps) (told::ps)):=⟨fun f hf=>by
 by_cases ht:inB told f=true
 ·exact Or.inl ⟨ht,by unfold qX;rw[if_pos ht]⟩
 ·right
  have hn:f∉told:=fun hc=>ht (bH.2 hc);obtain⟨A,B,⟨g1,g2,g3⟩,h2,h3,h4,_,_⟩:=CB hs hf hn;obtain⟨r,hr,env,he,jw,hneg⟩:=g3 f h3 h2;have hby:byP err (bE told ps) ((told::ps).getD (iB (told::ps) f-1) []) r f≠none:=by
   rw[h4];exact Kh (fun b hb=>(NK b).2 hb) (hp.rules r hr) g1 g2 (Iu r hr) he jw hneg
  obtain⟨j,q,of,k1,k2,k3⟩:=qY (g:=fun r=>byP err (bE told ps) ((told::ps).getD (iB (told::ps) f-1) []) r f) p 0 ⟨r,hr,hby⟩;obtain⟨s1,s2⟩:=Iq (fun b hb=>(NK b).1 hb) (hp.rules q (List.mem_of_getElem? k1)) k2;refine⟨j,q,of,k1,?_,s1,fun k hk=> ?_⟩
  ·unfold qX;rw[if_neg ht,k3];simp
  ·have:=s2 k hk;rw[h4] at this;exact g2 k this⟩
def cnt:Nat→iR→Nat
 |0,_=>0
 |n+1,x=>1+(x.kids.map (cnt n)).sum
end Go.Proofs.YtafmbokfkbccaaaGreatDoor
