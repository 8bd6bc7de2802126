import Derived.Test.YtaallngooaaonaaGreatDoorJT7
set_option maxRecDepth 100000
namespace Go.Proofs.YtaallngooaaonaaGreatDoor
def aR (p:List aG) (ss:List Nat) (n:Int):Nat→List aA→Int×List (List aA)
 |0,_=>(0,[])
 |k+1,l=>if(bW p ss n l).1≠0 then((bW p ss n l).1,[]) else if(bW p ss n l).2.length=l.length then(0,[(bW p ss n l).2])
  else((aR p ss n k (bW p ss n l).2).1,(bW p ss n l).2::(aR p ss n k (bW p ss n l).2).2)
def bR (l:List aA) (ps:List (List aA)):List aA:=ps.getLast?.getD l
theorem gy (l m:List aA) (ps:List (List aA)):bR l (m::ps)=bR m ps:=by
 unfold bR;cases ps with
 |nil=>rfl
 |cons a ps=>rw[List.getLast?_cons_cons];rw[List.getLast?_cons];rfl
theorem gT (l:List aA) (ps qs:List (List aA)):bR l (ps++qs)=bR (bR l ps) qs:=by
 induction ps generalizing l with
 |nil=>rfl
 |cons a ps ih=>rw[List.cons_append,gy,gy,ih]
def bC (p:List aG) (ss:List Nat):Nat→Nat→List aA→Int×List (List aA)
 |0,_,_=>(0,[])
 |c+1,n,l=>if(aR p ss n 201 l).1≠0 then((aR p ss n 201 l).1,[])
  else((bC p ss c (n+1) (bR l (aR p ss n 201 l).2)).1,(aR p ss n 201 l).2++(bC p ss c (n+1) (bR l (aR p ss n 201 l).2)).2)
theorem tN (p:List aG) (ss:List Nat) (n:Int):∀(k:Nat) (l:List aA),(dM p ss n k l).1=(aR p ss n k l).1∧((aR p ss n k l).1=0→dM p ss n k l=(0,bR l (aR p ss n k l).2))
 |0,l=>⟨rfl,fun _=>rfl⟩
 |k+1,l=>by
  unfold dM aR
  by_cases h0:(bW p ss n l).1=0
  ·have h0':¬(bW p ss n l).1≠0:=fun h=>h h0;simp only[if_neg h0']
   by_cases h1:(bW p ss n l).2.length=l.length
   ·simp only[if_pos h1];exact⟨trivial,fun _=>rfl⟩
   simp only[if_neg h1];obtain⟨h2,h3⟩:=tN p ss n k (bW p ss n l).2;exact⟨h2,fun h=>by rw[h3 h,gy]⟩
  have h0':(bW p ss n l).1≠0:=h0;simp only[if_pos h0'];exact⟨trivial,fun h=>absurd h h0⟩
theorem r9 (p:List aG) (ss:List Nat):∀(c n:Nat) (l:List aA),(kJ p ss c n l).1=(bC p ss c n l).1∧((bC p ss c n l).1=0→kJ p ss c n l=(0,bR l (bC p ss c n l).2))
 |0,n,l=>⟨rfl,fun _=>rfl⟩
 |c+1,n,l=>by
  obtain⟨o1,o2⟩:=tN p ss n 201 l;unfold kJ bC
  by_cases h0:(aR p ss n 201 l).1=0
  ·have o3:=o2 h0;have h1:¬(dM p ss n 201 l).1≠0:=fun h=>h (o1.trans h0);have h2:¬(aR p ss n 201 l).1≠0:=fun h=>h h0;simp only[if_neg h1,if_neg h2];rw[o3];obtain⟨h2,h3⟩:=r9 p ss c (n+1) (bR l (aR p ss n 201 l).2);exact⟨h2,fun h=>by rw[h3 h,gT]⟩
  have h1:(dM p ss n 201 l).1≠0:=fun h=>h0 (o1.symm.trans h);have h2:(aR p ss n 201 l).1≠0:=h0;simp only[if_pos h1,if_pos h2];exact⟨o1,fun h=>absurd h h0⟩
def cO (b:List aD) (t:dK):dK:=if t.1 then(match dB b (bs t.2) with|some s=>(false,raw s)|none=>t) else t
def dV (b:List aD) (a:aI):aI:=⟨a.no,a.name,a.terms.map (cO b)⟩
def dR (b:List aD) (body:List aI):List aI:=body.map (dV b)
def cu (body:List aI) (l:List aD):List aA:=body.filterMap fun a=>if a.no then none else bg a l
def jZ (body:List aI) (all:List aA) (er:Int):List (List aD):=if er≠0 then[] else(lF (fun _=>all) body).getD []
def byP (err:List aI→Int) (all old:List aA) (r:aG) (f:aA):Option (List aA):=match cZ r.head f [] with
 |none=>none
 |some b=>((jZ (dR b r.body) all (err (dR b r.body))).map (cu (dR b r.body))).find? fun of=>of.all (inB old)
def dJ (ps:List (List aA)) (f:aA):Nat:=ps.findIdx fun l=>inB l f
def iw (g:aG→Option (List aA)):Nat→List aG→Int×List aA
 |_,[]=>(-1,[])
 |i,r::p=>match g r with
  |some of=>(i,of)
  |none=>iw g (i+1) p
def mQ (err:List aI→Int) (p:List aG) (told all:List aA) (ps:List (List aA)) (f:aA):Int×List aA:=
 if inB told f then(-1,[]) else iw (fun r=>byP err all (ps.getD (dJ ps f-1) []) r f) 0 p
def kL (g:aA→Nat×Nat→Option bG×(Nat×Nat)):List aA→Nat×Nat→Option (List bG)×(Nat×Nat)
 |[],s=>(some [],s)
 |f::fs,s=>match(g f s).1 with
  |none=>(none,(g f s).2)
  |some k=>match(kL g fs (g f s).2).1 with
   |none=>(none,(kL g fs (g f s).2).2)
   |some ks=>(some (k::ks),(kL g fs (g f s).2).2)
def bI (how:aA→Int×List aA):Nat→aA→Nat→Nat×Nat→Option bG×(Nat×Nat)
 |0,_,_,s=>(none,s)
 |n+1,f,d,s=>if ig (s.1+1,max s.2 d) then(none,(s.1+1,max s.2 d))
  else match(kL (fun g s=>bI how n g (d+1) s) (how f).2 (s.1+1,max s.2 d)).1 with
   |none=>(none,(kL (fun g s=>bI how n g (d+1) s) (how f).2 (s.1+1,max s.2 d)).2)
   |some ks=>(some (.mk f (how f).1 ks),(kL (fun g s=>bI how n g (d+1) s) (how f).2 (s.1+1,max s.2 d)).2)
theorem kr {α β:Type} {g h:α→Option β}:∀{l:List α},(∀x∈l,g x=h x)→l.filterMap g=l.filterMap h
 |[],_=>rfl
 |a::l,e=>by rw[List.filterMap_cons,List.filterMap_cons,e a (by simp),kr fun x hx=>e x (by simp[hx])]
theorem BS (b l:List aD) (t:dK):bE l (cO b t)=bE (b++l) t:=by
 unfold cO;obtain⟨v,n⟩:=t;cases v with
 |false=>simp[bE]
 |true=>
  simp only[if_true];unfold bE;rw[fE];cases dB b (bs n) with
  |none=>rfl
  |some s=>simp[iT]
theorem ny (b l:List aD):∀ts:List dK,aU l (ts.map (cO b))=aU (b++l) ts
 |[]=>rfl
 |t::ts=>by rw[List.map_cons];unfold aU;rw[BS,ny b l ts]
theorem qF (b l:List aD) (a:aI):bg (dV b a) l=bg a (b++l):=by unfold bg dV;rw[ny]
theorem mo {G:List aD}:∀(ts:List dK) (xs:List ByteArray) (c:List aD),(∀v s,dB c v=some s→dB G v=some s)→aU G ts=some xs→
  ∃m,dH c ts xs=some m∧∀v s,dB m v=some s→dB G v=some s
 |[],xs,c,h,_=>⟨c,rfl,h⟩
 |t::ts,xs,c,h,hf=>by
  unfold aU at hf;cases hw:bE G t with
  |none=>rw[hw] at hf;cases hf
  |some x=>
   rw[hw] at hf;dsimp only at hf;cases hr:aU G ts with
   |none=>rw[hr] at hf;cases hf
   |some r=>
    rw[hr] at hf;cases hf;unfold dH;cases hc:bE c t with
    |none=>
     refine mo ts r (c++[(bs t.2,x)]) (fun v s hv=>?_) hr;rw[fE] at hv;cases hg:dB c v with
     |some u=>rw[hg] at hv;cases hv;exact h v _ hg
     |none=>
      rw[hg] at hv;dsimp only at hv;unfold dB at hv;split at hv
      ·rename_i e;cases hv;dsimp only at e;subst e;unfold bE at hw hc;cases ht:t.1 with
       |true=>rw[ht] at hw;simpa using hw
       |false=>rw[ht] at hc;simp at hc
      cases hv
    |some s=>
     have e:s=x:=by
      unfold bE at hw hc;cases ht:t.1 with
      |true=>
       rw[ht] at hw hc;simp only[if_true] at hw hc;have:=h _ _ hc;rw[hw] at this;exact(Option.some.inj this).symm
      |false=>
       rw[ht] at hw hc;simp only[Bool.false_eq_true,if_false] at hw hc;exact Option.some.inj (hc.symm.trans hw)
     dsimp only;rw[if_pos e];exact mo ts r c h hr
theorem wV {G c:List aD} {a:aI} {f:aA} (h:∀v s,dB c v=some s→dB G v=some s) (hf:bg a G=some f):∃m,cZ a f c=some m∧∀v s,dB m v=some s→dB G v=some s:=by obtain⟨h1,h2⟩:=jM hf;obtain⟨m,hm,hm2⟩:=mo a.terms f.2 c h h2;exact⟨m,by unfold cZ;rw[if_pos ⟨h1.symm,(jX h2).symm⟩,hm],hm2⟩
theorem qG {G:List aD}:∀(body:List aI) (c:List aD),(∀v s,dB c v=some s→dB G v=some s)→(∀a∈body,∃k,bg a G=some k)→
  ∃b',fH body (body.filterMap fun a=>if a.no then none else bg a G) c=(0,b')∧∀v s,dB b' v=some s→dB G v=some s
 |[],c,h,_=>⟨c,rfl,h⟩
 |a::body,c,h,hf=>by
  obtain⟨k,hk⟩:=hf a (by simp);cases hno:a.no with
  |true=>
   have e:((a::body).filterMap fun a=>if a.no then none else bg a G)=body.filterMap fun a=>if a.no then none else bg a G:=List.filterMap_cons_none (by simp[hno]);rw[e];unfold fH;rw[if_pos hno];exact qG body c h fun x hx=>hf x (by simp[hx])
  |false=>
   have e:((a::body).filterMap fun a=>if a.no then none else bg a G)=k::body.filterMap fun a=>if a.no then none else bg a G:=List.filterMap_cons_some (by simp[hno,hk]);rw[e];obtain⟨m,hm,hm2⟩:=wV h hk;unfold fH;rw[if_neg (by simp[hno])];dsimp only;rw[hm];exact qG body m hm2 fun x hx=>hf x (by simp[hx])
theorem Ae (b l:List aD) (body:List aI):cu (dR b body) l=body.filterMap fun a=>if a.no then none else bg a (b++l):=by unfold cu dR;rw[List.filterMap_map];refine kr fun a _=>?_;show(if a.no then none else bg (dV b a) l)=_;rw[qF]
theorem Nk {all:List aA} {r:aG} {f:aA} {b l:List aD} (hR:o8 r) (hm:cZ r.head f []=some b) (hso:∀a∈r.body,∃g,bg a (b++l)=some g∧inB all g= !a.no):lQ all r f (cu (dR b r.body) l)=0:=by
 obtain⟨_,hk0,_⟩:=jd (K:=[]) rfl hm;obtain⟨b',hb',hag⟩:=qG (G:=b++l) r.body b (fun v s h=>by rw[fE,h]) fun a ha=>by obtain⟨g,hg,_⟩:=hso a ha;exact⟨g,hg⟩
 rw[←Ae] at hb';obtain⟨_,hkb,_⟩:=tL hk0 hb';unfold lQ;rw[hm];dsimp only;rw[hb'];dsimp only;rw[if_neg (by simp)];refine Nj fun a ha hno=>?_;obtain⟨g,hg,hi⟩:=hso a ha;refine⟨g,?_,by rw[hi,hno];rfl⟩;rw[←hg];refine kV fun t ht ht1=>?_;have hc:=fA hR a ha t ht ht1;have hkey:bs t.2∈bJ b':=by
  rw[hkb];refine eZ.2 ((gN r.body).2 (Or.inr ?_));rcases(gN r.body).1 hc with h1|h1
  ·cases h1
  exact h1
 obtain⟨s,hs⟩:=kU hkey;rw[hs,hag _ _ hs]
def rest (b l:List aD):List aD:=l.filter fun x=>(dB b x.1).isNone
def agree (b l:List aD):Bool:=l.all fun x=>match dB b x.1 with|none=>true|some s=>decide (s=x.2)
theorem Dn {b l:List aD} {v:ByteArray} (h:dB b v=none):dB (rest b l) v=dB l v:=by
 unfold rest
 induction l with
 |nil=>rfl
 |cons x l ih=>
  rw[List.filter_cons]
  by_cases e:x.1=v
  ·have:(dB b x.1).isNone=true:=by rw[e,h];rfl
   rw[if_pos this];simp[dB,e]
  cases hx:(dB b x.1).isNone with
  |true=>rw[if_pos rfl];simp only[dB,if_neg e,ih]
  |false=>rw[if_neg (by simp)];simp only[dB,if_neg e,ih]
theorem Hf {b l:List aD} (h:agree b l=true) {v s u:ByteArray} (hb:dB b v=some s) (hl:dB l v=some u):u=s:=by have:=List.all_eq_true.1 h _ (mO hl);dsimp only at this;rw[hb] at this;exact(of_decide_eq_true this).symm
theorem mq {b l:List aD} {x:aD}:agree b (l++[x])=(agree b l&&(match dB b x.1 with|none=>true|some s=>decide (s=x.2))):=by unfold agree;rw[List.all_append];simp
theorem mR:∀(ts:List dK) (xs:List ByteArray) (l m:List aD),dH l ts xs=some m→∃r,m=l++r
 |[],_,l,m,h=>⟨[],by cases h;simp⟩
 |_::_,[],l,m,h=>by cases h
 |t::ts,x::xs,l,m,h=>by
  unfold dH at h;split at h;·obtain⟨r,e⟩:=mR ts xs _ m h;exact⟨(bs t.2,x)::r,by rw[e];simp⟩
  split at h;·exact mR ts xs l m h
  cases h
theorem Af {b l m:List aD} (h:agree b l=false) (e:∃r,m=l++r):agree b m=false:=by obtain⟨r,rfl⟩:=e;unfold agree at*;rw[List.all_append,h];rfl
def pass (b:List aD):Option (List aD)→Option (List aD)
 |none=>none
 |some m=>if agree b m then some (rest b m) else none
theorem Hg {b:List aD} {o:Option (List aD)} (h:∀m,o=some m→agree b m=false):pass b o=none:=by
 cases o with
 |none=>rfl
 |some m=>
  show(if agree b m=true then some (rest b m) else none)=none;rw[if_neg (by rw[h m rfl];simp)]
theorem iF (b:List aD):∀(ts:List dK) (xs:List ByteArray) (l:List aD),agree b l=true→dH (rest b l) (ts.map (cO b)) xs=pass b (dH l ts xs)
 |[],xs,l,h=>by show some (rest b l)=(if agree b l=true then some (rest b l) else none);rw[if_pos h]
 |t::ts,[],l,h=>rfl
 |t::ts,x::xs,l,h=>by
  rw[List.map_cons];unfold dH;obtain⟨v,n⟩:=t;cases v with
  |false=>
   have e1:cO b (false,n)=(false,n):=by simp[cO]
   have e2:∀q:List aD,bE q (false,n)=some (bs n):=fun q=>by simp[bE]
   rw[e1,e2,e2];dsimp only
   by_cases hx:bs n=x
   ·rw[if_pos hx,if_pos hx];exact iF b ts xs l h
   rw[if_neg hx,if_neg hx];rfl
  |true=>
   cases hb:dB b (bs n) with
   |some s=>
    have e1:cO b (true,n)=(false,raw s):=by simp[cO,hb]
    have e2:∀q:List aD,bE q (false,raw s)=some s:=fun q=>by simp[bE,iT]
    have e3:∀q:List aD,bE q (true,n)=dB q (bs n):=fun q=>by simp[bE]
    rw[e1,e2,e3];dsimp only;cases hl:dB l (bs n) with
    |some u=>
     have:=Hf h hb hl;subst this;dsimp only
     by_cases hx:u=x
     ·rw[if_pos hx,if_pos hx];exact iF b ts xs l h
     rw[if_neg hx,if_neg hx];rfl
    |none=>
     dsimp only
     by_cases hx:s=x
     ·subst hx;rw[if_pos rfl];have h2:agree b (l++[(bs n,s)])=true:=by rw[mq,h];simp[hb]
      have h3:rest b (l++[(bs n,s)])=rest b l:=by unfold rest;rw[List.filter_append];simp[hb]
      rw[←h3];exact iF b ts xs _ h2
     rw[if_neg hx];have h2:agree b (l++[(bs n,x)])=false:=by rw[mq,h];simp[hb,hx]
     exact(Hg fun m hm=>Af h2 (mR _ _ _ _ hm)).symm
   |none=>
    have e1:cO b (true,n)=(true,n):=by simp[cO,hb]
    have e3:∀q:List aD,bE q (true,n)=dB q (bs n):=fun q=>by simp[bE]
    rw[e1,e3,e3,Dn hb];cases hl:dB l (bs n) with
    |some u=>
     dsimp only
     by_cases hx:u=x
     ·rw[if_pos hx,if_pos hx];exact iF b ts xs l h
     rw[if_neg hx,if_neg hx];rfl
    |none=>
     dsimp only;have h2:agree b (l++[(bs n,x)])=true:=by rw[mq,h];simp[hb]
     have h3:rest b (l++[(bs n,x)])=rest b l++[(bs n,x)]:=by unfold rest;rw[List.filter_append];simp[hb]
     rw[←h3];exact iF b ts xs _ h2
theorem BU (b:List aD) {a:aI} {f:aA} {l:List aD} (h:agree b l=true):cZ (dV b a) f (rest b l)=pass b (cZ a f l):=by
 unfold cZ dV;dsimp only;rw[List.length_map];split;·exact iF b a.terms f.2 l h
 rfl
def passes (b:List aD) (ls:List (List aD)):List (List aD):=(ls.filter (agree b)).map (rest b)
theorem rU (b:List aD) (fs:List aA) (g:aA→Option (List aD)):passes b (fs.filterMap g)=fs.filterMap fun f=>pass b (g f):=by
 unfold passes
 induction fs with
 |nil=>rfl
 |cons f fs ih=>
  cases hg:g f with
  |none=>rw[List.filterMap_cons_none hg,List.filterMap_cons_none (by simp[hg,pass])];exact ih
  |some m=>
   rw[List.filterMap_cons_some hg,List.filter_cons];cases ha:agree b m with
   |true=>rw[if_pos rfl,List.map_cons,List.filterMap_cons_some (b:=rest b m) (by simp[hg,pass,ha]),ih]
   |false=>rw[if_neg (by simp),List.filterMap_cons_none (by simp[hg,pass,ha]),ih]
theorem pq (b:List aD) (a:aI) (fs:List aA):∀ls:List (List aD),aQ (dV b a) fs (passes b ls)=passes b (aQ a fs ls)
 |[]=>rfl
 |l::ls=>by
  have ih:=pq b a fs ls;unfold aQ at ih⊢;have e:passes b ((l::ls).flatMap fun l=>fs.filterMap fun f=>cZ a f l)=passes b (fs.filterMap fun f=>cZ a f l)++passes b (ls.flatMap fun l=>fs.filterMap fun f=>cZ a f l):=by rw[List.flatMap_cons];unfold passes;rw[List.filter_append,List.map_append]
  rw[e,←ih,rU];cases ha:agree b l with
  |true=>
   have e2:passes b (l::ls)=rest b l::passes b ls:=by unfold passes;rw[List.filter_cons,if_pos ha,List.map_cons]
   rw[e2,List.flatMap_cons]
   congr 1
   exact kr fun f _=>BU b ha
  |false=>
   have e2:passes b (l::ls)=passes b ls:=by unfold passes;rw[List.filter_cons,if_neg (by simp[ha])]
   rw[e2];have e3:(fs.filterMap fun f=>pass b (cZ a f l))=[]:=by
    rw[List.filterMap_eq_nil_iff];intro f _;refine Hg fun m hm=>Af ha ?_;unfold cZ at hm;split at hm;·exact mR _ _ _ _ hm
    cases hm
   rw[e3,List.nil_append]
theorem tO (b:List aD) (fs:List aA):∀(body:List aI) (n:Nat) (ls ms:List (List aD)),dF (fun _=>fs) n body ls=some ms→dF (fun _=>fs) n (dR b body) (passes b ls)=some (passes b ms)
 |[],n,ls,ms,h=>by cases h;rfl
 |a::body,n,ls,ms,h=>by
  show dF _ n (dV b a::dR b body) _=_;unfold dF at h⊢;rw[show(dV b a).no=a.no from rfl];cases hno:a.no with
  |true=>
   rw[hno] at h;simp only[if_true] at h⊢;exact tO b fs body (n+1) ls ms h
  |false=>
   rw[hno] at h;simp only[Bool.false_eq_true,if_false] at h⊢;split at h;·cases h
   rename_i hlen;have hle:(passes b (aQ a fs ls)).length≤(aQ a fs ls).length:=by unfold passes;rw[List.length_map];exact List.length_filter_le _ _
   rw[pq,if_neg (by omega)];exact tO b fs body (n+1) _ ms h
theorem Hl {b:List aD} {fs:List aA} {body:List aI} (h:dF (fun _=>fs) 0 body [[]]≠none):∃R,lF (fun _=>fs) (dR b body)=some R:=by
 cases e:dF (fun _=>fs) 0 body [[]] with
 |none=>exact absurd e h
 |some ms=>
  have:=tO b fs body 0 [[]] ms e;have e2:passes b [[]]=[[]]:=rfl;rw[e2] at this;unfold lF;rw[this];exact⟨_,rfl⟩
def Steps (Q:List aA→List aA→Prop):List aA→List (List aA)→Prop
 |_,[]=>True
 |L,M::ps=>Q L M∧Steps Q M ps
theorem Steps.append {Q:List aA→List aA→Prop}:∀{ps qs:List (List aA)} {L:List aA},Steps Q L ps→Steps Q (bR L ps) qs→Steps Q L (ps++qs)
 |[],_,_,_,h=>h
 |M::ps,qs,L,h,h2=>⟨h.1,Steps.append h.2 (by rw[gy] at h2;exact h2)⟩
theorem EO {r:aG} (hR:o8 r) {L x:List aA} (h:gq r L=some x) {f:aA} (hf:f∈x):f.1=bs r.head.name:=by obtain⟨env,_,he⟩:=(kK (fA hR) h f).1 hf;exact(jM he).1
theorem jN {p:List aG} (hp:dP p) (σ:aG→Nat) {n:Int}:∀(k:Nat) {L:List aA} {ps:List (List aA)},GoodS p L→aR p (p.map σ) n k L=(0,ps)→200<L.length+k→
  GoodS p (bR L ps)∧(∀f∈L,f∈bR L ps)∧(∀f∈bR L ps,f∉L→∃r∈p,(σ r:Int)=n∧f.1=bs r.head.name)∧bW p (p.map σ) n (bR L ps)=(0,bR L ps)
 |0,L,ps,hL,_,hk=>by have:=hL.few;omega
 |k+1,L,ps,hL,h,hk=>by
  unfold aR at h;obtain⟨e,x,hx⟩:∃e x,bW p (p.map σ) n L=(e,x):=⟨_,_,rfl⟩;rw[hx] at h;dsimp only at h;split at h;·rename_i he;simp at h;exact absurd h.1 he
  rename_i he;have he:e=0:=by simpa using he
  subst he;obtain⟨g1,g2⟩:=jl hp σ hL hx;obtain⟨_,_,o3,_,_⟩:=jk σ hx;have hnew:∀f∈x,f∉L→∃r∈p,(σ r:Int)=n∧f.1=bs r.head.name:=fun f hf hn=>by
   rcases o3 f hf with h1|⟨r,hr,h1,y,hy,hfy⟩;·exact absurd h1 hn
   exact⟨r,hr,h1,EO (hp.rules r hr) hy hfy⟩
  split at h;·rename_i hlen;have e:L=x:=G6 hL.up g1.up g2 (by omega);simp at h;subst h;rw[gy];show GoodS p x∧(∀f∈L,f∈x)∧(∀f∈x,f∉L→_)∧bW p (p.map σ) n x=(0,x);exact⟨g1,g2,hnew,by rw[←e] at hx⊢;exact hx⟩
  rename_i hlen;have hle:=EN hL.up g2;obtain⟨e2,qs,hq⟩:∃e qs,aR p (p.map σ) n k x=(e,qs):=⟨_,_,rfl⟩;rw[hq] at h;simp only[Prod.mk.injEq] at h;obtain⟨rfl,rfl⟩:=h;obtain⟨a1,a2,a3,a4⟩:=jN hp σ k g1 hq (by omega);rw[gy];refine⟨a1,fun f hf=>a2 f (g2 f hf),fun f hf hn=>?_,a4⟩
  by_cases hfx:f∈x
  ·exact hnew f hfx hn
  exact a3 f hf hfx
theorem sj {p:List aG} (hp:dP p) (σ:aG→Nat):∀(c n:Nat) {L:List aA} {ps:List (List aA)},GoodS p L→bC p (p.map σ) c n L=(0,ps)→
  GoodS p (bR L ps)∧(∀f∈L,f∈bR L ps)∧∀f∈bR L ps,f∉L→∃r∈p,n≤σ r∧f.1=bs r.head.name
 |0,n,L,ps,hL,h=>by simp only[bC,Prod.mk.injEq,true_and] at h;subst h;exact⟨hL,fun _ h=>h,fun f hf hn=>absurd hf hn⟩
 |c+1,n,L,ps,hL,h=>by
  unfold bC at h;obtain⟨e,os,ho⟩:∃e os,aR p (p.map σ) n 201 L=(e,os):=⟨_,_,rfl⟩;rw[ho] at h;dsimp only at h;split at h;·rename_i he;simp at h;exact absurd h.1 he
  rename_i he;have he:e=0:=by simpa using he
  subst he;obtain⟨e2,rs,hr⟩:∃e qs,bC p (p.map σ) c (n+1) (bR L os)=(e,qs):=⟨_,_,rfl⟩;rw[hr] at h;simp only[Prod.mk.injEq] at h;obtain⟨rfl,rfl⟩:=h;obtain⟨a1,a2,a3,_⟩:=jN hp σ 201 hL ho (by omega);obtain⟨b1,b2,b3⟩:=sj hp σ c (n+1) a1 hr;rw[gT];refine⟨b1,fun f hf=>b2 f (a2 f hf),fun f hf hn=>?_⟩
  by_cases hm:f∈bR L os
  ·obtain⟨r,hr,e,hname⟩:=a3 f hm hn;exact⟨r,hr,by omega,hname⟩
  obtain⟨r,hr,e,hname⟩:=b3 f hf hm;exact⟨r,hr,by omega,hname⟩
def Came (p:List aG) (all L M:List aA):Prop:=GoodS p L∧(∀f∈L,f∈all)∧
 ∀f∈M,f∉L→∃r∈p,∃env,oO (fun _=>L) r.body env∧bg r.head env=some f∧∀a∈r.body,a.no=true→∀g,bg a env=some g→g∉all
theorem Ag {p:List aG} (hp:dP p) {τ:Bs→Nat} (hτ:Sol p τ) {n:Nat} {all:List aA}:∀(k:Nat) {L:List aA} {ps:List (List aA)},GoodS p L→aR p (p.map fun r=>τ r.head.name) n k L=(0,ps)→200<L.length+k→
  (∀f∈bR L ps,f∈all)→(∀f∈all,f∉L→∃r∈p,n≤τ r.head.name∧f.1=bs r.head.name)→Steps (Came p all) L ps
 |0,L,ps,hL,_,hk,_,_=>by have:=hL.few;omega
 |k+1,L,ps,hL,h,hk,hsub,hall=>by
  have Ta:∀f∈L,f∈all:=fun f hf=>hsub f ((jN hp _ (k+1) hL h hk).2.1 f hf);unfold aR at h;obtain⟨e,x,hx⟩:∃e x,bW p (p.map fun r=>τ r.head.name) n L=(e,x):=⟨_,_,rfl⟩;rw[hx] at h;dsimp only at h;split at h;·rename_i he;simp at h;exact absurd h.1 he
  rename_i he;have he:e=0:=by simpa using he
  subst he;obtain⟨g1,g2⟩:=jl hp (fun r=>τ r.head.name) hL hx;obtain⟨_,_,o3,_,_⟩:=jk (fun r=>τ r.head.name) hx;have PY:Came p all L x:=⟨hL,Ta,fun f hf hn=>by
   rcases o3 f hf with h1|⟨r,hr,hrn,y,hy,hfy⟩;·exact absurd h1 hn
   obtain⟨env,he,jr⟩:=(kK (fA (hp.rules r hr)) hy f).1 hfy;refine⟨r,hr,env,he,jr,fun a ha hno g hg hga=>?_⟩;obtain⟨g',hg',hi⟩:=iK.1 he.2.2.2 a ha;rw[hg] at hg';cases hg';rw[hno] at hi;have hgl:g∉L:=fun hc=>by rw[dn.2 hc] at hi;cases hi
   obtain⟨q,hq,hqn,Ho⟩:=hall g hga hgl;have e1:a.name=q.head.name:=mZ ((jM hg).1.symm.trans Ho);have h2:=hτ r hr a ha ⟨q,hq,e1.symm⟩;have h3:step a=1:=by unfold step;rw[if_pos hno]
   have h4:τ r.head.name=n:=by exact_mod_cast hrn
   rw[e1,h3,h4] at h2;omega⟩
  split at h;·simp at h;subst h;exact⟨PY,trivial⟩
  rename_i hlen;have hle:=EN hL.up g2;obtain⟨e2,qs,hq⟩:∃e qs,aR p (p.map fun r=>τ r.head.name) n k x=(e,qs):=⟨_,_,rfl⟩;rw[hq] at h;simp only[Prod.mk.injEq] at h;obtain⟨rfl,rfl⟩:=h;rw[gy] at hsub;exact⟨PY,Ag hp hτ k g1 hq (by omega) hsub fun f hf hn=>hall f hf fun hc=>hn (g2 f hc)⟩
theorem Dp {p:List aG} (hp:dP p) {τ:Bs→Nat} (hτ:Sol p τ):∀(c n:Nat) {L:List aA} {ps:List (List aA)},GoodS p L→bC p (p.map fun r=>τ r.head.name) c n L=(0,ps)→Steps (Came p (bR L ps)) L ps
 |0,n,L,ps,hL,h=>by
  simp only[bC,Prod.mk.injEq,true_and] at h;subst h
  trivial
 |c+1,n,L,ps,hL,h=>by
  have hg:=sj hp _ (c+1) n hL h;unfold bC at h;obtain⟨e,os,ho⟩:∃e os,aR p (p.map fun r=>τ r.head.name) n 201 L=(e,os):=⟨_,_,rfl⟩;rw[ho] at h;dsimp only at h;split at h;·rename_i he;simp at h;exact absurd h.1 he
  rename_i he;have he:e=0:=by simpa using he
  subst he;obtain⟨e2,rs,hr⟩:∃e qs,bC p (p.map fun r=>τ r.head.name) c (n+1) (bR L os)=(e,qs):=⟨_,_,rfl⟩;rw[hr] at h;simp only[Prod.mk.injEq] at h;obtain⟨rfl,rfl⟩:=h;obtain⟨a1,a2,a3,_⟩:=jN hp _ 201 hL ho (by omega);obtain⟨b1,b2,b3⟩:=sj hp _ c (n+1) a1 hr;have ih:=Dp hp hτ c (n+1) a1 hr;rw[gT] at hg⊢;exact Steps.append (Ag hp hτ 201 hL ho (by omega) b2 fun f hf hn=>hg.2.2 f hf hn) ih
theorem filterMap_filter {α β:Type} {g:α→Option β} {P:α→Bool}:∀{l:List α},(∀x∈l,P x=false→g x=none)→l.filterMap g=(l.filter P).filterMap g
 |[],_=>rfl
 |a::l,h=>by
  have ih:=filterMap_filter (g:=g) (P:=P) (l:=l) fun x hx=>h x (by simp[hx]);rw[List.filter_cons];cases hp:P a with
  |true=>rw[if_pos rfl,List.filterMap_cons,List.filterMap_cons,ih]
  |false=>rw[if_neg (by simp),List.filterMap_cons_none (h a (by simp) hp),ih]
theorem yJ {a:aI} {fs gs:List aA} (h:(fs.filter fun f=>decide (f.1=bs a.name))=gs.filter fun f=>decide (f.1=bs a.name)) (ls:List (List aD)):aQ a fs ls=aQ a gs ls:=by
 unfold aQ;have key:∀(l:List aD) (q:List aA),(q.filterMap fun f=>cZ a f l)=((q.filter fun f=>decide (f.1=bs a.name)).filterMap fun f=>cZ a f l):=fun l q=>
  filterMap_filter fun x _ hx=>by unfold cZ;rw[if_neg];rintro⟨e,_⟩;rw[decide_eq_false_iff_not] at hx;exact hx e.symm
 have e:(fun l=>fs.filterMap fun f=>cZ a f l)=fun l=>gs.filterMap fun f=>cZ a f l:=by
  funext l
  rw[key l fs,key l gs,h]
 rw[e]
theorem tQ {fs gs:List aA}:∀(body:List aI) (n:Nat) (ls:List (List aD)),(∀a∈body,(fs.filter fun f=>decide (f.1=bs a.name))=gs.filter fun f=>decide (f.1=bs a.name))→dF (fun _=>fs) n body ls=dF (fun _=>gs) n body ls
 |[],_,_,_=>rfl
 |a::body,n,ls,h=>by unfold dF;rw[yJ (h a (by simp)),tQ body _ _ fun x hx=>h x (by simp[hx]),tQ body _ _ fun x hx=>h x (by simp[hx])]
theorem Dq {p:List aG} (hp:dP p) {τ:Bs→Nat} (hτ:Sol p τ):∀(c n:Nat) {L:List aA} {ps:List (List aA)},GoodS p L→bC p (p.map fun r=>τ r.head.name) c n L=(0,ps)→
  ∀r∈p,n≤τ r.head.name→τ r.head.name<n+c→dF (fun _=>bR L ps) 0 r.body [[]]≠none
 |0,n,L,ps,_,_,r,_,h1,h2=>by omega
 |c+1,n,L,ps,hL,h,r,hr,h1,h2=>by
  unfold bC at h;obtain⟨e,os,ho⟩:∃e os,aR p (p.map fun r=>τ r.head.name) n 201 L=(e,os):=⟨_,_,rfl⟩;rw[ho] at h;dsimp only at h;split at h;·rename_i he;simp at h;exact absurd h.1 he
  rename_i he;have he:e=0:=by simpa using he
  subst he;obtain⟨e2,rs,hrs⟩:∃e qs,bC p (p.map fun r=>τ r.head.name) c (n+1) (bR L os)=(e,qs):=⟨_,_,rfl⟩;rw[hrs] at h;simp only[Prod.mk.injEq] at h;obtain⟨rfl,rfl⟩:=h;obtain⟨a1,a2,a3,a4⟩:=jN hp _ 201 hL ho (by omega);rw[gT]
  by_cases hn:τ r.head.name=n
  ·obtain⟨b1,b2,b3⟩:=sj hp _ c (n+1) a1 hrs;have hsame:∀a∈r.body,((bR (bR L os) rs).filter fun f=>decide (f.1=bs a.name))=(bR L os).filter fun f=>decide (f.1=bs a.name):=fun a ha=>by
    refine Dk (b1.up.filter _) (a1.up.filter _) fun f=>?_;rw[List.mem_filter,List.mem_filter]
    constructor
    ·rintro⟨hf,hname⟩;refine⟨Classical.byContradiction fun hno=>?_,hname⟩;obtain⟨q,hq,hqn,Ho⟩:=b3 f hf hno;have e1:a.name=q.head.name:=mZ ((of_decide_eq_true hname).symm.trans Ho);have h3:=hτ r hr a ha ⟨q,hq,e1.symm⟩;rw[e1,hn] at h3;omega
    rintro⟨hf,hname⟩;exact⟨b2 f hf,hname⟩
   rw[tQ r.body 0 [[]] hsame];obtain⟨o1,_⟩:=jk (fun r=>τ r.head.name) a4;obtain⟨x,hx,_⟩:=o1 r hr (by exact_mod_cast hn);intro hnone;unfold gq lF at hx;rw[hnone] at hx;cases hx
  exact Dq hp hτ c (n+1) a1 hrs r hr (by omega) (by omega)
theorem BX {Q:List aA→List aA→Prop} {f:aA}:∀{ps:List (List aA)} {L:List aA},Steps Q L ps→f∈bR L ps→f∉L→
  ∃A B,Q A B∧f∉A∧f∈B∧(L::ps).getD (dJ (L::ps) f-1) []=A∧1≤dJ (L::ps) f∧dJ (L::ps) f<(L::ps).length
 |[],L,_,h,hn=>absurd h hn
 |M::ps,L,hs,h,hn=>by
  rw[gy] at h;have hL:inB L f=false:=by
   cases e:inB L f with
   |false=>rfl
   |true=>exact absurd (dn.1 e) hn
  have e1:dJ (L::M::ps) f=dJ (M::ps) f+1:=by
   unfold dJ;rw[List.findIdx_cons,hL]
   rfl
  by_cases hM:f∈M
  ·have e2:dJ (M::ps) f=0:=by
    unfold dJ;rw[List.findIdx_cons,dn.2 hM]
    rfl
   rw[e1,e2];exact⟨L,M,hs.1,hn,hM,rfl,by omega,by simp⟩
  obtain⟨A,B,h1,h2,h3,h4,h5,h6⟩:=BX hs.2 h hM;rw[e1];refine⟨A,B,h1,h2,h3,?_,by omega,by simp only[List.length_cons] at h6⊢;omega⟩;rw[show dJ (M::ps) f+1-1=(dJ (M::ps) f-1)+1 by omega,List.getD_cons_succ];exact h4
theorem ru {g:aG→Option (List aA)}:∀(p:List aG) (i:Nat),(∃r∈p,g r≠none)→∃j r of,p[j]?=some r∧g r=some of∧iw g i p=(((i+j:Nat):Int),of)
 |[],_,h=>by obtain⟨r,hr,_⟩:=h;cases hr
 |r::p,i,h=>by
  unfold iw;cases hg:g r with
  |some of=>exact⟨0,r,of,rfl,hg,rfl⟩
  |none=>
   obtain⟨q,hq,hne⟩:=h;have hq':q∈p:=by
    rcases List.mem_cons.1 hq with rfl|hq;·exact absurd hg hne
    exact hq
   obtain⟨j,s,of,h1,h2,h3⟩:=ru p (i+1) ⟨q,hq',hne⟩;exact⟨j+1,s,of,by simpa using h1,h2,by dsimp only;rw[h3];congr 2;omega⟩
theorem Hq {err:List aI→Int} (Pf:∀b,err b=0→aL b=0) {all old:List aA} {r:aG} (hR:o8 r) {f:aA} {of:List aA} (h:byP err all old r f=some of):lQ all r f of=0∧∀k∈of,k∈old:=by
 unfold byP at h;cases hm:cZ r.head f [] with
 |none=>rw[hm] at h;cases h
 |some b=>
  rw[hm] at h;dsimp only at h;have h1:=List.find?_some h;have h2:=List.mem_of_find?_eq_some h;obtain⟨l,hl,rfl⟩:=List.mem_map.1 h2;refine⟨?_,fun k hk=>dn.1 (List.all_eq_true.1 h1 k hk)⟩;unfold jZ at hl;split at hl;·cases hl
  rename_i he;have he:=Classical.not_not.1 he;cases hR':lF (fun _=>all) (dR b r.body) with
  |none=>rw[hR'] at hl;cases hl
  |some R=>
   rw[hR'] at hl;have hfit:=(qA (kH (Pf _ he)) hR' l).1 hl;refine Nk hR hm fun a ha=>?_;obtain⟨g,hg,hi⟩:=iK.1 hfit.2.2.2 (dV b a) (List.mem_map.2 ⟨a,ha,rfl⟩);exact⟨g,by rw[←qF];exact hg,hi⟩
theorem pz {b:List aD} {a:aI} {k:Bs}:(∃t∈(dV b a).terms,t.1=true∧t.2=k)↔(∃t∈a.terms,t.1=true∧t.2=k)∧dB b (bs k)=none:=by
 constructor
 ·rintro⟨t,ht,h1,h2⟩;obtain⟨u,hu,rfl⟩:=List.mem_map.1 ht;unfold cO at h1 h2;cases hu1:u.1 with
  |false=>rw[hu1] at h1;simp at h1;rw[hu1] at h1;cases h1
  |true=>
   rw[hu1] at h1 h2;simp only[if_true] at h1 h2;cases hg:dB b (bs u.2) with
   |some s=>rw[hg] at h1;cases h1
   |none=>
    rw[hg] at h2;dsimp only at h2;exact⟨⟨u,hu,hu1,h2⟩,by rw[←h2];exact hg⟩
 rintro⟨⟨u,hu,h1,h2⟩,hg⟩;refine⟨u,List.mem_map.2 ⟨u,hu,?_⟩,h1,h2⟩;unfold cO;rw[h1,if_pos rfl,h2,hg]
theorem wW {b:List aD} {body:List aI} {k:Bs}:k∈fF [] (dR b body)↔k∈fF [] body∧dB b (bs k)=none:=by
 rw[gN,gN]
 constructor
 ·rintro(h|⟨a,ha,hno,h⟩);·cases h
  obtain⟨c,hc,rfl⟩:=List.mem_map.1 ha;obtain⟨h1,h2⟩:=pz.1 h;exact⟨Or.inr ⟨c,hc,hno,h1⟩,h2⟩
 rintro⟨h|⟨a,ha,hno,h⟩,hg⟩;·cases h
 exact Or.inr ⟨dV b a,List.mem_map.2 ⟨a,ha,rfl⟩,hno,pz.2 ⟨h,hg⟩⟩
theorem iL:∀{l:List aI},bH l=0↔∀a∈l,aP a=0
 |[]=>by simp[bH]
 |a::l=>by
  unfold bH
  constructor
  ·intro h;split at h
   ·rename_i h0;intro x hx;rcases List.mem_cons.1 hx with rfl|hx
    ·exact h0
    exact iL.1 h x hx
   rename_i h0;exact absurd h h0
  intro h;rw[if_pos (h a (by simp))];exact iL.2 fun x hx=>h x (by simp[hx])
theorem tT {b:List aD} {body:List aI} (h:aL body=0) (hb:∀v s,dB b v=some s→isNamed (raw s)=true):aL (dR b body)=0:=by
 unfold aL at h⊢;have el:(dR b body).length=body.length:=List.length_map _;rw[el];split at h;·cases h
 rename_i h5;rw[if_neg h5];split at h
 ·rename_i h0;split at h
  ·rename_i hv;have ha:bH (dR b body)=0:=iL.2 fun x hx=>by
    obtain⟨a,ha,rfl⟩:=List.mem_map.1 hx;obtain⟨h1,h2,h3⟩:=gQ (iL.1 h0 a ha);unfold aP;rw[if_neg (by show¬isNamed a.name=false;rw[h1];simp),if_neg (by show¬4<(a.terms.map (cO b)).length;rw[List.length_map];omega),if_neg];intro hc;obtain⟨t,ht,hw⟩:=List.any_eq_true.1 hc;obtain⟨u,hu,rfl⟩:=List.mem_map.1 ht;have hwu:=h3 u hu;unfold cO at hw;split at hw
    ·split at hw;·rename_i s hs;unfold aZ at hw;simp[hb _ s hs] at hw
     rw[hwu] at hw;cases hw
    rw[hwu] at hw;cases hw
   rw[if_pos ha,if_pos];refine List.all_eq_true.2 fun x hx=>?_;obtain⟨a,ha,rfl⟩:=List.mem_map.1 hx;refine List.all_eq_true.2 fun k hk=>?_;have hk':∃t∈(dV b a).terms,t.1=true∧t.2=k:=by
    rcases(iD _).1 hk with h1|h1;·cases h1
    exact h1
   obtain⟨h1,h2⟩:=pz.1 hk';have h3:k∈vars a:=(iD _).2 (Or.inr h1);have h4:=List.all_eq_true.1 (List.all_eq_true.1 hv a ha) k h3;unfold givenBy at h4⊢;obtain⟨c,hc,h5⟩:=List.any_eq_true.1 h4;simp only[Bool.and_eq_true,Bool.not_eq_true'] at h5;have h6:k∈vars c:=by simpa using h5.2
   refine List.any_eq_true.2 ⟨dV b c,List.mem_map.2 ⟨c,hc,rfl⟩,?_⟩;simp only[Bool.and_eq_true,Bool.not_eq_true'];refine⟨h5.1,?_⟩;have h7:k∈vars (dV b c):=by
    refine(iD _).2 (Or.inr (pz.2 ⟨?_,h2⟩));rcases(iD _).1 h6 with h8|h8
    ·cases h8
    exact h8
   simpa using h7
  cases h
 rename_i h0;exact absurd h h0
theorem Hr {b l:List aD} {v:ByteArray}:v∈bJ (rest b l)↔v∈bJ l∧dB b v=none:=by
 unfold bJ rest
 constructor
 ·intro h;obtain⟨x,hx,rfl⟩:=List.mem_map.1 h;obtain⟨h1,h2⟩:=List.mem_filter.1 hx;exact⟨List.mem_map.2 ⟨x,h1,rfl⟩,by simpa using h2⟩
 rintro⟨h,hg⟩;obtain⟨x,hx,rfl⟩:=List.mem_map.1 h;exact List.mem_map.2 ⟨x,List.mem_filter.2 ⟨hx,by rw[hg];rfl⟩,rfl⟩
theorem KF {p:List aG} {err:List aI→Int} (Pf:∀b,aL b=0→err b=0) {all L:List aA} {r:aG} (hR:o8 r) (hL:GoodS p L) (hsub:∀f∈L,f∈all) (Ht:dF (fun _=>all) 0 r.body [[]]≠none)
  {f:aA} {env:List aD} (hfit:oO (fun _=>L) r.body env) (jr:bg r.head env=some f) (hneg:∀a∈r.body,a.no=true→∀g,bg a env=some g→g∉all):byP err all L r f≠none:=by
 obtain⟨b,hm,hag⟩:=wV (G:=env) (c:=[]) (a:=r.head) (f:=f) (fun v s h=>by cases h) jr;have Dr:∀v s,dB b v=some s→isNamed (raw s)=true:=fun v s h=>tK hL.right hfit (hag v s h);have hwb:=tT (b:=b) hR.body Dr;obtain⟨R,hRR⟩:=Hl (b:=b) Ht;obtain⟨f1,f2,f3,f4⟩:=hfit;have hget:∀v∈bJ env,dB (b++rest b env) v=dB env v:=fun v hv=>by
  rw[fE];cases hg:dB b v with
  |some s=>exact(hag v s hg).symm
  |none=>exact Dn hg
 have hfa:∀a∈r.body,bg (dV b a) (rest b env)=bg a env:=fun a ha=>by rw[qF];refine kV fun t ht ht1=>hget _ ((f3 _).2 (eZ.2 (fA hR a ha t ht ht1)))
 have Nl:oO (fun _=>all) (dR b r.body) (rest b env):=by
  refine⟨f1.filter _,?_,fun v=>?_,iK.2 fun x hx=>?_⟩;·exact(List.Sublist.map _ List.filter_sublist).nodup f2
  ·rw[Hr,f3]
   constructor
   ·rintro⟨hv,hg⟩;obtain⟨k,hk,rfl⟩:=List.mem_map.1 hv;exact eZ.2 (wW.2 ⟨hk,hg⟩)
   intro hv;obtain⟨k,hk,rfl⟩:=List.mem_map.1 hv;obtain⟨h1,h2⟩:=wW.1 hk;exact⟨eZ.2 h1,h2⟩
  obtain⟨a,ha,rfl⟩:=List.mem_map.1 hx;obtain⟨g,hg,hi⟩:=iK.1 f4 a ha;refine⟨g,by rw[hfa a ha];exact hg,?_⟩;show inB all g= !a.no;cases hno:a.no with
  |true=>
   have:=hneg a ha hno g hg;cases e:inB all g with
   |false=>rfl
   |true=>exact absurd (dn.1 e) this
  |false=>
   rw[hno] at hi;exact dn.2 (hsub g (dn.1 hi))
 have hmem:=(qA (kH hwb) hRR _).2 Nl;intro hnone;unfold byP at hnone;rw[hm] at hnone;dsimp only at hnone;rw[List.find?_eq_none] at hnone;refine hnone (cu (dR b r.body) (rest b env)) (List.mem_map.2 ⟨_,?_,rfl⟩) (List.all_eq_true.2 fun k hk=>?_);·unfold jZ;rw[if_neg (by rw[Pf _ hwb];simp),hRR];exact hmem
 unfold cu at hk;obtain⟨x,hx,he⟩:=List.mem_filterMap.1 hk;obtain⟨a,ha,rfl⟩:=List.mem_map.1 hx;obtain⟨g,hg,hi⟩:=iK.1 f4 a ha;rw[show(dV b a).no=a.no from rfl] at he;cases hno:a.no with
 |true=>rw[hno] at he;cases he
 |false=>
  rw[hno] at he hi;simp only[Bool.false_eq_true,if_false] at he;rw[hfa a ha,hg] at he;cases he;exact hi
structure Nn (p:List aG) (told all:List aA) (how:aA→Int×List aA):Prop where
 ok:∀f∈all,(inB told f=true∧how f=(-1,[]))∨∃(i:Nat) (r:aG) (of:List aA),p[i]?=some r∧how f=((i:Int),of)∧lQ all r f of=0∧∀k∈of,k∈all
theorem PZ {p:List aG} (hp:dP p) {err:List aI→Int} (Pf:∀b,err b=0↔aL b=0) {told:List aA} {ps:List (List aA)} (hs:Steps (Came p (bR told ps)) told ps) (Ht:∀r∈p,dF (fun _=>bR told ps) 0 r.body [[]]≠none):
  Nn p told (bR told ps) (mQ err p told (bR told ps) (told::ps)):=⟨fun f hf=>by
 by_cases ht:inB told f=true
 ·exact Or.inl ⟨ht,by unfold mQ;rw[if_pos ht]⟩
 ·right
  have hn:f∉told:=fun hc=>ht (dn.2 hc);obtain⟨A,B,⟨g1,g2,g3⟩,h2,h3,h4,_,_⟩:=BX hs hf hn;obtain⟨r,hr,env,he,jr,hneg⟩:=g3 f h3 h2;have hby:byP err (bR told ps) ((told::ps).getD (dJ (told::ps) f-1) []) r f≠none:=by rw[h4];exact KF (fun b hb=>(Pf b).2 hb) (hp.rules r hr) g1 g2 (Ht r hr) he jr hneg
  obtain⟨j,q,of,k1,k2,k3⟩:=ru (g:=fun r=>byP err (bR told ps) ((told::ps).getD (dJ (told::ps) f-1) []) r f) p 0 ⟨r,hr,hby⟩;obtain⟨s1,s2⟩:=Hq (fun b hb=>(Pf b).1 hb) (hp.rules q (List.mem_of_getElem? k1)) k2;refine⟨j,q,of,k1,?_,s1,fun k hk=>?_⟩;·unfold mQ;rw[if_neg ht,k3];simp
  have:=s2 k hk;rw[h4] at this;exact g2 k this⟩
def cnt:Nat→bG→Nat
 |0,_=>0
 |n+1,x=>1+(x.kids.map (cnt n)).sum
end Go.Proofs.YtaallngooaaonaaGreatDoor
