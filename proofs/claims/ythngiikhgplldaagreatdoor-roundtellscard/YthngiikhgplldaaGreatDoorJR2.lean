import Derived.Test.YthngiikhgplldaaGreatDoorJR1
import Derived.Sort.Grow
import Derived.Deep.Draws
import Derived.Maps.OwnSet
import Derived.Maps.OwnOps
import Derived.StringKeys
open Go.RowKit Go.Sort Go.Maps
set_option maxRecDepth 100000
namespace Go.Proofs.YthngiikhgplldaaGreatDoor
theorem au {p:Prop} (h:p):Hid p:=h
theorem bg {p:Prop} (h:Hid p):p:=h
theorem mP {k:IntKind} {a b:Int} (h:a=b):Ending.returned (.int k a)=.returned (.int k b):=by rw[h]
theorem bB {a b:Bool} (h:a=b):Ending.returned (.bool a)=.returned (.bool b):=by rw[h]
def aj (w w':World):Prop:=∃q os,w'=grow (w.drewN q) os
theorem aj.refl (w:World):aj w w:=⟨0,#[],by rw[grow_empty];rfl⟩
theorem aj.trans {a b c:World} (h:aj a b) (k:aj b c):aj a c:=by obtain⟨q,os,rfl⟩:=h;obtain⟨r,ps,rfl⟩:=k;exact⟨q+r,os++ps,by show grow (grow ((a.drewN q).drewN r) os) ps=_;rw[grow_grow,World.drewN_drewN]⟩
theorem aj.alloc {a b:World} (h:aj a b) (o:Obj):aj a (b.alloc o):=h.trans ⟨0,#[o],by rw[alloc_eq_grow];rfl⟩
theorem aj.drew {a b:World} (h:aj a b):aj a b.drew:=h.trans ⟨1,#[],by rw[grow_empty];rfl⟩
theorem aj.drewN {a b:World} (h:aj a b) (n:Nat):aj a (b.drewN n):=h.trans ⟨n,#[],by rw[grow_empty]⟩
theorem aj.grow {a b:World} (h:aj a b) (os:Array Obj):aj a (Go.Sort.grow b os):=h.trans ⟨0,os,rfl⟩
theorem aj.size {a b:World} (h:aj a b):a.heap.size≤b.heap.size:=by obtain⟨q,os,rfl⟩:=h;rw[size_grow];exact Nat.le_add_right _ _
theorem aj.block {a b:World} (h:aj a b) {k:Nat} (hk:k<a.heap.size):b.heap[k]?=a.heap[k]?:=by obtain⟨q,os,rfl⟩:=h;exact heap_grow_old (a.drewN q) os hk
theorem aj.cell {a b:World} (h:aj a b) {p:Addr} (hp:p.block<a.heap.size):b.cell? p=a.cell? p:=World.cell?_of_block (w:=a) (h.block hp)
theorem aj.frozen {a b:World} (h:aj a b) {p:Addr} (hp:p.block<a.heap.size):b.frozen? p=a.frozen? p:=World.frozen?_of_block (w:=a) (h.block hp)
theorem aj.below {a b:World} (h:aj a b):Below a.heap.size a b:=by obtain⟨q,os,rfl⟩:=h;exact⟨rfl,rfl,rfl,by rw[size_grow];exact Nat.le_add_right _ _,fun k hk=>heap_grow_old (a.drewN q) os hk⟩
theorem aj.drawn {a b:World} (h:aj a b):a.drawn≤b.drawn:=by obtain⟨q,os,rfl⟩:=h;exact Nat.le_add_right _ _
theorem aj.of_below {a b:World} (h:Below a.heap.size a b) (hd:a.drawn≤b.drawn):aj a b:=by
 refine⟨b.drawn-a.drawn,b.heap.extract a.heap.size b.heap.size,?_⟩;have hheap:b.heap=a.heap++b.heap.extract a.heap.size b.heap.size:=by
  apply Array.ext_getElem?
  intro i;rw[Array.getElem?_append];split;·rename_i hi;exact h.block i hi
  rename_i hi;rw[Array.getElem?_extract];have:=h.size
  by_cases hb:i<b.heap.size
  ·rw[if_pos (by omega)];congr 1;omega
  rw[if_neg (by omega),Array.getElem?_eq_none (by omega)]
 obtain⟨bh,bt,bd,bo,bp⟩:=b;obtain⟨ah,at',ad,ao,ap⟩:=a;have e1:=h.os;have e2:=h.tape;have e3:=h.output;simp only at e1 e2 e3 hheap hd;subst e1 e2 e3;show World.mk bh bt bd bo bp=World.mk (ah++bh.extract ah.size bh.size) bt (ad+(bd-ad)) bo bp;rw[show ad+(bd-ad)=bd by omega,←hheap]
theorem aj.setCell {a b:World} (h:aj a b) {p:Addr} (hp:a.heap.size≤p.block) (v:Value):aj a (b.setCell p v):=
 aj.of_below (h.below.setCell hp v) h.drawn
def Strs (w:World) (v:Value) (l:List ByteArray):Prop:=
 l.length≤8796093022208∧∃a cap,v=.slice a l.length cap∧(l≠[]→∃b off,a=some ⟨b,off,none⟩∧b<w.heap.size∧∀i,i<l.length→w.cell? ⟨b,off+i,none⟩=some (.string (l.getD i ByteArray.empty)))
theorem Strs.later {w w':World} {v:Value} {l:List ByteArray} (h:Strs w v l) (k:aj w w'):Strs w' v l:=by obtain⟨h0,a,cap,rfl,h1⟩:=h;refine⟨h0,a,cap,rfl,fun hl=>?_⟩;obtain⟨b,off,rfl,hb,hc⟩:=h1 hl;exact⟨b,off,rfl,Nat.lt_of_lt_of_le hb k.size,fun i hi=>by rw[k.cell (p:=⟨b,off+i,none⟩) hb];exact hc i hi⟩
def dh (w:World) (v:Value) (f:aG):Prop:=∃s,v=.agg #[.string f.1,s]∧Strs w s f.2
theorem dh.later {w w':World} {v:Value} {f:aG} (h:dh w v f) (k:aj w w'):dh w' v f:=by obtain⟨s,rfl,h1⟩:=h;exact⟨s,rfl,h1.later k⟩
def aA:aG:=(ByteArray.empty,[])
def Facts (w:World) (v:Value) (l:List aG):Prop:=
 l.length≤3518437208883∧∃a cap,v=.slice a l.length cap∧(l≠[]→∃b off,a=some ⟨b,off,none⟩∧b<w.heap.size∧∀i,i<l.length→w.cell? ⟨b,off+i*2,none⟩=some (.string (l.getD i aA).1)∧∃s,w.cell? ⟨b,off+i*2+1,none⟩=some s∧Strs w s (l.getD i aA).2)
theorem Facts.later {w w':World} {v:Value} {l:List aG} (h:Facts w v l) (k:aj w w'):Facts w' v l:=by obtain⟨h0,a,cap,rfl,h1⟩:=h;refine⟨h0,a,cap,rfl,fun hl=>?_⟩;obtain⟨b,off,rfl,hb,hc⟩:=h1 hl;refine⟨b,off,rfl,Nat.lt_of_lt_of_le hb k.size,fun i hi=>?_⟩;obtain⟨c1,s,c2,c3⟩:=hc i hi;exact⟨by rw[k.cell (p:=⟨b,off+i*2,none⟩) hb];exact c1,s,by rw[k.cell (p:=⟨b,off+i*2+1,none⟩) hb];exact c2,c3.later k⟩
theorem aC {w:World} {v:Value} {l:List aG} (h:Facts w v l):∃a cap,v=.slice a l.length cap:=by obtain⟨_,a,cap,rfl,_⟩:=h;exact⟨a,cap,rfl⟩
theorem bP {w:World} {v:Value} {l:List ByteArray} (h:Strs w v l):∃a cap,v=.slice a l.length cap:=by obtain⟨_,a,cap,rfl,_⟩:=h;exact⟨a,cap,rfl⟩
theorem uN (x y:List ByteArray) (i:Nat) (hx:i<x.length) (hy:i<y.length):
  cmpL (x.drop i) (y.drop i)=if gV (x.getD i ByteArray.empty) (y.getD i ByteArray.empty)≠0 then gV (x.getD i ByteArray.empty) (y.getD i ByteArray.empty) else cmpL (x.drop (i+1)) (y.drop (i+1)):=by
 rw[List.drop_eq_getElem_cons hx,List.drop_eq_getElem_cons hy,cmpL];simp[List.getD_eq_getElem?_getD,hx,hy]
theorem lK (x y:List ByteArray) (i:Nat) (hx:x.length≤i):cmpL (x.drop i) (y.drop i)=if i<y.length then-1 else 0:=by
 rw[List.drop_eq_nil_of_le hx]
 by_cases hy:i<y.length
 ·rw[List.drop_eq_getElem_cons hy,if_pos hy];rfl
 rw[List.drop_eq_nil_of_le (by omega),if_neg hy];rfl
theorem qE (x y:List ByteArray) (i:Nat) (hx:i<x.length) (hy:y.length≤i):cmpL (x.drop i) (y.drop i)=1:=by rw[List.drop_eq_nil_of_le hy,List.drop_eq_getElem_cons hx];rfl
def Ar:Bool→Bs→Bs
 |_,[]=>[]
 |false,c::t=>if c=32∨c=10 then Ar false t else if c=37 then Ar true t else c::t
 |true,c::t=>if c=10 then Ar false t else Ar true t
abbrev skip (l:Bs):Bs:=Ar false l
inductive Res (α:Type) where
 |ok (a:α) (r:Bs)
 |bad (e:Int) (r:Bs)
def Res.next {α β:Type} (x:Res α) (f:α→Bs→Res β):Res β:=
 match x with
 | .ok a r=>f a r
 | .bad e r=>.bad e r
def took (g l:Bs):Bool×Bs:=if g.isPrefixOf (skip l) then(true,(skip l).drop g.length) else(false,skip l)
def word (fits:Bs→Bool) (l:Bs):Res Bs:=
 if(skip l).takeWhile eO=[] then .bad 2 (skip l)
 else if fits ((skip l).takeWhile eO) then .ok ((skip l).takeWhile eO) ((skip l).drop ((skip l).takeWhile eO).length)
 else .bad 7 (skip l)
def Ef {α:Type} (part:Bs→Res α):Nat→List α→Bs→Res (List α)
 |n,out,l=>if(took [44] l).1 then
   match n with
   |0=>.bad 5 (took [44] l).2
   |n+1=>(part (took [44] l).2).next fun a r=>Ef part n (out++[a]) r
  else .ok out (took [44] l).2
def Gu {α:Type} (part:Bs→Res α) (most:Nat) (l:Bs):Res (List α):=(part l).next fun a r=>Ef part (most-1) [a] r
def sw {α:Type} (g:Bs) (a:α) (l:Bs):Res α:=if(took g l).1 then .ok a (took g l).2 else .bad 2 (took g l).2
abbrev dM:=Bool×Bs
structure aJ where
 no:Bool
 name:Bs
 terms:List dM
deriving DecidableEq
structure aD where
 head:aJ
 body:List aJ
deriving DecidableEq
def Dc (w:Bs):Bool:=isNamed w||isVar w
def term (l:Bs):Res dM:=(word Dc l).next fun w r=>.ok (isVar w,w) r
def atom (l:Bs):Res aJ:=(word isNamed l).next fun w r=>
 if(took [40] r).1 then(Gu term 4 (took [40] r).2).next fun ts r=>sw [41] ⟨false,w,ts⟩ r else .ok ⟨false,w,[]⟩ (took [40] r).2
def Df (l:Bs):Res aJ:=(atom (took [33] l).2).next fun a r=>.ok {a with no:=(took [33] l).1} r
def body (l:Bs):Res (List aJ):=Gu Df 5 l
def rule (l:Bs):Res aD:=(atom l).next fun a r=>
 if(took [58,45] r).1 then(body (took [58,45] r).2).next fun b r=>sw [46] ⟨a,b⟩ r else sw [46] ⟨a,[]⟩ (took [58,45] r).2
def ET:Nat→List aD→Bs→Res (List aD)
 |n,out,l=>if skip l=[] then .ok out [] else
  match n with
  |0=>.bad 5 (skip l)
  |n+1=>(rule (skip l)).next fun a r=>ET n (out++[a]) r
def I6 (l:Bs):Res (List aJ):=(body l).next fun b r=>if skip r=[] then .ok b [] else .bad 2 (skip r)
theorem Res.Au {α β:Type} {x:Res α} {f:α→Bs→Res β} {b:β} {r:Bs} (h:x.next f=.ok b r):∃a r',x=.ok a r'∧f a r'=.ok b r:=by
 cases x with
 |ok a r'=>exact⟨a,r',rfl,h⟩
 |bad e r'=>cases h
def Local {α:Type} (P:Bs→Res α):Prop:=∀l a r t,P l=.ok a r→r≠[]→P (l++10::t)=.ok a (r++10::t)
def Ends {α:Type} (P:Bs→Res α):Prop:=∀a r,P []=.ok a r→r=[]
def dz (l:List Bs) (s:Bs):List Bs:=if l.contains s then l else l++[s]
def bG (l:List Bs) (ts:List dM):List Bs:=ts.foldl (fun l t=>if t.1 then dz l t.2 else l) l
def vars (a:aJ):List Bs:=bG [] a.terms
def aW (t:dM):Bool:=if t.1 then !isVar t.2 else !isNamed t.2
def aL (a:aJ):Int:=if isNamed a.name=false then 7 else if 4<a.terms.length then 5 else if a.terms.any aW then 7 else 0
def givenBy (l:List aJ) (s:Bs):Bool:=l.any fun a=> !a.no&&(vars a).contains s
def bE:List aJ→Int
 |[]=>0
 |a::l=>if aL a=0 then bE l else aL a
def aM (l:List aJ):Int:=if 5<l.length then 5 else if bE l=0 then(if l.all (fun a=>(vars a).all (givenBy l)) then 0 else 9) else bE l
abbrev bZ:=Bs→Option Nat
def bZ.put (m:bZ) (s:Bs) (n:Nat):bZ:=fun t=>if t=s then some n else m t
def bN (m:bZ) (a:aJ):Bool×bZ:=match m a.name with
 |none=>(true,m.put a.name a.terms.length)
 |some n=>(decide (n=a.terms.length),m)
def fitAll:bZ→List aJ→Bool×bZ
 |m,[]=>(true,m)
 |m,a::l=>if(bN m a).1 then fitAll (bN m a).2 l else(false,(bN m a).2)
def aU (m:bZ) (r:aD):Int×bZ:=
 if aL r.head=0 then
  if r.head.no then(2,m) else
  if aM r.body=0 then
   if(vars r.head).all (givenBy r.body) then
    if(bN m r.head).1 then(if(fitAll (bN m r.head).2 r.body).1 then 0 else 8,(fitAll (bN m r.head).2 r.body).2) else(8,(bN m r.head).2)
   else(9,m)
  else(aM r.body,m)
 else(aL r.head,m)
def fC:bZ→Nat→List aD→Int×Nat
 |_,_,[]=>(0,0)
 |m,i,r::l=>if(aU m r).1=0 then fC (aU m r).2 (i+1) l else((aU m r).1,i)
def bQ (p:List aD):Int×Nat:=if 16<p.length then(5,0) else fC (fun _=>none) 0 p
def behind (m:bZ) (a:aJ):Nat:=match m a.name with
 |none=>0
 |some n=>if a.no then n+1 else n
def numOf (m:bZ) (s:Bs):Nat:=(m s).getD 0
def aY (h:Bs) (x:bZ×Bool) (a:aJ):bZ×Bool:=if numOf x.1 h<behind x.1 a then(x.1.put h (behind x.1 a),true) else x
def fq (x:bZ×Bool) (r:aD):bZ×Bool:=r.body.foldl (aY r.head.name) x
def liftAll (x:bZ×Bool) (p:List aD):bZ×Bool:=p.foldl fq x
def iU (m:bZ) (p:List aD):bZ:=p.foldl (fun m r=>m.put r.head.name 0) m
def start (p:List aD):bZ:=iU (fun _=>none) p
def dI (p:List aD):Nat→bZ→Option bZ
 |0,_=>none
 |n+1,m=>if(liftAll (m,false) p).2 then dI p n (liftAll (m,false) p).1 else some (liftAll (m,false) p).1
def each (m:bZ) (p:List aD):List Nat:=p.map fun r=>numOf m r.head.name
def aK (p:List aD):List Nat×Int×Nat:=
 if(bQ p).1=0 then match dI p (p.length+1) (start p) with
  |some m=>(each m p,0,0)
  |none=>([],10,0)
 else([],bQ p)
def dU (p:List aD) (s:Bs):Prop:=∃r∈p,r.head.name=s
def step (a:aJ):Nat:=if a.no then 1 else 0
def Sol (p:List aD) (σ:Bs→Nat):Prop:=∀r∈p,∀a∈r.body,dU p a.name→σ a.name+step a≤σ r.head.name
def mQ (p:List aD) (m:bZ):Prop:=∀s,(m s).isSome↔dU p s
def jO (p:List aD) (m:bZ):Prop:=∀σ,Sol p σ→∀s,numOf m s≤σ s
theorem jP {p:List aD} {m:bZ} (hd:mQ p m) (a:aJ) (h:dU p a.name):behind m a=numOf m a.name+step a:=by unfold behind numOf step;have:=(hd a.name).2 h;obtain⟨n,hn⟩:=Option.isSome_iff_exists.1 this;rw[hn];cases a.no <;> simp
theorem kW {p:List aD} {m:bZ} (hd:mQ p m) (a:aJ) (h:¬dU p a.name):behind m a=0:=by
 unfold behind;have:m a.name=none:=by
  cases e:m a.name with
  |none=>rfl
  |some n=>exact absurd ((hd a.name).1 (by rw[e];rfl)) h
 rw[this]
theorem eP (m:bZ) (s t:Bs) (n:Nat):numOf (m.put s n) t=if t=s then n else numOf m t:=by
 unfold numOf bZ.put
 by_cases h:t=s <;> simp[h]
theorem mQ.put {p:List aD} {m:bZ} (hd:mQ p m) {s:Bs} (hs:dU p s) (n:Nat):mQ p (m.put s n):=by
 intro t;unfold bZ.put
 by_cases h:t=s
 ·subst h;simp[hs]
 rw[if_neg h];exact hd t
theorem lM {p:List aD} {r:aD} (hr:r∈p) {x:bZ×Bool} (hd:mQ p x.1) (hl:jO p x.1) {a:aJ} (ha:a∈r.body):
  mQ p (aY r.head.name x a).1∧jO p (aY r.head.name x a).1∧∀s,numOf x.1 s≤numOf (aY r.head.name x a).1 s:=by
 unfold aY;split
 ·rename_i hlt;refine⟨hd.put ⟨r,hr,rfl⟩ _,fun σ hσ s=>?_,fun s=>?_⟩
  ·show numOf (x.1.put _ _) s≤_;rw[eP];split
   ·rename_i h;subst h
    by_cases hh:dU p a.name
    ·rw[jP hd a hh];have h1:=hσ r hr a ha hh;have h2:=hl σ hσ a.name;omega
    rw[kW hd a hh];omega
   exact hl σ hσ s
  show _≤numOf (x.1.put _ _) s;rw[eP];split;·rename_i h;subst h;omega
  exact Nat.le_refl _
 exact⟨hd,hl,fun _=>Nat.le_refl _⟩
theorem jq {p:List aD} {r:aD} (hr:r∈p) (l:List aJ):∀{x:bZ×Bool},mQ p x.1→jO p x.1→(∀a∈l,a∈r.body)→
  mQ p (l.foldl (aY r.head.name) x).1∧jO p (l.foldl (aY r.head.name) x).1∧∀s,numOf x.1 s≤numOf (l.foldl (aY r.head.name) x).1 s:=by
 induction l with
 |nil=>intro x hd hl _;exact⟨hd,hl,fun _=>Nat.le_refl _⟩
 |cons a l ih=>
  intro x hd hl ha;obtain⟨d1,l1,u1⟩:=lM hr hd hl (ha a (by simp));obtain⟨d2,l2,u2⟩:=ih d1 l1 (fun b hb=>ha b (by simp[hb]));exact⟨d2,l2,fun s=>Nat.le_trans (u1 s) (u2 s)⟩
theorem iJ {p:List aD} (l:List aD):∀{x:bZ×Bool},mQ p x.1→jO p x.1→(∀r∈l,r∈p)→
  mQ p (liftAll x l).1∧jO p (liftAll x l).1∧∀s,numOf x.1 s≤numOf (liftAll x l).1 s:=by
 induction l with
 |nil=>intro x hd hl _;exact⟨hd,hl,fun _=>Nat.le_refl _⟩
 |cons r l ih=>
  intro x hd hl hr;obtain⟨d1,l1,u1⟩:=jq (hr r (by simp)) r.body hd hl (fun a h=>h);obtain⟨d2,l2,u2⟩:=ih d1 l1 (fun b hb=>hr b (by simp[hb]));exact⟨d2,l2,fun s=>Nat.le_trans (u1 s) (u2 s)⟩
theorem sD (h:Bs) (x:bZ×Bool) (a:aJ) (hx:x.2=true):(aY h x a).2=true:=by unfold aY;split <;> simp[hx]
theorem lN (h:Bs) (l:List aJ):∀x:bZ×Bool,x.2=true→(l.foldl (aY h) x).2=true:=by
 induction l with
 |nil=>intro x hx;exact hx
 |cons a l ih=>intro x hx;exact ih _ (sD h x a hx)
theorem uO (l:List aD):∀x:bZ×Bool,x.2=true→(liftAll x l).2=true:=by
 induction l with
 |nil=>intro x hx;exact hx
 |cons r l ih=>intro x hx;exact ih _ (lN _ _ x hx)
theorem sF (h:Bs) (l:List aJ):∀m:bZ,(l.foldl (aY h) (m,false)).2=false→l.foldl (aY h) (m,false)=(m,false)∧∀a∈l,behind m a≤numOf m h:=by
 induction l with
 |nil=>intro m _;exact⟨rfl,by simp⟩
 |cons a l ih=>
  intro m hm;rw[List.foldl_cons] at hm⊢
  by_cases hlt:numOf m h<behind m a
  ·have:(aY h (m,false) a).2=true:=by unfold aY;rw[if_pos hlt]
   rw[lN h l _ this] at hm;cases hm
  have e:aY h (m,false) a=(m,false):=by unfold aY;rw[if_neg hlt]
  rw[e] at hm⊢;obtain⟨h1,h2⟩:=ih m hm;refine⟨h1,fun b hb=>?_⟩;rcases List.mem_cons.1 hb with rfl|hb
  ·omega
  exact h2 b hb
theorem nM (l:List aD):∀m:bZ,(liftAll (m,false) l).2=false→liftAll (m,false) l=(m,false)∧∀r∈l,∀a∈r.body,behind m a≤numOf m r.head.name:=by
 induction l with
 |nil=>intro m _;exact⟨rfl,by simp⟩
 |cons r l ih=>
  intro m hm;unfold liftAll at hm⊢;rw[List.foldl_cons] at hm⊢;have h0:(fq (m,false) r).2=false:=by
   cases hc:(fq (m,false) r).2 with
   |false=>rfl
   |true=>have:=uO l _ hc;unfold liftAll at this;rw[this] at hm;cases hm
  obtain⟨e,h1⟩:=sF _ _ m h0;have e':fq (m,false) r=(m,false):=e;rw[e'] at hm⊢;obtain⟨h2,h3⟩:=ih m hm;refine⟨h2,fun q hq=>?_⟩;rcases List.mem_cons.1 hq with rfl|hq;·exact h1
  exact h3 q hq
theorem sG (l:List aD) (m:bZ) (h:∀r∈l,∀a∈r.body,behind m a≤numOf m r.head.name):∀b,liftAll (m,b) l=(m,b):=by
 induction l with
 |nil=>intro b;rfl
 |cons r l ih=>
  intro b;have hr:fq (m,b) r=(m,b):=by
   have:∀q:List aJ,(∀a∈q,behind m a≤numOf m r.head.name)→q.foldl (aY r.head.name) (m,b)=(m,b):=by
    intro q
    induction q with
    |nil=>intro _;rfl
    |cons a q iq=>
     intro hq;rw[List.foldl_cons];have:aY r.head.name (m,b) a=(m,b):=by unfold aY;rw[if_neg (by have:=hq a (by simp);show¬numOf m _<behind m a;omega)]
     rw[this];exact iq fun c hc=>hq c (by simp[hc])
   exact this r.body (h r (by simp))
  show liftAll (fq (m,b) r) l=(m,b);rw[hr];exact ih (fun q hq=>h q (by simp[hq])) b
theorem wU (l:List aD):∀(m:bZ) (s:Bs),(iU m l s).isSome↔((m s).isSome∨dU l s):=by
 induction l with
 |nil=>intro m s;simp[iU,dU]
 |cons r l ih=>
  intro m s;show(iU (m.put r.head.name 0) l s).isSome↔_;rw[ih];unfold bZ.put dU
  by_cases h:s=r.head.name
  ·subst h;simp
  have h':¬r.head.name=s:=fun e=>h e.symm;simp[h,h']
theorem uP (l:List aD):∀(m:bZ),(∀s,numOf m s=0)→∀s,numOf (iU m l) s=0:=by
 induction l with
 |nil=>intro m h;exact h
 |cons r l ih=>
  intro m h;exact ih _ fun s=>by rw[eP];split <;> simp[h]
theorem lQ (p:List aD):mQ p (start p):=fun s=>by unfold start;rw[wU];simp
theorem mR (p:List aD) (s:Bs):numOf (start p) s=0:=uP p _ (fun _=>rfl) s
theorem kX (p:List aD):jO p (start p):=fun σ _ s=>by rw[mR];exact Nat.zero_le _
theorem lS {p:List aD}:∀(n:Nat) (m m':bZ),mQ p m→jO p m→dI p n m=some m'→mQ p m'∧jO p m'∧∀r∈p,∀a∈r.body,behind m' a≤numOf m' r.head.name:=by
 intro n
 induction n with
 |zero=>intro m m' _ _ h;cases h
 |succ n ih=>
  intro m m' hd hl h;unfold dI at h;split at h;·obtain⟨d1,l1,_⟩:=iJ p hd hl (x:=(m,false)) (fun _ h=>h);exact ih _ _ d1 l1 h
  rename_i hf;obtain⟨e,h1⟩:=nM p m (by simpa using hf);rw[e] at h;cases h;exact⟨hd,hl,h1⟩
theorem Eh {p:List aD} {m:bZ} (hd:mQ p m) (h:∀r∈p,∀a∈r.body,behind m a≤numOf m r.head.name):Sol p (numOf m):=fun r hr a ha hh=>by rw[←jP hd a hh];exact h r hr a ha
theorem ko {p:List aD} {l:List Nat} {k:Nat} (h:aK p=(l,0,k)):(bQ p).1=0∧∃m,l=each m p∧mQ p m∧jO p m∧Sol p (numOf m):=by
 unfold aK at h;split at h
 ·rename_i h0;split at h;·rename_i m hm;obtain⟨d,le,s⟩:=lS _ _ _ (lQ p) (kX p) hm;simp at h;exact⟨h0,m,h.1.symm,d,le,Eh d s⟩
  simp at h
 rename_i h0;rw[Prod.mk.injEq] at h;exact absurd (congrArg Prod.fst h.2) h0
theorem Gv {p:List aD} {m:bZ} (hl:jO p m) (hs:Sol p (numOf m)) (k:Nat) (hk:∀r∈p,numOf m r.head.name≠k):∀r∈p,numOf m r.head.name<k:=by
 intro r hr;have hσ:Sol p (fun s=>if numOf m s>k then numOf m s-1 else numOf m s):=by
  intro q hq a ha hh;have h1:=hs q hq a ha hh;have h2:=hk q hq;obtain⟨q',hq',e'⟩:=hh;have h3:=hk q' hq';rw[e'] at h3;have h4:step a≤1:=by unfold step;split <;> omega
  show(if numOf m a.name>k then _ else _)+_≤(if numOf m q.head.name>k then _ else _);split <;> split <;> omega
 have h1:numOf m r.head.name≤(if numOf m r.head.name>k then numOf m r.head.name-1 else numOf m r.head.name):=hl _ hσ r.head.name;have h2:=hk r hr;split at h1 <;> omega
theorem Av {p:List aD} {σ:Bs→Nat} (h:Sol p σ):∃τ,Sol p τ∧∀τ',Sol p τ'→(p.map fun r=>τ r.head.name).sum≤(p.map fun r=>τ' r.head.name).sum:=by
 have:∀n σ,Sol p σ→(p.map fun r=>σ r.head.name).sum=n→∃τ,Sol p τ∧∀τ',Sol p τ'→(p.map fun r=>τ r.head.name).sum≤(p.map fun r=>τ' r.head.name).sum:=by
  intro n
  induction n using Nat.strongRecOn with
  |ind n ih=>
   intro σ hσ hn
   by_cases hx:∃τ',Sol p τ'∧(p.map fun r=>τ' r.head.name).sum<n
   ·obtain⟨τ',h1,h2⟩:=hx;exact ih _ h2 τ' h1 rfl
   refine⟨σ,hσ,fun τ' h'=>?_⟩;rw[hn];exact Nat.le_of_not_lt fun hlt=>hx ⟨τ',h',hlt⟩
 exact this _ σ h rfl
theorem Gw {p:List aD} {f g:aD→Nat} (h:∀r∈p,f r≤g r):(p.map f).sum≤(p.map g).sum:=by
 induction p with
 |nil=>simp
 |cons a p ih=>
  have:=ih fun r hr=>h r (by simp[hr]);have:=h a (by simp);simp;omega
theorem sum_lt {p:List aD} {f g:aD→Nat} (h:∀r∈p,f r≤g r) (hx:∃r∈p,f r<g r):(p.map f).sum<(p.map g).sum:=by
 induction p with
 |nil=>obtain⟨r,hr,_⟩:=hx;simp at hr
 |cons a p ih=>
  have h1:=Gw fun r hr=>h r (List.mem_cons_of_mem a hr);have h2:=h a (by simp);obtain⟨r,hr,hlt⟩:=hx;rcases List.mem_cons.1 hr with rfl|hr
  ·simp;omega
  have:=ih (fun r hr=>h r (by simp[hr])) ⟨r,hr,hlt⟩;simp;omega
theorem uQ {p:List aD} {τ:Bs→Nat} (hτ:Sol p τ) (hmin:∀τ',Sol p τ'→(p.map fun r=>τ r.head.name).sum≤(p.map fun r=>τ' r.head.name).sum) {m:bZ} (hl:jO p m)
  (hu:∃r∈p,numOf m r.head.name≠τ r.head.name):∃r∈p,∃a∈r.body,numOf m r.head.name≠τ r.head.name∧dU p a.name∧numOf m a.name=τ a.name∧τ a.name+step a=τ r.head.name:=by
 refine Classical.byContradiction fun hno=>?_;have hle:∀s,numOf m s≤τ s:=hl τ hτ;have hσ:Sol p (fun s=>if numOf m s=τ s then τ s else τ s-1):=by
  intro r hr a ha hh;have h1:=hτ r hr a ha hh;have h2:=hle r.head.name;have h3:=hle a.name;show(if numOf m a.name=τ a.name then _ else _)+_≤(if numOf m r.head.name=τ r.head.name then _ else _)
  by_cases e2:numOf m r.head.name=τ r.head.name
  ·rw[if_pos e2];split <;> omega
  rw[if_neg e2]
  by_cases e3:numOf m a.name=τ a.name
  ·rw[if_pos e3];have:¬τ a.name+step a=τ r.head.name:=fun e=>hno ⟨r,hr,a,ha,e2,hh,e3,e⟩;omega
  rw[if_neg e3];omega
 obtain⟨r,hr,hne⟩:=hu;have:=hmin _ hσ;have hlt:(p.map fun r=>(fun s=>if numOf m s=τ s then τ s else τ s-1) r.head.name).sum<(p.map fun r=>τ r.head.name).sum:=by
  refine sum_lt (fun q _=>?_) ⟨r,hr,?_⟩
  ·show(if _ then _ else _)≤_;split;·exact Nat.le_refl _
   exact Nat.sub_le _ _
  show(if _ then _ else _)<_;have:=hle r.head.name;rw[if_neg hne];omega
 exact absurd hlt (Nat.not_lt.2 this)
theorem qF {p:List aD} {r:aD} (hr:r∈p) (l:List aJ):∀{x:bZ×Bool},mQ p x.1→jO p x.1→(∀a∈l,a∈r.body)→∀a∈l,dU p a.name→numOf x.1 a.name+step a≤numOf (l.foldl (aY r.head.name) x).1 r.head.name:=by
 induction l with
 |nil=>intro x _ _ _ a ha;simp at ha
 |cons b l ih=>
  intro x hd hl hb a ha hh;obtain⟨d1,l1,u1⟩:=lM hr hd hl (hb b (by simp));obtain⟨d2,l2,u2⟩:=jq hr l d1 l1 (fun c hc=>hb c (by simp[hc]));rcases List.mem_cons.1 ha with rfl|ha
  ·refine Nat.le_trans ?_ (u2 r.head.name);rw[←jP hd a hh];unfold aY;split;·show _≤numOf (x.1.put _ _) _;rw[eP,if_pos rfl];exact Nat.le_refl _
   omega
  have:=ih d1 l1 (fun c hc=>hb c (by simp[hc])) a ha hh;have h2:=u1 a.name;exact Nat.le_trans (Nat.add_le_add_right h2 _) this
theorem sH {p:List aD} (l:List aD):∀{x:bZ×Bool},mQ p x.1→jO p x.1→(∀r∈l,r∈p)→∀r∈l,∀a∈r.body,dU p a.name→numOf x.1 a.name+step a≤numOf (liftAll x l).1 r.head.name:=by
 induction l with
 |nil=>intro x _ _ _ r hr;simp at hr
 |cons q l ih=>
  intro x hd hl hq r hr a ha hh;obtain⟨d1,l1,u1⟩:=jq (hq q (by simp)) q.body hd hl (fun c hc=>hc);obtain⟨d2,l2,u2⟩:=iJ l d1 l1 (fun c hc=>hq c (by simp[hc]));rcases List.mem_cons.1 hr with rfl|hr
  ·exact Nat.le_trans (qF (hq r (by simp)) r.body hd hl (fun c hc=>hc) a ha hh) (u2 _)
  exact Nat.le_trans (Nat.add_le_add_right (u1 a.name) _) (ih d1 l1 (fun c hc=>hq c (by simp[hc])) r hr a ha hh)
def settled (p:List aD) (τ:Bs→Nat) (m:bZ):Nat:=(p.map fun r=>if numOf m r.head.name=τ r.head.name then 1 else 0).sum
theorem zk (p:List aD) (τ:Bs→Nat) (m:bZ):settled p τ m≤p.length:=by
 unfold settled
 induction p with
 |nil=>simp
 |cons r p ih=>simp only[List.map_cons,List.sum_cons,List.length_cons];split <;> omega
theorem sI {p:List aD} {τ:Bs→Nat} (hτ:Sol p τ) (hmin:∀τ',Sol p τ'→(p.map fun r=>τ r.head.name).sum≤(p.map fun r=>τ' r.head.name).sum) {m:bZ} (hd:mQ p m) (hl:jO p m)
  (hu:∃r∈p,numOf m r.head.name≠τ r.head.name) (b:Bool):settled p τ m+1≤settled p τ (liftAll (m,b) p).1:=by
 obtain⟨r,hr,a,ha,h1,h2,h3,h4⟩:=uQ hτ hmin hl hu;obtain⟨d1,l1,u1⟩:=iJ p hd hl (x:=(m,b)) (fun _ h=>h);have h5:=sH p hd hl (x:=(m,b)) (fun _ h=>h) r hr a ha h2;unfold settled;refine Nat.succ_le_of_lt (sum_lt (fun q hq=>?_) ⟨r,hr,?_⟩)
 ·have e1:=u1 q.head.name;have e2:=l1 τ hτ q.head.name;have e3:numOf (m,b).1 q.head.name=numOf m q.head.name:=rfl;split;·rw[if_pos (by omega)];exact Nat.le_refl _
  split <;> omega
 have e2:=l1 τ hτ r.head.name;have e3:numOf (m,b).1 a.name=numOf m a.name:=rfl;rw[if_neg h1,if_pos (by omega)];omega
theorem sJ {p:List aD} {τ:Bs→Nat} (hτ:Sol p τ) (hmin:∀τ',Sol p τ'→(p.map fun r=>τ r.head.name).sum≤(p.map fun r=>τ' r.head.name).sum):
  ∀(n:Nat) (m:bZ),mQ p m→jO p m→p.length<n+settled p τ m→∃m',dI p n m=some m':=by
 intro n
 induction n with
 |zero=>intro m _ _ h;have:=zk p τ m;omega
 |succ n ih=>
  intro m hd hl hn;unfold dI
  by_cases hu:∃r∈p,numOf m r.head.name≠τ r.head.name
  ·have hg:=sI hτ hmin hd hl hu false;obtain⟨d1,l1,u1⟩:=iJ p hd hl (x:=(m,false)) (fun _ h=>h);split;·exact ih _ d1 l1 (by omega)
   exact⟨_,rfl⟩
  have hall:∀r∈p,numOf m r.head.name=τ r.head.name:=fun r hr=>Classical.byContradiction fun h=>hu ⟨r,hr,h⟩;have hst:liftAll (m,false) p=(m,false):=by
   refine sG p m (fun r hr a ha=>?_) false
   by_cases hh:dU p a.name
   ·rw[jP hd a hh,hall r hr];obtain⟨q,hq,e⟩:=hh;have h1:=hτ r hr a ha ⟨q,hq,e⟩;have h2:=hall q hq;rw[e] at h2;omega
   rw[kW hd a hh];exact Nat.zero_le _
  rw[hst];exact⟨_,rfl⟩
theorem dG {H:Type} {P:Program} {k:TypeId} {R:Value→Option (DataW H×List MemPlace)} {w w':World} {b n:Nat} {D:DataW H} (h:w.ownsMap P k R b n D) (e:w'.heap[b]?=w.heap[b]?):w'.ownsMap P k R b n D:=by obtain⟨es,clock,hb,F,hs,hD⟩:=h;exact⟨es,clock,e.trans hb,F,hs,hD⟩
theorem jD {P:Program} {K:TypeId} (hk:P.underlying K=some .string) {s:Bs} (hs:s.length≤maxLen):keyOf P K (.string (bs s))=some (.string s):=by have:=WideMaps.keyOf_string_mk (P:=P) (k:=K) hk (s:=bs s) (by rw[iB];exact hs);rw[this];rfl
theorem CY (s:Bs):WideAt.IsKeyLit (.string s):=trivial
theorem kK {s t:Bs} (h:t≠s):Lit.string t≠Lit.string s:=fun e=>h (by injection e)
def kL (P:Program) (K:TypeId) (w:World) (b n:Nat) (f:Bs→Bool):Prop:=∃D:DataW Unit,w.ownsMap P K unitElem b n D∧∀s,Maps.has D (.string s)=f s
theorem kL.made (P:Program) (K:TypeId) (w:World):kL P K (w.alloc (.map #[] 0)) w.heap.size 0 (fun _=>false):=⟨.map [],World.ownsMap_made _ _ _ _,fun _=>rfl⟩
section
variable {P:Program} {K:TypeId} {w w':World} {b n:Nat} {f:Bs→Bool}
theorem kL.lt (h:kL P K w b n f):b<w.heap.size:=by obtain⟨D,h,_⟩:=h;exact h.lt
theorem kL.block (h:kL P K w b n f) (e:w'.heap[b]?=w.heap[b]?):kL P K w' b n f:=by obtain⟨D,h,hf⟩:=h;exact⟨D,dG h e,hf⟩
theorem kL.later (h:kL P K w b n f) (k:aj w w'):kL P K w' b n f:=h.block (k.block h.lt)
theorem kL.below (h:kL P K w b n f) (k:Below w.heap.size w w'):kL P K w' b n f:=h.block (k.block b h.lt)
theorem kL.grown {row:Option Nat} (h:kL P K w b n f) (k:w.grownBy w' row) (hne:some b≠row):kL P K w' b n f:=h.block (k.block b h.lt hne)
theorem kL.mono (h:kL P K w b n f) {n':Nat} (hn:n≤n'):kL P K w b n' f:=by obtain⟨D,h,hf⟩:=h;exact⟨D,h.mono hn,hf⟩
theorem kL.congr {g:Bs→Bool} (h:kL P K w b n f) (e:∀s,f s=g s):kL P K w b n g:=by obtain⟨D,h,hf⟩:=h;exact⟨D,h,fun s=>(hf s).trans (e s)⟩
end
def iK (P:Program) (K E:TypeId) (w:World) (b n:Nat) (m:bZ):Prop:=∃D:DataW Unit,w.ownsMap P K (plainElem P E) b n D∧∀s,Maps.has D (.string s)=(m s).isSome∧D.atKey (.string s) (.lit (.int .i64 0))=.lit (.int .i64 (numOf m s))
theorem iK.made (P:Program) (K E:TypeId) (w:World):iK P K E (w.alloc (.map #[] 0)) w.heap.size 0 (fun _=>none):=⟨.map [],World.ownsMap_made _ _ _ _,fun _=>⟨rfl,rfl⟩⟩
section
variable {P:Program} {K E:TypeId} {w w':World} {b n:Nat} {m:bZ}
theorem iK.lt (h:iK P K E w b n m):b<w.heap.size:=by obtain⟨D,h,_⟩:=h;exact h.lt
theorem iK.block (h:iK P K E w b n m) (e:w'.heap[b]?=w.heap[b]?):iK P K E w' b n m:=by obtain⟨D,h,hf⟩:=h;exact⟨D,dG h e,hf⟩
theorem iK.later (h:iK P K E w b n m) (k:aj w w'):iK P K E w' b n m:=h.block (k.block h.lt)
theorem iK.below (h:iK P K E w b n m) (k:Below w.heap.size w w'):iK P K E w' b n m:=h.block (k.block b h.lt)
theorem iK.grown {row:Option Nat} (h:iK P K E w b n m) (k:w.grownBy w' row) (hne:some b≠row):iK P K E w' b n m:=h.block (k.block b h.lt hne)
theorem iK.mono (h:iK P K E w b n m) {n':Nat} (hn:n≤n'):iK P K E w b n' m:=by obtain⟨D,h,hf⟩:=h;exact⟨D,h.mono hn,hf⟩
end
section
variable {P:Program} {K E T:TypeId} {w:World} {b n:Nat}
theorem kL.has {f:Bs→Bool} (h:kL P K w b n f) (hk:P.underlying K=some .string) (ht:P.underlying T=some (.map K E)) (hz:(zeroValue E).run P w=.ok (.agg #[]) w) {s:Bs} (hs:s.length≤maxLen):
  (Instr.lookup T (.map (some b)) (.string (bs s)) true).run P w=.ok (.tuple #[.agg #[],.bool (f s)]) w:=by
 obtain⟨D,hown,hf⟩:=h;obtain⟨v,ps,hrun,hv⟩:=hown.look_ok (string_keyed hk) ht hz (zd:=.agg []) (zp:=[]) unitElem_mk (jD hk hs);obtain⟨rfl,_⟩:=unitElem_inv hv;rw[hrun,hf]
theorem kL.add {f:Bs→Bool} (h:kL P K w b n f) (hk:P.underlying K=some .string) (ht:P.underlying T=some (.map K E)) (hn:n<maxLen) {s:Bs} (hs:s.length≤maxLen):
  ∃w',(Instr.mapUpdate T (.map (some b)) (.string (bs s)) (.agg #[])).run P w=.ok () w'∧kL P K w' b (n+1) (fun t=>f t||decide (t=s))∧w.grownBy w' (some b):=by
 obtain⟨D,hown,hf⟩:=h;obtain⟨w',hrun,r1,r2⟩:=hown.update (string_keyed hk) ht hn (jD hk hs) (d:=.agg []) (ps:=[]) unitElem_mk;refine⟨w',hrun,⟨_,r1,fun t=>?_⟩,r2⟩
 by_cases e:t=s
 ·subst e;rw[has_put_same hown.isMap (CY _)];simp
 rw[has_put_other (kK e),hf];simp[e]
theorem iK.look {m:bZ} (h:iK P K E w b n m) (hk:P.underlying K=some .string) (he:P.underlying E=some (.int .i64)) (ht:P.underlying T=some (.map K E)) (hz:(zeroValue E).run P w=.ok (.int .i64 0) w) {s:Bs} (hs:s.length≤maxLen):
  (Instr.lookup T (.map (some b)) (.string (bs s)) false).run P w=.ok (.int .i64 (numOf m s)) w:=by
 obtain⟨D,hown,hf⟩:=h;obtain⟨c,hrun,hat,_⟩:=hown.lookup_int (string_keyed hk) ht he hz (jD hk hs);rw[(hf s).2] at hat
 injection hat with hat
 injection hat with _ hat
 rw[hrun,hat]
theorem iK.Aw {m:bZ} (h:iK P K E w b n m) (hk:P.underlying K=some .string) (he:P.underlying E=some (.int .i64)) (ht:P.underlying T=some (.map K E)) (hz:(zeroValue E).run P w=.ok (.int .i64 0) w) {s:Bs} (hs:s.length≤maxLen):
  (Instr.lookup T (.map (some b)) (.string (bs s)) true).run P w=.ok (.tuple #[.int .i64 (numOf m s),.bool (m s).isSome]) w:=by
 obtain⟨D,hown,hf⟩:=h;obtain⟨v,ps,hrun,hv⟩:=hown.look_ok (string_keyed hk) ht hz (plainElem_int he (by decide)) (jD hk hs);rw[(hf s).2] at hv;obtain⟨c,rfl,hc,_⟩:=plainElem_int_inv he hv;simp only[Prod.mk.injEq] at hc;have hc:=hc.1
 injection hc with hc
 injection hc with _ hc
 rw[hrun,(hf s).1,←hc]
theorem iK.store {m:bZ} (h:iK P K E w b n m) (hk:P.underlying K=some .string) (he:P.underlying E=some (.int .i64)) (ht:P.underlying T=some (.map K E)) (hn:n<maxLen) {s:Bs} (hs:s.length≤maxLen) {x:Nat} (hx:(Lit.int .i64 (x:Int)).wf=true):
  ∃w',(Instr.mapUpdate T (.map (some b)) (.string (bs s)) (.int .i64 (x:Int))).run P w=.ok () w'∧iK P K E w' b (n+1) (m.put s x)∧w.grownBy w' (some b):=by
 obtain⟨D,hown,hf⟩:=h;obtain⟨w',hrun,r1,r2⟩:=hown.update (string_keyed hk) ht hn (jD hk hs) (plainElem_int he hx);refine⟨w',hrun,⟨_,r1,fun t=>?_⟩,r2⟩
 by_cases e:t=s
 ·subst e;refine⟨by rw[has_put_same hown.isMap (CY _)];simp[bZ.put],?_⟩;rw[atKey_put_same hown.isMap (CY _),eP,if_pos rfl]
 refine⟨by rw[has_put_other (kK e),(hf t).1];simp[bZ.put,e],?_⟩;rw[atKey_put_other (kK e),(hf t).2,eP,if_neg e]
end
section
variable {P:Program} (w:World) {ops:Array Oper} {rest:List Oper} {o:Oper} {a:Act} {Q:Exit→Act→World→Prop}
theorem bM (hg:o.guard=none) (m x:Operand) (t:TypeId) (c:Bool) (hop:o.op=Op.lookup t m x c) (vm vx v:Value) (hm:a.eval m=vm) (hx:a.eval x=vx) (hrun:(Instr.lookup t vm vx c).run P w=.ok v w)
  (hK:wpList P ops Q rest (a.put o.dst v) w):wpList P ops Q (o::rest) a w:=by
 refine wpList_plain hg fun K' hK'=>?_;unfold Oper.wp;simp[execOp,hop,hm,hx,hrun,Result.andThen];exact hK' _ _ hK
theorem aH (hg:o.guard=none) (m x v:Operand) (t:TypeId) (hop:o.op=Op.mapUpdate t m x v) (vm vx vv:Value) (w':World) (hm:a.eval m=vm) (hx:a.eval x=vx) (hv:a.eval v=vv) (hrun:(Instr.mapUpdate t vm vx vv).run P w=.ok () w')
  (hK:wpList P ops Q rest (a.put o.dst undef) w'):wpList P ops Q (o::rest) a w:=by
 refine wpList_plain hg fun K' hK'=>?_;unfold Oper.wp;simp[execOp,hop,hm,hx,hv,hrun,Result.andThen];exact hK' _ _ hK
end
end Go.Proofs.YthngiikhgplldaaGreatDoor
