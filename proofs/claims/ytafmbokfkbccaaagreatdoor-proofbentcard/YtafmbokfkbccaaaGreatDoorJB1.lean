import Derived.WalkKit
import Derived.Lib.Strings
namespace Go.Proofs.YtafmbokfkbccaaaGreatDoor
open Go.RowKit
structure Three {α:Type} (c:α→α→Int):Prop where
 swap:∀a b,c b a= -c a b
 zero:∀a b,c a b=0→a=b
 trans:∀a b d,c a b<0→c b d<0→c a d<0
theorem Three.refl {α:Type} {c:α→α→Int} (h:Three c) (a:α):c a a=0:=by
 have:=h.swap a a;omega
theorem mF:∀x:List UInt8,Op.bytesLess x x=false
 |[]=>rfl
 |a::x=>by simp[Op.bytesLess,mF x]
theorem uN:∀x y z:List UInt8,Op.bytesLess x y=true→Op.bytesLess y z=true→Op.bytesLess x z=true
 |[],[],_,h,_=>by simp[Op.bytesLess] at h
 |[],_::_,[],_,h=>by simp[Op.bytesLess] at h
 |[],_::_,_::_,_,_=>rfl
 |_::_,[],_,h,_=>by simp[Op.bytesLess] at h
 |_::_,_::_,[],_,h=>by simp[Op.bytesLess] at h
 |a::x,b::y,c::z,h,k=>by
  simp only[Op.bytesLess,Bool.or_eq_true,Bool.and_eq_true,decide_eq_true_eq,beq_iff_eq] at h k⊢;rcases h with h|⟨rfl,h⟩ <;> rcases k with k|⟨rfl,k⟩
  ·exact Or.inl (UInt8.lt_trans h k)
  ·exact Or.inl h
  ·exact Or.inl k
  ·exact Or.inr ⟨rfl,uN x y z h k⟩
theorem Bd:∀x y:List UInt8,Op.bytesLess x y=false→x≠y→Op.bytesLess y x=true
 |[],[],_,h=>absurd rfl h
 |[],_::_,h,_=>by simp[Op.bytesLess] at h
 |_::_,[],_,_=>rfl
 |a::x,b::y,h,k=>by
  simp only[Op.bytesLess,Bool.or_eq_false_iff,Bool.and_eq_false_iff,decide_eq_false_iff_not,beq_eq_false_iff_ne,Bool.or_eq_true,Bool.and_eq_true,decide_eq_true_eq,beq_iff_eq] at h⊢
  by_cases e:a=b
  ·subst e;exact Or.inr ⟨rfl,Bd x y (h.2.resolve_left (fun n=>n rfl)) (fun e=>k (by rw[e]))⟩
  ·refine Or.inl ?_;have h1:=h.1;rw[UInt8.lt_iff_toNat_lt] at*;have:a.toNat≠b.toNat:=fun n=>e (UInt8.toNat_inj.1 n);omega
def iD (a b:ByteArray):Int:=if Op.bytesLess a.toList b.toList then-1 else if a.toList==b.toList then 0 else 1
theorem toList_inj {a b:ByteArray} (h:a.toList=b.toList):a=b:=by
 rw[Lib.toList_data,Lib.toList_data] at h;have:a.data=b.data:=Array.toList_inj.1 h;cases a;cases b;simp_all
theorem J7 (x y:List UInt8) (h:Op.bytesLess x y=true):Op.bytesLess y x=false:=by
 cases k:Op.bytesLess y x
 ·rfl
 ·have:=uN x y x h k;rw[mF] at this;cases this
theorem bG:Three iD where
 swap a b:=by
  unfold iD
  by_cases h:Op.bytesLess a.toList b.toList=true
  ·rw[if_pos h,if_neg (by rw[J7 _ _ h];simp)];have:(b.toList==a.toList)=false:=by
    rw[beq_eq_false_iff_ne];intro e;rw[e,mF] at h;cases h
   rw[if_neg (by rw[this];simp)];rfl
  ·by_cases e:a.toList=b.toList
   ·rw[e,mF];simp
   ·have hf:Op.bytesLess a.toList b.toList=false:=by simpa using h
    have:=Bd _ _ hf e;rw[if_pos this,if_neg h,if_neg (by simpa using e)]
 zero a b h:=by
  unfold iD at h;split at h
  ·omega
  ·split at h
   ·exact toList_inj (by simpa using ‹(a.toList==b.toList)=true›)
   ·omega
 trans a b d h k:=by
  unfold iD at*;have h1:Op.bytesLess a.toList b.toList=true:=by
   split at h
   ·assumption
   ·split at h <;> omega
  have k1:Op.bytesLess b.toList d.toList=true:=by
   split at k
   ·assumption
   ·split at k <;> omega
  rw[if_pos (uN _ _ _ h1 k1)];omega
def sj (a b:Int):Int:=if a<b then-1 else if b<a then 1 else 0
theorem jJ:Three sj where
 swap a b:=by unfold sj;split <;> split <;> omega
 zero a b h:=by
  unfold sj at h
  by_cases h1:a<b
  ·rw[if_pos h1] at h;omega
  ·rw[if_neg h1] at h
   by_cases h2:b<a
   ·rw[if_pos h2] at h;omega
   ·omega
 trans a b d h k:=by
  unfold sj at*;have h1:a<b:=by
   refine Int.not_le.1 fun n=> ?_;rw[if_neg (by omega)] at h;split at h <;> omega
  have k1:b<d:=by
   refine Int.not_le.1 fun n=> ?_;rw[if_neg (by omega)] at k;split at k <;> omega
  rw[if_pos (by omega)];omega
def cmpL:List ByteArray→List ByteArray→Int
 |[],[]=>0
 |[],_::_=> -1
 |_::_,[]=>1
 |a::x,b::y=>if iD a b≠0 then iD a b else cmpL x y
theorem wO:∀x y,cmpL y x= -cmpL x y
 |[],[]=>rfl
 |[],_::_=>rfl
 |_::_,[]=>rfl
 |a::x,b::y=>by
  have h:=bG.swap a b;simp only[cmpL]
  by_cases e:iD a b=0
  ·rw[if_neg (by omega),if_neg (by omega)];exact wO x y
  ·rw[if_pos (by omega),if_pos (by omega)];exact h
theorem wP:∀x y,cmpL x y=0→x=y
 |[],[],_=>rfl
 |[],_::_,h=>by simp[cmpL] at h
 |_::_,[],h=>by simp[cmpL] at h
 |a::x,b::y,h=>by
  simp only[cmpL] at h;split at h
  ·exact absurd h ‹_›
  ·have e:iD a b=0:=by omega
   rw[bG.zero a b e,wP x y h]
theorem sS:∀x y z,cmpL x y<0→cmpL y z<0→cmpL x z<0
 |[],[],_,h,_=>by simp[cmpL] at h
 |[],_::_,[],_,k=>by simp[cmpL] at k
 |[],_::_,_::_,_,_=>by simp[cmpL]
 |_::_,[],_,h,_=>by simp[cmpL] at h
 |_::_,_::_,[],_,k=>by simp[cmpL] at k
 |a::x,b::y,c::z,h,k=>by
  simp only[cmpL] at h k⊢
  by_cases e:iD a b=0
  ·have e':=bG.zero _ _ e;subst e';rw[if_neg (by omega)] at h
   by_cases f:iD a c=0
   ·rw[if_neg (by omega)] at k⊢;exact sS x y z h k
   ·rw[if_pos f] at k⊢;exact k
  ·rw[if_pos e] at h
   by_cases f:iD b c=0
   ·have f':=bG.zero _ _ f;subst f';rw[if_pos e];exact h
   ·rw[if_pos f] at k;have:=bG.trans a b c h k;rw[if_pos (by omega)];exact this
abbrev aG:Type:=ByteArray×List ByteArray
def fM (f g:aG):Int:=
 if iD f.1 g.1≠0 then iD f.1 g.1 else if sj f.2.length g.2.length≠0 then sj f.2.length g.2.length else cmpL f.2 g.2
theorem aM:Three fM where
 swap f g:=by
  have h:=bG.swap f.1 g.1;have i:=jJ.swap f.2.length g.2.length;have l:=wO f.2 g.2;unfold fM
  by_cases e:iD f.1 g.1=0
  ·have e':iD g.1 f.1=0:=by omega
   by_cases e2:sj f.2.length g.2.length=0
   ·have e2':sj g.2.length f.2.length=0:=by omega
    simp only[e,e',e2,e2',ne_eq,not_true,if_false];exact l
   ·have e2':¬sj g.2.length f.2.length=0:=by omega
    simp only[e,e',e2,e2',ne_eq,not_true,not_false_eq_true,if_false,if_true];exact i
  ·have e':¬iD g.1 f.1=0:=by omega
   simp only[e,e',ne_eq,not_false_eq_true,if_true];exact h
 zero f g h:=by
  unfold fM at h
  by_cases e:iD f.1 g.1=0
  ·rw[if_neg (by omega)] at h
   by_cases e2:sj f.2.length g.2.length=0
   ·rw[if_neg (by omega)] at h;exact Prod.ext (bG.zero _ _ e) (wP _ _ h)
   ·rw[if_pos e2] at h;exact absurd h e2
  ·rw[if_pos e] at h;exact absurd h e
 trans f g d h k:=by
  unfold fM at*
  by_cases e:iD f.1 g.1=0
  ·rw[bG.zero _ _ e];rw[if_neg (by omega)] at h
   by_cases m:iD g.1 d.1=0
   ·rw[if_neg (by omega)] at k⊢
    by_cases e2:sj f.2.length g.2.length=0
    ·have e3:=jJ.zero _ _ e2;rw[e3];rw[if_neg (by omega)] at h
     by_cases m2:sj g.2.length d.2.length=0
     ·rw[if_neg (by omega)] at k⊢;exact sS _ _ _ h k
     ·rw[if_pos m2] at k⊢;exact k
    ·rw[if_pos e2] at h
     by_cases m2:sj g.2.length d.2.length=0
     ·rw[←jJ.zero _ _ m2,if_pos e2];exact h
     ·rw[if_pos m2] at k;have:=jJ.trans _ _ _ h k;rw[if_pos (by omega)];exact this
   ·rw[if_pos m] at k⊢;exact k
  ·rw[if_pos e] at h
   by_cases m:iD g.1 d.1=0
   ·rw[←bG.zero _ _ m,if_pos e];exact h
   ·rw[if_pos m] at k;have:=bG.trans _ _ _ h k;rw[if_pos (by omega)];exact this
theorem zy {a b c:aG} (h:0≤fM a b) (k:0≤fM b c):0≤fM a c:=by
 refine Int.not_lt.1 fun n=> ?_;have s1:=aM.swap a b;have s2:=aM.swap b c
 by_cases e:fM a b=0
 ·rw[aM.zero _ _ e] at n;omega
 ·by_cases e2:fM b c=0
  ·rw[←aM.zero _ _ e2] at n;omega
  ·have:=aM.trans c b a (by omega) (by omega);have s3:=aM.swap a c;omega
end Go.Proofs.YtafmbokfkbccaaaGreatDoor
namespace Go.Proofs.YtafmbokfkbccaaaGreatDoor
def kC (x:Int):Bool:=decide (97≤x∧x≤122)||decide (48≤x∧x≤57)
def nP (x:Int):Bool:=kC x||decide (65≤x∧x≤90)||decide (x=95)
def oG (x:Int):Bool:=decide (65≤x∧x≤90)
abbrev Bs:=List UInt8
def bs (l:Bs):ByteArray:=⟨l.toArray⟩
def raw (s:ByteArray):Bs:=s.data.toList
theorem jo (s:ByteArray):bs (raw s)=s:=by cases s;simp[bs,raw]
theorem iw (l:Bs):raw (bs l)=l:=by simp[bs,raw]
theorem iN (l:Bs):(bs l).size=l.length:=by simp[bs,ByteArray.size]
theorem aY (s:ByteArray):(raw s).length=s.size:=Array.length_toList
theorem pR {a b:Bs} (h:bs a=bs b):a=b:=by rw[←iw a,h,iw]
theorem Ee {a b:ByteArray} (h:raw a=raw b):a=b:=by rw[←jo a,h,jo]
def dw (c:UInt8):Bool:=nP c.toNat
def isNamed (l:Bs):Bool:=decide (l.length≤12)&&(match l with|[]=>false|c::_=>kC c.toNat)&&l.all dw
def isVar (l:Bs):Bool:=decide (l.length≤12)&&(match l with|[]=>false|c::_=>oG c.toNat)&&l.all dw
end Go.Proofs.YtafmbokfkbccaaaGreatDoor
namespace Go.Proofs.YtafmbokfkbccaaaGreatDoor
def jK:Bool→Bs→Bs
 |_,[]=>[]
 |false,c::t=>if c=32∨c=10 then jK false t else if c=37 then jK true t else c::t
 |true,c::t=>if c=10 then jK false t else jK true t
abbrev skip (l:Bs):Bs:=jK false l
inductive Res (α:Type) where
 |ok (a:α) (r:Bs)
 |bad (e:Int) (r:Bs)
def Res.next {α β:Type} (x:Res α) (f:α→Bs→Res β):Res β:=
 match x with
 | .ok a r=>f a r
 | .bad e r=>.bad e r
def took (g l:Bs):Bool×Bs:=if g.isPrefixOf (skip l) then(true,(skip l).drop g.length) else(false,skip l)
def word (fits:Bs→Bool) (l:Bs):Res Bs:=
 if(skip l).takeWhile dw=[] then .bad 2 (skip l)
 else if fits ((skip l).takeWhile dw) then .ok ((skip l).takeWhile dw) ((skip l).drop ((skip l).takeWhile dw).length)
 else .bad 7 (skip l)
def iE {α:Type} (part:Bs→Res α):Nat→List α→Bs→Res (List α)
 |n,out,l=>if(took [44] l).1 then
   match n with
   |0=>.bad 5 (took [44] l).2
   |n+1=>(part (took [44] l).2).next fun a r=>iE part n (out++[a]) r
  else .ok out (took [44] l).2
def iF {α:Type} (part:Bs→Res α) (most:Nat) (l:Bs):Res (List α):=(part l).next fun a r=>iE part (most-1) [a] r
def dJ {α:Type} (g:Bs) (a:α) (l:Bs):Res α:=if(took g l).1 then .ok a (took g l).2 else .bad 2 (took g l).2
abbrev dh:=Bool×Bs
structure aF where
 no:Bool
 name:Bs
 terms:List dh
deriving DecidableEq
structure aA where
 head:aF
 body:List aF
deriving DecidableEq
def pE (w:Bs):Bool:=isNamed w||isVar w
def term (l:Bs):Res dh:=(word pE l).next fun w r=>.ok (isVar w,w) r
def atom (l:Bs):Res aF:=(word isNamed l).next fun w r=>
 if(took [40] r).1 then(iF term 4 (took [40] r).2).next fun ts r=>dJ [41] ⟨false,w,ts⟩ r else .ok ⟨false,w,[]⟩ (took [40] r).2
def dz (l:Bs):Res aF:=(atom (took [33] l).2).next fun a r=>.ok {a with no:=(took [33] l).1} r
def body (l:Bs):Res (List aF):=iF dz 5 l
def rule (l:Bs):Res aA:=(atom l).next fun a r=>
 if(took [58,45] r).1 then(body (took [58,45] r).2).next fun b r=>dJ [46] ⟨a,b⟩ r else dJ [46] ⟨a,[]⟩ (took [58,45] r).2
def fH:Nat→List aA→Bs→Res (List aA)
 |n,out,l=>if skip l=[] then .ok out [] else
  match n with
  |0=>.bad 5 (skip l)
  |n+1=>(rule (skip l)).next fun a r=>fH n (out++[a]) r
def Ho (l:Bs):Res (List aF):=(body l).next fun b r=>if skip r=[] then .ok b [] else .bad 2 (skip r)
theorem Res.uO {α β:Type} {x:Res α} {f:α→Bs→Res β} {b:β} {r:Bs} (h:x.next f=.ok b r):∃a r',x=.ok a r'∧f a r'=.ok b r:=by
 cases x with
 |ok a r'=>exact⟨a,r',rfl,h⟩
 |bad e r'=>cases h
theorem sU {c:UInt8} {t:Bs} (h:c=32∨c=10):jK false (c::t)=jK false t:=by simp only[jK,if_pos h]
theorem Ef {t:Bs}:jK false (37::t)=jK true t:=by simp[jK]
theorem Ci {c:UInt8} {t:Bs} (h:¬(c=32∨c=10)) (h2:¬c=37):jK false (c::t)=c::t:=by simp only[jK,if_neg h,if_neg h2]
theorem Hq {t:Bs}:jK true (10::t)=jK false t:=by simp[jK]
theorem Eh {c:UInt8} {t:Bs} (h:¬c=10):jK true (c::t)=jK true t:=by simp only[jK,if_neg h]
def Local {α:Type} (P:Bs→Res α):Prop:=∀l a r t,P l=.ok a r→r≠[]→P (l++10::t)=.ok a (r++10::t)
def Ends {α:Type} (P:Bs→Res α):Prop:=∀a r,P []=.ok a r→r=[]
theorem zA {α:Type} {g l r:Bs} {a b:α} (h:dJ g a l=.ok b r):(took g l).1=true∧b=a∧r=(took g l).2:=by
 unfold dJ at h;split at h
 ·cases h;exact⟨by assumption,rfl,rfl⟩
 ·cases h
theorem zB (n:Nat) (out:List aA) {l:Bs} (h:skip l=[]):fH n out l=.ok out []:=by
 unfold fH;exact if_pos h
end Go.Proofs.YtafmbokfkbccaaaGreatDoor
namespace Go.Proofs.YtafmbokfkbccaaaGreatDoor
def eG (l:List Bs) (s:Bs):List Bs:=if l.contains s then l else l++[s]
def bR (l:List Bs) (ts:List dh):List Bs:=ts.foldl (fun l t=>if t.1 then eG l t.2 else l) l
def vars (a:aF):List Bs:=bR [] a.terms
def bI (t:dh):Bool:=if t.1 then !isVar t.2 else !isNamed t.2
def aN (a:aF):Int:=if isNamed a.name=false then 7 else if 4<a.terms.length then 5 else if a.terms.any bI then 7 else 0
def givenBy (l:List aF) (s:Bs):Bool:=l.any fun a=> !a.no&&(vars a).contains s
def bB:List aF→Int
 |[]=>0
 |a::l=>if aN a=0 then bB l else aN a
def aL (l:List aF):Int:=if 5<l.length then 5 else if bB l=0 then(if l.all (fun a=>(vars a).all (givenBy l)) then 0 else 9) else bB l
abbrev fq:=Bs→Option Nat
def fq.put (m:fq) (s:Bs) (n:Nat):fq:=fun t=>if t=s then some n else m t
def bY (m:fq) (a:aF):Bool×fq:=match m a.name with
 |none=>(true,m.put a.name a.terms.length)
 |some n=>(decide (n=a.terms.length),m)
def fitAll:fq→List aF→Bool×fq
 |m,[]=>(true,m)
 |m,a::l=>if(bY m a).1 then fitAll (bY m a).2 l else(false,(bY m a).2)
def aU (m:fq) (r:aA):Int×fq:=
 if aN r.head=0 then
  if r.head.no then(2,m) else
  if aL r.body=0 then
   if(vars r.head).all (givenBy r.body) then
    if(bY m r.head).1 then(if(fitAll (bY m r.head).2 r.body).1 then 0 else 8,(fitAll (bY m r.head).2 r.body).2) else(8,(bY m r.head).2)
   else(9,m)
  else(aL r.body,m)
 else(aN r.head,m)
def iO:fq→Nat→List aA→Int×Nat
 |_,_,[]=>(0,0)
 |m,i,r::l=>if(aU m r).1=0 then iO (aU m r).2 (i+1) l else((aU m r).1,i)
def gG (p:List aA):Int×Nat:=if 16<p.length then(5,0) else iO (fun _=>none) 0 p
def behind (m:fq) (a:aF):Nat:=match m a.name with
 |none=>0
 |some n=>if a.no then n+1 else n
def numOf (m:fq) (s:Bs):Nat:=(m s).getD 0
def bC (h:Bs) (x:fq×Bool) (a:aF):fq×Bool:=if numOf x.1 h<behind x.1 a then(x.1.put h (behind x.1 a),true) else x
def iV (x:fq×Bool) (r:aA):fq×Bool:=r.body.foldl (bC r.head.name) x
def liftAll (x:fq×Bool) (p:List aA):fq×Bool:=p.foldl iV x
def jC (m:fq) (p:List aA):fq:=p.foldl (fun m r=>m.put r.head.name 0) m
def start (p:List aA):fq:=jC (fun _=>none) p
def gK (p:List aA):Nat→fq→Option fq
 |0,_=>none
 |n+1,m=>if(liftAll (m,false) p).2 then gK p n (liftAll (m,false) p).1 else some (liftAll (m,false) p).1
def each (m:fq) (p:List aA):List Nat:=p.map fun r=>numOf m r.head.name
def aS (p:List aA):List Nat×Int×Nat:=
 if(gG p).1=0 then match gK p (p.length+1) (start p) with
  |some m=>(each m p,0,0)
  |none=>([],10,0)
 else([],gG p)
def mG (p:List aA) (s:Bs):Prop:=∃r∈p,r.head.name=s
def step (a:aF):Nat:=if a.no then 1 else 0
def Sol (p:List aA) (σ:Bs→Nat):Prop:=∀r∈p,∀a∈r.body,mG p a.name→σ a.name+step a≤σ r.head.name
def zw (p:List aA) (m:fq):Prop:=∀s,(m s).isSome↔mG p s
def oZ (p:List aA) (m:fq):Prop:=∀σ,Sol p σ→∀s,numOf m s≤σ s
theorem wQ {p:List aA} {m:fq} (hd:zw p m) (a:aF) (h:mG p a.name):behind m a=numOf m a.name+step a:=by
 unfold behind numOf step;have:=(hd a.name).2 h;obtain⟨n,hn⟩:=Option.isSome_iff_exists.1 this;rw[hn];cases a.no <;> simp
theorem zC {p:List aA} {m:fq} (hd:zw p m) (a:aF) (h:¬mG p a.name):behind m a=0:=by
 unfold behind;have:m a.name=none:=by
  cases e:m a.name with
  |none=>rfl
  |some n=>exact absurd ((hd a.name).1 (by rw[e];rfl)) h
 rw[this]
theorem jL (m:fq) (s t:Bs) (n:Nat):numOf (m.put s n) t=if t=s then n else numOf m t:=by
 unfold numOf fq.put
 by_cases h:t=s <;> simp[h]
theorem zw.put {p:List aA} {m:fq} (hd:zw p m) {s:Bs} (hs:mG p s) (n:Nat):zw p (m.put s n):=by
 intro t;unfold fq.put
 by_cases h:t=s
 ·subst h;simp[hs]
 ·rw[if_neg h];exact hd t
theorem uP {p:List aA} {r:aA} (hr:r∈p) {x:fq×Bool} (hd:zw p x.1) (hl:oZ p x.1) {a:aF} (ha:a∈r.body):
  zw p (bC r.head.name x a).1∧oZ p (bC r.head.name x a).1∧∀s,numOf x.1 s≤numOf (bC r.head.name x a).1 s:=by
 unfold bC;split
 ·rename_i hlt;refine⟨hd.put ⟨r,hr,rfl⟩ _,fun σ hσ s=> ?_,fun s=> ?_⟩
  ·show numOf (x.1.put _ _) s≤_;rw[jL];split
   ·rename_i h;subst h
    by_cases hh:mG p a.name
    ·rw[wQ hd a hh];have h1:=hσ r hr a ha hh;have h2:=hl σ hσ a.name;omega
    ·rw[zC hd a hh];omega
   ·exact hl σ hσ s
  ·show _≤numOf (x.1.put _ _) s;rw[jL];split
   ·rename_i h;subst h;omega
   ·exact Nat.le_refl _
 ·exact⟨hd,hl,fun _=>Nat.le_refl _⟩
theorem uQ {p:List aA} {r:aA} (hr:r∈p) (l:List aF):∀{x:fq×Bool},zw p x.1→oZ p x.1→(∀a∈l,a∈r.body)→
  zw p (l.foldl (bC r.head.name) x).1∧oZ p (l.foldl (bC r.head.name) x).1∧∀s,numOf x.1 s≤numOf (l.foldl (bC r.head.name) x).1 s:=by
 induction l with
 |nil=>intro x hd hl _;exact⟨hd,hl,fun _=>Nat.le_refl _⟩
 |cons a l ih=>
  intro x hd hl ha;obtain⟨d1,l1,u1⟩:=uP hr hd hl (ha a (by simp));obtain⟨d2,l2,u2⟩:=ih d1 l1 (fun b hb=>ha b (by simp[hb]));exact⟨d2,l2,fun s=>Nat.le_trans (u1 s) (u2 s)⟩
theorem wR {p:List aA} (l:List aA):∀{x:fq×Bool},zw p x.1→oZ p x.1→(∀r∈l,r∈p)→
  zw p (liftAll x l).1∧oZ p (liftAll x l).1∧∀s,numOf x.1 s≤numOf (liftAll x l).1 s:=by
 induction l with
 |nil=>intro x hd hl _;exact⟨hd,hl,fun _=>Nat.le_refl _⟩
 |cons r l ih=>
  intro x hd hl hr;obtain⟨d1,l1,u1⟩:=uQ (hr r (by simp)) r.body hd hl (fun a h=>h);obtain⟨d2,l2,u2⟩:=ih d1 l1 (fun b hb=>hr b (by simp[hb]));exact⟨d2,l2,fun s=>Nat.le_trans (u1 s) (u2 s)⟩
theorem uR (h:Bs) (x:fq×Bool) (a:aF) (hx:x.2=true):(bC h x a).2=true:=by unfold bC;split <;> simp[hx]
theorem mH (h:Bs) (l:List aF):∀x:fq×Bool,x.2=true→(l.foldl (bC h) x).2=true:=by
 induction l with
 |nil=>intro x hx;exact hx
 |cons a l ih=>intro x hx;exact ih _ (uR h x a hx)
theorem wS (l:List aA):∀x:fq×Bool,x.2=true→(liftAll x l).2=true:=by
 induction l with
 |nil=>intro x hx;exact hx
 |cons r l ih=>intro x hx;exact ih _ (mH _ _ x hx)
theorem uS (h:Bs) (l:List aF):∀m:fq,(l.foldl (bC h) (m,false)).2=false→l.foldl (bC h) (m,false)=(m,false)∧∀a∈l,behind m a≤numOf m h:=by
 induction l with
 |nil=>intro m _;exact⟨rfl,by simp⟩
 |cons a l ih=>
  intro m hm;rw[List.foldl_cons] at hm⊢
  by_cases hlt:numOf m h<behind m a
  ·have:(bC h (m,false) a).2=true:=by unfold bC;rw[if_pos hlt]
   rw[mH h l _ this] at hm;cases hm
  ·have e:bC h (m,false) a=(m,false):=by unfold bC;rw[if_neg hlt]
   rw[e] at hm⊢;obtain⟨h1,h2⟩:=ih m hm;refine⟨h1,fun b hb=> ?_⟩;rcases List.mem_cons.1 hb with rfl|hb
   ·omega
   ·exact h2 b hb
theorem wT (l:List aA):∀m:fq,(liftAll (m,false) l).2=false→liftAll (m,false) l=(m,false)∧∀r∈l,∀a∈r.body,behind m a≤numOf m r.head.name:=by
 induction l with
 |nil=>intro m _;exact⟨rfl,by simp⟩
 |cons r l ih=>
  intro m hm;unfold liftAll at hm⊢;rw[List.foldl_cons] at hm⊢;have h0:(iV (m,false) r).2=false:=by
   cases hc:(iV (m,false) r).2 with
   |false=>rfl
   |true=>have:=wS l _ hc;unfold liftAll at this;rw[this] at hm;cases hm
  obtain⟨e,h1⟩:=uS _ _ m h0;have e':iV (m,false) r=(m,false):=e;rw[e'] at hm⊢;obtain⟨h2,h3⟩:=ih m hm;refine⟨h2,fun q hq=> ?_⟩;rcases List.mem_cons.1 hq with rfl|hq
  ·exact h1
  ·exact h3 q hq
theorem zD (l:List aA):∀(m:fq) (s:Bs),(jC m l s).isSome↔((m s).isSome∨mG l s):=by
 induction l with
 |nil=>intro m s;simp[jC,mG]
 |cons r l ih=>
  intro m s;show(jC (m.put r.head.name 0) l s).isSome↔_;rw[ih];unfold fq.put mG
  by_cases h:s=r.head.name
  ·subst h;simp
  ·have h':¬r.head.name=s:=fun e=>h e.symm;simp[h,h']
theorem wU (l:List aA):∀(m:fq),(∀s,numOf m s=0)→∀s,numOf (jC m l) s=0:=by
 induction l with
 |nil=>intro m h;exact h
 |cons r l ih=>
  intro m h;exact ih _ fun s=>by rw[jL];split <;> simp[h]
theorem Ei (p:List aA):zw p (start p):=fun s=>by unfold start;rw[zD];simp
theorem sV (p:List aA) (s:Bs):numOf (start p) s=0:=wU p _ (fun _=>rfl) s
theorem zF (p:List aA):oZ p (start p):=fun σ _ s=>by rw[sV];exact Nat.zero_le _
theorem uT {p:List aA}:∀(n:Nat) (m m':fq),zw p m→oZ p m→gK p n m=some m'→zw p m'∧oZ p m'∧∀r∈p,∀a∈r.body,behind m' a≤numOf m' r.head.name:=by
 intro n
 induction n with
 |zero=>intro m m' _ _ h;cases h
 |succ n ih=>
  intro m m' hd hl h;unfold gK at h;split at h
  ·obtain⟨d1,l1,_⟩:=wR p hd hl (x:=(m,false)) (fun _ h=>h);exact ih _ _ d1 l1 h
  ·rename_i hf;obtain⟨e,h1⟩:=wT p m (by simpa using hf);rw[e] at h;cases h;exact⟨hd,hl,h1⟩
theorem Mh {p:List aA} {m:fq} (hd:zw p m) (h:∀r∈p,∀a∈r.body,behind m a≤numOf m r.head.name):Sol p (numOf m):=fun r hr a ha hh=>by
 rw[←wQ hd a hh];exact h r hr a ha
theorem kV {p:List aA} {l:List Nat} {k:Nat} (h:aS p=(l,0,k)):(gG p).1=0∧∃m,l=each m p∧zw p m∧oZ p m∧Sol p (numOf m):=by
 unfold aS at h;split at h
 ·rename_i h0;split at h
  ·rename_i m hm;obtain⟨d,le,s⟩:=uT _ _ _ (Ei p) (zF p) hm;simp at h;exact⟨h0,m,h.1.symm,d,le,Mh d s⟩
  ·simp at h
 ·rename_i h0;rw[Prod.mk.injEq] at h;exact absurd (congrArg Prod.fst h.2) h0
theorem Mi {p:List aA} {m:fq} (hl:oZ p m) (hs:Sol p (numOf m)) (k:Nat) (hk:∀r∈p,numOf m r.head.name≠k):∀r∈p,numOf m r.head.name<k:=by
 intro r hr;have hσ:Sol p (fun s=>if numOf m s>k then numOf m s-1 else numOf m s):=by
  intro q hq a ha hh;have h1:=hs q hq a ha hh;have h2:=hk q hq;obtain⟨q',hq',e'⟩:=hh;have h3:=hk q' hq';rw[e'] at h3;have h4:step a≤1:=by unfold step;split <;> omega
  show(if numOf m a.name>k then _ else _)+_≤(if numOf m q.head.name>k then _ else _);split <;> split <;> omega
 have h1:numOf m r.head.name≤(if numOf m r.head.name>k then numOf m r.head.name-1 else numOf m r.head.name):=hl _ hσ r.head.name;have h2:=hk r hr;split at h1 <;> omega
theorem Mj {p:List aA} {f g:aA→Nat} (h:∀r∈p,f r≤g r):(p.map f).sum≤(p.map g).sum:=by
 induction p with
 |nil=>simp
 |cons a p ih=>
  have:=ih fun r hr=>h r (by simp[hr]);have:=h a (by simp);simp;omega
theorem sum_lt {p:List aA} {f g:aA→Nat} (h:∀r∈p,f r≤g r) (hx:∃r∈p,f r<g r):(p.map f).sum<(p.map g).sum:=by
 induction p with
 |nil=>obtain⟨r,hr,_⟩:=hx;simp at hr
 |cons a p ih=>
  have h1:=Mj fun r hr=>h r (List.mem_cons_of_mem a hr);have h2:=h a (by simp);obtain⟨r,hr,hlt⟩:=hx;rcases List.mem_cons.1 hr with rfl|hr
  ·simp;omega
  ·have:=ih (fun r hr=>h r (by simp[hr])) ⟨r,hr,hlt⟩;simp;omega
def settled (p:List aA) (τ:Bs→Nat) (m:fq):Nat:=(p.map fun r=>if numOf m r.head.name=τ r.head.name then 1 else 0).sum
end Go.Proofs.YtafmbokfkbccaaaGreatDoor
