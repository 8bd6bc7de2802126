import Derived.WalkKit
import Derived.Lib.Strings
import Derived.Sort.Grow
import Derived.Deep.Draws
import Derived.Test.YtaallngooaaonaaGreatDoorChecked
import Derived.WalkSpells
import Derived.WalkLawsBesides
open Go.RowKit Go.Sort
set_option maxHeartbeats 1000000
set_option maxRecDepth 100000
namespace Go.Proofs.YtaallngooaaonaaGreatDoor
structure Three {α:Type} (c:α→α→Int):Prop where
 swap:∀a b,c b a= -c a b
 zero:∀a b,c a b=0→a=b
 trans:∀a b d,c a b<0→c b d<0→c a d<0
theorem Three.refl {α:Type} {c:α→α→Int} (h:Three c) (a:α):c a a=0:=by have:=h.swap a a;omega
theorem lW:∀x:List UInt8,Op.bytesLess x x=false
 |[]=>rfl
 |a::x=>by simp[Op.bytesLess,lW x]
theorem x9:∀x y z:List UInt8,Op.bytesLess x y=true→Op.bytesLess y z=true→Op.bytesLess x z=true
 |[],[],_,h,_=>by simp[Op.bytesLess] at h
 |[],_::_,[],_,h=>by simp[Op.bytesLess] at h
 |[],_::_,_::_,_,_=>rfl
 |_::_,[],_,h,_=>by simp[Op.bytesLess] at h
 |_::_,_::_,[],_,h=>by simp[Op.bytesLess] at h
 |a::x,b::y,c::z,h,k=>by
  simp only[Op.bytesLess,Bool.or_eq_true,Bool.and_eq_true,decide_eq_true_eq,beq_iff_eq] at h k⊢;rcases h with h|⟨rfl,h⟩ <;> rcases k with k|⟨rfl,k⟩
  ·exact Or.inl (UInt8.lt_trans h k)
  ·exact Or.inl h
  ·exact Or.inl k
  exact Or.inr ⟨rfl,x9 x y z h k⟩
theorem Da:∀x y:List UInt8,Op.bytesLess x y=false→x≠y→Op.bytesLess y x=true
 |[],[],_,h=>absurd rfl h
 |[],_::_,h,_=>by simp[Op.bytesLess] at h
 |_::_,[],_,_=>rfl
 |a::x,b::y,h,k=>by
  simp only[Op.bytesLess,Bool.or_eq_false_iff,Bool.and_eq_false_iff,decide_eq_false_iff_not,beq_eq_false_iff_ne,Bool.or_eq_true,Bool.and_eq_true,decide_eq_true_eq,beq_iff_eq] at h⊢
  by_cases e:a=b
  ·subst e;exact Or.inr ⟨rfl,Da x y (h.2.resolve_left (fun n=>n rfl)) (fun e=>k (by rw[e]))⟩
  refine Or.inl ?_;have h1:=h.1;rw[UInt8.lt_iff_toNat_lt] at*;have:a.toNat≠b.toNat:=fun n=>e (UInt8.toNat_inj.1 n);omega
def jg (a b:ByteArray):Int:=if Op.bytesLess a.toList b.toList then-1 else if a.toList==b.toList then 0 else 1
theorem toList_inj {a b:ByteArray} (h:a.toList=b.toList):a=b:=by rw[Lib.toList_data,Lib.toList_data] at h;have:a.data=b.data:=Array.toList_inj.1 h;cases a;cases b;simp_all
theorem Nc (x y:List UInt8) (h:Op.bytesLess x y=true):Op.bytesLess y x=false:=by
 cases k:Op.bytesLess y x;·rfl
 have:=x9 x y x h k;rw[lW] at this;cases this
theorem cK:Three jg where
 swap a b:=by
  unfold jg
  by_cases h:Op.bytesLess a.toList b.toList=true
  ·rw[if_pos h,if_neg (by rw[Nc _ _ h];simp)];have:(b.toList==a.toList)=false:=by
    rw[beq_eq_false_iff_ne];intro e;rw[e,lW] at h;cases h
   rw[if_neg (by rw[this];simp)];rfl
  by_cases e:a.toList=b.toList
  ·rw[e,lW];simp
  have hf:Op.bytesLess a.toList b.toList=false:=by simpa using h
  have:=Da _ _ hf e;rw[if_pos this,if_neg h,if_neg (by simpa using e)]
 zero a b h:=by
  unfold jg at h;split at h;·omega
  split at h;·exact toList_inj (by simpa using ‹(a.toList==b.toList)=true›)
  omega
 trans a b d h k:=by
  unfold jg at*;have h1:Op.bytesLess a.toList b.toList=true:=by
   split at h;·assumption
   split at h <;> omega
  have k1:Op.bytesLess b.toList d.toList=true:=by
   split at k;·assumption
   split at k <;> omega
  rw[if_pos (x9 _ _ _ h1 k1)];omega
def vP (a b:Int):Int:=if a<b then-1 else if b<a then 1 else 0
theorem kC:Three vP where
 swap a b:=by unfold vP;split <;> split <;> omega
 zero a b h:=by
  unfold vP at h
  by_cases h1:a<b
  ·rw[if_pos h1] at h;omega
  rw[if_neg h1] at h
  by_cases h2:b<a
  ·rw[if_pos h2] at h;omega
  omega
 trans a b d h k:=by
  unfold vP at*;have h1:a<b:=by refine Int.not_le.1 fun n=>?_;rw[if_neg (by omega)] at h;split at h <;> omega
  have k1:b<d:=by refine Int.not_le.1 fun n=>?_;rw[if_neg (by omega)] at k;split at k <;> omega
  rw[if_pos (by omega)];omega
def cmpL:List ByteArray→List ByteArray→Int
 |[],[]=>0
 |[],_::_=> -1
 |_::_,[]=>1
 |a::x,b::y=>if jg a b≠0 then jg a b else cmpL x y
theorem zH:∀x y,cmpL y x= -cmpL x y
 |[],[]=>rfl
 |[],_::_=>rfl
 |_::_,[]=>rfl
 |a::x,b::y=>by
  have h:=cK.swap a b;simp only[cmpL]
  by_cases e:jg a b=0
  ·rw[if_neg (by omega),if_neg (by omega)];exact zH x y
  rw[if_pos (by omega),if_pos (by omega)];exact h
theorem zI:∀x y,cmpL x y=0→x=y
 |[],[],_=>rfl
 |[],_::_,h=>by simp[cmpL] at h
 |_::_,[],h=>by simp[cmpL] at h
 |a::x,b::y,h=>by
  simp only[cmpL] at h;split at h;·exact absurd h ‹_›
  have e:jg a b=0:=by omega
  rw[cK.zero a b e,zI x y h]
theorem wu:∀x y z,cmpL x y<0→cmpL y z<0→cmpL x z<0
 |[],[],_,h,_=>by simp[cmpL] at h
 |[],_::_,[],_,k=>by simp[cmpL] at k
 |[],_::_,_::_,_,_=>by simp[cmpL]
 |_::_,[],_,h,_=>by simp[cmpL] at h
 |_::_,_::_,[],_,k=>by simp[cmpL] at k
 |a::x,b::y,c::z,h,k=>by
  simp only[cmpL] at h k⊢
  by_cases e:jg a b=0
  ·have e':=cK.zero _ _ e;subst e';rw[if_neg (by omega)] at h
   by_cases f:jg a c=0
   ·rw[if_neg (by omega)] at k⊢;exact wu x y z h k
   rw[if_pos f] at k⊢;exact k
  rw[if_pos e] at h
  by_cases f:jg b c=0
  ·have f':=cK.zero _ _ f;subst f';rw[if_pos e];exact h
  rw[if_pos f] at k;have:=cK.trans a b c h k;rw[if_pos (by omega)];exact this
abbrev aN:Type:=ByteArray×List ByteArray
def fO (f g:aN):Int:=
 if jg f.1 g.1≠0 then jg f.1 g.1 else if vP f.2.length g.2.length≠0 then vP f.2.length g.2.length else cmpL f.2 g.2
theorem aW:Three fO where
 swap f g:=by
  have h:=cK.swap f.1 g.1;have i:=kC.swap f.2.length g.2.length;have l:=zH f.2 g.2;unfold fO
  by_cases e:jg f.1 g.1=0
  ·have e':jg g.1 f.1=0:=by omega
   by_cases e2:vP f.2.length g.2.length=0
   ·have e2':vP g.2.length f.2.length=0:=by omega
    simp only[e,e',e2,e2',ne_eq,not_true,if_false];exact l
   have e2':¬vP g.2.length f.2.length=0:=by omega
   simp only[e,e',e2,e2',ne_eq,not_true,not_false_eq_true,if_false,if_true];exact i
  have e':¬jg g.1 f.1=0:=by omega
  simp only[e,e',ne_eq,not_false_eq_true,if_true];exact h
 zero f g h:=by
  unfold fO at h
  by_cases e:jg f.1 g.1=0
  ·rw[if_neg (by omega)] at h
   by_cases e2:vP f.2.length g.2.length=0
   ·rw[if_neg (by omega)] at h;exact Prod.ext (cK.zero _ _ e) (zI _ _ h)
   rw[if_pos e2] at h;exact absurd h e2
  rw[if_pos e] at h;exact absurd h e
 trans f g d h k:=by
  unfold fO at*
  by_cases e:jg f.1 g.1=0
  ·rw[cK.zero _ _ e];rw[if_neg (by omega)] at h
   by_cases m:jg g.1 d.1=0
   ·rw[if_neg (by omega)] at k⊢
    by_cases e2:vP f.2.length g.2.length=0
    ·have e3:=kC.zero _ _ e2;rw[e3];rw[if_neg (by omega)] at h
     by_cases m2:vP g.2.length d.2.length=0
     ·rw[if_neg (by omega)] at k⊢;exact wu _ _ _ h k
     rw[if_pos m2] at k⊢;exact k
    rw[if_pos e2] at h
    by_cases m2:vP g.2.length d.2.length=0
    ·rw[←kC.zero _ _ m2,if_pos e2];exact h
    rw[if_pos m2] at k;have:=kC.trans _ _ _ h k;rw[if_pos (by omega)];exact this
   rw[if_pos m] at k⊢;exact k
  rw[if_pos e] at h
  by_cases m:jg g.1 d.1=0
  ·rw[←cK.zero _ _ m,if_pos e];exact h
  rw[if_pos m] at k;have:=cK.trans _ _ _ h k;rw[if_pos (by omega)];exact this
theorem BG {a b c:aN} (h:0≤fO a b) (k:0≤fO b c):0≤fO a c:=by
 refine Int.not_lt.1 fun n=>?_;have s1:=aW.swap a b;have s2:=aW.swap b c
 by_cases e:fO a b=0
 ·rw[aW.zero _ _ e] at n;omega
 by_cases e2:fO b c=0
 ·rw[←aW.zero _ _ e2] at n;omega
 have:=aW.trans c b a (by omega) (by omega);have s3:=aW.swap a c;omega
def jh (x:Int):Bool:=decide (97≤x∧x≤122)||decide (48≤x∧x≤57)
def kD (x:Int):Bool:=jh x||decide (65≤x∧x≤90)||decide (x=95)
def lX (x:Int):Bool:=decide (65≤x∧x≤90)
abbrev Bs:=List UInt8
def bs (l:Bs):ByteArray:=⟨l.toArray⟩
def raw (s:ByteArray):Bs:=s.data.toList
theorem iT (s:ByteArray):bs (raw s)=s:=by cases s;simp[bs,raw]
theorem jI (l:Bs):raw (bs l)=l:=by simp[bs,raw]
theorem jJ (l:Bs):(bs l).size=l.length:=by simp[bs,ByteArray.size]
theorem bZ (s:ByteArray):(raw s).length=s.size:=Array.length_toList
theorem mZ {a b:Bs} (h:bs a=bs b):a=b:=by rw[←jI a,h,jI]
theorem qm {a b:ByteArray} (h:raw a=raw b):a=b:=by rw[←iT a,h,iT]
def gJ (c:UInt8):Bool:=kD c.toNat
def isNamed (l:Bs):Bool:=decide (l.length≤12)&&(match l with|[]=>false|c::_=>jh c.toNat)&&l.all gJ
def isVar (l:Bs):Bool:=decide (l.length≤12)&&(match l with|[]=>false|c::_=>lX c.toNat)&&l.all gJ
theorem au {p:Prop} (h:p):Hid p:=h
theorem bK {p:Prop} (h:Hid p):p:=h
theorem qo {k:IntKind} {a b:Int} (h:a=b):Ending.returned (.int k a)=.returned (.int k b):=by rw[h]
theorem bU {a b:Bool} (h:a=b):Ending.returned (.bool a)=.returned (.bool b):=by rw[h]
def ak (w w':World):Prop:=∃q os,w'=grow (w.drewN q) os
theorem ak.refl (w:World):ak w w:=⟨0,#[],by rw[grow_empty];rfl⟩
theorem ak.trans {a b c:World} (h:ak a b) (k:ak b c):ak a c:=by obtain⟨q,os,rfl⟩:=h;obtain⟨r,ps,rfl⟩:=k;exact⟨q+r,os++ps,by show grow (grow ((a.drewN q).drewN r) os) ps=_;rw[grow_grow,World.drewN_drewN]⟩
theorem ak.alloc {a b:World} (h:ak a b) (o:Obj):ak a (b.alloc o):=h.trans ⟨0,#[o],by rw[alloc_eq_grow];rfl⟩
theorem ak.drew {a b:World} (h:ak a b):ak a b.drew:=h.trans ⟨1,#[],by rw[grow_empty];rfl⟩
theorem ak.drewN {a b:World} (h:ak a b) (n:Nat):ak a (b.drewN n):=h.trans ⟨n,#[],by rw[grow_empty]⟩
theorem ak.grow {a b:World} (h:ak a b) (os:Array Obj):ak a (Go.Sort.grow b os):=h.trans ⟨0,os,rfl⟩
theorem ak.size {a b:World} (h:ak a b):a.heap.size≤b.heap.size:=by obtain⟨q,os,rfl⟩:=h;rw[size_grow];exact Nat.le_add_right _ _
theorem ak.block {a b:World} (h:ak a b) {k:Nat} (hk:k<a.heap.size):b.heap[k]?=a.heap[k]?:=by obtain⟨q,os,rfl⟩:=h;exact heap_grow_old (a.drewN q) os hk
theorem ak.cell {a b:World} (h:ak a b) {p:Addr} (hp:p.block<a.heap.size):b.cell? p=a.cell? p:=World.cell?_of_block (w:=a) (h.block hp)
theorem ak.frozen {a b:World} (h:ak a b) {p:Addr} (hp:p.block<a.heap.size):b.frozen? p=a.frozen? p:=World.frozen?_of_block (w:=a) (h.block hp)
theorem ak.below {a b:World} (h:ak a b):Below a.heap.size a b:=by obtain⟨q,os,rfl⟩:=h;exact⟨rfl,rfl,rfl,by rw[size_grow];exact Nat.le_add_right _ _,fun k hk=>heap_grow_old (a.drewN q) os hk⟩
theorem ak.drawn {a b:World} (h:ak a b):a.drawn≤b.drawn:=by obtain⟨q,os,rfl⟩:=h;exact Nat.le_add_right _ _
theorem ak.of_below {a b:World} (h:Below a.heap.size a b) (hd:a.drawn≤b.drawn):ak a b:=by
 refine⟨b.drawn-a.drawn,b.heap.extract a.heap.size b.heap.size,?_⟩;have hheap:b.heap=a.heap++b.heap.extract a.heap.size b.heap.size:=by
  apply Array.ext_getElem?
  intro i;rw[Array.getElem?_append];split;·rename_i hi;exact h.block i hi
  rename_i hi;rw[Array.getElem?_extract];have:=h.size
  by_cases hb:i<b.heap.size
  ·rw[if_pos (by omega)];congr 1;omega
  rw[if_neg (by omega),Array.getElem?_eq_none (by omega)]
 obtain⟨bh,bt,bd,bo,bp⟩:=b;obtain⟨ah,at',ad,ao,ap⟩:=a;have e1:=h.os;have e2:=h.tape;have e3:=h.output;simp only at e1 e2 e3 hheap hd;subst e1 e2 e3;show World.mk bh bt bd bo bp=World.mk (ah++bh.extract ah.size bh.size) bt (ad+(bd-ad)) bo bp;rw[show ad+(bd-ad)=bd by omega,←hheap]
theorem ak.setCell {a b:World} (h:ak a b) {p:Addr} (hp:a.heap.size≤p.block) (v:Value):ak a (b.setCell p v):=
 ak.of_below (h.below.setCell hp v) h.drawn
def Strs (w:World) (v:Value) (l:List ByteArray):Prop:=
 l.length≤8796093022208∧∃a cap,v=.slice a l.length cap∧(l≠[]→∃b off,a=some ⟨b,off,none⟩∧b<w.heap.size∧∀i,i<l.length→w.cell? ⟨b,off+i,none⟩=some (.string (l.getD i ByteArray.empty)))
theorem Strs.later {w w':World} {v:Value} {l:List ByteArray} (h:Strs w v l) (k:ak w w'):Strs w' v l:=by obtain⟨h0,a,cap,rfl,h1⟩:=h;refine⟨h0,a,cap,rfl,fun hl=>?_⟩;obtain⟨b,off,rfl,hb,hc⟩:=h1 hl;exact⟨b,off,rfl,Nat.lt_of_lt_of_le hb k.size,fun i hi=>by rw[k.cell (p:=⟨b,off+i,none⟩) hb];exact hc i hi⟩
def dD (w:World) (v:Value) (f:aN):Prop:=∃s,v=.agg #[.string f.1,s]∧Strs w s f.2
theorem dD.later {w w':World} {v:Value} {f:aN} (h:dD w v f) (k:ak w w'):dD w' v f:=by obtain⟨s,rfl,h1⟩:=h;exact⟨s,rfl,h1.later k⟩
def aC:aN:=(ByteArray.empty,[])
def Facts (w:World) (v:Value) (l:List aN):Prop:=
 l.length≤3518437208883∧∃a cap,v=.slice a l.length cap∧(l≠[]→∃b off,a=some ⟨b,off,none⟩∧b<w.heap.size∧∀i,i<l.length→w.cell? ⟨b,off+i*2,none⟩=some (.string (l.getD i aC).1)∧∃s,w.cell? ⟨b,off+i*2+1,none⟩=some s∧Strs w s (l.getD i aC).2)
theorem Facts.later {w w':World} {v:Value} {l:List aN} (h:Facts w v l) (k:ak w w'):Facts w' v l:=by obtain⟨h0,a,cap,rfl,h1⟩:=h;refine⟨h0,a,cap,rfl,fun hl=>?_⟩;obtain⟨b,off,rfl,hb,hc⟩:=h1 hl;refine⟨b,off,rfl,Nat.lt_of_lt_of_le hb k.size,fun i hi=>?_⟩;obtain⟨c1,s,c2,c3⟩:=hc i hi;exact⟨by rw[k.cell (p:=⟨b,off+i*2,none⟩) hb];exact c1,s,by rw[k.cell (p:=⟨b,off+i*2+1,none⟩) hb];exact c2,c3.later k⟩
theorem aF {w:World} {v:Value} {l:List aN} (h:Facts w v l):∃a cap,v=.slice a l.length cap:=by obtain⟨_,a,cap,rfl,_⟩:=h;exact⟨a,cap,rfl⟩
theorem bA {w:World} {v:Value} {l:List ByteArray} (h:Strs w v l):∃a cap,v=.slice a l.length cap:=by obtain⟨_,a,cap,rfl,_⟩:=h;exact⟨a,cap,rfl⟩
theorem zJ (x y:List ByteArray) (i:Nat) (hx:i<x.length) (hy:i<y.length):
  cmpL (x.drop i) (y.drop i)=if jg (x.getD i ByteArray.empty) (y.getD i ByteArray.empty)≠0 then jg (x.getD i ByteArray.empty) (y.getD i ByteArray.empty) else cmpL (x.drop (i+1)) (y.drop (i+1)):=by
 rw[List.drop_eq_getElem_cons hx,List.drop_eq_getElem_cons hy,cmpL];simp[List.getD_eq_getElem?_getD,hx,hy]
theorem oz (x y:List ByteArray) (i:Nat) (hx:x.length≤i):cmpL (x.drop i) (y.drop i)=if i<y.length then-1 else 0:=by
 rw[List.drop_eq_nil_of_le hx]
 by_cases hy:i<y.length
 ·rw[List.drop_eq_getElem_cons hy,if_pos hy];rfl
 rw[List.drop_eq_nil_of_le (by omega),if_neg hy];rfl
theorem vQ (x y:List ByteArray) (i:Nat) (hx:i<x.length) (hy:y.length≤i):cmpL (x.drop i) (y.drop i)=1:=by rw[List.drop_eq_nil_of_le hy,List.drop_eq_getElem_cons hx];rfl
theorem Gt (x:ByteArray) (w:World):Calls Tryz.prog 123 #[.string x] w fun e w'=>e=.returned (.bool false)∧w'=w:=by
 go_enter Tryz.func123,Tryz.ntmps123
 go_wp2;go_ret;exact⟨by simp,rfl⟩
theorem Gu (x:Int) (w:World):Calls Tryz.prog 124 #[.int .i64 x] w fun e w'=>e=.returned (.bool false)∧w'=w:=by
 go_enter Tryz.func124,Tryz.ntmps124
 go_wp2;go_ret;exact⟨by simp,rfl⟩
theorem kP (x y:ByteArray) (w:World):Calls Tryz.prog 94 #[.string x,.string y] w fun e w'=>e=.returned (.int .i64 (jg x y))∧w'=w:=by
 unfold jg;cases h:Op.bytesLess x.toList y.toList
 ·cases h2:(x.toList==y.toList)
  ·go_enter Tryz.func94,Tryz.ntmps94
   go_wp2_with (go_at_call 123;refine(Gt _ _).mono ?_;rintro e w' ⟨rfl,rfl⟩)
   go_ret;exact⟨by simp,rfl⟩
  go_enter Tryz.func94,Tryz.ntmps94
  go_wp2_with (go_at_call 123;refine(Gt _ _).mono ?_;rintro e w' ⟨rfl,rfl⟩)
  go_ret;exact⟨by simp,rfl⟩
 go_enter Tryz.func94,Tryz.ntmps94
 go_wp2_with (go_at_call 123;refine(Gt _ _).mono ?_;rintro e w' ⟨rfl,rfl⟩)
 go_ret;exact⟨by simp,rfl⟩
theorem Db (x y:Int) (w:World):Calls Tryz.prog 95 #[.int .i64 x,.int .i64 y] w fun e w'=>e=.returned (.int .i64 (vP x y))∧w'=w:=by
 unfold vP
 by_cases h:x<y
 ·go_enter Tryz.func95,Tryz.ntmps95
  go_wp2_with (go_at_call 124;refine(Gu _ _).mono ?_;rintro e w' ⟨rfl,rfl⟩)
  go_ret;exact⟨by simp,rfl⟩
 by_cases h2:y<x
 ·go_enter Tryz.func95,Tryz.ntmps95
  go_wp2_with (go_at_call 124;refine(Gu _ _).mono ?_;rintro e w' ⟨rfl,rfl⟩)
  go_ret;exact⟨by simp,rfl⟩
 go_enter Tryz.func95,Tryz.ntmps95
 go_wp2_with (go_at_call 124;refine(Gu _ _).mono ?_;rintro e w' ⟨rfl,rfl⟩)
 go_ret;exact⟨by simp,rfl⟩
theorem zK (a:Option Addr) (cap:Nat) (b:Option Addr) (n Eu:Nat) (w:World) (hn:n≤9223372036854775807):
  Calls Tryz.prog 96 #[.slice a 0 cap,.slice b n Eu] w fun e w'=>e=.returned (.int .i64 (if 0<n then-1 else 0))∧w'=w:=by
 by_cases h:0<n
 ·rw[if_pos h];have h':(0:Int)<(n:Int):=by omega
  go_enter Tryz.func96,Tryz.ntmps96
  go_wp2;refine wp_loop_rounds 1 ?_;rw[rounds_succ];go_wp2;go_ret;exact⟨rfl,rfl⟩
 rw[if_neg h];obtain rfl:n=0:=by omega
 go_enter Tryz.func96,Tryz.ntmps96
 go_wp2;refine wp_loop_rounds 1 ?_;rw[rounds_succ];go_wp2;go_ret;exact⟨rfl,rfl⟩
theorem yg (b off n cap:Nat) (a2:Option Addr) (cap2:Nat) (s0:ByteArray) (w:World) (h0:0<n) (hn:n≤9223372036854775807) (hc:w.cell? ⟨b,off,none⟩=some (.string s0)):
  Calls Tryz.prog 96 #[.slice (some ⟨b,off,none⟩) n cap,.slice a2 0 cap2] w fun e w'=>e=.returned (.int .i64 1)∧w'=w:=by
 have h':(0:Int)<(n:Int):=by omega
 go_enter Tryz.func96,Tryz.ntmps96
 go_wp2;refine wp_loop_rounds 1 ?_;rw[rounds_succ];go_wp2;go_ret;exact⟨rfl,rfl⟩
theorem yh (b off cap b2 off2 cap2:Nat) (x y:List ByteArray) (w:World) (hx:x.length≤9223372036854775807) (_hy:y.length≤9223372036854775807)
  (hc:∀i,i<x.length→w.cell? ⟨b,off+i,none⟩=some (.string (x.getD i ByteArray.empty))) (hd:∀i,i<y.length→w.cell? ⟨b2,off2+i,none⟩=some (.string (y.getD i ByteArray.empty))):
  Calls Tryz.prog 96 #[.slice (some ⟨b,off,none⟩) x.length cap,.slice (some ⟨b2,off2,none⟩) y.length cap2] w fun e w'=>e=.returned (.int .i64 (cmpL x y))∧w'=w:=by
 have HC:Hid _:=hc;have HD:Hid _:=hd;clear hc hd
 go_enter Tryz.func96,Tryz.ntmps96
 go_wp2
 go_loop [11] (fun i=>∃k:Nat,k≤x.length∧k≤y.length∧i=.int .i64 k∧Hid (cmpL x y=cmpL (x.drop k) (y.drop k))) (fun i=>x.length- (intOf i).toNat)
 case atStart=>exact⟨0,Nat.zero_le _,Nat.zero_le _,rfl,(by simp:cmpL x y=cmpL (x.drop 0) (y.drop 0))⟩
 obtain⟨k,hk,hk2,rfl,HE⟩:=hrel
 by_cases hlt:k<x.length
 ·have h1:=HC.out k hlt
  by_cases hlt2:k<y.length
  ·have h2:=HD.out k hlt2;have e:=zJ x y k hlt hlt2;generalize x.getD k ByteArray.empty=sx at*;generalize y.getD k ByteArray.empty=sy at*;have E:Hid _:=e;clear e
   by_cases hz:jg sx sy=0
   ·go_wp2_with (go_at_call 94;refine(kP _ _ _).mono ?_;rintro e w' ⟨rfl,rfl⟩;rw[hz])
    go_round
    case rel=>
     refine⟨k+1,by omega,by omega,by go_num,?_⟩;show cmpL x y=_;rw[HE.out,E.out,if_neg (by omega)]
    case measure=>simp[intOf];omega
   have hz':(jg sx sy==0)=false:=by simpa using hz
   have F:Hid (cmpL x y=jg sx sy):=by show _=_;rw[HE.out,E.out,if_pos hz]
   generalize hr:jg sx sy=r at*;have R:Hid _:=hr;clear hr
   go_wp2_with (go_at_call 94;refine(kP _ _ _).mono ?_;rintro e w' ⟨rfl,rfl⟩;rw[R.out])
   go_ret;exact⟨qo F.out.symm,rfl⟩
  have F:Hid (cmpL x y=1):=by show _=_;rw[HE.out,vQ x y k hlt (by omega)]
  go_wp2;go_ret;exact⟨qo F.out.symm,rfl⟩
 have F:Hid (cmpL x y=if k<y.length then-1 else 0):=by show _=_;rw[HE.out,oz x y k (by omega)]
 obtain rfl:k=x.length:=by omega
 by_cases hy2:x.length<y.length
 ·go_wp2;go_ret;exact⟨qo (by rw[F.out,if_pos hy2]),rfl⟩
 go_wp2;go_ret;exact⟨qo (by rw[F.out,if_neg hy2]),rfl⟩
theorem Kn (v1 v2:Value) (x y:List ByteArray) (w:World) (h1:Strs w v1 x) (h2:Strs w v2 y):
  Calls Tryz.prog 96 #[v1,v2] w fun e w'=>e=.returned (.int .i64 (cmpL x y))∧w'=w:=by
 obtain⟨l1,a1,c1,rfl,r1⟩:=h1;obtain⟨l2,a2,c2,rfl,r2⟩:=h2;cases x with
 |nil=>
  have e:cmpL [] y=if 0<y.length then-1 else 0:=by cases y <;> simp[cmpL]
  rw[e];exact zK a1 c1 a2 y.length c2 w (by omega)
 |cons p x=>
  obtain⟨b,off,rfl,_,hc⟩:=r1 (by simp);cases y with
  |nil=>exact yg b off _ c1 a2 c2 p w (by simp) (by omega) (by simpa using hc 0 (by simp))
  |cons q y=>
   obtain⟨b2,off2,rfl,_,hd⟩:=r2 (by simp);exact yh b off c1 b2 off2 c2 (p::x) (q::y) w (by omega) (by omega) hc hd
theorem kQ (v1 v2:Value) (f g:aN) (w:World) (h1:dD w v1 f) (h2:dD w v2 g):
  Calls Tryz.prog 68 #[v1,v2] w fun e w'=>e=.returned (.int .i64 (fO f g))∧ak w w':=by
 obtain⟨s1,rfl,k1⟩:=h1;obtain⟨s2,rfl,k2⟩:=h2;have l1:=k1.1;have l2:=k2.1;have hL:Hid (∀w',ak w w'→Calls Tryz.prog 96 #[s1,s2] w' fun e w''=>e=.returned (.int .i64 (cmpL f.2 g.2))∧w''=w'):=fun w' hw=>Kn s1 s2 _ _ w' (k1.later hw) (k2.later hw);obtain⟨a1,c1,rfl⟩:=bA k1;obtain⟨a2,c2,rfl⟩:=bA k2;clear k1 k2;obtain⟨n1,x⟩:=f;obtain⟨n2,y⟩:=g;unfold fO;dsimp only at*
 by_cases hz:jg n1 n2=0
 ·by_cases hi:vP x.length y.length=0
  ·rw[if_neg (by omega),if_neg (by omega)]
   go_enter Tryz.func68,Tryz.ntmps68
   go_wp2_with (first
    |(go_at_call 94;refine(kP _ _ _).mono ?_;rintro e w' ⟨rfl,rfl⟩;rw[hz])
    |(go_at_call 95;refine(Db _ _ _).mono ?_;rintro e w' ⟨rfl,rfl⟩;rw[hi])
    |(go_at_call 96;refine(hL.out _ (((ak.refl _).alloc _).alloc _)).mono ?_;rintro e w' ⟨rfl,rfl⟩))
   go_ret;exact⟨rfl,((ak.refl _).alloc _).alloc _⟩
  rw[if_neg (by omega),if_pos hi];have hi':(vP x.length y.length==0)=false:=by simpa using hi
  generalize hr:vP x.length y.length=r at*;have R:Hid _:=hr;clear hr
  go_enter Tryz.func68,Tryz.ntmps68
  go_wp2_with (first
   |(go_at_call 94;refine(kP _ _ _).mono ?_;rintro e w' ⟨rfl,rfl⟩;rw[hz])
   |(go_at_call 95;refine(Db _ _ _).mono ?_;rintro e w' ⟨rfl,rfl⟩;rw[R.out]))
  go_ret;exact⟨rfl,((ak.refl _).alloc _).alloc _⟩
 rw[if_pos hz];have hz':(jg n1 n2==0)=false:=by simpa using hz
 generalize hr:jg n1 n2=r at*;have R:Hid _:=hr;clear hr
 go_enter Tryz.func68,Tryz.ntmps68
 go_wp2_with (go_at_call 94;refine(kP _ _ _).mono ?_;rintro e w' ⟨rfl,rfl⟩;rw[R.out])
 go_ret;exact⟨rfl,((ak.refl _).alloc _).alloc _⟩
end Go.Proofs.YtaallngooaaonaaGreatDoor
