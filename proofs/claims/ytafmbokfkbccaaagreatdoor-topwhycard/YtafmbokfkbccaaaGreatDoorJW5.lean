import Derived.Test.YtafmbokfkbccaaaGreatDoorJW1
import Derived.Sort.Grow
import Derived.Deep.Draws
import Derived.Test.YtafmbokfkbccaaaGreatDoorChecked
import Derived.WalkKit
import Derived.WalkSpells
import Derived.WalkLawsBesides
import Derived.Shelf.SlSortCmp.QuietGrown
import Derived.Deep.QuietTactic
import Derived.BigQuiet
namespace Go.Proofs.YtafmbokfkbccaaaGreatDoor
open Go.RowKit Go.Sort
theorem hide {p:Prop} (h:p):Hid p:=h
theorem bG {p:Prop} (h:Hid p):p:=h
theorem vF {k:IntKind} {a b:Int} (h:a=b):Ending.returned (.int k a)=.returned (.int k b):=by rw[h]
theorem dA {a b:Bool} (h:a=b):Ending.returned (.bool a)=.returned (.bool b):=by rw[h]
def Later (w w':World):Prop:=∃q os,w'=grow (w.drewN q) os
theorem Later.refl (w:World):Later w w:=⟨0,#[],by rw[grow_empty];rfl⟩
theorem Later.trans {a b c:World} (h:Later a b) (k:Later b c):Later a c:=by
 obtain⟨q,os,rfl⟩:=h;obtain⟨r,ps,rfl⟩:=k;exact⟨q+r,os++ps,by show grow (grow ((a.drewN q).drewN r) os) ps=_;rw[grow_grow,World.drewN_drewN]⟩
theorem Later.alloc {a b:World} (h:Later a b) (o:Obj):Later a (b.alloc o):=h.trans ⟨0,#[o],by rw[alloc_eq_grow];rfl⟩
theorem Later.drew {a b:World} (h:Later a b):Later a b.drew:=h.trans ⟨1,#[],by rw[grow_empty];rfl⟩
theorem Later.drewN {a b:World} (h:Later a b) (n:Nat):Later a (b.drewN n):=h.trans ⟨n,#[],by rw[grow_empty]⟩
theorem Later.grow {a b:World} (h:Later a b) (os:Array Obj):Later a (Go.Sort.grow b os):=h.trans ⟨0,os,rfl⟩
theorem Later.size {a b:World} (h:Later a b):a.heap.size≤b.heap.size:=by
 obtain⟨q,os,rfl⟩:=h;rw[size_grow];exact Nat.le_add_right _ _
theorem Later.block {a b:World} (h:Later a b) {k:Nat} (hk:k<a.heap.size):b.heap[k]?=a.heap[k]?:=by
 obtain⟨q,os,rfl⟩:=h;exact heap_grow_old (a.drewN q) os hk
theorem Later.cell {a b:World} (h:Later a b) {p:Addr} (hp:p.block<a.heap.size):b.cell? p=a.cell? p:=World.cell?_of_block (w:=a) (h.block hp)
theorem Later.frozen {a b:World} (h:Later a b) {p:Addr} (hp:p.block<a.heap.size):b.frozen? p=a.frozen? p:=World.frozen?_of_block (w:=a) (h.block hp)
theorem Later.below {a b:World} (h:Later a b):Below a.heap.size a b:=by
 obtain⟨q,os,rfl⟩:=h;exact⟨rfl,rfl,rfl,by rw[size_grow];exact Nat.le_add_right _ _,fun k hk=>heap_grow_old (a.drewN q) os hk⟩
theorem Later.drawn {a b:World} (h:Later a b):a.drawn≤b.drawn:=by
 obtain⟨q,os,rfl⟩:=h;exact Nat.le_add_right _ _
theorem Later.of_below {a b:World} (h:Below a.heap.size a b) (hd:a.drawn≤b.drawn):Later a b:=by
 refine⟨b.drawn-a.drawn,b.heap.extract a.heap.size b.heap.size,?_⟩;have hheap:b.heap=a.heap++b.heap.extract a.heap.size b.heap.size:=by
  apply Array.ext_getElem?
  intro i;rw[Array.getElem?_append];split
  ·rename_i hi;exact h.block i hi
  ·rename_i hi;rw[Array.getElem?_extract];have:=h.size
   by_cases hb:i<b.heap.size
   ·rw[if_pos (by omega)];congr 1;omega
   ·rw[if_neg (by omega),Array.getElem?_eq_none (by omega)]
 obtain⟨bh,bt,bd,bo,bp⟩:=b;obtain⟨ah,at',ad,ao,ap⟩:=a;have e1:=h.os;have e2:=h.tape;have e3:=h.output;simp only at e1 e2 e3 hheap hd;subst e1 e2 e3;show World.mk bh bt bd bo bp=World.mk (ah++bh.extract ah.size bh.size) bt (ad+(bd-ad)) bo bp;rw[show ad+(bd-ad)=bd by omega,←hheap]
theorem Later.setCell {a b:World} (h:Later a b) {p:Addr} (hp:a.heap.size≤p.block) (v:Value):Later a (b.setCell p v):=
 Later.of_below (h.below.setCell hp v) h.drawn
def Strs (w:World) (v:Value) (l:List ByteArray):Prop:=
 l.length≤8796093022208∧∃a cap,v=.slice a l.length cap∧(l≠[]→∃b off,a=some ⟨b,off,none⟩∧b<w.heap.size∧∀i,i<l.length→w.cell? ⟨b,off+i,none⟩=some (.string (l.getD i ByteArray.empty)))
theorem Strs.later {w w':World} {v:Value} {l:List ByteArray} (h:Strs w v l) (k:Later w w'):Strs w' v l:=by
 obtain⟨h0,a,cap,rfl,h1⟩:=h;refine⟨h0,a,cap,rfl,fun hl=> ?_⟩;obtain⟨b,off,rfl,hb,hc⟩:=h1 hl;exact⟨b,off,rfl,Nat.lt_of_lt_of_le hb k.size,fun i hi=>by rw[k.cell (p:=⟨b,off+i,none⟩) hb];exact hc i hi⟩
def bW (w:World) (v:Value) (f:aG):Prop:=∃s,v=.agg #[.string f.1,s]∧Strs w s f.2
theorem bW.later {w w':World} {v:Value} {f:aG} (h:bW w v f) (k:Later w w'):bW w' v f:=by
 obtain⟨s,rfl,h1⟩:=h;exact⟨s,rfl,h1.later k⟩
def aB:aG:=(ByteArray.empty,[])
def Facts (w:World) (v:Value) (l:List aG):Prop:=
 l.length≤3518437208883∧∃a cap,v=.slice a l.length cap∧(l≠[]→∃b off,a=some ⟨b,off,none⟩∧b<w.heap.size∧∀i,i<l.length→w.cell? ⟨b,off+i*2,none⟩=some (.string (l.getD i aB).1)∧∃s,w.cell? ⟨b,off+i*2+1,none⟩=some s∧Strs w s (l.getD i aB).2)
theorem Facts.later {w w':World} {v:Value} {l:List aG} (h:Facts w v l) (k:Later w w'):Facts w' v l:=by
 obtain⟨h0,a,cap,rfl,h1⟩:=h;refine⟨h0,a,cap,rfl,fun hl=> ?_⟩;obtain⟨b,off,rfl,hb,hc⟩:=h1 hl;refine⟨b,off,rfl,Nat.lt_of_lt_of_le hb k.size,fun i hi=> ?_⟩;obtain⟨c1,s,c2,c3⟩:=hc i hi;exact⟨by rw[k.cell (p:=⟨b,off+i*2,none⟩) hb];exact c1,s,by rw[k.cell (p:=⟨b,off+i*2+1,none⟩) hb];exact c2,c3.later k⟩
theorem aD {w:World} {v:Value} {l:List aG} (h:Facts w v l):∃a cap,v=.slice a l.length cap:=by
 obtain⟨_,a,cap,rfl,_⟩:=h;exact⟨a,cap,rfl⟩
theorem aW {w:World} {v:Value} {l:List ByteArray} (h:Strs w v l):∃a cap,v=.slice a l.length cap:=by
 obtain⟨_,a,cap,rfl,_⟩:=h;exact⟨a,cap,rfl⟩
theorem Es (x y:List ByteArray) (i:Nat) (hx:i<x.length) (hy:i<y.length):
  cmpL (x.drop i) (y.drop i)=if iX (x.getD i ByteArray.empty) (y.getD i ByteArray.empty)≠0 then iX (x.getD i ByteArray.empty) (y.getD i ByteArray.empty) else cmpL (x.drop (i+1)) (y.drop (i+1)):=by
 rw[List.drop_eq_getElem_cons hx,List.drop_eq_getElem_cons hy,cmpL];simp[List.getD_eq_getElem?_getD,hx,hy]
theorem vG (x y:List ByteArray) (i:Nat) (hx:x.length≤i):cmpL (x.drop i) (y.drop i)=if i<y.length then-1 else 0:=by
 rw[List.drop_eq_nil_of_le hx]
 by_cases hy:i<y.length
 ·rw[List.drop_eq_getElem_cons hy,if_pos hy];rfl
 ·rw[List.drop_eq_nil_of_le (by omega),if_neg hy];rfl
theorem sP (x y:List ByteArray) (i:Nat) (hx:i<x.length) (hy:y.length≤i):cmpL (x.drop i) (y.drop i)=1:=by
 rw[List.drop_eq_nil_of_le hy,List.drop_eq_getElem_cons hx];rfl
end Go.Proofs.YtafmbokfkbccaaaGreatDoor
namespace Go.Proofs.YtafmbokfkbccaaaGreatDoor
open Go.RowKit Go.Sort
set_option maxHeartbeats 400000 in
theorem Et (x:ByteArray) (w:World):Calls Tryz.prog 256 #[.string x] w fun e w'=>e=.returned (.bool false)∧w'=w:=by
 go_enter Tryz.func256,Tryz.ntmps256
 go_wp2;go_ret;exact⟨by simp,rfl⟩
set_option maxHeartbeats 400000 in
theorem Eu (x:Int) (w:World):Calls Tryz.prog 257 #[.int .i64 x] w fun e w'=>e=.returned (.bool false)∧w'=w:=by
 go_enter Tryz.func257,Tryz.ntmps257
 go_wp2;go_ret;exact⟨by simp,rfl⟩
set_option maxHeartbeats 400000 in
theorem jS (x y:ByteArray) (w:World):Calls Tryz.prog 194 #[.string x,.string y] w fun e w'=>e=.returned (.int .i64 (iX x y))∧w'=w:=by
 unfold iX;cases h:Op.bytesLess x.toList y.toList
 ·cases h2:(x.toList==y.toList)
  ·go_enter Tryz.func194,Tryz.ntmps194
   go_wp2_with (go_at_call 256;refine(Et _ _).mono ?_;rintro e w' ⟨rfl,rfl⟩)
   go_ret;exact⟨by simp,rfl⟩
  ·go_enter Tryz.func194,Tryz.ntmps194
   go_wp2_with (go_at_call 256;refine(Et _ _).mono ?_;rintro e w' ⟨rfl,rfl⟩)
   go_ret;exact⟨by simp,rfl⟩
 ·go_enter Tryz.func194,Tryz.ntmps194
  go_wp2_with (go_at_call 256;refine(Et _ _).mono ?_;rintro e w' ⟨rfl,rfl⟩)
  go_ret;exact⟨by simp,rfl⟩
set_option maxHeartbeats 400000 in
theorem Br (x y:Int) (w:World):Calls Tryz.prog 195 #[.int .i64 x,.int .i64 y] w fun e w'=>e=.returned (.int .i64 (tK x y))∧w'=w:=by
 unfold tK
 by_cases h:x<y
 ·go_enter Tryz.func195,Tryz.ntmps195
  go_wp2_with (go_at_call 257;refine(Eu _ _).mono ?_;rintro e w' ⟨rfl,rfl⟩)
  go_ret;exact⟨by simp,rfl⟩
 ·by_cases h2:y<x
  ·go_enter Tryz.func195,Tryz.ntmps195
   go_wp2_with (go_at_call 257;refine(Eu _ _).mono ?_;rintro e w' ⟨rfl,rfl⟩)
   go_ret;exact⟨by simp,rfl⟩
  ·go_enter Tryz.func195,Tryz.ntmps195
   go_wp2_with (go_at_call 257;refine(Eu _ _).mono ?_;rintro e w' ⟨rfl,rfl⟩)
   go_ret;exact⟨by simp,rfl⟩
set_option maxHeartbeats 400000 in
theorem xJ (a:Option Addr) (cap:Nat) (b:Option Addr) (n Cx:Nat) (w:World) (hn:n≤9223372036854775807):
  Calls Tryz.prog 196 #[.slice a 0 cap,.slice b n Cx] w fun e w'=>e=.returned (.int .i64 (if 0<n then-1 else 0))∧w'=w:=by
 by_cases h:0<n
 ·rw[if_pos h];have h':(0:Int)<(n:Int):=by omega
  go_enter Tryz.func196,Tryz.ntmps196
  go_wp2;refine wp_loop_rounds 1 ?_;rw[rounds_succ];go_wp2;go_ret;exact⟨rfl,rfl⟩
 ·rw[if_neg h];obtain rfl:n=0:=by omega
  go_enter Tryz.func196,Tryz.ntmps196
  go_wp2;refine wp_loop_rounds 1 ?_;rw[rounds_succ];go_wp2;go_ret;exact⟨rfl,rfl⟩
set_option maxHeartbeats 400000 in
theorem vH (b off n cap:Nat) (a2:Option Addr) (cap2:Nat) (s0:ByteArray) (w:World) (h0:0<n) (hn:n≤9223372036854775807) (hc:w.cell? ⟨b,off,none⟩=some (.string s0)):
  Calls Tryz.prog 196 #[.slice (some ⟨b,off,none⟩) n cap,.slice a2 0 cap2] w fun e w'=>e=.returned (.int .i64 1)∧w'=w:=by
 have h':(0:Int)<(n:Int):=by omega
 go_enter Tryz.func196,Tryz.ntmps196
 go_wp2;refine wp_loop_rounds 1 ?_;rw[rounds_succ];go_wp2;go_ret;exact⟨rfl,rfl⟩
set_option maxHeartbeats 1000000 in
theorem vI (b off cap b2 off2 cap2:Nat) (x y:List ByteArray) (w:World) (hx:x.length≤9223372036854775807) (_hy:y.length≤9223372036854775807)
  (hc:∀i,i<x.length→w.cell? ⟨b,off+i,none⟩=some (.string (x.getD i ByteArray.empty))) (hd:∀i,i<y.length→w.cell? ⟨b2,off2+i,none⟩=some (.string (y.getD i ByteArray.empty))):
  Calls Tryz.prog 196 #[.slice (some ⟨b,off,none⟩) x.length cap,.slice (some ⟨b2,off2,none⟩) y.length cap2] w fun e w'=>e=.returned (.int .i64 (cmpL x y))∧w'=w:=by
 have HC:Hid _:=hc;have HD:Hid _:=hd;clear hc hd
 go_enter Tryz.func196,Tryz.ntmps196
 go_wp2
 go_loop [11] (fun i=>∃k:Nat,k≤x.length∧k≤y.length∧i=.int .i64 k∧Hid (cmpL x y=cmpL (x.drop k) (y.drop k))) (fun i=>x.length- (intOf i).toNat)
 case atStart=>exact⟨0,Nat.zero_le _,Nat.zero_le _,rfl,(by simp:cmpL x y=cmpL (x.drop 0) (y.drop 0))⟩
 case round=>
  obtain⟨k,hk,hk2,rfl,HE⟩:=hrel
  by_cases hlt:k<x.length
  ·have h1:=HC.out k hlt
   by_cases hlt2:k<y.length
   ·have h2:=HD.out k hlt2;have e:=Es x y k hlt hlt2;generalize x.getD k ByteArray.empty=sx at*;generalize y.getD k ByteArray.empty=sy at*;have E:Hid _:=e;clear e
    by_cases hz:iX sx sy=0
    ·go_wp2_with (go_at_call 194;refine(jS _ _ _).mono ?_;rintro e w' ⟨rfl,rfl⟩;rw[hz])
     go_round
     case rel=>
      refine⟨k+1,by omega,by omega,by go_num,?_⟩;show cmpL x y=_;rw[HE.out,E.out,if_neg (by omega)]
     case measure=>simp[intOf];omega
    ·have hz':(iX sx sy==0)=false:=by simpa using hz
     have F:Hid (cmpL x y=iX sx sy):=by show _=_;rw[HE.out,E.out,if_pos hz]
     generalize hr:iX sx sy=r at*;have R:Hid _:=hr;clear hr
     go_wp2_with (go_at_call 194;refine(jS _ _ _).mono ?_;rintro e w' ⟨rfl,rfl⟩;rw[R.out])
     go_ret;exact⟨vF F.out.symm,rfl⟩
   ·have F:Hid (cmpL x y=1):=by show _=_;rw[HE.out,sP x y k hlt (by omega)]
    go_wp2;go_ret;exact⟨vF F.out.symm,rfl⟩
  ·have F:Hid (cmpL x y=if k<y.length then-1 else 0):=by show _=_;rw[HE.out,vG x y k (by omega)]
   obtain rfl:k=x.length:=by omega
   by_cases hy2:x.length<y.length
   ·go_wp2;go_ret;exact⟨vF (by rw[F.out,if_pos hy2]),rfl⟩
   ·go_wp2;go_ret;exact⟨vF (by rw[F.out,if_neg hy2]),rfl⟩
theorem G5 (v1 v2:Value) (x y:List ByteArray) (w:World) (h1:Strs w v1 x) (h2:Strs w v2 y):
  Calls Tryz.prog 196 #[v1,v2] w fun e w'=>e=.returned (.int .i64 (cmpL x y))∧w'=w:=by
 obtain⟨l1,a1,c1,rfl,r1⟩:=h1;obtain⟨l2,a2,c2,rfl,r2⟩:=h2;cases x with
 |nil=>
  have e:cmpL [] y=if 0<y.length then-1 else 0:=by cases y <;> simp[cmpL]
  rw[e];exact xJ a1 c1 a2 y.length c2 w (by omega)
 |cons p x=>
  obtain⟨b,off,rfl,_,hc⟩:=r1 (by simp);cases y with
  |nil=>exact vH b off _ c1 a2 c2 p w (by simp) (by omega) (by simpa using hc 0 (by simp))
  |cons q y=>
   obtain⟨b2,off2,rfl,_,hd⟩:=r2 (by simp);exact vI b off c1 b2 off2 c2 (p::x) (q::y) w (by omega) (by omega) hc hd
set_option maxHeartbeats 1000000 in
theorem jT (v1 v2:Value) (f g:aG) (w:World) (h1:bW w v1 f) (h2:bW w v2 g):
  Calls Tryz.prog 128 #[v1,v2] w fun e w'=>e=.returned (.int .i64 (gu f g))∧Later w w':=by
 obtain⟨s1,rfl,k1⟩:=h1;obtain⟨s2,rfl,k2⟩:=h2;have l1:=k1.1;have l2:=k2.1;have hL:Hid (∀w',Later w w'→Calls Tryz.prog 196 #[s1,s2] w' fun e w''=>e=.returned (.int .i64 (cmpL f.2 g.2))∧w''=w'):=fun w' hw=>G5 s1 s2 _ _ w' (k1.later hw) (k2.later hw);obtain⟨a1,c1,rfl⟩:=aW k1;obtain⟨a2,c2,rfl⟩:=aW k2;clear k1 k2;obtain⟨n1,x⟩:=f;obtain⟨n2,y⟩:=g;unfold gu;dsimp only at*
 by_cases hz:iX n1 n2=0
 ·by_cases hi:tK x.length y.length=0
  ·rw[if_neg (by omega),if_neg (by omega)]
   go_enter Tryz.func128,Tryz.ntmps128
   go_wp2_with (first
    |(go_at_call 194;refine(jS _ _ _).mono ?_;rintro e w' ⟨rfl,rfl⟩;rw[hz])
    |(go_at_call 195;refine(Br _ _ _).mono ?_;rintro e w' ⟨rfl,rfl⟩;rw[hi])
    |(go_at_call 196;refine(hL.out _ (((Later.refl _).alloc _).alloc _)).mono ?_;rintro e w' ⟨rfl,rfl⟩))
   go_ret;exact⟨rfl,((Later.refl _).alloc _).alloc _⟩
  ·rw[if_neg (by omega),if_pos hi];have hi':(tK x.length y.length==0)=false:=by simpa using hi
   generalize hr:tK x.length y.length=r at*;have R:Hid _:=hr;clear hr
   go_enter Tryz.func128,Tryz.ntmps128
   go_wp2_with (first
    |(go_at_call 194;refine(jS _ _ _).mono ?_;rintro e w' ⟨rfl,rfl⟩;rw[hz])
    |(go_at_call 195;refine(Br _ _ _).mono ?_;rintro e w' ⟨rfl,rfl⟩;rw[R.out]))
   go_ret;exact⟨rfl,((Later.refl _).alloc _).alloc _⟩
 ·rw[if_pos hz];have hz':(iX n1 n2==0)=false:=by simpa using hz
  generalize hr:iX n1 n2=r at*;have R:Hid _:=hr;clear hr
  go_enter Tryz.func128,Tryz.ntmps128
  go_wp2_with (go_at_call 194;refine(jS _ _ _).mono ?_;rintro e w' ⟨rfl,rfl⟩;rw[R.out])
  go_ret;exact⟨rfl,((Later.refl _).alloc _).alloc _⟩
end Go.Proofs.YtafmbokfkbccaaaGreatDoor
namespace Go.Proofs.YtafmbokfkbccaaaGreatDoor
open Go.RowKit Go.Sort
set_option maxHeartbeats 400000 in
theorem begins (x:Int) (w:World):Calls Tryz.prog 177 #[.int .u8 x] w fun e w'=>e=.returned (.bool (kF x))∧w'=w:=by
 go_enter Tryz.func177,Tryz.ntmps177
 go_wp2
 all_goals
  go_ret;refine⟨dA ?_,rfl⟩;rw[Bool.eq_iff_iff];simp[kF];omega
set_option maxHeartbeats 400000 in
theorem Jg (x:Int) (w:World):Calls Tryz.prog 241 #[.int .u8 x] w fun e w'=>e=.returned (.bool (nP x))∧w'=w:=by
 cases hs:kF x
 ·go_enter Tryz.func241,Tryz.ntmps241
  go_wp2_with (go_at_call 177;refine(begins _ _).mono ?_;rintro e w' ⟨rfl,rfl⟩;rw[hs])
  all_goals
   go_ret;refine⟨dA ?_,rfl⟩;rw[Bool.eq_iff_iff];simp[nP,hs];omega
 ·go_enter Tryz.func241,Tryz.ntmps241
  go_wp2_with (go_at_call 177;refine(begins _ _).mono ?_;rintro e w' ⟨rfl,rfl⟩;rw[hs])
  go_ret;exact⟨dA (by simp[nP,hs]),rfl⟩
def iM (s:ByteArray):Bool:=
 decide (0<s.size∧s.size≤12)&&(match s.data.toList with|[]=>false|c::r=>kF c.toNat&&r.all fun c=>nP c.toNat)
theorem ql {s:ByteArray} (h:s.size=0∨12<s.size):iM s=false:=by
 unfold iM;rw[decide_eq_false (by omega)];rfl
theorem size_data (s:ByteArray):s.data.toList.length=s.size:=Array.length_toList
def LV (s:ByteArray) (k:Nat):Bool:=(s.data.toList.drop k).all fun c=>nP c.toNat
theorem xK {s:ByteArray} (h0:0<s.size) (h1:s.size≤12):iM s=(kF (s[0].toNat)&&LV s 1):=by
 unfold iM;have hl:=size_data s;rw[decide_eq_true ⟨h0,h1⟩];cases h:s.data.toList with
 |nil=>rw[h] at hl;simp at hl;omega
 |cons c r=>
  have:s[0]=c:=by
   have:s[0]=s.data.toList[0]'(by omega):=rfl;rw[this];simp[h]
  simp[this,LV,h]
theorem tQ (s:ByteArray) (k:Nat):s.extract 0 k=bs ((raw s).take k):=by
 apply En
 rw[ig];unfold raw;rw[ByteArray.data_extract];simp
theorem xL {s:ByteArray} {k:Nat} (h:k<s.size) (h':k<(raw s).length):(raw s)[k]'h'=s[k]'h:=rfl
def goes (s:ByteArray) (k:Nat):Bs:=(raw s).take k++((raw s).drop k).takeWhile dw
theorem Ev {s:ByteArray} {k:Nat} (h:k<s.size):goes s k=if nP s[k].toNat then goes s (k+1) else(raw s).take k:=by
 have hl:k<(raw s).length:=by rw[bq];exact h
 unfold goes;rw[List.drop_eq_getElem_cons hl,List.takeWhile_cons,xL h hl]
 by_cases hc:nP (s[k]'h).toNat=true
 ·rw[if_pos hc,if_pos (show dw (s[k]'h)=true from hc),List.take_succ_eq_append_getElem hl,xL h hl];simp
 ·rw[if_neg hc,if_neg (show¬dw (s[k]'h)=true from hc)];simp
theorem G6 {s:ByteArray} {k:Nat} (h:s.size≤k):goes s k=(raw s).take k:=by
 unfold goes;rw[List.drop_eq_nil_of_le (by rw[bq];exact h)];simp
set_option maxHeartbeats 1000000 in
theorem JJ (s:ByteArray) (w:World) (hs:s.size≤4294967296):Calls Tryz.prog 178 #[.string s] w fun e w'=>e=.returned (.string (bs ((raw s).takeWhile dw)))∧w'=w:=by
 have h0:goes s 0=(raw s).takeWhile dw:=by simp[goes]
 rw[←h0];clear h0
 go_enter Tryz.func178,Tryz.ntmps178
 go_wp2
 go_loop [3] (fun i=>∃k:Nat,k≤s.size∧i=.int .i64 k∧Hid (goes s 0=goes s k)) (fun i=>s.size- (intOf i).toNat)
 case atStart=>exact⟨0,by omega,rfl,(rfl:_=_)⟩
 case round=>
  obtain⟨k,hk,rfl,HE⟩:=hrel
  by_cases hlt:k<s.size
  ·have ha:=Ev hlt;cases hc:nP (s[k]'hlt).toNat
   ·have F:Hid (goes s 0=(raw s).take k):=by show _=_;rw[HE.out,ha,hc];rfl
    clear ha
    go_wp2_with (go_at_call 241;refine(Jg _ _).mono ?_;rintro e w' ⟨rfl,rfl⟩;rw[hc])
    go_ret;exact⟨by rw[F.out,←tQ];rfl,rfl⟩
   ·have F:Hid (goes s 0=goes s (k+1)):=by show _=_;rw[HE.out,ha,hc];rfl
    clear ha;have HK:Hid (k+1≤s.size):=hlt
    go_wp2_with (go_at_call 241;refine(Jg _ _).mono ?_;rintro e w' ⟨rfl,rfl⟩;rw[hc])
    go_round
    case rel=>exact⟨k+1,HK.out,by go_num,F⟩
    case measure=>have:=HK.out;simp[intOf];omega
  ·have F:Hid (goes s 0=(raw s).take k):=by show _=_;rw[HE.out,G6 (by omega)]
   go_wp2;go_ret;exact⟨by rw[F.out,←tQ];rfl,rfl⟩
theorem mM (f:UInt8→Bool):∀l:Bs,decide ((l.takeWhile f).length=l.length)=l.all f:=by
 intro l
 induction l with
 |nil=>rfl
 |cons c t ih=>
  rw[List.takeWhile_cons,List.all_cons];cases hc:f c
  ·simp
  ·simp[←ih]
theorem zX {s:ByteArray} (h0:0<s.size) (h1:s.size≤12) (hb:kF s[0].toNat=true):iM s=decide ((bs ((raw s).takeWhile dw)).size=s.size):=by
 rw[iQ,←bq s,mM,xK h0 h1,hb];have hl:0<(raw s).length:=by rw[bq];exact h0
 have e:raw s=(s[0]'h0)::(raw s).drop 1:=by
  have:=List.drop_eq_getElem_cons hl;rw[List.drop_zero,xL h0 hl] at this;exact this
 have hs:dw (s[0]'h0)=true:=by unfold dw nP;rw[hb];rfl
 rw[e,List.all_cons,hs]
 rfl
theorem kG (s:ByteArray):iM s=isNamed (raw s):=by
 unfold iM isNamed;rw[bq];show(decide (0<s.size∧s.size≤12)&&match raw s with|[]=>false|c::r=>kF c.toNat&&r.all fun c=>nP c.toNat)=_;have hl:=bq s;cases h:raw s with
 |nil=>simp
 |cons c t=>
  rw[h] at hl;have:0<s.size:=by rw[←hl];simp
  simp only[List.all_cons];rw[show(t.all fun c=>nP c.toNat)=t.all dw from rfl]
  by_cases h12:s.size≤12
  ·rw[decide_eq_true ⟨this,h12⟩,decide_eq_true h12];cases hc:kF c.toNat
   ·simp
   ·rw[show dw c=true by unfold dw nP;rw[hc];rfl];simp
  ·rw[decide_eq_false (fun h=>h12 h.2),decide_eq_false h12];rfl
set_option maxHeartbeats 1000000 in
theorem named (s:ByteArray) (w:World):Calls Tryz.prog 104 #[.string s] w fun e w'=>e=.returned (.bool (iM s))∧w'=w:=by
 by_cases h0:0<s.size
 ·by_cases h1:s.size≤12
  ·have h0':((s.size:Int)==0)=false:=by rw[beq_eq_false_iff_ne];omega
   cases hb:kF s[0].toNat
   ·have F:Hid (iM s=false):=by show _=_;rw[xK h0 h1,hb];rfl
    go_enter Tryz.func104,Tryz.ntmps104
    go_wp2_with (go_at_call 177;refine(begins _ _).mono ?_;rintro e w' ⟨rfl,rfl⟩;rw[hb])
    go_ret;exact⟨dA F.out.symm,rfl⟩
   ·have F:Hid (iM s=decide ((bs ((raw s).takeWhile dw)).size=s.size)):=zX h0 h1 hb;generalize hx:bs ((raw s).takeWhile dw)=x at F;have HX:=hide hx;clear hx
    go_enter Tryz.func104,Tryz.ntmps104
    go_wp2_with (first
     |(go_at_call 177;refine(begins _ _).mono ?_;rintro e w' ⟨rfl,rfl⟩;rw[hb])
     |(go_at_call 178;refine(JJ _ _ (by omega)).mono ?_;rintro e w' ⟨rfl,rfl⟩;rw[HX.out]))
    go_ret;refine⟨dA ?_,rfl⟩;rw[F.out,Bool.eq_iff_iff];simp;omega
  ·rw[ql (Or.inr (by omega))];have h0':((s.size:Int)==0)=false:=by rw[beq_eq_false_iff_ne];omega
   go_enter Tryz.func104,Tryz.ntmps104
   go_wp2;go_ret;exact⟨rfl,rfl⟩
 ·rw[ql (Or.inl (by omega))];have h0':((s.size:Int)==0)=true:=by rw[beq_iff_eq];omega
  go_enter Tryz.func104,Tryz.ntmps104
  go_wp2;go_ret;exact⟨rfl,rfl⟩
set_option maxHeartbeats 400000 in
theorem Jh (s:ByteArray) (w:World):Calls Tryz.prog 106 #[.string s] w fun e w'=>e=.returned (.bool (!iM s))∧w'=w:=by
 generalize hr:iM s=r;have R:Hid _:=hr;clear hr
 go_enter Tryz.func106,Tryz.ntmps106
 go_wp2_with (go_at_call 104;refine(named _ _).mono ?_;rintro e w' ⟨rfl,rfl⟩;rw[R.out])
 go_ret;exact⟨rfl,rfl⟩
def iG (l:List ByteArray) (k:Nat):Bool:=(l.drop k).any fun s=> !iM s
theorem zY {l:List ByteArray} {k:Nat} (h:k<l.length):iG l k=(!iM (l.getD k ByteArray.empty)||iG l (k+1)):=by
 unfold iG;rw[List.drop_eq_getElem_cons h,List.any_cons,List.getD_eq_getElem?_getD,List.getElem?_eq_getElem h];rfl
theorem Cy {l:List ByteArray} {k:Nat} (h:l.length≤k):iG l k=false:=by
 unfold iG;rw[List.drop_eq_nil_of_le h];rfl
set_option maxHeartbeats 1000000 in
theorem indexFunc (v:Value) (l:List ByteArray) (w:World) (h:Strs w v l):
  Calls Tryz.prog 179 #[v,.func (.func 106) #[] #[]] w fun e w'=>∃n:Int,e=.returned (.int .i64 n)∧decide (0≤n)=iG l 0∧w'=w:=by
 obtain⟨h0,a,cap,rfl,hc⟩:=h;have HC:Hid _:=hc;clear hc
 go_enter Tryz.func179,Tryz.ntmps179
 go_wp2
 go_loop [8] (fun i=>∃k:Nat,k≤l.length∧i=.int .i64 k∧Hid (iG l 0=iG l k)) (fun i=>l.length- (intOf i).toNat)
 case atStart=>exact⟨0,by omega,rfl,(rfl:_=_)⟩
 case round=>
  obtain⟨k,hk,rfl,HE⟩:=hrel
  by_cases hlt:k<l.length
  ·obtain⟨b,off,rfl,_,hcell⟩:=HC.out (by intro e;rw[e] at hlt;simp at hlt);have h1:=hcell k hlt;have hs:=zY hlt;clear hcell;generalize l.getD k ByteArray.empty=s at*;cases hn:iM s
   ·have F:Hid (iG l 0=true):=by show _=_;rw[HE.out,hs,hn];rfl
    clear hs
    go_wp2_with (go_at_call 106;refine(Jh _ _).mono ?_;rintro e w' ⟨rfl,rfl⟩;rw[hn])
    go_ret;exact⟨_,rfl,by rw[F.out];simp,rfl⟩
   ·have F:Hid (iG l 0=iG l (k+1)):=by show _=_;rw[HE.out,hs,hn];rfl
    clear hs
    go_wp2_with (go_at_call 106;refine(Jh _ _).mono ?_;rintro e w' ⟨rfl,rfl⟩;rw[hn])
    go_round
    case rel=>exact⟨k+1,by omega,by go_num,F⟩
    case measure=>simp[intOf];omega
  ·have F:Hid (iG l 0=false):=by show _=_;rw[HE.out,Cy (by omega)]
   go_wp2;go_ret;exact⟨_,rfl,by rw[F.out];simp,rfl⟩
set_option maxHeartbeats 400000 in
theorem xM (v:Value) (l:List ByteArray) (w:World) (h:Strs w v l):
  Calls Tryz.prog 105 #[v,.func (.func 106) #[] #[]] w fun e w'=>e=.returned (.bool (iG l 0))∧w'=w:=by
 have hI:=indexFunc v l w h;obtain⟨h0,a,cap,rfl,hc⟩:=h;have HI:=hide hI;clear hc hI
 go_enter Tryz.func105,Tryz.ntmps105
 go_wp2_with (go_at_call 179;refine HI.out.mono ?_;rintro e w' ⟨n,rfl,hn,rfl⟩;replace hn:=hide hn)
 go_ret;exact⟨dA (bG hn),rfl⟩
def gI (f:aG):Int:=if !iM f.1 then 7 else if 4<f.2.length then 5 else if iG f.2 0 then 7 else 0
set_option maxHeartbeats 1000000 in
theorem wrong (v:Value) (f:aG) (w:World) (h:bW w v f):
  Calls Tryz.prog 59 #[v] w fun e w'=>e=.returned (.int .i64 (gI f))∧Later w w':=by
 obtain⟨s,rfl,k⟩:=h;have HC:Hid (∀w',Later w w'→Calls Tryz.prog 105 #[s,.func (.func 106) #[] #[]] w' fun e w''=>e=.returned (.bool (iG f.2 0))∧w''=w'):=fun w' hw=>xM s f.2 w' (k.later hw);have l0:=k.1;obtain⟨a,c,rfl⟩:=aW k;clear k;obtain⟨n,x⟩:=f;unfold gI;dsimp only at*;cases hn:iM n
 ·go_enter Tryz.func59,Tryz.ntmps59
  go_wp2_with (go_at_call 104;refine(named _ _).mono ?_;rintro e w' ⟨rfl,rfl⟩;rw[hn])
  go_ret;exact⟨rfl,(Later.refl _).alloc _⟩
 ·by_cases h4:4<x.length
  ·rw[if_pos h4]
   go_enter Tryz.func59,Tryz.ntmps59
   go_wp2_with (go_at_call 104;refine(named _ _).mono ?_;rintro e w' ⟨rfl,rfl⟩;rw[hn])
   go_ret;exact⟨rfl,(Later.refl _).alloc _⟩
  ·rw[if_neg h4];cases hb:iG x 0
   all_goals
    rw[hb] at HC
    go_enter Tryz.func59,Tryz.ntmps59
    go_wp2_with (first
     |(go_at_call 104;refine(named _ _).mono ?_;rintro e w' ⟨rfl,rfl⟩;rw[hn])
     |(go_at_call 105;refine(HC.out _ ((Later.refl _).alloc _)).mono ?_;rintro e w' ⟨rfl,rfl⟩))
    go_ret;exact⟨rfl,(Later.refl _).alloc _⟩
end Go.Proofs.YtafmbokfkbccaaaGreatDoor
namespace Go.Proofs.YtafmbokfkbccaaaGreatDoor
open Go.RowKit Go.Sort
def R9 (f g:aG):Bool:=decide (gu f g<0)
def JK (f g:aG):Bool:=decide (gu f g=0)
theorem xO {f g:aG}:JK f g=true↔f=g:=by
 unfold JK;rw[decide_eq_true_eq];exact⟨aQ.zero f g,fun e=>by rw[e];exact aQ.refl g⟩
def gD (l:List aG) (f:aG) (k:Nat):Bool:=(l.drop k).any fun x=>JK x f
theorem Facts.at {w:World} {b off:Nat} {n cap:Nat} {l:List aG} (h:Facts w (.slice (some ⟨b,off,none⟩) n cap) l) {k:Nat} (hk:k<l.length):
  b<w.heap.size∧∃a len c,w.cell? ⟨b,off+k*2,none⟩=some (.string (l.getD k aB).1)∧w.cell? ⟨b,off+k*2+1,none⟩=some (.slice a len c)∧bW w (.agg #[.string (l.getD k aB).1,.slice a len c]) (l.getD k aB):=by
 obtain⟨_,a,cap',e,h1⟩:=h;obtain⟨b',off',e',hb,hc⟩:=h1 (by intro e;rw[e] at hk;simp at hk);rw[e'] at e;simp only[Value.slice.injEq,Option.some.injEq,Addr.mk.injEq] at e;obtain⟨⟨rfl,rfl,_⟩,_,_⟩:=e;obtain⟨c1,s,c2,c3⟩:=hc k hk;obtain⟨a2,cp,rfl⟩:=aW c3;exact⟨hb,a2,_,cp,c1,c2,_,rfl,c3⟩
theorem Facts.addr {w:World} {v:Value} {l:List aG} (h:Facts w v l):∃a cap,v=.slice a l.length cap∧l.length≤3518437208883∧(l=[]∨∃b off,a=some ⟨b,off,none⟩):=by
 obtain⟨h0,a,cap,rfl,h1⟩:=h;refine⟨a,cap,rfl,h0,?_⟩
 by_cases e:l=[]
 ·exact Or.inl e
 ·obtain⟨b,off,rfl,_⟩:=h1 e;exact Or.inr ⟨b,off,rfl⟩
end Go.Proofs.YtafmbokfkbccaaaGreatDoor
