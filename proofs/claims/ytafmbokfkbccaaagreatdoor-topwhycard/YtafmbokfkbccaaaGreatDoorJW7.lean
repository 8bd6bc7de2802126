import Derived.Test.YtafmbokfkbccaaaGreatDoorJW6
import Derived.ProofKit
import Derived.SliceStrings
import Derived.Deep.Slices
import Derived.Deep.Strs
import Derived.Lib.SmallJoins
import Derived.SizedLaws
import Derived.Test.YtafmbokfkbccaaaGreatDoorJW2
import Derived.Deep.RegionHeld
namespace Go.Proofs.YtafmbokfkbccaaaGreatDoor
open Go.RowKit Go.Sort Go.ChangeShapes Go.WideShapes Go.ChangeAt Go.Deep
variable {H:Type} {enc:TypeId×Value→H} {W:World}
theorem Sb:ownKnob Tryz.prog.godebug=none:=by kernel_rfl
theorem vP:laidOutB Tryz.prog=true:=by kernel_rfl
theorem Ae {a:Addr} {v:Value} (h:W.cell? (a.add 0)=some v):∃b off,a=⟨b,off,none⟩:=by
 obtain⟨b,off,spot⟩:=a;have hspot:spot=none:=by simpa[Addr.add] using World.cell?_spot h
 subst hspot;exact⟨b,off,rfl⟩
def Ot (t:TypeId) (d:DataW H):Prop:=(d.weights Tryz.prog t).all (· ≤reachBytes)=true
def Opens {α:Type} (enc:TypeId×Value→H) (W:World) (ty:TypeId) (K:Kind α) (ok:α→Prop):Prop:=
 ∀n cs x,DataW.trod enc Tryz.prog W 0 (fun _=>true) true n ty cs=some x→Ot ty x.1→∃a,K.is bU W cs a∧ok a
def okT (t:cO):Prop:=t.2.length≤maxLen
def okA (a:aF):Prop:=a.name.length≤maxLen∧∀t∈a.terms,okT t
def okR (r:aA):Prop:=okA r.head∧∀a∈r.body,okA a
end Go.Proofs.YtafmbokfkbccaaaGreatDoor
namespace Go.Proofs.YtafmbokfkbccaaaGreatDoor
open Go.RowKit Go.Sort
def bg:Kind aC where
 size:=2
 is:=fun _ _ c b=>c=[.string b.1,.string b.2]
 len:=fun h=>by subst h;rfl
 one:=fun h u hu=>by subst h;simp at hu;rcases hu with rfl|rfl <;> rfl
 kept:=fun h _ _=>h
 mono:=fun h _=>h
def slK {α:Type} (K:Kind α):Kind (List α) where
 size:=1
 is:=fun B w c l=>∃v,c=[v]∧K.sl B w v l
 len:=fun⟨v,h,_⟩=>by subst h;rfl
 one:=fun⟨v,h,hs⟩ u hu=>by
  subst h;obtain⟨a,cap,rfl⟩:=Kind.slice hs;simp at hu;subst hu;rfl
 kept:=fun⟨v,h,hs⟩ h1 h2=>⟨v,h,Kind.aT hs h1 h2⟩
 mono:=fun⟨v,h,hs⟩ h1=>⟨v,h,Kind.aX hs h1⟩
abbrev sV:Kind (List aC):=slK bg
theorem Kind.jv {α:Type} {K:Kind α} {ty:TypeId} {lo:Nat} {w w':World} {v:Value} {l:List α} (h:K.own ty lo w v l) (hs:w.heap.size≤w'.heap.size) (hk:∀k,k<w.heap.size→lo≤k→w'.heap[k]?=w.heap[k]?):K.own ty lo w' v l:=by
 obtain⟨xs,ho,hx⟩:=h;refine⟨xs,⟨ho.1,?_⟩,fun i x hi=> ?_⟩
 ·rcases ho.2 with e|⟨g,cap,cur,rfl,hbg,hg,r⟩
  ·exact Or.inl e
  ·exact Or.inr ⟨g,cap,cur,rfl,hbg,by rw[hk g (Array.getElem?_eq_some_iff.1 hg).1 hbg];exact hg,r⟩
 ·obtain⟨c,c1,c2⟩:=hx i x hi;exact⟨c,K.kept c1 hs fun j hj hB=>hk j hj hB.1,c2⟩
theorem jL {ty:TypeId} {lo:Nat} {w w':World} {v:Value} {l:List aC} (h:bg.own ty lo w v l) (hk:∀k,v.ownBlock=some k→w'.heap[k]?=w.heap[k]?):bg.own ty lo w' v l:=by
 obtain⟨xs,ho,hx⟩:=h;refine⟨xs,⟨ho.1,?_⟩,hx⟩;rcases ho.2 with e|⟨g,cap,cur,rfl,hbg,hg,r⟩
 ·exact Or.inl e
 ·exact Or.inr ⟨g,cap,cur,rfl,hbg,by rw[hk g rfl];exact hg,r⟩
theorem vQ {ty:TypeId} {lo lo':Nat} {w:World} {v:Value} {l:List aC} (h:bg.own ty lo w v l) (hl:lo'≤lo):bg.own ty lo' w v l:=by
 obtain⟨xs,ho,hx⟩:=h;refine⟨xs,⟨ho.1,?_⟩,hx⟩;rcases ho.2 with e|⟨g,cap,cur,rfl,hbg,r⟩
 ·exact Or.inl e
 ·exact Or.inr ⟨g,cap,cur,rfl,by omega,r⟩
abbrev jA (v:Value):Nat→Prop:=fun k=>v.ownBlock=some k
def apart (u u':Value):Prop:=∀k,u.ownBlock=some k→u'.ownBlock≠some k
theorem apart.symm {u u':Value} (h:apart u u'):apart u' u:=fun k h1 h2=>h k h2 h1
def Lists (tyS ty:TypeId) (lo:Nat) (w:World) (v:Value) (ps:List (Value×List aC)):Prop:=
 w.ownsRow lo tyS 1 v ps.length (ps.map (·.1))∧(∀p∈ps,bg.own ty lo w p.1 p.2∧apart p.1 v)∧ps.Pairwise fun p q=>apart p.1 q.1
theorem Lists.nil (tyS ty:TypeId) (lo:Nat) (w:World):Lists tyS ty lo w (.slice none 0 0) []:=⟨World.ownsRow_nil w lo tyS 1,fun p hp=>by simp at hp,List.Pairwise.nil⟩
theorem Lists.kept {tyS ty:TypeId} {lo:Nat} {w w':World} {v:Value} {ps:List (Value×List aC)} (h:Lists tyS ty lo w v ps) (hk:∀k,k<w.heap.size→lo≤k→w'.heap[k]?=w.heap[k]?):Lists tyS ty lo w' v ps:=by
 obtain⟨ho,hp,ha⟩:=h;refine⟨⟨ho.1,?_⟩,fun p h1=>⟨jL (hp p h1).1 fun k e=> ?_,(hp p h1).2⟩,ha⟩
 ·rcases ho.2 with e|⟨g,cap,cur,rfl,hbg,hg,r⟩
  ·exact Or.inl e
  ·exact Or.inr ⟨g,cap,cur,rfl,hbg,by rw[hk g (Array.getElem?_eq_some_iff.1 hg).1 hbg];exact hg,r⟩
 ·have:=Kind.fD (hp p h1).1 e;exact hk k this.2 this.1
theorem Lists.later {tyS ty:TypeId} {lo:Nat} {w w':World} {v:Value} {ps:List (Value×List aC)} (h:Lists tyS ty lo w v ps) (k:Later w w'):Lists tyS ty lo w' v ps:=h.kept fun _ hi _=>k.block hi
theorem Lists.slice {tyS ty:TypeId} {lo:Nat} {w:World} {v:Value} {ps:List (Value×List aC)} (h:Lists tyS ty lo w v ps):∃a cap,v=.slice a ps.length cap:=by
 rcases h.1.2 with⟨rfl,e⟩|⟨g,cap,cur,rfl,_⟩
 ·exact⟨none,0,by rw[e]⟩
 ·exact⟨_,cap,rfl⟩
theorem Lists.sl {tyS ty:TypeId} {lo:Nat} {w:World} {v:Value} {ps:List (Value×List aC)} (h:Lists tyS ty lo w v ps) (hl:ps.length≤8796093022208) (hs:∀p∈ps,p.2.length≤8796093022208):sV.sl (From lo) w v (ps.map (·.2)):=by
 obtain⟨ho,hp,_⟩:=h;rcases ho.2 with⟨rfl,e⟩|⟨g,cap,cur,rfl,hbg,hg,hnc,_⟩
 ·have:ps=[]:=List.eq_nil_of_length_eq_zero e;subst this;exact sV.iq _ _ _ _
 ·refine⟨⟨by simpa using hl,hnc⟩,_,cap,by simp,fun _=>⟨g,0,rfl,hbg,(Array.getElem?_eq_some_iff.1 hg).1,fun i x hi=> ?_⟩⟩;rw[List.getElem?_map] at hi;cases e:ps[i]? with
  |none=>rw[e] at hi;cases hi
  |some p=>
   rw[e] at hi;cases hi;have hpm:=List.mem_of_getElem? e;refine⟨[p.1],⟨p.1,rfl,Kind.iw (hp p hpm).1 (hs p hpm)⟩,fun j u hu=> ?_⟩;cases j with
   |succ j=>simp at hu
   |zero=>
    simp at hu;subst hu;have:=ho.cells (g:=g) rfl i p.1 (by rw[List.getElem?_map,e];rfl);rw[Addr.add_lit] at this;show w.cell? ⟨g,0+i*1+0,none⟩=_;rw[Nat.mul_one,Nat.add_zero];exact this
end Go.Proofs.YtafmbokfkbccaaaGreatDoor
namespace Go.Proofs.YtafmbokfkbccaaaGreatDoor
theorem take_at {P:Program} {md:Region.Mode} {ops:Array Oper} {Q:Exit→Act→World→Prop} {S:World→Prop} {i:Nat} {oi:Oper} {d:Option Nat} {v:Value} {fuel:Nat} {listed:Array Bool} {a:Act} {w:World} (hi:ops[i]?=some oi) (hd:oi.dst=d)
  (hs:Region.noSelect ops=true) (hf:Region.free md ops listed i=true) (hr:(Region.ready md ops listed).contains i=true)
  (hQ:∀c a w,Q (.panic c) (a.put oi.dst v) w→Q (.panic c) a w) (hy:YieldsIf P ops S oi v a) (hS:S w)
  (h:wpAnyH P md ops Q S fuel (listed.setIfInBounds i true) (a.put d v) w):wpAnyH P md ops Q S (fuel+1) listed a w:=
 wpAnyH_take hi hs hf hr hQ hy hS (by rw[hd];exact h)
theorem au {P:Program} {md:Region.Mode} {ops:Array Oper} {Q:Exit→Act→World→Prop} {S:World→Prop} {i:Nat} {oi:Oper} {d:Option Nat} {v:Value} {fuel:Nat} {listed:Array Bool} {a:Act} {w:World} (hi:ops[i]?=some oi) (hd:oi.dst=d) (hS:S w)
  (hy:∀w,S w→(execOp a.eval oi).run P w=.ok (.value v) w) (h:wpAnyH P md ops Q S fuel (listed.setIfInBounds i true) (a.put d v) w) (hs:Region.noSelect ops=true:=by kernel_rfl) (hf:Region.free md ops listed i=true:=by kernel_rfl) (hr:(Region.ready md ops listed).contains i=true:=by kernel_rfl)
  (hQ:∀c a w,Q (.panic c) (a.put oi.dst v) w→Q (.panic c) a w:=by exact fun _ _ _ h=>h) (hw:Region.wanted oi (yielded ops a.tmps)=true:=by rfl):wpAnyH P md ops Q S (fuel+1) listed a w:=
 take_at hi hd hs hf hr hQ (Or.inl ⟨hw,hy⟩) hS h
theorem dU {P:Program} {md:Region.Mode} {ops:Array Oper} {Q:Exit→Act→World→Prop} {S:World→Prop} {i:Nat} {oi:Oper} {d:Option Nat} {fuel:Nat} {listed:Array Bool} {a:Act} {w:World} (hi:ops[i]?=some oi) (hd:oi.dst=d) (hS:S w)
  (h:wpAnyH P md ops Q S fuel (listed.setIfInBounds i true) (a.put d undef) w) (hs:Region.noSelect ops=true:=by kernel_rfl) (hf:Region.free md ops listed i=true:=by kernel_rfl) (hr:(Region.ready md ops listed).contains i=true:=by kernel_rfl)
  (hQ:∀c a w,Q (.panic c) (a.put oi.dst undef) w→Q (.panic c) a w:=by exact fun _ _ _ h=>h) (hw:Region.wanted oi (yielded ops a.tmps)=false:=by rfl):wpAnyH P md ops Q S (fuel+1) listed a w:=
 take_at hi hd hs hf hr hQ (Or.inr ⟨hw,rfl⟩) hS h
theorem aZ (a:Act) (d:Tmp) (v:Value):a.put (some d) v={a with tmps:=a.tmps.setIfInBounds d v}:=rfl
theorem bf {α:Type} (l:List α) (i:Nat) (x:α):l.toArray.setIfInBounds i x=(l.set i x).toArray:=List.setIfInBounds_toArray ..
theorem aze {α:Type} (l:List α) (x y:α):(x::l).set 0 y=y::l:=rfl
theorem asu {α:Type} (l:List α) (i:Nat) (x y:α):(x::l).set (i+1) y=x::l.set i y:=rfl
theorem Ej.later {w0 w w':World} {a:Addr} {m:List aG} (h:Ej w0 w a m) (k:Later w w'):Ej w0 w' a m:=by
 obtain⟨ys,y1,y2,y3,y4⟩:=h;exact⟨ys,y1,fun j u hu=>by
  have hc:=y2 j u hu;rw[k.cell (World.block_lt_of_cell? w _ hc)];exact hc,y3,y4⟩
theorem Ej.grown {w0 w w':World} {g off:Nat} {m:List aG} {row:Option Nat} (h:Ej w0 w ⟨g,off,none⟩ m) (k:w.grownBy w' row) (hne:some g≠row):Ej w0 w' ⟨g,off,none⟩ m:=by
 obtain⟨ys,y1,y2,y3,y4⟩:=h;exact⟨ys,y1,fun j u hu=>by
  have hc:=y2 j u hu;rw[Addr.add_lit] at hc⊢;exact k.cell hc hne,y3,y4⟩
end Go.Proofs.YtafmbokfkbccaaaGreatDoor
namespace Go.Proofs.YtafmbokfkbccaaaGreatDoor
open Go.RowKit Go.Sort
theorem Af {a b:ByteArray}:(a.toList==b.toList)=decide (a=b):=by
 rw[Bool.eq_iff_iff];simp only[beq_iff_eq,decide_eq_true_eq];exact⟨toList_inj,fun h=>by rw[h]⟩
set_option maxHeartbeats 400000 in
theorem Sc (b1 b2 v:ByteArray) (c:Nat) (w:World) (hc:w.cell? ⟨c,0,none⟩=some (.string v)) (hb:c<w.heap.size):
  Calls Tryz.prog 226 #[.agg #[.string b1,.string b2],.pointer (some ⟨c,0,none⟩)] w fun e w'=>e=.returned (.bool (decide (b1=v)))∧Later w w':=by
 have E:=hide (Af (a:=b1) (b:=v))
 go_enter Tryz.func226,Tryz.ntmps226
 go_wp2;go_ret;exact⟨dA E.out,(by repeat (first|exact Later.refl _|assumption|refine Later.drewN ?_ _|refine Later.drew ?_|refine Later.alloc ?_ _|refine Later.grow ?_ _))⟩
theorem ED {l:List aC} {k:Nat} {b:aC} (h:l[k]?=some b) (v:ByteArray):bQ (l.drop k) v=if b.1=v then some b.2 else bQ (l.drop (k+1)) v:=by
 obtain⟨h1,e1⟩:=List.getElem?_eq_some_iff.1 h;rw[List.drop_eq_getElem_cons h1,e1];rfl
set_option maxHeartbeats 1000000 in
theorem EF (u:Value) (l:List aC) (v:ByteArray) (c:Nat) (w:World) (hu:bg.sl bU w u l) (hc:w.cell? ⟨c,0,none⟩=some (.string v)) (hb:c<w.heap.size):
  Calls Tryz.prog 225 #[u,.func (.func 226) #[] #[.pointer (some ⟨c,0,none⟩)]] w fun e w'=>∃n:Int,e=.returned (.int .i64 n)∧((n= -1∧bQ l v=none)∨∃k b,n=(k:Nat)∧l[k]?=some b∧bQ l v=some b.2)∧Later w w':=by
 obtain⟨a,cap,rfl⟩:=Kind.slice hu;have hl:=hu.1.1;have HU:=hide hu;have HC:Hid (∀w' b1 b2,Later w w'→Calls Tryz.prog 226 #[.agg #[.string b1,.string b2],.pointer (some ⟨c,0,none⟩)] w' fun e w''=>e=.returned (.bool (decide (b1=v)))∧Hid (Later w w'')):=fun w' b1 b2 hL=>
  (Sc b1 b2 v c w' (by rw[hL.cell hb];exact hc) (Nat.lt_of_lt_of_le hb hL.size)).mono fun e w'' ⟨he,hL2⟩=>⟨he,hL.trans hL2⟩
 clear hu hc hb
 go_enter Tryz.func225,Tryz.ntmps225
 go_wp2
 go_loopg [8] l.length (fun g i wr=>∃k:Nat,k+g=l.length∧i=.int .i64 k∧Hid (bQ l v=bQ (l.drop k) v)∧Hid (Later w wr))
 case atStart=>exact⟨0,by omega,rfl,(rfl:_=_),Later.refl _⟩
 case round=>
  obtain⟨k,hk,rfl,HE,HL⟩:=hrel
  by_cases hlt:k<l.length
  ·obtain⟨b,hx⟩:∃x,l[k]?=some x:=⟨_,List.getElem?_eq_getElem hlt⟩;obtain⟨b1,o1,_,rfl,hb1,rfl,hcl⟩:=Kind.fQ HU.out hx;have d0:wr.cell? ⟨b1,o1+k*2,none⟩=some (.string b.1):=by rw[HL.out.cell hb1];exact hcl 0 _ rfl
   have d1:wr.cell? ⟨b1,o1+k*2+1,none⟩=some (.string b.2):=by rw[HL.out.cell hb1];exact hcl 1 _ rfl
   have hbr:b1<wr.heap.size:=Nat.lt_of_lt_of_le hb1 HL.out.size;have HD:=hide (ED hx v);have HX:=hide hx;have HCk:=hide (HC.out wr b.1 b.2 HL.out);clear hcl hx;obtain⟨bv,bn⟩:=b;dsimp only at*
   by_cases hq:bv=v
   ·have hq':decide (bv=v)=true:=by simpa using hq
    have F:Hid (bQ l v=some bn):=by show _=_;rw[HE.out,HD.out,if_pos hq]
    rw[hq'] at HCk;clear hq hq' HD HE
    go_wp2_with (go_at_call 226;refine HCk.out.mono ?_;rintro e w2 ⟨rfl,hL2⟩)
    go_ret;exact⟨_,rfl,Or.inr ⟨k,(bv,bn),rfl,HX.out,F.out⟩,hL2.out⟩
   ·have hq':decide (bv=v)=false:=by simpa using hq
    have F:Hid (bQ l v=bQ (l.drop (k+1)) v):=by show _=_;rw[HE.out,HD.out,if_neg hq]
    rw[hq'] at HCk;clear hq hq' HD HE
    go_wp2_with (go_at_call 226;refine HCk.out.mono ?_;rintro e w2 ⟨rfl,hL2⟩)
    go_roundg (l.length- (k+1))
    case measure=>omega
    case rel=>exact⟨k+1,by omega,by go_num,F,hL2⟩
  ·have F:Hid (bQ l v=none):=by show _=_;rw[HE.out,List.drop_eq_nil_of_le (by omega)];rfl
   go_wp2;go_ret;exact⟨_,rfl,Or.inl ⟨rfl,F.out⟩,HL.out⟩
def jZ (x:Option ByteArray):Value:=.tuple #[.string (x.getD ByteArray.empty),.bool x.isSome]
set_option maxHeartbeats 1000000 in
theorem NN (u:Value) (l:List aC) (v:ByteArray) (w:World) (hu:bg.sl bU w u l):Calls Tryz.prog 164 #[u,.string v] w fun e w'=>e=.returned (jZ (bQ l v))∧Later w w':=by
 have HI:=hide (EF u l v w.heap.size (w.alloc (.cells #[.string v] 9)) (Kind.aH hu ((Later.refl _).alloc _)) (by simp) (by simp));have HU:=hide hu;obtain⟨a,cap,rfl⟩:=Kind.slice hu;clear hu
 go_enter Tryz.func164,Tryz.ntmps164
 go_wp2_with fail
 refine HI.out.mono ?_;rintro e w2 ⟨n,rfl,h,hL⟩;have HL:=hide (((Later.refl w).alloc (.cells #[.string v] 9)).trans hL);clear hL HI;rcases h with⟨rfl,h⟩|⟨k,b,rfl,hk,h⟩
 ·have H:=hide h;clear h;go_wp2
  go_ret2
  exact⟨by rw[H.out];rfl,HL.out⟩
 ·obtain⟨b1,o1,_,rfl,hb1,rfl,hcl⟩:=Kind.fQ HU.out hk;have d1:w2.cell? ⟨b1,o1+k*2+1,none⟩=some (.string b.2):=by rw[HL.out.cell hb1];exact hcl 1 _ rfl
  have hbr:b1<w2.heap.size:=Nat.lt_of_lt_of_le hb1 HL.out.size;have hkl:k<l.length:=(List.getElem?_eq_some_iff.1 hk).1;have hkz:(k:Int)<(l.length:Int):=by omega
  have hk0:¬(k:Int)<0:=by omega
  have H:=hide h;clear h hcl hk;go_wp2
  go_ret2
  exact⟨by rw[H.out];rfl,HL.out⟩
def JM (g:Nat) (cb:Array Value) (l:List aC) (w0:World):Prop:=∀w v,Later w0 w→Calls Tryz.prog g (#[.string v]++cb) w fun e w'=>e=.returned (jZ (bQ l v))∧Later w w'
set_option maxHeartbeats 1000000 in
theorem Jj (g:Nat) (cb:Array Value) (eg:∀args w,(callFunc g args).run Tryz.prog w=.ok (.enter g args) w) (t:cO) (l:List aC) (w0 w:World) (h:JM g cb l w0) (hL:Later w0 w):
  Calls Tryz.prog 165 #[.agg #[.bool t.1,.string (bs t.2)],.func (.func g) #[] cb] w fun e w'=>e=.returned (jZ (aV l t))∧Later w w':=by
 obtain⟨t1,t2⟩:=t;cases t1
 ·show Calls _ _ _ _ fun e w'=>e=.returned (jZ (some (bs t2)))∧_;dsimp only;generalize bs t2=k;clear h
  go_enter Tryz.func165,Tryz.ntmps165
  go_wp2
  go_ret2
  exact⟨rfl,(by repeat (first|exact Later.refl _|assumption|refine Later.drewN ?_ _|refine Later.drew ?_|refine Later.alloc ?_ _|refine Later.grow ?_ _))⟩
 ·show Calls _ _ _ _ fun e w'=>e=.returned (jZ (bQ l (bs t2)))∧_;dsimp only;generalize bs t2=k;have HT:=hide (h (w.alloc (.cells #[.bool true,.string k] 187)) k (hL.alloc _));clear h;unfold jZ at HT⊢;generalize(bQ l k).getD ByteArray.empty=s at*;generalize(bQ l k).isSome=b at*
  go_enter Tryz.func165,Tryz.ntmps165
  go_wp2_with fail
  refine HT.out.mono ?_;rintro e w2 ⟨rfl,hL2⟩;have HL2:=hide (((Later.refl w).alloc (.cells #[.bool true,.string k] 187)).trans hL2);clear hL2 HT;go_wp2
  go_ret2
  exact⟨rfl,HL2.out⟩
end Go.Proofs.YtafmbokfkbccaaaGreatDoor
