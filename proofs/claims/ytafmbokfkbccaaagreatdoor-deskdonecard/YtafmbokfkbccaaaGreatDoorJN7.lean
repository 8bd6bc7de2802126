import Derived.Test.YtafmbokfkbccaaaGreatDoorJN6
import Derived.Deep.RegionWith
import Derived.Laws.EntriesVeiled
import Derived.Test.YtafmbokfkbccaaaGreatDoorJN3
import Derived.Test.YtafmbokfkbccaaaGreatDoorJN4
import Derived.Test.YtafmbokfkbccaaaGreatDoorJN2
import Derived.Deep.RegionHeld
namespace Go.Proofs.YtafmbokfkbccaaaGreatDoor
open Go.RowKit Go.Sort
set_option maxHeartbeats 400000 in
theorem among (a:Option Addr) (n cap:Nat) (w:World):Calls Tryz.prog 70 #[.slice a n cap] w fun e w'=>
  e=.returned (.func (.func 126) #[] #[.pointer (some ⟨w.heap.size,0,none⟩)])∧w'=w.alloc (.cells #[.slice a n cap] 24):=by
 go_enter Tryz.func70,Tryz.ntmps70
 go_wp2;go_ret;exact⟨rfl,rfl⟩
set_option maxHeartbeats 400000 in
theorem KV (c:Nat) (v t:Value) (l:List aI) (g:aI) (w:World) (hc:w.cell? ⟨c,0,none⟩=some v) (hb:c<w.heap.size) (hf:Facts w v l) (ht:dF w t g) (hr:gW l):
  Calls Tryz.prog 126 #[t,.pointer (some ⟨c,0,none⟩)] w fun e w'=>e=.returned (.bool (gq l g 0))∧Later w w':=by
 have hS:=fun w' (hw:Later w w')=>search v t l g w' (hf.later hw) (ht.later hw) hr;have HS:=hide hS;obtain⟨a,cap,rfl⟩:=aB hf;obtain⟨s2,rfl,l2,a2,c2,rfl,_⟩:=ht;clear hS hf hr
 go_enter Tryz.func126,Tryz.ntmps126
 go_wp2_with (go_at_call 127;refine(HS.out _ ((Later.refl _).alloc _)).mono ?_;rintro e w1 ⟨n,rfl,hL⟩)
 go_ret;exact⟨rfl,((Later.refl _).alloc _).trans hL⟩
set_option maxHeartbeats 1000000 in
theorem inC (v t:Value) (l:List aI) (g:aI) (w:World) (hf:Facts w v l) (ht:dF w t g) (hr:gW l):
  Calls Tryz.prog 23 #[v,t] w fun e w'=>e=.returned (.bool (gq l g 0))∧Later w w':=by
 have hA:=fun c w' hc hb (hw:Later w w')=>KV c v t l g w' hc hb (hf.later hw) (ht.later hw) hr;have HA:=hide hA;obtain⟨a,cap,rfl⟩:=aB hf;obtain⟨s2,rfl,l2,a2,c2,rfl,_⟩:=ht;clear hA hf hr
 go_enter Tryz.func23,Tryz.ntmps23
 go_wp2
 go_region_with (first
  |(go_at_call 70;refine(among _ _ _ _).mono ?_;rintro e w1 ⟨rfl,rfl⟩)
  |(go_at_call 126;refine(HA.out (w.heap.size+1) _ (by simp) (by simp) (by repeat (first|exact Later.refl _|assumption|refine Later.drewN ?_ _|refine Later.drew ?_|refine Later.alloc ?_ _|refine Later.grow ?_ _))).mono ?_;rintro e w2 ⟨rfl,hL⟩))
 all_goals
  go_wp2;go_ret;exact⟨rfl,Later.trans (by repeat (first|exact Later.refl _|assumption|refine Later.drewN ?_ _|refine Later.drew ?_|refine Later.alloc ?_ _|refine Later.grow ?_ _)) hL⟩
set_option maxHeartbeats 400000 in
theorem QW (c d:Nat) (v t:Value) (l:List aI) (g:aI) (w:World) (hc:w.cell? ⟨c,0,none⟩=some v) (hb:c<w.heap.size) (hd:w.cell? ⟨d,0,none⟩=some (.func (.func 126) #[] #[.pointer (some ⟨c,0,none⟩)])) (hdb:d<w.heap.size) (hf:Facts w v l) (ht:dF w t g) (hr:gW l):
  Calls Tryz.prog 94 #[t,.pointer (some ⟨d,0,none⟩)] w fun e w'=>e=.returned (.bool (!gq l g 0))∧Later w w':=by
 have hA:=fun w' (hw:Later w w')=>KV c v t l g w' (by rw[hw.cell (p:=⟨c,0,none⟩) hb];exact hc) (Nat.lt_of_lt_of_le hb hw.size) (hf.later hw) (ht.later hw) hr;have HA:=hide hA;obtain⟨s2,rfl,l2,a2,c2,rfl,_⟩:=ht;clear hA hf hr hc;generalize gq l g 0=r at*
 go_enter Tryz.func94,Tryz.ntmps94
 go_wp2_with (go_at_call 126;refine(HA.out _ ((Later.refl _).alloc _)).mono ?_;rintro e w1 ⟨rfl,hL⟩)
 go_ret;exact⟨rfl,((Later.refl _).alloc _).trans hL⟩
set_option maxHeartbeats 400000 in
theorem JD (va vb:Value) (la lb:List aI) (w:World) (ha:Facts w va la) (hb:Facts w vb lb) (hr:gW lb):
  Calls Tryz.prog 43 #[va,vb] w fun e w'=>∃v',e=.returned v'∧bY w' w.heap.size v' (la.filter fun f=> !gq lb f 0)∧Later w w':=by
 have HA:=hide ha;have HB:=hide hb;have HR:=hide hr;obtain⟨a1,c1,rfl⟩:=aB ha;obtain⟨a2,c2,rfl⟩:=aB hb;clear ha hb hr
 go_enter Tryz.func43,Tryz.ntmps43
 go_wp2_with (go_at_call 70;refine(among _ _ _ _).mono ?_;rintro e w1 ⟨rfl,rfl⟩)
 have hL:Later w ((w.alloc (.cells #[.slice a2 lb.length c2] 24)).alloc (.cells #[.func (.func 126) #[] #[.pointer (some ⟨w.heap.size,0,none⟩)]] 131)):=(by repeat (first|exact Later.refl _|assumption|refine Later.drewN ?_ _|refine Later.drew ?_|refine Later.alloc ?_ _|refine Later.grow ?_ _));have hz:w.heap.size+1<((w.alloc (.cells #[.slice a2 lb.length c2] 24)).alloc (.cells #[.func (.func 126) #[] #[.pointer (some ⟨w.heap.size,0,none⟩)]] 131)).heap.size:=by simp
 have y0:((w.alloc (.cells #[.slice a2 lb.length c2] 24)).alloc (.cells #[.func (.func 126) #[] #[.pointer (some ⟨w.heap.size,0,none⟩)]] 131)).cell? ⟨w.heap.size,0,none⟩=some (.slice a2 lb.length c2):=by simp
 have y1:((w.alloc (.cells #[.slice a2 lb.length c2] 24)).alloc (.cells #[.func (.func 126) #[] #[.pointer (some ⟨w.heap.size,0,none⟩)]] 131)).cell? ⟨w.heap.size+1,0,none⟩=some (.func (.func 126) #[] #[.pointer (some ⟨w.heap.size,0,none⟩)]):=by simp
 generalize((w.alloc (.cells #[.slice a2 lb.length c2] 24)).alloc (.cells #[.func (.func 126) #[] #[.pointer (some ⟨w.heap.size,0,none⟩)]] 131))=W at*;refine(keep 94 #[.pointer (some ⟨w.heap.size+1,0,none⟩)] zU W.heap.size W.heap.size W W _ la (fun k=> !gq lb (la.getD k aC) 0) (fun _ _=>True) (HA.out.later hL) (Later.refl _) (Nat.le_refl _) (Nat.le_refl _)
  ⟨fun k w' t hk hw _ _ hf=>(QW w.heap.size (w.heap.size+1) _ t lb (la.getD k aC) w' (by rw[hw.cell (p:=⟨w.heap.size,0,none⟩) (by show w.heap.size<_;omega)];exact y0) (by have:=hw.size;omega)
    (by rw[hw.cell (p:=⟨w.heap.size+1,0,none⟩) hz];exact y1) (by have:=hw.size;omega) ((HB.out.later hL).later hw) (hf.later hw) HR.out).mono fun e w'' ⟨he,hL'⟩=>⟨he,hL'.only,trivial⟩,
   fun _ _ _ _ _ _=>trivial⟩ trivial).mono ?_
 rintro e w1 ⟨v',rfl,hO,hW,_⟩;have e:=tq (fun f=> !gq lb f 0) la la.length (Nat.le_refl _);rw[List.take_length] at e;rw[e] at hO;have HO:=hide hO;clear hO e;go_wp2;go_ret;exact⟨v',rfl,HO.out.base hL.size,hL.trans (hW.later (Later.refl _) (Nat.le_refl _))⟩
end Go.Proofs.YtafmbokfkbccaaaGreatDoor
namespace Go.Proofs.YtafmbokfkbccaaaGreatDoor
open Go.RowKit Go.Sort
def bL:Kind aD where
 size:=2
 is:=fun _ _ c b=>c=[.string b.1,.string b.2]
 len:=fun h=>by subst h;rfl
 one:=fun h u hu=>by subst h;simp at hu;rcases hu with rfl|rfl <;> rfl
 kept:=fun h _ _=>h
 mono:=fun h _=>h
def slK {α:Type} (K:Kind α):Kind (List α) where
 size:=1
 is:=fun B w c l=>∃v,c=[v]∧K.sl B w v l
 len:=fun⟨v,h,_⟩=>by subst h;rfl
 one:=fun⟨v,h,hs⟩ u hu=>by
  subst h;obtain⟨a,cap,rfl⟩:=Kind.slice hs;simp at hu;subst hu;rfl
 kept:=fun⟨v,h,hs⟩ h1 h2=>⟨v,h,Kind.aM hs h1 h2⟩
 mono:=fun⟨v,h,hs⟩ h1=>⟨v,h,Kind.aH hs h1⟩
abbrev lu:Kind (List aD):=slK bL
theorem Kind.j3 {α:Type} {K:Kind α} {ty:TypeId} {lo:Nat} {w w':World} {v:Value} {l:List α} (h:K.own ty lo w v l) (hs:w.heap.size≤w'.heap.size) (hk:∀k,k<w.heap.size→lo≤k→w'.heap[k]?=w.heap[k]?):K.own ty lo w' v l:=by
 obtain⟨xs,ho,hx⟩:=h;refine⟨xs,⟨ho.1,?_⟩,fun i x hi=> ?_⟩
 ·rcases ho.2 with e|⟨g,cap,cur,rfl,hbg,hg,r⟩
  ·exact Or.inl e
  ·exact Or.inr ⟨g,cap,cur,rfl,hbg,by rw[hk g (Array.getElem?_eq_some_iff.1 hg).1 hbg];exact hg,r⟩
 ·obtain⟨c,c1,c2⟩:=hx i x hi;exact⟨c,K.kept c1 hs fun j hj hB=>hk j hj hB.1,c2⟩
theorem kL {ty:TypeId} {lo:Nat} {w w':World} {v:Value} {l:List aD} (h:bL.own ty lo w v l) (hk:∀k,v.ownBlock=some k→w'.heap[k]?=w.heap[k]?):bL.own ty lo w' v l:=by
 obtain⟨xs,ho,hx⟩:=h;refine⟨xs,⟨ho.1,?_⟩,hx⟩;rcases ho.2 with e|⟨g,cap,cur,rfl,hbg,hg,r⟩
 ·exact Or.inl e
 ·exact Or.inr ⟨g,cap,cur,rfl,hbg,by rw[hk g rfl];exact hg,r⟩
theorem yj {ty:TypeId} {lo lo':Nat} {w:World} {v:Value} {l:List aD} (h:bL.own ty lo w v l) (hl:lo'≤lo):bL.own ty lo' w v l:=by
 obtain⟨xs,ho,hx⟩:=h;refine⟨xs,⟨ho.1,?_⟩,hx⟩;rcases ho.2 with e|⟨g,cap,cur,rfl,hbg,r⟩
 ·exact Or.inl e
 ·exact Or.inr ⟨g,cap,cur,rfl,by omega,r⟩
abbrev kg (v:Value):Nat→Prop:=fun k=>v.ownBlock=some k
def apart (u u':Value):Prop:=∀k,u.ownBlock=some k→u'.ownBlock≠some k
theorem apart.symm {u u':Value} (h:apart u u'):apart u' u:=fun k h1 h2=>h k h2 h1
def Lists (tyS ty:TypeId) (lo:Nat) (w:World) (v:Value) (ps:List (Value×List aD)):Prop:=
 w.ownsRow lo tyS 1 v ps.length (ps.map (·.1))∧(∀p∈ps,bL.own ty lo w p.1 p.2∧apart p.1 v)∧ps.Pairwise fun p q=>apart p.1 q.1
theorem Lists.nil (tyS ty:TypeId) (lo:Nat) (w:World):Lists tyS ty lo w (.slice none 0 0) []:=⟨World.ownsRow_nil w lo tyS 1,fun p hp=>by simp at hp,List.Pairwise.nil⟩
theorem Lists.kept {tyS ty:TypeId} {lo:Nat} {w w':World} {v:Value} {ps:List (Value×List aD)} (h:Lists tyS ty lo w v ps) (hk:∀k,k<w.heap.size→lo≤k→w'.heap[k]?=w.heap[k]?):Lists tyS ty lo w' v ps:=by
 obtain⟨ho,hp,ha⟩:=h;refine⟨⟨ho.1,?_⟩,fun p h1=>⟨kL (hp p h1).1 fun k e=> ?_,(hp p h1).2⟩,ha⟩
 ·rcases ho.2 with e|⟨g,cap,cur,rfl,hbg,hg,r⟩
  ·exact Or.inl e
  ·exact Or.inr ⟨g,cap,cur,rfl,hbg,by rw[hk g (Array.getElem?_eq_some_iff.1 hg).1 hbg];exact hg,r⟩
 ·have:=Kind.eT (hp p h1).1 e;exact hk k this.2 this.1
theorem Lists.later {tyS ty:TypeId} {lo:Nat} {w w':World} {v:Value} {ps:List (Value×List aD)} (h:Lists tyS ty lo w v ps) (k:Later w w'):Lists tyS ty lo w' v ps:=h.kept fun _ hi _=>k.block hi
theorem Lists.slice {tyS ty:TypeId} {lo:Nat} {w:World} {v:Value} {ps:List (Value×List aD)} (h:Lists tyS ty lo w v ps):∃a cap,v=.slice a ps.length cap:=by
 rcases h.1.2 with⟨rfl,e⟩|⟨g,cap,cur,rfl,_⟩
 ·exact⟨none,0,by rw[e]⟩
 ·exact⟨_,cap,rfl⟩
theorem Lists.sl {tyS ty:TypeId} {lo:Nat} {w:World} {v:Value} {ps:List (Value×List aD)} (h:Lists tyS ty lo w v ps) (hl:ps.length≤8796093022208) (hs:∀p∈ps,p.2.length≤8796093022208):lu.sl (From lo) w v (ps.map (·.2)):=by
 obtain⟨ho,hp,_⟩:=h;rcases ho.2 with⟨rfl,e⟩|⟨g,cap,cur,rfl,hbg,hg,hnc,_⟩
 ·have:ps=[]:=List.eq_nil_of_length_eq_zero e;subst this;exact lu.dw _ _ _ _
 ·refine⟨⟨by simpa using hl,hnc⟩,_,cap,by simp,fun _=>⟨g,0,rfl,hbg,(Array.getElem?_eq_some_iff.1 hg).1,fun i x hi=> ?_⟩⟩;rw[List.getElem?_map] at hi;cases e:ps[i]? with
  |none=>rw[e] at hi;cases hi
  |some p=>
   rw[e] at hi;cases hi;have hpm:=List.mem_of_getElem? e;refine⟨[p.1],⟨p.1,rfl,Kind.iV (hp p hpm).1 (hs p hpm)⟩,fun j u hu=> ?_⟩;cases j with
   |succ j=>simp at hu
   |zero=>
    simp at hu;subst hu;have:=ho.cells (g:=g) rfl i p.1 (by rw[List.getElem?_map,e];rfl);rw[Addr.add_lit] at this;show w.cell? ⟨g,0+i*1+0,none⟩=_;rw[Nat.mul_one,Nat.add_zero];exact this
end Go.Proofs.YtafmbokfkbccaaaGreatDoor
namespace Go.Proofs.YtafmbokfkbccaaaGreatDoor
theorem take_at {P:Program} {md:Region.Mode} {ops:Array Oper} {Q:Exit→Act→World→Prop} {S:World→Prop} {i:Nat} {oi:Oper} {d:Option Nat} {v:Value} {fuel:Nat} {listed:Array Bool} {a:Act} {w:World} (hi:ops[i]?=some oi) (hd:oi.dst=d)
  (hs:Region.noSelect ops=true) (hf:Region.free md ops listed i=true) (hr:(Region.ready md ops listed).contains i=true)
  (hQ:∀c a w,Q (.panic c) (a.put oi.dst v) w→Q (.panic c) a w) (hy:YieldsIf P ops S oi v a) (hS:S w)
  (h:wpAnyH P md ops Q S fuel (listed.setIfInBounds i true) (a.put d v) w):wpAnyH P md ops Q S (fuel+1) listed a w:=
 wpAnyH_take hi hs hf hr hQ hy hS (by rw[hd];exact h)
theorem ak {P:Program} {md:Region.Mode} {ops:Array Oper} {Q:Exit→Act→World→Prop} {S:World→Prop} {i:Nat} {oi:Oper} {d:Option Nat} {v:Value} {fuel:Nat} {listed:Array Bool} {a:Act} {w:World} (hi:ops[i]?=some oi) (hd:oi.dst=d) (hS:S w)
  (hy:∀w,S w→(execOp a.eval oi).run P w=.ok (.value v) w) (h:wpAnyH P md ops Q S fuel (listed.setIfInBounds i true) (a.put d v) w) (hs:Region.noSelect ops=true:=by kernel_rfl) (hf:Region.free md ops listed i=true:=by kernel_rfl) (hr:(Region.ready md ops listed).contains i=true:=by kernel_rfl)
  (hQ:∀c a w,Q (.panic c) (a.put oi.dst v) w→Q (.panic c) a w:=by exact fun _ _ _ h=>h) (hw:Region.wanted oi (yielded ops a.tmps)=true:=by rfl):wpAnyH P md ops Q S (fuel+1) listed a w:=
 take_at hi hd hs hf hr hQ (Or.inl ⟨hw,hy⟩) hS h
theorem lC {P:Program} {md:Region.Mode} {ops:Array Oper} {Q:Exit→Act→World→Prop} {S:World→Prop} {i:Nat} {oi:Oper} {d:Option Nat} {fuel:Nat} {listed:Array Bool} {a:Act} {w:World} (hi:ops[i]?=some oi) (hd:oi.dst=d) (hS:S w)
  (h:wpAnyH P md ops Q S fuel (listed.setIfInBounds i true) (a.put d undef) w) (hs:Region.noSelect ops=true:=by kernel_rfl) (hf:Region.free md ops listed i=true:=by kernel_rfl) (hr:(Region.ready md ops listed).contains i=true:=by kernel_rfl)
  (hQ:∀c a w,Q (.panic c) (a.put oi.dst undef) w→Q (.panic c) a w:=by exact fun _ _ _ h=>h) (hw:Region.wanted oi (yielded ops a.tmps)=false:=by rfl):wpAnyH P md ops Q S (fuel+1) listed a w:=
 take_at hi hd hs hf hr hQ (Or.inr ⟨hw,rfl⟩) hS h
theorem aK (a:Act) (d:Tmp) (v:Value):a.put (some d) v={a with tmps:=a.tmps.setIfInBounds d v}:=rfl
theorem aL {α:Type} (l:List α) (i:Nat) (x:α):l.toArray.setIfInBounds i x=(l.set i x).toArray:=List.setIfInBounds_toArray ..
theorem aze {α:Type} (l:List α) (x y:α):(x::l).set 0 y=y::l:=rfl
theorem asu {α:Type} (l:List α) (i:Nat) (x y:α):(x::l).set (i+1) y=x::l.set i y:=rfl
theorem tF {P:Program} {md:Region.Mode} {ops:Array Oper} {Q:Exit→Act→World→Prop} {S:World→Prop} {i:Nat} {o:Oper} {d:Option Nat} {fuel:Nat} {listed:Array Bool} {a:Act} {w:World} {rs:List Nat} (ho:ops[i]?=some o) (hd:o.dst=d)
  (hg:o.guard=none) (s x:Operand) (t ty:TypeId) (hop:o.op=Op.call {callee:=Callee.builtin Builtin.append,args:=#[s,x],argTypes:=#[t,t]}) (hty:o.type=ty)
  (v1 v2 v':Value) (w':World) (hs:a.eval s=v1) (hx:a.eval x=v2) (hrun:(Builtin.append_ #[t,t] ty #[v1,v2]).run P w=.ok v' w') (hS:S w')
  (h:S w'→wpAnyH P md ops Q S fuel (listed.setIfInBounds i true) (a.put d v') w') (rest:AllReadyH P md ops Q S fuel listed a w rs):AllReadyH P md ops Q S fuel listed a w (i::rs):=
 AllReadyH.cons ho (fun _ hK=>iH hg s x t hop v1 v2 v' w' hs hx (by rw[hty];exact hrun) (by rw[hd];exact hK.out _ _ hS h)) rest
theorem D7.later {w0 w w':World} {a:Addr} {m:List aI} (h:D7 w0 w a m) (k:Later w w'):D7 w0 w' a m:=by
 obtain⟨ys,y1,y2,y3,y4⟩:=h;exact⟨ys,y1,fun j u hu=>by
  have hc:=y2 j u hu;rw[k.cell (World.block_lt_of_cell? w _ hc)];exact hc,y3,y4⟩
theorem D7.grown {w0 w w':World} {g off:Nat} {m:List aI} {row:Option Nat} (h:D7 w0 w ⟨g,off,none⟩ m) (k:w.grownBy w' row) (hne:some g≠row):D7 w0 w' ⟨g,off,none⟩ m:=by
 obtain⟨ys,y1,y2,y3,y4⟩:=h;exact⟨ys,y1,fun j u hu=>by
  have hc:=y2 j u hu;rw[Addr.add_lit] at hc⊢;exact k.cell hc hne,y3,y4⟩
end Go.Proofs.YtafmbokfkbccaaaGreatDoor
namespace Go.Proofs.YtafmbokfkbccaaaGreatDoor
open Go.RowKit Go.Sort
theorem Ch {a b:ByteArray}:(a.toList==b.toList)=decide (a=b):=by
 rw[Bool.eq_iff_iff];simp only[beq_iff_eq,decide_eq_true_eq];exact⟨toList_inj,fun h=>by rw[h]⟩
set_option maxHeartbeats 400000 in
theorem Vm (b1 b2 v:ByteArray) (c:Nat) (w:World) (hc:w.cell? ⟨c,0,none⟩=some (.string v)) (hb:c<w.heap.size):
  Calls Tryz.prog 226 #[.agg #[.string b1,.string b2],.pointer (some ⟨c,0,none⟩)] w fun e w'=>e=.returned (.bool (decide (b1=v)))∧Later w w':=by
 have E:=hide (Ch (a:=b1) (b:=v))
 go_enter Tryz.func226,Tryz.ntmps226
 go_wp2;go_ret;exact⟨cK E.out,(by repeat (first|exact Later.refl _|assumption|refine Later.drewN ?_ _|refine Later.drew ?_|refine Later.alloc ?_ _|refine Later.grow ?_ _))⟩
theorem Gm {l:List aD} {k:Nat} {b:aD} (h:l[k]?=some b) (v:ByteArray):dX (l.drop k) v=if b.1=v then some b.2 else dX (l.drop (k+1)) v:=by
 obtain⟨h1,e1⟩:=List.getElem?_eq_some_iff.1 h;rw[List.drop_eq_getElem_cons h1,e1];rfl
set_option maxHeartbeats 1000000 in
theorem Gn (u:Value) (l:List aD) (v:ByteArray) (c:Nat) (w:World) (hu:bL.sl bZ w u l) (hc:w.cell? ⟨c,0,none⟩=some (.string v)) (hb:c<w.heap.size):
  Calls Tryz.prog 225 #[u,.func (.func 226) #[] #[.pointer (some ⟨c,0,none⟩)]] w fun e w'=>∃n:Int,e=.returned (.int .i64 n)∧((n= -1∧dX l v=none)∨∃k b,n=(k:Nat)∧l[k]?=some b∧dX l v=some b.2)∧Later w w':=by
 obtain⟨a,cap,rfl⟩:=Kind.slice hu;have hl:=hu.1.1;have HU:=hide hu;have HC:Hid (∀w' b1 b2,Later w w'→Calls Tryz.prog 226 #[.agg #[.string b1,.string b2],.pointer (some ⟨c,0,none⟩)] w' fun e w''=>e=.returned (.bool (decide (b1=v)))∧Hid (Later w w'')):=fun w' b1 b2 hL=>
  (Vm b1 b2 v c w' (by rw[hL.cell hb];exact hc) (Nat.lt_of_lt_of_le hb hL.size)).mono fun e w'' ⟨he,hL2⟩=>⟨he,hL.trans hL2⟩
 clear hu hc hb
 go_enter Tryz.func225,Tryz.ntmps225
 go_wp2
 go_loopg [8] l.length (fun g i wr=>∃k:Nat,k+g=l.length∧i=.int .i64 k∧Hid (dX l v=dX (l.drop k) v)∧Hid (Later w wr))
 case atStart=>exact⟨0,by omega,rfl,(rfl:_=_),Later.refl _⟩
 case round=>
  obtain⟨k,hk,rfl,HE,HL⟩:=hrel
  by_cases hlt:k<l.length
  ·obtain⟨b,hx⟩:∃x,l[k]?=some x:=⟨_,List.getElem?_eq_getElem hlt⟩;obtain⟨b1,o1,_,rfl,hb1,rfl,hcl⟩:=Kind.fC HU.out hx;have d0:wr.cell? ⟨b1,o1+k*2,none⟩=some (.string b.1):=by rw[HL.out.cell hb1];exact hcl 0 _ rfl
   have d1:wr.cell? ⟨b1,o1+k*2+1,none⟩=some (.string b.2):=by rw[HL.out.cell hb1];exact hcl 1 _ rfl
   have hbr:b1<wr.heap.size:=Nat.lt_of_lt_of_le hb1 HL.out.size;have HD:=hide (Gm hx v);have HX:=hide hx;have HCk:=hide (HC.out wr b.1 b.2 HL.out);clear hcl hx;obtain⟨bv,bn⟩:=b;dsimp only at*
   by_cases hq:bv=v
   ·have hq':decide (bv=v)=true:=by simpa using hq
    have F:Hid (dX l v=some bn):=by show _=_;rw[HE.out,HD.out,if_pos hq]
    rw[hq'] at HCk;clear hq hq' HD HE
    go_wp2_with (go_at_call 226;refine HCk.out.mono ?_;rintro e w2 ⟨rfl,hL2⟩)
    go_ret;exact⟨_,rfl,Or.inr ⟨k,(bv,bn),rfl,HX.out,F.out⟩,hL2.out⟩
   ·have hq':decide (bv=v)=false:=by simpa using hq
    have F:Hid (dX l v=dX (l.drop (k+1)) v):=by show _=_;rw[HE.out,HD.out,if_neg hq]
    rw[hq'] at HCk;clear hq hq' HD HE
    go_wp2_with (go_at_call 226;refine HCk.out.mono ?_;rintro e w2 ⟨rfl,hL2⟩)
    go_roundg (l.length- (k+1))
    case measure=>omega
    case rel=>exact⟨k+1,by omega,by go_num,F,hL2⟩
  ·have F:Hid (dX l v=none):=by show _=_;rw[HE.out,List.drop_eq_nil_of_le (by omega)];rfl
   go_wp2;go_ret;exact⟨_,rfl,Or.inl ⟨rfl,F.out⟩,HL.out⟩
def lD (x:Option ByteArray):Value:=.tuple #[.string (x.getD ByteArray.empty),.bool x.isSome]
set_option maxHeartbeats 1000000 in
theorem Qj (u:Value) (l:List aD) (v:ByteArray) (w:World) (hu:bL.sl bZ w u l):Calls Tryz.prog 164 #[u,.string v] w fun e w'=>e=.returned (lD (dX l v))∧Later w w':=by
 have HI:=hide (Gn u l v w.heap.size (w.alloc (.cells #[.string v] 9)) (Kind.aQ hu ((Later.refl _).alloc _)) (by simp) (by simp));have HU:=hide hu;obtain⟨a,cap,rfl⟩:=Kind.slice hu;clear hu
 go_enter Tryz.func164,Tryz.ntmps164
 go_wp2_with fail
 refine HI.out.mono ?_;rintro e w2 ⟨n,rfl,h,hL⟩;have HL:=hide (((Later.refl w).alloc (.cells #[.string v] 9)).trans hL);clear hL HI;rcases h with⟨rfl,h⟩|⟨k,b,rfl,hk,h⟩
 ·have H:=hide h;clear h;go_wp2
  go_ret2
  exact⟨by rw[H.out];rfl,HL.out⟩
 ·obtain⟨b1,o1,_,rfl,hb1,rfl,hcl⟩:=Kind.fC HU.out hk;have d1:w2.cell? ⟨b1,o1+k*2+1,none⟩=some (.string b.2):=by rw[HL.out.cell hb1];exact hcl 1 _ rfl
  have hbr:b1<w2.heap.size:=Nat.lt_of_lt_of_le hb1 HL.out.size;have hkl:k<l.length:=(List.getElem?_eq_some_iff.1 hk).1;have hkz:(k:Int)<(l.length:Int):=by omega
  have hk0:¬(k:Int)<0:=by omega
  have H:=hide h;clear h hcl hk;go_wp2
  go_ret2
  exact⟨by rw[H.out];rfl,HL.out⟩
def LQ (g:Nat) (cb:Array Value) (l:List aD) (w0:World):Prop:=∀w v,Later w0 w→Calls Tryz.prog g (#[.string v]++cb) w fun e w'=>e=.returned (lD (dX l v))∧Later w w'
set_option maxHeartbeats 1000000 in
theorem KW (g:Nat) (cb:Array Value) (eg:∀args w,(callFunc g args).run Tryz.prog w=.ok (.enter g args) w) (t:dH) (l:List aD) (w0 w:World) (h:LQ g cb l w0) (hL:Later w0 w):
  Calls Tryz.prog 165 #[.agg #[.bool t.1,.string (bs t.2)],.func (.func g) #[] cb] w fun e w'=>e=.returned (lD (bq l t))∧Later w w':=by
 obtain⟨t1,t2⟩:=t;cases t1
 ·show Calls _ _ _ _ fun e w'=>e=.returned (lD (some (bs t2)))∧_;dsimp only;generalize bs t2=k;clear h
  go_enter Tryz.func165,Tryz.ntmps165
  go_wp2
  go_ret2
  exact⟨rfl,(by repeat (first|exact Later.refl _|assumption|refine Later.drewN ?_ _|refine Later.drew ?_|refine Later.alloc ?_ _|refine Later.grow ?_ _))⟩
 ·show Calls _ _ _ _ fun e w'=>e=.returned (lD (dX l (bs t2)))∧_;dsimp only;generalize bs t2=k;have HT:=hide (h (w.alloc (.cells #[.bool true,.string k] 187)) k (hL.alloc _));clear h;unfold lD at HT⊢;generalize(dX l k).getD ByteArray.empty=s at*;generalize(dX l k).isSome=b at*
  go_enter Tryz.func165,Tryz.ntmps165
  go_wp2_with fail
  refine HT.out.mono ?_;rintro e w2 ⟨rfl,hL2⟩;have HL2:=hide (((Later.refl w).alloc (.cells #[.bool true,.string k] 187)).trans hL2);clear hL2 HT;go_wp2
  go_ret2
  exact⟨rfl,HL2.out⟩
end Go.Proofs.YtafmbokfkbccaaaGreatDoor
