import Derived.Test.YtaallngooaaonaaGreatDoorJT3
import Derived.Test.YtaallngooaaonaaGreatDoorJT4
import Derived.Test.YtaallngooaaonaaGreatDoorJT2
import Derived.Deep.RegionHeld
import Derived.Shelf.Abstract
open Go.RowKit Go.Sort
set_option maxHeartbeats 1000000
set_option maxRecDepth 100000
namespace Go.Proofs.YtaallngooaaonaaGreatDoor
def bq:aB aD where
 size:=2
 is:=fun _ _ c b=>c=[.string b.1,.string b.2]
 len:=fun h=>by subst h;rfl
 one:=fun h u hu=>by subst h;simp at hu;rcases hu with rfl|rfl <;> rfl
 kept:=fun h _ _=>h
 mono:=fun h _=>h
def slK {α:Type} (K:aB α):aB (List α) where
 size:=1
 is:=fun B w c l=>∃v,c=[v]∧K.sl B w v l
 len:=fun⟨v,h,_⟩=>by subst h;rfl
 one:=fun⟨v,h,hs⟩ u hu=>by subst h;obtain⟨a,cap,rfl⟩:=aB.slice hs;simp at hu;subst hu;rfl
 kept:=fun⟨v,h,hs⟩ h1 h2=>⟨v,h,aB.bL hs h1 h2⟩
 mono:=fun⟨v,h,hs⟩ h1=>⟨v,h,aB.bQ hs h1⟩
abbrev gZ:aB (List aD):=slK bq
theorem aB.dS {α:Type} {K:aB α} {ty:TypeId} {lo:Nat} {w w':World} {v:Value} {l:List α} (h:K.own ty lo w v l) (hs:w.heap.size≤w'.heap.size) (hk:∀k,k<w.heap.size→lo≤k→w'.heap[k]?=w.heap[k]?):K.own ty lo w' v l:=by
 obtain⟨xs,ho,hx⟩:=h;refine⟨xs,⟨ho.1,?_⟩,fun i x hi=>?_⟩
 ·rcases ho.2 with e|⟨g,cap,cur,rfl,hbg,hg,r⟩;·exact Or.inl e
  exact Or.inr ⟨g,cap,cur,rfl,hbg,by rw[hk g (Array.getElem?_eq_some_iff.1 hg).1 hbg];exact hg,r⟩
 obtain⟨c,c1,c2⟩:=hx i x hi;exact⟨c,K.kept c1 hs fun j hj hB=>hk j hj hB.1,c2⟩
theorem kI {ty:TypeId} {lo:Nat} {w w':World} {v:Value} {l:List aD} (h:bq.own ty lo w v l) (hk:∀k,v.ownBlock=some k→w'.heap[k]?=w.heap[k]?):bq.own ty lo w' v l:=by
 obtain⟨xs,ho,hx⟩:=h;refine⟨xs,⟨ho.1,?_⟩,hx⟩;rcases ho.2 with e|⟨g,cap,cur,rfl,hbg,hg,r⟩;·exact Or.inl e
 exact Or.inr ⟨g,cap,cur,rfl,hbg,by rw[hk g rfl];exact hg,r⟩
theorem oP {ty:TypeId} {lo lo':Nat} {w:World} {v:Value} {l:List aD} (h:bq.own ty lo w v l) (hl:lo'≤lo):bq.own ty lo' w v l:=by
 obtain⟨xs,ho,hx⟩:=h;refine⟨xs,⟨ho.1,?_⟩,hx⟩;rcases ho.2 with e|⟨g,cap,cur,rfl,hbg,r⟩;·exact Or.inl e
 exact Or.inr ⟨g,cap,cur,rfl,by omega,r⟩
abbrev ko (v:Value):Nat→Prop:=fun k=>v.ownBlock=some k
def apart (u u':Value):Prop:=∀k,u.ownBlock=some k→u'.ownBlock≠some k
theorem apart.symm {u u':Value} (h:apart u u'):apart u' u:=fun k h1 h2=>h k h2 h1
def Lists (tyS ty:TypeId) (lo:Nat) (w:World) (v:Value) (ps:List (Value×List aD)):Prop:=
 w.ownsRow lo tyS 1 v ps.length (ps.map (·.1))∧(∀p∈ps,bq.own ty lo w p.1 p.2∧apart p.1 v)∧ps.Pairwise fun p q=>apart p.1 q.1
theorem Lists.nil (tyS ty:TypeId) (lo:Nat) (w:World):Lists tyS ty lo w (.slice none 0 0) []:=⟨World.ownsRow_nil w lo tyS 1,fun p hp=>by simp at hp,List.Pairwise.nil⟩
theorem Lists.kept {tyS ty:TypeId} {lo:Nat} {w w':World} {v:Value} {ps:List (Value×List aD)} (h:Lists tyS ty lo w v ps) (hk:∀k,k<w.heap.size→lo≤k→w'.heap[k]?=w.heap[k]?):Lists tyS ty lo w' v ps:=by
 obtain⟨ho,hp,ha⟩:=h;refine⟨⟨ho.1,?_⟩,fun p h1=>⟨kI (hp p h1).1 fun k e=>?_,(hp p h1).2⟩,ha⟩
 ·rcases ho.2 with e|⟨g,cap,cur,rfl,hbg,hg,r⟩;·exact Or.inl e
  exact Or.inr ⟨g,cap,cur,rfl,hbg,by rw[hk g (Array.getElem?_eq_some_iff.1 hg).1 hbg];exact hg,r⟩
 have:=aB.dL (hp p h1).1 e;exact hk k this.2 this.1
theorem Lists.later {tyS ty:TypeId} {lo:Nat} {w w':World} {v:Value} {ps:List (Value×List aD)} (h:Lists tyS ty lo w v ps) (k:ak w w'):Lists tyS ty lo w' v ps:=h.kept fun _ hi _=>k.block hi
theorem Lists.slice {tyS ty:TypeId} {lo:Nat} {w:World} {v:Value} {ps:List (Value×List aD)} (h:Lists tyS ty lo w v ps):∃a cap,v=.slice a ps.length cap:=by
 rcases h.1.2 with⟨rfl,e⟩|⟨g,cap,cur,rfl,_⟩;·exact⟨none,0,by rw[e]⟩
 exact⟨_,cap,rfl⟩
theorem Lists.sl {tyS ty:TypeId} {lo:Nat} {w:World} {v:Value} {ps:List (Value×List aD)} (h:Lists tyS ty lo w v ps) (hl:ps.length≤8796093022208) (hs:∀p∈ps,p.2.length≤8796093022208):gZ.sl (From lo) w v (ps.map (·.2)):=by
 obtain⟨ho,hp,_⟩:=h;rcases ho.2 with⟨rfl,e⟩|⟨g,cap,cur,rfl,hbg,hg,hnc,_⟩;·have:ps=[]:=List.eq_nil_of_length_eq_zero e;subst this;exact gZ.eH _ _ _ _
 refine⟨⟨by simpa using hl,hnc⟩,_,cap,by simp,fun _=>⟨g,0,rfl,hbg,(Array.getElem?_eq_some_iff.1 hg).1,fun i x hi=>?_⟩⟩;rw[List.getElem?_map] at hi;cases e:ps[i]? with
 |none=>rw[e] at hi;cases hi
 |some p=>
  rw[e] at hi;cases hi;have hpm:=List.mem_of_getElem? e;refine⟨[p.1],⟨p.1,rfl,aB.fq (hp p hpm).1 (hs p hpm)⟩,fun j u hu=>?_⟩;cases j with
  |succ j=>simp at hu
  |zero=>
   simp at hu;subst hu;have:=ho.cells (g:=g) rfl i p.1 (by rw[List.getElem?_map,e];rfl);rw[Addr.add_lit] at this;show w.cell? ⟨g,0+i*1+0,none⟩=_;rw[Nat.mul_one,Nat.add_zero];exact this
theorem take_at {P:Program} {md:Region.Mode} {ops:Array Oper} {Q:Exit→Act→World→Prop} {S:World→Prop} {i:Nat} {oi:Oper} {d:Option Nat} {v:Value} {fuel:Nat} {listed:Array Bool} {a:Act} {w:World} (hi:ops[i]?=some oi) (hd:oi.dst=d)
  (hs:Region.noSelect ops=true) (hf:Region.free md ops listed i=true) (hr:(Region.ready md ops listed).contains i=true)
  (hQ:∀c a w,Q (.panic c) (a.put oi.dst v) w→Q (.panic c) a w) (hy:YieldsIf P ops S oi v a) (hS:S w)
  (h:wpAnyH P md ops Q S fuel (listed.setIfInBounds i true) (a.put d v) w):wpAnyH P md ops Q S (fuel+1) listed a w:=
 wpAnyH_take hi hs hf hr hQ hy hS (by rw[hd];exact h)
theorem Kz {P:Program} {md:Region.Mode} {ops:Array Oper} {Q:Exit→Act→World→Prop} {S:World→Prop} {i:Nat} {oi:Oper} {d:Option Nat} {v:Value} {fuel:Nat} {listed:Array Bool} {a:Act} {w:World} (hi:ops[i]?=some oi) (hd:oi.dst=d) (hS:S w)
  (hy:∀w,S w→(execOp a.eval oi).run P w=.ok (.value v) w) (h:wpAnyH P md ops Q S fuel (listed.setIfInBounds i true) (a.put d v) w) (hs:Region.noSelect ops=true:=by kernel_rfl) (hf:Region.free md ops listed i=true:=by kernel_rfl) (hr:(Region.ready md ops listed).contains i=true:=by kernel_rfl)
  (hQ:∀c a w,Q (.panic c) (a.put oi.dst v) w→Q (.panic c) a w:=by exact fun _ _ _ h=>h) (hw:Region.wanted oi (yielded ops a.tmps)=true:=by rfl):wpAnyH P md ops Q S (fuel+1) listed a w:=
 take_at hi hd hs hf hr hQ (Or.inl ⟨hw,hy⟩) hS h
theorem Nf {P:Program} {md:Region.Mode} {ops:Array Oper} {Q:Exit→Act→World→Prop} {S:World→Prop} {i:Nat} {oi:Oper} {d:Option Nat} {fuel:Nat} {listed:Array Bool} {a:Act} {w:World} (hi:ops[i]?=some oi) (hd:oi.dst=d) (hS:S w)
  (h:wpAnyH P md ops Q S fuel (listed.setIfInBounds i true) (a.put d undef) w) (hs:Region.noSelect ops=true:=by kernel_rfl) (hf:Region.free md ops listed i=true:=by kernel_rfl) (hr:(Region.ready md ops listed).contains i=true:=by kernel_rfl)
  (hQ:∀c a w,Q (.panic c) (a.put oi.dst undef) w→Q (.panic c) a w:=by exact fun _ _ _ h=>h) (hw:Region.wanted oi (yielded ops a.tmps)=false:=by rfl):wpAnyH P md ops Q S (fuel+1) listed a w:=
 take_at hi hd hs hf hr hQ (Or.inr ⟨hw,rfl⟩) hS h
theorem SY (a:Act) (d:Tmp) (v:Value):a.put (some d) v={a with tmps:=a.tmps.setIfInBounds d v}:=rfl
theorem PO {α:Type} (l:List α) (i:Nat) (x:α):l.toArray.setIfInBounds i x=(l.set i x).toArray:=List.setIfInBounds_toArray ..
theorem aze {α:Type} (l:List α) (x y:α):(x::l).set 0 y=y::l:=rfl
theorem asu {α:Type} (l:List α) (i:Nat) (x y:α):(x::l).set (i+1) y=x::l.set i y:=rfl
theorem tkY {P:Program} {md:Region.Mode} {ops:Array Oper} {Q:Exit→Act→World→Prop} {S:World→Prop} (i d:Nat) {oi:Oper} {v:Value} {fuel:Nat} {listed l':Array Bool} {a a':Act} {w:World} (hS:S w) (h:wpAnyH P md ops Q S fuel l' a' w)
  (hi:ops[i]?=some oi:=by rfl) (hy:∀w,S w→(execOp a.eval oi).run P w=.ok (.value v) w:=by intro w hSw;go_simp;try with_reducible rfl) (e1:a.put (some d) v=a':=by simp only[SY,PO,aze,asu];rfl) (e2:listed.setIfInBounds i true=l':=by(try simp only[PO,aze,asu]);rfl) (hd:oi.dst=some d:=by rfl)
  (hs:Region.noSelect ops=true:=by kernel_rfl) (hf:Region.free md ops listed i=true:=by kernel_rfl) (hr:(Region.ready md ops listed).contains i=true:=by kernel_rfl)
  (hQ:∀c a w,Q (.panic c) (a.put oi.dst v) w→Q (.panic c) a w:=by exact fun _ _ _ h=>h) (hw:Region.wanted oi (yielded ops a.tmps)=true:=by rfl):wpAnyH P md ops Q S (fuel+1) listed a w:=
 Kz (d:=some d) hi hd hS hy (by rw[e1,e2];exact h) hs hf hr hQ hw
theorem tkN {P:Program} {md:Region.Mode} {ops:Array Oper} {Q:Exit→Act→World→Prop} {S:World→Prop} (i d:Nat) {oi:Oper} {fuel:Nat} {listed l':Array Bool} {a a':Act} {w:World} (hS:S w) (h:wpAnyH P md ops Q S fuel l' a' w)
  (hi:ops[i]?=some oi:=by rfl) (e1:a.put (some d) undef=a':=by simp only[SY,PO,aze,asu];rfl) (e2:listed.setIfInBounds i true=l':=by(try simp only[PO,aze,asu]);rfl) (hd:oi.dst=some d:=by rfl)
  (hs:Region.noSelect ops=true:=by kernel_rfl) (hf:Region.free md ops listed i=true:=by kernel_rfl) (hr:(Region.ready md ops listed).contains i=true:=by kernel_rfl)
  (hQ:∀c a w,Q (.panic c) (a.put oi.dst undef) w→Q (.panic c) a w:=by exact fun _ _ _ h=>h) (hw:Region.wanted oi (yielded ops a.tmps)=false:=by rfl):wpAnyH P md ops Q S (fuel+1) listed a w:=
 Nf (d:=some d) hi hd hS (by rw[e1,e2];exact h) hs hf hr hQ hw
theorem tkC {P:Program} {md:Region.Mode} {ops:Array Oper} {Q:Exit→Act→World→Prop} {S:World→Prop} (i:Nat) {o:Oper} {fuel:Nat} {listed:Array Bool} {a:Act} {w:World}
  (h:∀K':Act→World→Prop,Shut (∀a w,S w→(S w→wpAnyH P md ops Q S fuel (listed.setIfInBounds i true) a w)→K' a w)→if Region.wanted o (yielded ops a.tmps)=true then Oper.wp P o a w K' Q else K' (a.put o.dst undef) w)
  (ho:ops[i]?=some o:=by rfl) (hr:Region.ready md ops listed=[i]:=by kernel_rfl):wpAnyH P md ops Q S (fuel+1) listed a w:=
 wpAnyH_ready hr (by simp) (AllReadyH.cons ho h AllReadyH.nil)
theorem aO {P:Program} {md:Region.Mode} {ops:Array Oper} {Q:Exit→Act→World→Prop} {S:World→Prop} {i:Nat} {o:Oper} {d:Option Nat} {fuel:Nat} {listed:Array Bool} {a:Act} {w:World} {rs:List Nat} (ho:ops[i]?=some o) (hd:o.dst=d)
  (hg:o.guard=none) (s x:Operand) (t ty:TypeId) (hop:o.op=Op.call {callee:=Callee.builtin Builtin.append,args:=#[s,x],argTypes:=#[t,t]}) (hty:o.type=ty)
  (v1 v2 v':Value) (w':World) (hs:a.eval s=v1) (hx:a.eval x=v2) (hrun:(Builtin.append_ #[t,t] ty #[v1,v2]).run P w=.ok v' w') (hS:S w')
  (h:S w'→wpAnyH P md ops Q S fuel (listed.setIfInBounds i true) (a.put d v') w') (rest:AllReadyH P md ops Q S fuel listed a w rs):AllReadyH P md ops Q S fuel listed a w (i::rs):=
 AllReadyH.cons ho (fun _ hK=>iI hg s x t hop v1 v2 v' w' hs hx (by rw[hty];exact hrun) (by rw[hd];exact hK.out _ _ hS h)) rest
theorem qh.later {w0 w w':World} {a:Addr} {m:List aN} (h:qh w0 w a m) (k:ak w w'):qh w0 w' a m:=by obtain⟨ys,y1,y2,y3,y4⟩:=h;exact⟨ys,y1,fun j u hu=>by have hc:=y2 j u hu;rw[k.cell (World.block_lt_of_cell? w _ hc)];exact hc,y3,y4⟩
theorem qh.grown {w0 w w':World} {g off:Nat} {m:List aN} {row:Option Nat} (h:qh w0 w ⟨g,off,none⟩ m) (k:w.grownBy w' row) (hne:some g≠row):qh w0 w' ⟨g,off,none⟩ m:=by obtain⟨ys,y1,y2,y3,y4⟩:=h;exact⟨ys,y1,fun j u hu=>by have hc:=y2 j u hu;rw[Addr.add_lit] at hc⊢;exact k.cell hc hne,y3,y4⟩
theorem jK {a b:ByteArray}:(a.toList==b.toList)=decide (a=b):=by rw[Bool.eq_iff_iff];simp only[beq_iff_eq,decide_eq_true_eq];exact⟨toList_inj,fun h=>by rw[h]⟩
theorem X3 (b1 b2 v:ByteArray) (c:Nat) (w:World) (hc:w.cell? ⟨c,0,none⟩=some (.string v)) (hb:c<w.heap.size):
  Calls Tryz.prog 120 #[.agg #[.string b1,.string b2],.pointer (some ⟨c,0,none⟩)] w fun e w'=>e=.returned (.bool (decide (b1=v)))∧ak w w':=by
 have E:=au (jK (a:=b1) (b:=v))
 go_enter Tryz.func120,Tryz.ntmps120
 go_wp2;go_ret;exact⟨bU E.out,(by repeat (first|exact ak.refl _|assumption|refine ak.drewN ?_ _|refine ak.drew ?_|refine ak.alloc ?_ _|refine ak.grow ?_ _))⟩
theorem GX {l:List aD} {k:Nat} {b:aD} (h:l[k]?=some b) (v:ByteArray):dB (l.drop k) v=if b.1=v then some b.2 else dB (l.drop (k+1)) v:=by obtain⟨h1,e1⟩:=List.getElem?_eq_some_iff.1 h;rw[List.drop_eq_getElem_cons h1,e1];rfl
theorem GY (u:Value) (l:List aD) (v:ByteArray) (c:Nat) (w:World) (hu:bq.sl bf w u l) (hc:w.cell? ⟨c,0,none⟩=some (.string v)) (hb:c<w.heap.size):
  Calls Tryz.prog 119 #[u,.func (.func 120) #[] #[.pointer (some ⟨c,0,none⟩)]] w fun e w'=>∃n:Int,e=.returned (.int .i64 n)∧((n= -1∧dB l v=none)∨∃k b,n=(k:Nat)∧l[k]?=some b∧dB l v=some b.2)∧ak w w':=by
 obtain⟨a,cap,rfl⟩:=aB.slice hu;have hl:=hu.1.1;have HU:=au hu;have HC:Hid (∀w' b1 b2,ak w w'→Calls Tryz.prog 120 #[.agg #[.string b1,.string b2],.pointer (some ⟨c,0,none⟩)] w' fun e w''=>e=.returned (.bool (decide (b1=v)))∧Hid (ak w w'')):=fun w' b1 b2 hL=>
  (X3 b1 b2 v c w' (by rw[hL.cell hb];exact hc) (Nat.lt_of_lt_of_le hb hL.size)).mono fun e w'' ⟨he,hL2⟩=>⟨he,hL.trans hL2⟩
 clear hu hc hb
 go_enter Tryz.func119,Tryz.ntmps119
 go_wp2
 go_loopg [8] l.length (fun g i wr=>∃k:Nat,k+g=l.length∧i=.int .i64 k∧Hid (dB l v=dB (l.drop k) v)∧Hid (ak w wr))
 case atStart=>exact⟨0,by omega,rfl,(rfl:_=_),ak.refl _⟩
 obtain⟨k,hk,rfl,HE,HL⟩:=hrel
 by_cases hlt:k<l.length
 ·obtain⟨b,hx⟩:∃x,l[k]?=some x:=⟨_,List.getElem?_eq_getElem hlt⟩;obtain⟨b1,o1,_,rfl,hb1,rfl,hcl⟩:=aB.bO HU.out hx;have d0:wr.cell? ⟨b1,o1+k*2,none⟩=some (.string b.1):=by rw[HL.out.cell hb1];exact hcl 0 _ rfl
  have d1:wr.cell? ⟨b1,o1+k*2+1,none⟩=some (.string b.2):=by rw[HL.out.cell hb1];exact hcl 1 _ rfl
  have hbr:b1<wr.heap.size:=Nat.lt_of_lt_of_le hb1 HL.out.size;have HD:=au (GX hx v);have HX:=au hx;have HCk:=au (HC.out wr b.1 b.2 HL.out);clear hcl hx;obtain⟨bv,bn⟩:=b;dsimp only at*
  by_cases hq:bv=v
  ·have hq':decide (bv=v)=true:=by simpa using hq
   have F:Hid (dB l v=some bn):=by show _=_;rw[HE.out,HD.out,if_pos hq]
   rw[hq'] at HCk;clear hq hq' HD HE
   go_wp2_with (go_at_call 120;refine HCk.out.mono ?_;rintro e w2 ⟨rfl,hL2⟩)
   go_ret;exact⟨_,rfl,Or.inr ⟨k,(bv,bn),rfl,HX.out,F.out⟩,hL2.out⟩
  have hq':decide (bv=v)=false:=by simpa using hq
  have F:Hid (dB l v=dB (l.drop (k+1)) v):=by show _=_;rw[HE.out,HD.out,if_neg hq]
  rw[hq'] at HCk;clear hq hq' HD HE
  go_wp2_with (go_at_call 120;refine HCk.out.mono ?_;rintro e w2 ⟨rfl,hL2⟩)
  go_roundg (l.length- (k+1))
  case measure=>omega
  case rel=>exact⟨k+1,by omega,by go_num,F,hL2⟩
 have F:Hid (dB l v=none):=by show _=_;rw[HE.out,List.drop_eq_nil_of_le (by omega)];rfl
 go_wp2;go_ret;exact⟨_,rfl,Or.inl ⟨rfl,F.out⟩,HL.out⟩
def kX (x:Option ByteArray):Value:=.tuple #[.string (x.getD ByteArray.empty),.bool x.isSome]
theorem RU (u:Value) (l:List aD) (v:ByteArray) (w:World) (hu:bq.sl bf w u l):Calls Tryz.prog 89 #[u,.string v] w fun e w'=>e=.returned (kX (dB l v))∧ak w w':=by
 have HI:=au (GY u l v w.heap.size (w.alloc (.cells #[.string v] 9)) (aB.aK hu ((ak.refl _).alloc _)) (by simp) (by simp));have HU:=au hu;obtain⟨a,cap,rfl⟩:=aB.slice hu;clear hu
 go_enter Tryz.func89,Tryz.ntmps89
 go_wp2_with fail
 refine HI.out.mono ?_;rintro e w2 ⟨n,rfl,h,hL⟩;have HL:=au (((ak.refl w).alloc (.cells #[.string v] 9)).trans hL);clear hL HI;rcases h with⟨rfl,h⟩|⟨k,b,rfl,hk,h⟩
 ·have H:=au h;clear h;go_wp2
  go_ret2
  exact⟨by rw[H.out];rfl,HL.out⟩
 obtain⟨b1,o1,_,rfl,hb1,rfl,hcl⟩:=aB.bO HU.out hk;have d1:w2.cell? ⟨b1,o1+k*2+1,none⟩=some (.string b.2):=by rw[HL.out.cell hb1];exact hcl 1 _ rfl
 have hbr:b1<w2.heap.size:=Nat.lt_of_lt_of_le hb1 HL.out.size;have hkl:k<l.length:=(List.getElem?_eq_some_iff.1 hk).1;have hkz:(k:Int)<(l.length:Int):=by omega
 have hk0:¬(k:Int)<0:=by omega
 have H:=au h;clear h hcl hk;go_wp2
 go_ret2
 exact⟨by rw[H.out];rfl,HL.out⟩
def Ng (g:Nat) (cb:Array Value) (l:List aD) (w0:World):Prop:=∀w v,ak w0 w→Calls Tryz.prog g (#[.string v]++cb) w fun e w'=>e=.returned (kX (dB l v))∧ak w w'
theorem Mv (g:Nat) (cb:Array Value) (eg:∀args w,(callFunc g args).run Tryz.prog w=.ok (.enter g args) w) (t:dK) (l:List aD) (w0 w:World) (h:Ng g cb l w0) (hL:ak w0 w):
  Calls Tryz.prog 90 #[.agg #[.bool t.1,.string (bs t.2)],.func (.func g) #[] cb] w fun e w'=>e=.returned (kX (bE l t))∧ak w w':=by
 obtain⟨t1,t2⟩:=t;cases t1
 ·show Calls _ _ _ _ fun e w'=>e=.returned (kX (some (bs t2)))∧_;dsimp only;generalize bs t2=k;clear h
  go_enter Tryz.func90,Tryz.ntmps90
  go_wp2
  go_ret2
  exact⟨rfl,(by repeat (first|exact ak.refl _|assumption|refine ak.drewN ?_ _|refine ak.drew ?_|refine ak.alloc ?_ _|refine ak.grow ?_ _))⟩
 show Calls _ _ _ _ fun e w'=>e=.returned (kX (dB l (bs t2)))∧_;dsimp only;generalize bs t2=k;have HT:=au (h (w.alloc (.cells #[.bool true,.string k] 101)) k (hL.alloc _));clear h;unfold kX at HT⊢;generalize(dB l k).getD ByteArray.empty=s at*;generalize(dB l k).isSome=b at*
 go_enter Tryz.func90,Tryz.ntmps90
 go_wp2_with fail
 refine HT.out.mono ?_;rintro e w2 ⟨rfl,hL2⟩;have HL2:=au (((ak.refl w).alloc (.cells #[.bool true,.string k] 101)).trans hL2);clear hL2 HT;go_wp2
 go_ret2
 exact⟨rfl,HL2.out⟩
def pick (p:Nat→Bool) (l:List aN):Nat→List aN
 |0=>[]
 |k+1=>if p k then pick p l k++[l.getD k aC] else pick p l k
theorem BQ (p:Nat→Bool) (l:List aN):∀k,(pick p l k).length≤k
 |0=>Nat.le_refl _
 |k+1=>by have:=BQ p l k;unfold pick;split <;> simp <;> omega
structure PU (g:Nat) (cb:Array Value) (lo hi:Nat) (w0:World) (l:List aN) (p:Nat→Bool) (S:Nat→World→Prop):Prop where
 ask:∀k w' v,k<l.length→ak w0 w'→hi≤w'.heap.size→S k w'→dD w0 v (l.getD k aC)→
  Calls Tryz.prog g (#[v]++cb) w' fun e w''=>e=.returned (.bool (p k))∧Only lo hi w' w''∧S (k+1) w''
 kept:∀k w' w'',S k w'→(∀j,j<hi→w''.heap[j]?=w'.heap[j]?)→w'.heap.size≤w''.heap.size→S k w''
theorem keep (g:Nat) (cb:Array Value) (eg:∀args w,(callFunc g args).run Tryz.prog w=.ok (.enter g args) w) (lo hi:Nat) (w0 w:World) (v:Value) (l:List aN) (p:Nat→Bool) (S:Nat→World→Prop)
  (hf:Facts w0 v l) (h0:ak w0 w) (hlo:w0.heap.size≤lo) (hhi:hi≤w.heap.size) (hA:PU g cb lo hi w0 l p S) (hS:S 0 w):
  Calls Tryz.prog 57 #[v,.func (.func g) #[] cb] w fun e w'=>∃v',e=.returned v'∧kE w' w.heap.size v' (pick p l l.length)∧Only lo hi w w'∧S l.length w':=by
 have HF:=au hf;have HA:=au hA;have HS:=au hS;obtain⟨a,cap,rfl,hn,hz⟩:=hf.addr;clear hf hA hS
 go_enter Tryz.func57,Tryz.ntmps57
 go_wp2
 go_loopw [5,10] (fun o i wr=>∃k:Nat,k≤l.length∧i=.int .i64 k∧Hid (kE wr w.heap.size o (pick p l k))∧Hid (Only lo hi w wr)∧Hid (S k wr)) (fun _ i _=>l.length- (intOf i).toNat)
 case atStart=>exact⟨0,by omega,rfl,kE.nil _ _,Only.refl _ _ _,HS⟩
 obtain⟨k,hk,rfl,HO,HW,HK⟩:=hrel
 by_cases hlt:k<l.length
 ·rcases hz with rfl|⟨b,off,rfl⟩;·simp at hlt
  have hL0:ak w0 wr:=HW.out.later h0 hlo;obtain⟨hb0,ax,lx,cx,g1,g2,fx⟩:=HF.out.at hlt;have hb:b<wr.heap.size:=Nat.lt_of_lt_of_le hb0 hL0.size;rw[←hL0.cell (p:=⟨b,off+k*2,none⟩) hb0] at g1;rw[←hL0.cell (p:=⟨b,off+k*2+1,none⟩) hb0] at g2;have hltz:(k:Int)<(l.length:Int):=by omega
  have hwr:w.heap.size≤wr.heap.size:=HW.out.size;have hp:pick p l (k+1)=if p k then pick p l k++[l.getD k aC] else pick p l k:=rfl;have hpl:=BQ p l k;have hlast:pick p l (k+1)=pick p l (k+1):=rfl;generalize hfk:l.getD k aC=f at*;have HFK:=au hfk;have HP:=au hp;clear hfk hp hlast;obtain⟨nk,lk⟩:=f;dsimp only at*;have hcall:=fun w' (h1:ak w0 w') (h2:hi≤w'.heap.size) (h3:S k w')=>HA.out.ask k w' (.agg #[.string nk,.slice ax lx cx]) hlt h1 h2 h3 (by rw[HFK.out];exact fx);have HC:=au hcall;clear hcall;have hS1:S k (wr.alloc (.cells #[.string nk,.slice ax lx cx] 27)):=HA.out.kept k wr _ HK.out (fun j hj=>Below.heap_alloc _ _ _ (by omega)) (by simp)
  go_wp2_with fail
  refine(HC.out _ (hL0.alloc _) (by simp;omega) hS1).mono ?_;rintro e w1 ⟨rfl,hO1,hS2⟩;have z0:w1.cell? ⟨wr.heap.size,0,none⟩=some (.string nk):=by rw[hO1.cell (by simp) (Or.inr (by show hi≤wr.heap.size;omega))];simp
  have z1:w1.cell? ⟨wr.heap.size,1,none⟩=some (.slice ax lx cx):=by rw[hO1.cell (by simp) (Or.inr (by show hi≤wr.heap.size;omega))];simp
  have hsz:wr.heap.size<w1.heap.size:=by have:=hO1.size;simp at this;omega
  have hW1:Only lo hi w w1:=HW.out.trans ((((ak.refl wr).alloc _).only).trans hO1);have hOw:kE w1 w.heap.size u5 (pick p l k):=((HO.out.later ((ak.refl wr).alloc _)).only hO1 hhi);have hL1:ak w0 w1:=hW1.later h0 hlo;have HO1:=au hOw;have HW1:=au hW1;have HS2:=au hS2;clear hOw hW1 hS2;cases hpk:p k
  ·have HN:Hid (pick p l (k+1)=pick p l k):=by show _=_;rw[HP.out,hpk];rfl
   go_wp2
   go_roundw
   case rel=>exact⟨k+1,by omega,by go_num,(by rw[HN.out];exact HO1.out:kE _ _ _ _),HW1,HS2⟩
   case measure=>simp[intOf];omega
  have HN:Hid (pick p l (k+1)=pick p l k++[(nk,lk)]):=by show _=_;rw[HP.out,hpk];rfl
  go_wp2_with fail
  refine(copied _ (nk,lk) _ (fx.later hL1)).mono ?_;rintro e w2 ⟨sv,rfl,hs,hL2,hsb⟩;have HO2:=au (HO1.out.later hL2);obtain⟨a3,c3,rfl⟩:=bA hs;obtain⟨v',w',hrun,hO3,hg3,hd3⟩:=HO2.out.append (nk,lk) _ hs (fun q hq=>⟨by have:=(hsb q hq).1;omega,(hsb q hq).2,fun e=>by obtain⟨xs,ho,_⟩:=HO1.out;have:=(ho.lt q e).2;have:=(hsb q hq).1;omega⟩) (by omega) (by have:=hL2.size;omega) rfl
  dsimp only at hrun hg3 hd3;have hown:∀q,u5.ownBlock=some q→w.heap.size≤q:=fun q e=>by obtain⟨xs,ho,_⟩:=HO1.out;exact(ho.lt q e).1
  have HR:=au hrun;have HW3:Hid (Only lo hi w w'):=Only.grown (HW1.out.trans ((hL2.alloc _).only)) hg3 hd3 hown rfl rfl;have HO3:=au hO3;have HS3:Hid (S (k+1) w'):=HA.out.kept (k+1) w1 _ HS2.out (fun j hj=>by rw[hg3.block j (by have:=hL2.size;simp;omega) (fun e=>by have:=hown j e.symm;omega),Below.heap_alloc _ _ _ (by have:=hL2.size;omega)];exact hL2.block (by omega)) (by have:=hg3.size;have:=hL2.size;simp at*;omega)
  clear hrun hO3 hg3
  go_wp2_with (at_builtin;refine wpList_append_run rfl (.tmp 17) (.tmp 20) 24 rfl _ _ _ _ rfl rfl HR.out ?_)
  go_roundw
  case rel=>exact⟨k+1,by omega,by go_num,(by rw[HN.out];exact HO3.out:kE _ _ _ _),HW3,HS3⟩
  case measure=>simp[intOf];omega
 go_wp2;go_ret;obtain rfl:k=l.length:=by omega
 exact⟨_,rfl,HO.out,HW.out,HK.out⟩
end Go.Proofs.YtaallngooaaonaaGreatDoor
