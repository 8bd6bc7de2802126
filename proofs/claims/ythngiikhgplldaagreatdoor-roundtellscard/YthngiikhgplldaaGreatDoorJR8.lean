import Derived.Test.YthngiikhgplldaaGreatDoorJR7
import Derived.Test.YthngiikhgplldaaGreatDoorJR5
import Derived.Deep.RegionHeld
import Derived.Test.YthngiikhgplldaaGreatDoorJR3
open Go.RowKit Go.Sort
set_option maxHeartbeats 1000000
set_option maxRecDepth 100000
namespace Go.Proofs.YthngiikhgplldaaGreatDoor
theorem o9 {w:World} {base n:Nat} {v:Value} {xs:List Value} {e:TypeId} {sz:Nat} (h:w.ownsRow base e sz v n xs):∃a cap,v=.slice a n cap:=by
 rcases h.2 with⟨rfl,rfl⟩|⟨g,cap,cur,rfl,_⟩;·exact⟨none,0,rfl⟩
 exact⟨_,cap,rfl⟩
theorem rise (w:World) (base:Nat) (v:Value) (l:List aG) (h:iO w base v l) (hl:l.length≤3518437208883):
  Calls Tryz.prog 65 #[v] w fun e w'=>∃v' s,e=.returned v'∧iX s l∧dR w' w.heap.size v' s∧Only base w.heap.size w w':=by
 have hS:=au (Jk w base v l h hl);obtain⟨a,cap,rfl⟩:=o9 h.choose_spec.1;clear h
 go_enter Tryz.func65,Tryz.ntmps65
 go_wp2_with fail
 refine hS.out.mono ?_;rintro e w1 ⟨rfl,l',hp,hs,hF,hO⟩;have hle:l'.length=l.length:=hp.length_eq
 go_wp2_with fail
 refine(zG w1).mono ?_;rintro e w2 ⟨rfl,hL2,hz2,hlast⟩;have hK:=au (keep 117 #[.pointer (some ⟨w1.heap.size+1,0,none⟩),.pointer (some ⟨w1.heap.size,0,none⟩)] zF w1.heap.size (w1.heap.size+2) w1 w2 (.slice a l.length cap) l' (newP l') (GN w1 w1.heap.size l') hF hL2 (Nat.le_refl _) (by omega) (Dp w1 l')
  ⟨ByteArray.empty,none,0,0,hlast,fun h=>absurd h (Nat.lt_irrefl _)⟩)
 have HL:=au hlast;clear hlast
 go_wp2_with fail
 refine hK.out.mono ?_;rintro e w3 ⟨v',rfl,hOw,hO3,_⟩;have hset:=yF hs l'.length (Nat.le_refl _);rw[List.take_length] at hset;have HS:=au hset;have HW:=au hOw;clear hset hOw;go_wp2;go_ret;have Lu:aj w1 w3:=hO3.later hL2 (Nat.le_refl _);refine⟨v',_,rfl,⟨HS.out.1,fun f=>(HS.out.2.1 f).trans hp.mem_iff,by rw[←hle];exact HS.out.2.2⟩,?_,hO.trans Lu.only⟩;have hsz:w.heap.size≤w2.heap.size:=Nat.le_trans hO.size hL2.size;obtain⟨xs,ho,hx⟩:=HW.out;refine⟨xs,⟨ho.1,?_⟩,fun i hi=>?_⟩
 ·rcases ho.2 with e|⟨g,cp,cur,e,hg,r⟩;·exact Or.inl e
  exact Or.inr ⟨g,cp,cur,e,Nat.le_trans hsz hg,r⟩
 obtain⟨c1,s,c2,c3,c4⟩:=hx i hi;exact⟨c1,s,c2,c3,fun k hk=>⟨Nat.le_trans hsz (c4 k hk).1,(c4 k hk).2⟩⟩
theorem ofC (v:Value) (l:List aG) (w:World) (h:Facts w v l):
  Calls Tryz.prog 127 #[v] w fun e w'=>∃v' s,e=.returned v'∧iX s l∧dR w' w.heap.size v' s∧aj w w':=by
 have hC:=au (clone v l w h);have hl:=h.1;obtain⟨a,cap,rfl⟩:=aC h;clear h
 go_enter Tryz.func127,Tryz.ntmps127
 go_wp2_with fail
 refine hC.out.mono ?_;rintro e w1 ⟨v1,rfl,hR,hL⟩;have hr:=au (rise w1 w.heap.size v1 l hR hl);obtain⟨a1,MW,rfl⟩:=o9 hR.choose_spec.1;clear hR
 go_wp2_with fail
 refine hr.out.mono ?_;rintro e w2 ⟨v2,s,rfl,hs,hO,hW⟩;have HS:=au hs;have HO:=au hO;clear hs hO;go_wp2;go_ret;exact⟨v2,s,rfl,HS.out,HO.out.base hL.size,hW.later hL (Nat.le_refl _)⟩
theorem take_at {P:Program} {md:Region.Mode} {ops:Array Oper} {Q:Exit→Act→World→Prop} {S:World→Prop} {i:Nat} {oi:Oper} {d:Option Nat} {v:Value} {fuel:Nat} {listed:Array Bool} {a:Act} {w:World} (hi:ops[i]?=some oi) (hd:oi.dst=d)
  (hs:Region.noSelect ops=true) (hf:Region.free md ops listed i=true) (hr:(Region.ready md ops listed).contains i=true)
  (hQ:∀c a w,Q (.panic c) (a.put oi.dst v) w→Q (.panic c) a w) (hy:YieldsIf P ops S oi v a) (hS:S w)
  (h:wpAnyH P md ops Q S fuel (listed.setIfInBounds i true) (a.put d v) w):wpAnyH P md ops Q S (fuel+1) listed a w:=
 wpAnyH_take hi hs hf hr hQ hy hS (by rw[hd];exact h)
theorem Dq {P:Program} {md:Region.Mode} {ops:Array Oper} {Q:Exit→Act→World→Prop} {S:World→Prop} {i:Nat} {oi:Oper} {d:Option Nat} {v:Value} {fuel:Nat} {listed:Array Bool} {a:Act} {w:World} (hi:ops[i]?=some oi) (hd:oi.dst=d) (hS:S w)
  (hy:∀w,S w→(execOp a.eval oi).run P w=.ok (.value v) w) (h:wpAnyH P md ops Q S fuel (listed.setIfInBounds i true) (a.put d v) w) (hs:Region.noSelect ops=true:=by kernel_rfl) (hf:Region.free md ops listed i=true:=by kernel_rfl) (hr:(Region.ready md ops listed).contains i=true:=by kernel_rfl)
  (hQ:∀c a w,Q (.panic c) (a.put oi.dst v) w→Q (.panic c) a w:=by exact fun _ _ _ h=>h) (hw:Region.wanted oi (yielded ops a.tmps)=true:=by rfl):wpAnyH P md ops Q S (fuel+1) listed a w:=
 take_at hi hd hs hf hr hQ (Or.inl ⟨hw,hy⟩) hS h
theorem Fg {P:Program} {md:Region.Mode} {ops:Array Oper} {Q:Exit→Act→World→Prop} {S:World→Prop} {i:Nat} {oi:Oper} {d:Option Nat} {fuel:Nat} {listed:Array Bool} {a:Act} {w:World} (hi:ops[i]?=some oi) (hd:oi.dst=d) (hS:S w)
  (h:wpAnyH P md ops Q S fuel (listed.setIfInBounds i true) (a.put d undef) w) (hs:Region.noSelect ops=true:=by kernel_rfl) (hf:Region.free md ops listed i=true:=by kernel_rfl) (hr:(Region.ready md ops listed).contains i=true:=by kernel_rfl)
  (hQ:∀c a w,Q (.panic c) (a.put oi.dst undef) w→Q (.panic c) a w:=by exact fun _ _ _ h=>h) (hw:Region.wanted oi (yielded ops a.tmps)=false:=by rfl):wpAnyH P md ops Q S (fuel+1) listed a w:=
 take_at hi hd hs hf hr hQ (Or.inr ⟨hw,rfl⟩) hS h
theorem KA (a:Act) (d:Tmp) (v:Value):a.put (some d) v={a with tmps:=a.tmps.setIfInBounds d v}:=rfl
theorem I7 {α:Type} (l:List α) (i:Nat) (x:α):l.toArray.setIfInBounds i x=(l.set i x).toArray:=List.setIfInBounds_toArray ..
theorem aze {α:Type} (l:List α) (x y:α):(x::l).set 0 y=y::l:=rfl
theorem asu {α:Type} (l:List α) (i:Nat) (x y:α):(x::l).set (i+1) y=x::l.set i y:=rfl
theorem tkY {P:Program} {md:Region.Mode} {ops:Array Oper} {Q:Exit→Act→World→Prop} {S:World→Prop} (i d:Nat) {oi:Oper} {v:Value} {fuel:Nat} {listed l':Array Bool} {a a':Act} {w:World} (hS:S w) (h:wpAnyH P md ops Q S fuel l' a' w)
  (hi:ops[i]?=some oi:=by rfl) (hy:∀w,S w→(execOp a.eval oi).run P w=.ok (.value v) w:=by intro w hSw;go_simp;try with_reducible rfl) (e1:a.put (some d) v=a':=by simp only[KA,I7,aze,asu];rfl) (e2:listed.setIfInBounds i true=l':=by(try simp only[I7,aze,asu]);rfl) (hd:oi.dst=some d:=by rfl)
  (hs:Region.noSelect ops=true:=by kernel_rfl) (hf:Region.free md ops listed i=true:=by kernel_rfl) (hr:(Region.ready md ops listed).contains i=true:=by kernel_rfl)
  (hQ:∀c a w,Q (.panic c) (a.put oi.dst v) w→Q (.panic c) a w:=by exact fun _ _ _ h=>h) (hw:Region.wanted oi (yielded ops a.tmps)=true:=by rfl):wpAnyH P md ops Q S (fuel+1) listed a w:=
 Dq (d:=some d) hi hd hS hy (by rw[e1,e2];exact h) hs hf hr hQ hw
theorem tkN {P:Program} {md:Region.Mode} {ops:Array Oper} {Q:Exit→Act→World→Prop} {S:World→Prop} (i d:Nat) {oi:Oper} {fuel:Nat} {listed l':Array Bool} {a a':Act} {w:World} (hS:S w) (h:wpAnyH P md ops Q S fuel l' a' w)
  (hi:ops[i]?=some oi:=by rfl) (e1:a.put (some d) undef=a':=by simp only[KA,I7,aze,asu];rfl) (e2:listed.setIfInBounds i true=l':=by(try simp only[I7,aze,asu]);rfl) (hd:oi.dst=some d:=by rfl)
  (hs:Region.noSelect ops=true:=by kernel_rfl) (hf:Region.free md ops listed i=true:=by kernel_rfl) (hr:(Region.ready md ops listed).contains i=true:=by kernel_rfl)
  (hQ:∀c a w,Q (.panic c) (a.put oi.dst undef) w→Q (.panic c) a w:=by exact fun _ _ _ h=>h) (hw:Region.wanted oi (yielded ops a.tmps)=false:=by rfl):wpAnyH P md ops Q S (fuel+1) listed a w:=
 Fg (d:=some d) hi hd hS (by rw[e1,e2];exact h) hs hf hr hQ hw
theorem tkC {P:Program} {md:Region.Mode} {ops:Array Oper} {Q:Exit→Act→World→Prop} {S:World→Prop} (i:Nat) {o:Oper} {fuel:Nat} {listed:Array Bool} {a:Act} {w:World}
  (h:∀K':Act→World→Prop,Shut (∀a w,S w→(S w→wpAnyH P md ops Q S fuel (listed.setIfInBounds i true) a w)→K' a w)→if Region.wanted o (yielded ops a.tmps)=true then Oper.wp P o a w K' Q else K' (a.put o.dst undef) w)
  (ho:ops[i]?=some o:=by rfl) (hr:Region.ready md ops listed=[i]:=by kernel_rfl):wpAnyH P md ops Q S (fuel+1) listed a w:=
 wpAnyH_ready hr (by simp) (AllReadyH.cons ho h AllReadyH.nil)
theorem aN {P:Program} {md:Region.Mode} {ops:Array Oper} {Q:Exit→Act→World→Prop} {S:World→Prop} {i:Nat} {o:Oper} {d:Option Nat} {fuel:Nat} {listed:Array Bool} {a:Act} {w:World} {rs:List Nat} (ho:ops[i]?=some o) (hd:o.dst=d)
  (hg:o.guard=none) (s x:Operand) (t ty:TypeId) (hop:o.op=Op.call {callee:=Callee.builtin Builtin.append,args:=#[s,x],argTypes:=#[t,t]}) (hty:o.type=ty)
  (v1 v2 v':Value) (w':World) (hs:a.eval s=v1) (hx:a.eval x=v2) (hrun:(Builtin.append_ #[t,t] ty #[v1,v2]).run P w=.ok v' w') (hS:S w')
  (h:S w'→wpAnyH P md ops Q S fuel (listed.setIfInBounds i true) (a.put d v') w') (rest:AllReadyH P md ops Q S fuel listed a w rs):AllReadyH P md ops Q S fuel listed a w (i::rs):=
 AllReadyH.cons ho (fun _ hK=>fP hg s x t hop v1 v2 v' w' hs hx (by rw[hty];exact hrun) (by rw[hd];exact hK.out _ _ hS h)) rest
theorem l5.later {w0 w w':World} {a:Addr} {m:List aG} (h:l5 w0 w a m) (k:aj w w'):l5 w0 w' a m:=by obtain⟨ys,y1,y2,y3,y4⟩:=h;exact⟨ys,y1,fun j u hu=>by have hc:=y2 j u hu;rw[k.cell (World.block_lt_of_cell? w _ hc)];exact hc,y3,y4⟩
theorem l5.grown {w0 w w':World} {g off:Nat} {m:List aG} {row:Option Nat} (h:l5 w0 w ⟨g,off,none⟩ m) (k:w.grownBy w' row) (hne:some g≠row):l5 w0 w' ⟨g,off,none⟩ m:=by obtain⟨ys,y1,y2,y3,y4⟩:=h;exact⟨ys,y1,fun j u hu=>by have hc:=y2 j u hu;rw[Addr.add_lit] at hc⊢;exact k.cell hc hne,y3,y4⟩
def bO:aB aI where
 size:=2
 is:=fun _ _ c b=>c=[.string b.1,.string b.2]
 len:=fun h=>by subst h;rfl
 one:=fun h u hu=>by subst h;simp at hu;rcases hu with rfl|rfl <;> rfl
 kept:=fun h _ _=>h
 mono:=fun h _=>h
def slK {α:Type} (K:aB α):aB (List α) where
 size:=1
 is:=fun B w c l=>∃v,c=[v]∧K.sl B w v l
 len:=fun⟨v,h,_⟩=>by subst h;rfl
 one:=fun⟨v,h,hs⟩ u hu=>by subst h;obtain⟨a,cap,rfl⟩:=aB.slice hs;simp at hu;subst hu;rfl
 kept:=fun⟨v,h,hs⟩ h1 h2=>⟨v,h,aB.fE hs h1 h2⟩
 mono:=fun⟨v,h,hs⟩ h1=>⟨v,h,aB.dX hs h1⟩
abbrev qI:aB (List aI):=slK bO
theorem aB.fQ {α:Type} {K:aB α} {ty:TypeId} {lo:Nat} {w w':World} {v:Value} {l:List α} (h:K.own ty lo w v l) (hs:w.heap.size≤w'.heap.size) (hk:∀k,k<w.heap.size→lo≤k→w'.heap[k]?=w.heap[k]?):K.own ty lo w' v l:=by
 obtain⟨xs,ho,hx⟩:=h;refine⟨xs,⟨ho.1,?_⟩,fun i x hi=>?_⟩
 ·rcases ho.2 with e|⟨g,cap,cur,rfl,hbg,hg,r⟩;·exact Or.inl e
  exact Or.inr ⟨g,cap,cur,rfl,hbg,by rw[hk g (Array.getElem?_eq_some_iff.1 hg).1 hbg];exact hg,r⟩
 obtain⟨c,c1,c2⟩:=hx i x hi;exact⟨c,K.kept c1 hs fun j hj hB=>hk j hj hB.1,c2⟩
theorem ji {ty:TypeId} {lo:Nat} {w w':World} {v:Value} {l:List aI} (h:bO.own ty lo w v l) (hk:∀k,v.ownBlock=some k→w'.heap[k]?=w.heap[k]?):bO.own ty lo w' v l:=by
 obtain⟨xs,ho,hx⟩:=h;refine⟨xs,⟨ho.1,?_⟩,hx⟩;rcases ho.2 with e|⟨g,cap,cur,rfl,hbg,hg,r⟩;·exact Or.inl e
 exact Or.inr ⟨g,cap,cur,rfl,hbg,by rw[hk g rfl];exact hg,r⟩
theorem tq {ty:TypeId} {lo lo':Nat} {w:World} {v:Value} {l:List aI} (h:bO.own ty lo w v l) (hl:lo'≤lo):bO.own ty lo' w v l:=by
 obtain⟨xs,ho,hx⟩:=h;refine⟨xs,⟨ho.1,?_⟩,hx⟩;rcases ho.2 with e|⟨g,cap,cur,rfl,hbg,r⟩;·exact Or.inl e
 exact Or.inr ⟨g,cap,cur,rfl,by omega,r⟩
abbrev tu (v:Value):Nat→Prop:=fun k=>v.ownBlock=some k
def apart (u u':Value):Prop:=∀k,u.ownBlock=some k→u'.ownBlock≠some k
theorem apart.symm {u u':Value} (h:apart u u'):apart u' u:=fun k h1 h2=>h k h2 h1
def Lists (tyS ty:TypeId) (lo:Nat) (w:World) (v:Value) (ps:List (Value×List aI)):Prop:=
 w.ownsRow lo tyS 1 v ps.length (ps.map (·.1))∧(∀p∈ps,bO.own ty lo w p.1 p.2∧apart p.1 v)∧ps.Pairwise fun p q=>apart p.1 q.1
theorem Lists.nil (tyS ty:TypeId) (lo:Nat) (w:World):Lists tyS ty lo w (.slice none 0 0) []:=⟨World.ownsRow_nil w lo tyS 1,fun p hp=>by simp at hp,List.Pairwise.nil⟩
theorem Lists.kept {tyS ty:TypeId} {lo:Nat} {w w':World} {v:Value} {ps:List (Value×List aI)} (h:Lists tyS ty lo w v ps) (hk:∀k,k<w.heap.size→lo≤k→w'.heap[k]?=w.heap[k]?):Lists tyS ty lo w' v ps:=by
 obtain⟨ho,hp,ha⟩:=h;refine⟨⟨ho.1,?_⟩,fun p h1=>⟨ji (hp p h1).1 fun k e=>?_,(hp p h1).2⟩,ha⟩
 ·rcases ho.2 with e|⟨g,cap,cur,rfl,hbg,hg,r⟩;·exact Or.inl e
  exact Or.inr ⟨g,cap,cur,rfl,hbg,by rw[hk g (Array.getElem?_eq_some_iff.1 hg).1 hbg];exact hg,r⟩
 have:=aB.dV (hp p h1).1 e;exact hk k this.2 this.1
theorem Lists.later {tyS ty:TypeId} {lo:Nat} {w w':World} {v:Value} {ps:List (Value×List aI)} (h:Lists tyS ty lo w v ps) (k:aj w w'):Lists tyS ty lo w' v ps:=h.kept fun _ hi _=>k.block hi
theorem Lists.slice {tyS ty:TypeId} {lo:Nat} {w:World} {v:Value} {ps:List (Value×List aI)} (h:Lists tyS ty lo w v ps):∃a cap,v=.slice a ps.length cap:=by
 rcases h.1.2 with⟨rfl,e⟩|⟨g,cap,cur,rfl,_⟩;·exact⟨none,0,by rw[e]⟩
 exact⟨_,cap,rfl⟩
theorem Lists.sl {tyS ty:TypeId} {lo:Nat} {w:World} {v:Value} {ps:List (Value×List aI)} (h:Lists tyS ty lo w v ps) (hl:ps.length≤8796093022208) (hs:∀p∈ps,p.2.length≤8796093022208):qI.sl (From lo) w v (ps.map (·.2)):=by
 obtain⟨ho,hp,_⟩:=h;rcases ho.2 with⟨rfl,e⟩|⟨g,cap,cur,rfl,hbg,hg,hnc,_⟩;·have:ps=[]:=List.eq_nil_of_length_eq_zero e;subst this;exact qI.jE _ _ _ _
 refine⟨⟨by simpa using hl,hnc⟩,_,cap,by simp,fun _=>⟨g,0,rfl,hbg,(Array.getElem?_eq_some_iff.1 hg).1,fun i x hi=>?_⟩⟩;rw[List.getElem?_map] at hi;cases e:ps[i]? with
 |none=>rw[e] at hi;cases hi
 |some p=>
  rw[e] at hi;cases hi;have hpm:=List.mem_of_getElem? e;refine⟨[p.1],⟨p.1,rfl,aB.gQ (hp p hpm).1 (hs p hpm)⟩,fun j u hu=>?_⟩;cases j with
  |succ j=>simp at hu
  |zero=>
   simp at hu;subst hu;have:=ho.cells (g:=g) rfl i p.1 (by rw[List.getElem?_map,e];rfl);rw[Addr.add_lit] at this;show w.cell? ⟨g,0+i*1+0,none⟩=_;rw[Nat.mul_one,Nat.add_zero];exact this
theorem jW {a b:ByteArray}:(a.toList==b.toList)=decide (a=b):=by rw[Bool.eq_iff_iff];simp only[beq_iff_eq,decide_eq_true_eq];exact⟨toList_inj,fun h=>by rw[h]⟩
theorem Lv (b1 b2 v:ByteArray) (c:Nat) (w:World) (hc:w.cell? ⟨c,0,none⟩=some (.string v)) (hb:c<w.heap.size):
  Calls Tryz.prog 152 #[.agg #[.string b1,.string b2],.pointer (some ⟨c,0,none⟩)] w fun e w'=>e=.returned (.bool (decide (b1=v)))∧aj w w':=by
 have E:=au (jW (a:=b1) (b:=v))
 go_enter Tryz.func152,Tryz.ntmps152
 go_wp2;go_ret;exact⟨bB E.out,(by repeat (first|exact aj.refl _|assumption|refine aj.drewN ?_ _|refine aj.drew ?_|refine aj.alloc ?_ _|refine aj.grow ?_ _))⟩
theorem Bf {l:List aI} {k:Nat} {b:aI} (h:l[k]?=some b) (v:ByteArray):fu (l.drop k) v=if b.1=v then some b.2 else fu (l.drop (k+1)) v:=by obtain⟨h1,e1⟩:=List.getElem?_eq_some_iff.1 h;rw[List.drop_eq_getElem_cons h1,e1];rfl
theorem Bg (u:Value) (l:List aI) (v:ByteArray) (c:Nat) (w:World) (hu:bO.sl bT w u l) (hc:w.cell? ⟨c,0,none⟩=some (.string v)) (hb:c<w.heap.size):
  Calls Tryz.prog 151 #[u,.func (.func 152) #[] #[.pointer (some ⟨c,0,none⟩)]] w fun e w'=>∃n:Int,e=.returned (.int .i64 n)∧((n= -1∧fu l v=none)∨∃k b,n=(k:Nat)∧l[k]?=some b∧fu l v=some b.2)∧aj w w':=by
 obtain⟨a,cap,rfl⟩:=aB.slice hu;have hl:=hu.1.1;have HU:=au hu;have HC:Hid (∀w' b1 b2,aj w w'→Calls Tryz.prog 152 #[.agg #[.string b1,.string b2],.pointer (some ⟨c,0,none⟩)] w' fun e w''=>e=.returned (.bool (decide (b1=v)))∧Hid (aj w w'')):=fun w' b1 b2 hL=>
  (Lv b1 b2 v c w' (by rw[hL.cell hb];exact hc) (Nat.lt_of_lt_of_le hb hL.size)).mono fun e w'' ⟨he,hL2⟩=>⟨he,hL.trans hL2⟩
 clear hu hc hb
 go_enter Tryz.func151,Tryz.ntmps151
 go_wp2
 go_loopg [8] l.length (fun g i wr=>∃k:Nat,k+g=l.length∧i=.int .i64 k∧Hid (fu l v=fu (l.drop k) v)∧Hid (aj w wr))
 case atStart=>exact⟨0,by omega,rfl,(rfl:_=_),aj.refl _⟩
 obtain⟨k,hk,rfl,HE,HL⟩:=hrel
 by_cases hlt:k<l.length
 ·obtain⟨b,hx⟩:∃x,l[k]?=some x:=⟨_,List.getElem?_eq_getElem hlt⟩;obtain⟨b1,o1,_,rfl,hb1,rfl,hcl⟩:=aB.bR HU.out hx;have d0:wr.cell? ⟨b1,o1+k*2,none⟩=some (.string b.1):=by rw[HL.out.cell hb1];exact hcl 0 _ rfl
  have d1:wr.cell? ⟨b1,o1+k*2+1,none⟩=some (.string b.2):=by rw[HL.out.cell hb1];exact hcl 1 _ rfl
  have hbr:b1<wr.heap.size:=Nat.lt_of_lt_of_le hb1 HL.out.size;have HD:=au (Bf hx v);have HX:=au hx;have HCk:=au (HC.out wr b.1 b.2 HL.out);clear hcl hx;obtain⟨bv,bn⟩:=b;dsimp only at*
  by_cases hq:bv=v
  ·have hq':decide (bv=v)=true:=by simpa using hq
   have F:Hid (fu l v=some bn):=by show _=_;rw[HE.out,HD.out,if_pos hq]
   rw[hq'] at HCk;clear hq hq' HD HE
   go_wp2_with (go_at_call 152;refine HCk.out.mono ?_;rintro e w2 ⟨rfl,hL2⟩)
   go_ret;exact⟨_,rfl,Or.inr ⟨k,(bv,bn),rfl,HX.out,F.out⟩,hL2.out⟩
  have hq':decide (bv=v)=false:=by simpa using hq
  have F:Hid (fu l v=fu (l.drop (k+1)) v):=by show _=_;rw[HE.out,HD.out,if_neg hq]
  rw[hq'] at HCk;clear hq hq' HD HE
  go_wp2_with (go_at_call 152;refine HCk.out.mono ?_;rintro e w2 ⟨rfl,hL2⟩)
  go_roundg (l.length- (k+1))
  case measure=>omega
  case rel=>exact⟨k+1,by omega,by go_num,F,hL2⟩
 have F:Hid (fu l v=none):=by show _=_;rw[HE.out,List.drop_eq_nil_of_le (by omega)];rfl
 go_wp2;go_ret;exact⟨_,rfl,Or.inl ⟨rfl,F.out⟩,HL.out⟩
def jJ (x:Option ByteArray):Value:=.tuple #[.string (x.getD ByteArray.empty),.bool x.isSome]
theorem Jl (u:Value) (l:List aI) (v:ByteArray) (w:World) (hu:bO.sl bT w u l):Calls Tryz.prog 124 #[u,.string v] w fun e w'=>e=.returned (jJ (fu l v))∧aj w w':=by
 have HI:=au (Bg u l v w.heap.size (w.alloc (.cells #[.string v] 9)) (aB.aS hu ((aj.refl _).alloc _)) (by simp) (by simp));have HU:=au hu;obtain⟨a,cap,rfl⟩:=aB.slice hu;clear hu
 go_enter Tryz.func124,Tryz.ntmps124
 go_wp2_with fail
 refine HI.out.mono ?_;rintro e w2 ⟨n,rfl,h,hL⟩;have HL:=au (((aj.refl w).alloc (.cells #[.string v] 9)).trans hL);clear hL HI;rcases h with⟨rfl,h⟩|⟨k,b,rfl,hk,h⟩
 ·have H:=au h;clear h;go_wp2
  go_ret2
  exact⟨by rw[H.out];rfl,HL.out⟩
 obtain⟨b1,o1,_,rfl,hb1,rfl,hcl⟩:=aB.bR HU.out hk;have d1:w2.cell? ⟨b1,o1+k*2+1,none⟩=some (.string b.2):=by rw[HL.out.cell hb1];exact hcl 1 _ rfl
 have hbr:b1<w2.heap.size:=Nat.lt_of_lt_of_le hb1 HL.out.size;have hkl:k<l.length:=(List.getElem?_eq_some_iff.1 hk).1;have hkz:(k:Int)<(l.length:Int):=by omega
 have hk0:¬(k:Int)<0:=by omega
 have H:=au h;clear h hcl hk;go_wp2
 go_ret2
 exact⟨by rw[H.out];rfl,HL.out⟩
def Fh (g:Nat) (cb:Array Value) (l:List aI) (w0:World):Prop:=∀w v,aj w0 w→Calls Tryz.prog g (#[.string v]++cb) w fun e w'=>e=.returned (jJ (fu l v))∧aj w w'
theorem En (g:Nat) (cb:Array Value) (eg:∀args w,(callFunc g args).run Tryz.prog w=.ok (.enter g args) w) (t:dM) (l:List aI) (w0 w:World) (h:Fh g cb l w0) (hL:aj w0 w):
  Calls Tryz.prog 125 #[.agg #[.bool t.1,.string (bs t.2)],.func (.func g) #[] cb] w fun e w'=>e=.returned (jJ (bH l t))∧aj w w':=by
 obtain⟨t1,t2⟩:=t;cases t1
 ·show Calls _ _ _ _ fun e w'=>e=.returned (jJ (some (bs t2)))∧_;dsimp only;generalize bs t2=k;clear h
  go_enter Tryz.func125,Tryz.ntmps125
  go_wp2
  go_ret2
  exact⟨rfl,(by repeat (first|exact aj.refl _|assumption|refine aj.drewN ?_ _|refine aj.drew ?_|refine aj.alloc ?_ _|refine aj.grow ?_ _))⟩
 show Calls _ _ _ _ fun e w'=>e=.returned (jJ (fu l (bs t2)))∧_;dsimp only;generalize bs t2=k;have HT:=au (h (w.alloc (.cells #[.bool true,.string k] 98)) k (hL.alloc _));clear h;unfold jJ at HT⊢;generalize(fu l k).getD ByteArray.empty=s at*;generalize(fu l k).isSome=b at*
 go_enter Tryz.func125,Tryz.ntmps125
 go_wp2_with fail
 refine HT.out.mono ?_;rintro e w2 ⟨rfl,hL2⟩;have HL2:=au (((aj.refl w).alloc (.cells #[.bool true,.string k] 98)).trans hL2);clear hL2 HT;go_wp2
 go_ret2
 exact⟨rfl,HL2.out⟩
end Go.Proofs.YthngiikhgplldaaGreatDoor
