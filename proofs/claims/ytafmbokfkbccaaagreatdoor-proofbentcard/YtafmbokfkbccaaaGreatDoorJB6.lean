import Derived.Test.YtafmbokfkbccaaaGreatDoorJB4
import Derived.Deep.RegionHeld
import Derived.Test.YtafmbokfkbccaaaGreatDoorJB5
import Derived.Shelf.Abstract
namespace Go.Proofs.YtafmbokfkbccaaaGreatDoor
theorem take_at {P:Program} {md:Region.Mode} {ops:Array Oper} {Q:Exit→Act→World→Prop} {S:World→Prop} {i:Nat} {oi:Oper} {d:Option Nat} {v:Value} {fuel:Nat} {listed:Array Bool} {a:Act} {w:World} (hi:ops[i]?=some oi) (hd:oi.dst=d)
  (hs:Region.noSelect ops=true) (hf:Region.free md ops listed i=true) (hr:(Region.ready md ops listed).contains i=true)
  (hQ:∀c a w,Q (.panic c) (a.put oi.dst v) w→Q (.panic c) a w) (hy:YieldsIf P ops S oi v a) (hS:S w)
  (h:wpAnyH P md ops Q S fuel (listed.setIfInBounds i true) (a.put d v) w):wpAnyH P md ops Q S (fuel+1) listed a w:=
 wpAnyH_take hi hs hf hr hQ hy hS (by rw[hd];exact h)
theorem au {P:Program} {md:Region.Mode} {ops:Array Oper} {Q:Exit→Act→World→Prop} {S:World→Prop} {i:Nat} {oi:Oper} {d:Option Nat} {v:Value} {fuel:Nat} {listed:Array Bool} {a:Act} {w:World} (hi:ops[i]?=some oi) (hd:oi.dst=d) (hS:S w)
  (hy:∀w,S w→(execOp a.eval oi).run P w=.ok (.value v) w) (h:wpAnyH P md ops Q S fuel (listed.setIfInBounds i true) (a.put d v) w) (hs:Region.noSelect ops=true:=by kernel_rfl) (hf:Region.free md ops listed i=true:=by kernel_rfl) (hr:(Region.ready md ops listed).contains i=true:=by kernel_rfl)
  (hQ:∀c a w,Q (.panic c) (a.put oi.dst v) w→Q (.panic c) a w:=by exact fun _ _ _ h=>h) (hw:Region.wanted oi (yielded ops a.tmps)=true:=by rfl):wpAnyH P md ops Q S (fuel+1) listed a w:=
 take_at hi hd hs hf hr hQ (Or.inl ⟨hw,hy⟩) hS h
theorem qB {P:Program} {md:Region.Mode} {ops:Array Oper} {Q:Exit→Act→World→Prop} {S:World→Prop} {i:Nat} {oi:Oper} {d:Option Nat} {fuel:Nat} {listed:Array Bool} {a:Act} {w:World} (hi:ops[i]?=some oi) (hd:oi.dst=d) (hS:S w)
  (h:wpAnyH P md ops Q S fuel (listed.setIfInBounds i true) (a.put d undef) w) (hs:Region.noSelect ops=true:=by kernel_rfl) (hf:Region.free md ops listed i=true:=by kernel_rfl) (hr:(Region.ready md ops listed).contains i=true:=by kernel_rfl)
  (hQ:∀c a w,Q (.panic c) (a.put oi.dst undef) w→Q (.panic c) a w:=by exact fun _ _ _ h=>h) (hw:Region.wanted oi (yielded ops a.tmps)=false:=by rfl):wpAnyH P md ops Q S (fuel+1) listed a w:=
 take_at hi hd hs hf hr hQ (Or.inr ⟨hw,rfl⟩) hS h
theorem bP (a:Act) (d:Tmp) (v:Value):a.put (some d) v={a with tmps:=a.tmps.setIfInBounds d v}:=rfl
theorem bQ {α:Type} (l:List α) (i:Nat) (x:α):l.toArray.setIfInBounds i x=(l.set i x).toArray:=List.setIfInBounds_toArray ..
theorem aze {α:Type} (l:List α) (x y:α):(x::l).set 0 y=y::l:=rfl
theorem asu {α:Type} (l:List α) (i:Nat) (x y:α):(x::l).set (i+1) y=x::l.set i y:=rfl
theorem D9.later {w0 w w':World} {a:Addr} {m:List aG} (h:D9 w0 w a m) (k:Later w w'):D9 w0 w' a m:=by
 obtain⟨ys,y1,y2,y3,y4⟩:=h;exact⟨ys,y1,fun j u hu=>by
  have hc:=y2 j u hu;rw[k.cell (World.block_lt_of_cell? w _ hc)];exact hc,y3,y4⟩
theorem D9.grown {w0 w w':World} {g off:Nat} {m:List aG} {row:Option Nat} (h:D9 w0 w ⟨g,off,none⟩ m) (k:w.grownBy w' row) (hne:some g≠row):D9 w0 w' ⟨g,off,none⟩ m:=by
 obtain⟨ys,y1,y2,y3,y4⟩:=h;exact⟨ys,y1,fun j u hu=>by
  have hc:=y2 j u hu;rw[Addr.add_lit] at hc⊢;exact k.cell hc hne,y3,y4⟩
end Go.Proofs.YtafmbokfkbccaaaGreatDoor
namespace Go.Proofs.YtafmbokfkbccaaaGreatDoor
open Go.RowKit Go.Sort
theorem zT {a b:ByteArray}:(a.toList==b.toList)=decide (a=b):=by
 rw[Bool.eq_iff_iff];simp only[beq_iff_eq,decide_eq_true_eq];exact⟨toList_inj,fun h=>by rw[h]⟩
set_option maxHeartbeats 400000 in
theorem Sm (b1 b2 v:ByteArray) (c:Nat) (w:World) (hc:w.cell? ⟨c,0,none⟩=some (.string v)) (hb:c<w.heap.size):
  Calls Tryz.prog 226 #[.agg #[.string b1,.string b2],.pointer (some ⟨c,0,none⟩)] w fun e w'=>e=.returned (.bool (decide (b1=v)))∧Later w w':=by
 have E:=hide (zT (a:=b1) (b:=v))
 go_enter Tryz.func226,Tryz.ntmps226
 go_wp2;go_ret;exact⟨bM E.out,(by repeat (first|exact Later.refl _|assumption|refine Later.drewN ?_ _|refine Later.drew ?_|refine Later.alloc ?_ _|refine Later.grow ?_ _))⟩
theorem EH {l:List aC} {k:Nat} {b:aC} (h:l[k]?=some b) (v:ByteArray):bT (l.drop k) v=if b.1=v then some b.2 else bT (l.drop (k+1)) v:=by
 obtain⟨h1,e1⟩:=List.getElem?_eq_some_iff.1 h;rw[List.drop_eq_getElem_cons h1,e1];rfl
set_option maxHeartbeats 1000000 in
theorem EI (u:Value) (l:List aC) (v:ByteArray) (c:Nat) (w:World) (hu:bA.sl bJ w u l) (hc:w.cell? ⟨c,0,none⟩=some (.string v)) (hb:c<w.heap.size):
  Calls Tryz.prog 225 #[u,.func (.func 226) #[] #[.pointer (some ⟨c,0,none⟩)]] w fun e w'=>∃n:Int,e=.returned (.int .i64 n)∧((n= -1∧bT l v=none)∨∃k b,n=(k:Nat)∧l[k]?=some b∧bT l v=some b.2)∧Later w w':=by
 obtain⟨a,cap,rfl⟩:=Kind.slice hu;have hl:=hu.1.1;have HU:=hide hu;have HC:Hid (∀w' b1 b2,Later w w'→Calls Tryz.prog 226 #[.agg #[.string b1,.string b2],.pointer (some ⟨c,0,none⟩)] w' fun e w''=>e=.returned (.bool (decide (b1=v)))∧Hid (Later w w'')):=fun w' b1 b2 hL=>
  (Sm b1 b2 v c w' (by rw[hL.cell hb];exact hc) (Nat.lt_of_lt_of_le hb hL.size)).mono fun e w'' ⟨he,hL2⟩=>⟨he,hL.trans hL2⟩
 clear hu hc hb
 go_enter Tryz.func225,Tryz.ntmps225
 go_wp2
 go_loopg [8] l.length (fun g i wr=>∃k:Nat,k+g=l.length∧i=.int .i64 k∧Hid (bT l v=bT (l.drop k) v)∧Hid (Later w wr))
 case atStart=>exact⟨0,by omega,rfl,(rfl:_=_),Later.refl _⟩
 case round=>
  obtain⟨k,hk,rfl,HE,HL⟩:=hrel
  by_cases hlt:k<l.length
  ·obtain⟨b,hx⟩:∃x,l[k]?=some x:=⟨_,List.getElem?_eq_getElem hlt⟩;obtain⟨b1,o1,_,rfl,hb1,rfl,hcl⟩:=Kind.fP HU.out hx;have d0:wr.cell? ⟨b1,o1+k*2,none⟩=some (.string b.1):=by rw[HL.out.cell hb1];exact hcl 0 _ rfl
   have d1:wr.cell? ⟨b1,o1+k*2+1,none⟩=some (.string b.2):=by rw[HL.out.cell hb1];exact hcl 1 _ rfl
   have hbr:b1<wr.heap.size:=Nat.lt_of_lt_of_le hb1 HL.out.size;have HD:=hide (EH hx v);have HX:=hide hx;have HCk:=hide (HC.out wr b.1 b.2 HL.out);clear hcl hx;obtain⟨bv,bn⟩:=b;dsimp only at*
   by_cases hq:bv=v
   ·have hq':decide (bv=v)=true:=by simpa using hq
    have F:Hid (bT l v=some bn):=by show _=_;rw[HE.out,HD.out,if_pos hq]
    rw[hq'] at HCk;clear hq hq' HD HE
    go_wp2_with (go_at_call 226;refine HCk.out.mono ?_;rintro e w2 ⟨rfl,hL2⟩)
    go_ret;exact⟨_,rfl,Or.inr ⟨k,(bv,bn),rfl,HX.out,F.out⟩,hL2.out⟩
   ·have hq':decide (bv=v)=false:=by simpa using hq
    have F:Hid (bT l v=bT (l.drop (k+1)) v):=by show _=_;rw[HE.out,HD.out,if_neg hq]
    rw[hq'] at HCk;clear hq hq' HD HE
    go_wp2_with (go_at_call 226;refine HCk.out.mono ?_;rintro e w2 ⟨rfl,hL2⟩)
    go_roundg (l.length- (k+1))
    case measure=>omega
    case rel=>exact⟨k+1,by omega,by go_num,F,hL2⟩
  ·have F:Hid (bT l v=none):=by show _=_;rw[HE.out,List.drop_eq_nil_of_le (by omega)];rfl
   go_wp2;go_ret;exact⟨_,rfl,Or.inl ⟨rfl,F.out⟩,HL.out⟩
def j3 (x:Option ByteArray):Value:=.tuple #[.string (x.getD ByteArray.empty),.bool x.isSome]
set_option maxHeartbeats 1000000 in
theorem Ob (u:Value) (l:List aC) (v:ByteArray) (w:World) (hu:bA.sl bJ w u l):Calls Tryz.prog 164 #[u,.string v] w fun e w'=>e=.returned (j3 (bT l v))∧Later w w':=by
 have HI:=hide (EI u l v w.heap.size (w.alloc (.cells #[.string v] 9)) (Kind.aI hu ((Later.refl _).alloc _)) (by simp) (by simp));have HU:=hide hu;obtain⟨a,cap,rfl⟩:=Kind.slice hu;clear hu
 go_enter Tryz.func164,Tryz.ntmps164
 go_wp2_with fail
 refine HI.out.mono ?_;rintro e w2 ⟨n,rfl,h,hL⟩;have HL:=hide (((Later.refl w).alloc (.cells #[.string v] 9)).trans hL);clear hL HI;rcases h with⟨rfl,h⟩|⟨k,b,rfl,hk,h⟩
 ·have H:=hide h;clear h;go_wp2
  go_ret2
  exact⟨by rw[H.out];rfl,HL.out⟩
 ·obtain⟨b1,o1,_,rfl,hb1,rfl,hcl⟩:=Kind.fP HU.out hk;have d1:w2.cell? ⟨b1,o1+k*2+1,none⟩=some (.string b.2):=by rw[HL.out.cell hb1];exact hcl 1 _ rfl
  have hbr:b1<w2.heap.size:=Nat.lt_of_lt_of_le hb1 HL.out.size;have hkl:k<l.length:=(List.getElem?_eq_some_iff.1 hk).1;have hkz:(k:Int)<(l.length:Int):=by omega
  have hk0:¬(k:Int)<0:=by omega
  have H:=hide h;clear h hcl hk;go_wp2
  go_ret2
  exact⟨by rw[H.out];rfl,HL.out⟩
def Ka (g:Nat) (cb:Array Value) (l:List aC) (w0:World):Prop:=∀w v,Later w0 w→Calls Tryz.prog g (#[.string v]++cb) w fun e w'=>e=.returned (j3 (bT l v))∧Later w w'
set_option maxHeartbeats 1000000 in
theorem JF (g:Nat) (cb:Array Value) (eg:∀args w,(callFunc g args).run Tryz.prog w=.ok (.enter g args) w) (t:dh) (l:List aC) (w0 w:World) (h:Ka g cb l w0) (hL:Later w0 w):
  Calls Tryz.prog 165 #[.agg #[.bool t.1,.string (bs t.2)],.func (.func g) #[] cb] w fun e w'=>e=.returned (j3 (aV l t))∧Later w w':=by
 obtain⟨t1,t2⟩:=t;cases t1
 ·show Calls _ _ _ _ fun e w'=>e=.returned (j3 (some (bs t2)))∧_;dsimp only;generalize bs t2=k;clear h
  go_enter Tryz.func165,Tryz.ntmps165
  go_wp2
  go_ret2
  exact⟨rfl,(by repeat (first|exact Later.refl _|assumption|refine Later.drewN ?_ _|refine Later.drew ?_|refine Later.alloc ?_ _|refine Later.grow ?_ _))⟩
 ·show Calls _ _ _ _ fun e w'=>e=.returned (j3 (bT l (bs t2)))∧_;dsimp only;generalize bs t2=k;have HT:=hide (h (w.alloc (.cells #[.bool true,.string k] 187)) k (hL.alloc _));clear h;unfold j3 at HT⊢;generalize(bT l k).getD ByteArray.empty=s at*;generalize(bT l k).isSome=b at*
  go_enter Tryz.func165,Tryz.ntmps165
  go_wp2_with fail
  refine HT.out.mono ?_;rintro e w2 ⟨rfl,hL2⟩;have HL2:=hide (((Later.refl w).alloc (.cells #[.bool true,.string k] 187)).trans hL2);clear hL2 HT;go_wp2
  go_ret2
  exact⟨rfl,HL2.out⟩
end Go.Proofs.YtafmbokfkbccaaaGreatDoor
namespace Go.Proofs.YtafmbokfkbccaaaGreatDoor
open Go.RowKit Go.Sort
def pick (p:Nat→Bool) (l:List aG):Nat→List aG
 |0=>[]
 |k+1=>if p k then pick p l k++[l.getD k aB] else pick p l k
theorem zU (p:Nat→Bool) (l:List aG):∀k,(pick p l k).length≤k
 |0=>Nat.le_refl _
 |k+1=>by
  have:=zU p l k;unfold pick;split <;> simp <;> omega
structure Ms (g:Nat) (cb:Array Value) (lo hi:Nat) (w0:World) (l:List aG) (p:Nat→Bool) (S:Nat→World→Prop):Prop where
 ask:∀k w' v,k<l.length→Later w0 w'→hi≤w'.heap.size→S k w'→bW w0 v (l.getD k aB)→
  Calls Tryz.prog g (#[v]++cb) w' fun e w''=>e=.returned (.bool (p k))∧Only lo hi w' w''∧S (k+1) w''
 kept:∀k w' w'',S k w'→(∀j,j<hi→w''.heap[j]?=w'.heap[j]?)→w'.heap.size≤w''.heap.size→S k w''
set_option maxHeartbeats 1000000 in
theorem keep (g:Nat) (cb:Array Value) (eg:∀args w,(callFunc g args).run Tryz.prog w=.ok (.enter g args) w) (lo hi:Nat) (w0 w:World) (v:Value) (l:List aG) (p:Nat→Bool) (S:Nat→World→Prop)
  (hf:Facts w0 v l) (h0:Later w0 w) (hlo:w0.heap.size≤lo) (hhi:hi≤w.heap.size) (hA:Ms g cb lo hi w0 l p S) (hS:S 0 w):
  Calls Tryz.prog 93 #[v,.func (.func g) #[] cb] w fun e w'=>∃v',e=.returned v'∧gT w' w.heap.size v' (pick p l l.length)∧Only lo hi w w'∧S l.length w':=by
 have HF:=hide hf;have HA:=hide hA;have HS:=hide hS;obtain⟨a,cap,rfl,hn,hz⟩:=hf.addr;clear hf hA hS
 go_enter Tryz.func93,Tryz.ntmps93
 go_wp2
 go_loopw [5,10] (fun o i wr=>∃k:Nat,k≤l.length∧i=.int .i64 k∧Hid (gT wr w.heap.size o (pick p l k))∧Hid (Only lo hi w wr)∧Hid (S k wr)) (fun _ i _=>l.length- (intOf i).toNat)
 case atStart=>exact⟨0,by omega,rfl,gT.nil _ _,Only.refl _ _ _,HS⟩
 case round=>
  obtain⟨k,hk,rfl,HO,HW,HK⟩:=hrel
  by_cases hlt:k<l.length
  ·rcases hz with rfl|⟨b,off,rfl⟩
   ·simp at hlt
   have hL0:Later w0 wr:=HW.out.later h0 hlo;obtain⟨hb0,ax,lx,cx,g1,g2,fx⟩:=HF.out.at hlt;have hb:b<wr.heap.size:=Nat.lt_of_lt_of_le hb0 hL0.size;rw[←hL0.cell (p:=⟨b,off+k*2,none⟩) hb0] at g1;rw[←hL0.cell (p:=⟨b,off+k*2+1,none⟩) hb0] at g2;have hltz:(k:Int)<(l.length:Int):=by omega
   have hwr:w.heap.size≤wr.heap.size:=HW.out.size;have hp:pick p l (k+1)=if p k then pick p l k++[l.getD k aB] else pick p l k:=rfl;have hpl:=zU p l k;have hlast:pick p l (k+1)=pick p l (k+1):=rfl;generalize hfk:l.getD k aB=f at*;have HFK:=hide hfk;have HP:=hide hp;clear hfk hp hlast;obtain⟨nk,lk⟩:=f;dsimp only at*;have hcall:=fun w' (h1:Later w0 w') (h2:hi≤w'.heap.size) (h3:S k w')=>HA.out.ask k w' (.agg #[.string nk,.slice ax lx cx]) hlt h1 h2 h3 (by rw[HFK.out];exact fx);have HC:=hide hcall;clear hcall;have hS1:S k (wr.alloc (.cells #[.string nk,.slice ax lx cx] 27)):=HA.out.kept k wr _ HK.out (fun j hj=>Below.heap_alloc _ _ _ (by omega)) (by simp)
   go_wp2_with fail
   refine(HC.out _ (hL0.alloc _) (by simp;omega) hS1).mono ?_;rintro e w1 ⟨rfl,hO1,hS2⟩;have z0:w1.cell? ⟨wr.heap.size,0,none⟩=some (.string nk):=by rw[hO1.cell (by simp) (Or.inr (by show hi≤wr.heap.size;omega))];simp
   have z1:w1.cell? ⟨wr.heap.size,1,none⟩=some (.slice ax lx cx):=by rw[hO1.cell (by simp) (Or.inr (by show hi≤wr.heap.size;omega))];simp
   have hsz:wr.heap.size<w1.heap.size:=by have:=hO1.size;simp at this;omega
   have hW1:Only lo hi w w1:=HW.out.trans ((((Later.refl wr).alloc _).only).trans hO1);have hOw:gT w1 w.heap.size u5 (pick p l k):=((HO.out.later ((Later.refl wr).alloc _)).only hO1 hhi);have hL1:Later w0 w1:=hW1.later h0 hlo;have HO1:=hide hOw;have HW1:=hide hW1;have HS2:=hide hS2;clear hOw hW1 hS2;cases hpk:p k
   ·have HN:Hid (pick p l (k+1)=pick p l k):=by show _=_;rw[HP.out,hpk];rfl
    go_wp2
    go_roundw
    case rel=>exact⟨k+1,by omega,by go_num,(by rw[HN.out];exact HO1.out:gT _ _ _ _),HW1,HS2⟩
    case measure=>simp[intOf];omega
   ·have HN:Hid (pick p l (k+1)=pick p l k++[(nk,lk)]):=by show _=_;rw[HP.out,hpk];rfl
    go_wp2_with fail
    refine(copied _ (nk,lk) _ (fx.later hL1)).mono ?_;rintro e w2 ⟨sv,rfl,hs,hL2,hsb⟩;have HO2:=hide (HO1.out.later hL2);obtain⟨a3,c3,rfl⟩:=aZ hs;obtain⟨v',w',hrun,hO3,hg3,hd3⟩:=HO2.out.append (nk,lk) _ hs (fun q hq=>⟨by have:=(hsb q hq).1;omega,(hsb q hq).2,fun e=>by
     obtain⟨xs,ho,_⟩:=HO1.out;have:=(ho.lt q e).2;have:=(hsb q hq).1;omega⟩) (by omega) (by have:=hL2.size;omega) rfl
    dsimp only at hrun hg3 hd3;have hown:∀q,u5.ownBlock=some q→w.heap.size≤q:=fun q e=>by obtain⟨xs,ho,_⟩:=HO1.out;exact(ho.lt q e).1
    have HR:=hide hrun;have HW3:Hid (Only lo hi w w'):=Only.grown (HW1.out.trans ((hL2.alloc _).only)) hg3 hd3 hown rfl rfl;have HO3:=hide hO3;have HS3:Hid (S (k+1) w'):=HA.out.kept (k+1) w1 _ HS2.out (fun j hj=>by
     rw[hg3.block j (by have:=hL2.size;simp;omega) (fun e=>by have:=hown j e.symm;omega),Below.heap_alloc _ _ _ (by have:=hL2.size;omega)];exact hL2.block (by omega)) (by have:=hg3.size;have:=hL2.size;simp at*;omega)
    clear hrun hO3 hg3
    go_wp2_with (at_builtin;refine wpList_append_run rfl (.tmp 17) (.tmp 20) 24 rfl _ _ _ _ rfl rfl HR.out ?_)
    go_roundw
    case rel=>exact⟨k+1,by omega,by go_num,(by rw[HN.out];exact HO3.out:gT _ _ _ _),HW3,HS3⟩
    case measure=>simp[intOf];omega
  ·go_wp2;go_ret;obtain rfl:k=l.length:=by omega
   exact⟨_,rfl,HO.out,HW.out,HK.out⟩
end Go.Proofs.YtafmbokfkbccaaaGreatDoor
namespace Go.Proofs.YtafmbokfkbccaaaGreatDoor
open Go.RowKit Go.Sort
def fI (s:List aG):Prop:=s.Pairwise fun a b=>fM a b<0
theorem OQ {a b c:aG} (h:fM a b≤0) (k:fM b c<0):fM a c<0:=by
 by_cases e:fM a b=0
 ·rw[aM.zero _ _ e];exact k
 ·exact aM.trans a b c (by omega) k
theorem lt_irrefl {a:aG} (h:fM a a<0):False:=by rw[aM.refl] at h;omega
theorem Kc {a b:aG} (h:fM a b<0) (k:fM b a<0):False:=lt_irrefl (aM.trans a b a h k)
theorem fI.ext:∀{s t:List aG},fI s→fI t→(∀f,f∈s↔f∈t)→s=t
 |[],[],_,_,_=>rfl
 |[],b::t,_,_,h=>by have:=(h b).2 (List.mem_cons_self ..);cases this
 |a::s,[],_,_,h=>by have:=(h a).1 (List.mem_cons_self ..);cases this
 |a::s,b::t,hs,ht,h=>by
  have hs':=List.pairwise_cons.1 hs;have ht':=List.pairwise_cons.1 ht;have e:a=b:=by
   rcases List.mem_cons.1 ((h a).1 (List.mem_cons_self ..)) with e|e
   ·exact e
   ·rcases List.mem_cons.1 ((h b).2 (List.mem_cons_self ..)) with e'|e'
    ·exact e'.symm
    ·exact absurd (ht'.1 a e) fun k=>Kc k (hs'.1 b e')
  subst e;rw[fI.ext hs'.2 ht'.2 fun f=>⟨fun hf=> ?_,fun hf=> ?_⟩]
  ·rcases List.mem_cons.1 ((h f).1 (List.mem_cons_of_mem _ hf)) with e|e
   ·subst e;exact absurd (hs'.1 f hf) lt_irrefl
   ·exact e
  ·rcases List.mem_cons.1 ((h f).2 (List.mem_cons_of_mem _ hf)) with e|e
   ·subst e;exact absurd (ht'.1 f hf) lt_irrefl
   ·exact e
def CF (s l:List aG):Prop:=fI s∧(∀f,f∈s↔f∈l)∧s.length≤l.length
theorem getD_mem_take {l:List aG} {i k:Nat} (hi:i<k) (hk:k≤l.length):l.getD i aB∈l.take k:=by
 rw[List.getD_eq_getElem?_getD,List.getElem?_eq_getElem (by omega)];exact List.mem_take_iff_getElem.2 ⟨i,by omega,rfl⟩
theorem vB {l:List aG} {k:Nat} {f:aG} (h:f∈l.take k):∃i,i<k∧i<l.length∧f=l.getD i aB:=by
 obtain⟨i,hi,rfl⟩:=List.mem_take_iff_getElem.1 h;exact⟨i,by omega,by omega,by rw[List.getD_eq_getElem?_getD,List.getElem?_eq_getElem (by omega)];rfl⟩
theorem take_succ {l:List aG} {k:Nat} (h:k<l.length):l.take (k+1)=l.take k++[l.getD k aB]:=by
 rw[List.take_succ_eq_append_getElem h,List.getD_eq_getElem?_getD,List.getElem?_eq_getElem h];rfl
theorem qC {l:List aG} (h:l.Pairwise fun a b=>fM a b≤0) {i j:Nat} (hij:i≤j) (hj:j<l.length):fM (l.getD i aB) (l.getD j aB)≤0:=by
 by_cases e:i=j
 ·subst e;rw[aM.refl];exact Int.le_refl _
 ·have:=List.pairwise_iff_getElem.1 h i j (by omega) hj (by omega);rw[List.getD_eq_getElem?_getD,List.getD_eq_getElem?_getD,List.getElem?_eq_getElem (by omega),List.getElem?_eq_getElem hj];exact this
def newP (l:List aG) (k:Nat):Bool:=decide (k=0)|| !decide (fM (l.getD (k-1) aB) (l.getD k aB)=0)
theorem Br {l:List aG} (h:l.Pairwise fun a b=>fM a b≤0):∀k,k≤l.length→CF (pick (newP l) l k) (l.take k)
 |0,_=>⟨List.Pairwise.nil,fun f=>by simp[pick],by simp[pick]⟩
 |k+1,hk=>by
  obtain⟨i1,i2,_⟩:=Br h k (by omega);have hlen:(pick (newP l) l (k+1)).length≤(l.take (k+1)).length:=by
   have:=zU (newP l) l (k+1);rw[List.length_take];omega
  rw[take_succ (by omega)] at hlen;rw[take_succ (by omega)];cases hp:newP l k with
  |true=>
   have e:pick (newP l) l (k+1)=pick (newP l) l k++[l.getD k aB]:=by simp[pick,hp]
   rw[e];refine⟨?_,fun f=>by rw[List.mem_append,List.mem_append,i2 f],by rw[←e];exact hlen⟩;unfold fI;rw[List.pairwise_append];refine⟨i1,List.pairwise_singleton _ _,fun a ha b hb=> ?_⟩;rw[List.mem_singleton] at hb;subst hb;obtain⟨i,hi,hil,rfl⟩:=vB ((i2 a).1 ha);refine OQ (qC h (i:=i) (j:=k-1) (by omega) (by omega)) ?_;have h1:=qC h (i:=k-1) (j:=k) (by omega) (by omega);have h2:fM (l.getD (k-1) aB) (l.getD k aB)≠0:=by
    intro e;unfold newP at hp;rw[decide_eq_true e,decide_eq_false (by omega)] at hp;cases hp
   omega
  |false=>
   have e:pick (newP l) l (k+1)=pick (newP l) l k:=by simp[pick,hp]
   rw[e];refine⟨i1,fun f=> ?_,by rw[←e];exact hlen⟩;rw[i2 f,List.mem_append,List.mem_singleton];refine⟨Or.inl,fun hf=>hf.elim id fun hf=> ?_⟩;unfold newP at hp;rw[Bool.or_eq_false_iff,decide_eq_false_iff_not,Bool.not_eq_false',decide_eq_true_eq] at hp;have:=aM.zero _ _ hp.2;rw[hf,←this];exact getD_mem_take (by omega) (by omega)
theorem qD (q:aG→Bool) (l:List aG):∀k,k≤l.length→pick (fun i=>q (l.getD i aB)) l k=(l.take k).filter q
 |0,_=>by simp[pick]
 |k+1,hk=>by
  have e:pick (fun i=>q (l.getD i aB)) l (k+1)=if q (l.getD k aB) then pick (fun i=>q (l.getD i aB)) l k++[l.getD k aB] else pick (fun i=>q (l.getD i aB)) l k:=rfl;rw[e,take_succ (by omega),List.filter_append,←qD q l k (by omega)];generalize l.getD k aB=x;cases hq:q x <;> simp[hq]
theorem CF.same {s t l m:List aG} (h:CF s l) (k:CF t m) (e:∀f,f∈l↔f∈m):s=t:=
 h.1.ext k.1 fun f=>(h.2.1 f).trans ((e f).trans (k.2.1 f).symm)
end Go.Proofs.YtafmbokfkbccaaaGreatDoor
