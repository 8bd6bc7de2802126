import Derived.Shelf.Spec.SlicesGrow
import Derived.Test.YtafmbokfkbccaaaGreatDoorProg
import Derived.Test.YtafmbokfkbccaaaGreatDoorJB7
import Derived.Shelf.SlSortCmp.WholeK
namespace Go.Proofs
open Go.Shelf
def Tryz.growBinds_ren:Go.Shelf.Ren:=⟨fun|4=>288|n=>n,fun|22=>158|25=>190|3=>3|4=>4|9=>9|20=>20|0=>0|n=>n,fun|n=>n⟩
theorem Tryz.growBinds:Go.Proofs.Lays8.n4 Tryz.prog Tryz.growBinds_ren:={
 mixed:=by kernel_rfl
 f4:=⟨Tryz.f288.name,by decide,Tryz.func288.trans (congrArg some (by kernel_rfl))⟩
 t0:=Tryz.underlying0
 a0:=Tryz.isAgg0
 z0:=Tryz.sizeOf0
 v0:=Tryz.zeroValue0
 t3:=Tryz.underlying3
 a3:=Tryz.isAgg3
 z3:=Tryz.sizeOf3
 v3:=Tryz.zeroValue3
 t4:=Tryz.underlying4
 a4:=Tryz.isAgg4
 z4:=Tryz.sizeOf4
 v4:=Tryz.zeroValue4
 t9:=Tryz.underlying9
 a9:=Tryz.isAgg9
 z9:=Tryz.sizeOf9
 v9:=Tryz.zeroValue9
 t20:=Tryz.underlying20
 a20:=Tryz.isAgg20
 z20:=Tryz.sizeOf20
 v20:=Tryz.zeroValue20
 t22:=Tryz.underlying158
 a22:=Tryz.isAgg158
 z22:=Tryz.sizeOf158
 v22:=Tryz.zeroValue158}
end Go.Proofs
namespace Go.Proofs.YtafmbokfkbccaaaGreatDoor
open Go.RowKit Go.Sort Go.Shelf
theorem vH:∃i,Tryz.prog.info? 190=some i∧i.zero=some (.agg #[.string ByteArray.empty,.string ByteArray.empty])∧i.size=2∧i.bytes=32:=⟨Tryz.t190,by kernel_rfl,by kernel_rfl,by kernel_rfl,by kernel_rfl⟩
def wK (b:aC):List Value:=[.string b.1,.string b.2]
def gX (l:List aC):List Value:=l.flatMap wK
theorem vI (l m:List aC):gX (l++m)=gX l++gX m:=by simp[gX]
theorem lg:∀l:List aC,(gX l).length=l.length*2
 |[]=>rfl
 |b::l=>by
  have:=lg l;simp only[gX,List.flatMap_cons,List.length_append,wK,List.length_cons] at this⊢;rw[this];simp;omega
theorem kK:∀(l:List aC) (i j:Nat),j<2→(gX l)[i*2+j]?=(l[i]?).bind fun b=>(wK b)[j]?
 |[],i,j,_=>by simp[gX]
 |b::l,0,j,hj=>by
  have:j=0∨j=1:=by omega
  rcases this with rfl|rfl <;> simp[gX,wK]
 |b::l,i+1,j,hj=>by
  have e:(i+1)*2+j=(i*2+j)+2:=by omega
  rw[e];simp only[List.getElem?_cons_succ];rw[←kK l i j hj];show([.string b.1,.string b.2]++gX l)[i*2+j+2]?=_;rw[List.getElem?_append_right (by simp)];simp
theorem CQ {l:List aC}:∀u∈gX l,u.oneCell'=true:=fun u hu=>by
 obtain⟨b,_,hb⟩:=List.mem_flatMap.1 hu;simp[wK] at hb;rcases hb with rfl|rfl <;> rfl
theorem qH {ty:TypeId} {lo:Nat} {w:World} {v:Value} {l:List aC} (h:bA.own ty lo w v l):w.ownsRow lo ty 2 v l.length (gX l):=by
 obtain⟨xs,ho,hx⟩:=h;have e:xs=gX l:=by
  apply List.ext_getElem?
  intro n
  by_cases hn:n<l.length*2
  ·have hi:n/2<l.length:=by omega
   obtain⟨c,rfl,hc⟩:=hx (n/2) _ (List.getElem?_eq_getElem hi);have hm:n%2<2:=Nat.mod_lt _ (by omega);have e1:n=n/2*2+n%2:=by omega
   have e2:=kK l (n/2) (n%2) hm;rw[List.getElem?_eq_getElem hi] at e2;rw[←e1] at e2;rw[e2];rcases(by omega:n%2=0∨n%2=1) with h0|h0
   ·have:=hc 0 _ rfl;rw[show n/2*bA.size+0=n by show n/2*2+0=n;omega] at this;rw[this,h0];rfl
   ·have:=hc 1 _ rfl;rw[show n/2*bA.size+1=n by show n/2*2+1=n;omega] at this;rw[this,h0];rfl
  ·have h1:xs.length=l.length*2:=ho.1;rw[List.getElem?_eq_none (by omega),List.getElem?_eq_none (by rw[lg];omega)]
 rw[←e];exact ho
theorem JH {ty:TypeId} {lo:Nat} {w:World} {v:Value} {l:List aC} (h:w.ownsRow lo ty 2 v l.length (gX l)):bA.own ty lo w v l:=by
 refine⟨gX l,h,fun i x hi=>⟨_,rfl,fun j u hu=> ?_⟩⟩;have hj:j<2:=(List.getElem?_eq_some_iff.1 hu).1;show(gX l)[i*2+j]?=_;rw[kK l i j hj,hi];exact hu
theorem vJ {B:Nat→Prop} {w:World} {a:Addr} {n cap:Nat} {l:List aC} (h:bA.sl B w (.slice (some a) n cap) l):∀j u,(gX l)[j]?=some u→w.cell? (a.add j)=some u:=fun j u hu=>by
 have hj:j<l.length*2:=by rw[←lg];exact(List.getElem?_eq_some_iff.1 hu).1
 have hi:j/2<l.length:=by omega
 obtain⟨b,off,c,e,hb,rfl,hc⟩:=Kind.fP h (List.getElem?_eq_getElem hi);cases e;have e1:j=j/2*2+j%2:=by omega
 have e2:=kK l (j/2) (j%2) (Nat.mod_lt _ (by omega));rw[List.getElem?_eq_getElem hi] at e2;rw[←e1,hu] at e2;have:=hc (j%2) u e2.symm;rw[Addr.add_lit];rw[show off+j/2*bA.size+j%2=off+j by show off+j/2*2+j%2=off+j;omega] at this;exact this
theorem qI {lo:Nat} {w:World} {v:Value} {l m:List aC} {a:Option Addr} {cap:Nat} (h:bA.own 190 lo w v l) (hm:bA.sl bJ w (.slice a m.length cap) m) (hl:l.length+m.length≤4398046511104) (hlo:lo≤w.heap.size):
  ∃v' w',(Builtin.append_ #[158,158] 158 #[v,.slice a m.length cap]).run Tryz.prog w=.ok v' w'∧bA.own 190 lo w' v' (l++m)∧w.grownBy w' v.ownBlock∧w.drawn≤w'.drawn∧∀k,v'.ownBlock=some k→v.ownBlock=some k∨w.heap.size≤k:=by
 obtain⟨i,i1,i2,i3,i4⟩:=vH;have ho:=qH h;cases a with
 |none=>
  have hm0:m=[]:=by
   refine Classical.byContradiction fun hne=> ?_;obtain⟨_,a',_,e,h1⟩:=hm;simp only[Value.slice.injEq] at e;obtain⟨b,off,e',_⟩:=h1 hne;rw[e'] at e;cases e.1
  subst hm0;refine⟨v,w,?_,by rw[List.append_nil];exact h,⟨rfl,rfl,rfl,Nat.le_refl _,fun _ _ _=>rfl⟩,Nat.le_refl _,fun k hk=>Or.inl hk⟩;rcases ho.2 with⟨rfl,e0⟩|⟨g,c,cur,rfl,_,_,hnc,_⟩
  ·simp[Builtin.append_,run_underlying Tryz.underlying158,sizeOf,typeInfo,i1,Builtin.lenOf,Builtin.firstCells]
  ·simp[Builtin.append_,run_underlying Tryz.underlying158,sizeOf,typeInfo,i1,Builtin.lenOf,Builtin.firstCells,hnc,storeCells]
 |some a=>
  obtain⟨v',w',hrun,r1,r2,r3,r4⟩:=eT (P:=Tryz.prog) w lo 158 158 190 i _ 2 32 Tryz.underlying158 i1 i2 i3 i4 rfl (by omega) v l.length (gX l) ho a m.length cap (gX m) (lg m) (vJ hm) CQ (by simp only[maxLen];omega) (by omega) hlo;exact⟨v',w',hrun,JH (by rw[List.length_append,vI];exact r1),r2,r3,r4⟩
theorem CR {lo:Nat} {w:World} {v:Value} {l:List aC} (h:bA.own 190 lo w v l) (x y:ByteArray) (hl:l.length+1≤4398046511104) (hlo:lo≤w.heap.size):
  ∃v' w',(Builtin.append_ #[158,158] 158 #[v,.slice (some ⟨w.heap.size,0,none⟩) 1 1]).run Tryz.prog (w.alloc (.cells #[.string x,.string y] 190))=.ok v' w'∧bA.own 190 lo w' v' (l++[(x,y)])∧(w.alloc (.cells #[.string x,.string y] 190)).grownBy w' v.ownBlock∧w.drawn≤w'.drawn∧
   ∀k,v'.ownBlock=some k→v.ownBlock=some k∨w.heap.size<k:=by
 obtain⟨i,i1,i2,i3,i4⟩:=vH;exact Kind.vD h Tryz.underlying158 i1 i2 i3 i4 rfl (by decide) (c:=[.string x,.string y]) (x:=(x,y)) rfl (by omega) (by simp[maxLen];omega) hlo
theorem OT (w:World) (n:Nat) (hn:n≤4398046511104):Calls Tryz.prog 288 #[.slice none 0 0,.int .i64 n] w fun e w'=>
  ∃v',e=.returned v'∧bA.own 190 w.heap.size w' v' []∧Later w w':=by
 by_cases h0:n=0
 ·subst h0;exact(Any8.slices_Grow_room Tryz.growBinds none 0 0 0 w (Nat.le_refl _) (by omega) (by omega) (Nat.le_refl _)).mono fun e w' ⟨he,hw⟩=>
   ⟨_,he,bA.jg _ _ _,by rw[hw];exact Later.refl _⟩
 ·obtain⟨i,i1,i2,i3,i4⟩:=vH;refine(Any8.slices_Grow_grow Tryz.growBinds i _ i1 i2 (by omega) none 0 0 n [] w (Nat.le_refl _) (by omega) (by rw[i4];omega) (by omega) (by simp) (fun _=>rfl) (fun a h=>by cases h)).mono fun e w' ⟨he,hw⟩=>⟨_,he,?_,?_⟩
  ·rw[hw];have hcm:=grownCap_le_maxLen w (0+n) 0 (Tryz.growBinds_ren.t 25) (by simp only[maxLen];omega);have hge:=grownCap_ge w (0+n) 0 (Tryz.growBinds_ren.t 25);refine JH (World.ownsRow_made (base:=w.heap.size) (e:=190) (size:=2) w.drew _ _ (Nat.le_refl _) hcm ?_);simp only[Array.size_append,List.size_toArray,size_zeroCells];show 0+(0+n-0)*2+(grownCap w (0+n) 0 (Tryz.growBinds_ren.t 25)- (0+n))*2=_;omega
  ·rw[hw];exact(Later.refl w).drew.alloc _
theorem mY {ty:TypeId} {lo:Nat} {w w':World} {v:Value} {l:List aC} (h:bA.own ty lo w v l) (k:Later w w'):bA.own ty lo w' v l:=jQ h fun _ e=>k.block (Kind.fu h e).2
set_option maxHeartbeats 1000000 in
theorem Kh (w:World) (c cp:Nat) (va vb:Value) (la lb:List aC) (ha:bA.sl bJ w va la) (hb:bA.sl bJ w vb lb) (hn:la.length+lb.length≤4398046511104) (hc0:w.cell? ⟨c,0,none⟩=some va) (hc1:w.cell? ⟨c,1,none⟩=some vb) (hcb:c<w.heap.size):
  Calls Tryz.prog 240 #[.slice (some ⟨c,0,none⟩) 2 cp] w fun e w'=>∃v',e=.returned v'∧bA.own 190 w.heap.size w' v' (la++lb)∧Later w w':=by
 have HA:=hide ha;have HB:=hide hb;obtain⟨a1,c1,rfl⟩:=Kind.slice ha;obtain⟨a2,c2,rfl⟩:=Kind.slice hb;clear ha hb;have s1:¬((la.length:Int)<0):=by omega
 have s2:¬((la.length:Int)+(lb.length:Int)<0):=by omega
 go_enter Tryz.func240,Tryz.ntmps240
 go_wp2;refine wp_loop_rounds 3 ?_;rw[rounds_succ];go_wp2;rw[rounds_succ];go_wp2;rw[rounds_succ]
 go_wp2_with fail
 rw[show((la.length:Int)+(lb.length:Int))=((la.length+lb.length:Nat):Int) by omega];refine(OT w (la.length+lb.length) hn).mono ?_;rintro e w1 ⟨v1,rfl,hR1,hL1⟩;obtain⟨v2,w2,Qz,hR2,hg2,hd2,hk2⟩:=qI hR1 (Kind.aI HA.out hL1) (by simp;omega) hL1.size;have hL2:Later w w2:=Later.of_below (hL1.below.grown hg2 hL1.size fun k hk=>(Kind.fu hR1 hk).1) (Nat.le_trans hL1.drawn hd2);obtain⟨v3,w3,QA,hR3,hg3,hd3,hk3⟩:=qI hR2 (Kind.aI HB.out hL2) (by simp;omega) hL2.size;have hL3:Later w w3:=Later.of_below (hL2.below.grown hg3 hL2.size fun k hk=>(Kind.fu hR2 hk).1) (Nat.le_trans hL2.drawn hd3);rw[List.nil_append] at hR3;have y0:w1.cell? ⟨c,0,none⟩=some (.slice a1 la.length c1):=by rw[hL1.cell (p:=⟨c,0,none⟩) hcb];exact hc0
 have y1:w1.cell? ⟨c,1,none⟩=some (.slice a2 lb.length c2):=by rw[hL1.cell (p:=⟨c,1,none⟩) hcb];exact hc1
 have y2:w2.cell? ⟨c,1,none⟩=some (.slice a2 lb.length c2):=by rw[hL2.cell (p:=⟨c,1,none⟩) hcb];exact hc1
 have R2:=hide Qz;have R3:=hide QA;have HR:=hide hR3;clear Qz QA hR1 hR2 hR3 hg2 hg3;go_wp2;refine wp_loop_rounds 3 ?_;rw[rounds_succ]
 go_wp2_with (at_builtin;refine wpList_append_run rfl (.tmp 31) (.tmp 32) 158 rfl _ _ _ _ rfl rfl R2.out ?_)
 rw[rounds_succ]
 go_wp2_with (at_builtin;refine wpList_append_run rfl (.tmp 31) (.tmp 32) 158 rfl _ _ _ _ rfl rfl R3.out ?_)
 rw[rounds_succ];go_wp2;go_ret;exact⟨v3,rfl,HR.out,hL3⟩
theorem xQ:∀args w,(callFunc 239 args).run Tryz.prog w=.ok (.enter 239 args) w:=enters_of Tryz.func239 (by kernel_rfl) rfl
set_option maxHeartbeats 1000000 in
theorem ER (cl cm:Nat) (u um:Value) (l m:List aC) (w0:World) (hc:w0.cell? ⟨cl,0,none⟩=some u) (hb:cl<w0.heap.size) (hd:w0.cell? ⟨cm,0,none⟩=some um) (he:cm<w0.heap.size) (hu:bA.sl bJ w0 u l) (hm:bA.sl bJ w0 um m):
  Ka 239 #[.pointer (some ⟨cl,0,none⟩),.pointer (some ⟨cm,0,none⟩)] (l++m) w0:=by
 intro w v hL;have HG:=hide (Ob u l v w (Kind.aI hu hL));have HM:Hid (∀w2,Later w w2→w2.cell? ⟨cm,0,none⟩=some um∧cm<w2.heap.size∧Calls Tryz.prog 164 #[um,.string v] w2 fun e w'=>e=.returned (j3 (bT m v))∧Hid (Later w w')):=fun w2 h2=>
  ⟨by rw[(hL.trans h2).cell he];exact hd,Nat.lt_of_lt_of_le he (hL.trans h2).size,(Ob um m v w2 (Kind.aI hm (hL.trans h2))).mono fun e w' ⟨h3,h4⟩=>⟨h3,h2.trans h4⟩⟩
 have hc':w.cell? ⟨cl,0,none⟩=some u:=by rw[hL.cell hb];exact hc
 have hb':cl<w.heap.size:=Nat.lt_of_lt_of_le hb hL.size;obtain⟨a,cap,rfl⟩:=Kind.slice hu;obtain⟨am,Uk,rfl⟩:=Kind.slice hm;have E:=hide (fA l m v);clear hu hm hc hb hd he hL;show Calls _ _ #[.string v,.pointer (some ⟨cl,0,none⟩),.pointer (some ⟨cm,0,none⟩)] _ _;cases hg:bT l v with
 |some s=>
  have E1:Hid (bT (l++m) v=some s):=by show _=_;rw[E.out,hg]
  rw[hg] at HG;unfold j3 at HG;simp only[Option.getD_some,Option.isSome_some] at HG;clear HM hg E
  go_enter Tryz.func239,Tryz.ntmps239
  go_wp2_with (go_at_call 164;refine HG.out.mono ?_;rintro e w2 ⟨rfl,hL2⟩;replace hL2:=hide hL2)
  go_ret2
  exact⟨by rw[E1.out];rfl,bE hL2⟩
 |none=>
  have E1:Hid (bT (l++m) v=bT m v):=by show _=_;rw[E.out,hg]
  rw[hg] at HG;unfold j3 at HG HM;simp only[Option.getD_none,Option.isSome_none] at HG;clear hg E;generalize hgm:(bT m v).getD ByteArray.empty=s at*;generalize hbm:(bT m v).isSome=b at*;have E2:Hid (j3 (bT (l++m) v)=.tuple #[.string s,.bool b]):=by show _=_;rw[E1.out];unfold j3;rw[hgm,hbm]
  clear hgm hbm E1
  go_enter Tryz.func239,Tryz.ntmps239
  go_wp2_with fail
  refine HG.out.mono ?_;rintro e w2 ⟨rfl,hL2⟩;obtain⟨y0,y1,hcall⟩:=HM.out w2 hL2;have HC:=hide hcall;clear hcall hL2 HM HG
  go_wp2_with fail
  refine HC.out.mono ?_;rintro e w3 ⟨rfl,hL3⟩;go_wp2
  go_ret2
  exact⟨by rw[E2.out];rfl,hL3.out⟩
end Go.Proofs.YtafmbokfkbccaaaGreatDoor
namespace Go.Proofs.YtafmbokfkbccaaaGreatDoor
open Go.RowKit Go.Sort
theorem zV {l:List aC} {ts:List dh} {xs:List ByteArray} {j:Nat} {t:dh} {x:ByteArray} (ht:ts[j]?=some t) (hx:xs[j]?=some x):
  dQ l (ts.drop j) (xs.drop j)=match aV l t with|none=>dQ (l++[(bs t.2,x)]) (ts.drop (j+1)) (xs.drop (j+1))|some s=>if s=x then dQ l (ts.drop (j+1)) (xs.drop (j+1)) else none:=by
 obtain⟨h1,e1⟩:=List.getElem?_eq_some_iff.1 ht;obtain⟨h2,e2⟩:=List.getElem?_eq_some_iff.1 hx;rw[List.drop_eq_getElem_cons h1,List.drop_eq_getElem_cons h2,e1,e2];rfl
def Oc (w0 w:World) (v:Value) (r:Option (List aC)):Prop:=match r with
 |none=>v=.slice none 0 0
 |some m=>bA.own 190 w0.heap.size w v m
set_option maxRecDepth 100000 in
set_option maxHeartbeats 1000000 in
theorem Ki (a:aF) (sa:Option Addr) (cap:Nat) (fn:ByteArray) (fa:Option Addr) (nf ES:Nat) (sb:Option Addr) (nb Cr:Nat) (w:World) (h:(decide (bs a.name=fn)&&decide ((a.terms.length:Int)=nf))=false):
  Calls Tryz.prog 175 #[.agg #[.bool a.no,.string (bs a.name),.slice sa a.terms.length cap],.agg #[.string fn,.slice fa nf ES],.slice sb nb Cr] w fun e w'=>e=.returned (.tuple #[.slice none 0 0,.bool false])∧Later w w':=by
 obtain⟨no,name,ts⟩:=a;dsimp only at*;generalize bs name=nm at*;have E:=zT (a:=nm) (b:=fn);cases hq:(nm.toList==fn.toList) with
 |false=>
  clear h E
  go_enter Tryz.func175,Tryz.ntmps175
  go_wp2
  go_ret2
  exact⟨rfl,(by repeat (first|exact Later.refl _|assumption|refine Later.drewN ?_ _|refine Later.drew ?_|refine Later.alloc ?_ _|refine Later.grow ?_ _))⟩
 |true=>
  rw[←E,hq] at h;have hne:¬((ts.length:Int)=(nf:Int)):=by simpa using h
  have hne2:((ts.length:Int) != (nf:Int))=true:=by simpa using hne
  clear h E hne
  go_enter Tryz.func175,Tryz.ntmps175
  go_wp2
  go_ret2
  exact⟨rfl,(by repeat (first|exact Later.refl _|assumption|refine Later.drewN ?_ _|refine Later.drew ?_|refine Later.alloc ?_ _|refine Later.grow ?_ _))⟩
set_option maxRecDepth 100000 in
set_option maxHeartbeats 4000000 in
theorem Ie (a:aF) (sa:Option Addr) (cap:Nat) (xs:List ByteArray) (fa:Option Addr) (ES:Nat) (u:Value) (l:List aC) (w:World) (ht:dn.sl bJ w (.slice sa a.terms.length cap) a.terms) (hf:Strs w (.slice fa a.terms.length ES) xs) (hu:bA.sl bJ w u l)
  (hlen:xs.length=a.terms.length) (hn:l.length+a.terms.length≤4398046511104):
  Calls Tryz.prog 175 #[.agg #[.bool a.no,.string (bs a.name),.slice sa a.terms.length cap],.agg #[.string (bs a.name),.slice fa a.terms.length ES],u] w fun e w'=>∃v,e=.returned (.tuple #[v,.bool (dQ l a.terms xs).isSome])∧Oc w w' v (dQ l a.terms xs)∧Later w w':=by
 obtain⟨sb,Cr,rfl⟩:=Kind.slice hu;have HT:=hide ht;have HU:=hide hu;have HFS:=hide hf;have HLen:=hide hlen;clear ht hu hf hlen;obtain⟨no,name,ts⟩:=a;dsimp only at*;generalize bs name=nm at*;have hq:(nm.toList==nm.toList)=true:=by simp
 have hq2:((ts.length:Int) != (ts.length:Int))=false:=by simp
 go_enter Tryz.func175,Tryz.ntmps175
 go_wp2
 go_loopg [32] ts.length (fun g i wr=>∃j:Nat,j+g=ts.length∧i=.int .i64 j∧∃mm o,Hid (dQ l ts xs=dQ (l++mm) (ts.drop j) (xs.drop j))∧Hid (bA.own 190 (w.heap.size+4) wr o mm)∧Hid (mm.length≤j)∧Hid (Later w wr)∧w.heap.size+4≤wr.heap.size∧
  Hid (wr.heap[w.heap.size+1]?=some (.cells #[.string nm,.slice fa ts.length ES] 27 (0,0)))∧Hid (wr.heap[w.heap.size+2]?=some (.cells #[.slice sb l.length Cr] 158 (0,0)))∧Hid (wr.heap[w.heap.size+3]?=some (.cells #[o] 158 (0,0))))
 case atStart=>
  refine⟨0,by omega,rfl,[],.slice none 0 0,(by simp:_=_),bA.jg _ _ _,(Nat.le_refl _:_≤_),((by repeat (first|exact Later.refl _|assumption|refine Later.drewN ?_ _|refine Later.drew ?_|refine Later.alloc ?_ _|refine Later.grow ?_ _)):Later _ _),by simp,?_,?_,?_⟩
  all_goals
   show _=_;simp only[bO,World.size_alloc]
   repeat (first|rw[if_pos trivial]|rw[if_pos (by omega)]|rw[if_neg (by omega)])
 case round=>
  obtain⟨j,hj,rfl,mm,o,HE,HO,HML,HL,hsz,H1,H2,H3⟩:=hrel;obtain⟨ao,no',co,rfl⟩:∃a n c,o=.slice a n c:=by obtain⟨a,c,e⟩:=Kind.dI HO.out;exact⟨a,_,c,e⟩
  by_cases hlt:j<ts.length
  ·obtain⟨x,hx⟩:∃x,ts[j]?=some x:=⟨_,List.getElem?_eq_getElem hlt⟩;have hltx:j<xs.length:=by rw[HLen.out];exact hlt
   obtain⟨y,hy⟩:∃y,xs[j]?=some y:=⟨_,List.getElem?_eq_getElem hltx⟩;obtain⟨b1,o1,_,rfl,hb1,rfl,hc⟩:=Kind.fP HT.out hx;have d0:wr.cell? ⟨b1,o1+j*2,none⟩=some (.bool x.1):=by rw[HL.out.cell hb1];exact hc 0 _ rfl
   have d1:wr.cell? ⟨b1,o1+j*2+1,none⟩=some (.string (bs x.2)):=by rw[HL.out.cell hb1];exact hc 1 _ rfl
   have hbr:b1<wr.heap.size:=by omega
   obtain⟨b2,o2,rfl,hb2,hyc⟩:∃b2 o2,fa=some ⟨b2,o2,none⟩∧b2<w.heap.size∧w.cell? ⟨b2,o2+j,none⟩=some (.string y):=by
    obtain⟨_,a',cap',e,h1⟩:=HFS.out;simp only[Value.slice.injEq] at e;obtain⟨rfl,_,_⟩:=e;obtain⟨b,off,rfl,hb,hcc⟩:=h1 (by intro e;rw[e] at hltx;simp at hltx);have:=hcc j hltx;rw[List.getD_eq_getElem?_getD,hy] at this;exact⟨b,off,rfl,hb,this⟩
   have HS:=hide (zV (l:=l++mm) hx hy);obtain⟨wt,hwt⟩:∃wt,wt=wr.alloc (.cells #[.bool x.1,.string (bs x.2)] 187):=⟨_,rfl⟩;have hLt:Later w wt:=by rw[hwt];exact HL.out.alloc _
   have hLr:Later wr wt:=by rw[hwt];exact(Later.refl _).alloc _
   have hst:wt.heap.size=wr.heap.size+1:=by rw[hwt];simp
   have hbl:∀k,k<wr.heap.size→wt.heap[k]?=wr.heap[k]?:=fun k hk=>by rw[hwt];exact Below.heap_alloc _ _ _ hk
   have htm:wt.heap[wr.heap.size]?=some (.cells #[.bool x.1,.string (bs x.2)] 187 (0,0)):=by rw[hwt];exact heap_alloc_new _ _
   have K2:=G7 ((hbl _ (by omega)).trans H2.out);have K3:=G7 ((hbl _ (by omega)).trans H3.out);have hml:=HML.out;have HW:Hid (Calls Tryz.prog 165 #[.agg #[.bool x.1,.string (bs x.2)],.func (.func 239) #[] #[.pointer (some ⟨w.heap.size+2,0,none⟩),.pointer (some ⟨w.heap.size+3,0,none⟩)]] wt fun e w2=>e=.returned (j3 (aV (l++mm) x))∧Later wt w2):=
    JF _ _ xQ x (l++mm) wt wt (ER (w.heap.size+2) (w.heap.size+3) _ _ l mm wt K2.1 K2.2.2 K3.1 K3.2.2 (Kind.aI HU.out hLt) (Kind.dN (Kind.gW (mY HO.out hLr) (by omega)))) (Later.refl _)
   rw[hwt] at HW;have HWT:=hide hwt;have HTM:=hide htm;clear hc hx hy K2 K3 hwt htm;obtain⟨x1,x2⟩:=x;dsimp only at*;cases hw:aV (l++mm) (x1,x2) with
   |some s=>
    rw[hw] at HW HS;have hw0:j3 (some s)=.tuple #[.string s,.bool true]:=rfl;rw[hw0] at HW;clear hw hw0;generalize bs x2=kx at*
    by_cases hsy:s=y
    ·have HE1:Hid (dQ l ts xs=dQ (l++mm) (ts.drop (j+1)) (xs.drop (j+1))):=by
      show _=_;have h1:=HS.out;dsimp only at h1;rw[if_pos hsy] at h1;rw[HE.out,h1]
     have hqs:(s.toList==y.toList)=true:=by rw[hsy];simp
     clear HS HE hsy
     go_wp2_with fail
     refine HW.out.mono ?_;rintro e w2 ⟨rfl,hL2⟩;rw[←HWT.out] at hL2;have hb2':∀k,k<wr.heap.size→w2.heap[k]?=wr.heap[k]?:=fun k hk=>(hL2.block (by omega)).trans (hbl k hk);have hs2:wr.heap.size<w2.heap.size:=by have:=hL2.size;omega
     obtain⟨q0,q1,p0,p1,q2⟩:=lH ((hb2' _ (by omega)).trans H1.out);have d2:w2.cell? ⟨b2,o2+j,none⟩=some (.string y):=by rw[(hLt.trans hL2).cell hb2];exact hyc
     have QB:b2<w2.heap.size:=by have:=(hLt.trans hL2).size;omega
     have Z1:=hide ((hb2' _ (by omega)).trans H1.out);have Z2:=hide ((hb2' _ (by omega)).trans H2.out);have Z3:=hide ((hb2' _ (by omega)).trans H3.out);have HL2:=hide (hLt.trans hL2);have HO2:=hide (mY HO.out (hLr.trans hL2));clear hL2 hb2' HW hbl;go_wp2
     go_roundg (ts.length- (j+1))
     case measure=>omega
     case rel=>exact⟨j+1,by omega,by go_num,mm,_,HE1,HO2,(by omega:mm.length≤j+1),HL2,by omega,Z1,Z2,Z3⟩
    ·have HE1:Hid (dQ l ts xs=none):=by
      show _=_;have h1:=HS.out;dsimp only at h1;rw[if_neg hsy] at h1;rw[HE.out,h1]
     have hqs:(s.toList==y.toList)=false:=by rw[zT];simpa using hsy
     clear HS HE hsy
     go_wp2_with fail
     refine HW.out.mono ?_;rintro e w2 ⟨rfl,hL2⟩;rw[←HWT.out] at hL2;have hb2':∀k,k<wr.heap.size→w2.heap[k]?=wr.heap[k]?:=fun k hk=>(hL2.block (by omega)).trans (hbl k hk);have hs2:wr.heap.size<w2.heap.size:=by have:=hL2.size;omega
     obtain⟨q0,q1,p0,p1,q2⟩:=lH ((hb2' _ (by omega)).trans H1.out);have d2:w2.cell? ⟨b2,o2+j,none⟩=some (.string y):=by rw[(hLt.trans hL2).cell hb2];exact hyc
     have QB:b2<w2.heap.size:=by have:=(hLt.trans hL2).size;omega
     have HL2:=hide (hLt.trans hL2);clear hL2 hb2' HW hbl;go_wp2
     go_ret2
     exact⟨_,by rw[HE1.out];rfl,by rw[HE1.out];exact rfl,HL2.out⟩
   |none=>
    rw[hw] at HW HS;have hw0:j3 none=.tuple #[.string ByteArray.empty,.bool false]:=rfl;rw[hw0] at HW;have HE1:Hid (dQ l ts xs=dQ (l++(mm++[(bs x2,y)])) (ts.drop (j+1)) (xs.drop (j+1))):=by
     show _=_;have h1:=HS.out;dsimp only at h1;rw[HE.out,h1,List.append_assoc]
    clear hw hw0 HS HE;generalize bs x2=kx at*
    go_wp2_with fail
    refine HW.out.mono ?_;rintro e w2 ⟨rfl,hL2⟩;rw[←HWT.out] at hL2;have hb2':∀k,k<wr.heap.size→w2.heap[k]?=wr.heap[k]?:=fun k hk=>(hL2.block (by omega)).trans (hbl k hk);have hs2:wr.heap.size<w2.heap.size:=by have:=hL2.size;omega
    obtain⟨q0,q1,p0,p1,q2⟩:=lH ((hb2' _ (by omega)).trans H1.out);have d2:w2.cell? ⟨b2,o2+j,none⟩=some (.string y):=by rw[(hLt.trans hL2).cell hb2];exact hyc
    have QB:b2<w2.heap.size:=by have:=(hLt.trans hL2).size;omega
    obtain⟨t0,t1,_,_,t2⟩:=lH ((hL2.block (by omega)).trans HTM.out);obtain⟨m0,m1,m2⟩:=G7 ((hb2' _ (by omega)).trans H3.out);obtain⟨v',w4,hrun,hO4,hg4,hd4,hv4⟩:=CR (w:=w2.drew) (mY HO.out ((hLr.trans hL2).drew)) kx y (by omega) (by show w.heap.size+4≤w2.heap.size;omega);have hlo:∀k,(Value.slice ao no' co).ownBlock=some k→w.heap.size+4≤k:=fun k e=>(Kind.fu HO.out e).1;have hb4:∀k,k<w.heap.size+4→w4.heap[k]?=wr.heap[k]?:=fun k hk=>by
     rw[hg4.block k (by simp;omega) (fun e=>by have:=hlo k e.symm;omega),Below.heap_alloc _ _ _ (by show k<w2.heap.size;omega)];exact hb2' k (by omega)
    have hs4:w2.heap.size<w4.heap.size:=by have:=hg4.size;simp at this;omega
    have HL4:=hide ((hLt.trans hL2).drew.more hg4 hd4 fun k e=>by have:=hlo k e;omega);have Z3:=hide ((hb4 _ (by omega)).trans H3.out);have Z1:=hide ((hb4 _ (by omega)).trans H1.out);have Z2:=hide ((hb4 _ (by omega)).trans H2.out);obtain⟨n0,n1,n2⟩:=G7 Z3.out;obtain⟨a4,n4,c4,rfl⟩:∃a n c,v'=.slice a n c:=by obtain⟨a,c,e⟩:=Kind.dI hO4;exact⟨a,_,c,e⟩
    have HR4:=hide hrun;have HO4:=hide hO4;clear hL2 hb2' HW hrun hO4 hg4 hd4 hv4 hb4 hbl;go_wp2
    go_region_law (refine jf rfl (.tmp 45) (.tmp 54) 158 rfl _ _ _ _ (by simp[Act.eval]) (by simp[Act.eval]) HR4.out ?_)
    all_goals
     go_wp2
     go_roundg (ts.length- (j+1))
     case measure=>omega
     case rel=>
      refine⟨j+1,by omega,by go_num,mm++[(kx,y)],.slice a4 n4 c4,HE1,?_,(by simp;omega:(mm++[(kx,y)]).length≤j+1),?_,?_,?_,?_,?_⟩
      ·exact Kind.jA HO4.out (by simp[World.setCell]) fun k _ hk=>Below.heap_setCell _ _ _ _ (by show k≠w.heap.size+3;omega)
      ·exact(Later.setCell HL4.out (p:=⟨w.heap.size+1+1+1,0,none⟩) (by show w.heap.size≤w.heap.size+3;omega) _:Later _ _)
      ·simp[World.setCell];omega
      ·show _=_;rw[Below.heap_setCell _ _ _ _ (by show w.heap.size+1≠w.heap.size+3;omega)];exact Z1.out
      ·show _=_;rw[Below.heap_setCell _ _ _ _ (by show w.heap.size+2≠w.heap.size+3;omega)];exact Z2.out
      ·show _=_;rw[dY Z3.out];rfl
  ·have e:j=ts.length:=by omega
   subst e;have HE1:Hid (dQ l ts xs=some (l++mm)):=by
    show _=_;rw[HE.out,List.drop_length];rfl
   have hml:=HML.out;have hLc:Later wr (wr.alloc (.cells #[.slice sb l.length Cr,.slice ao no' co] 158)):=(Later.refl _).alloc _;have HCc:=hide (Kh (wr.alloc (.cells #[.slice sb l.length Cr,.slice ao no' co] 158)) wr.heap.size 2 (.slice sb l.length Cr) (.slice ao no' co) l mm (Kind.aI HU.out (HL.out.trans hLc)) (Kind.dN (Kind.gW (mY HO.out hLc) (by omega))) (by omega) (by simp) (by simp) (by simp));obtain⟨q0,p0,q2⟩:=G7 H2.out;obtain⟨y0,t0,y2⟩:=G7 H3.out;clear hLc
   go_wp2_with fail
   refine HCc.out.mono ?_;rintro e w2 ⟨v,rfl,hO2,hL2⟩;have HL2:=hide ((HL.out.alloc (.cells #[.slice sb l.length Cr,.slice ao no' co] 158)).trans hL2);have HO2:=hide (vw hO2 (lo':=w.heap.size) (by simp;omega));clear hO2 hL2 HCc;go_wp2
   go_ret2
   exact⟨v,by rw[HE1.out];rfl,by rw[HE1.out];exact HO2.out,HL2.out⟩
theorem Ig (a:aF) (tv fv u:Value) (f:aG) (l:List aC) (w:World) (ht:dn.sl bJ w tv a.terms) (hf:bW w fv f) (hu:bA.sl bJ w u l) (hn:l.length+a.terms.length≤4398046511104):
  Calls Tryz.prog 175 #[.agg #[.bool a.no,.string (bs a.name),tv],fv,u] w fun e w'=>∃v,e=.returned (.tuple #[v,.bool (dL a f l).isSome])∧Oc w w' v (dL a f l)∧Later w w':=by
 obtain⟨sa,cap,rfl⟩:=Kind.slice ht;obtain⟨s,rfl,hs⟩:=hf;obtain⟨fa,ES,rfl⟩:=aZ hs;unfold dL;split
 ·rename_i h;obtain⟨h1,h2⟩:=h;rw[←h1,←h2];rw[←h2] at hs;exact Ie a sa cap f.2 fa ES u l w ht hs hu h2.symm hn
 ·rename_i h;obtain⟨sb,Cr,rfl⟩:=Kind.slice hu;refine(Ki a sa cap f.1 fa f.2.length ES sb l.length Cr w ?_).mono fun e w' ⟨he,hL⟩=>⟨_,he,rfl,hL⟩;rw[Bool.and_eq_false_iff]
  by_cases h1:bs a.name=f.1
  ·right
   simp only[decide_eq_false_iff_not];intro h2;exact h ⟨h1,by omega⟩
  ·left;simpa using h1
end Go.Proofs.YtafmbokfkbccaaaGreatDoor
namespace Go.Proofs
open Go.Shelf
def Tryz.sortBinds_ren:Go.Shelf.Ren:=⟨fun|6=>220|15=>237|14=>269|28=>286|29=>287|20=>300|21=>301|22=>302|23=>303|24=>304|25=>305|26=>306|27=>307|46=>332|47=>324|48=>325|49=>333|50=>334|57=>345|n=>n,fun|22=>158|24=>190|25=>289|3=>3|39=>202|0=>0|53=>343|55=>345|4=>4|46=>337|45=>336|50=>199|5=>5|9=>9|66=>370|70=>374|76=>389|77=>31|n=>n,fun|n=>n⟩
theorem Tryz.sortBinds:Go.Proofs.SlLaysF0.n6 Tryz.prog Tryz.sortBinds_ren:={
 mixed:=by kernel_rfl
 f6:=⟨Tryz.f220.name,by decide,Tryz.func220.trans (congrArg some (by kernel_rfl))⟩
 f14:=⟨Tryz.f269.name,by decide,Tryz.func269.trans (congrArg some (by kernel_rfl))⟩
 f15:=Tryz.func237.trans (congrArg some (by kernel_rfl))
 f20:=⟨Tryz.f300.name,by decide,Tryz.func300.trans (congrArg some (by kernel_rfl))⟩
 f21:=⟨Tryz.f301.name,by decide,Tryz.func301.trans (congrArg some (by kernel_rfl))⟩
 f22:=⟨Tryz.f302.name,by decide,Tryz.func302.trans (congrArg some (by kernel_rfl))⟩
 f23:=⟨Tryz.f303.name,by decide,Tryz.func303.trans (congrArg some (by kernel_rfl))⟩
 f24:=⟨Tryz.f304.name,by decide,Tryz.func304.trans (congrArg some (by kernel_rfl))⟩
 f25:=⟨Tryz.f305.name,by decide,Tryz.func305.trans (congrArg some (by kernel_rfl))⟩
 f26:=⟨Tryz.f306.name,by decide,Tryz.func306.trans (congrArg some (by kernel_rfl))⟩
 f27:=⟨Tryz.f307.name,by decide,Tryz.func307.trans (congrArg some (by kernel_rfl))⟩
 f28:=Tryz.func286.trans (congrArg some (by kernel_rfl))
 f29:=Tryz.func287.trans (congrArg some (by kernel_rfl))
 f46:=⟨Tryz.f332.name,by decide,Tryz.func332.trans (congrArg some (by kernel_rfl))⟩
 f47:=Tryz.func324.trans (congrArg some (by kernel_rfl))
 f48:=Tryz.func325.trans (congrArg some (by kernel_rfl))
 f49:=⟨Tryz.f333.name,by decide,Tryz.func333.trans (congrArg some (by kernel_rfl))⟩
 f50:=⟨Tryz.f334.name,by decide,Tryz.func334.trans (congrArg some (by kernel_rfl))⟩
 f57:=⟨Tryz.f345.name,by decide,Tryz.func345.trans (congrArg some (by kernel_rfl))⟩
 t0:=Tryz.underlying0
 a0:=Tryz.isAgg0
 z0:=Tryz.sizeOf0
 v0:=Tryz.zeroValue0
 t3:=Tryz.underlying3
 a3:=Tryz.isAgg3
 z3:=Tryz.sizeOf3
 v3:=Tryz.zeroValue3
 t4:=Tryz.underlying4
 a4:=Tryz.isAgg4
 z4:=Tryz.sizeOf4
 v4:=Tryz.zeroValue4
 t5:=Tryz.underlying5
 a5:=Tryz.isAgg5
 z5:=Tryz.sizeOf5
 v5:=Tryz.zeroValue5
 t9:=Tryz.underlying9
 a9:=Tryz.isAgg9
 z9:=Tryz.sizeOf9
 v9:=Tryz.zeroValue9
 t22:=Tryz.underlying158
 a22:=Tryz.isAgg158
 z22:=Tryz.sizeOf158
 v22:=Tryz.zeroValue158
 t25:=Tryz.underlying289
 a25:=Tryz.isAgg289
 z25:=Tryz.sizeOf289
 v25:=Tryz.zeroValue289
 t39:=Tryz.underlying202
 a39:=Tryz.isAgg202
 z39:=Tryz.sizeOf202
 v39:=Tryz.zeroValue202
 t45:=Tryz.underlying336
 a45:=Tryz.isAgg336
 z45:=Tryz.sizeOf336
 v45:=Tryz.zeroValue336
 t46:=Tryz.underlying337
 a46:=Tryz.isAgg337
 z46:=Tryz.sizeOf337
 v46:=Tryz.zeroValue337
 t50:=Tryz.underlying199
 a50:=Tryz.isAgg199
 z50:=Tryz.sizeOf199
 v50:=Tryz.zeroValue199
 t53:=Tryz.underlying343
 a53:=Tryz.isAgg343
 z53:=Tryz.sizeOf343
 v53:=Tryz.zeroValue343
 t55:=Tryz.underlying345
 a55:=Tryz.isAgg345
 z55:=Tryz.sizeOf345
 v55:=Tryz.zeroValue345
 t66:=Tryz.underlying370
 a66:=Tryz.isAgg370
 z66:=Tryz.sizeOf370
 v66:=Tryz.zeroValue370
 t70:=Tryz.underlying374
 a70:=Tryz.isAgg374
 z70:=Tryz.sizeOf374
 v70:=Tryz.zeroValue374
 t76:=Tryz.underlying389
 a76:=Tryz.isAgg389
 z76:=Tryz.sizeOf389
 v76:=Tryz.zeroValue389
 t77:=Tryz.underlying31
 a77:=Tryz.isAgg31
 z77:=Tryz.sizeOf31
 v77:=Tryz.zeroValue31}
end Go.Proofs
