import Derived.Test.YtafmbokfkbccaaaGreatDoorJN2
import Derived.Shelf.Abstract
import Derived.Shelf.SlSortCmp.QuietGrown
namespace Go.Proofs.YtafmbokfkbccaaaGreatDoor
open Go.RowKit Go.Sort
def pick (p:Nat→Bool) (l:List aI):Nat→List aI
 |0=>[]
 |k+1=>if p k then pick p l k++[l.getD k aC] else pick p l k
theorem Ce (p:Nat→Bool) (l:List aI):∀k,(pick p l k).length≤k
 |0=>Nat.le_refl _
 |k+1=>by
  have:=Ce p l k;unfold pick;split <;> simp <;> omega
structure Ob (g:Nat) (cb:Array Value) (lo hi:Nat) (w0:World) (l:List aI) (p:Nat→Bool) (S:Nat→World→Prop):Prop where
 ask:∀k w' v,k<l.length→Later w0 w'→hi≤w'.heap.size→S k w'→dF w0 v (l.getD k aC)→
  Calls Tryz.prog g (#[v]++cb) w' fun e w''=>e=.returned (.bool (p k))∧Only lo hi w' w''∧S (k+1) w''
 kept:∀k w' w'',S k w'→(∀j,j<hi→w''.heap[j]?=w'.heap[j]?)→w'.heap.size≤w''.heap.size→S k w''
set_option maxHeartbeats 1000000 in
theorem keep (g:Nat) (cb:Array Value) (eg:∀args w,(callFunc g args).run Tryz.prog w=.ok (.enter g args) w) (lo hi:Nat) (w0 w:World) (v:Value) (l:List aI) (p:Nat→Bool) (S:Nat→World→Prop)
  (hf:Facts w0 v l) (h0:Later w0 w) (hlo:w0.heap.size≤lo) (hhi:hi≤w.heap.size) (hA:Ob g cb lo hi w0 l p S) (hS:S 0 w):
  Calls Tryz.prog 93 #[v,.func (.func g) #[] cb] w fun e w'=>∃v',e=.returned v'∧bY w' w.heap.size v' (pick p l l.length)∧Only lo hi w w'∧S l.length w':=by
 have HF:=hide hf;have HA:=hide hA;have HS:=hide hS;obtain⟨a,cap,rfl,hn,hz⟩:=hf.addr;clear hf hA hS
 go_enter Tryz.func93,Tryz.ntmps93
 go_wp2
 go_loopw [5,10] (fun o i wr=>∃k:Nat,k≤l.length∧i=.int .i64 k∧Hid (bY wr w.heap.size o (pick p l k))∧Hid (Only lo hi w wr)∧Hid (S k wr)) (fun _ i _=>l.length- (intOf i).toNat)
 case atStart=>exact⟨0,by omega,rfl,bY.nil _ _,Only.refl _ _ _,HS⟩
 case round=>
  obtain⟨k,hk,rfl,HO,HW,HK⟩:=hrel
  by_cases hlt:k<l.length
  ·rcases hz with rfl|⟨b,off,rfl⟩
   ·simp at hlt
   have hL0:Later w0 wr:=HW.out.later h0 hlo;obtain⟨hb0,ax,lx,cx,g1,g2,fx⟩:=HF.out.at hlt;have hb:b<wr.heap.size:=Nat.lt_of_lt_of_le hb0 hL0.size;rw[←hL0.cell (p:=⟨b,off+k*2,none⟩) hb0] at g1;rw[←hL0.cell (p:=⟨b,off+k*2+1,none⟩) hb0] at g2;have hltz:(k:Int)<(l.length:Int):=by omega
   have hwr:w.heap.size≤wr.heap.size:=HW.out.size;have hp:pick p l (k+1)=if p k then pick p l k++[l.getD k aC] else pick p l k:=rfl;have hpl:=Ce p l k;have hlast:pick p l (k+1)=pick p l (k+1):=rfl;generalize hfk:l.getD k aC=f at*;have HFK:=hide hfk;have HP:=hide hp;clear hfk hp hlast;obtain⟨nk,lk⟩:=f;dsimp only at*;have hcall:=fun w' (h1:Later w0 w') (h2:hi≤w'.heap.size) (h3:S k w')=>HA.out.ask k w' (.agg #[.string nk,.slice ax lx cx]) hlt h1 h2 h3 (by rw[HFK.out];exact fx);have HC:=hide hcall;clear hcall;have hS1:S k (wr.alloc (.cells #[.string nk,.slice ax lx cx] 27)):=HA.out.kept k wr _ HK.out (fun j hj=>Below.heap_alloc _ _ _ (by omega)) (by simp)
   go_wp2_with fail
   refine(HC.out _ (hL0.alloc _) (by simp;omega) hS1).mono ?_;rintro e w1 ⟨rfl,hO1,hS2⟩;have z0:w1.cell? ⟨wr.heap.size,0,none⟩=some (.string nk):=by rw[hO1.cell (by simp) (Or.inr (by show hi≤wr.heap.size;omega))];simp
   have z1:w1.cell? ⟨wr.heap.size,1,none⟩=some (.slice ax lx cx):=by rw[hO1.cell (by simp) (Or.inr (by show hi≤wr.heap.size;omega))];simp
   have hsz:wr.heap.size<w1.heap.size:=by have:=hO1.size;simp at this;omega
   have hW1:Only lo hi w w1:=HW.out.trans ((((Later.refl wr).alloc _).only).trans hO1);have hOw:bY w1 w.heap.size u5 (pick p l k):=((HO.out.later ((Later.refl wr).alloc _)).only hO1 hhi);have hL1:Later w0 w1:=hW1.later h0 hlo;have HO1:=hide hOw;have HW1:=hide hW1;have HS2:=hide hS2;clear hOw hW1 hS2;cases hpk:p k
   ·have HN:Hid (pick p l (k+1)=pick p l k):=by show _=_;rw[HP.out,hpk];rfl
    go_wp2
    go_roundw
    case rel=>exact⟨k+1,by omega,by go_num,(by rw[HN.out];exact HO1.out:bY _ _ _ _),HW1,HS2⟩
    case measure=>simp[intOf];omega
   ·have HN:Hid (pick p l (k+1)=pick p l k++[(nk,lk)]):=by show _=_;rw[HP.out,hpk];rfl
    go_wp2_with fail
    refine(copied _ (nk,lk) _ (fx.later hL1)).mono ?_;rintro e w2 ⟨sv,rfl,hs,hL2,hsb⟩;have HO2:=hide (HO1.out.later hL2);obtain⟨a3,c3,rfl⟩:=aW hs;obtain⟨v',w',hrun,hO3,hg3,hd3⟩:=HO2.out.append (nk,lk) _ hs (fun q hq=>⟨by have:=(hsb q hq).1;omega,(hsb q hq).2,fun e=>by
     obtain⟨xs,ho,_⟩:=HO1.out;have:=(ho.lt q e).2;have:=(hsb q hq).1;omega⟩) (by omega) (by have:=hL2.size;omega) rfl
    dsimp only at hrun hg3 hd3;have hown:∀q,u5.ownBlock=some q→w.heap.size≤q:=fun q e=>by obtain⟨xs,ho,_⟩:=HO1.out;exact(ho.lt q e).1
    have HR:=hide hrun;have HW3:Hid (Only lo hi w w'):=Only.grown (HW1.out.trans ((hL2.alloc _).only)) hg3 hd3 hown rfl rfl;have HO3:=hide hO3;have HS3:Hid (S (k+1) w'):=HA.out.kept (k+1) w1 _ HS2.out (fun j hj=>by
     rw[hg3.block j (by have:=hL2.size;simp;omega) (fun e=>by have:=hown j e.symm;omega),Below.heap_alloc _ _ _ (by have:=hL2.size;omega)];exact hL2.block (by omega)) (by have:=hg3.size;have:=hL2.size;simp at*;omega)
    clear hrun hO3 hg3
    go_wp2_with (at_builtin;refine wpList_append_run rfl (.tmp 17) (.tmp 20) 24 rfl _ _ _ _ rfl rfl HR.out ?_)
    go_roundw
    case rel=>exact⟨k+1,by omega,by go_num,(by rw[HN.out];exact HO3.out:bY _ _ _ _),HW3,HS3⟩
    case measure=>simp[intOf];omega
  ·go_wp2;go_ret;obtain rfl:k=l.length:=by omega
   exact⟨_,rfl,HO.out,HW.out,HK.out⟩
end Go.Proofs.YtafmbokfkbccaaaGreatDoor
namespace Go.Proofs.YtafmbokfkbccaaaGreatDoor
open Go.RowKit Go.Sort
def gW (s:List aI):Prop:=s.Pairwise fun a b=>gM a b<0
theorem QV {a b c:aI} (h:gM a b≤0) (k:gM b c<0):gM a c<0:=by
 by_cases e:gM a b=0
 ·rw[aU.zero _ _ e];exact k
 ·exact aU.trans a b c (by omega) k
theorem lt_irrefl {a:aI} (h:gM a a<0):False:=by rw[aU.refl] at h;omega
theorem LP {a b:aI} (h:gM a b<0) (k:gM b a<0):False:=lt_irrefl (aU.trans a b a h k)
theorem gW.ext:∀{s t:List aI},gW s→gW t→(∀f,f∈s↔f∈t)→s=t
 |[],[],_,_,_=>rfl
 |[],b::t,_,_,h=>by have:=(h b).2 (List.mem_cons_self ..);cases this
 |a::s,[],_,_,h=>by have:=(h a).1 (List.mem_cons_self ..);cases this
 |a::s,b::t,hs,ht,h=>by
  have hs':=List.pairwise_cons.1 hs;have ht':=List.pairwise_cons.1 ht;have e:a=b:=by
   rcases List.mem_cons.1 ((h a).1 (List.mem_cons_self ..)) with e|e
   ·exact e
   ·rcases List.mem_cons.1 ((h b).2 (List.mem_cons_self ..)) with e'|e'
    ·exact e'.symm
    ·exact absurd (ht'.1 a e) fun k=>LP k (hs'.1 b e')
  subst e;rw[gW.ext hs'.2 ht'.2 fun f=>⟨fun hf=> ?_,fun hf=> ?_⟩]
  ·rcases List.mem_cons.1 ((h f).1 (List.mem_cons_of_mem _ hf)) with e|e
   ·subst e;exact absurd (hs'.1 f hf) lt_irrefl
   ·exact e
  ·rcases List.mem_cons.1 ((h f).2 (List.mem_cons_of_mem _ hf)) with e|e
   ·subst e;exact absurd (ht'.1 f hf) lt_irrefl
   ·exact e
def x9 (s l:List aI):Prop:=gW s∧(∀f,f∈s↔f∈l)∧s.length≤l.length
theorem getD_mem_take {l:List aI} {i k:Nat} (hi:i<k) (hk:k≤l.length):l.getD i aC∈l.take k:=by
 rw[List.getD_eq_getElem?_getD,List.getElem?_eq_getElem (by omega)];exact List.mem_take_iff_getElem.2 ⟨i,by omega,rfl⟩
theorem yg {l:List aI} {k:Nat} {f:aI} (h:f∈l.take k):∃i,i<k∧i<l.length∧f=l.getD i aC:=by
 obtain⟨i,hi,rfl⟩:=List.mem_take_iff_getElem.1 h;exact⟨i,by omega,by omega,by rw[List.getD_eq_getElem?_getD,List.getElem?_eq_getElem (by omega)];rfl⟩
theorem take_succ {l:List aI} {k:Nat} (h:k<l.length):l.take (k+1)=l.take k++[l.getD k aC]:=by
 rw[List.take_succ_eq_append_getElem h,List.getD_eq_getElem?_getD,List.getElem?_eq_getElem h];rfl
theorem sZ {l:List aI} (h:l.Pairwise fun a b=>gM a b≤0) {i j:Nat} (hij:i≤j) (hj:j<l.length):gM (l.getD i aC) (l.getD j aC)≤0:=by
 by_cases e:i=j
 ·subst e;rw[aU.refl];exact Int.le_refl _
 ·have:=List.pairwise_iff_getElem.1 h i j (by omega) hj (by omega);rw[List.getD_eq_getElem?_getD,List.getD_eq_getElem?_getD,List.getElem?_eq_getElem (by omega),List.getElem?_eq_getElem hj];exact this
def newP (l:List aI) (k:Nat):Bool:=decide (k=0)|| !decide (gM (l.getD (k-1) aC) (l.getD k aC)=0)
theorem Di {l:List aI} (h:l.Pairwise fun a b=>gM a b≤0):∀k,k≤l.length→x9 (pick (newP l) l k) (l.take k)
 |0,_=>⟨List.Pairwise.nil,fun f=>by simp[pick],by simp[pick]⟩
 |k+1,hk=>by
  obtain⟨i1,i2,_⟩:=Di h k (by omega);have hlen:(pick (newP l) l (k+1)).length≤(l.take (k+1)).length:=by
   have:=Ce (newP l) l (k+1);rw[List.length_take];omega
  rw[take_succ (by omega)] at hlen;rw[take_succ (by omega)];cases hp:newP l k with
  |true=>
   have e:pick (newP l) l (k+1)=pick (newP l) l k++[l.getD k aC]:=by simp[pick,hp]
   rw[e];refine⟨?_,fun f=>by rw[List.mem_append,List.mem_append,i2 f],by rw[←e];exact hlen⟩;unfold gW;rw[List.pairwise_append];refine⟨i1,List.pairwise_singleton _ _,fun a ha b hb=> ?_⟩;rw[List.mem_singleton] at hb;subst hb;obtain⟨i,hi,hil,rfl⟩:=yg ((i2 a).1 ha);refine QV (sZ h (i:=i) (j:=k-1) (by omega) (by omega)) ?_;have h1:=sZ h (i:=k-1) (j:=k) (by omega) (by omega);have h2:gM (l.getD (k-1) aC) (l.getD k aC)≠0:=by
    intro e;unfold newP at hp;rw[decide_eq_true e,decide_eq_false (by omega)] at hp;cases hp
   omega
  |false=>
   have e:pick (newP l) l (k+1)=pick (newP l) l k:=by simp[pick,hp]
   rw[e];refine⟨i1,fun f=> ?_,by rw[←e];exact hlen⟩;rw[i2 f,List.mem_append,List.mem_singleton];refine⟨Or.inl,fun hf=>hf.elim id fun hf=> ?_⟩;unfold newP at hp;rw[Bool.or_eq_false_iff,decide_eq_false_iff_not,Bool.not_eq_false',decide_eq_true_eq] at hp;have:=aU.zero _ _ hp.2;rw[hf,←this];exact getD_mem_take (by omega) (by omega)
theorem tq (q:aI→Bool) (l:List aI):∀k,k≤l.length→pick (fun i=>q (l.getD i aC)) l k=(l.take k).filter q
 |0,_=>by simp[pick]
 |k+1,hk=>by
  have e:pick (fun i=>q (l.getD i aC)) l (k+1)=if q (l.getD k aC) then pick (fun i=>q (l.getD i aC)) l k++[l.getD k aC] else pick (fun i=>q (l.getD i aC)) l k:=rfl;rw[e,take_succ (by omega),List.filter_append,←tq q l k (by omega)];generalize l.getD k aC=x;cases hq:q x <;> simp[hq]
theorem x9.same {s t l m:List aI} (h:x9 s l) (k:x9 t m) (e:∀f,f∈l↔f∈m):s=t:=
 h.1.ext k.1 fun f=>(h.2.1 f).trans ((e f).trans (k.2.1 f).symm)
end Go.Proofs.YtafmbokfkbccaaaGreatDoor
namespace Go.Proofs.YtafmbokfkbccaaaGreatDoor
open Go.RowKit Go.Sort
theorem mixed:Tryz.prog.follows .mixedOrders=true:=by kernel_rfl
theorem Facts.grown {w:World} {b off n cap:Nat} {l:List aI} (h:Facts w (.slice (some ⟨b,off,none⟩) n cap) l) {k:Nat} (hk:k<l.length):
  ∃a len c,(∀q os,(grow (w.drewN q) os).cell? ⟨b,off+k*2,none⟩=some (.string (l.getD k aC).1))∧(∀q os,(grow (w.drewN q) os).cell? ⟨b,off+k*2+1,none⟩=some (.slice a len c))∧dF w (.agg #[.string (l.getD k aC).1,.slice a len c]) (l.getD k aC):=by
 obtain⟨hb,a,len,c,g1,g2,hf⟩:=h.at hk;exact⟨a,len,c,fun q os=>by rw[Later.cell ⟨q,os,rfl⟩ (p:=⟨b,off+k*2,none⟩) hb];exact g1,fun q os=>by rw[Later.cell ⟨q,os,rfl⟩ (p:=⟨b,off+k*2+1,none⟩) hb];exact g2,hf⟩
theorem mX {l:List aI} {f:aI}:gq l f 0=true↔f∈l:=by
 unfold gq;rw[List.drop_zero,List.any_eq_true];exact⟨fun⟨x,h1,h2⟩=>by rw[zm.1 h2] at h1;exact h1,fun h=>⟨f,h,zm.2 rfl⟩⟩
theorem meet {l:List aI} {g:aI} (hr:gW l) {m:Nat} (hm:m≤l.length) (ha:∀t,t<m→gM (l.getD t aC) g<0) (hb:∀t,m≤t→t<l.length→0≤gM (l.getD t aC) g):
  gq l g 0=(decide (m<l.length)&&decide (gM (l.getD m aC) g=0)):=by
 rw[Bool.eq_iff_iff,mX,Bool.and_eq_true,decide_eq_true_eq,decide_eq_true_eq]
 constructor
 ·intro h;obtain⟨t,ht,rfl⟩:=List.getElem_of_mem h;have e:l.getD t aC=l[t]:=by rw[List.getD_eq_getElem?_getD,List.getElem?_eq_getElem ht];rfl
  have h1:m≤t:=Nat.not_lt.1 fun n=>by have:=ha t n;rw[e,aU.refl] at this;omega
  have h2:m=t:=by
   refine Classical.byContradiction fun n=> ?_;have h3:=List.pairwise_iff_getElem.1 hr m t (by omega) ht (by omega);have h4:=hb m (Nat.le_refl _) (by omega);rw[List.getD_eq_getElem?_getD,List.getElem?_eq_getElem (by omega)] at h4;have h5:(0:Int)≤gM l[m] l[t]:=h4;omega
  subst h2;exact⟨ht,by rw[e,aU.refl]⟩
 ·rintro⟨h1,h2⟩;rw[←aU.zero _ _ h2,List.getD_eq_getElem?_getD,List.getElem?_eq_getElem h1];exact List.getElem_mem h1
theorem yh {x:Value} {a b:Bool} (h:a=b):Ending.returned (.tuple #[x,.bool a])=.returned (.tuple #[x,.bool b]):=by rw[h]
theorem cell_later {w w':World} (hL:Later w w') {p:Addr} {v:Value} (hb:p.block<w.heap.size) (h:w.cell? p=some v):∀q os,(grow (w'.drewN q) os).cell? p=some v:=fun q os=>by
 rw[(hL.trans ⟨q,os,rfl⟩).cell hb];exact h
set_option maxHeartbeats 1000000 in
theorem search (v t:Value) (l:List aI) (g:aI) (w:World) (hf:Facts w v l) (ht:dF w t g) (hr:gW l):
  Calls Tryz.prog 127 #[v,t,.func (.func 128) #[] #[]] w fun e w'=>∃n:Int,e=.returned (.tuple #[.int .i64 n,.bool (gq l g 0)])∧Later w w':=by
 have mx:=mixed;have HF:=hide hf;have HT:=hide ht;have HR:=hide hr;obtain⟨a,cap,rfl,hn,hz⟩:=hf.addr;obtain⟨s2,rfl,l2,a2,c2,rfl,_⟩:=ht;clear hf hr
 go_enter Tryz.func127,Tryz.ntmps127
 go_wp2
 go_loopw [9,10] (fun i j wr=>∃lo hi:Nat,lo≤hi∧hi≤l.length∧i=.int .i64 lo∧j=.int .i64 hi∧Later (w.alloc (.cells #[.string g.1,.slice a2 g.2.length c2] 27)) wr∧Hid (∀t,t<lo→gM (l.getD t aC) g<0)∧Hid (∀t,hi≤t→t<l.length→0≤gM (l.getD t aC) g)) (fun i j _=>(intOf j).toNat- (intOf i).toNat)
 case atStart=>exact⟨0,l.length,by omega,by omega,rfl,rfl,Later.refl _,fun t ht=>absurd ht (Nat.not_lt_zero _),fun t h1 h2=>by omega⟩
 case round=>
  obtain⟨lo,hi,hlh,hin,rfl,rfl,hL,HA,HB⟩:=hrel;have hL0:Later w wr:=((Later.refl _).alloc _).trans hL;have z0:=cell_later hL (p:=⟨w.heap.size,0,none⟩) (v:=.string g.1) (by simp) (by simp);have z1:=cell_later hL (p:=⟨w.heap.size,1,none⟩) (v:=.slice a2 g.2.length c2) (by simp) (by simp)
  by_cases hlt:lo<hi
  ·rcases hz with rfl|⟨b,off,rfl⟩
   ·simp at hin;omega
   obtain⟨m,hm⟩:∃m,m=(lo+hi)/2:=⟨_,rfl⟩;have hml:m<l.length:=by omega
   have hlm:lo≤m:=by omega
   have hmh:m<hi:=by omega
   have em:((lo:Int)+(hi:Int))/2=(m:Int):=by omega
   clear hm;have hltz:(lo:Int)<(hi:Int):=by omega
   have hmz:(m:Int)<(l.length:Int):=by omega
   obtain⟨ax,lx,cx,g1,g2,fx⟩:=(HF.out.later hL0).grown hml;have hC:∀q os,Calls Tryz.prog 128 #[.agg #[.string (l.getD m aC).1,.slice ax lx cx],.agg #[.string g.1,.slice a2 g.2.length c2]] (grow (wr.drewN q) os) fun e w''=>e=.returned (.int .i64 (gM (l.getD m aC) g))∧Later (grow (wr.drewN q) os) w'':=
    fun q os=>kV _ _ _ _ _ (fx.later ⟨q,os,rfl⟩) ((HT.out.later hL0).later ⟨q,os,rfl⟩)
   have HC:=hide hC;clear hC fx;have hlow:=HR.out;have zT:gM (l.getD m aC) g<0→∀t,t<m+1→gM (l.getD t aC) g<0:=fun h t ht=>by
    by_cases e:t=m
    ·rw[e];exact h
    ·have h3:=List.pairwise_iff_getElem.1 hlow t m (by omega) hml (by omega);refine aU.trans _ (l.getD m aC) _ ?_ h;rw[List.getD_eq_getElem?_getD,List.getElem?_eq_getElem (by omega),List.getD_eq_getElem?_getD,List.getElem?_eq_getElem hml];exact h3
   have hstep2:0≤gM (l.getD m aC) g→∀t,m≤t→t<l.length→0≤gM (l.getD t aC) g:=fun h t h1 h2=>by
    by_cases e:t=m
    ·rw[e];exact h
    ·have h3:=List.pairwise_iff_getElem.1 hlow m t (by omega) h2 (by omega);refine Int.not_lt.1 fun n=> ?_;have h4:=aU.trans (l.getD m aC) (l.getD t aC) g (by
      rw[List.getD_eq_getElem?_getD,List.getElem?_eq_getElem (by omega),List.getD_eq_getElem?_getD,List.getElem?_eq_getElem h2];exact h3) n
     omega
   have H1:=hide zT;have H2:=hide hstep2;clear zT hstep2 hlow;generalize hcm:gM (l.getD m aC) g=cm at*;have HCM:=hide hcm;clear hcm;generalize(l.getD m aC).1=nm at*
   by_cases hneg:cm<0
   ·go_wp2
    go_quiet_grown ((go_at_call 128;exact Calls.grown_of (HC.out _ _)))
    go_wp2
    go_roundw
    case rel=>exact⟨m+1,hi,by omega,hin,by go_num,rfl,hL.trans ⟨_,_,rfl⟩,H1.out hneg,HB⟩
    case measure=>simp[intOf];omega
   ·go_wp2
    go_quiet_grown ((go_at_call 128;exact Calls.grown_of (HC.out _ _)))
    go_wp2
    go_roundw
    case rel=>exact⟨lo,m,by omega,by omega,rfl,rfl,hL.trans ⟨_,_,rfl⟩,HA,H2.out (by omega)⟩
    case measure=>simp[intOf];omega
  ·obtain rfl:lo=hi:=by omega
   have hfin:=meet HR.out hin HA.out HB.out
   by_cases hll:lo<l.length
   ·rcases hz with rfl|⟨b,off,rfl⟩
    ·simp at hll
    have hmz:(lo:Int)<(l.length:Int):=by omega
    obtain⟨ax,lx,cx,g1,g2,fx⟩:=(HF.out.later hL0).grown hll;have hC:∀q os,Calls Tryz.prog 128 #[.agg #[.string (l.getD lo aC).1,.slice ax lx cx],.agg #[.string g.1,.slice a2 g.2.length c2]] (grow (wr.drewN q) os) fun e w''=>e=.returned (.int .i64 (gM (l.getD lo aC) g))∧Later (grow (wr.drewN q) os) w'':=
     fun q os=>kV _ _ _ _ _ (fx.later ⟨q,os,rfl⟩) ((HT.out.later hL0).later ⟨q,os,rfl⟩)
    have HC:=hide hC;rw[decide_eq_true hll] at hfin;have HFN:=hide hfin;clear hC fx hfin;generalize hcm:gM (l.getD lo aC) g=cm at*;generalize(l.getD lo aC).1=nm at*;have HCM:=hide hcm;clear hcm;go_wp2
    go_quiet_grown ((go_at_call 128;exact Calls.grown_of (HC.out _ _)))
    go_wp2
    go_ret2
    exact⟨(lo:Int),yh (by rw[HFN.out,Bool.true_and,Bool.eq_iff_iff];simp),hL0.trans ⟨_,_,rfl⟩⟩
   ·rw[decide_eq_false hll] at hfin;have HFN:=hide hfin;clear hfin;have hd:decide ((lo:Int)<(l.length:Int))=false:=by rw[decide_eq_false_iff_not];omega
    go_wp2
    go_quiet (fail)
    go_wp2
    go_ret2
    exact⟨(lo:Int),yh (by rw[HFN.out];rfl),hL0.drewN _⟩
end Go.Proofs.YtafmbokfkbccaaaGreatDoor
namespace Go.Proofs.YtafmbokfkbccaaaGreatDoor
open Go.RowKit Go.Sort
theorem Dj (l:List aI):∀k,k≤l.length→pick (fun _=>true) l k=l.take k
 |0,_=>by simp[pick]
 |k+1,h=>by
  simp only[pick,if_true];rw[Dj l k (by omega),List.take_succ_eq_append_getElem (by omega),List.getD_eq_getElem?_getD,List.getElem?_eq_getElem (by omega)];rfl
set_option maxHeartbeats 400000 in
theorem Vl (v:Value) (f:aI) (w:World) (h:dF w v f):Calls Tryz.prog 123 #[v] w fun e w'=>e=.returned (.bool true)∧Later w w':=by
 obtain⟨s,rfl,h0,a,cap,rfl,hc⟩:=h;clear hc
 go_enter Tryz.func123,Tryz.ntmps123
 go_wp2;go_ret;exact⟨rfl,(by repeat (first|exact Later.refl _|assumption|refine Later.drewN ?_ _|refine Later.drew ?_|refine Later.alloc ?_ _|refine Later.grow ?_ _))⟩
theorem Cg:∀args w,(callFunc 123 args).run Tryz.prog w=.ok (.enter 123 args) w:=enters_of Tryz.func123 (by kernel_rfl) rfl
theorem El:∀args w,(callFunc 238 args).run Tryz.prog w=.ok (.enter 238 args) w:=enters_of Tryz.func238 (by kernel_rfl) rfl
theorem zU:∀args w,(callFunc 94 args).run Tryz.prog w=.ok (.enter 94 args) w:=enters_of Tryz.func94 (by kernel_rfl) rfl
set_option maxHeartbeats 400000 in
theorem ND (v:Value) (l:List aI) (w:World) (h:Facts w v l):Calls Tryz.prog 67 #[v] w fun e w'=>∃v',e=.returned v'∧bY w' w.heap.size v' l∧Later w w':=by
 have hk:=keep 123 #[] Cg w.heap.size w.heap.size w w v l (fun _=>true) (fun _ _=>True) h (Later.refl _) (Nat.le_refl _) (Nat.le_refl _)
  ⟨fun k w' v' _ hL _ _ hf=>(Vl v' _ w' (hf.later hL)).mono fun e w'' ⟨he,hw⟩=>⟨he,hw.only,trivial⟩,fun _ _ _ _ _ _=>trivial⟩ trivial
 rw[Dj l l.length (Nat.le_refl _),List.take_length] at hk;obtain⟨a,cap,rfl⟩:=aB h;have HK:=hide hk;clear hk h
 go_enter Tryz.func67,Tryz.ntmps67
 go_wp2_with (go_at_call 93;refine HK.out.mono ?_;rintro e w' ⟨v',rfl,ho,hO,_⟩)
 go_ret;exact⟨v',rfl,ho,hO.later (Later.refl _) (Nat.le_refl _)⟩
def wu (w:World) (lo:Nat) (n:ByteArray) (s:Value) (b:Bool):Prop:=
 w.heap[lo]?=some (.cells #[.string n,s] 27 (0,0))∧w.heap[lo+1]?=some (.cells #[.bool b] 4 (0,0))
set_option maxHeartbeats 400000 in
theorem Em (w:World):Calls Tryz.prog 174 #[] w fun e w'=>
  e=.returned (.func (.func 238) #[] #[.pointer (some ⟨w.heap.size+1,0,none⟩),.pointer (some ⟨w.heap.size,0,none⟩)])∧Later w w'∧w'.heap.size=w.heap.size+2∧wu w' w.heap.size ByteArray.empty (.slice none 0 0) false:=by
 go_enter Tryz.func174,Tryz.ntmps174
 go_wp2;go_ret;refine⟨rfl,(by repeat (first|exact Later.refl _|assumption|refine Later.drewN ?_ _|refine Later.drew ?_|refine Later.alloc ?_ _|refine Later.grow ?_ _)),by simp,?_,?_⟩
 ·rw[Below.heap_alloc _ _ _ (by simp),heap_alloc_new];rfl
 ·have:=heap_alloc_new (w.alloc (.cells #[.string {data:=#[]},.slice none 0 0] 27)) (.cells #[.bool false] 4);simpa using this
theorem gI {w:World} {g j:Nat} {cs:Array Value} {t:TypeId} {fr:Nat×Nat} (h:w.heap[g]?=some (.cells cs t fr)) (u:Value):(w.setCell ⟨g,j,none⟩ u).heap[g]?=some (.cells (cs.setIfInBounds j u) t fr):=by
 simp[World.setCell,Array.getElem?_modify,h]
theorem frozen_of_row {w:World} {g:Nat} (j:Nat) {cs:Array Value} {t:TypeId} (h:w.heap[g]?=some (.cells cs t (0,0))):w.frozen? ⟨g,j,none⟩=false:=by
 simp[World.frozen?,h]
theorem tu {w w2:World} {lo:Nat} {n n':ByteArray} {s s':Value} {b:Bool} (hl:wu w lo n s b) (hL:Later w w2):
  Only lo (lo+2) w (((w2.setCell ⟨lo,0,none⟩ (.string n')).setCell ⟨lo,1,none⟩ s').setCell ⟨lo+1,0,none⟩ (.bool true))∧wu (((w2.setCell ⟨lo,0,none⟩ (.string n')).setCell ⟨lo,1,none⟩ s').setCell ⟨lo+1,0,none⟩ (.bool true)) lo n' s' true:=by
 have hb1:lo<w.heap.size:=(Array.getElem?_eq_some_iff.1 hl.1).1;have hb2:lo+1<w.heap.size:=(Array.getElem?_eq_some_iff.1 hl.2).1;have h1:w2.heap[lo]?=some (.cells #[.string n,s] 27 (0,0)):=by rw[hL.block hb1];exact hl.1
 have h2:w2.heap[lo+1]?=some (.cells #[.bool b] 4 (0,0)):=by rw[hL.block hb2];exact hl.2
 refine⟨⟨hL.below.os,hL.below.tape,hL.below.output,hL.drawn,by simpa[World.setCell] using hL.size,fun k hk ho=> ?_⟩,?_,?_⟩
 ·rw[Below.heap_setCell _ _ _ _ (by show k≠lo+1;omega),Below.heap_setCell _ _ _ _ (by show k≠lo;omega),Below.heap_setCell _ _ _ _ (by show k≠lo;omega)];exact hL.block hk
 ·rw[Below.heap_setCell _ _ _ _ (by show lo≠lo+1;omega)];rw[gI (gI h1 _)]
  rfl
 ·rw[gI (by rw[Below.heap_setCell _ _ _ _ (by show lo+1≠lo;omega),Below.heap_setCell _ _ _ _ (by show lo+1≠lo;omega)];exact h2)]
  rfl
set_option maxHeartbeats 1000000 in
theorem tC (lo:Nat) (w:World) (n:ByteArray) (s:Value) (v:Value) (f g:aI) (hl:wu w lo n s true) (hg:dF w (.agg #[.string n,s]) g) (hf:dF w v f):
  Calls Tryz.prog 238 #[v,.pointer (some ⟨lo+1,0,none⟩),.pointer (some ⟨lo,0,none⟩)] w fun e w'=>e=.returned (.bool (!decide (gM g f=0)))∧
   ∃w2,Later w w2∧∃s',v=.agg #[.string f.1,s']∧w'=((w2.setCell ⟨lo,0,none⟩ (.string f.1)).setCell ⟨lo,1,none⟩ s').setCell ⟨lo+1,0,none⟩ (.bool true):=by
 have hC:=fun w' (hw:Later w w')=>kV _ _ g f w' (hg.later hw) (hf.later hw);have HC:=hide hC;obtain⟨s1,rfl,h0,a,cap,rfl,hc⟩:=hf;obtain⟨s2,e2,l0,a2,cap2,rfl,hc2⟩:=hg;simp at e2;obtain⟨rfl,rfl⟩:=e2;clear hc hc2 hC;have hb1:lo<w.heap.size:=(Array.getElem?_eq_some_iff.1 hl.1).1;have hb2:lo+1<w.heap.size:=(Array.getElem?_eq_some_iff.1 hl.2).1;have c0:w.cell? ⟨lo,0,none⟩=some (.string g.1):=by rw[cell_of_row _ _ _ _ _ _ hl.1];rfl
 have c1:w.cell? ⟨lo,1,none⟩=some (.slice a2 g.2.length cap2):=by rw[cell_of_row _ _ _ _ _ _ hl.1];rfl
 have c2:w.cell? ⟨lo+1,0,none⟩=some (.bool true):=by rw[cell_of_row _ _ _ _ _ _ hl.2];rfl
 obtain⟨fn,fl⟩:=f;obtain⟨gn,gl⟩:=g;dsimp only at*
 go_enter Tryz.func238,Tryz.ntmps238
 go_wp2_with fail
 refine(HC.out _ ((Later.refl _).alloc _)).mono ?_;rintro e w2 ⟨rfl,hL⟩;have hL0:Later w w2:=((Later.refl _).alloc _).trans hL;have z0:w2.cell? ⟨w.heap.size,0,none⟩=some (.string fn):=by rw[hL.cell (by simp)];simp
 have z1:w2.cell? ⟨w.heap.size,1,none⟩=some (.slice a fl.length cap):=by rw[hL.cell (by simp)];simp
 have z2:w2.cell? ⟨lo,0,none⟩=some (.string gn):=by rw[hL0.cell hb1];exact c0
 have z3:w2.cell? ⟨lo,1,none⟩=some (.slice a2 gl.length cap2):=by rw[hL0.cell hb1];exact c1
 have z4:w2.cell? ⟨lo+1,0,none⟩=some (.bool true):=by rw[hL0.cell hb2];exact c2
 have y0:w2.frozen? ⟨lo,0,none⟩=false:=by rw[hL0.frozen hb1];exact frozen_of_row 0 hl.1
 have y1:w2.frozen? ⟨lo,1,none⟩=false:=by rw[hL0.frozen hb1];exact frozen_of_row 1 hl.1
 have y2:w2.frozen? ⟨lo+1,0,none⟩=false:=by rw[hL0.frozen hb2];exact frozen_of_row 0 hl.2
 go_wp2;go_ret;refine⟨cK ?_,w2,hL0,_,rfl,rfl⟩;rw[Bool.eq_iff_iff];simp
set_option maxHeartbeats 1000000 in
theorem vo (lo:Nat) (w:World) (n:ByteArray) (a2:Option Addr) (m2 cap2:Nat) (v:Value) (f:aI) (hl:wu w lo n (.slice a2 m2 cap2) false) (hf:dF w v f):
  Calls Tryz.prog 238 #[v,.pointer (some ⟨lo+1,0,none⟩),.pointer (some ⟨lo,0,none⟩)] w fun e w'=>e=.returned (.bool true)∧
   ∃w2,Later w w2∧∃s',v=.agg #[.string f.1,s']∧w'=((w2.setCell ⟨lo,0,none⟩ (.string f.1)).setCell ⟨lo,1,none⟩ s').setCell ⟨lo+1,0,none⟩ (.bool true):=by
 obtain⟨s1,rfl,h0,a,cap,rfl,hc⟩:=hf;clear hc;have hb1:lo<w.heap.size:=(Array.getElem?_eq_some_iff.1 hl.1).1;have hb2:lo+1<w.heap.size:=(Array.getElem?_eq_some_iff.1 hl.2).1;have z2:w.cell? ⟨lo,0,none⟩=some (.string n):=by rw[cell_of_row _ _ _ _ _ _ hl.1];rfl
 have z3:w.cell? ⟨lo,1,none⟩=some (.slice a2 m2 cap2):=by rw[cell_of_row _ _ _ _ _ _ hl.1];rfl
 have z4:w.cell? ⟨lo+1,0,none⟩=some (.bool false):=by rw[cell_of_row _ _ _ _ _ _ hl.2];rfl
 have y0:w.frozen? ⟨lo,0,none⟩=false:=frozen_of_row 0 hl.1;have y1:w.frozen? ⟨lo,1,none⟩=false:=frozen_of_row 1 hl.1;have y2:w.frozen? ⟨lo+1,0,none⟩=false:=frozen_of_row 0 hl.2;obtain⟨fn,fl⟩:=f;dsimp only at*
 go_enter Tryz.func238,Tryz.ntmps238
 go_wp2;go_ret;refine⟨rfl,w.alloc (.cells #[.string fn,.slice a fl.length cap] 27),(Later.refl _).alloc _,_,rfl,?_⟩;rw[World.setCell_alloc_past _ _ _ _ (by exact hb1),World.setCell_alloc_past _ _ _ _ (by simpa using hb1),World.setCell_alloc_past _ _ _ _ (by simpa using hb2)]
def Oc (w0:World) (lo:Nat) (l:List aI) (k:Nat) (w:World):Prop:=
 ∃n a m c,wu w lo n (.slice a m c) (decide (0<k))∧(0<k→dF w0 (.agg #[.string n,.slice a m c]) (l.getD (k-1) aC))
theorem JC (w0:World) (l:List aI):
  Ob 238 #[.pointer (some ⟨w0.heap.size+1,0,none⟩),.pointer (some ⟨w0.heap.size,0,none⟩)] w0.heap.size (w0.heap.size+2) w0 l (newP l) (Oc w0 w0.heap.size l) where
 ask k w' v hk hL _ hS hf:=by
  obtain⟨n,a,m,c,hl,hlast⟩:=hS
  by_cases h0:0<k
  ·rw[decide_eq_true h0] at hl;have e:newP l k= !decide (gM (l.getD (k-1) aC) (l.getD k aC)=0):=by simp[newP];omega
   rw[e];refine(tC w0.heap.size w' n _ v (l.getD k aC) (l.getD (k-1) aC) hl ((hlast h0).later hL) (hf.later hL)).mono ?_;rintro e w'' ⟨rfl,w2,hL2,s',rfl,rfl⟩;have hst:=tu (n':=(l.getD k aC).1) (s':=s') hl hL2;obtain⟨s1,e1,hs1⟩:=hf;simp at e1;subst e1;obtain⟨a1,c1,rfl⟩:=aW hs1;exact⟨rfl,hst.1,_,a1,_,c1,by rw[decide_eq_true (Nat.succ_pos k)];exact hst.2,fun _=>⟨_,rfl,hs1⟩⟩
  ·have hk0:k=0:=by omega
   subst hk0;refine(vo w0.heap.size w' n a m c v (l.getD 0 aC) hl (hf.later hL)).mono ?_;rintro e w'' ⟨rfl,w2,hL2,s',rfl,rfl⟩;have hst:=tu (n':=(l.getD 0 aC).1) (s':=s') hl hL2;obtain⟨s1,e1,hs1⟩:=hf;simp at e1;subst e1;obtain⟨a1,c1,rfl⟩:=aW hs1;exact⟨rfl,hst.1,_,a1,_,c1,hst.2,fun _=>⟨_,rfl,hs1⟩⟩
 kept k w' w'' hS hb _:=by
  obtain⟨n,a,m,c,hl,hlast⟩:=hS;exact⟨n,a,m,c,⟨by rw[hb _ (by omega)];exact hl.1,by rw[hb _ (by omega)];exact hl.2⟩,hlast⟩
end Go.Proofs.YtafmbokfkbccaaaGreatDoor
