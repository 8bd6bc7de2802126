import Derived.Test.YtafmbokfkbccaaaGreatDoorJT30
import Derived.Test.YtafmbokfkbccaaaGreatDoorJT38
import Derived.Test.YtafmbokfkbccaaaGreatDoorJT39
import Derived.Test.YtafmbokfkbccaaaGreatDoorJT31
namespace Go.Proofs.YtafmbokfkbccaaaGreatDoor
open Go.RowKit Go.Sort Go.Maps
theorem oH:∀(ts:List dN) (xs:List ByteArray) (l m:List aB),dK l ts xs=some m→∀x∈m,x∈l∨x.2∈xs
 |[],xs,l,m,h,x,hx=>by
  simp only[dK,Option.some.injEq] at h;subst h;exact Or.inl hx
 |_::_,[],l,m,h,x,hx=>by simp[dK] at h
 |t::ts,y::xs,l,m,h,x,hx=>by
  unfold dK at h;split at h
  ·rcases oH ts xs _ m h x hx with h1|h1
   ·rcases List.mem_append.1 h1 with h2|h2
    ·exact Or.inl h2
    ·simp at h2;subst h2;exact Or.inr (by simp)
   ·exact Or.inr (by simp[h1])
  ·split at h
   ·rcases oH ts xs _ m h x hx with h1|h1
    ·exact Or.inl h1
    ·exact Or.inr (by simp[h1])
   ·cases h
theorem Gi {a:aI} {f:au} {b:List aB} (hf:nG f) (h:dw a f []=some b):∀v s,dG b v=some s→isNamed (raw s)=true:=fun v s hg=>by
 unfold dw at h;split at h
 ·rcases oH _ _ _ _ h _ (mW hg) with h1|h1
  ·cases h1
  ·exact hf.2.2 s h1
 ·cases h
theorem Gj {body:List aI} (h:aM body=0):∀a∈body,CX a:=fun a ha=>by
 obtain⟨_,hat⟩:=fP h;obtain⟨h1,_,h3⟩:=gU (hat a ha);refine⟨?_,fun t ht=> ?_⟩
 ·unfold isNamed at h1;simp only[Bool.and_eq_true,decide_eq_true_eq] at h1;have:=h1.1.1;omega
 ·have:=jg (h3 t ht);show t.2.length≤_;omega
structure LOk (body:List aI) (all:List au) (l:List aB):Prop where
 nodup:(bK l).Nodup
 short:∀x∈l,(raw x.1).length≤maxLen∧x.2.size≤maxLen
 fill:∀a∈body,∃g,bA a l=some g∧inB all g= !a.no
theorem Mg {p:List aD} {body:List aI} {all:List au} (hg:GoodS p all) (hb:aM body=0) {er:Int} {l:List aB} (h:l∈j6 body all er):LOk body all l:=by
 unfold j6 at h;split at h
 ·cases h
 ·cases hR:lM (fun _=>all) body with
  |none=>rw[hR] at h;cases h
  |some R=>
   rw[hR] at h;have hfit:=(qG (kL hb) hR l).1 h;have NH:=hfit;obtain⟨f1,f2,f3,f4⟩:=hfit;refine⟨f2,fun x hx=>⟨?_,?_⟩,fun a ha=>iN.1 f4 a ha⟩
   ·have hk:x.1∈bK l:=List.mem_map.2 ⟨x,hx,rfl⟩;obtain⟨k,hk2,e⟩:=List.mem_map.1 ((f3 x.1).1 hk);rw[←e,jC];rcases(gQ body).1 hk2 with h0|⟨a,ha,_,t,ht,_,rfl⟩
    ·cases h0
    ·obtain⟨_,hat⟩:=fP hb;have:=jg ((gU (hat a ha)).2.2 t ht);unfold maxLen;omega
   ·have hg2:dG l x.1=some x.2:=kY f2 hx;have:=jf (tV hg.right NH hg2);unfold maxLen;omega
theorem Mh {p:List aD} {all:List au} (hg:GoodS p all):∀k,okF (all.getD k aA):=fun k=>by
 rw[List.getD_eq_getElem?_getD];cases e:all[k]? with
 |none=>exact⟨by simp[aA],fun s hs=>by simp[aA] at hs⟩
 |some f=>
  obtain⟨h1,_,h3⟩:=hg.right f (List.mem_of_getElem? e);refine⟨?_,fun s hs=> ?_⟩
  ·have:=jf h1;show f.1.size≤_;omega
  ·have:=jf (h3 s hs);omega
theorem JW {l:List aB} (hn:(bK l).Nodup) {t:Nat} {x:aB} (h:l[t]?=some x):dG (l.take t) x.1=none:=by
 refine iD.2 fun hc=> ?_;have e:bK l=bK (l.take t)++x.1::bK (l.drop (t+1)):=by
  obtain⟨hi,e⟩:=List.getElem?_eq_some_iff.1 h
  conv=>lhs;rw[←List.take_append_drop t l,List.drop_eq_getElem_cons hi,e]
  unfold bK;rw[List.map_append]
  rfl
 rw[e,List.nodup_append] at hn;exact hn.2.2 _ hc _ (by simp) rfl
theorem EC {w:World} {v:Value} {er:Int} {body:List aI} {all:List au} (h:nZ w v er body all (-1) []) (he:er≠0):j6 body all (jD all body)=[]∧∃a n c,v=.slice a n c:=by
 unfold nZ at h;unfold j6 jD;split at h
 ·rename_i h0;rw[if_pos h0];exact⟨rfl,_,_,_,h.1⟩
 ·rename_i h0;rw[if_neg h0];rw[pX] at h;cases e:lM (fun _=>all) body with
  |none=>
   rw[e] at h;exact⟨rfl,_,_,_,h.1⟩
  |some R=>
   rw[e] at h;exact absurd h.1 he
theorem RD {all old:List au} {r:aD} {f:au} {b:List aB} (h:dw r.head f []=some b):byP (jD all) all old r f=((j6 (dU b r.body) all (jD all (dU b r.body))).map (cO (dU b r.body))).find? fun of=>of.all (inB old):=by
 unfold byP;rw[h]
theorem yw {how:au→Int×List au} {N:Nat} {f:au} {dep c d c1 d1:Nat} {rl:Int} {of:List au} (h1:c1=c+1) (h2:d1=max d dep) (hm:iA (c1,d1)=false) (hh:how f=(rl,of)):
  bJ how (N+1) f dep (c,d)=((lI (fun g s=>bJ how N g (dep+1) s) of [] (c1,d1)).1.map (bH.mk f rl),(lI (fun g s=>bJ how N g (dep+1) s) of [] (c1,d1)).2):=by
 conv=>lhs;unfold bJ
 dsimp only;rw[←h1,←h2,if_neg (by rw[hm];simp),hh];unfold lI;dsimp only;cases(kQ (fun g s=>bJ how N g (dep+1) s) of (c1,d1)).1 <;> rfl
theorem Gl {b:List aB} {x:Bs} {s:ByteArray} (h:dG b (bs x)=some s):dn b (true,x)=(false,raw s):=by
 unfold dn;simp[h]
theorem Da {b:List aB} {x:Bs} (h:dG b (bs x)=none) (v:Bool):dn b (v,x)=(v,x):=by
 unfold dn;cases v <;> simp[h]
theorem Db {b:List aB} {x:Bs}:dn b (false,x)=(false,x):=by
 unfold dn;simp
theorem Gm {body:List aI} (h:aM body=0):∀a∈body,∀t∈a.terms,t.2.length≤maxLen:=fun a ha t ht=>by
 have:=jg ((gU ((fP h).2 a ha)).2.2 t ht);unfold maxLen;omega
theorem Gn {body:List aI} {all:List au} {l:List aB} (h:LOk body all l):∀k∈cO body l,k∈all:=fun k hk=>by
 unfold cO at hk;obtain⟨a,ha,he⟩:=List.mem_filterMap.1 hk;obtain⟨g,hg,hi⟩:=h.fill a ha;cases hno:a.no with
 |true=>rw[hno] at he;cases he
 |false=>
  rw[hno,hg] at he;simp only[Bool.false_eq_true,if_false,Option.some.injEq] at he;subst he;rw[hno] at hi;exact dB.1 hi
def Kind.but {α:Type} (K:Kind α) (x:Nat):Kind α where
 size:=K.size
 is:=fun B w c a=>K.is (fun k=>B k∧k≠x) w c a
 len:=fun h=>K.len h
 one:=fun h=>K.one h
 kept:=fun h h1 h2=>K.kept h h1 fun k hk hB=>h2 k hk hB.1
 mono:=fun h h1=>K.mono h fun k hk hB=>⟨h1 k hk hB.1,hB.2⟩
theorem Dc {α:Type} {K:Kind α} {x:Nat} {ty:TypeId} {lo:Nat} {w w':World} {v:Value} {l:List α} (h:(K.but x).own ty lo w v l) (hs:w.heap.size≤w'.heap.size) (hk:∀k,k<w.heap.size→lo≤k→k≠x→w'.heap[k]?=w.heap[k]?) (hv:v.ownBlock≠some x):(K.but x).own ty lo w' v l:=by
 obtain⟨xs,ho,hx⟩:=h;have hlt:=ho.lt;refine⟨xs,⟨ho.1,?_⟩,fun i y hi=> ?_⟩
 ·rcases ho.2 with e|⟨g,cap,cur,rfl,hbg,hg,r⟩
  ·exact Or.inl e
  ·exact Or.inr ⟨g,cap,cur,rfl,hbg,by rw[hk g (Array.getElem?_eq_some_iff.1 hg).1 hbg (fun e=>hv (by rw[←e];rfl))];exact hg,r⟩
 ·obtain⟨c,c1,c2⟩:=hx i y hi;exact⟨c,K.kept c1 hs fun k hk' hB=>hk k hk' hB.1.1 hB.2,c2⟩
theorem RF {α:Type} {K:Kind α} {x:Nat} {B:Nat→Prop} {w:World} {v:Value} {l:List α} (h:(K.but x).sl B w v l):K.sl B w v l:=by
 obtain⟨h0,a,cap,e,h1⟩:=h;refine⟨h0,a,cap,e,fun hl=> ?_⟩;obtain⟨b,off,ea,hB,hb,hc⟩:=h1 hl;refine⟨b,off,ea,hB,hb,fun i y hi=> ?_⟩;obtain⟨c,c1,c2⟩:=hc i y hi;exact⟨c,K.mono c1 fun k _ h=>h.1,c2⟩
theorem Tn.Mi {p:Nat} {a b:World} (h:Below a.heap.size a b):Tn p a b:=Tn.of_below h
theorem Gr {w:World} {P:Nat} {a1 a2:Option Addr} {n1 n2 c1 c2:Nat} {x:Int} {t:TypeId} {fr:Nat×Nat} (h:w.heap[P]?=some (.cells #[.slice a1 n1 c1,.slice a2 n2 c2,.int .i64 x] t fr)):qh w P:=fun off s e=>by
 rw[cell_of_row _ _ _ _ _ _ h] at e
 match off,e with
 |0,e=>cases e
 |1,e=>cases e
 |2,e=>cases e
 |off+3,e=>simp at e
def putAt (w:World) (g o:Nat) (x0 x1 x2 x3:Value):World:=(((w.setCell ⟨g,o,none⟩ x0).setCell ⟨g,o+1,none⟩ x1).setCell ⟨g,o+2,none⟩ x2).setCell ⟨g,o+3,none⟩ x3
theorem zK (w:World) (g o:Nat) (x0 x1 x2 x3:Value):Tn g w (putAt w g o x0 x1 x2 x3):=
 ((((Tn.refl g w).setCell (Or.inl rfl) _).setCell (Or.inl rfl) _).setCell (Or.inl rfl) _).setCell (Or.inl rfl) _
theorem Mj {α:Type} {cur:List α} {ys:List α} {z0 z1 z2 z3 x0 x1 x2 x3:α} {o:Nat} (ho:ys.length=o) (h:cur.take (o+4)=ys++[z0,z1,z2,z3]):((((cur.set o x0).set (o+1) x1).set (o+2) x2).set (o+3) x3).take (o+4)=ys++[x0,x1,x2,x3]:=by
 have hc:cur=(ys++[z0,z1,z2,z3])++cur.drop (o+4):=by rw[←h,List.take_append_drop]
 rw[hc];subst ho;simp[List.take_append];exact List.take_of_length_le (by omega)
theorem ED {α:Type} {K:Kind α} (hK:K.size=4) {ty:TypeId} {lo:Nat} {w:World} {v:Value} {l:List α} {z:α} (h:K.own ty lo w v (l++[z])) {x0 x1 x2 x3:Value} {x:α} (hc:K.is (fun k=>lo≤k∧v.ownBlock≠some k) w [x0,x1,x2,x3] x):
  ∃g cap,v=.slice (some ⟨g,0,none⟩) (l.length+1) cap∧lo≤g∧g<w.heap.size∧(∀o,w.frozen? ⟨g,o,none⟩=false)∧(∃cur,w.heap[g]?=some (.cells cur ty (0,0))∧(l.length+1)*4≤cur.size)∧K.own ty lo (putAt w g (l.length*4) x0 x1 x2 x3) v (l++[x]):=by
 obtain⟨xs,⟨hl,ho⟩,hx⟩:=h;rcases ho with⟨_,e⟩|⟨g,cap,cur,rfl,hbg,hg,hnc,hcm,hcs,htk⟩
 ·simp at e
 have hT:=zK w g (l.length*4) x0 x1 x2 x3;rw[List.length_append,List.length_singleton] at hl htk hnc;rw[hK] at hl htk hcs;have hlen:(l.length+1)*4=l.length*4+4:=by omega
 have hrow:(putAt w g (l.length*4) x0 x1 x2 x3).heap[g]?=some (.cells ((((cur.setIfInBounds (l.length*4) x0).setIfInBounds (l.length*4+1) x1).setIfInBounds (l.length*4+2) x2).setIfInBounds (l.length*4+3) x3) ty (0,0)):=
  dF (j:=l.length*4+3) (dF (j:=l.length*4+2) (dF (j:=l.length*4+1) (dF (j:=l.length*4) hg x0) x1) x2) x3
 obtain⟨ys,z0,z1,z2,z3,hxe,hyl⟩:∃ys z0 z1 z2 z3,xs=ys++[z0,z1,z2,z3]∧ys.length=l.length*4:=by
  have h1:(xs.drop (l.length*4)).length=4:=by rw[List.length_drop];omega
  match hd:xs.drop (l.length*4),h1 with
  |[a,b,c,d],_=>exact⟨xs.take (l.length*4),a,b,c,d,by rw[←hd,List.take_append_drop],by rw[List.length_take];omega⟩
 have hcz:(l.length+1)*4≤cur.size:=by rw[hcs];exact Nat.mul_le_mul_right 4 hnc
 refine⟨g,cap,by rw[List.length_append,List.length_singleton],hbg,(Array.getElem?_eq_some_iff.1 hg).1,fun o=>by simp[World.frozen?,hg],⟨cur,hg,hcz⟩,ys++[x0,x1,x2,x3],⟨by rw[List.length_append,hyl,List.length_append,hK];simp;omega,Or.inr ⟨g,cap,_,by rw[List.length_append,List.length_append];rfl,hbg,hrow,by rw[List.length_append,List.length_singleton];exact hnc,hcm,by simp[hcs,hK],?_⟩⟩,fun i y hi=> ?_⟩
 ·rw[List.length_append,List.length_singleton,hK,hlen];simp only[Array.toList_setIfInBounds];rw[hlen] at htk;exact Mj hyl (by rw[htk,hxe])
 ·have keep:∀{c:List Value} {y:α},K.is (fun k=>lo≤k∧(Value.slice (some ⟨g,0,none⟩) (l++[z]).length cap).ownBlock≠some k) w c y→K.is (fun k=>lo≤k∧(Value.slice (some ⟨g,0,none⟩) (l++[z]).length cap).ownBlock≠some k) (putAt w g (l.length*4) x0 x1 x2 x3) c y:=fun hy=>
   K.kept hy hT.size fun k hk hB=>hT.block k hk fun e=>hB.2 (by rw[e];rfl)
  by_cases hjl:i<l.length
  ·rw[List.getElem?_append_left hjl] at hi;obtain⟨c,c1,c2⟩:=hx i y (by rw[List.getElem?_append_left hjl];exact hi);have hcl:=K.len c1;refine⟨c,keep c1,fun j u hu=> ?_⟩;have h2:=c2 j u hu;rw[hK] at h2 hcl⊢;have hj:j<4:=by have:=(List.getElem?_eq_some_iff.1 hu).1;omega
   rw[hxe,List.getElem?_append_left (by rw[hyl];omega)] at h2;rw[List.getElem?_append_left (by rw[hyl];omega)];exact h2
  ·have e:i=l.length:=by
    have:=(List.getElem?_eq_some_iff.1 hi).1;rw[List.length_append,List.length_singleton] at this;omega
   subst e;rw[List.getElem?_append_right (Nat.le_refl _),Nat.sub_self] at hi;simp only[List.getElem?_cons_zero,Option.some.injEq] at hi;subst hi;refine⟨_,keep hc,fun j u hu=> ?_⟩;rw[hK,List.getElem?_append_right (by rw[hyl];omega),hyl,Nat.add_sub_cancel_left];exact hu
theorem JX {α:Type} {K:Kind α} (hK:K.size=4) {ty:TypeId} {lo g n cap:Nat} {w:World} {l:List α} {z:α} (h:K.own ty lo w (.slice (some ⟨g,0,none⟩) (n+1) cap) (l++[z])) {x0 x1 x2 x3:Value} {x:α} (hc:K.is (fun k=>lo≤k∧(Value.slice (some ⟨g,0,none⟩) (n+1) cap).ownBlock≠some k) w [x0,x1,x2,x3] x) (hl:l.length=n):
  K.own ty lo (putAt w g (n*4) x0 x1 x2 x3) (.slice (some ⟨g,0,none⟩) (n+1) cap) (l++[x]):=by
 obtain⟨g',cap',e,_,_,_,_,h1⟩:=ED hK h hc;simp only[Value.slice.injEq,Option.some.injEq,Addr.mk.injEq] at e;obtain⟨⟨rfl,_⟩,_,rfl⟩:=e;rw[hl] at h1;exact h1
structure Gof (w0:World) (p:List aD) (told all:List au) (PS:List (List au)) (pv:Value) (g m:Nat):Prop where
 rules:eU.sl bg w0 pv p
 rnd:lJ w0 g PS
 lt:g<w0.heap.size
 len:PS.length=m+1
 few:PS.length≤1000001
 last:PS[m]?=some all
 fst:∃ps,PS=told::ps
 how:NI p told all (mY (jD all) p told all PS)
 old:∀f∈all,inB told f=false→1≤dM PS f∧dM PS f<PS.length
 grow:∀(i:Nat) A B,PS[i]?=some A→PS[i+1]?=some B→CR A B
 right:dR p
 good:GoodS p all
def OfV (lo n:Nat) (w:World) (e:Ending) (f:au) (fs:Value):Option bH→Prop
 |none=>e=.returned (.pointer none)
 |some x=>∃b kv,e=.returned (.pointer (some ⟨b,0,none⟩))∧lo≤b∧x.fact=f∧w.heap[b]?=some (.cells #[.string f.1,fs,.int .i64 x.rule,kv] 30 (0,0))∧(lD n).sl (From lo) w kv x.kids
def OfS (w0:World) (P m g cap:Nat) (pv:Value) (all:List au) (how:au→Int×List au) (N:Nat):Prop:=
 ∀(f:au) (fs:Value) (dep c d:Nat) (w:World),N+dep=62→Below w0.heap.size w0 w→w.heap[P]?=some (.cells #[pv,.slice (some ⟨g,0,none⟩) (m+1) cap,.int .i64 (c:Int)] 123 (0,0))→c≤400→d≤60→f∈all→Strs w fs f.2→
  Calls Tryz.prog 63 #[.pointer (some ⟨P,0,none⟩),.agg #[.string f.1,fs],.int .i64 (dep:Int)] w fun e w'=>OfV w.heap.size (N-1) w' e f fs (bJ how N f dep (c,d)).1∧w'.heap[P]?=some (.cells #[pv,.slice (some ⟨g,0,none⟩) (m+1) cap,.int .i64 (((bJ how N f dep (c,d)).2.1:Nat):Int)] 123 (0,0))∧Tn P w w'
end Go.Proofs.YtafmbokfkbccaaaGreatDoor
namespace Go.Proofs.YtafmbokfkbccaaaGreatDoor
open Go.RowKit Go.Sort Go.Maps
theorem wK {w:World} {R:Nat} {u0 u1 u2:Value} {t:TypeId} (h:w.heap[R]?=some (.cells #[u0,u1,u2] t (0,0))):(w.cell? ⟨R,0,none⟩=some u0∧w.cell? ⟨R,1,none⟩=some u1∧w.cell? ⟨R,2,none⟩=some u2)∧(w.cell? ⟨R,0+1,none⟩=some u1∧w.cell? ⟨R,0+2,none⟩=some u2)∧w.frozen? ⟨R,2,none⟩=false∧R<w.heap.size:=
 ⟨⟨by rw[cell_of_row _ _ _ _ _ _ h];rfl,by rw[cell_of_row _ _ _ _ _ _ h];rfl,by rw[cell_of_row _ _ _ _ _ _ h];rfl⟩,⟨by rw[cell_of_row _ _ _ _ _ _ h];rfl,by rw[cell_of_row _ _ _ _ _ _ h];rfl⟩,by simp[World.frozen?,h],(Array.getElem?_eq_some_iff.1 h).1⟩
theorem Pe (k:Nat):okF (([]:List aO).getD k aA):=by
 rw[List.getD_eq_getElem?_getD];exact⟨by simp[aA],fun s hs=>by simp[aA] at hs⟩
theorem vM {α:Type} {l:List α} {j:Nat} {x:α} (h:l[j]?=some x):l.take (j+1)=l.take j++[x]:=by rw[List.take_add_one,h];rfl
theorem JY:∃i,Tryz.prog.info? 27=some i∧i.zero=some (.agg #[.string ByteArray.empty,.slice none 0 0])∧i.size=qI.size∧i.bytes=40:=⟨Tryz.t27,by kernel_rfl,by kernel_rfl,by kernel_rfl,by kernel_rfl⟩
set_option maxRecDepth 100000 in
set_option maxHeartbeats 16000000 in
theorem JZ (w0:World) (P m g cap:Nat) (p:List aD) (told all:List au) (PS:List (List au)) (pv:Value) (hG:Gof w0 p told all PS pv g m) (hP:w0.heap.size≤P) (N:Nat) (ih:1≤N→OfS w0 P m g cap pv all (mY (jD all) p told all PS) N):OfS w0 P m g cap pv all (mY (jD all) p told all PS) (N+1):=by
 intro f fs dep c d w hN hB0 hrow hc4 hd6 hfa hs;obtain⟨how,Ec⟩:∃how,how=mY (jD all) p told all PS:=⟨_,rfl⟩;rw[←Ec] at ih⊢;obtain⟨sa,sc,rfl⟩:=bB hs;obtain⟨pa,pc,rfl⟩:=Kind.slice hG.rules;have hPl:=(Array.getElem?_eq_some_iff.1 hrow).1;obtain⟨w1,hw1⟩:∃w1,w1=w.alloc (.cells #[.string f.1,.slice sa f.2.length sc] 27):=⟨_,rfl⟩;have hL1:Later w w1:=by rw[hw1];exact(Later.refl w).alloc _
 have hr1:w1.heap[w.heap.size]?=some (.cells #[.string f.1,.slice sa f.2.length sc] 27 (0,0)):=by rw[hw1];exact heap_alloc_new w _
 have Mk:=(hL1.block hPl).trans hrow;obtain⟨c1,hc1⟩:∃c1:Nat,c1=c+1:=⟨_,rfl⟩;have hci:(c1:Int)=(c:Int)+1:=by omega
 obtain⟨w2,hw2⟩:∃w2,w2=w1.setCell ⟨P,2,none⟩ (.int .i64 ((c:Int)+1)):=⟨_,rfl⟩;have hrow2:w2.heap[P]?=some (.cells #[.slice pa p.length pc,.slice (some ⟨g,0,none⟩) (m+1) cap,.int .i64 (c1:Int)] 123 (0,0)):=by rw[hw2,dF (j:=2) Mk,hci];rfl
 have SN:Tn P w1 w2:=by rw[hw2];exact Tn.setCell (p:=P) (Tn.refl _ _) (x:=⟨P,2,none⟩) (Or.inl rfl) _
 have hl1:=(Array.getElem?_eq_some_iff.1 hr1).1;have hs2:Strs w2 (.slice sa f.2.length sc) f.2:=uZ (Gr Mk) SN (hs.later hL1);have hr2:=(SN.block _ hl1 (by omega)).trans hr1;have U1:Tn P w w2:=(Tn.of_below hL1.below).trans SN;have SQ:Below w0.heap.size w0 w2:=aj hB0 (U1.below hP hB0.size) (Nat.le_refl _);obtain⟨⟨a0,a1,a2⟩,_,a3,_⟩:=wK Mk;obtain⟨⟨b0,b1,b2⟩,_,_,hP2⟩:=wK hrow2;obtain⟨f0,f1,_,_,_⟩:=iK hr2;have f1':w2.cell? ⟨w.heap.size,0+1,none⟩=some (.slice sa f.2.length sc):=f1;have HC1:=hide hc1;have HW1:=hide hw1;have HW2:=hide hw2;have Ml:=hide hrow2;have HR2:=hide hr2;have SS:=hide U1;have U2:=hide SQ;have HG:=hide hG;have HIh:=hide ih;have OU:=hide Ec;have SV:=hide hs2;have HAg:=hide (WZ PS f g cap P (.slice pa p.length pc) (.int .i64 (c1:Int)) (.agg #[.string f.1,.slice sa f.2.length sc]) w2 (by rw[hG.len];exact hrow2) (hG.rnd.below hG.lt SQ) (Nat.lt_of_lt_of_le hG.lt SQ.size) hG.few ⟨_,rfl,hs2⟩);have HFa:=hide hfa;have HN:=hide hN;clear hG ih Ec hw1 hw2 hL1 hr1 Mk hrow2 SN hs2 hr2 U1 SQ hB0 hrow hs hc1 hci hfa b0 b1;obtain⟨fn,aH⟩:=f;dsimp only at*
 by_cases h4:400<c1
 ·have h4i:(400:Int)<(c:Int)+1:=by have:=HC1.out;omega
  have h4j:(400:Int)<(c1:Int):=by omega
  have HX:Hid (bJ how (N+1) (fn,aH) dep (c,d)=(none,(c1,max d dep))):=by
   show _=_;unfold bJ;dsimp only;rw[←HC1.out,if_pos (by unfold iA;simp[h4])]
  clear HAg HIh HG SV HR2
  go_enter Tryz.func63,Tryz.ntmps63
  go_wp2_with (first|(rw[←HW1.out])|(rw[←HW2.out])|fail)
  go_ret;exact⟨by rw[HX.out];exact rfl,by rw[HX.out];exact Ml.out,SS.out⟩
 ·have h4i:¬(400:Int)<(c:Int)+1:=by have:=HC1.out;omega
  have h4j:¬(400:Int)<(c1:Int):=by omega
  by_cases h6:60<dep
  ·have h6i:(60:Int)<(dep:Int):=by omega
   have HX:Hid (bJ how (N+1) (fn,aH) dep (c,d)=(none,(c1,max d dep))):=by
    show _=_;unfold bJ;dsimp only;rw[←HC1.out,if_pos (by unfold iA;simp;omega)]
   clear HAg HIh HG SV HR2
   go_enter Tryz.func63,Tryz.ntmps63
   go_wp2_with (first|(rw[←HW1.out])|(rw[←HW2.out])|fail)
   go_ret;exact⟨by rw[HX.out];exact rfl,by rw[HX.out];exact Ml.out,SS.out⟩
  ·have h6i:¬(60:Int)<(dep:Int):=by omega
   obtain⟨d1,hd1⟩:∃d1:Nat,d1=max d dep:=⟨_,rfl⟩;have hmu:iA (c1,d1)=false:=by unfold iA;simp;omega
   have Ut:c1≤400:=by omega
   have Uu:d1≤60:=by omega
   have HD1:=hide hd1;have HMu:=hide hmu;obtain⟨A,hA⟩:∃A,A=dM PS (fn,aH):=⟨_,rfl⟩;rw[←hA] at HAg;have HA:=hide hA;have hAl:A≤1000001:=by
    have h1:=HG.out.few;have h2:dM PS (fn,aH)≤PS.length:=List.findIdx_le_length;omega
   clear hd1 hmu hA
   go_enter Tryz.func63,Tryz.ntmps63
   go_wp2_with (first|(rw[←HW1.out])|(rw[←HW2.out])|fail)
   refine HAg.out.mono ?_;rintro e w3 ⟨rfl,hL3⟩;have hrow3:=(hL3.block hP2).trans Ml.out;have hr3:=(hL3.block (Array.getElem?_eq_some_iff.1 HR2.out).1).trans HR2.out;have Df:=hide hrow3;have HR3:=hide hr3;have SX:=hide (SS.out.trans (Tn.of_below hL3.below));have RG:=hide (aj U2.out hL3.below U2.out.size);have Q5:=hide (SV.out.later hL3);obtain⟨q0,q1,_,_,hFl⟩:=iK hr3;have q1':w3.cell? ⟨w.heap.size,0+1,none⟩=some (.slice sa aH.length sc):=q1;clear hL3 hrow3 hr3 HAg HW1 HW2 Ml HR2 SS U2 SV a0 a1 a2 a3 b2 f0 f1 f1' q1
   by_cases hA0:A=0
   ·have hhw:how (fn,aH)=(-1,[]):=by
     obtain⟨ps,hps⟩:=HG.out.fst;have h1:=HA.out;rw[hA0] at h1;rw[OU.out];unfold mY;rw[if_pos (by rw[hps] at h1;exact Ej.1 h1.symm)]
    have HX:Hid (bJ how (N+1) (fn,aH) dep (c,d)=(some (.mk (fn,aH) (-1) []),(c1,d1))):=by
     show _=_;rw[yw HC1.out HD1.out HMu.out hhw]
     rfl
    have HLe:=hide SX.out.size;subst hA0;clear hhw HA HIh HG HMu;go_wp2;have hB4:Below w3.heap.size w3 (w3.alloc (.cells #[.string fn,.slice sa aH.length sc,.int .i64 (-1),.slice none 0 0] 30)):=((Later.refl w3).alloc _).below;go_ret;refine⟨?_,?_,SX.out.trans (Tn.of_below hB4)⟩
    ·rw[HX.out];exact⟨_,_,rfl,HLe.out,rfl,heap_alloc_new w3 _,Kind.eT _ _ _ _ _⟩
    ·rw[HX.out];exact(hB4.block _ (Array.getElem?_eq_some_iff.1 Df.out).1).trans Df.out
   ·have hq:((A:Int)==0)=false:=by simpa using hA0
    have hno:inB told (fn,aH)=false:=by
     obtain⟨ps,hps⟩:=HG.out.fst;cases hi:inB told (fn,aH) with
     |false=>rfl
     |true=>exact absurd (by rw[HA.out,hps];exact Ej.2 hi) hA0
    obtain⟨old,hold⟩:∃old,old=PS.getD (A-1) []:=⟨_,rfl⟩;have Xc:Hid (∀k,decide (dM PS k<A)=inB old k):=fun k=>by
     obtain⟨h1,h2⟩:=HG.out.old _ HFa.out hno;rw[←HA.out] at h1 h2;rw[hold];exact Q8 HG.out.grow h1 h2 k
    have PZ:Hid (how (fn,aH)=iB (fun r=>byP (jD all) all old r (fn,aH)) 0 (p.drop 0)):=by
     show _=_;rw[OU.out,hold,HA.out,List.drop_zero];unfold mY;rw[if_neg (by rw[hno];simp)]
    have Xd:Hid (how (fn,aH)≠(-1,[])):=fun hc=>by
     rcases HG.out.how.ok _ HFa.out with⟨h1,_⟩|⟨i,r,of,_,h1,_,_⟩
     ·rw[hno] at h1;cases h1
     ·rw[←OU.out,hc] at h1;have:=congrArg Prod.fst h1;simp at this
    obtain⟨u,hu,hFu⟩:=HG.out.rnd m all HG.out.last;obtain⟨la,lc,rfl⟩:=aC hFu;have HCe:Hid (∀w',Later w3 w'→w'.cell? ⟨P,1,none⟩=some (.slice (some ⟨g,0,none⟩) (m+1) cap)∧w'.cell? ⟨g,m,none⟩=some (.slice la all.length lc)):=fun w' h=>by
     have h0:=(h.block (Array.getElem?_eq_some_iff.1 Df.out).1).trans Df.out;refine⟨(wK h0).1.2.1,?_⟩;rw[h.cell (p:=⟨g,m,none⟩) (Nat.lt_of_lt_of_le HG.out.lt RG.out.size),RG.out.cell (p:=⟨g,m,none⟩) HG.out.lt];exact hu
    have HFu:=hide hFu;have hmf:m≤1000000:=by have h1:=HG.out.few;have h2:=HG.out.len;omega
    have e0:IntKind.i64.wrap (m:Int)=(m:Int):=by simp[IntKind.wrap,IntKind.bits,IntKind.signed];omega
    have e1:IntKind.i64.wrap ((m:Int)+1-1)=(m:Int):=by rw[show(m:Int)+1-1=(m:Int) by omega];exact e0
    have e2:IntKind.i64.wrap (((m+1:Nat):Int)-1)=(m:Int):=by rw[show((m+1:Nat):Int)-1=(m:Int) by omega];exact e0
    have hmi:(m:Int)<(m:Int)+1:=by omega
    clear hold hu hFu hno hA0;go_wp2;refine wp_region_held_drew (S:=fun w'=>Later w3 w') (by kernel_rfl) (Later.refl w3).drew (fun hHeld=> ?_);refine ak (i:=0) (d:=some 61) (v:= ?_) rfl rfl hHeld ?_ ?_;rotate_left;focus intro w hSw;(try dsimp only at hSw);go_simp;try with_reducible rfl
    simp only[aK,aL,aze,asu];refine ak (i:=1) (d:=some 62) (v:= ?_) rfl rfl hHeld ?_ ?_;rotate_left;focus intro w hSw;(try dsimp only at hSw);go_simp;try with_reducible rfl
    simp only[aK,aL,aze,asu];refine ak (i:=2) (d:=some 63) (v:= ?_) rfl rfl hHeld ?_ ?_;rotate_left;focus intro w hSw;(try dsimp only at hSw);go_simp;try with_reducible rfl
    simp only[aK,aL,aze,asu];refine ak (i:=3) (d:=some 64) (v:= ?_) rfl rfl hHeld ?_ ?_;rotate_left;focus intro w hSw;(try dsimp only at hSw);obtain⟨p0,p1⟩:=HCe.out _ hSw;go_simp;try with_reducible rfl
    simp only[aK,aL,aze,asu];refine ak (i:=4) (d:=some 65) (v:= ?_) rfl rfl hHeld ?_ ?_;rotate_left;focus intro w hSw;(try dsimp only at hSw);go_simp;try with_reducible rfl
    simp only[aK,aL,aze,asu];refine ak (i:=5) (d:=some 66) (v:= ?_) rfl rfl hHeld ?_ ?_;rotate_left;focus intro w hSw;(try dsimp only at hSw);go_simp;try with_reducible rfl
    simp only[aK,aL,aze,asu];refine ak (i:=6) (d:=some 67) (v:= ?_) rfl rfl hHeld ?_ ?_;rotate_left;focus intro w hSw;(try dsimp only at hSw);go_simp;try with_reducible rfl
    simp only[aK,aL,aze,asu];refine ak (i:=7) (d:=some 68) (v:= ?_) rfl rfl hHeld ?_ ?_;rotate_left;focus intro w hSw;(try dsimp only at hSw);obtain⟨p0,p1⟩:=HCe.out _ hSw;go_simp;try with_reducible rfl
    simp only[aK,aL,aze,asu];refine ak (i:=8) (d:=some 69) (v:= ?_) rfl rfl hHeld ?_ ?_;rotate_left;focus intro w hSw;(try dsimp only at hSw);go_simp;try with_reducible rfl
    simp only[aK,aL,aze,asu];refine ak (i:=9) (d:=some 70) (v:= ?_) rfl rfl hHeld ?_ ?_;rotate_left;focus intro w hSw;(try dsimp only at hSw);go_simp;try with_reducible rfl
    simp only[aK,aL,aze,asu];refine ak (i:=10) (d:=some 71) (v:= ?_) rfl rfl hHeld ?_ ?_;rotate_left;focus intro w hSw;(try dsimp only at hSw);go_simp;try with_reducible rfl
    simp only[aK,aL,aze,asu];refine ak (i:=11) (d:=some 72) (v:= ?_) rfl rfl hHeld ?_ ?_;rotate_left;focus intro w hSw;(try dsimp only at hSw);obtain⟨p0,p1⟩:=HCe.out _ hSw;go_simp;try with_reducible rfl
    simp only[aK,aL,aze,asu];refine ak (i:=12) (d:=some 8) (v:= ?_) rfl rfl hHeld ?_ ?_;rotate_left;focus intro w hSw;(try dsimp only at hSw);go_simp;try with_reducible rfl
    simp only[aK,aL,aze,asu];refine wpAnyH_done (by kernel_rfl) ?_ _;clear HCe e0 e1 e2 hmi;generalize w3.drew=w4 at hHeld⊢;have hrow4:=(hHeld.block (Array.getElem?_eq_some_iff.1 Df.out).1).trans Df.out;have hr4:=(hHeld.block (Array.getElem?_eq_some_iff.1 HR3.out).1).trans HR3.out;have C8:=hide hrow4;have HR4:=hide hr4;have Xe:=hide (SX.out.trans (Tn.of_below hHeld.below));have GK:=hide (aj RG.out hHeld.below RG.out.size);have PW:=hide (Q5.out.later hHeld);have SY:P<w4.heap.size:=(Array.getElem?_eq_some_iff.1 hrow4).1;have U3:w.heap.size<w4.heap.size:=(Array.getElem?_eq_some_iff.1 hr4).1;have k0:w4.cell? ⟨P,0,none⟩=some (.slice pa p.length pc):=(wK hrow4).1.1;have hpl:=HG.out.rules.1.1;clear hHeld hrow4 hr4 Df HR3 SX RG Q5 q0 q1' hFl;go_wp2;clear k0
    go_loopg [78] p.length (fun q i wr=>∃j:Nat,j+q=p.length∧i=.int .i64 j∧Hid (how (fn,aH)=iB (fun r=>byP (jD all) all old r (fn,aH)) j (p.drop j))∧Hid (Below w4.heap.size w4 wr))
    case atStart=>exact⟨0,by omega,rfl,PZ,Below.refl _ _⟩
    case round=>
     clear PZ;obtain⟨j,hj,rfl,PZ,HB⟩:=hrel
     by_cases hlt:j<p.length
     ·obtain⟨r,hr⟩:∃r,p[j]?=some r:=⟨_,List.getElem?_eq_getElem hlt⟩;have hfb:=rX (g:=fun r=>byP (jD all) all old r (fn,aH)) hr;rw[←PZ.out] at hfb;have HFb:=hide hfb;obtain⟨BP,hBP⟩:∃BP,BP=byP (jD all) all old r (fn,aH):=⟨_,rfl⟩;have HBP:=hide hBP;rw[←hBP] at HFb;have hrp:=List.mem_of_getElem? hr;have hRR:=HG.out.right.rules r hrp;obtain⟨t4,tbt⟩:=vH HG.out.right r hrp;have RH:=aj GK.out HB.out GK.out.size;obtain⟨b1,o1,_,e1,hb1,hri,hc⟩:=Kind.bQ HG.out.rules hr;subst e1;obtain⟨hv,bv,hce,hhv,hbv⟩:=hri;subst hce;obtain⟨ha',hc',rfl⟩:=Kind.slice hhv;obtain⟨ba,bc,rfl⟩:=Kind.slice hbv;have d0:wr.cell? ⟨b1,o1+j*4,none⟩=some (.bool r.head.no):=by rw[RH.cell (p:=⟨b1,o1+j*4,none⟩) hb1];simpa[eU] using hc 0 _ rfl
      have d1:wr.cell? ⟨b1,o1+j*4+1,none⟩=some (.string (bs r.head.name)):=by rw[RH.cell (p:=⟨b1,o1+j*4+1,none⟩) hb1];simpa[eU] using hc 1 _ rfl
      have d2:wr.cell? ⟨b1,o1+j*4+2,none⟩=some (.slice ha' r.head.terms.length hc'):=by rw[RH.cell (p:=⟨b1,o1+j*4+2,none⟩) hb1];simpa[eU] using hc 2 _ rfl
      have d3:wr.cell? ⟨b1,o1+j*4+3,none⟩=some (.slice ba r.body.length bc):=by rw[RH.cell (p:=⟨b1,o1+j*4+3,none⟩) hb1];simpa[eU] using hc 3 _ rfl
      obtain⟨wR,hwR⟩:∃wR,wR=wr.alloc (.cells #[.bool r.head.no,.string (bs r.head.name),.slice ha' r.head.terms.length hc',.slice ba r.body.length bc] 87):=⟨_,rfl⟩;have hLR:Later wr wR:=by rw[hwR];exact(Later.refl wr).alloc _
      have hrR:wR.heap[wr.heap.size]?=some (.cells #[.bool r.head.no,.string (bs r.head.name),.slice ha' r.head.terms.length hc',.slice ba r.body.length bc] 87 (0,0)):=by rw[hwR];exact heap_alloc_new wr _
      obtain⟨wM,hwM⟩:∃wM,wM=wR.alloc (.map #[] 0):=⟨_,rfl⟩;have hLM:Later wR wM:=by rw[hwM];exact(Later.refl wR).alloc _
      have hEM:jW wM wR.heap.size 0 []:=by rw[hwM];exact jW.made wR
      have S9:Below w4.heap.size w4 wM:=aj HB.out (hLR.trans hLM).below HB.out.size;have Xf:Below w0.heap.size w0 wM:=aj GK.out S9 GK.out.size;have hRF:=HG.out.good.right _ HFa.out;have hsh:∀s∈aH,s.size≤maxLen:=fun s hs=>by have:=jf (hRF.2.2 s hs);unfold maxLen;omega
      have HTr:=hide (SC r.head (fn,aH) [] wR.heap.size 0 4 (.slice ha' r.head.terms.length hc') (.agg #[.string fn,.slice sa aH.length sc]) wM (Kind.aF hhv Xf) ⟨_,rfl,PW.out.below S9⟩ hEM (bC hRR.head).2.1 (by omega) t4 hsh);obtain⟨⟨z0,z1,z2,z3⟩,⟨z4,z5,z6⟩,_,hlR⟩:=dJ hrR;have Xg:=(hLR.block (Nat.lt_of_lt_of_le U3 HB.out.size)).trans ((HB.out.block _ U3).trans HR4.out);obtain⟨y0,y1,_,_,_⟩:=iK Xg;have y1':wR.cell? ⟨w.heap.size,0+1,none⟩=some (.slice sa aH.length sc):=y1;have HrR:=hide ((hLM.block hlR).trans hrR);have hlM:wr.heap.size<wM.heap.size:=Nat.lt_of_lt_of_le hlR hLM.size;have U4:=hide S9;have HWR:=hide hwR;have HWM:=hide hwM;have HBd:=hide hbv;have Xh:=hide hRR.body;have HTB:=hide tbt;have hb5:=(fP hRR.body).1;have Xi:Hid (∀a∈r.body,a.terms.length≤4):=fun a ha=>(gU ((fP hRR.body).2 a ha)).2.1;have HRF:=hide hRF;have hjl:(j:Int)<(p.length:Int):=by omega
      have hmm:= @run_makeMap Tryz.prog;clear hr hfb hBP hrp t4 tbt RH hc hhv hbv hwR hLR hrR hwM hLM hEM S9 Xf hsh Xg hRR hRF PZ HB y1;obtain⟨hd,body⟩:=r;dsimp only at*;generalize hnm:bs hd.name=nm at*;clear hnm;obtain⟨o,ho⟩:∃o,o=dw hd (fn,aH) []:=⟨_,rfl⟩;rw[←ho] at HTr;have HO:=hide ho;clear ho;generalize hd.no=no at*
      go_wp2_with (first|(rw[←HWR.out])|(rw[←HWM.out])|fail)
      refine HTr.out.mono ?_;rintro e w5 ⟨hT5,hB5⟩;obtain⟨e5,rfl,hn5,hs5⟩:=vG hT5;have hr5:=(hB5.block _ hlM).trans HrR.out;have RI:=hide (aj U4.out hB5 U4.out.size);have U5:wr.heap.size<w5.heap.size:=(Array.getElem?_eq_some_iff.1 hr5).1;clear hT5 hB5 HTr HWR HWM HrR U4 d0 d1 d2 d3 z0 z1 z2 z3 z4 z5 z6 y0 y1' hb1 hlR hlM;generalize wr.heap.size=RB at*;cases o with
      |none=>
       have he5:=hn5 rfl;subst he5;have J2:Hid (how (fn,aH)=iB (fun r=>byP (jD all) all old r (fn,aH)) (j+1) (p.drop (j+1))):=by
        have hbn:BP=none:=by rw[HBP.out];unfold byP;rw[←HO.out]
        have:=HFb.out;rw[hbn] at this;exact this
       have hnq:∀w:World,(binOp .eql 173 (.map none) (.map none)).run Tryz.prog w=.ok (.bool true) w:=fun w=>run_eql_map_nil w 173 9 9 none Tryz.underlying173;clear hn5 hs5 HFb HBP HO HBd hr5;go_wp2
       go_roundg (p.length- (j+1))
       case measure=>omega
       case rel=>exact⟨j+1,by omega,by go_num,J2,RI⟩
      |some b0=>
       obtain⟨eb,he5,_,hE5⟩:=hs5 b0 rfl;subst he5;have hbp:=RD (all:=all) (old:=old) (r:=⟨hd,body⟩) HO.out.symm;dsimp only at hbp;rw[←HBP.out] at hbp;have hwb:aM (dU b0 body)=0:=ug Xh.out (Gi HRF.out HO.out.symm);have HBp:=hide hbp;have HWb:=hide hwb;have HE5:=hide hE5;have hnq:∀w:World,(binOp .eql 173 (.map (some eb)) (.map none)).run Tryz.prog w=.ok (.bool false) w:=fun w=>run_eql_map_nil w 173 9 9 (some eb) Tryz.underlying173;have k3:w5.cell? ⟨RB,3,none⟩=some (.slice ba body.length bc):=(dJ hr5).1.2.2.2;have RJ:=hide (Kind.aF HBd.out (aj GK.out RI.out GK.out.size));clear hn5 hs5 hbp hwb hE5 HBP HO HBd hr5 Xh;go_wp2;clear k3 hnq
       go_loopg [12,93] body.length (fun q bv i wr=>∃t:Nat,t+q=body.length∧i=.int .i64 t∧Hid (bP.own 85 w5.heap.size wr bv ((body.take t).map (dX b0)))∧Hid (Below w5.heap.size w5 wr))
       case atStart=>exact⟨0,by omega,rfl,Kind.fF _ _ _ _,Below.refl _ _⟩
       case round=>
        obtain⟨t,ht,rfl,HOb,HBt⟩:=hrel;obtain⟨va,vn,vc,hvv⟩:∃a n c,u12=.slice a n c:=by obtain⟨a,c,e⟩:=Kind.aV HOb.out;exact⟨a,_,c,e⟩
        subst hvv
        by_cases OX:t<body.length
        ·obtain⟨a,ha⟩:∃a,body[t]?=some a:=⟨_,List.getElem?_eq_getElem OX⟩;have hmem:=List.mem_of_getElem? ha;have h4t:=Xi.out a hmem;have HTs:=hide (HTB.out a hmem);obtain⟨b2,o2,_,e2,hb2,⟨xv,hce,htv⟩,hc⟩:=Kind.bQ RJ.out ha;subst e2;subst hce;have d0:wr.cell? ⟨b2,o2+t*3,none⟩=some (.bool a.no):=by rw[HBt.out.cell (p:=⟨b2,o2+t*3,none⟩) hb2];simpa[bP] using hc 0 _ rfl
         have d1:wr.cell? ⟨b2,o2+t*3+1,none⟩=some (.string (bs a.name)):=by rw[HBt.out.cell (p:=⟨b2,o2+t*3+1,none⟩) hb2];simpa[bP] using hc 1 _ rfl
         have d2:wr.cell? ⟨b2,o2+t*3+2,none⟩=some xv:=by rw[HBt.out.cell (p:=⟨b2,o2+t*3+2,none⟩) hb2];simpa[bP] using hc 2 _ rfl
         obtain⟨xa,xc,rfl⟩:=Kind.slice htv;obtain⟨wa,hwa⟩:∃wa,wa=wr.alloc (.cells #[.bool a.no,.string (bs a.name),.slice xa a.terms.length xc] 85):=⟨_,rfl⟩;have hLa:Later wr wa:=by rw[hwa];exact(Later.refl wr).alloc _
         have hra:wa.heap[wr.heap.size]?=some (.cells #[.bool a.no,.string (bs a.name),.slice xa a.terms.length xc] 85 (0,0)):=by rw[hwa];exact heap_alloc_new wr _
         obtain⟨wb,hwb⟩:∃wb,wb=wa.alloc (.cells #[.bool a.no,.string (bs a.name),.slice none 0 0] 85):=⟨_,rfl⟩;have hLb:Later wa wb:=by rw[hwb];exact(Later.refl wa).alloc _
         have hrb:wb.heap[wa.heap.size]?=some (.cells #[.bool a.no,.string (bs a.name),.slice none 0 0] 85 (0,0)):=by rw[hwb];exact heap_alloc_new wa _
         obtain⟨⟨c0,c1',c2⟩,_,_,hal⟩:=wK hra;have c2':wb.cell? ⟨wr.heap.size,2,none⟩=some (.slice xa a.terms.length xc):=(wK ((hLb.block hal).trans hra)).1.2.2;have hlB:wa.heap.size<wb.heap.size:=(Array.getElem?_eq_some_iff.1 hrb).1;have hBb:Below w5.heap.size w5 wb:=aj HBt.out (hLa.trans hLb).below HBt.out.size;have Zm:w5.heap.size≤wa.heap.size:=Nat.le_trans HBt.out.size hLa.size;have Zn:wr.heap.size≤wa.heap.size:=hLa.size;have Zo:=hide (hLa.trans hLb);have HBb:=hide hBb;have HTv:=hide htv;have HWa:=hide hwa;have Xj:=hide hwb;have HRb:=hide hrb;have HMp:Hid ((body.take (t+1)).map (dX b0)=(body.take t).map (dX b0)++[dX b0 a]):=by show _=_;rw[vM ha,List.map_append];rfl
         have aat:=htv.1.1;have aau:((body.take t).map (dX b0)).length≤5:=by rw[List.length_map,List.length_take];omega
         clear hc ha htv hwa hLa hra hwb hLb hrb hBb hb2 hal hmem;generalize Xl:bs a.name=nm2 at*;have Zp:=hide Xl;clear Xl
         go_wp2_with (first|(rw[←HWa.out])|(rw[←Xj.out])|fail)
         clear HWa Xj d0 d1 d2 c0 c1' c2 c2';generalize wr=wq at*;generalize hAB:wq.heap.size=AB at*;have HAB:=hide hAB;clear hAB;generalize wa.heap.size=BB at*
         go_loopg [105] a.terms.length (fun q i wr=>∃(y:Nat) (za:Option Addr) (zn zc:Nat),y+q=a.terms.length∧i=.int .i64 y∧Hid (eH.own 187 wb.heap.size wr (.slice za zn zc) ((a.terms.take y).map (dn b0)))∧Hid (wr.heap[BB]?=some (.cells #[.bool a.no,.string nm2,.slice za zn zc] 85 (0,0)))∧Hid (Tn BB wb wr))
         case atStart=>exact⟨0,none,0,0,by omega,rfl,Kind.fF _ _ _ _,HRb,Tn.refl _ _⟩
         case round=>
          clear HRb;obtain⟨y,za,zn,zc,hy,rfl,HOt,HRb,HTn⟩:=hrel;have BQ:Below w5.heap.size w5 wr:=aj HBb.out (HTn.out.below Zm HBb.out.size) (Nat.le_refl _);have Ua:=HTn.out.size
          by_cases hlty:y<a.terms.length
          ·obtain⟨x,hx⟩:∃x,a.terms[y]?=some x:=⟨_,List.getElem?_eq_getElem hlty⟩;obtain⟨b3,o3,_,e3,hb3,hxe,hc⟩:=Kind.bQ HTv.out hx;subst e3;subst hxe;have d0:wr.cell? ⟨b3,o3+y*2,none⟩=some (.bool x.1):=by rw[BQ.cell (p:=⟨b3,o3+y*2,none⟩) hb3];exact hc 0 _ rfl
           have d1:wr.cell? ⟨b3,o3+y*2+1,none⟩=some (.string (bs x.2)):=by rw[BQ.cell (p:=⟨b3,o3+y*2+1,none⟩) hb3];exact hc 1 _ rfl
           have hxl:=HTs.out x (List.mem_of_getElem? hx);obtain⟨wt,hwt⟩:∃wt,wt=wr.alloc (.cells #[.bool x.1,.string (bs x.2)] 187):=⟨_,rfl⟩;have hLt:Later wr wt:=by rw[hwt];exact(Later.refl wr).alloc _
           have hrt:wt.heap[wr.heap.size]?=some (.cells #[.bool x.1,.string (bs x.2)] 187 (0,0)):=by rw[hwt];exact heap_alloc_new wr _
           have hlk:=(HE5.out.below (aj BQ hLt.below BQ.size)).look (s:=x.2) hxl;have U6:Hid ((a.terms.take (y+1)).map (dn b0)=(a.terms.take y).map (dn b0)++[dn b0 x]):=by show _=_;rw[vM hx,List.map_append];rfl
           have HWt:=hide hwt;clear hc hx hwt hxl hb3;obtain⟨x1,x2⟩:=x;dsimp only at*;have hyl:((a.terms.take y).map (dn b0)).length≤4:=by rw[List.length_map,List.length_take];omega
           obtain⟨t0,t1,t2,t3,htl⟩:=iK hrt;have t1':wt.cell? ⟨wr.heap.size,0+1,none⟩=some (.string (bs x2)):=t1;have hcase:(∃sv,x1=true∧dG b0 (bs x2)=some sv)∨dG b0 (bs x2)=none∨∃sv,x1=false∧dG b0 (bs x2)=some sv:=by
            cases hg:dG b0 (bs x2) with
            |none=>exact Or.inr (Or.inl rfl)
            |some sv=>
             cases x1 with
             |true=>exact Or.inl ⟨sv,rfl,rfl⟩
             |false=>exact Or.inr (Or.inr ⟨sv,rfl,rfl⟩)
           have RL:Hid (∀(wz:World),Tn wr.heap.size wt wz→eH.own 187 wb.heap.size wz (.slice za zn zc) ((a.terms.take y).map (dn b0))∧wz.heap[BB]?=some (.cells #[.bool a.no,.string nm2,.slice za zn zc] 85 (0,0))∧Tn BB wb wz∧wr.heap.size<wz.heap.size):=fun wz hT=>by
            have hk:∀k,k<wr.heap.size→wz.heap[k]?=wr.heap[k]?:=fun k hk=>(hT.block k (by omega) (by omega)).trans (hLt.block hk);have hz:=hT.size;have hb:=hLt.below;exact⟨Kind.dV HOt.out (by omega) fun k hk' _=>hk k hk',(hk _ (by omega)).trans HRb.out,⟨hT.os.trans (hb.os.trans HTn.out.os),hT.tape.trans (hb.tape.trans HTn.out.tape),hT.output.trans (hb.output.trans HTn.out.output),by omega,fun k hk1 hk2=>(hk k (by omega)).trans (HTn.out.block k hk1 hk2)⟩,by omega⟩
           obtain⟨E,hE⟩:∃E,E=dn b0 (x1,x2):=⟨_,rfl⟩;rw[←hE] at U6;clear HTn HRb HOt BQ hLt htl;rcases hcase with⟨sv,hx1,hg⟩|hg|⟨sv,hx1,hg⟩
           case' inl=>
            subst hx1;rw[Gl hg] at hE;rw[hg] at hlk;dsimp only[Option.getD_some,Option.isSome_some] at hlk;obtain⟨wz,hwz⟩:∃wz,wz=(wt.setCell ⟨wr.heap.size,0,none⟩ (.bool false)).setCell ⟨wr.heap.size,1,none⟩ (.string sv):=⟨_,rfl⟩;have hTz:Tn wr.heap.size wt wz:=by rw[hwz];exact Tn.setCell (p:=wr.heap.size) (Tn.setCell (p:=wr.heap.size) (Tn.refl _ _) (x:=⟨wr.heap.size,0,none⟩) (Or.inl rfl) _) (x:=⟨wr.heap.size,1,none⟩) (Or.inl rfl) _
            obtain⟨s0,s1⟩:=qH hrt (.bool false) (.string sv);rw[←hwz] at s0 s1;have hcE:[Value.bool false,Value.string sv]=[.bool E.1,.string (bs E.2)]:=by rw[hE];simp[iX]
            have HWz:=hide hwz;clear hwz hg hE
           case' inr.inl=>
            rw[Da hg] at hE;rw[hg] at hlk;dsimp only[Option.getD_none,Option.isSome_none] at hlk;have hTz:Tn wr.heap.size wt wt:=Tn.refl _ _;have s0:=t0;have s1:=t1;have hcE:[Value.bool x1,Value.string (bs x2)]=[.bool E.1,.string (bs E.2)]:=by rw[hE]
            clear hg hE;obtain⟨wz,hwz⟩:∃wz,wz=wt:=⟨_,rfl⟩;subst hwz
           case' inr.inr=>
            subst hx1;rw[Db] at hE;rw[hg] at hlk;dsimp only[Option.getD_some,Option.isSome_some] at hlk;have hTz:Tn wr.heap.size wt wt:=Tn.refl _ _;have s0:=t0;have s1:=t1;have hcE:[Value.bool false,Value.string (bs x2)]=[.bool E.1,.string (bs E.2)]:=by rw[hE]
            clear hg hE;obtain⟨wz,hwz⟩:∃wz,wz=wt:=⟨_,rfl⟩;subst hwz
           all_goals
            obtain⟨hO2,U7,RN,hlz⟩:=RL.out wz hTz;obtain⟨ti,tz,i1,i2,i3,i4,i5⟩:=Bc;obtain⟨v6,w6,hrun,hO6,hg6,_,hk6⟩:=Kind.j5 (P:=Tryz.prog) (t:=83) hO2 Tryz.underlying83 i1 i2 i3 i4 i5 (by decide) (x:=E) hcE (by omega) (by simp only[maxLen];omega) (by omega);obtain⟨a6,n6,c6,rfl⟩:∃a n c,v6=.slice a n c:=by obtain⟨a,c,e⟩:=Kind.aV hO6;exact⟨a,_,c,e⟩
            have U8:∀k,(Value.slice za zn zc).ownBlock=some k→wb.heap.size≤k:=fun k e=>(Kind.bN hO2 e).1;have SF:=hg6.size;rw[World.size_alloc] at SF;have U9:w6.heap[BB]?=some (.cells #[.bool a.no,.string nm2,.slice za zn zc] 85 (0,0)):=(hg6.block BB (by rw[World.size_alloc];omega) (fun e=>by have:=U8 BB e.symm;omega)).trans ((Below.heap_alloc wz _ BB (by omega)).trans U7);obtain⟨wN,hwN⟩:∃wN,wN=w6.setCell ⟨BB,2,none⟩ (.slice a6 n6 c6):=⟨_,rfl⟩;have hTN:Tn BB w6 wN:=by rw[hwN];exact Tn.setCell (p:=BB) (Tn.refl _ _) (x:=⟨BB,2,none⟩) (Or.inl rfl) _
            have Jr:wN.heap[BB]?=some (.cells #[.bool a.no,.string nm2,.slice a6 n6 c6] 85 (0,0)):=by rw[hwN,dF (j:=2) U9];rfl
            have Xm:Tn BB wb wN:=⟨hTN.os.trans (hg6.os.trans RN.os),hTN.tape.trans (hg6.tape.trans RN.tape),hTN.output.trans (hg6.output.trans RN.output),by have:=hTN.size;omega,fun k hk hne=>(hTN.block k (by omega) hne).trans ((hg6.block k (by rw[World.size_alloc];omega) (fun e=>by have:=U8 k e.symm;omega)).trans ((Below.heap_alloc wz _ k (by omega)).trans (RN.block k hk hne)))⟩;have hON:=Kind.dL hO6 hTN hlB;rw[←U6.out] at hON;have s1':wz.cell? ⟨wr.heap.size,0+1,none⟩=_:=s1;obtain⟨⟨_,_,g2⟩,_,_,_⟩:=wK U7;obtain⟨_,_,g3,_⟩:=wK U9;have HLk:=hide hlk;have HRn:=hide hrun;have HWN:=hide hwN;have HON:=hide hON;have HRN:=hide Jr;have HTN:=hide Xm;clear hrun hwN hON Jr Xm hTN U9 SF U8 hg6 hO6 hk6 hO2 U7 RN hcE hTz i1 i2 i3 i4 i5 RL U6 hlk hrt;generalize bs x2=kx at*
            go_wp2_with (first|(rw[←HWt.out])|(at_lookup;refine bR _ rfl _ _ _ _ rfl _ _ _ rfl rfl HLk.out ?_)|(rw[←HWz.out])|(at_builtin;refine wpList_append_run rfl (.tmp 124) (.tmp 126) 83 rfl _ _ _ _ rfl rfl HRn.out ?_)|(rw[←HWN.out]))
            go_roundg (a.terms.length- (y+1))
            case measure=>omega
            case rel=>exact⟨y+1,a6,n6,c6,by omega,by go_num,HON,HRN,HTN⟩
          ·have hO3:=HOt.out;rw[List.take_of_length_le (by omega)] at hO3;have hown:∀k,(Value.slice va vn vc).ownBlock=some k→w5.heap.size≤k∧k<AB:=fun k e=>by
            have:=Kind.bN HOb.out e;rw[HAB.out] at this;exact this
           have Xo:bP.own 85 w5.heap.size wr (.slice va vn vc) ((body.take t).map (dX b0)):=Kind.dV HOb.out (by rw[HAB.out];omega) fun k hk _=>(HTn.out.block k (by rw[HAB.out] at hk;omega) (by rw[HAB.out] at hk;omega)).trans (Zo.out.block hk);have hel:bP.is (fun k=>w5.heap.size≤k∧(Value.slice va vn vc).ownBlock≠some k) wr [.bool a.no,.string nm2,.slice za zn zc] (dX b0 a):=⟨_,by rw[←Zp.out];rfl,Kind.bT (Kind.fA hO3 (by show(a.terms.map (dn b0)).length≤_;rw[List.length_map];omega)) fun k _ (hk:wb.heap.size≤k)=>⟨by omega,fun e=>by have:=(hown k e).2;omega⟩⟩;obtain⟨ti,tz,i1,i2,i3,i4,i5⟩:=Bb;obtain⟨v6,w6,hrun,hO6,hg6,_,_⟩:=Kind.j5 (P:=Tryz.prog) (t:=73) Xo Tryz.underlying73 i1 i2 i3 i4 i5 (by decide) hel (by omega) (by simp only[maxLen];omega) BQ.size;have HB6:Hid (Below w5.heap.size w5 w6):=(aj BQ ((Later.refl wr).alloc _).below BQ.size).grown hg6 (by have:=BQ.size;simp;omega) (fun k e=>(hown k e).1);rw[←HMp.out] at hO6;obtain⟨a6,n6,c6,rfl⟩:∃a n c,v6=.slice a n c:=by obtain⟨a,c,e⟩:=Kind.aV hO6;exact⟨a,_,c,e⟩
           obtain⟨⟨g0,_,_⟩,⟨g1,g2⟩,_,_⟩:=wK HRb.out;have HRn:=hide hrun;have HO6:=hide hO6;clear hO3 hown Xo hel hrun hO6 hg6 i1 i2 i3 i4 i5 BQ HOt HRb HTn HOb HBb HMp
           go_wp2_with (at_builtin;refine wpList_append_run rfl (.tmp 130) (.tmp 132) 73 rfl _ _ _ _ rfl rfl HRn.out ?_)
           go_roundg (body.length- (t+1))
           case measure=>omega
           case rel=>exact⟨t+1,by omega,by go_num,HO6,HB6⟩
        ·have hvo:=HOb.out;rw[List.take_of_length_le (by omega)] at hvo;obtain⟨B',hB'⟩:∃B',B'=dU b0 body:=⟨_,rfl⟩;have Va:bP.own 85 w5.heap.size wr (.slice va vn vc) B':=by rw[hB'];exact hvo
         have hBl:B'.length≤5:=by rw[hB'];unfold dU;rw[List.length_map];omega
         have hvn:vn=B'.length:=by
          obtain⟨a,c,e⟩:=Kind.aV Va
          injection e
         rw[←hB'] at HBp HWb;have hsl:=Kind.dQ (Kind.fA Va (by omega));have Vb:Below w4.heap.size w4 wr:=aj RI.out HBt.out RI.out.size;have Pf:=aj GK.out Vb GK.out.size;have HWi:=hide (U0 B' (.slice va vn vc) (.slice la all.length lc) (.slice none 0 0) all [] (-1) wr hsl (HFu.out.below Pf) ⟨by simp,none,0,rfl,fun h=>absurd rfl h⟩ (Gj HWb.out) (Mh HG.out.good) Pe);have HSl:=hide hsl;have Vd:=hide Vb;subst hvn;clear hvo Va hB' hsl Vb Pf HOb HBt HE5 RJ HTB Xi RI HRF U5 hb5;generalize wr=w6 at*
         go_wp2_with fail
         refine HWi.out.mono ?_;rintro e w7 ⟨v7,er,rfl,hT7,hB7⟩;have RO:=hide (aj Vd.out hB7 Vd.out.size)
         by_cases her:er=0
         ·subst her;have hls:=rV hT7;obtain⟨LS,hLS⟩:∃LS,LS=j6 B' all (jD all B'):=⟨_,rfl⟩;have HLk:Hid (∀l∈LS,LOk B' all l):=fun l hl=>Mg HG.out.good HWb.out (by rw[hLS] at hl;exact hl);have hll:LS.length≤20000:=by rw[hLS];exact rW
          rw[←hLS] at hls HBp;obtain⟨xa,xc,rfl⟩:=Kind.slice hls;have HLs:=hide hls;have HS7:=hide (Kind.aF HSl.out hB7);have hz4:w4.heap.size≤w7.heap.size:=RO.out.size;clear hT7 hls hLS hB7 HWi HSl Vd;go_wp2
          go_loopg [145] LS.length (fun q i wr=>∃t:Nat,t+q=LS.length∧i=.int .i64 t∧Hid (BP=((LS.map (cO B')).drop t).find? fun of=>of.all (inB old))∧Hid (Below w7.heap.size w7 wr))
          case atStart=>exact⟨0,by omega,rfl,(by rw[List.drop_zero];exact HBp.out:_=_),Below.refl _ _⟩
          case round=>
           clear HBp;obtain⟨t,ht,rfl,HBp,HBt⟩:=hrel
           by_cases Zq:t<LS.length
           ·obtain⟨l,hl⟩:∃l,LS[t]?=some l:=⟨_,List.getElem?_eq_getElem Zq⟩;have hfd:=Bd (P:=fun of:List au=>of.all (inB old)) (l:=LS.map (cO B')) (j:=t) (x:=cO B' l) (by rw[List.getElem?_map,hl];rfl);rw[←HBp.out] at hfd;have HFd:=hide hfd;have HOk:=hide (HLk.out l (List.mem_of_getElem? hl));obtain⟨b2,o2,_,e2,hb2,⟨lv,hce,hlv⟩,hc⟩:=Kind.bQ HLs.out hl;subst e2;subst hce;have d0:wr.cell? ⟨b2,o2+t,none⟩=some lv:=by rw[HBt.out.cell (p:=⟨b2,o2+t,none⟩) hb2];simpa[slK] using hc 0 _ rfl
            obtain⟨ya,yc,rfl⟩:=Kind.slice hlv;have aav:=hlv.1.1;have HLv:=hide hlv;obtain⟨wm,hwm⟩:∃wm,wm=wr.alloc (.map #[] 0):=⟨_,rfl⟩;have HEm:Hid (jW wm wr.heap.size 0 []):=by show jW _ _ _ _;rw[hwm];exact jW.made wr
            have HBm:Hid (Below wr.heap.size wr wm):=by show Below _ _ _;rw[hwm];exact((Later.refl wr).alloc _).below
            have hlm:wr.heap.size<wm.heap.size:=by rw[hwm];simp
            have hz7:w7.heap.size≤wr.heap.size:=HBt.out.size;have HWm:=hide hwm;clear hl hfd hc hlv hwm HBp hb2
            go_wp2_with (rw[←HWm.out])
            clear HWm d0;generalize wr=wq at*;generalize hEM:wq.heap.size=EM at*;have HEM:=hide hEM;clear hEM
            go_loopg [152] l.length (fun q i wr=>∃y:Nat,y+q=l.length∧i=.int .i64 y∧Hid (jW wr EM y (l.take y))∧Hid (Below EM wq wr)∧EM<wr.heap.size)
            case atStart=>exact⟨0,by omega,rfl,(by show jW _ _ _ _;rw[List.take_zero];exact HEm.out),HBm,hlm⟩
            case round=>
             clear HEm HBm hlm;obtain⟨y,hy,rfl,HEy,HBy,hly⟩:=hrel;have EF:Below w7.heap.size w7 wr:=aj HBt.out HBy.out hz7
             by_cases hlty:y<l.length
             ·obtain⟨x,hx⟩:∃x,l[y]?=some x:=⟨_,List.getElem?_eq_getElem hlty⟩;obtain⟨b3,o3,_,e3,hb3,hxe,hc⟩:=Kind.bQ HLv.out hx;subst e3;subst hxe;have d0:wr.cell? ⟨b3,o3+y*2,none⟩=some (.string x.1):=by rw[EF.cell (p:=⟨b3,o3+y*2,none⟩) hb3];exact hc 0 _ rfl
              have d1:wr.cell? ⟨b3,o3+y*2+1,none⟩=some (.string x.2):=by rw[EF.cell (p:=⟨b3,o3+y*2+1,none⟩) hb3];exact hc 1 _ rfl
              obtain⟨hs1,hs2⟩:=HOk.out.short x (List.mem_of_getElem? hx);obtain⟨wt,hwt⟩:∃wt,wt=wr.alloc (.cells #[.string x.1,.string x.2] 190):=⟨_,rfl⟩;have hLt:Later wr wt:=by rw[hwt];exact(Later.refl wr).alloc _
              have hrt:wt.heap[wr.heap.size]?=some (.cells #[.string x.1,.string x.2] 190 (0,0)):=by rw[hwt];exact heap_alloc_new wr _
              obtain⟨w8,hup,hE8,hg8⟩:=(HEy.out.later hLt).store (by unfold maxLen;omega) hs1 (by rw[iX];exact JW HOk.out.nodup hx) hs2;rw[iX] at hup hE8;have Xp:jW w8 EM (y+1) (l.take (y+1)):=by rw[vM hx];exact hE8
              have hzt:=hLt.size;have hz8:=hg8.size;have hB8:Below EM wq w8:=(aj HBy.out hLt.below (by omega)).grown hg8 (by omega) (fun k e=>by cases e;exact Nat.le_refl _);obtain⟨c0,c1',_,_,_⟩:=iK hrt;have HUp:=hide hup;have HE8:=hide Xp;have HB8:=hide hB8;have HWt:=hide hwt;have hl8:EM<w8.heap.size:=by omega
              clear hc hx hs1 hs2 hwt hLt hrt hup hE8 Xp hg8 hB8 HEy HBy EF hb3;obtain⟨x1,x2⟩:=x;dsimp only at*
              go_wp2_with (first|(rw[←HWt.out])|(at_mapUpdate;refine aN _ rfl _ _ _ _ rfl _ _ _ _ rfl rfl rfl HUp.out ?_))
              go_roundg (l.length- (y+1))
              case measure=>omega
              case rel=>exact⟨y+1,by omega,by go_num,HE8,HB8,hl8⟩
             ·have hEf:=HEy.out;rw[List.take_of_length_le (by omega)] at hEf;have HEf:=hide hEf;have HS8:=hide (Kind.aF HS7.out EF);have Xq:=hide EF;have hz8:w7.heap.size≤wr.heap.size:=EF.size;clear hEf EF HEy HBy HLv HEM hly hz7;generalize wr=w8 at*;go_wp2
              go_loopg [27,28,164] B'.length (fun q kv gv i wr=>∃(y:Nat) (ka:Option Addr) (kn kc:Nat),y+q=B'.length∧i=.int .i64 y∧kv=.slice ka kn kc∧gv=.bool ((cO (B'.take y) l).all (inB old))∧Hid (qI.own 27 w8.heap.size wr (.slice ka kn kc) (cO (B'.take y) l))∧Hid (Below w8.heap.size w8 wr))
              case atStart=>exact⟨0,none,0,0,by omega,rfl,rfl,rfl,Kind.fF _ _ _ _,Below.refl _ _⟩
              case round=>
               obtain⟨y,ka,kn,kc,hy,rfl,rfl,rfl,Nq,HBy⟩:=hrel;obtain⟨G,hGd⟩:∃G,G=(cO (B'.take y) l).all (inB old):=⟨_,rfl⟩;rw[←hGd];have EF:Below w7.heap.size w7 wr:=aj Xq.out HBy.out hz8;have KF:Below w4.heap.size w4 wr:=aj RO.out EF hz4
               by_cases hlty:y<B'.length
               ·obtain⟨a,ha⟩:∃a,B'[y]?=some a:=⟨_,List.getElem?_eq_getElem hlty⟩;have hmem:=List.mem_of_getElem? ha;obtain⟨b2',o2',_,e2,hb2,⟨xv,hce,htv⟩,hc⟩:=Kind.bQ HS8.out ha;subst e2;subst hce;have d0:wr.cell? ⟨b2',o2'+y*3,none⟩=some (.bool a.no):=by rw[HBy.out.cell (p:=⟨b2',o2'+y*3,none⟩) hb2];simpa[bP] using hc 0 _ rfl
                have d1:wr.cell? ⟨b2',o2'+y*3+1,none⟩=some (.string (bs a.name)):=by rw[HBy.out.cell (p:=⟨b2',o2'+y*3+1,none⟩) hb2];simpa[bP] using hc 1 _ rfl
                have d2:wr.cell? ⟨b2',o2'+y*3+2,none⟩=some xv:=by rw[HBy.out.cell (p:=⟨b2',o2'+y*3+2,none⟩) hb2];simpa[bP] using hc 2 _ rfl
                obtain⟨xa',xc',rfl⟩:=Kind.slice htv;have hfs:=rT (l:=l) ha;obtain⟨f2,hf2,hin2⟩:=HOk.out.fill a hmem;rw[hf2] at hfs;obtain⟨wa,hwa⟩:∃wa,wa=wr.alloc (.cells #[.bool a.no,.string (bs a.name),.slice xa' a.terms.length xc'] 85):=⟨_,rfl⟩;have hLa:Later wr wa:=by rw[hwa];exact(Later.refl wr).alloc _
                have hra:wa.heap[wr.heap.size]?=some (.cells #[.bool a.no,.string (bs a.name),.slice xa' a.terms.length xc'] 85 (0,0)):=by rw[hwa];exact heap_alloc_new wr _
                obtain⟨⟨c0,_,_⟩,⟨c1',c2'⟩,_,_⟩:=wK hra;have hBa:Below w8.heap.size w8 wa:=aj HBy.out hLa.below HBy.out.size;have HWa:=hide hwa;have HBa:=hide hBa;have hfl:(cO (B'.take y) l).length≤5:=Nat.le_trans (jU _ _) (by rw[List.length_take];omega);cases hno:a.no with
                |true=>
                 rw[hno] at hfs d0 HWa c0;simp only[if_true,List.append_nil] at hfs;have HO3:Hid (qI.own 27 w8.heap.size wa (.slice ka kn kc) (cO (B'.take (y+1)) l)):=by
                  show Kind.own _ _ _ _ _ _;rw[hfs];exact Kind.dV Nq.out hLa.size fun k hk _=>hLa.block hk
                 have HFs:=hide hfs;clear hc ha htv hwa hLa hra hBa hfs hf2 hin2 hno hmem Nq HBy EF KF;have HGd:=hide hGd;clear hGd;generalize bs a.name=nm2 at*
                 go_wp2_with (rw[←HWa.out])
                 go_roundg (B'.length- (y+1))
                 case measure=>omega
                 case rel=>exact⟨y+1,ka,kn,kc,by omega,by go_num,rfl,by rw[HFs.out,HGd.out],HO3,HBa⟩
                |false=>
                 rw[hno] at hfs d0 HWa c0 hin2;simp only[Bool.false_eq_true,if_false,Option.toList_some,Bool.not_false] at hfs hin2;have hFi:=M5 a (.slice xa' a.terms.length xc') l EM _ wa (Kind.aF htv hBa) (HEf.out.below hBa) (Gm HWb.out a hmem);rw[hno,hf2] at hFi;have HFi:=hide hFi;have hGn:(cO (B'.take (y+1)) l).all (inB old)=(G&&inB old f2):=by rw[hfs,List.all_append,hGd];simp
                 have Xt:=HG.out.good.right f2 (dB.1 hin2);have aaw:=Xt.2.1;have Zn:=hLa.size;have Zr:=HBy.out.size;have HFs:=hide hfs;have HGn:=hide hGn;have HLa:=hide hLa;have Xu:=hide KF;clear hc ha htv hwa hra hBa hfs hf2 hin2 hno hmem hFi hGn hLa Xt HBa EF hGd KF hb2;generalize bs a.name=nm2 at*
                 go_wp2_with (first|(rw[←HWa.out])|fail)
                 refine HFi.out.mono ?_;rintro e w9 ⟨v9,rfl,_,hL9,RQ⟩;obtain⟨s9,rfl,hO9⟩:=RQ f2 rfl;obtain⟨s9a,s9c,rfl⟩:=Kind.aV hO9;simp only[Option.isSome_some];obtain⟨wf,hwf⟩:∃wf,wf=w9.alloc (.cells #[.string f2.1,.slice s9a f2.2.length s9c] 27):=⟨_,rfl⟩;have hLf:Later w9 wf:=by rw[hwf];exact(Later.refl w9).alloc _
                 have hrf:wf.heap[w9.heap.size]?=some (.cells #[.string f2.1,.slice s9a f2.2.length s9c] 27 (0,0)):=by rw[hwf];exact heap_alloc_new w9 _
                 have Ve:Later wr wf:=(HLa.out.trans hL9).trans hLf;have Vf:Below w4.heap.size w4 wf:=aj Xu.out Ve.below Xu.out.size;have Vg:=aj GK.out Vf GK.out.size;have Vh:=WZ PS f2 g cap P _ (.int .i64 (c1:Int)) (.agg #[.string f2.1,.slice s9a f2.2.length s9c]) wf (by rw[HG.out.len];exact(Vf.block _ SY).trans C8.out) (HG.out.rnd.below HG.out.lt Vg) (Nat.lt_of_lt_of_le HG.out.lt Vg.size) HG.out.few ⟨_,rfl,(Du hO9 (by omega)).later hLf⟩;obtain⟨OA,hOA⟩:∃OA,OA=dM PS f2:=⟨_,rfl⟩;have J3:decide (OA<A)=inB old f2:=by rw[hOA];exact Xc.out f2
                 have aax:OA≤1000001:=by
                  have h1:=HG.out.few;have h2:dM PS f2≤PS.length:=List.findIdx_le_length;omega
                 rw[←hOA] at Vh;have Vi:=hide Vh;have Zt:w9.heap.size<wf.heap.size:=(Array.getElem?_eq_some_iff.1 hrf).1;obtain⟨p0,p1,_,_,_⟩:=iK hrf;have p1':wf.cell? ⟨w9.heap.size,0+1,none⟩=some (.slice s9a f2.2.length s9c):=p1;have hz9:=hL9.size;have HWf:=hide hwf;have HRf:=hide hrf;have Xv:=hide Ve;have HLf:=hide hLf;have HO9:=hide hO9;have hcase:(G=true∧OA<A)∨(G=true∧¬OA<A)∨G=false:=by
                  cases G with
                  |false=>exact Or.inr (Or.inr rfl)
                  |true=>
                   by_cases h:OA<A
                   ·exact Or.inl ⟨rfl,h⟩
                   ·exact Or.inr (Or.inl ⟨rfl,h⟩)
                 clear RQ hwf hLf hrf Ve Vf Vg Vh hOA hO9 p1 HFi HWa d0 d1 d2 c0 c1' c2' hL9;obtain⟨gn,gargs⟩:=f2;dsimp only at*;rcases hcase with⟨rfl,hlt2⟩|⟨rfl,hlt2⟩|rfl
                 case' inl=>
                  have HG2:Hid ((cO (B'.take (y+1)) l).all (inB old)=true):=by show _=_;rw[HGn.out,←J3];simp[hlt2]
                  have hli:(OA:Int)<(A:Int):=by omega
                  clear J3 HGn
                  go_wp2_with (first|(rw[←HWf.out])|fail)
                  refine Vi.out.mono ?_;rintro e w10 ⟨rfl,qx⟩
                 case' inr.inl=>
                  have HG2:Hid ((cO (B'.take (y+1)) l).all (inB old)=false):=by show _=_;rw[HGn.out,←J3];simp[hlt2]
                  have hli:¬(OA:Int)<(A:Int):=by omega
                  clear J3 HGn
                  go_wp2_with (first|(rw[←HWf.out])|fail)
                  refine Vi.out.mono ?_;rintro e w10 ⟨rfl,qx⟩
                 case' inr.inr=>
                  have HG2:Hid ((cO (B'.take (y+1)) l).all (inB old)=false):=by show _=_;rw[HGn.out];rfl
                  clear J3 HGn Vi;obtain⟨w10,KA⟩:∃w10,w10=wf:=⟨_,rfl⟩;subst KA;have qx:Later w10 w10:=Later.refl _
                 all_goals
                  have J4:=Xv.out.trans qx;have Pg:=HLf.out.trans qx;have RS:=(qx.block Zt).trans HRf.out;obtain⟨r0,r1,_,_,_⟩:=iK RS;have r1':w10.cell? ⟨w9.heap.size,0+1,none⟩=some (.slice s9a gargs.length s9c):=r1;have Q7:qI.own 27 w8.heap.size w10 (.slice ka kn kc) (cO (B'.take y) l):=Kind.dV Nq.out J4.size fun k hk _=>J4.block hk;have Ph:∀k,(Value.slice ka kn kc).ownBlock=some k→w8.heap.size≤k∧k<wr.heap.size:=fun k e=>Kind.bN Nq.out e;have hel:qI.is (fun k=>w8.heap.size≤k∧(Value.slice ka kn kc).ownBlock≠some k) w10 [.string gn,.slice s9a gargs.length s9c] (gn,gargs):=⟨_,rfl,Kind.bT (Kind.bM (Kind.fA HO9.out (by show gargs.length≤_;omega)) Pg.size fun k hk _=>Pg.block hk) fun k _ (hk:wa.heap.size+3≤k)=>⟨by omega,fun e=>by have:=(Ph k e).2;omega⟩⟩;obtain⟨ti,i1,i2,i3,i4⟩:=JY;have Xw:=J4.size;obtain⟨v11,w11,hrun,GI,vg,_,_⟩:=Kind.j5 (P:=Tryz.prog) (t:=24) Q7 Tryz.underlying24 i1 i2 i3 i4 rfl (by decide) hel (by omega) (by simp only[maxLen];omega) (by omega);have Zu:Hid (Below w8.heap.size w8 w11):=(aj HBy.out (J4.alloc _).below HBy.out.size).grown vg (by rw[World.size_alloc];omega) (fun k e=>(Ph k e).1);rw[←HFs.out] at GI;obtain⟨a6,n6,c6,rfl⟩:∃a n c,v11=.slice a n c:=by obtain⟨a,c,e⟩:=Kind.aV GI;exact⟨a,_,c,e⟩
                  have HRn:=hide hrun;have P6:=hide GI;clear qx J4 Pg RS Q7 Ph hel i1 i2 i3 i4 hrun GI vg Xw Nq HBy Xv HLf HRf HO9 HFs r1
                  go_wp2_with (first|(rw[←HWf.out])|(at_builtin;refine wpList_append_run rfl (.tmp 184) (.tmp 186) 24 rfl _ _ _ _ rfl rfl HRn.out ?_))
                  go_roundg (B'.length- (y+1))
                  case measure=>omega
                  case rel=>exact⟨y+1,a6,n6,c6,by omega,by go_num,rfl,by rw[HG2.out],P6,Zu⟩
               ·obtain⟨K,hKd⟩:∃K,K=cO B' l:=⟨_,rfl⟩;have hke:=Nq.out;rw[List.take_of_length_le (by omega),←hKd] at hke;rw[List.take_of_length_le (by omega),←hKd] at hGd;have hfd:=HFd.out;rw[←hKd] at hfd
                try dsimp only at hfd
                rw[←hGd] at hfd;cases G with
                |false=>
                 have Zv:Hid (BP=((LS.map (cO B')).drop (t+1)).find? fun of=>of.all (inB old)):=hfd;have Zw:=hide EF;clear hke hGd hfd hKd Nq HBy EF KF HFd;go_wp2
                 go_roundg (LS.length- (t+1))
                 case measure=>omega
                 case rel=>exact⟨t+1,by omega,by go_num,Zv,Zw⟩
                |true=>
                 have hbs:BP=some K:=hfd;have hhw:how (fn,aH)=((j:Int),K):=by
                  have:=HFb.out;rw[hbs] at this;exact this
                 have HKm:Hid (∀k∈K,k∈all):=fun k hk=>Gn HOk.out k (by rw[←hKd];exact hk);have hKl:K.length≤5:=by rw[hKd];exact Nat.le_trans (jU _ _) hBl
                 have hkn:kn=K.length:=by
                  obtain⟨a,c,e⟩:=Kind.aV hke
                  injection e
                 obtain⟨M,rfl⟩:∃M,N=M+1:=⟨N-1,by have:=HN.out;omega⟩;have hpg:=yw (N:=M+1) HC1.out HD1.out HMu.out hhw;obtain⟨PG,hPG⟩:∃PG,PG=lI (fun g s=>bJ how (M+1) g (dep+1) s) K [] (c1,d1):=⟨_,rfl⟩;rw[←hPG] at hpg;have hrw:=(KF.block _ U3).trans HR4.out;have hrP:=(KF.block _ SY).trans C8.out;have Pj:=hide (Xe.out.trans (Tn.Mi KF));have Ta:=hide (aj GK.out KF GK.out.size);obtain⟨wO,hwO⟩:∃wO,wO=wr.alloc (.cells #[.string fn,.slice sa aH.length sc,.int .i64 (j:Int),.slice none 0 0] 30):=⟨_,rfl⟩;have hLO:Later wr wO:=by rw[hwO];exact(Later.refl wr).alloc _
                 have hrO:wO.heap[wr.heap.size]?=some (.cells #[.string fn,.slice sa aH.length sc,.int .i64 (j:Int),.slice none 0 0] 30 (0,0)):=by rw[hwO];exact heap_alloc_new wr _
                 have hPr:P<wr.heap.size:=Nat.lt_of_lt_of_le SY KF.size;have HKf:Hid (qI.sl (fun k=>w8.heap.size≤k∧k<wr.heap.size) wr (.slice ka kn kc) K):=Kind.bT (Kind.fA hke (by omega)) fun k hk (h:w8.heap.size≤k)=>⟨h,hk⟩;have Xx:=(hLO.block hPr).trans hrP;have hP8:P<w8.heap.size:=Nat.lt_of_lt_of_le SY (Nat.le_trans hz4 hz8);have hlO:wr.heap.size<wO.heap.size:=(Array.getElem?_eq_some_iff.1 hrO).1;have Zr:=HBy.out.size;obtain⟨q0,q1,_,_,hwl⟩:=iK hrw;have q1':wr.cell? ⟨w.heap.size,0+1,none⟩=some (.slice sa aH.length sc):=q1;have HPG:=hide hpg;have zN:=hide hPG;have HLO:=hide hLO;have HRO:=hide hrO;have Xy:=hide Xx;have HWO:=hide hwO;subst hkn;clear hke hGd hfd hKd hbs hhw hpg hPG hrw hrP hwO hLO hrO Xx Nq HBy EF KF HFd HFb HOk HLk HLs HS7 HS8 HEf Xq RO HBt HMu HA Xc Xd HR4 C8 Xe PW HWb q1
                 go_wp2_with (rw[←HWO.out])
                 clear q0 q1' HWO;generalize wr=wF at*;generalize hBX:wF.heap.size=bx at*;have HBX:=hide hBX;clear hBX
                 go_loopg [197] K.length (fun q i wr=>∃(y:Nat) (done:List bH) (cc dd:Nat) (ra:Option Addr) (rn rc:Nat),y+q=K.length∧i=.int .i64 y∧Hid (done.length=y)∧Hid (((lD (M+1)).but bx).own 30 w8.heap.size wr (.slice ra rn rc) done)∧Hid (∀k,(Value.slice ra rn rc).ownBlock=some k→wO.heap.size≤k)∧Hid (wr.heap[bx]?=some (.cells #[.string fn,.slice sa aH.length sc,.int .i64 (j:Int),.slice ra rn rc] 30 (0,0)))∧Hid (wr.heap[P]?=some (.cells #[.slice (some ⟨b1,o1,none⟩) p.length pc,.slice (some ⟨g,0,none⟩) (m+1) cap,.int .i64 (cc:Int)] 123 (0,0)))∧Hid (PG=lI (fun g s=>bJ how (M+1) g (dep+1) s) (K.drop y) done (cc,dd))∧cc≤400∧dd≤60∧Hid (Kq P bx wO wr))
                 case atStart=>exact⟨0,[],c1,d1,none,0,0,by omega,rfl,(rfl:_=_),Kind.fF _ _ _ _,(fun k e=>by cases e),HRO,Xy,(by rw[List.drop_zero];exact zN.out:_=_),Ut,Uu,Kq.refl _ _ _⟩
                 case round=>
                  clear zN HRO Xy;obtain⟨y,done,cc,dd,ra,rn,rc,hy,rfl,HDn,HO,HOl,HRb,HRP,zN,hcc,hdd,HK⟩:=hrel;have Ua:=HK.out.size;have Pf:Below w0.heap.size w0 wr:=aj (aj Ta.out HLO.out.below Ta.out.size) (HK.out.below hP (by have:=Ta.out.size;rw[HBX.out] at this;exact this) (Nat.le_trans Ta.out.size HLO.out.size)) (Nat.le_refl _);have Tc:Tn P w wr:=⟨HK.out.os.trans (HLO.out.below.os.trans Pj.out.os),HK.out.tape.trans (HLO.out.below.tape.trans Pj.out.tape),HK.out.output.trans (HLO.out.below.output.trans Pj.out.output),by have h1:=Pj.out.size;rw[HBX.out] at h1;omega,fun k hk h1=>(HK.out.block k (by have h1:=Pj.out.size;rw[HBX.out] at h1;omega) h1 (by omega)).trans ((HLO.out.block (by have h1:=Pj.out.size;omega)).trans (Pj.out.block k hk h1))⟩
                  by_cases hlty:y<K.length
                  ·obtain⟨f2,hf2⟩:∃f2,K[y]?=some f2:=⟨_,List.getElem?_eq_getElem hlty⟩;have hKr:qI.sl (fun k=>w8.heap.size≤k∧k<bx) wr (.slice ka K.length kc) K:=Kind.bM HKf.out (by rw[HBX.out];omega) fun k hk hb=>(HK.out.block k (by omega) (by omega) (by omega)).trans (HLO.out.block hk);obtain⟨b3,o3,_,e3,hb3,⟨s2,hce,hs2⟩,hc⟩:=Kind.bQ hKr hf2;subst e3;subst hce;have d0:wr.cell? ⟨b3,o3+y*2,none⟩=some (.string f2.1):=by simpa[qI] using hc 0 _ rfl
                   have d1:wr.cell? ⟨b3,o3+y*2+1,none⟩=some s2:=by simpa[qI] using hc 1 _ rfl
                   obtain⟨s2a,s2c,rfl⟩:=Kind.slice hs2;have hdr:K.drop y=f2::K.drop (y+1):=by
                    obtain⟨hi,e⟩:=List.getElem?_eq_some_iff.1 hf2;rw[List.drop_eq_getElem_cons hi,e]
                   have hfm:=HKm.out f2 (List.mem_of_getElem? hf2);have hrn:y=rn:=by
                    obtain⟨a,c,e⟩:=Kind.aV HO.out
                    injection e with _ e _
                    rw[e,HDn.out]
                   subst hrn;obtain⟨w9,hw9⟩:∃w9,w9=wr.alloc (.cells #[.string f2.1,.slice s2a f2.2.length s2c] 27):=⟨_,rfl⟩;have hL9:Later wr w9:=by rw[hw9];exact(Later.refl wr).alloc _
                   have hr9:w9.heap[wr.heap.size]?=some (.cells #[.string f2.1,.slice s2a f2.2.length s2c] 27 (0,0)):=by rw[hw9];exact heap_alloc_new wr _
                   have hPw:=(Array.getElem?_eq_some_iff.1 HRP.out).1;have LJ:=HIh.out (by omega) f2 (.slice s2a f2.2.length s2c) (dep+1) cc dd w9 (by have:=HN.out;omega) (aj Pf hL9.below Pf.size) ((hL9.block hPw).trans HRP.out) hcc hdd hfm ((jd hs2).later hL9);rw[show(((dep+1:Nat):Int))=(dep:Int)+1 from rfl] at LJ;obtain⟨PX,hPX⟩:∃PX,PX=bJ how (M+1) f2 (dep+1) (cc,dd):=⟨_,rfl⟩;rw[←hPX] at LJ;obtain⟨x0,x1,_,_,hl9⟩:=iK hr9;have x1':w9.cell? ⟨wr.heap.size,0+1,none⟩=some (.slice s2a f2.2.length s2c):=x1;have Q6:=hide LJ;have HPX:=hide hPX;have HW9:=hide hw9;have HL9:=hide hL9;have HDr:=hide hdr;have HS2:=hide hs2;have Zx:=hide Tc;clear hKr hc hf2 hs2 hdr hfm hw9 hL9 hr9 LJ hPX Tc Pf x1 hb3;obtain⟨gn,gargs⟩:=f2;dsimp only at*
                   go_wp2_with (first|(rw[←HW9.out])|fail)
                   refine Q6.out.mono ?_;rintro e w10 ⟨hV,J5,Nr⟩;obtain⟨PX1,c9,d9⟩:=PX;dsimp only at hV J5;have Gs:Kq P bx wr w10:=(Kq.of_below HL9.out.below).trans (Kq.OQ Nr);have Pk:Tn P w w10:=(Zx.out.trans (Tn.of_below HL9.out.below)).trans Nr;have hz9:=HL9.out.size;have Xw:=Nr.size;clear Q6 d0 d1 x0 x1' HW9;cases PX1 with
                   |none=>
                    have he:e=.returned (.pointer none):=hV;subst he;have HE:Hid (bJ how (M+1+1) (fn,aH) dep (c,d)=(none,(c9,d9))):=by
                     show _=_;rw[HPG.out,zN.out,HDr.out,xU HPX.out.symm]
                     rfl
                    have HRf:=hide J5;have HTf:=hide Pk;clear hV J5 Pk Gs Nr zN HPG HO HIh HPX;go_wp2;go_ret;exact⟨by rw[HE.out];exact rfl,by rw[HE.out];exact HRf.out,HTf.out⟩
                   |some x=>
                    obtain⟨b9,kv9,he,hb9,hxf,hrx,hk9⟩:=hV;subst he;have hk9:(lD M).sl (From w9.heap.size) w10 kv9 x.kids:=hk9;obtain⟨ka9,kc9,rfl⟩:=Kind.slice hk9;have hbd:=ru (M+1) (gn,gargs) (dep+1) (cc,dd) x (c9,d9) HPX.out.symm;dsimp only at hbd;have HE:Hid (PG=lI (fun g s=>bJ how (M+1) g (dep+1) s) (K.drop (y+1)) (done++[x]) (c9,d9)):=by
                     show _=_;rw[zN.out,HDr.out];exact xV HPX.out.symm
                    have hlb:bx<wr.heap.size:=(Array.getElem?_eq_some_iff.1 HRb.out).1;have zA:w10.heap[bx]?=some (.cells #[.string fn,.slice sa aH.length sc,.int .i64 (j:Int),.slice ra y rc] 30 (0,0)):=(Nr.block bx (by omega) (by omega)).trans ((HL9.out.block hlb).trans HRb.out);have Zy:b9<w10.heap.size:=(Array.getElem?_eq_some_iff.1 hrx).1;have BH:∀k,(Value.slice ra y rc).ownBlock=some k→k<wr.heap.size:=fun k e=>(Kind.bN HO.out e).2;obtain⟨wD,hwD⟩:∃wD,wD=w10.drew:=⟨_,rfl⟩;have hbD:∀k:Nat,wD.heap[k]?=w10.heap[k]?:=fun k=>by rw[hwD];rfl
                    have Zz:wD.heap.size≤w10.heap.size:=by rw[hwD];exact Nat.le_refl _
                    have ZA:w10.heap.size≤wD.heap.size:=by rw[hwD];exact Nat.le_refl _
                    have hOD:((lD (M+1)).but bx).own 30 w8.heap.size wD (.slice ra y rc) done:=Dc HO.out (by omega) (fun k hk hlo hne=>(hbD k).trans ((Nr.block k (by omega) (by omega)).trans (HL9.out.block hk))) (fun e=>by have:=HOl.out bx e;omega);have hzr:((lD (M+1)).but bx).is (fun k=>w8.heap.size≤k∧(Value.slice ra y rc).ownBlock≠some k) wD [.string ⟨#[]⟩,.slice none 0 0,.int .i64 0,.slice none 0 0] (bH.mk (⟨#[]⟩,[]) 0 []):=⟨_,_,rfl,Kind.eT _ _ _ _ _,Kind.eT _ _ _ _ _⟩;have hdl:=HDn.out;obtain⟨ti,i1,i2,i3,i4⟩:=xS;obtain⟨v11,w11,hrun,GI,vg,_,M4⟩:=Kind.j5 (P:=Tryz.prog) (t:=28) hOD Tryz.underlying28 i1 i2 i3 i4 rfl (by show 0<4;decide) hzr (by omega) (by simp only[maxLen];omega) (by omega);have Xz:=vg.size;rw[World.size_alloc] at Xz;have Pm:∀k,k<wD.heap.size→(Value.slice ra y rc).ownBlock≠some k→w11.heap[k]?=w10.heap[k]?:=fun k hk hne=>(vg.block k (by rw[World.size_alloc];omega) (fun e=>hne e.symm)).trans ((Below.heap_alloc wD _ k hk).trans (hbD k));have XA:bsK.sl (fun k=>w8.heap.size≤k∧k<bx) w11 (.slice s2a gargs.length s2c) x.fact.2:=by
                     rw[hxf];exact Kind.bM HS2.out (by omega) fun k hk hb=>(Pm k (by omega) (fun e=>by have:=HOl.out k e;omega)).trans ((Nr.block k (by omega) (by omega)).trans (HL9.out.block hk))
                    have RU:(lD M).sl (fun k=>w9.heap.size≤k∧k<w10.heap.size) w11 (.slice ka9 x.kids.length kc9) x.kids:=Kind.bM (Kind.bT hk9 fun k hk (h:w9.heap.size≤k)=>⟨h,hk⟩) (by omega) fun k hk hb=>Pm k (by omega) (fun e=>by have:=BH k e;omega);have hcx:((lD (M+1)).but bx).is (fun k=>w8.heap.size≤k∧v11.ownBlock≠some k) w11 [.string gn,.slice s2a gargs.length s2c,.int .i64 x.rule,.slice ka9 x.kids.length kc9] x:=⟨_,_,by rw[hxf],Kind.bT XA fun k _ hb=>⟨⟨hb.1,fun e=>by
                     rcases M4 k e with h|h
                     ·have:=HOl.out k h;omega
                     ·omega⟩,by omega⟩,Kind.bT RU fun k _ hb=>⟨⟨by omega,fun e=>by
                     rcases M4 k e with h|h
                     ·have:=BH k h;omega
                     ·omega⟩,by omega⟩⟩
                    obtain⟨g11,vN,XB,hlg,hgl,hfz,⟨cur,hcur,Mq⟩,_⟩:=ED (K:=(lD (M+1)).but bx) rfl GI hcx;rw[hdl] at XB Mq;subst XB;have hgO:wO.heap.size≤g11:=by
                     rcases M4 g11 rfl with h|h
                     ·exact HOl.out g11 h
                     ·omega
                    have hg9:g11≠b9:=by
                     rcases M4 g11 rfl with h|h
                     ·have:=BH g11 h;omega
                     ·omega
                    have CQ:=(Pm bx (by omega) (fun e=>by have:=HOl.out bx e;omega)).trans zA;have Pn:=(Pm b9 (by omega) (fun e=>by have:=BH b9 e;omega)).trans hrx;have RV:=(Pm P (by omega) (fun e=>by have:=HOl.out P e;omega)).trans J5;obtain⟨⟨_,_,_,m3⟩,_,_,_⟩:=dJ zA;obtain⟨wE,hwE⟩:∃wE,wE=(w10.alloc (.cells #[.string ⟨#[]⟩,.slice none 0 0,.int .i64 0,.slice none 0 0] 30)).drew:=⟨_,rfl⟩;have HRn:Hid ((Builtin.append_ #[28,28] 28 #[.slice ra y rc,.slice (some ⟨w10.heap.size,0,none⟩) 1 1]).run Tryz.prog wE=.ok (.slice (some ⟨g11,0,none⟩) (y+1) vN) w11):=by
                     show _=_;rw[hwE];rw[hwD] at hrun;exact hrun
                    have hSE:wE.heap[b9]?=some (.cells #[.string gn,.slice s2a gargs.length s2c,.int .i64 x.rule,.slice ka9 x.kids.length kc9] 30 (0,0)):=by
                     rw[hwE];exact(Below.heap_alloc w10 _ b9 Zy).trans hrx
                    have m3E:wE.cell? ⟨bx,3,none⟩=some (.slice ra y rc):=by
                     have:wE.heap[bx]?=w10.heap[bx]?:=by rw[hwE];exact Below.heap_alloc w10 _ bx (by omega)
                     exact(dJ (this.trans zA)).1.2.2.2
                    have HWE:=hide hwE;have hyi:(y:Int)<(y:Int)+1:=by omega
                    obtain⟨⟨_,_,_,o3⟩,_,⟨_,_,_,t3⟩,_⟩:=dJ CQ;have hcell:∀o,o<cur.size→∃v,w11.cell? ⟨g11,o,none⟩=some v:=fun o ho=>⟨cur[o],by rw[cell_of_row _ _ _ _ _ _ hcur];exact Array.getElem?_eq_getElem ho⟩;obtain⟨zv0,ze0⟩:=hcell (y*4) (by omega);obtain⟨zv1,ze1⟩:=hcell (y*4+1) (by omega);obtain⟨zv2,ze2⟩:=hcell (y*4+2) (by omega);obtain⟨zv3,ze3⟩:=hcell (y*4+3) (by omega);have hgb:g11≠bx:=by omega
                    have Td:wD.os=w10.os∧wD.tape=w10.tape∧wD.output=w10.output:=by rw[hwD];exact⟨rfl,rfl,rfl⟩
                    have HFin:Hid (∀wN:World,wN.os=w11.os→wN.tape=w11.tape→wN.output=w11.output→w11.heap.size≤wN.heap.size→(∀k,k<w11.heap.size→k≠bx→k≠g11→wN.heap[k]?=w11.heap[k]?)→wN.heap[P]?=some (.cells #[.slice (some ⟨b1,o1,none⟩) p.length pc,.slice (some ⟨g,0,none⟩) (m+1) cap,.int .i64 (c9:Int)] 123 (0,0))∧Kq P bx wO wN):=fun wN h1 h2 h3 h4 h5=>
                     ⟨(h5 P (by omega) (by omega) (by omega)).trans RV,⟨h1.trans (vg.os.trans (Td.1.trans (Gs.os.trans HK.out.os))),h2.trans (vg.tape.trans (Td.2.1.trans (Gs.tape.trans HK.out.tape))),h3.trans (vg.output.trans (Td.2.2.trans (Gs.output.trans HK.out.output))),by omega,fun k hk hn1 hn2=>(h5 k (by omega) hn2 (by omega)).trans ((Pm k (by omega) (fun e=>by have:=HOl.out k e;omega)).trans ((Gs.block k (by omega) hn1 hn2).trans (HK.out.block k hk hn1 hn2)))⟩⟩
                    have P6:=hide GI;have HCx:=hide hcx;have HFz:=hide hfz;have aay:=hfz (y*4);have aaz:=hfz (y*4+1);have aaA:=hfz (y*4+2);have aaB:=hfz (y*4+3);have HDN:Hid ((done++[x]).length=y+1):=by show _=_;rw[List.length_append,hdl];rfl
                    have HOL:Hid (∀k,(Value.slice (some ⟨g11,0,none⟩) (y+1) vN).ownBlock=some k→wO.heap.size≤k):=fun k e=>by
                     simp only[Value.ownBlock,Option.some.injEq] at e;omega
                    have aaC:w8.heap.size≤b9:=by omega
                    have XC:b9≠bx:=by omega
                    have HKz:=hide (⟨hcur,Mq⟩:_∧_);have aaD:b9<w11.heap.size:=by omega
                    have aaE:bx<w11.heap.size:=by omega
                    have HRx:=hide hrx;have XD:=hide CQ;have HDl:=hide hdl;clear hwE hrun GI hcx hfz hcell XA RU Pm M4 hOD hzr vg Xz hbD Zz ZA hwD J5 RV zA hrx hk9 BH hdl Td Nr Pk Gs hcur Mq i1 i2 i3 i4 CQ;go_wp2;refine wp_region_held_drew (S:=fun w'=>w'.heap[b9]?=some (.cells #[.string gn,.slice s2a gargs.length s2c,.int .i64 x.rule,.slice ka9 x.kids.length kc9] 30 (0,0))) (by kernel_rfl) HRx.out (fun hHeld=> ?_);refine ak (i:=0) (d:=some 208) (v:= ?_) rfl rfl hHeld ?_ ?_;rotate_left;focus intro w hSw;(try dsimp only at hSw);go_simp;try with_reducible rfl
                    simp only[aK,aL,aze,asu];refine ak (i:=1) (d:=some 209) (v:= ?_) rfl rfl hHeld ?_ ?_;rotate_left;focus intro w hSw;(try dsimp only at hSw);go_simp;try with_reducible rfl
                    simp only[aK,aL,aze,asu];refine ak (i:=2) (d:=some 210) (v:= ?_) rfl rfl hHeld ?_ ?_;rotate_left;focus intro w hSw;(try dsimp only at hSw);go_simp;try with_reducible rfl
                    simp only[aK,aL,aze,asu];refine ak (i:=4) (d:=some 212) (v:= ?_) rfl rfl hHeld ?_ ?_;rotate_left;focus intro w hSw;(try dsimp only at hSw);go_simp;try with_reducible rfl
                    simp only[aK,aL,aze,asu];refine ak (i:=5) (d:=some 213) (v:= ?_) rfl rfl hHeld ?_ ?_;rotate_left;focus intro w hSw;(try dsimp only at hSw);go_simp;try with_reducible rfl
                    simp only[aK,aL,aze,asu];refine ak (i:=6) (d:=some 214) (v:= ?_) rfl rfl hHeld ?_ ?_;rotate_left;focus intro w hSw;(try dsimp only at hSw);obtain⟨⟨p0,p1,p2,p3⟩,⟨p4,p5,p6⟩,_,_⟩:=dJ hSw;go_simp;try with_reducible rfl
                    simp only[aK,aL,aze,asu];refine wpAnyH_ready (rs:=[3,8]) (by kernel_rfl) (by simp) ?_;refine AllReadyH.cons rfl (fun K' hK=> ?ga) (AllReadyH.cons rfl (fun K' hK=> ?gb) AllReadyH.nil)
                    case' ga=>
                     go_simp;refine hK.out _ _ hHeld (fun hHeld=> ?_);clear hK K';refine ak (i:=7) (d:=some 215) (v:= ?_) rfl rfl hHeld ?_ ?_;rotate_left;focus intro w hSw;(try dsimp only at hSw);go_simp;try with_reducible rfl
                     simp only[aK,aL,aze,asu];refine wpAnyH_ready (rs:=[8]) (by kernel_rfl) (by simp) ?_;refine AllReadyH.cons rfl (fun K' hK=> ?_) AllReadyH.nil;go_simp;rw[←HWE.out];refine hK.out _ _ hSE (fun hHeld=> ?_);clear hK K'
                    case' gb=>
                     go_simp;rw[←HWE.out];refine hK.out _ _ hSE (fun hHeld=> ?_);clear hK K';refine wpAnyH_ready (rs:=[3]) (by kernel_rfl) (by simp) ?_;refine AllReadyH.cons rfl (fun K' hK=> ?_) AllReadyH.nil;go_simp;refine hK.out _ _ hSE (fun hHeld=> ?_);clear hK K';refine ak (i:=7) (d:=some 215) (v:= ?_) rfl rfl hHeld ?_ ?_;rotate_left;focus intro w hSw;(try dsimp only at hSw);go_simp;try with_reducible rfl
                     simp only[aK,aL,aze,asu]
                    all_goals
                     refine wpAnyH_ready (rs:=[9]) (by kernel_rfl) (by simp) ?_;refine aG (i:=9) (d:=some 217) rfl rfl rfl (.tmp 211) (.tmp 216) 28 28 rfl rfl _ _ _ _ rfl rfl HRn.out Pn (fun hHeld=> ?_) AllReadyH.nil;simp only[aK,aL,aze,asu];refine ak (i:=10) (d:=some 218) (v:= ?_) rfl rfl hHeld ?_ ?_;rotate_left;focus intro w hSw;(try dsimp only at hSw);go_simp;try with_reducible rfl
                     simp only[aK,aL,aze,asu];refine ak (i:=12) (d:=some 219) (v:= ?_) rfl rfl hHeld ?_ ?_;rotate_left;focus intro w hSw;(try dsimp only at hSw);go_simp;try with_reducible rfl
                     simp only[aK,aL,aze,asu];refine ak (i:=13) (d:=some 220) (v:= ?_) rfl rfl hHeld ?_ ?_;rotate_left;focus intro w hSw;(try dsimp only at hSw);go_simp;try with_reducible rfl
                     simp only[aK,aL,aze,asu];refine wpAnyH_ready (rs:=[11,14]) (by kernel_rfl) (by simp) ?_;refine AllReadyH.cons rfl (fun K' hK=> ?_) (AllReadyH.cons rfl (fun K' hK=> ?_) AllReadyH.nil)
                     ·go_simp;have hOA:((lD (M+1)).but bx).own 30 w8.heap.size (putAt w11 g11 (y*4) (.string gn) (.slice s2a gargs.length s2c) (.int .i64 x.rule) (.slice ka9 x.kids.length kc9)) (.slice (some ⟨g11,0,none⟩) (y+1) vN) (done++[x]):=JX rfl P6.out HCx.out HDl.out;have hTA:=zK w11 g11 (y*4) (.string gn) (.slice s2a gargs.length s2c) (.int .i64 x.rule) (.slice ka9 x.kids.length kc9);obtain⟨wA,hwA⟩:∃wA,wA=putAt w11 g11 (y*4) (.string gn) (.slice s2a gargs.length s2c) (.int .i64 x.rule) (.slice ka9 x.kids.length kc9):=⟨_,rfl⟩;rw[←hwA] at hOA hTA;unfold putAt at hwA;rw[←hwA];have Vj:=(hTA.block b9 (by omega) (by omega)).trans Pn;have Vk:=(hTA.block bx (by omega) (by omega)).trans XD.out;refine hK.out _ _ Vj (fun hHeld=> ?_);clear hK K' hwA;refine wpAnyH_ready (rs:=[14]) (by kernel_rfl) (by simp) ?_;refine AllReadyH.cons rfl (fun K' hK=> ?_) AllReadyH.nil;obtain⟨⟨_,_,_,o3'⟩,_,⟨_,_,_,t3'⟩,_⟩:=dJ Vk;go_simp;obtain⟨wN,hwN⟩:∃wN,wN=wA.setCell ⟨bx,3,none⟩ (.slice (some ⟨g11,0,none⟩) (y+1) vN):=⟨_,rfl⟩;have hTN:Tn bx wA wN:=by rw[hwN];exact Tn.setCell (p:=bx) (Tn.refl _ _) (x:=⟨bx,3,none⟩) (Or.inl rfl) _
                      have Jr:wN.heap[bx]?=some (.cells #[.string fn,.slice sa aH.length sc,.int .i64 (j:Int),(.slice (some ⟨g11,0,none⟩) (y+1) vN)] 30 (0,0)):=by rw[hwN,dF (j:=3) Vk];rfl
                      have hzA:=hTA.size;have hzN:=hTN.size;have hON:=Dc hOA hTN.size (fun k hk _ hne=>hTN.block k hk hne) (fun e=>by simp only[Value.ownBlock,Option.some.injEq] at e;omega);rw[←hwN];refine hK.out _ _ ((hTN.block b9 (by omega) XC).trans Vj) (fun hHeld=> ?_);clear hK K' hwN;refine wpAnyH_done (by kernel_rfl) ?_ _;obtain⟨hPN,hKN⟩:=HFin.out wN (hTN.os.trans hTA.os) (hTN.tape.trans hTA.tape) (hTN.output.trans hTA.output) (by omega) fun k hk h1 h2=>(hTN.block k (by omega) h1).trans (hTA.block k hk h2);have HON:=hide hON;have HRN:=hide Jr;have HPN:=hide hPN;have HKN:=hide hKN;clear hON Jr hPN hKN hTN hTA hOA hHeld Vj Vk HFin P6 HCx;go_wp2
                      go_roundg (K.length- (y+1))
                      case measure=>omega
                      case rel=>exact⟨y+1,done++[x],c9,d9,_,y+1,vN,by omega,by go_num,HDN,HON,HOL,HRN,HPN,HE,hbd.1,hbd.2,HKN⟩
                     ·go_simp;obtain⟨wB,hwB⟩:∃wB,wB=w11.setCell ⟨bx,3,none⟩ (.slice (some ⟨g11,0,none⟩) (y+1) vN):=⟨_,rfl⟩;have hTB:Tn bx w11 wB:=by rw[hwB];exact Tn.setCell (p:=bx) (Tn.refl _ _) (x:=⟨bx,3,none⟩) (Or.inl rfl) _
                      have XE:wB.heap[bx]?=some (.cells #[.string fn,.slice sa aH.length sc,.int .i64 (j:Int),(.slice (some ⟨g11,0,none⟩) (y+1) vN)] 30 (0,0)):=by rw[hwB,dF (j:=3) XD.out];rfl
                      have hzB:=hTB.size;have Vl:=(hTB.block b9 (by omega) XC).trans Pn;have hOB:=Dc P6.out hTB.size (fun k hk _ hne=>hTB.block k hk hne) (fun e=>by simp only[Value.ownBlock,Option.some.injEq] at e;omega);have hcB:((lD (M+1)).but bx).is (fun k=>w8.heap.size≤k∧(Value.slice (some ⟨g11,0,none⟩) (y+1) vN).ownBlock≠some k) wB [.string gn,.slice s2a gargs.length s2c,.int .i64 x.rule,.slice ka9 x.kids.length kc9] x:=(lD (M+1)).kept HCx.out hTB.size fun k hk hB=>hTB.block k hk hB.2;have Vm:=(hTB.block g11 (by omega) hgb).trans HKz.out.1;have BI:∀o,o<cur.size→∃v,wB.cell? ⟨g11,o,none⟩=some v:=fun o ho=>⟨cur[o],by rw[cell_of_row _ _ _ _ _ _ Vm];exact Array.getElem?_eq_getElem ho⟩;have Mq:=HKz.out.2;obtain⟨zw0,zf0⟩:=BI (y*4) (by omega);obtain⟨zw1,zf1⟩:=BI (y*4+1) (by omega);obtain⟨zw2,zf2⟩:=BI (y*4+2) (by omega);obtain⟨zw3,zf3⟩:=BI (y*4+3) (by omega);have hfB:∀o,wB.frozen? ⟨g11,o,none⟩=false:=fun o=>by simp[World.frozen?,Vm]
                      have aaF:=hfB (y*4);have aaG:=hfB (y*4+1);have aaH:=hfB (y*4+2);have aaI:=hfB (y*4+3);rw[←hwB];refine hK.out _ _ Vl (fun hHeld=> ?_);clear hK K' hwB BI hfB;refine wpAnyH_ready (rs:=[11]) (by kernel_rfl) (by simp) ?_;refine AllReadyH.cons rfl (fun K' hK=> ?_) AllReadyH.nil;go_simp;have hON:((lD (M+1)).but bx).own 30 w8.heap.size (putAt wB g11 (y*4) (.string gn) (.slice s2a gargs.length s2c) (.int .i64 x.rule) (.slice ka9 x.kids.length kc9)) (.slice (some ⟨g11,0,none⟩) (y+1) vN) (done++[x]):=JX rfl hOB hcB HDl.out;have hTN:=zK wB g11 (y*4) (.string gn) (.slice s2a gargs.length s2c) (.int .i64 x.rule) (.slice ka9 x.kids.length kc9);obtain⟨wN,hwN⟩:∃wN,wN=putAt wB g11 (y*4) (.string gn) (.slice s2a gargs.length s2c) (.int .i64 x.rule) (.slice ka9 x.kids.length kc9):=⟨_,rfl⟩;rw[←hwN] at hON hTN;unfold putAt at hwN;rw[←hwN];have hzN:=hTN.size;refine hK.out _ _ ((hTN.block b9 (by omega) (by omega)).trans Vl) (fun hHeld=> ?_);clear hK K' hwN;refine wpAnyH_done (by kernel_rfl) ?_ _;have Jr:=(hTN.block bx (by omega) (by omega)).trans XE;obtain⟨hPN,hKN⟩:=HFin.out wN (hTN.os.trans hTB.os) (hTN.tape.trans hTB.tape) (hTN.output.trans hTB.output) (by omega) fun k hk h1 h2=>(hTN.block k (by omega) h2).trans (hTB.block k hk h1);have HON:=hide hON;have HRN:=hide Jr;have HPN:=hide hPN;have HKN:=hide hKN;clear hON Jr hPN hKN hTN hTB hOB hcB hHeld Vl XE Vm HFin P6 HCx;go_wp2
                      go_roundg (K.length- (y+1))
                      case measure=>omega
                      case rel=>exact⟨y+1,done++[x],c9,d9,_,y+1,vN,by omega,by go_num,HDN,HON,HOL,HRN,HPN,HE,hbd.1,hbd.2,HKN⟩
                  ·have HE:Hid (bJ how (M+1+1) (fn,aH) dep (c,d)=(some (bH.mk (fn,aH) (j:Int) done),(cc,dd))):=by
                    show _=_;rw[HPG.out,zN.out,List.drop_eq_nil_of_le (by omega)];unfold lI kQ;simp
                   have HTf:=hide Tc;have hown:=HO.out;have hsl:(lD (M+1)).sl (From w.heap.size) wr (.slice ra rn rc) done:=Kind.bT (RF (Kind.fA hown (by have:=HDn.out;omega))) fun k _ (h:w8.heap.size≤k)=>(by show w.heap.size≤k;omega);have HSl:=hide hsl;have ZB:w.heap.size≤bx:=by omega
                   clear Tc hown hsl Pf HO zN HPG HIh;go_wp2;go_ret;refine⟨?_,?_,HTf.out⟩
                   ·rw[HE.out];exact⟨_,_,rfl,ZB,rfl,HRb.out,HSl.out⟩
                   ·rw[HE.out];exact HRP.out
           ·have J2:Hid (how (fn,aH)=iB (fun r=>byP (jD all) all old r (fn,aH)) (j+1) (p.drop (j+1))):=by
             have hbn:=HBp.out;rw[List.drop_eq_nil_of_le (by rw[List.length_map];omega)] at hbn;have hbn:BP=none:=hbn;have:=HFb.out;rw[hbn] at this;exact this
            have ZC:=hide (aj RO.out HBt.out hz4);clear HBp HBt HFb HLk HLs HS7;go_wp2
            go_roundg (p.length- (j+1))
            case measure=>omega
            case rel=>exact⟨j+1,by omega,by go_num,J2,ZC⟩
         ·have J2:Hid (how (fn,aH)=iB (fun r=>byP (jD all) all old r (fn,aH)) (j+1) (p.drop (j+1))):=by
           have hbn:=HBp.out;rw[(EC hT7 her).1] at hbn;have hbn:BP=none:=hbn;have:=HFb.out;rw[hbn] at this;exact this
          obtain⟨_,a7,n7,c7,rfl⟩:=EC hT7 her;have hne:(er != 0)=true:=by simpa using her
          clear hT7 hB7 HWi HBp HFb;go_wp2
          go_roundg (p.length- (j+1))
          case measure=>omega
          case rel=>exact⟨j+1,by omega,by go_num,J2,RO⟩
     ·exfalso
      refine Xd.out ?_;rw[PZ.out,List.drop_eq_nil_of_le (by omega)]
      rfl
end Go.Proofs.YtafmbokfkbccaaaGreatDoor
namespace Go.Proofs.YtafmbokfkbccaaaGreatDoor
open Go.RowKit Go.Sort Go.Maps
def jF (p:List aD) (told:List au) (f:au):Int×Option bH:=
 if iT p told≠0 then(iT p told,none) else if fI f≠0 then(fI f,none) else if inB (bU told (fU p told)) f=false then(6,none)
 else match(bJ (mY (jD (bU told (fU p told))) p told (bU told (fU p told)) (told::fU p told)) 61 f 1 (0,0)).1 with
  |none=>(4,none)
  |some x=>(0,some x)
def Vn (lo:Nat) (w:World) (v:Value):Option bH→Prop
 |none=>v=iU
 |some x=>l8 60 (From lo) w v x
def Vo (lo:Nat) (w:World) (v:Value):Option bH→Prop
 |none=>v=iU
 |some x=>OT 60 (From lo) w v x
theorem Vo.opt {lo:Nat} {w:World} {v:Value}:∀{o:Option bH},Vo lo w v o→Vn lo w v o
 |none,h=>h
 |some _,h=>OT.prf h
set_option maxRecDepth 100000 in
set_option maxHeartbeats 8000000 in
theorem RX (p:List aD) (told:List au) (f:au) (pv tv fv:Value) (w:World) (hpv:eU.sl bg w pv p) (ht:Facts w tv told) (hf:dH w fv f):
  Calls Tryz.prog 18 #[pv,tv,fv] w fun e w'=>∃v,e=.returned (.tuple #[v,.int .i64 (jF p told f).1])∧Vo w.heap.size w' v (jF p told f).2∧Below w.heap.size w w':=by
 obtain⟨s,rfl,hs⟩:=hf;obtain⟨sa,sc,rfl⟩:=bB hs;obtain⟨pa,pc,rfl⟩:=Kind.slice hpv;obtain⟨ta,tc,rfl⟩:=aC ht;obtain⟨w1,hw1⟩:∃w1,w1=(((w.alloc (.cells #[.string f.1,.slice sa f.2.length sc] 27)).alloc (.cells #[.string ⟨#[]⟩,.slice none 0 0,.int .i64 0,.slice none 0 0] 30)).alloc (.map #[] 0)).alloc (.cells #[.slice pa p.length pc,.slice ta told.length tc,.slice none 0 0,.int .i64 0,.int .i64 0,.slice none 0 0,.map (some (w.heap.size+2))] 115):=⟨_,rfl⟩;have hL1:Later w w1:=by rw[hw1];exact((((Later.refl w).alloc _).alloc _).alloc _).alloc _
 have hs1:w1.heap.size=w.heap.size+4:=by rw[hw1];simp
 have hr0:w1.heap[w.heap.size]?=some (.cells #[.string f.1,.slice sa f.2.length sc] 27 (0,0)):=by
  rw[hw1];simp only[bY,World.size_alloc]
  repeat (first|rw[if_pos trivial]|rw[if_pos (by omega)]|rw[if_neg (by omega)])
 have hr1:w1.heap[w.heap.size+1]?=some (.cells #[.string ⟨#[]⟩,.slice none 0 0,.int .i64 0,.slice none 0 0] 30 (0,0)):=by
  rw[hw1];simp only[bY,World.size_alloc]
  repeat (first|rw[if_pos trivial]|rw[if_pos (by omega)]|rw[if_neg (by omega)])
 have hr2:w1.heap[w.heap.size+2]?=some (.map #[] 0):=by
  rw[hw1];simp only[bY,World.size_alloc]
  repeat (first|rw[if_pos trivial]|rw[if_pos (by omega)]|rw[if_neg (by omega)])
 have hr3:w1.heap[w.heap.size+3]?=some (.cells #[.slice pa p.length pc,.slice ta told.length tc,.slice none 0 0,.int .i64 0,.int .i64 0,.slice none 0 0,.map (some (w.heap.size+2))] 115 (0,0)):=by
  rw[hw1];simp only[bY,World.size_alloc]
  repeat (first|rw[if_pos trivial]|rw[if_pos (by omega)]|rw[if_neg (by omega)])
 have HFo:=hide (OD p told (w.heap.size+3) (w.heap.size+2) (.slice pa p.length pc) (.slice ta told.length tc) w w1 ⟨hr3⟩ hL1.below (by omega) hpv ht);obtain⟨PP,hPP⟩:∃PP,PP=jF p told f:=⟨_,rfl⟩;rw[←hPP];unfold jF at hPP;have HPP:=hide hPP;have HW1:=hide hw1;have HL1:=hide hL1;have HR0:=hide hr0;have HR1:=hide hr1;have HR2:=hide hr2;have HR3:=hide hr3;have HPv:=hide hpv;have HTv:=hide ht;have HSt:=hide hs;have hsz1:w.heap.size+4≤w1.heap.size:=by omega
 have HS1:=hide hs1;have HBx:Hid (∀(x0 x1 x2 x3:Value) (wr:World),Below w.heap.size w wr→Below w.heap.size w (qZ wr (w.heap.size+1) x0 x1 x2 x3)):=fun x0 x1 x2 x3 wr h=>
  aj h ((mU wr (w.heap.size+1) x0 x1 x2 x3).below (n:=w.heap.size) (by omega) h.size) (Nat.le_refl _)
 clear hw1 hPP hL1 hr0 hr1 hr2 hr3 hpv ht hs hs1;obtain⟨fn,aH⟩:=f;dsimp only at*;have hmm:= @run_makeMap Tryz.prog
 go_enter Tryz.func18,Tryz.ntmps18
 go_wp2_with (first|(rw[←HW1.out])|fail)
 clear hmm;refine HFo.out.mono ?_;rintro e w2 ⟨rfl,hS2,hK2⟩;have hsz2:=hK2.size;have hBw2:Below w.heap.size w w2:=aj HL1.out.below (hK2.below (n:=w1.heap.size-1) (by have:=HS1.out;omega) (by have:=HS1.out;omega)) (by omega);have Gt:=(hK2.block w.heap.size (by omega) (by omega)).trans HR0.out;have vO:=(hK2.block (w.heap.size+1) (by omega) (by omega)).trans HR1.out;have XF:=(hK2.block (w.heap.size+2) (by omega) (by omega)).trans HR2.out;have Ns:=hide Gt;have P7:=hide vO;have ZE:=hide XF;have HB2:=hide hBw2;have HK2:=hide hK2;have HS2:=hide hS2;obtain⟨FE,hFE⟩:∃FE,FE=iT p told:=⟨_,rfl⟩;rw[←hFE];rw[←hFE] at HPP HS2;have HFE:=hide hFE;clear hFE Gt XF hBw2 hK2 hS2 HFo
 by_cases h0:FE=0
 ·subst h0;obtain⟨g1,g2,g3,g4,g5,g6,g7,g8,g9,g10⟩:=Bh HFE.out.symm;obtain⟨av,sv,xs,k1,k2,k3,k4,k5⟩:=(HS2.out rfl).has;rw[show(bD p (aW p).1 (countP (aW p).1) 0 told).2=fU p told from rfl] at k3 k4 k5;obtain⟨PS,hPS⟩:∃PS,PS=told::fU p told:=⟨_,rfl⟩;obtain⟨all,hal⟩:∃all,all=bU told (fU p told):=⟨_,rfl⟩;have Mr:=HPP.out;rw[if_neg (by simp)] at Mr;rw[←hPS,←hal] at g5 g8 g10 Mr;rw[←hal] at g3 k3;rw[←hPS] at g6 g7 k4 k5;have J6:=hide Mr;have XG:dH w2 (.agg #[.string fn,.slice sa aH.length sc]) (fn,aH):=⟨_,rfl,HSt.out.below HB2.out⟩;have HWr:=hide (wrong (.agg #[.string fn,.slice sa aH.length sc]) (fn,aH) w2 XG);obtain⟨q0,q1,_,_,_⟩:=iK Ns.out;have q1':w2.cell? ⟨w.heap.size,0+1,none⟩=some (.slice sa aH.length sc):=q1;obtain⟨WF,hWF⟩:∃WF,WF=fI (fn,aH):=⟨_,rfl⟩;rw[←hWF] at HWr J6;have HK1:=hide k1;have XH:=hide k2;have HK3:=hide k3;have HK4:=hide k4;have HK5:=hide k5;have hav:∃a n c,av=.slice a n c:=by obtain⟨a,c,e⟩:=aC k3;exact⟨a,_,c,e⟩
  obtain⟨aa,an,ac,rfl⟩:=hav;have HGr:Hid (Grd w (w.heap.size+3) p told all PS (.slice pa p.length pc) (.slice ta told.length tc)):=⟨by omega,HPv.out,HTv.out,g2.up,g3.up,g6,g7,g8,g9,g1.few,g3.few⟩;have HCl:Hid (∀f∈all,(∀g∈(mY (jD all) p told all PS f).2,g∈all)∧(mY (jD all) p told all PS f).2.length≤1000):=g10;have HAg:Hid (∀f∈all,f.2.length≤1000):=fun f hf=>by have:=(g3.right f hf).2.1;omega
  have hup:=g3.up;have HUp:=hide hup;have p2:=k1.cells.2.2.1;clear g1 g2 g3 g4 g5 g6 g7 g8 g9 g10 k1 k2 k3 k4 k5 Mr HPP HS2 hWF hPS hal XG q1 hup HFE p2
  go_wp2_with fail
  refine HWr.out.mono ?_;rintro e w3 ⟨rfl,hL3⟩;have hB3:=aj HB2.out hL3.below HB2.out.size;have Si:=hL3.size;have sN:=(hL3.block (by omega:w.heap.size+1<w2.heap.size)).trans P7.out;have HL3:=hide hL3;have HB3:=hide hB3;have LC:=hide sN;clear HWr q0 q1' hL3 hB3 vO
  by_cases h1:WF=0
  ·subst h1;have Po:=J6.out;rw[if_neg (by simp)] at Po;have KH:=hide Po;have FU:=(HL3.out.block (by omega:w.heap.size<w2.heap.size)).trans Ns.out;obtain⟨q0,q1,_,_,_⟩:=iK FU;have q1':w3.cell? ⟨w.heap.size,0+1,none⟩=some (.slice sa aH.length sc):=q1;have XI:=HK1.out.below HL3.out.below;have p2:=XI.cells.2.2.1;have hin:=inC (.slice aa an ac) (.agg #[.string fn,.slice sa aH.length sc]) all (fn,aH) w3 (HK3.out.later HL3.out) ⟨_,rfl,HSt.out.below HB3.out⟩ HUp.out;rw[qR] at hin;have HIn:=hide hin;clear Po J6 FU q1 XI hin sN
   go_wp2_with fail
   refine HIn.out.mono ?_;rintro e w4 ⟨rfl,hL4⟩;have hB4:=aj HB3.out hL4.below HB3.out.size;have Ue:=hL4.size;have vT:=(hL4.block (by omega:w.heap.size+1<w3.heap.size)).trans LC.out;cases hib:inB all (fn,aH) with
   |false=>
    have HX:Hid (PP=(6,none)):=by show _=_;rw[KH.out,if_pos hib]
    have HZ:=hide (dJ (gI vT (.string ⟨#[]⟩) (.slice none 0 0) (.int .i64 0) (.slice none 0 0))).1;have HBf:=hide (HBx.out (.string ⟨#[]⟩) (.slice none 0 0) (.int .i64 0) (.slice none 0 0) w4 hB4);obtain⟨_,_,⟨t0,t1,t2,t3⟩,_⟩:=dJ vT;clear KH vT hib HIn q0 q1' p2 hL4 hB4;go_wp2;obtain⟨z0,z1,z2,z3⟩:=HZ.out;unfold qZ at z0 z1 z2 z3;refine bodyPost_ret (v:=.tuple #[iU,.int .i64 6]) (by simp[results,Tryz.results18,go_sem,z0,z1,z2,z3];rfl) rfl ⟨iU,?_,?_,HBf.out⟩
    ·rw[HX.out]
    ·rw[HX.out];exact rfl
   |true=>
    have Ms:=KH.out;rw[if_neg (by rw[hib];simp)] at Ms;have Pp:=HL3.out.trans hL4;have Vp:=HK1.out.below Pp.below;have Nt:w4.heap[w.heap.size+2]?=some (.map #[] 0):=(Pp.block (by omega)).trans ZE.out;have hGp:Gp w4 (w.heap.size+3) w1.heap.size (w.heap.size+2) (.slice aa an ac) sv xs all PS:=by
     refine⟨?_,HK3.out.later Pp,HK4.out,fun i u l hu hl=>(HK5.out i u l hu hl).later Pp,Vp.xR ⟨_,_,_,rfl⟩ ⟨_,_,_,rfl⟩ ⟨_,_,_,rfl⟩ XH.out.ow,⟨_,_,Nt⟩,by omega,by omega,by omega,by omega⟩;rcases XH.out with e|h
     ·exact Or.inl e
     ·exact Or.inr (h.block fun i hi _=>Pp.block hi)
    have hGq:Gq w w4 (w.heap.size+3) w1.heap.size (w.heap.size+2) p told all PS (.slice pa p.length pc) (.slice ta told.length tc) (.slice aa an ac) sv xs:=⟨hGp,HGr.out,by omega,hB4,HCl.out,HAg.out,⟨_,_,_,rfl⟩,⟨_,_,_,rfl⟩⟩;have hPv:PvS (fun k=>k≠w.heap.size+2∧k≠w.heap.size+3) w4 w4 (w.heap.size+3) (w.heap.size+2) (.slice pa p.length pc) (.slice ta told.length tc) (.slice aa an ac) sv ((0:Nat):Int) ((0:Nat):Int) 0 all (mY (jD all) p told all PS):=by
     refine⟨Vp,Kq.refl _ _ _,⟨.map [],?_,fun k h=>by simp[Maps.has] at h⟩⟩;have hw:((w.alloc (.cells #[] 0)).alloc (.cells #[] 0)).heap.size=w.heap.size+2:=by simp
     have hmd:=World.ownsMap_made (P:=Tryz.prog) ((w.alloc (.cells #[] 0)).alloc (.cells #[] 0)) 3 uY;rw[hw] at hmd;refine dP hmd ?_;rw[Nt];have:=heap_alloc_new ((w.alloc (.cells #[] 0)).alloc (.cells #[] 0)) (.map #[] 0);rw[hw] at this;exact this.symm
    have hPr:=Ef w w4 (w.heap.size+3) w1.heap.size (w.heap.size+2) p told all PS _ _ _ sv xs hGq 60 (fun k=>k≠w.heap.size+2∧k≠w.heap.size+3) (fn,aH) (.agg #[.string fn,.slice sa aH.length sc]) 1 0 0 0 w4 rfl (fun k h=>h) (fun k hk=>⟨by omega,by omega⟩) hPv (Nat.le_refl _) (by omega) (by omega) (dB.1 hib) ⟨_,rfl,HSt.out.below hB4⟩;rw[show(((1:Nat):Int))=1 from rfl] at hPr;obtain⟨PX,hPX⟩:∃PX,PX=bJ (mY (jD all) p told all PS) (60+1) (fn,aH) 1 (0,0):=⟨_,rfl⟩;rw[←hPX] at hPr;rw[show(61:Nat)=60+1 from rfl,←hPX] at Ms;have HPr:=hide hPr;have Mt:=hide Ms;have Kz:=(Pp.block (by omega:w.heap.size<w2.heap.size)).trans Ns.out;obtain⟨y0,y1,_,_,_⟩:=iK Kz;have y1':w4.cell? ⟨w.heap.size,0+1,none⟩=some (.slice sa aH.length sc):=y1;have HB4:=hide hB4;have LG:=hide vT;clear Ms KH Vp Nt hGp hGq hPv hPr hPX hib HIn q0 q1' p2 hL4 hB4 Pp Kz y1 vT
    go_wp2_with fail
    refine HPr.out.mono ?_;rintro e w5 ⟨v5,er5,n5,rfl,hV5,_,_,hK5⟩;have hsz5:=hK5.size;have hB5:Below w.heap.size w w5:=aj HB4.out (hK5.below (n:=w.heap.size) (by omega) (by omega) (by omega)) (Nat.le_refl _);have GH:=(hK5.block (w.heap.size+1) (by omega) (by omega) (by omega)).trans LG.out;obtain⟨PX1,PX2⟩:=PX;dsimp only at hV5;obtain⟨_,_,⟨t0,t1,t2,t3⟩,_⟩:=dJ GH;cases PX1 with
    |none=>
     obtain⟨rfl,rfl⟩:=hV5;have HX:Hid (PP=(4,none)):=Mt.out;have HZ:=hide (dJ (gI GH (.string ⟨#[]⟩) (.slice none 0 0) (.int .i64 0) (.slice none 0 0))).1;have HBf:=hide (HBx.out (.string ⟨#[]⟩) (.slice none 0 0) (.int .i64 0) (.slice none 0 0) w5 hB5);rw[show iU=.agg #[.string ⟨#[]⟩,.slice none 0 0,.int .i64 0,.slice none 0 0] from rfl];clear Mt GH hB5 hK5 HPr y0 y1';go_wp2;obtain⟨z0,z1,z2,z3⟩:=HZ.out;unfold qZ at z0 z1 z2 z3;refine bodyPost_ret (v:=.tuple #[iU,.int .i64 4]) (by simp[results,Tryz.results18,go_sem,z0,z1,z2,z3];rfl) rfl ⟨iU,?_,?_,HBf.out⟩
     ·rw[HX.out]
     ·rw[HX.out];exact rfl
    |some x=>
     obtain⟨rfl,s9,k9,rfl,hs9,hk9,hz9⟩:=hV5;have hk9:(Jo 60).sl (From w4.heap.size) w5 k9 x.kids:=hk9;obtain⟨sa9,sc9,rfl⟩:=Kind.slice hs9;obtain⟨ka9,kc9,rfl⟩:=Kind.slice hk9;have HX:Hid (PP=(0,some x)):=Mt.out;have hT:=mU w5 (w.heap.size+1) (.string x.fact.1) (.slice sa9 x.fact.2.length sc9) (.int .i64 x.rule) (.slice ka9 x.kids.length kc9);have HZ:=hide (dJ (gI GH (.string x.fact.1) (.slice sa9 x.fact.2.length sc9) (.int .i64 x.rule) (.slice ka9 x.kids.length kc9))).1;have HBf:=hide (HBx.out (.string x.fact.1) (.slice sa9 x.fact.2.length sc9) (.int .i64 x.rule) (.slice ka9 x.kids.length kc9) w5 hB5);have HVf:Hid (OT 60 (From w.heap.size) (qZ w5 (w.heap.size+1) (.string x.fact.1) (.slice sa9 x.fact.2.length sc9) (.int .i64 x.rule) (.slice ka9 x.kids.length kc9)) (.agg #[.string x.fact.1,.slice sa9 x.fact.2.length sc9,.int .i64 x.rule,.slice ka9 x.kids.length kc9]) x):=
      ⟨_,_,rfl,Kind.bT (Kind.bM hs9 hT.size fun k hk (hb:w4.heap.size≤k)=>hT.block k hk (by omega)) fun k _ (hb:w4.heap.size≤k)=>(by show w.heap.size≤k;omega),Kind.bT (Kind.bM hk9 hT.size fun k hk (hb:w4.heap.size≤k)=>hT.block k hk (by omega)) fun k _ (hb:w4.heap.size≤k)=>(by show w.heap.size≤k;omega),hz9.kept hk9 fun k hk (hb:w4.heap.size≤k)=>hT.block k hk (by omega)⟩
     clear Mt GH hB5 hK5 HPr y0 y1' hT hs9 hk9 hz9;go_wp2;obtain⟨z0,z1,z2,z3⟩:=HZ.out;unfold qZ at z0 z1 z2 z3;refine bodyPost_ret (v:=.tuple #[.agg #[.string x.fact.1,.slice sa9 x.fact.2.length sc9,.int .i64 x.rule,.slice ka9 x.kids.length kc9],.int .i64 0]) (by simp[results,Tryz.results18,go_sem,z0,z1,z2,z3]) rfl ⟨.agg #[.string x.fact.1,.slice sa9 x.fact.2.length sc9,.int .i64 x.rule,.slice ka9 x.kids.length kc9],?_,?_,HBf.out⟩
     ·rw[HX.out]
     ·rw[HX.out];exact HVf.out
  ·have hne:(WF != 0)=true:=by simpa using h1
   have HX:Hid (PP=(WF,none)):=by show _=_;rw[J6.out,if_pos h1]
   have HZ:=hide (dJ (gI sN (.string ⟨#[]⟩) (.slice none 0 0) (.int .i64 0) (.slice none 0 0))).1;have HBf:=hide (HBx.out (.string ⟨#[]⟩) (.slice none 0 0) (.int .i64 0) (.slice none 0 0) w3 HB3.out);obtain⟨_,_,⟨t0,t1,t2,t3⟩,_⟩:=dJ sN;clear h1 J6 sN;go_wp2;obtain⟨z0,z1,z2,z3⟩:=HZ.out;unfold qZ at z0 z1 z2 z3;refine bodyPost_ret (v:=.tuple #[iU,.int .i64 WF]) (by simp[results,Tryz.results18,go_sem,z0,z1,z2,z3];rfl) rfl ⟨iU,?_,?_,HBf.out⟩
   ·rw[HX.out]
   ·rw[HX.out];exact rfl
 ·have hne:(FE != 0)=true:=by simpa using h0
  have HX:Hid (PP=(FE,none)):=by show _=_;rw[HPP.out,if_pos h0]
  have HZ:=hide (dJ (gI vO (.string ⟨#[]⟩) (.slice none 0 0) (.int .i64 0) (.slice none 0 0))).1;have HBf:=hide (HBx.out (.string ⟨#[]⟩) (.slice none 0 0) (.int .i64 0) (.slice none 0 0) w2 HB2.out);obtain⟨_,_,⟨t0,t1,t2,t3⟩,_⟩:=dJ vO;clear h0 HPP vO HS2;go_wp2;obtain⟨z0,z1,z2,z3⟩:=HZ.out;unfold qZ at z0 z1 z2 z3;refine bodyPost_ret (v:=.tuple #[iU,.int .i64 FE]) (by simp[results,Tryz.results18,go_sem,z0,z1,z2,z3];rfl) rfl ⟨iU,?_,?_,HBf.out⟩
  ·rw[HX.out]
  ·rw[HX.out];exact rfl
theorem RY (p:List aD) (told:List au) (f:au) (pv tv fv:Value) (w:World) (hpv:eU.sl bg w pv p) (ht:Facts w tv told) (hf:dH w fv f):
  Calls Tryz.prog 18 #[pv,tv,fv] w fun e w'=>∃v,e=.returned (.tuple #[v,.int .i64 (jF p told f).1])∧Vn w.heap.size w' v (jF p told f).2∧Below w.heap.size w w':=
 (RX p told f pv tv fv w hpv ht hf).mono fun _ _ ⟨v,he,hO,hB⟩=>⟨v,he,hO.opt,hB⟩
end Go.Proofs.YtafmbokfkbccaaaGreatDoor
namespace Go.Proofs.YtafmbokfkbccaaaGreatDoor
open Go.RowKit Go.Sort Go.Maps
theorem RZ (w0:World) (P m g cap:Nat) (p:List aD) (told all:List au) (PS:List (List au)) (pv:Value) (hG:Gof w0 p told all PS pv g m) (hP:w0.heap.size≤P):∀N,OfS w0 P m g cap pv all (mY (jD all) p told all PS) (N+1)
 |0=>JZ w0 P m g cap p told all PS pv hG hP 0 (fun h=>absurd h (by omega))
 |N+1=>JZ w0 P m g cap p told all PS pv hG hP (N+1) fun _=>RZ w0 P m g cap p told all PS pv hG hP N
def XJ (w:World) (v:Value):Option bH→Prop
 |none=>v=iU
 |some x=>l8 60 bg w v x
theorem Mv {told:List au}:∀{ps:List (List au)} {m:Nat},(told::ps).length=m+1→(told::ps)[m]?=some (bU told ps):=fun {ps m} h=>by
 unfold bU;cases ps with
 |nil=>
  simp at h;subst h
  rfl
 |cons a l=>
  have:(told::a::l)[m]?=(told::a::l).getLast?:=by
   rw[List.getLast?_eq_getElem?,h]
   rfl
  rw[this,List.getLast?_cons_cons];rw[List.getLast?_cons]
  rfl
set_option maxRecDepth 100000 in
set_option maxHeartbeats 8000000 in
theorem R9 (p:List aD) (told:List au) (f:au) (pv tv fs:Value) (w:World) (hpv:eU.sl bg w pv p) (ht:Facts w tv told) (hf:bsK.sl bg w fs f.2) (hlg:∀r∈p,Br r) (hok:∀k,okF (told.getD k aA)) (hof:okF f):
  Calls Tryz.prog 19 #[pv,tv,.agg #[.string f.1,fs]] w fun e w'=>∃v,e=.returned (.tuple #[v,.int .i64 (jF p told f).1])∧XJ w' v (jF p told f).2∧Below w.heap.size w w':=by
 have hs:=jd hf;obtain⟨sa,sc,rfl⟩:=bB hs;obtain⟨pa,pc,rfl⟩:=Kind.slice hpv;obtain⟨ta,tc,rfl⟩:=aC ht;obtain⟨w1,hw1⟩:∃w1,w1=(w.alloc (.cells #[.string f.1,.slice sa f.2.length sc] 27)).alloc (.cells #[.string ⟨#[]⟩,.slice none 0 0,.int .i64 0,.slice none 0 0] 30):=⟨_,rfl⟩;have hL1:Later w w1:=by rw[hw1];exact((Later.refl w).alloc _).alloc _
 have hs1:w1.heap.size=w.heap.size+2:=by rw[hw1];simp
 have hr0:w1.heap[w.heap.size]?=some (.cells #[.string f.1,.slice sa f.2.length sc] 27 (0,0)):=by
  rw[hw1];simp only[bY,World.size_alloc]
  repeat (first|rw[if_pos trivial]|rw[if_pos (by omega)]|rw[if_neg (by omega)])
 have hr1:w1.heap[w.heap.size+1]?=some (.cells #[.string ⟨#[]⟩,.slice none 0 0,.int .i64 0,.slice none 0 0] 30 (0,0)):=by
  rw[hw1];simp only[bY,World.size_alloc]
  repeat (first|rw[if_pos trivial]|rw[if_pos (by omega)]|rw[if_neg (by omega)])
 have HRo:=hide (JO p told (.slice pa p.length pc) (.slice ta told.length tc) w1 (Kind.aJ hpv hL1) (ht.later hL1) hlg hok);obtain⟨PP,hPP⟩:∃PP,PP=jF p told f:=⟨_,rfl⟩;rw[←hPP];unfold jF at hPP;have HPP:=hide hPP;have HW1:=hide hw1;have HL1:=hide hL1;have HR0:=hide hr0;have HR1:=hide hr1;have HPv:=hide hpv;have HSt:=hide hs;have HSl:=hide hf;have HOf:=hide hof;have hlt1:w.heap.size+1<w1.heap.size:=by omega
 have HBx:Hid (∀(x0 x1 x2 x3:Value) (wr:World),Below w.heap.size w wr→Below w.heap.size w (qZ wr (w.heap.size+1) x0 x1 x2 x3)):=fun x0 x1 x2 x3 wr h=>
  aj h ((mU wr (w.heap.size+1) x0 x1 x2 x3).below (n:=w.heap.size) (by omega) h.size) (Nat.le_refl _)
 clear hw1 hPP hL1 hr0 hr1 hpv ht hs hs1 hf hlg hok hof;obtain⟨fn,aH⟩:=f;dsimp only at*
 go_enter Tryz.func19,Tryz.ntmps19
 go_wp2_with (first|(rw[←HW1.out])|fail)
 refine HRo.out.mono ?_;rintro e w2 ⟨v2,er2,rfl,⟨her,hT0,hT1⟩,Te⟩;have hB2:Below w.heap.size w w2:=aj HL1.out.below Te HL1.out.size;have Gt:=(Te.block _ (by omega)).trans HR0.out;have vO:=(Te.block _ hlt1).trans HR1.out;have hfa:=qY p told;obtain⟨FE,hFE⟩:∃FE,FE=iT p told:=⟨_,rfl⟩;rw[←hFE] at HPP;have HFE:=hide hFE;rw[hfa.1,←hFE] at her hT0 hT1;subst her;have HB2:=hide hB2;have Ns:=hide Gt;have P7:=hide vO;clear hFE hfa Te HRo HW1
 by_cases h0:er2=0
 ·subst h0;obtain⟨g1,g2,g3,g4,g5,g6,g7,g8,g9,g10⟩:=Bh HFE.out.symm;obtain⟨g,m,cap,u,rfl,hm,hg,hcu,hFu,hlen,hRF⟩:=hT1 rfl;rw[show(bD p (aW p).1 (countP (aW p).1) 0 told).2=fU p told from rfl] at hlen hRF;obtain⟨PS,hPS⟩:∃PS,PS=told::fU p told:=⟨_,rfl⟩;obtain⟨all,hal⟩:∃all,all=bU told (fU p told):=⟨_,rfl⟩;have hlast:PS[m]?=some all:=by rw[hPS,hal];exact Mv hlen
  have hgr:=CS HFE.out.symm;rw[g4] at hFu;have Mr:=HPP.out;rw[if_neg (by simp)] at Mr;rw[←hPS,←hal] at g5 g8 Mr;rw[←hal] at g3 hFu;rw[←hPS] at hgr hlen hRF;have J6:=hide Mr;have XK:∃ps,PS=told::ps:=⟨_,hPS⟩;have HGo:Hid (∀w',Below w2.heap.size w2 w'→Gof w' p told all PS (.slice pa p.length pc) g m):=fun w' h=>
   ⟨Kind.aF HPv.out (aj HB2.out h HB2.out.size),hRF.below hg h,Nat.lt_of_lt_of_le hg h.size,hlen,by omega,hlast,XK,g5,g8,hgr,g1,g3⟩
  obtain⟨ua,uc,rfl⟩:=aC hFu;have HFu:=hide hFu;have HCu:Hid (∀w',Below w2.heap.size w2 w'→w'.cell? ⟨g,m,none⟩=some (.slice ua all.length uc)):=fun w' h=>by rw[h.cell (p:=⟨g,m,none⟩) hg];exact hcu
  have HWr:=hide (M8 (.agg #[.string fn,.slice sa aH.length sc]) (fn,aH) w2 ⟨_,rfl,HSt.out.below HB2.out⟩ HOf.out);obtain⟨q0,q1,_,_,WJ⟩:=iK Gt;have q1':w2.cell? ⟨w.heap.size,0+1,none⟩=some (.slice sa aH.length sc):=q1;obtain⟨WF,hWF⟩:∃WF,WF=fI (fn,aH):=⟨_,rfl⟩;rw[←hWF] at HWr J6;clear g1 g2 g3 g4 g5 g6 g7 g8 g9 g10 hFu hlen hRF hlast hgr Mr HPP hPS hal XK hcu hT0 hT1 hWF q1 HFE Gt hB2
  go_wp2_with fail
  refine HWr.out.mono ?_;rintro e w3 ⟨rfl,hL3⟩;have Lv:=hide hL3.below;have hB3:=aj HB2.out hL3.below HB2.out.size;have Si:=hL3.size;have sN:=(hL3.block (Array.getElem?_eq_some_iff.1 vO).1).trans P7.out;have FU:=(hL3.block WJ).trans Ns.out;have HB3:=hide hB3;have LC:=hide sN;have Pq:=hide FU;clear HWr q0 q1' hL3 hB3 vO
  by_cases h1:WF=0
  ·subst h1;have Po:=J6.out;rw[if_neg (by simp)] at Po;have KH:=hide Po;have HIn:Hid (∀w',Later w3 w'→Calls Tryz.prog 24 #[.slice ua all.length uc,.agg #[.string fn,.slice sa aH.length sc]] w' fun e w''=>e=.returned (.bool (inB all (fn,aH)))∧Later w3 w''):=fun w' h=>by
    have:=rIn (.slice ua all.length uc) (.agg #[.string fn,.slice sa aH.length sc]) all (fn,aH) w' (HFu.out.below (aj Lv.out h.below Lv.out.size)) ⟨_,rfl,HSt.out.below (aj HB3.out h.below HB3.out.size)⟩;rw[qR] at this;exact this.mono fun e w'' ⟨he,hL⟩=>⟨he,h.trans hL⟩
   have HCe:Hid (∀w',Later w3 w'→w'.cell? ⟨g,m,none⟩=some (.slice ua all.length uc)∧w'.cell? ⟨w.heap.size,0,none⟩=some (.string fn)∧w'.cell? ⟨w.heap.size,0+1,none⟩=some (.slice sa aH.length sc)):=fun w' h=>by
    have h0:=(h.block (Array.getElem?_eq_some_iff.1 Pq.out).1).trans Pq.out;exact⟨HCu.out w' (aj Lv.out h.below Lv.out.size),(iK h0).1,(iK h0).2.1⟩
   have e0:IntKind.i64.wrap (m:Int)=(m:Int):=by simp[IntKind.wrap,IntKind.bits,IntKind.signed];omega
   have e1:IntKind.i64.wrap ((m:Int)+1-1)=(m:Int):=by rw[show(m:Int)+1-1=(m:Int) by omega];exact e0
   have e2:IntKind.i64.wrap (((m+1:Nat):Int)-1)=(m:Int):=by rw[show((m+1:Nat):Int)-1=(m:Int) by omega];exact e0
   have hmi:(m:Int)<(m:Int)+1:=by omega
   obtain⟨ib,hib⟩:∃ib,ib=inB all (fn,aH):=⟨_,rfl⟩;rw[←hib] at HIn KH;have HIb:=hide hib;clear Po J6 sN FU hib;go_wp2;refine wp_region_held_drew (S:=fun w'=>Later w3 w') (by kernel_rfl) (Later.refl w3).drew (fun hHeld=> ?_);refine ak (i:=0) (d:=some 29) (v:= ?_) rfl rfl hHeld ?_ ?_;rotate_left;focus intro w hSw;(try dsimp only at hSw);go_simp;try with_reducible rfl
   simp only[aK,aL,aze,asu];refine ak (i:=1) (d:=some 30) (v:= ?_) rfl rfl hHeld ?_ ?_;rotate_left;focus intro w hSw;(try dsimp only at hSw);go_simp;try with_reducible rfl
   simp only[aK,aL,aze,asu];refine ak (i:=2) (d:=some 31) (v:= ?_) rfl rfl hHeld ?_ ?_;rotate_left;focus intro w hSw;(try dsimp only at hSw);go_simp;try with_reducible rfl
   simp only[aK,aL,aze,asu];refine ak (i:=3) (d:=some 32) (v:= ?_) rfl rfl hHeld ?_ ?_;rotate_left;focus intro w hSw;(try dsimp only at hSw);go_simp;try with_reducible rfl
   simp only[aK,aL,aze,asu];refine ak (i:=4) (d:=some 33) (v:= ?_) rfl rfl hHeld ?_ ?_;rotate_left;focus intro w hSw;(try dsimp only at hSw);go_simp;try with_reducible rfl
   simp only[aK,aL,aze,asu];refine ak (i:=5) (d:=some 34) (v:= ?_) rfl rfl hHeld ?_ ?_;rotate_left;focus intro w hSw;(try dsimp only at hSw);obtain⟨p0,p1,p2⟩:=HCe.out _ hSw;go_simp;try with_reducible rfl
   simp only[aK,aL,aze,asu];refine ak (i:=6) (d:=some 35) (v:= ?_) rfl rfl hHeld ?_ ?_;rotate_left;focus intro w hSw;(try dsimp only at hSw);obtain⟨p0,p1,p2⟩:=HCe.out _ hSw;go_simp;try with_reducible rfl
   simp only[aK,aL,aze,asu];refine wpAnyH_ready (rs:=[7]) (by kernel_rfl) (by simp) ?_;refine AllReadyH.cons rfl (fun K hK=> ?_) AllReadyH.nil;go_simp;refine(HIn.out _ hHeld).mono ?_;rintro e w4 ⟨rfl,hL4⟩;refine hK.out _ _ hL4 (fun hHeld=> ?_);clear hK K;refine ak (i:=8) (d:=some 37) (v:= ?_) rfl rfl hHeld ?_ ?_;rotate_left;focus intro w hSw;(try dsimp only at hSw);go_simp;try with_reducible rfl
   simp only[aK,aL,aze,asu];refine wpAnyH_done (by kernel_rfl) ?_ _;have Vq:=aj Lv.out hL4.below Lv.out.size;have hB4:=aj HB3.out hL4.below HB3.out.size;have vT:=(hL4.block (Array.getElem?_eq_some_iff.1 LC.out).1).trans LC.out;have Kz:=(hL4.block (Array.getElem?_eq_some_iff.1 Pq.out).1).trans Pq.out;clear hHeld HIn HCe e0 e1 e2 hmi;cases ib with
   |false=>
    have HX:Hid (PP=(6,none)):=by show _=_;rw[KH.out,if_pos rfl]
    have HZ:=hide (dJ (gI vT (.string ⟨#[]⟩) (.slice none 0 0) (.int .i64 0) (.slice none 0 0))).1;have HBf:=hide (HBx.out (.string ⟨#[]⟩) (.slice none 0 0) (.int .i64 0) (.slice none 0 0) w4 hB4);obtain⟨_,_,⟨t0,t1,t2,t3⟩,_⟩:=dJ vT;clear KH vT hL4 hB4 Vq Kz;go_wp2;obtain⟨z0,z1,z2,z3⟩:=HZ.out;unfold qZ at z0 z1 z2 z3;refine bodyPost_ret (v:=.tuple #[iU,.int .i64 6]) (by simp[results,Tryz.results19,go_sem,z0,z1,z2,z3];rfl) rfl ⟨iU,?_,?_,HBf.out⟩
    ·rw[HX.out]
    ·rw[HX.out];exact rfl
   |true=>
    have Ms:=KH.out;rw[if_neg (by simp)] at Ms;obtain⟨w5,hw5⟩:∃w5,w5=w4.alloc (.cells #[.slice pa p.length pc,.slice (some ⟨g,0,none⟩) (m+1) cap,.int .i64 0] 123):=⟨_,rfl⟩;have hL5:Later w4 w5:=by rw[hw5];exact(Later.refl w4).alloc _
    have hr5:w5.heap[w4.heap.size]?=some (.cells #[.slice pa p.length pc,.slice (some ⟨g,0,none⟩) (m+1) cap,.int .i64 ((0:Nat):Int)] 123 (0,0)):=by rw[hw5];exact heap_alloc_new w4 _
    have hOf:=RZ w4 w4.heap.size m g cap p told all PS (.slice pa p.length pc) (HGo.out w4 Vq) (Nat.le_refl _) 60 (fn,aH) (.slice sa aH.length sc) 1 0 0 w5 rfl hL5.below hr5 (by omega) (by omega) (dB.1 HIb.out.symm) (HSt.out.below (aj hB4 hL5.below hB4.size));rw[show(((1:Nat):Int))=1 from rfl] at hOf;obtain⟨PX,hPX⟩:∃PX,PX=bJ (mY (jD all) p told all PS) (60+1) (fn,aH) 1 (0,0):=⟨_,rfl⟩;rw[←hPX] at hOf;rw[show(61:Nat)=60+1 from rfl,←hPX] at Ms;have Vr:=hide hOf;have Mt:=hide Ms;have LH:=(hL5.block (Array.getElem?_eq_some_iff.1 Kz).1).trans Kz;obtain⟨y0,y1,_,_,_⟩:=iK LH;have y1':w5.cell? ⟨w.heap.size,0+1,none⟩=some (.slice sa aH.length sc):=y1;have HB5:=hide (aj hB4 hL5.below hB4.size);have P8:=hide ((hL5.block (Array.getElem?_eq_some_iff.1 vT).1).trans vT);have hz4:w.heap.size+1<w4.heap.size:=(Array.getElem?_eq_some_iff.1 vT).1;have HW5:=hide hw5;clear Ms KH hOf hPX hw5 hL5 hr5 LH y1 vT Kz hL4 hB4 Vq HGo HCu HFu HIb
    go_wp2_with (first|(rw[←HW5.out])|fail)
    refine Vr.out.mono ?_;rintro e w6 ⟨hV6,_,hT6⟩;have hB6:Below w.heap.size w w6:=aj HB5.out (hT6.below (by omega) HB5.out.size) (Nat.le_refl _);have CP:=(hT6.block _ (Array.getElem?_eq_some_iff.1 P8.out).1 (by omega)).trans P8.out;obtain⟨PX1,PX2⟩:=PX;dsimp only at hV6;obtain⟨_,_,⟨t0,t1,t2,t3⟩,_⟩:=dJ CP;cases PX1 with
    |none=>
     have he:e=.returned (.pointer none):=hV6;subst he;have HX:Hid (PP=(4,none)):=Mt.out;have HZ:=hide (dJ (gI CP (.string ⟨#[]⟩) (.slice none 0 0) (.int .i64 0) (.slice none 0 0))).1;have HBf:=hide (HBx.out (.string ⟨#[]⟩) (.slice none 0 0) (.int .i64 0) (.slice none 0 0) w6 hB6);clear Mt CP hB6 hT6 Vr y0 y1' hV6;go_wp2;obtain⟨z0,z1,z2,z3⟩:=HZ.out;unfold qZ at z0 z1 z2 z3;refine bodyPost_ret (v:=.tuple #[iU,.int .i64 4]) (by simp[results,Tryz.results19,go_sem,z0,z1,z2,z3];rfl) rfl ⟨iU,?_,?_,HBf.out⟩
     ·rw[HX.out]
     ·rw[HX.out];exact rfl
    |some x=>
     obtain⟨b9,kv9,he,hb9,hxf,hr9,hk9⟩:=hV6;subst he;have hk9:(lD 60).sl (From w5.heap.size) w6 kv9 x.kids:=hk9;obtain⟨ka9,kc9,rfl⟩:=Kind.slice hk9;have HX:Hid (PP=(0,some x)):=Mt.out;have hT:=mU w6 (w.heap.size+1) (.string fn) (.slice sa aH.length sc) (.int .i64 x.rule) (.slice ka9 x.kids.length kc9);have HZ:=hide (dJ (gI CP (.string fn) (.slice sa aH.length sc) (.int .i64 x.rule) (.slice ka9 x.kids.length kc9))).1;have HBf:=hide (HBx.out (.string fn) (.slice sa aH.length sc) (.int .i64 x.rule) (.slice ka9 x.kids.length kc9) w6 hB6);have hz5:=HB5.out.size;have HVf:Hid (l8 60 bg (qZ w6 (w.heap.size+1) (.string fn) (.slice sa aH.length sc) (.int .i64 x.rule) (.slice ka9 x.kids.length kc9)) (.agg #[.string fn,.slice sa aH.length sc,.int .i64 x.rule,.slice ka9 x.kids.length kc9]) x):=by
      have hxa:bsK.sl bg w (.slice sa aH.length sc) x.fact.2:=by rw[hxf];exact HSl.out
      have h15:=(Array.getElem?_eq_some_iff.1 P8.out).1;exact⟨_,_,by rw[hxf],Kind.aF hxa HBf.out,Kind.dQ (Kind.bM hk9 hT.size fun k hk (hb:w5.heap.size≤k)=>hT.block k hk (by omega))⟩
     obtain⟨⟨l0,l1,l2,l3⟩,⟨l4,l5,l6⟩,_,_⟩:=dJ hr9;clear Mt CP hB6 hT6 Vr y0 y1' hT hk9 hr9;go_wp2;obtain⟨z0,z1,z2,z3⟩:=HZ.out;unfold qZ at z0 z1 z2 z3;refine bodyPost_ret (v:=.tuple #[.agg #[.string fn,.slice sa aH.length sc,.int .i64 x.rule,.slice ka9 x.kids.length kc9],.int .i64 0]) (by simp[results,Tryz.results19,go_sem,z0,z1,z2,z3]) rfl ⟨.agg #[.string fn,.slice sa aH.length sc,.int .i64 x.rule,.slice ka9 x.kids.length kc9],?_,?_,HBf.out⟩
     ·rw[HX.out]
     ·rw[HX.out];exact HVf.out
  ·have hne:(WF != 0)=true:=by simpa using h1
   have HX:Hid (PP=(WF,none)):=by show _=_;rw[J6.out,if_pos h1]
   have HZ:=hide (dJ (gI sN (.string ⟨#[]⟩) (.slice none 0 0) (.int .i64 0) (.slice none 0 0))).1;have HBf:=hide (HBx.out (.string ⟨#[]⟩) (.slice none 0 0) (.int .i64 0) (.slice none 0 0) w3 HB3.out);obtain⟨_,_,⟨t0,t1,t2,t3⟩,_⟩:=dJ sN;clear h1 J6 sN FU HGo HCu HFu;go_wp2;obtain⟨z0,z1,z2,z3⟩:=HZ.out;unfold qZ at z0 z1 z2 z3;refine bodyPost_ret (v:=.tuple #[iU,.int .i64 WF]) (by simp[results,Tryz.results19,go_sem,z0,z1,z2,z3];rfl) rfl ⟨iU,?_,?_,HBf.out⟩
   ·rw[HX.out]
   ·rw[HX.out];exact rfl
 ·have hne:(er2 != 0)=true:=by simpa using h0
  have e2:=hT0 h0;subst e2;have HX:Hid (PP=(er2,none)):=by show _=_;rw[HPP.out,if_pos h0]
  have HZ:=hide (dJ (gI vO (.string ⟨#[]⟩) (.slice none 0 0) (.int .i64 0) (.slice none 0 0))).1;have HBf:=hide (HBx.out (.string ⟨#[]⟩) (.slice none 0 0) (.int .i64 0) (.slice none 0 0) w2 hB2);obtain⟨_,_,⟨t0,t1,t2,t3⟩,_⟩:=dJ vO;clear h0 HPP vO Gt hT0 hT1 hB2;go_wp2;obtain⟨z0,z1,z2,z3⟩:=HZ.out;unfold qZ at z0 z1 z2 z3;refine bodyPost_ret (v:=.tuple #[iU,.int .i64 er2]) (by simp[results,Tryz.results19,go_sem,z0,z1,z2,z3];rfl) rfl ⟨iU,?_,?_,HBf.out⟩
  ·rw[HX.out]
  ·rw[HX.out];exact rfl
end Go.Proofs.YtafmbokfkbccaaaGreatDoor
