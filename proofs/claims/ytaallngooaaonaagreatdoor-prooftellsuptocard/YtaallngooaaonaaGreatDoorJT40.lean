import Derived.Test.YtaallngooaaonaaGreatDoorJT30
import Derived.Test.YtaallngooaaonaaGreatDoorJT38
import Derived.Test.YtaallngooaaonaaGreatDoorJT39
import Derived.Test.YtaallngooaaonaaGreatDoorJT31
open Go.RowKit Go.Sort Go.Maps
set_option maxHeartbeats 16000000
set_option maxRecDepth 100000
namespace Go.Proofs.YtaallngooaaonaaGreatDoor
theorem ow:∀(ts:List dK) (xs:List ByteArray) (l m:List aD),dH l ts xs=some m→∀x∈m,x∈l∨x.2∈xs
 |[],xs,l,m,h,x,hx=>by simp only[dH,Option.some.injEq] at h;subst h;exact Or.inl hx
 |_::_,[],l,m,h,x,hx=>by simp[dH] at h
 |t::ts,y::xs,l,m,h,x,hx=>by
  unfold dH at h;split at h
  ·rcases ow ts xs _ m h x hx with h1|h1
   ·rcases List.mem_append.1 h1 with h2|h2;·exact Or.inl h2
    simp at h2;subst h2;exact Or.inr (by simp)
   exact Or.inr (by simp[h1])
  split at h
  ·rcases ow ts xs _ m h x hx with h1|h1;·exact Or.inl h1
   exact Or.inr (by simp[h1])
  cases h
theorem F5 {a:aI} {f:aA} {b:List aD} (hf:ni f) (h:cZ a f []=some b):∀v s,dB b v=some s→isNamed (raw s)=true:=fun v s hg=>by
 unfold cZ at h;split at h
 ·rcases ow _ _ _ _ h _ (mO hg) with h1|h1;·cases h1
  exact hf.2.2 s h1
 cases h
theorem F6 {body:List aI} (h:aL body=0):∀a∈body,CG a:=fun a ha=>by
 obtain⟨_,hat⟩:=fM h;obtain⟨h1,_,h3⟩:=gQ (hat a ha);refine⟨?_,fun t ht=>?_⟩;·unfold isNamed at h1;simp only[Bool.and_eq_true,decide_eq_true_eq] at h1;have:=h1.1.1;omega
 have:=jc (h3 t ht);show t.2.length≤_;omega
structure LOk (body:List aI) (all:List aA) (l:List aD):Prop where
 nodup:(bJ l).Nodup
 short:∀x∈l,(raw x.1).length≤maxLen∧x.2.size≤maxLen
 fill:∀a∈body,∃g,bg a l=some g∧inB all g= !a.no
theorem LW {p:List aG} {body:List aI} {all:List aA} (hg:GoodS p all) (hb:aL body=0) {er:Int} {l:List aD} (h:l∈jZ body all er):LOk body all l:=by
 unfold jZ at h;split at h;·cases h
 cases hR:lF (fun _=>all) body with
 |none=>rw[hR] at h;cases h
 |some R=>
  rw[hR] at h;have hfit:=(qA (kH hb) hR l).1 h;have Nl:=hfit;obtain⟨f1,f2,f3,f4⟩:=hfit;refine⟨f2,fun x hx=>⟨?_,?_⟩,fun a ha=>iK.1 f4 a ha⟩
  ·have hk:x.1∈bJ l:=List.mem_map.2 ⟨x,hx,rfl⟩;obtain⟨k,hk2,e⟩:=List.mem_map.1 ((f3 x.1).1 hk);rw[←e,jI];rcases(gN body).1 hk2 with h0|⟨a,ha,_,t,ht,_,rfl⟩
   ·cases h0
   obtain⟨_,hat⟩:=fM hb;have:=jc ((gQ (hat a ha)).2.2 t ht);unfold maxLen;omega
  have hg2:dB l x.1=some x.2:=kT f2 hx;have:=iZ (tK hg.right Nl hg2);unfold maxLen;omega
theorem LX {p:List aG} {all:List aA} (hg:GoodS p all):∀k,okF (all.getD k aC):=fun k=>by
 rw[List.getD_eq_getElem?_getD];cases e:all[k]? with
 |none=>exact⟨by simp[aC],fun s hs=>by simp[aC] at hs⟩
 |some f=>
  obtain⟨h1,_,h3⟩:=hg.right f (List.mem_of_getElem? e);refine⟨?_,fun s hs=>?_⟩;·have:=iZ h1;show f.1.size≤_;omega
  have:=iZ (h3 s hs);omega
theorem JF {l:List aD} (hn:(bJ l).Nodup) {t:Nat} {x:aD} (h:l[t]?=some x):dB (l.take t) x.1=none:=by
 refine iy.2 fun hc=>?_;have e:bJ l=bJ (l.take t)++x.1::bJ (l.drop (t+1)):=by
  obtain⟨hi,e⟩:=List.getElem?_eq_some_iff.1 h
  conv=>lhs;rw[←List.take_append_drop t l,List.drop_eq_getElem_cons hi,e]
  unfold bJ;rw[List.map_append]
  rfl
 rw[e,List.nodup_append] at hn;exact hn.2.2 _ hc _ (by simp) rfl
theorem En {w:World} {v:Value} {er:Int} {body:List aI} {all:List aA} (h:nT w v er body all (-1) []) (he:er≠0):jZ body all (jv all body)=[]∧∃a n c,v=.slice a n c:=by
 unfold nT at h;unfold jZ jv;split at h;·rename_i h0;rw[if_pos h0];exact⟨rfl,_,_,_,h.1⟩
 rename_i h0;rw[if_neg h0];rw[pQ] at h;cases e:lF (fun _=>all) body with
 |none=>
  rw[e] at h;exact⟨rfl,_,_,_,h.1⟩
 |some R=>
  rw[e] at h;exact absurd h.1 he
theorem Rs {all old:List aA} {r:aG} {f:aA} {b:List aD} (h:cZ r.head f []=some b):byP (jv all) all old r f=((jZ (dR b r.body) all (jv all (dR b r.body))).map (cu (dR b r.body))).find? fun of=>of.all (inB old):=by unfold byP;rw[h]
theorem xZ {how:aA→Int×List aA} {N:Nat} {f:aA} {dep c d c1 d1:Nat} {rl:Int} {of:List aA} (h1:c1=c+1) (h2:d1=max d dep) (hm:ig (c1,d1)=false) (hh:how f=(rl,of)):
  bI how (N+1) f dep (c,d)=((lC (fun g s=>bI how N g (dep+1) s) of [] (c1,d1)).1.map (bG.mk f rl),(lC (fun g s=>bI how N g (dep+1) s) of [] (c1,d1)).2):=by
 conv=>lhs;unfold bI
 dsimp only;rw[←h1,←h2,if_neg (by rw[hm];simp),hh];unfold lC;dsimp only;cases(kL (fun g s=>bI how N g (dep+1) s) of (c1,d1)).1 <;> rfl
theorem F7 {b:List aD} {x:Bs} {s:ByteArray} (h:dB b (bs x)=some s):cO b (true,x)=(false,raw s):=by unfold cO;simp[h]
theorem CS {b:List aD} {x:Bs} (h:dB b (bs x)=none) (v:Bool):cO b (v,x)=(v,x):=by unfold cO;cases v <;> simp[h]
theorem CU {b:List aD} {x:Bs}:cO b (false,x)=(false,x):=by unfold cO;simp
theorem F8 {body:List aI} (h:aL body=0):∀a∈body,∀t∈a.terms,t.2.length≤maxLen:=fun a ha t ht=>by have:=jc ((gQ ((fM h).2 a ha)).2.2 t ht);unfold maxLen;omega
theorem F9 {body:List aI} {all:List aA} {l:List aD} (h:LOk body all l):∀k∈cu body l,k∈all:=fun k hk=>by
 unfold cu at hk;obtain⟨a,ha,he⟩:=List.mem_filterMap.1 hk;obtain⟨g,hg,hi⟩:=h.fill a ha;cases hno:a.no with
 |true=>rw[hno] at he;cases he
 |false=>
  rw[hno,hg] at he;simp only[Bool.false_eq_true,if_false,Option.some.injEq] at he;subst he;rw[hno] at hi;exact dn.1 hi
def aB.but {α:Type} (K:aB α) (x:Nat):aB α where
 size:=K.size
 is:=fun B w c a=>K.is (fun k=>B k∧k≠x) w c a
 len:=fun h=>K.len h
 one:=fun h=>K.one h
 kept:=fun h h1 h2=>K.kept h h1 fun k hk hB=>h2 k hk hB.1
 mono:=fun h h1=>K.mono h fun k hk hB=>⟨h1 k hk hB.1,hB.2⟩
theorem CV {α:Type} {K:aB α} {x:Nat} {ty:TypeId} {lo:Nat} {w w':World} {v:Value} {l:List α} (h:(K.but x).own ty lo w v l) (hs:w.heap.size≤w'.heap.size) (hk:∀k,k<w.heap.size→lo≤k→k≠x→w'.heap[k]?=w.heap[k]?) (hv:v.ownBlock≠some x):(K.but x).own ty lo w' v l:=by
 obtain⟨xs,ho,hx⟩:=h;have hlt:=ho.lt;refine⟨xs,⟨ho.1,?_⟩,fun i y hi=>?_⟩
 ·rcases ho.2 with e|⟨g,cap,cur,rfl,hbg,hg,r⟩;·exact Or.inl e
  exact Or.inr ⟨g,cap,cur,rfl,hbg,by rw[hk g (Array.getElem?_eq_some_iff.1 hg).1 hbg (fun e=>hv (by rw[←e];rfl))];exact hg,r⟩
 obtain⟨c,c1,c2⟩:=hx i y hi;exact⟨c,K.kept c1 hs fun k hk' hB=>hk k hk' hB.1.1 hB.2,c2⟩
theorem Rt {α:Type} {K:aB α} {x:Nat} {B:Nat→Prop} {w:World} {v:Value} {l:List α} (h:(K.but x).sl B w v l):K.sl B w v l:=by obtain⟨h0,a,cap,e,h1⟩:=h;refine⟨h0,a,cap,e,fun hl=>?_⟩;obtain⟨b,off,ea,hB,hb,hc⟩:=h1 hl;refine⟨b,off,ea,hB,hb,fun i y hi=>?_⟩;obtain⟨c,c1,c2⟩:=hc i y hi;exact⟨c,K.mono c1 fun k _ h=>h.1,c2⟩
theorem Tn.LY {p:Nat} {a b:World} (h:Below a.heap.size a b):Tn p a b:=Tn.of_below h
theorem Ga {w:World} {P:Nat} {a1 a2:Option Addr} {n1 n2 c1 c2:Nat} {x:Int} {t:TypeId} {fr:Nat×Nat} (h:w.heap[P]?=some (.cells #[.slice a1 n1 c1,.slice a2 n2 c2,.int .i64 x] t fr)):pW w P:=fun off s e=>by
 rw[cell_of_row _ _ _ _ _ _ h] at e
 match off,e with
 |0,e=>cases e
 |1,e=>cases e
 |2,e=>cases e
 |off+3,e=>simp at e
def putAt (w:World) (g o:Nat) (x0 x1 x2 x3:Value):World:=(((w.setCell ⟨g,o,none⟩ x0).setCell ⟨g,o+1,none⟩ x1).setCell ⟨g,o+2,none⟩ x2).setCell ⟨g,o+3,none⟩ x3
theorem zB (w:World) (g o:Nat) (x0 x1 x2 x3:Value):Tn g w (putAt w g o x0 x1 x2 x3):=
 ((((Tn.refl g w).setCell (Or.inl rfl) _).setCell (Or.inl rfl) _).setCell (Or.inl rfl) _).setCell (Or.inl rfl) _
theorem LZ {α:Type} {cur:List α} {ys:List α} {z0 z1 z2 z3 x0 x1 x2 x3:α} {o:Nat} (ho:ys.length=o) (h:cur.take (o+4)=ys++[z0,z1,z2,z3]):((((cur.set o x0).set (o+1) x1).set (o+2) x2).set (o+3) x3).take (o+4)=ys++[x0,x1,x2,x3]:=by
 have hc:cur=(ys++[z0,z1,z2,z3])++cur.drop (o+4):=by rw[←h,List.take_append_drop]
 rw[hc];subst ho;simp[List.take_append];exact List.take_of_length_le (by omega)
theorem Eo {α:Type} {K:aB α} (hK:K.size=4) {ty:TypeId} {lo:Nat} {w:World} {v:Value} {l:List α} {z:α} (h:K.own ty lo w v (l++[z])) {x0 x1 x2 x3:Value} {x:α} (hc:K.is (fun k=>lo≤k∧v.ownBlock≠some k) w [x0,x1,x2,x3] x):
  ∃g cap,v=.slice (some ⟨g,0,none⟩) (l.length+1) cap∧lo≤g∧g<w.heap.size∧(∀o,w.frozen? ⟨g,o,none⟩=false)∧(∃cur,w.heap[g]?=some (.cells cur ty (0,0))∧(l.length+1)*4≤cur.size)∧K.own ty lo (putAt w g (l.length*4) x0 x1 x2 x3) v (l++[x]):=by
 obtain⟨xs,⟨hl,ho⟩,hx⟩:=h;rcases ho with⟨_,e⟩|⟨g,cap,cur,rfl,hbg,hg,hnc,hcm,hcs,htk⟩;·simp at e
 have hT:=zB w g (l.length*4) x0 x1 x2 x3;rw[List.length_append,List.length_singleton] at hl htk hnc;rw[hK] at hl htk hcs;have hlen:(l.length+1)*4=l.length*4+4:=by omega
 have hrow:(putAt w g (l.length*4) x0 x1 x2 x3).heap[g]?=some (.cells ((((cur.setIfInBounds (l.length*4) x0).setIfInBounds (l.length*4+1) x1).setIfInBounds (l.length*4+2) x2).setIfInBounds (l.length*4+3) x3) ty (0,0)):=
  dz (j:=l.length*4+3) (dz (j:=l.length*4+2) (dz (j:=l.length*4+1) (dz (j:=l.length*4) hg x0) x1) x2) x3
 obtain⟨ys,z0,z1,z2,z3,hxe,hyl⟩:∃ys z0 z1 z2 z3,xs=ys++[z0,z1,z2,z3]∧ys.length=l.length*4:=by
  have h1:(xs.drop (l.length*4)).length=4:=by rw[List.length_drop];omega
  match hd:xs.drop (l.length*4),h1 with
  |[a,b,c,d],_=>exact⟨xs.take (l.length*4),a,b,c,d,by rw[←hd,List.take_append_drop],by rw[List.length_take];omega⟩
 have hcz:(l.length+1)*4≤cur.size:=by rw[hcs];exact Nat.mul_le_mul_right 4 hnc
 refine⟨g,cap,by rw[List.length_append,List.length_singleton],hbg,(Array.getElem?_eq_some_iff.1 hg).1,fun o=>by simp[World.frozen?,hg],⟨cur,hg,hcz⟩,ys++[x0,x1,x2,x3],⟨by rw[List.length_append,hyl,List.length_append,hK];simp;omega,Or.inr ⟨g,cap,_,by rw[List.length_append,List.length_append];rfl,hbg,hrow,by rw[List.length_append,List.length_singleton];exact hnc,hcm,by simp[hcs,hK],?_⟩⟩,fun i y hi=>?_⟩
 ·rw[List.length_append,List.length_singleton,hK,hlen];simp only[Array.toList_setIfInBounds];rw[hlen] at htk;exact LZ hyl (by rw[htk,hxe])
 have keep:∀{c:List Value} {y:α},K.is (fun k=>lo≤k∧(Value.slice (some ⟨g,0,none⟩) (l++[z]).length cap).ownBlock≠some k) w c y→K.is (fun k=>lo≤k∧(Value.slice (some ⟨g,0,none⟩) (l++[z]).length cap).ownBlock≠some k) (putAt w g (l.length*4) x0 x1 x2 x3) c y:=fun hy=>
  K.kept hy hT.size fun k hk hB=>hT.block k hk fun e=>hB.2 (by rw[e];rfl)
 by_cases hjl:i<l.length
 ·rw[List.getElem?_append_left hjl] at hi;obtain⟨c,c1,c2⟩:=hx i y (by rw[List.getElem?_append_left hjl];exact hi);have hcl:=K.len c1;refine⟨c,keep c1,fun j u hu=>?_⟩;have h2:=c2 j u hu;rw[hK] at h2 hcl⊢;have hj:j<4:=by have:=(List.getElem?_eq_some_iff.1 hu).1;omega
  rw[hxe,List.getElem?_append_left (by rw[hyl];omega)] at h2;rw[List.getElem?_append_left (by rw[hyl];omega)];exact h2
 have e:i=l.length:=by have:=(List.getElem?_eq_some_iff.1 hi).1;rw[List.length_append,List.length_singleton] at this;omega
 subst e;rw[List.getElem?_append_right (Nat.le_refl _),Nat.sub_self] at hi;simp only[List.getElem?_cons_zero,Option.some.injEq] at hi;subst hi;refine⟨_,keep hc,fun j u hu=>?_⟩;rw[hK,List.getElem?_append_right (by rw[hyl];omega),hyl,Nat.add_sub_cancel_left];exact hu
theorem JG {α:Type} {K:aB α} (hK:K.size=4) {ty:TypeId} {lo g n cap:Nat} {w:World} {l:List α} {z:α} (h:K.own ty lo w (.slice (some ⟨g,0,none⟩) (n+1) cap) (l++[z])) {x0 x1 x2 x3:Value} {x:α} (hc:K.is (fun k=>lo≤k∧(Value.slice (some ⟨g,0,none⟩) (n+1) cap).ownBlock≠some k) w [x0,x1,x2,x3] x) (hl:l.length=n):
  K.own ty lo (putAt w g (n*4) x0 x1 x2 x3) (.slice (some ⟨g,0,none⟩) (n+1) cap) (l++[x]):=by
 obtain⟨g',cap',e,_,_,_,_,h1⟩:=Eo hK h hc;simp only[Value.slice.injEq,Option.some.injEq,Addr.mk.injEq] at e;obtain⟨⟨rfl,_⟩,_,rfl⟩:=e;rw[hl] at h1;exact h1
structure Gof (w0:World) (p:List aG) (told all:List aA) (PS:List (List aA)) (pv:Value) (g m:Nat):Prop where
 rules:eP.sl bf w0 pv p
 rnd:lD w0 g PS
 lt:g<w0.heap.size
 len:PS.length=m+1
 few:PS.length≤1000001
 last:PS[m]?=some all
 fst:∃ps,PS=told::ps
 how:Nn p told all (mQ (jv all) p told all PS)
 old:∀f∈all,inB told f=false→1≤dJ PS f∧dJ PS f<PS.length
 grow:∀(i:Nat) A B,PS[i]?=some A→PS[i+1]?=some B→Cx A B
 right:dP p
 good:GoodS p all
def OfV (lo n:Nat) (w:World) (e:Ending) (f:aA) (fs:Value):Option bG→Prop
 |none=>e=.returned (.pointer none)
 |some x=>∃b kv,e=.returned (.pointer (some ⟨b,0,none⟩))∧lo≤b∧x.fact=f∧w.heap[b]?=some (.cells #[.string f.1,fs,.int .i64 x.rule,kv] 30 (0,0))∧(kZ n).sl (From lo) w kv x.kids
def OfS (w0:World) (P m g cap:Nat) (pv:Value) (all:List aA) (how:aA→Int×List aA) (N:Nat):Prop:=
 ∀(f:aA) (fs:Value) (dep c d:Nat) (w:World),N+dep=62→Below w0.heap.size w0 w→w.heap[P]?=some (.cells #[pv,.slice (some ⟨g,0,none⟩) (m+1) cap,.int .i64 (c:Int)] 62 (0,0))→c≤400→d≤60→f∈all→Strs w fs f.2→
  Calls Tryz.prog 25 #[.pointer (some ⟨P,0,none⟩),.agg #[.string f.1,fs],.int .i64 (dep:Int)] w fun e w'=>OfV w.heap.size (N-1) w' e f fs (bI how N f dep (c,d)).1∧w'.heap[P]?=some (.cells #[pv,.slice (some ⟨g,0,none⟩) (m+1) cap,.int .i64 (((bI how N f dep (c,d)).2.1:Nat):Int)] 62 (0,0))∧Tn P w w'
theorem vZ {w:World} {R:Nat} {u0 u1 u2:Value} {t:TypeId} (h:w.heap[R]?=some (.cells #[u0,u1,u2] t (0,0))):(w.cell? ⟨R,0,none⟩=some u0∧w.cell? ⟨R,1,none⟩=some u1∧w.cell? ⟨R,2,none⟩=some u2)∧(w.cell? ⟨R,0+1,none⟩=some u1∧w.cell? ⟨R,0+2,none⟩=some u2)∧w.frozen? ⟨R,2,none⟩=false∧R<w.heap.size:=
 ⟨⟨by rw[cell_of_row _ _ _ _ _ _ h];rfl,by rw[cell_of_row _ _ _ _ _ _ h];rfl,by rw[cell_of_row _ _ _ _ _ _ h];rfl⟩,⟨by rw[cell_of_row _ _ _ _ _ _ h];rfl,by rw[cell_of_row _ _ _ _ _ _ h];rfl⟩,by simp[World.frozen?,h],(Array.getElem?_eq_some_iff.1 h).1⟩
theorem OW (k:Nat):okF (([]:List aN).getD k aC):=by rw[List.getD_eq_getElem?_getD];exact⟨by simp[aC],fun s hs=>by simp[aC] at hs⟩
theorem vG {α:Type} {l:List α} {j:Nat} {x:α} (h:l[j]?=some x):l.take (j+1)=l.take j++[x]:=by rw[List.take_add_one,h];rfl
theorem JH:∃i,Tryz.prog.info? 27=some i∧i.zero=some (.agg #[.string ByteArray.empty,.slice none 0 0])∧i.size=qC.size∧i.bytes=40:=⟨Tryz.t27,by kernel_rfl,by kernel_rfl,by kernel_rfl,by kernel_rfl⟩
theorem JI (w0:World) (P m g cap:Nat) (p:List aG) (told all:List aA) (PS:List (List aA)) (pv:Value) (hG:Gof w0 p told all PS pv g m) (hP:w0.heap.size≤P) (N:Nat) (ih:1≤N→OfS w0 P m g cap pv all (mQ (jv all) p told all PS) N):OfS w0 P m g cap pv all (mQ (jv all) p told all PS) (N+1):=by
 intro f fs dep c d w hN hB0 hrow hc4 hd6 hfa hs;obtain⟨how,DY⟩:∃how,how=mQ (jv all) p told all PS:=⟨_,rfl⟩;rw[←DY] at ih⊢;obtain⟨sa,sc,rfl⟩:=bA hs;obtain⟨pa,pc,rfl⟩:=aB.slice hG.rules;have hPl:=(Array.getElem?_eq_some_iff.1 hrow).1;obtain⟨w1,hw1⟩:∃w1,w1=w.alloc (.cells #[.string f.1,.slice sa f.2.length sc] 27):=⟨_,rfl⟩;have hL1:ak w w1:=by rw[hw1];exact(ak.refl w).alloc _
 have hr1:w1.heap[w.heap.size]?=some (.cells #[.string f.1,.slice sa f.2.length sc] 27 (0,0)):=by rw[hw1];exact heap_alloc_new w _
 have L6:=(hL1.block hPl).trans hrow;obtain⟨c1,hc1⟩:∃c1:Nat,c1=c+1:=⟨_,rfl⟩;have hci:(c1:Int)=(c:Int)+1:=by omega
 obtain⟨w2,hw2⟩:∃w2,w2=w1.setCell ⟨P,2,none⟩ (.int .i64 ((c:Int)+1)):=⟨_,rfl⟩;have hrow2:w2.heap[P]?=some (.cells #[.slice pa p.length pc,.slice (some ⟨g,0,none⟩) (m+1) cap,.int .i64 (c1:Int)] 62 (0,0)):=by rw[hw2,dz (j:=2) L6,hci];rfl
 have SB:Tn P w1 w2:=by rw[hw2];exact Tn.setCell (p:=P) (Tn.refl _ _) (x:=⟨P,2,none⟩) (Or.inl rfl) _
 have hl1:=(Array.getElem?_eq_some_iff.1 hr1).1;have hs2:Strs w2 (.slice sa f.2.length sc) f.2:=uT (Ga L6) SB (hs.later hL1);have hr2:=(SB.block _ hl1 (by omega)).trans hr1;have UW:Tn P w w2:=(Tn.of_below hL1.below).trans SB;have SC:Below w0.heap.size w0 w2:=aj hB0 (UW.below hP hB0.size) (Nat.le_refl _);obtain⟨⟨a0,a1,a2⟩,_,a3,_⟩:=vZ L6;obtain⟨⟨b0,b1,b2⟩,_,_,hP2⟩:=vZ hrow2;obtain⟨f0,f1,_,_,_⟩:=iH hr2;have f1':w2.cell? ⟨w.heap.size,0+1,none⟩=some (.slice sa f.2.length sc):=f1;have HC1:=au hc1;have HW1:=au hw1;have HW2:=au hw2;have L8:=au hrow2;have HR2:=au hr2;have SF:=au UW;have UY:=au SC;have HG:=au hG;have HIh:=au ih;have Ov:=au DY;have SG:=au hs2;have HAg:=au (WU PS f g cap P (.slice pa p.length pc) (.int .i64 (c1:Int)) (.agg #[.string f.1,.slice sa f.2.length sc]) w2 (by rw[hG.len];exact hrow2) (hG.rnd.below hG.lt SC) (Nat.lt_of_lt_of_le hG.lt SC.size) hG.few ⟨_,rfl,hs2⟩);have HFa:=au hfa;have HN:=au hN;clear hG ih DY hw1 hw2 hL1 hr1 L6 hrow2 SB hs2 hr2 UW SC hB0 hrow hs hc1 hci hfa b0 b1;obtain⟨fn,aH⟩:=f;dsimp only at*
 by_cases h4:400<c1
 ·have h4i:(400:Int)<(c:Int)+1:=by have:=HC1.out;omega
  have h4j:(400:Int)<(c1:Int):=by omega
  have HX:Hid (bI how (N+1) (fn,aH) dep (c,d)=(none,(c1,max d dep))):=by show _=_;unfold bI;dsimp only;rw[←HC1.out,if_pos (by unfold ig;simp[h4])]
  clear HAg HIh HG SG HR2
  go_enter Tryz.func25,Tryz.ntmps25
  go_wp2_with (first|(rw[←HW1.out])|(rw[←HW2.out])|fail)
  go_ret;exact⟨by rw[HX.out];exact rfl,by rw[HX.out];exact L8.out,SF.out⟩
 have h4i:¬(400:Int)<(c:Int)+1:=by have:=HC1.out;omega
 have h4j:¬(400:Int)<(c1:Int):=by omega
 by_cases h6:60<dep
 ·have h6i:(60:Int)<(dep:Int):=by omega
  have HX:Hid (bI how (N+1) (fn,aH) dep (c,d)=(none,(c1,max d dep))):=by show _=_;unfold bI;dsimp only;rw[←HC1.out,if_pos (by unfold ig;simp;omega)]
  clear HAg HIh HG SG HR2
  go_enter Tryz.func25,Tryz.ntmps25
  go_wp2_with (first|(rw[←HW1.out])|(rw[←HW2.out])|fail)
  go_ret;exact⟨by rw[HX.out];exact rfl,by rw[HX.out];exact L8.out,SF.out⟩
 have h6i:¬(60:Int)<(dep:Int):=by omega
 obtain⟨d1,hd1⟩:∃d1:Nat,d1=max d dep:=⟨_,rfl⟩;have hmu:ig (c1,d1)=false:=by unfold ig;simp;omega
 have Un:c1≤400:=by omega
 have Uo:d1≤60:=by omega
 have HD1:=au hd1;have HMu:=au hmu;obtain⟨A,hA⟩:∃A,A=dJ PS (fn,aH):=⟨_,rfl⟩;rw[←hA] at HAg;have HA:=au hA;have hAl:A≤1000001:=by have h1:=HG.out.few;have h2:dJ PS (fn,aH)≤PS.length:=List.findIdx_le_length;omega
 clear hd1 hmu hA
 go_enter Tryz.func25,Tryz.ntmps25
 go_wp2_with (first|(rw[←HW1.out])|(rw[←HW2.out])|fail)
 refine HAg.out.mono ?_;rintro e w3 ⟨rfl,hL3⟩;have hrow3:=(hL3.block hP2).trans L8.out;have hr3:=(hL3.block (Array.getElem?_eq_some_iff.1 HR2.out).1).trans HR2.out;have CW:=au hrow3;have HR3:=au hr3;have SH:=au (SF.out.trans (Tn.of_below hL3.below));have Ru:=au (aj UY.out hL3.below UY.out.size);have QK:=au (SG.out.later hL3);obtain⟨q0,q1,_,_,hFl⟩:=iH hr3;have q1':w3.cell? ⟨w.heap.size,0+1,none⟩=some (.slice sa aH.length sc):=q1;clear hL3 hrow3 hr3 HAg HW1 HW2 L8 HR2 SF UY SG a0 a1 a2 a3 b2 f0 f1 f1' q1
 by_cases hA0:A=0
 ·have hhw:how (fn,aH)=(-1,[]):=by
   obtain⟨ps,hps⟩:=HG.out.fst;have h1:=HA.out;rw[hA0] at h1;rw[Ov.out];unfold mQ;rw[if_pos (by rw[hps] at h1;exact D9.1 h1.symm)]
  have HX:Hid (bI how (N+1) (fn,aH) dep (c,d)=(some (.mk (fn,aH) (-1) []),(c1,d1))):=by
   show _=_;rw[xZ HC1.out HD1.out HMu.out hhw]
   rfl
  have HLe:=au SH.out.size;subst hA0;clear hhw HA HIh HG HMu;go_wp2;have hB4:Below w3.heap.size w3 (w3.alloc (.cells #[.string fn,.slice sa aH.length sc,.int .i64 (-1),.slice none 0 0] 30)):=((ak.refl w3).alloc _).below;go_ret;refine⟨?_,?_,SH.out.trans (Tn.of_below hB4)⟩;·rw[HX.out];exact⟨_,_,rfl,HLe.out,rfl,heap_alloc_new w3 _,aB.eH _ _ _ _ _⟩
  rw[HX.out];exact(hB4.block _ (Array.getElem?_eq_some_iff.1 CW.out).1).trans CW.out
 have hq:((A:Int)==0)=false:=by simpa using hA0
 have hno:inB told (fn,aH)=false:=by
  obtain⟨ps,hps⟩:=HG.out.fst;cases hi:inB told (fn,aH) with
  |false=>rfl
  |true=>exact absurd (by rw[HA.out,hps];exact D9.2 hi) hA0
 obtain⟨old,hold⟩:∃old,old=PS.getD (A-1) []:=⟨_,rfl⟩;have Xa:Hid (∀k,decide (dJ PS k<A)=inB old k):=fun k=>by obtain⟨h1,h2⟩:=HG.out.old _ HFa.out hno;rw[←HA.out] at h1 h2;rw[hold];exact QN HG.out.grow h1 h2 k
 have Pv:Hid (how (fn,aH)=iw (fun r=>byP (jv all) all old r (fn,aH)) 0 (p.drop 0)):=by show _=_;rw[Ov.out,hold,HA.out,List.drop_zero];unfold mQ;rw[if_neg (by rw[hno];simp)]
 have Xb:Hid (how (fn,aH)≠(-1,[])):=fun hc=>by
  rcases HG.out.how.ok _ HFa.out with⟨h1,_⟩|⟨i,r,of,_,h1,_,_⟩;·rw[hno] at h1;cases h1
  rw[←Ov.out,hc] at h1;have:=congrArg Prod.fst h1;simp at this
 obtain⟨u,hu,hFu⟩:=HG.out.rnd m all HG.out.last;obtain⟨la,lc,rfl⟩:=aF hFu;have HCe:Hid (∀w',ak w3 w'→w'.cell? ⟨P,1,none⟩=some (.slice (some ⟨g,0,none⟩) (m+1) cap)∧w'.cell? ⟨g,m,none⟩=some (.slice la all.length lc)):=fun w' h=>by have h0:=(h.block (Array.getElem?_eq_some_iff.1 CW.out).1).trans CW.out;refine⟨(vZ h0).1.2.1,?_⟩;rw[h.cell (p:=⟨g,m,none⟩) (Nat.lt_of_lt_of_le HG.out.lt Ru.out.size),Ru.out.cell (p:=⟨g,m,none⟩) HG.out.lt];exact hu
 have HFu:=au hFu;have hmf:m≤1000000:=by have h1:=HG.out.few;have h2:=HG.out.len;omega
 have e0:IntKind.i64.wrap (m:Int)=(m:Int):=by simp[IntKind.wrap,IntKind.bits,IntKind.signed];omega
 have e1:IntKind.i64.wrap ((m:Int)+1-1)=(m:Int):=by rw[show(m:Int)+1-1=(m:Int) by omega];exact e0
 have e2:IntKind.i64.wrap (((m+1:Nat):Int)-1)=(m:Int):=by rw[show((m+1:Nat):Int)-1=(m:Int) by omega];exact e0
 have hmi:(m:Int)<(m:Int)+1:=by omega
 clear hold hu hFu hno hA0;go_wp2;refine wp_region_held_drew (S:=fun w'=>ak w3 w') (by kernel_rfl) (ak.refl w3).drew (fun hHeld=>?_);refine tkY 0 61 hHeld ?_;refine tkY 1 62 hHeld ?_;refine tkY 2 63 hHeld ?_;refine tkY 3 64 hHeld ?_ rfl fun w hSw=>by obtain⟨p0,p1⟩:=HCe.out _ hSw;go_simp;try with_reducible rfl
 refine tkY 4 65 hHeld ?_;refine tkY 5 66 hHeld ?_;refine tkY 6 67 hHeld ?_;refine tkY 7 68 hHeld ?_ rfl fun w hSw=>by obtain⟨p0,p1⟩:=HCe.out _ hSw;go_simp;try with_reducible rfl
 refine tkY 8 69 hHeld ?_;refine tkY 9 70 hHeld ?_;refine tkY 10 71 hHeld ?_;refine tkY 11 72 hHeld ?_ rfl fun w hSw=>by obtain⟨p0,p1⟩:=HCe.out _ hSw;go_simp;try with_reducible rfl
 refine tkY 12 8 hHeld ?_;refine wpAnyH_done (by kernel_rfl) ?_ _;clear HCe e0 e1 e2 hmi;generalize w3.drew=w4 at hHeld⊢;have hrow4:=(hHeld.block (Array.getElem?_eq_some_iff.1 CW.out).1).trans CW.out;have hr4:=(hHeld.block (Array.getElem?_eq_some_iff.1 HR3.out).1).trans HR3.out;have CP:=au hrow4;have HR4:=au hr4;have Xc:=au (SH.out.trans (Tn.of_below hHeld.below));have Gs:=au (aj Ru.out hHeld.below Ru.out.size);have Pp:=au (QK.out.later hHeld);have SI:P<w4.heap.size:=(Array.getElem?_eq_some_iff.1 hrow4).1;have UZ:w.heap.size<w4.heap.size:=(Array.getElem?_eq_some_iff.1 hr4).1;have k0:w4.cell? ⟨P,0,none⟩=some (.slice pa p.length pc):=(vZ hrow4).1.1;have hpl:=HG.out.rules.1.1;clear hHeld hrow4 hr4 CW HR3 SH Ru QK q0 q1' hFl;go_wp2;clear k0
 go_loopg [78] p.length (fun q i wr=>∃j:Nat,j+q=p.length∧i=.int .i64 j∧Hid (how (fn,aH)=iw (fun r=>byP (jv all) all old r (fn,aH)) j (p.drop j))∧Hid (Below w4.heap.size w4 wr))
 case atStart=>exact⟨0,by omega,rfl,Pv,Below.refl _ _⟩
 clear Pv;obtain⟨j,hj,rfl,Pv,HB⟩:=hrel
 by_cases hlt:j<p.length
 ·obtain⟨r,hr⟩:∃r,p[j]?=some r:=⟨_,List.getElem?_eq_getElem hlt⟩;have hfb:=rQ (g:=fun r=>byP (jv all) all old r (fn,aH)) hr;rw[←Pv.out] at hfb;have HFb:=au hfb;obtain⟨BP,hBP⟩:∃BP,BP=byP (jv all) all old r (fn,aH):=⟨_,rfl⟩;have HBP:=au hBP;rw[←hBP] at HFb;have hrp:=List.mem_of_getElem? hr;have hRR:=HG.out.right.rules r hrp;obtain⟨t4,tbt⟩:=vB HG.out.right r hrp;have Rv:=aj Gs.out HB.out Gs.out.size;obtain⟨b1,o1,_,e1,hb1,hri,hc⟩:=aB.bO HG.out.rules hr;subst e1;obtain⟨hv,bv,hce,hhv,hbv⟩:=hri;subst hce;obtain⟨ha',hc',rfl⟩:=aB.slice hhv;obtain⟨ba,bc,rfl⟩:=aB.slice hbv;have d0:wr.cell? ⟨b1,o1+j*4,none⟩=some (.bool r.head.no):=by rw[Rv.cell (p:=⟨b1,o1+j*4,none⟩) hb1];simpa[eP] using hc 0 _ rfl
  have d1:wr.cell? ⟨b1,o1+j*4+1,none⟩=some (.string (bs r.head.name)):=by rw[Rv.cell (p:=⟨b1,o1+j*4+1,none⟩) hb1];simpa[eP] using hc 1 _ rfl
  have d2:wr.cell? ⟨b1,o1+j*4+2,none⟩=some (.slice ha' r.head.terms.length hc'):=by rw[Rv.cell (p:=⟨b1,o1+j*4+2,none⟩) hb1];simpa[eP] using hc 2 _ rfl
  have d3:wr.cell? ⟨b1,o1+j*4+3,none⟩=some (.slice ba r.body.length bc):=by rw[Rv.cell (p:=⟨b1,o1+j*4+3,none⟩) hb1];simpa[eP] using hc 3 _ rfl
  obtain⟨wR,hwR⟩:∃wR,wR=wr.alloc (.cells #[.bool r.head.no,.string (bs r.head.name),.slice ha' r.head.terms.length hc',.slice ba r.body.length bc] 82):=⟨_,rfl⟩;have hLR:ak wr wR:=by rw[hwR];exact(ak.refl wr).alloc _
  have hrR:wR.heap[wr.heap.size]?=some (.cells #[.bool r.head.no,.string (bs r.head.name),.slice ha' r.head.terms.length hc',.slice ba r.body.length bc] 82 (0,0)):=by rw[hwR];exact heap_alloc_new wr _
  obtain⟨wM,hwM⟩:∃wM,wM=wR.alloc (.map #[] 0):=⟨_,rfl⟩;have hLM:ak wR wM:=by rw[hwM];exact(ak.refl wR).alloc _
  have hEM:jR wM wR.heap.size 0 []:=by rw[hwM];exact jR.made wR
  have SK:Below w4.heap.size w4 wM:=aj HB.out (hLR.trans hLM).below HB.out.size;have Xd:Below w0.heap.size w0 wM:=aj Gs.out SK Gs.out.size;have hRF:=HG.out.good.right _ HFa.out;have hsh:∀s∈aH,s.size≤maxLen:=fun s hs=>by have:=iZ (hRF.2.2 s hs);unfold maxLen;omega
  have HTr:=au (Sn r.head (fn,aH) [] wR.heap.size 0 4 (.slice ha' r.head.terms.length hc') (.agg #[.string fn,.slice sa aH.length sc]) wM (aB.aJ hhv Xd) ⟨_,rfl,Pp.out.below SK⟩ hEM (bB hRR.head).2.1 (by omega) t4 hsh);obtain⟨⟨z0,z1,z2,z3⟩,⟨z4,z5,z6⟩,_,hlR⟩:=dG hrR;have Xe:=(hLR.block (Nat.lt_of_lt_of_le UZ HB.out.size)).trans ((HB.out.block _ UZ).trans HR4.out);obtain⟨y0,y1,_,_,_⟩:=iH Xe;have y1':wR.cell? ⟨w.heap.size,0+1,none⟩=some (.slice sa aH.length sc):=y1;have HrR:=au ((hLM.block hlR).trans hrR);have hlM:wr.heap.size<wM.heap.size:=Nat.lt_of_lt_of_le hlR hLM.size;have U0:=au SK;have HWR:=au hwR;have HWM:=au hwM;have HBd:=au hbv;have Xf:=au hRR.body;have HTB:=au tbt;have hb5:=(fM hRR.body).1;have Xg:Hid (∀a∈r.body,a.terms.length≤4):=fun a ha=>(gQ ((fM hRR.body).2 a ha)).2.1;have HRF:=au hRF;have hjl:(j:Int)<(p.length:Int):=by omega
  have hmm:= @run_makeMap Tryz.prog;clear hr hfb hBP hrp t4 tbt Rv hc hhv hbv hwR hLR hrR hwM hLM hEM SK Xd hsh Xe hRR hRF Pv HB y1;obtain⟨hd,body⟩:=r;dsimp only at*;generalize hnm:bs hd.name=nm at*;clear hnm;obtain⟨o,ho⟩:∃o,o=cZ hd (fn,aH) []:=⟨_,rfl⟩;rw[←ho] at HTr;have HO:=au ho;clear ho;generalize hd.no=no at*
  go_wp2_with (first|(rw[←HWR.out])|(rw[←HWM.out])|fail)
  refine HTr.out.mono ?_;rintro e w5 ⟨hT5,hB5⟩;obtain⟨e5,rfl,hn5,hs5⟩:=vw hT5;have hr5:=(hB5.block _ hlM).trans HrR.out;have Rw:=au (aj U0.out hB5 U0.out.size);have U1:wr.heap.size<w5.heap.size:=(Array.getElem?_eq_some_iff.1 hr5).1;clear hT5 hB5 HTr HWR HWM HrR U0 d0 d1 d2 d3 z0 z1 z2 z3 z4 z5 z6 y0 y1' hb1 hlR hlM;generalize wr.heap.size=RB at*;cases o with
  |none=>
   have he5:=hn5 rfl;subst he5;have JJ:Hid (how (fn,aH)=iw (fun r=>byP (jv all) all old r (fn,aH)) (j+1) (p.drop (j+1))):=by
    have hbn:BP=none:=by rw[HBP.out];unfold byP;rw[←HO.out]
    have:=HFb.out;rw[hbn] at this;exact this
   have hnq:∀w:World,(binOp .eql 84 (.map none) (.map none)).run Tryz.prog w=.ok (.bool true) w:=fun w=>run_eql_map_nil w 84 9 9 none Tryz.underlying84;clear hn5 hs5 HFb HBP HO HBd hr5;go_wp2
   go_roundg (p.length- (j+1))
   case measure=>omega
   case rel=>exact⟨j+1,by omega,by go_num,JJ,Rw⟩
  |some b0=>
   obtain⟨eb,he5,_,hE5⟩:=hs5 b0 rfl;subst he5;have hbp:=Rs (all:=all) (old:=old) (r:=⟨hd,body⟩) HO.out.symm;dsimp only at hbp;rw[←HBP.out] at hbp;have hwb:aL (dR b0 body)=0:=tT Xf.out (F5 HRF.out HO.out.symm);have HBp:=au hbp;have HWb:=au hwb;have HE5:=au hE5;have hnq:∀w:World,(binOp .eql 84 (.map (some eb)) (.map none)).run Tryz.prog w=.ok (.bool false) w:=fun w=>run_eql_map_nil w 84 9 9 (some eb) Tryz.underlying84;have k3:w5.cell? ⟨RB,3,none⟩=some (.slice ba body.length bc):=(dG hr5).1.2.2.2;have Rx:=au (aB.aJ HBd.out (aj Gs.out Rw.out Gs.out.size));clear hn5 hs5 hbp hwb hE5 HBP HO HBd hr5 Xf;go_wp2;clear k3 hnq
   go_loopg [12,93] body.length (fun q bv i wr=>∃t:Nat,t+q=body.length∧i=.int .i64 t∧Hid (bN.own 79 w5.heap.size wr bv ((body.take t).map (dV b0)))∧Hid (Below w5.heap.size w5 wr))
   case atStart=>exact⟨0,by omega,rfl,aB.fD _ _ _ _,Below.refl _ _⟩
   obtain⟨t,ht,rfl,HOb,HBt⟩:=hrel;obtain⟨va,vn,vc,hvv⟩:∃a n c,u12=.slice a n c:=by obtain⟨a,c,e⟩:=aB.aY HOb.out;exact⟨a,_,c,e⟩
   subst hvv
   by_cases Oy:t<body.length
   ·obtain⟨a,ha⟩:∃a,body[t]?=some a:=⟨_,List.getElem?_eq_getElem Oy⟩;have hmem:=List.mem_of_getElem? ha;have h4t:=Xg.out a hmem;have HTs:=au (HTB.out a hmem);obtain⟨b2,o2,_,e2,hb2,⟨xv,hce,htv⟩,hc⟩:=aB.bO Rx.out ha;subst e2;subst hce;have d0:wr.cell? ⟨b2,o2+t*3,none⟩=some (.bool a.no):=by rw[HBt.out.cell (p:=⟨b2,o2+t*3,none⟩) hb2];simpa[bN] using hc 0 _ rfl
    have d1:wr.cell? ⟨b2,o2+t*3+1,none⟩=some (.string (bs a.name)):=by rw[HBt.out.cell (p:=⟨b2,o2+t*3+1,none⟩) hb2];simpa[bN] using hc 1 _ rfl
    have d2:wr.cell? ⟨b2,o2+t*3+2,none⟩=some xv:=by rw[HBt.out.cell (p:=⟨b2,o2+t*3+2,none⟩) hb2];simpa[bN] using hc 2 _ rfl
    obtain⟨xa,xc,rfl⟩:=aB.slice htv;obtain⟨wa,hwa⟩:∃wa,wa=wr.alloc (.cells #[.bool a.no,.string (bs a.name),.slice xa a.terms.length xc] 79):=⟨_,rfl⟩;have hLa:ak wr wa:=by rw[hwa];exact(ak.refl wr).alloc _
    have hra:wa.heap[wr.heap.size]?=some (.cells #[.bool a.no,.string (bs a.name),.slice xa a.terms.length xc] 79 (0,0)):=by rw[hwa];exact heap_alloc_new wr _
    obtain⟨wb,hwb⟩:∃wb,wb=wa.alloc (.cells #[.bool a.no,.string (bs a.name),.slice none 0 0] 79):=⟨_,rfl⟩;have hLb:ak wa wb:=by rw[hwb];exact(ak.refl wa).alloc _
    have hrb:wb.heap[wa.heap.size]?=some (.cells #[.bool a.no,.string (bs a.name),.slice none 0 0] 79 (0,0)):=by rw[hwb];exact heap_alloc_new wa _
    obtain⟨⟨c0,c1',c2⟩,_,_,hal⟩:=vZ hra;have c2':wb.cell? ⟨wr.heap.size,2,none⟩=some (.slice xa a.terms.length xc):=(vZ ((hLb.block hal).trans hra)).1.2.2;have hlB:wa.heap.size<wb.heap.size:=(Array.getElem?_eq_some_iff.1 hrb).1;have hBb:Below w5.heap.size w5 wb:=aj HBt.out (hLa.trans hLb).below HBt.out.size;have Zo:w5.heap.size≤wa.heap.size:=Nat.le_trans HBt.out.size hLa.size;have Zp:wr.heap.size≤wa.heap.size:=hLa.size;have Zq:=au (hLa.trans hLb);have HBb:=au hBb;have HTv:=au htv;have HWa:=au hwa;have Xh:=au hwb;have HRb:=au hrb;have HMp:Hid ((body.take (t+1)).map (dV b0)=(body.take t).map (dV b0)++[dV b0 a]):=by show _=_;rw[vG ha,List.map_append];rfl
    have aaw:=htv.1.1;have aax:((body.take t).map (dV b0)).length≤5:=by rw[List.length_map,List.length_take];omega
    clear hc ha htv hwa hLa hra hwb hLb hrb hBb hb2 hal hmem;generalize Xi:bs a.name=nm2 at*;have Zr:=au Xi;clear Xi
    go_wp2_with (first|(rw[←HWa.out])|(rw[←Xh.out])|fail)
    clear HWa Xh d0 d1 d2 c0 c1' c2 c2';generalize wr=wq at*;generalize hAB:wq.heap.size=AB at*;have HAB:=au hAB;clear hAB;generalize wa.heap.size=BB at*
    go_loopg [105] a.terms.length (fun q i wr=>∃(y:Nat) (za:Option Addr) (zn zc:Nat),y+q=a.terms.length∧i=.int .i64 y∧Hid (eD.own 101 wb.heap.size wr (.slice za zn zc) ((a.terms.take y).map (cO b0)))∧Hid (wr.heap[BB]?=some (.cells #[.bool a.no,.string nm2,.slice za zn zc] 79 (0,0)))∧Hid (Tn BB wb wr))
    case atStart=>exact⟨0,none,0,0,by omega,rfl,aB.fD _ _ _ _,HRb,Tn.refl _ _⟩
    clear HRb;obtain⟨y,za,zn,zc,hy,rfl,HOt,HRb,HTn⟩:=hrel;have BF:Below w5.heap.size w5 wr:=aj HBb.out (HTn.out.below Zo HBb.out.size) (Nat.le_refl _);have TU:=HTn.out.size
    by_cases hlty:y<a.terms.length
    ·obtain⟨x,hx⟩:∃x,a.terms[y]?=some x:=⟨_,List.getElem?_eq_getElem hlty⟩;obtain⟨b3,o3,_,e3,hb3,hxe,hc⟩:=aB.bO HTv.out hx;subst e3;subst hxe;have d0:wr.cell? ⟨b3,o3+y*2,none⟩=some (.bool x.1):=by rw[BF.cell (p:=⟨b3,o3+y*2,none⟩) hb3];exact hc 0 _ rfl
     have d1:wr.cell? ⟨b3,o3+y*2+1,none⟩=some (.string (bs x.2)):=by rw[BF.cell (p:=⟨b3,o3+y*2+1,none⟩) hb3];exact hc 1 _ rfl
     have hxl:=HTs.out x (List.mem_of_getElem? hx);obtain⟨wt,hwt⟩:∃wt,wt=wr.alloc (.cells #[.bool x.1,.string (bs x.2)] 101):=⟨_,rfl⟩;have hLt:ak wr wt:=by rw[hwt];exact(ak.refl wr).alloc _
     have hrt:wt.heap[wr.heap.size]?=some (.cells #[.bool x.1,.string (bs x.2)] 101 (0,0)):=by rw[hwt];exact heap_alloc_new wr _
     have hlk:=(HE5.out.below (aj BF hLt.below BF.size)).look (s:=x.2) hxl;have U2:Hid ((a.terms.take (y+1)).map (cO b0)=(a.terms.take y).map (cO b0)++[cO b0 x]):=by show _=_;rw[vG hx,List.map_append];rfl
     have HWt:=au hwt;clear hc hx hwt hxl hb3;obtain⟨x1,x2⟩:=x;dsimp only at*;have hyl:((a.terms.take y).map (cO b0)).length≤4:=by rw[List.length_map,List.length_take];omega
     obtain⟨t0,t1,t2,t3,htl⟩:=iH hrt;have t1':wt.cell? ⟨wr.heap.size,0+1,none⟩=some (.string (bs x2)):=t1;have hcase:(∃sv,x1=true∧dB b0 (bs x2)=some sv)∨dB b0 (bs x2)=none∨∃sv,x1=false∧dB b0 (bs x2)=some sv:=by
      cases hg:dB b0 (bs x2) with
      |none=>exact Or.inr (Or.inl rfl)
      |some sv=>
       cases x1 with
       |true=>exact Or.inl ⟨sv,rfl,rfl⟩
       |false=>exact Or.inr (Or.inr ⟨sv,rfl,rfl⟩)
     have Ry:Hid (∀(wz:World),Tn wr.heap.size wt wz→eD.own 101 wb.heap.size wz (.slice za zn zc) ((a.terms.take y).map (cO b0))∧wz.heap[BB]?=some (.cells #[.bool a.no,.string nm2,.slice za zn zc] 79 (0,0))∧Tn BB wb wz∧wr.heap.size<wz.heap.size):=fun wz hT=>by have hk:∀k,k<wr.heap.size→wz.heap[k]?=wr.heap[k]?:=fun k hk=>(hT.block k (by omega) (by omega)).trans (hLt.block hk);have hz:=hT.size;have hb:=hLt.below;exact⟨aB.dS HOt.out (by omega) fun k hk' _=>hk k hk',(hk _ (by omega)).trans HRb.out,⟨hT.os.trans (hb.os.trans HTn.out.os),hT.tape.trans (hb.tape.trans HTn.out.tape),hT.output.trans (hb.output.trans HTn.out.output),by omega,fun k hk1 hk2=>(hk k (by omega)).trans (HTn.out.block k hk1 hk2)⟩,by omega⟩
     obtain⟨E,hE⟩:∃E,E=cO b0 (x1,x2):=⟨_,rfl⟩;rw[←hE] at U2;clear HTn HRb HOt BF hLt htl;rcases hcase with⟨sv,hx1,hg⟩|hg|⟨sv,hx1,hg⟩
     case' inl=>
      subst hx1;rw[F7 hg] at hE;rw[hg] at hlk;dsimp only[Option.getD_some,Option.isSome_some] at hlk;obtain⟨wz,hwz⟩:∃wz,wz=(wt.setCell ⟨wr.heap.size,0,none⟩ (.bool false)).setCell ⟨wr.heap.size,1,none⟩ (.string sv):=⟨_,rfl⟩;have hTz:Tn wr.heap.size wt wz:=by rw[hwz];exact Tn.setCell (p:=wr.heap.size) (Tn.setCell (p:=wr.heap.size) (Tn.refl _ _) (x:=⟨wr.heap.size,0,none⟩) (Or.inl rfl) _) (x:=⟨wr.heap.size,1,none⟩) (Or.inl rfl) _
      obtain⟨s0,s1⟩:=qB hrt (.bool false) (.string sv);rw[←hwz] at s0 s1;have hcE:[Value.bool false,Value.string sv]=[.bool E.1,.string (bs E.2)]:=by rw[hE];simp[iT]
      have HWz:=au hwz;clear hwz hg hE
     case' inr.inl=>
      rw[CS hg] at hE;rw[hg] at hlk;dsimp only[Option.getD_none,Option.isSome_none] at hlk;have hTz:Tn wr.heap.size wt wt:=Tn.refl _ _;have s0:=t0;have s1:=t1;have hcE:[Value.bool x1,Value.string (bs x2)]=[.bool E.1,.string (bs E.2)]:=by rw[hE]
      clear hg hE;obtain⟨wz,hwz⟩:∃wz,wz=wt:=⟨_,rfl⟩;subst hwz
     case' inr.inr=>
      subst hx1;rw[CU] at hE;rw[hg] at hlk;dsimp only[Option.getD_some,Option.isSome_some] at hlk;have hTz:Tn wr.heap.size wt wt:=Tn.refl _ _;have s0:=t0;have s1:=t1;have hcE:[Value.bool false,Value.string (bs x2)]=[.bool E.1,.string (bs E.2)]:=by rw[hE]
      clear hg hE;obtain⟨wz,hwz⟩:∃wz,wz=wt:=⟨_,rfl⟩;subst hwz
     all_goals
      obtain⟨hO2,U3,Rz,hlz⟩:=Ry.out wz hTz;obtain⟨ti,tz,i1,i2,i3,i4,i5⟩:=AV;obtain⟨v6,w6,hrun,hO6,hg6,_,hk6⟩:=aB.jY (P:=Tryz.prog) (t:=77) hO2 Tryz.underlying77 i1 i2 i3 i4 i5 (by decide) (x:=E) hcE (by omega) (by simp only[maxLen];omega) (by omega);obtain⟨a6,n6,c6,rfl⟩:∃a n c,v6=.slice a n c:=by obtain⟨a,c,e⟩:=aB.aY hO6;exact⟨a,_,c,e⟩
      have U4:∀k,(Value.slice za zn zc).ownBlock=some k→wb.heap.size≤k:=fun k e=>(aB.dL hO2 e).1;have Sq:=hg6.size;rw[World.size_alloc] at Sq;have U5:w6.heap[BB]?=some (.cells #[.bool a.no,.string nm2,.slice za zn zc] 79 (0,0)):=(hg6.block BB (by rw[World.size_alloc];omega) (fun e=>by have:=U4 BB e.symm;omega)).trans ((Below.heap_alloc wz _ BB (by omega)).trans U3);obtain⟨wN,hwN⟩:∃wN,wN=w6.setCell ⟨BB,2,none⟩ (.slice a6 n6 c6):=⟨_,rfl⟩;have hTN:Tn BB w6 wN:=by rw[hwN];exact Tn.setCell (p:=BB) (Tn.refl _ _) (x:=⟨BB,2,none⟩) (Or.inl rfl) _
      have Jc:wN.heap[BB]?=some (.cells #[.bool a.no,.string nm2,.slice a6 n6 c6] 79 (0,0)):=by rw[hwN,dz (j:=2) U5];rfl
      have Xj:Tn BB wb wN:=⟨hTN.os.trans (hg6.os.trans Rz.os),hTN.tape.trans (hg6.tape.trans Rz.tape),hTN.output.trans (hg6.output.trans Rz.output),by have:=hTN.size;omega,fun k hk hne=>(hTN.block k (by omega) hne).trans ((hg6.block k (by rw[World.size_alloc];omega) (fun e=>by have:=U4 k e.symm;omega)).trans ((Below.heap_alloc wz _ k (by omega)).trans (Rz.block k hk hne)))⟩;have hON:=aB.dI hO6 hTN hlB;rw[←U2.out] at hON;have s1':wz.cell? ⟨wr.heap.size,0+1,none⟩=_:=s1;obtain⟨⟨_,_,g2⟩,_,_,_⟩:=vZ U3;obtain⟨_,_,g3,_⟩:=vZ U5;have HLk:=au hlk;have HRn:=au hrun;have HWN:=au hwN;have HON:=au hON;have HRN:=au Jc;have HTN:=au Xj;clear hrun hwN hON Jc Xj hTN U5 Sq U4 hg6 hO6 hk6 hO2 U3 Rz hcE hTz i1 i2 i3 i4 i5 Ry U2 hlk hrt;generalize bs x2=kx at*
      go_wp2_with (first|(rw[←HWt.out])|(at_lookup;refine bP _ rfl _ _ _ _ rfl _ _ _ rfl rfl HLk.out ?_)|(rw[←HWz.out])|(at_builtin;refine wpList_append_run rfl (.tmp 124) (.tmp 126) 77 rfl _ _ _ _ rfl rfl HRn.out ?_)|(rw[←HWN.out]))
      go_roundg (a.terms.length- (y+1))
      case measure=>omega
      case rel=>exact⟨y+1,a6,n6,c6,by omega,by go_num,HON,HRN,HTN⟩
    have hO3:=HOt.out;rw[List.take_of_length_le (by omega)] at hO3;have hown:∀k,(Value.slice va vn vc).ownBlock=some k→w5.heap.size≤k∧k<AB:=fun k e=>by have:=aB.dL HOb.out e;rw[HAB.out] at this;exact this
    have Xl:bN.own 79 w5.heap.size wr (.slice va vn vc) ((body.take t).map (dV b0)):=aB.dS HOb.out (by rw[HAB.out];omega) fun k hk _=>(HTn.out.block k (by rw[HAB.out] at hk;omega) (by rw[HAB.out] at hk;omega)).trans (Zq.out.block hk);have hel:bN.is (fun k=>w5.heap.size≤k∧(Value.slice va vn vc).ownBlock≠some k) wr [.bool a.no,.string nm2,.slice za zn zc] (dV b0 a):=⟨_,by rw[←Zr.out];rfl,aB.bQ (aB.fq hO3 (by show(a.terms.map (cO b0)).length≤_;rw[List.length_map];omega)) fun k _ (hk:wb.heap.size≤k)=>⟨by omega,fun e=>by have:=(hown k e).2;omega⟩⟩;obtain⟨ti,tz,i1,i2,i3,i4,i5⟩:=AU;obtain⟨v6,w6,hrun,hO6,hg6,_,_⟩:=aB.jY (P:=Tryz.prog) (t:=80) Xl Tryz.underlying80 i1 i2 i3 i4 i5 (by decide) hel (by omega) (by simp only[maxLen];omega) BF.size;have HB6:Hid (Below w5.heap.size w5 w6):=(aj BF ((ak.refl wr).alloc _).below BF.size).grown hg6 (by have:=BF.size;simp;omega) (fun k e=>(hown k e).1);rw[←HMp.out] at hO6;obtain⟨a6,n6,c6,rfl⟩:∃a n c,v6=.slice a n c:=by obtain⟨a,c,e⟩:=aB.aY hO6;exact⟨a,_,c,e⟩
    obtain⟨⟨g0,_,_⟩,⟨g1,g2⟩,_,_⟩:=vZ HRb.out;have HRn:=au hrun;have HO6:=au hO6;clear hO3 hown Xl hel hrun hO6 hg6 i1 i2 i3 i4 i5 BF HOt HRb HTn HOb HBb HMp
    go_wp2_with (at_builtin;refine wpList_append_run rfl (.tmp 130) (.tmp 132) 80 rfl _ _ _ _ rfl rfl HRn.out ?_)
    go_roundg (body.length- (t+1))
    case measure=>omega
    case rel=>exact⟨t+1,by omega,by go_num,HO6,HB6⟩
   have hvo:=HOb.out;rw[List.take_of_length_le (by omega)] at hvo;obtain⟨B',hB'⟩:∃B',B'=dR b0 body:=⟨_,rfl⟩;have U6:bN.own 79 w5.heap.size wr (.slice va vn vc) B':=by rw[hB'];exact hvo
   have hBl:B'.length≤5:=by rw[hB'];unfold dR;rw[List.length_map];omega
   have hvn:vn=B'.length:=by
    obtain⟨a,c,e⟩:=aB.aY U6
    injection e
   rw[←hB'] at HBp HWb;have hsl:=aB.dO (aB.fq U6 (by omega));have U7:Below w4.heap.size w4 wr:=aj Rw.out HBt.out Rw.out.size;have OX:=aj Gs.out U7 Gs.out.size;have HWi:=au (UU B' (.slice va vn vc) (.slice la all.length lc) (.slice none 0 0) all [] (-1) wr hsl (HFu.out.below OX) ⟨by simp,none,0,rfl,fun h=>absurd rfl h⟩ (F6 HWb.out) (LX HG.out.good) OW);have HSl:=au hsl;have U8:=au U7;subst hvn;clear hvo U6 hB' hsl U7 OX HOb HBt HE5 Rx HTB Xg Rw HRF U1 hb5;generalize wr=w6 at*
   go_wp2_with fail
   refine HWi.out.mono ?_;rintro e w7 ⟨v7,er,rfl,hT7,hB7⟩;have RA:=au (aj U8.out hB7 U8.out.size)
   by_cases her:er=0
   ·subst her;have hls:=rO hT7;obtain⟨LS,hLS⟩:∃LS,LS=jZ B' all (jv all B'):=⟨_,rfl⟩;have HLk:Hid (∀l∈LS,LOk B' all l):=fun l hl=>LW HG.out.good HWb.out (by rw[hLS] at hl;exact hl);have hll:LS.length≤20000:=by rw[hLS];exact rP
    rw[←hLS] at hls HBp;obtain⟨xa,xc,rfl⟩:=aB.slice hls;have HLs:=au hls;have HS7:=au (aB.aJ HSl.out hB7);have hz4:w4.heap.size≤w7.heap.size:=RA.out.size;clear hT7 hls hLS hB7 HWi HSl U8;go_wp2
    go_loopg [145] LS.length (fun q i wr=>∃t:Nat,t+q=LS.length∧i=.int .i64 t∧Hid (BP=((LS.map (cu B')).drop t).find? fun of=>of.all (inB old))∧Hid (Below w7.heap.size w7 wr))
    case atStart=>exact⟨0,by omega,rfl,(by rw[List.drop_zero];exact HBp.out:_=_),Below.refl _ _⟩
    clear HBp;obtain⟨t,ht,rfl,HBp,HBt⟩:=hrel
    by_cases Zt:t<LS.length
    ·obtain⟨l,hl⟩:∃l,LS[t]?=some l:=⟨_,List.getElem?_eq_getElem Zt⟩;have hfd:=AX (P:=fun of:List aA=>of.all (inB old)) (l:=LS.map (cu B')) (j:=t) (x:=cu B' l) (by rw[List.getElem?_map,hl];rfl);rw[←HBp.out] at hfd;have HFd:=au hfd;have HOk:=au (HLk.out l (List.mem_of_getElem? hl));obtain⟨b2,o2,_,e2,hb2,⟨lv,hce,hlv⟩,hc⟩:=aB.bO HLs.out hl;subst e2;subst hce;have d0:wr.cell? ⟨b2,o2+t,none⟩=some lv:=by rw[HBt.out.cell (p:=⟨b2,o2+t,none⟩) hb2];simpa[slK] using hc 0 _ rfl
     obtain⟨ya,yc,rfl⟩:=aB.slice hlv;have aay:=hlv.1.1;have HLv:=au hlv;obtain⟨wm,hwm⟩:∃wm,wm=wr.alloc (.map #[] 0):=⟨_,rfl⟩;have HEm:Hid (jR wm wr.heap.size 0 []):=by show jR _ _ _ _;rw[hwm];exact jR.made wr
     have HBm:Hid (Below wr.heap.size wr wm):=by show Below _ _ _;rw[hwm];exact((ak.refl wr).alloc _).below
     have hlm:wr.heap.size<wm.heap.size:=by rw[hwm];simp
     have hz7:w7.heap.size≤wr.heap.size:=HBt.out.size;have HWm:=au hwm;clear hl hfd hc hlv hwm HBp hb2
     go_wp2_with (rw[←HWm.out])
     clear HWm d0;generalize wr=wq at*;generalize hEM:wq.heap.size=EM at*;have HEM:=au hEM;clear hEM
     go_loopg [152] l.length (fun q i wr=>∃y:Nat,y+q=l.length∧i=.int .i64 y∧Hid (jR wr EM y (l.take y))∧Hid (Below EM wq wr)∧EM<wr.heap.size)
     case atStart=>exact⟨0,by omega,rfl,(by show jR _ _ _ _;rw[List.take_zero];exact HEm.out),HBm,hlm⟩
     clear HEm HBm hlm;obtain⟨y,hy,rfl,HEy,HBy,hly⟩:=hrel;have Ep:Below w7.heap.size w7 wr:=aj HBt.out HBy.out hz7
     by_cases hlty:y<l.length
     ·obtain⟨x,hx⟩:∃x,l[y]?=some x:=⟨_,List.getElem?_eq_getElem hlty⟩;obtain⟨b3,o3,_,e3,hb3,hxe,hc⟩:=aB.bO HLv.out hx;subst e3;subst hxe;have d0:wr.cell? ⟨b3,o3+y*2,none⟩=some (.string x.1):=by rw[Ep.cell (p:=⟨b3,o3+y*2,none⟩) hb3];exact hc 0 _ rfl
      have d1:wr.cell? ⟨b3,o3+y*2+1,none⟩=some (.string x.2):=by rw[Ep.cell (p:=⟨b3,o3+y*2+1,none⟩) hb3];exact hc 1 _ rfl
      obtain⟨hs1,hs2⟩:=HOk.out.short x (List.mem_of_getElem? hx);obtain⟨wt,hwt⟩:∃wt,wt=wr.alloc (.cells #[.string x.1,.string x.2] 108):=⟨_,rfl⟩;have hLt:ak wr wt:=by rw[hwt];exact(ak.refl wr).alloc _
      have hrt:wt.heap[wr.heap.size]?=some (.cells #[.string x.1,.string x.2] 108 (0,0)):=by rw[hwt];exact heap_alloc_new wr _
      obtain⟨w8,hup,hE8,hg8⟩:=(HEy.out.later hLt).store (by unfold maxLen;omega) hs1 (by rw[iT];exact JF HOk.out.nodup hx) hs2;rw[iT] at hup hE8;have Xm:jR w8 EM (y+1) (l.take (y+1)):=by rw[vG hx];exact hE8
      have hzt:=hLt.size;have hz8:=hg8.size;have hB8:Below EM wq w8:=(aj HBy.out hLt.below (by omega)).grown hg8 (by omega) (fun k e=>by cases e;exact Nat.le_refl _);obtain⟨c0,c1',_,_,_⟩:=iH hrt;have HUp:=au hup;have HE8:=au Xm;have HB8:=au hB8;have HWt:=au hwt;have hl8:EM<w8.heap.size:=by omega
      clear hc hx hs1 hs2 hwt hLt hrt hup hE8 Xm hg8 hB8 HEy HBy Ep hb3;obtain⟨x1,x2⟩:=x;dsimp only at*
      go_wp2_with (first|(rw[←HWt.out])|(at_mapUpdate;refine aM _ rfl _ _ _ _ rfl _ _ _ _ rfl rfl rfl HUp.out ?_))
      go_roundg (l.length- (y+1))
      case measure=>omega
      case rel=>exact⟨y+1,by omega,by go_num,HE8,HB8,hl8⟩
     have hEf:=HEy.out;rw[List.take_of_length_le (by omega)] at hEf;have HEf:=au hEf;have HS8:=au (aB.aJ HS7.out Ep);have Xo:=au Ep;have hz8:w7.heap.size≤wr.heap.size:=Ep.size;clear hEf Ep HEy HBy HLv HEM hly hz7;generalize wr=w8 at*;go_wp2
     go_loopg [27,28,164] B'.length (fun q kv gv i wr=>∃(y:Nat) (ka:Option Addr) (kn kc:Nat),y+q=B'.length∧i=.int .i64 y∧kv=.slice ka kn kc∧gv=.bool ((cu (B'.take y) l).all (inB old))∧Hid (qC.own 27 w8.heap.size wr (.slice ka kn kc) (cu (B'.take y) l))∧Hid (Below w8.heap.size w8 wr))
     case atStart=>exact⟨0,none,0,0,by omega,rfl,rfl,rfl,aB.fD _ _ _ _,Below.refl _ _⟩
     obtain⟨y,ka,kn,kc,hy,rfl,rfl,rfl,M5,HBy⟩:=hrel;obtain⟨G,hGd⟩:∃G,G=(cu (B'.take y) l).all (inB old):=⟨_,rfl⟩;rw[←hGd];have Ep:Below w7.heap.size w7 wr:=aj Xo.out HBy.out hz8;have Kl:Below w4.heap.size w4 wr:=aj RA.out Ep hz4
     by_cases hlty:y<B'.length
     ·obtain⟨a,ha⟩:∃a,B'[y]?=some a:=⟨_,List.getElem?_eq_getElem hlty⟩;have hmem:=List.mem_of_getElem? ha;obtain⟨b2',o2',_,e2,hb2,⟨xv,hce,htv⟩,hc⟩:=aB.bO HS8.out ha;subst e2;subst hce;have d0:wr.cell? ⟨b2',o2'+y*3,none⟩=some (.bool a.no):=by rw[HBy.out.cell (p:=⟨b2',o2'+y*3,none⟩) hb2];simpa[bN] using hc 0 _ rfl
      have d1:wr.cell? ⟨b2',o2'+y*3+1,none⟩=some (.string (bs a.name)):=by rw[HBy.out.cell (p:=⟨b2',o2'+y*3+1,none⟩) hb2];simpa[bN] using hc 1 _ rfl
      have d2:wr.cell? ⟨b2',o2'+y*3+2,none⟩=some xv:=by rw[HBy.out.cell (p:=⟨b2',o2'+y*3+2,none⟩) hb2];simpa[bN] using hc 2 _ rfl
      obtain⟨xa',xc',rfl⟩:=aB.slice htv;have hfs:=rJ (l:=l) ha;obtain⟨f2,hf2,hin2⟩:=HOk.out.fill a hmem;rw[hf2] at hfs;obtain⟨wa,hwa⟩:∃wa,wa=wr.alloc (.cells #[.bool a.no,.string (bs a.name),.slice xa' a.terms.length xc'] 79):=⟨_,rfl⟩;have hLa:ak wr wa:=by rw[hwa];exact(ak.refl wr).alloc _
      have hra:wa.heap[wr.heap.size]?=some (.cells #[.bool a.no,.string (bs a.name),.slice xa' a.terms.length xc'] 79 (0,0)):=by rw[hwa];exact heap_alloc_new wr _
      obtain⟨⟨c0,_,_⟩,⟨c1',c2'⟩,_,_⟩:=vZ hra;have hBa:Below w8.heap.size w8 wa:=aj HBy.out hLa.below HBy.out.size;have HWa:=au hwa;have HBa:=au hBa;have hfl:(cu (B'.take y) l).length≤5:=Nat.le_trans (jP _ _) (by rw[List.length_take];omega);cases hno:a.no with
      |true=>
       rw[hno] at hfs d0 HWa c0;simp only[if_true,List.append_nil] at hfs;have HO3:Hid (qC.own 27 w8.heap.size wa (.slice ka kn kc) (cu (B'.take (y+1)) l)):=by show aB.own _ _ _ _ _ _;rw[hfs];exact aB.dS M5.out hLa.size fun k hk _=>hLa.block hk
       have HFs:=au hfs;clear hc ha htv hwa hLa hra hBa hfs hf2 hin2 hno hmem M5 HBy Ep Kl;have HGd:=au hGd;clear hGd;generalize bs a.name=nm2 at*
       go_wp2_with (rw[←HWa.out])
       go_roundg (B'.length- (y+1))
       case measure=>omega
       case rel=>exact⟨y+1,ka,kn,kc,by omega,by go_num,rfl,by rw[HFs.out,HGd.out],HO3,HBa⟩
      |false=>
       rw[hno] at hfs d0 HWa c0 hin2;simp only[Bool.false_eq_true,if_false,Option.toList_some,Bool.not_false] at hfs hin2;have hFi:=MO a (.slice xa' a.terms.length xc') l EM _ wa (aB.aJ htv hBa) (HEf.out.below hBa) (F8 HWb.out a hmem);rw[hno,hf2] at hFi;have HFi:=au hFi;have hGn:(cu (B'.take (y+1)) l).all (inB old)=(G&&inB old f2):=by rw[hfs,List.all_append,hGd];simp
       have Xp:=HG.out.good.right f2 (dn.1 hin2);have aaz:=Xp.2.1;have Zp:=hLa.size;have Zu:=HBy.out.size;have HFs:=au hfs;have HGn:=au hGn;have HLa:=au hLa;have Xq:=au Kl;clear hc ha htv hwa hra hBa hfs hf2 hin2 hno hmem hFi hGn hLa Xp HBa Ep hGd Kl hb2;generalize bs a.name=nm2 at*
       go_wp2_with (first|(rw[←HWa.out])|fail)
       refine HFi.out.mono ?_;rintro e w9 ⟨v9,rfl,_,hL9,RD⟩;obtain⟨s9,rfl,hO9⟩:=RD f2 rfl;obtain⟨s9a,s9c,rfl⟩:=aB.aY hO9;simp only[Option.isSome_some];obtain⟨wf,hwf⟩:∃wf,wf=w9.alloc (.cells #[.string f2.1,.slice s9a f2.2.length s9c] 27):=⟨_,rfl⟩;have hLf:ak w9 wf:=by rw[hwf];exact(ak.refl w9).alloc _
       have hrf:wf.heap[w9.heap.size]?=some (.cells #[.string f2.1,.slice s9a f2.2.length s9c] 27 (0,0)):=by rw[hwf];exact heap_alloc_new w9 _
       have U9:ak wr wf:=(HLa.out.trans hL9).trans hLf;have Va:Below w4.heap.size w4 wf:=aj Xq.out U9.below Xq.out.size;have Vb:=aj Gs.out Va Gs.out.size;have Vd:=WU PS f2 g cap P _ (.int .i64 (c1:Int)) (.agg #[.string f2.1,.slice s9a f2.2.length s9c]) wf (by rw[HG.out.len];exact(Va.block _ SI).trans CP.out) (HG.out.rnd.below HG.out.lt Vb) (Nat.lt_of_lt_of_le HG.out.lt Vb.size) HG.out.few ⟨_,rfl,(Dj hO9 (by omega)).later hLf⟩;obtain⟨OA,hOA⟩:∃OA,OA=dJ PS f2:=⟨_,rfl⟩;have JK:decide (OA<A)=inB old f2:=by rw[hOA];exact Xa.out f2
       have aaA:OA≤1000001:=by have h1:=HG.out.few;have h2:dJ PS f2≤PS.length:=List.findIdx_le_length;omega
       rw[←hOA] at Vd;have Ve:=au Vd;have Zv:w9.heap.size<wf.heap.size:=(Array.getElem?_eq_some_iff.1 hrf).1;obtain⟨p0,p1,_,_,_⟩:=iH hrf;have p1':wf.cell? ⟨w9.heap.size,0+1,none⟩=some (.slice s9a f2.2.length s9c):=p1;have hz9:=hL9.size;have HWf:=au hwf;have HRf:=au hrf;have Xt:=au U9;have HLf:=au hLf;have HO9:=au hO9;have hcase:(G=true∧OA<A)∨(G=true∧¬OA<A)∨G=false:=by
        cases G with
        |false=>exact Or.inr (Or.inr rfl)
        |true=>
         by_cases h:OA<A
         ·exact Or.inl ⟨rfl,h⟩
         exact Or.inr (Or.inl ⟨rfl,h⟩)
       clear RD hwf hLf hrf U9 Va Vb Vd hOA hO9 p1 HFi HWa d0 d1 d2 c0 c1' c2' hL9;obtain⟨gn,gargs⟩:=f2;dsimp only at*;rcases hcase with⟨rfl,hlt2⟩|⟨rfl,hlt2⟩|rfl
       case' inl=>
        have HG2:Hid ((cu (B'.take (y+1)) l).all (inB old)=true):=by show _=_;rw[HGn.out,←JK];simp[hlt2]
        have hli:(OA:Int)<(A:Int):=by omega
        clear JK HGn
        go_wp2_with (first|(rw[←HWf.out])|fail)
        refine Ve.out.mono ?_;rintro e w10 ⟨rfl,qj⟩
       case' inr.inl=>
        have HG2:Hid ((cu (B'.take (y+1)) l).all (inB old)=false):=by show _=_;rw[HGn.out,←JK];simp[hlt2]
        have hli:¬(OA:Int)<(A:Int):=by omega
        clear JK HGn
        go_wp2_with (first|(rw[←HWf.out])|fail)
        refine Ve.out.mono ?_;rintro e w10 ⟨rfl,qj⟩
       case' inr.inr=>
        have HG2:Hid ((cu (B'.take (y+1)) l).all (inB old)=false):=by show _=_;rw[HGn.out];rfl
        clear JK HGn Ve;obtain⟨w10,Ki⟩:∃w10,w10=wf:=⟨_,rfl⟩;subst Ki;have qj:ak w10 w10:=ak.refl _
       all_goals
        have JL:=Xt.out.trans qj;have OY:=HLf.out.trans qj;have RF:=(qj.block Zv).trans HRf.out;obtain⟨r0,r1,_,_,_⟩:=iH RF;have r1':w10.cell? ⟨w9.heap.size,0+1,none⟩=some (.slice s9a gargs.length s9c):=r1;have QM:qC.own 27 w8.heap.size w10 (.slice ka kn kc) (cu (B'.take y) l):=aB.dS M5.out JL.size fun k hk _=>JL.block hk;have OZ:∀k,(Value.slice ka kn kc).ownBlock=some k→w8.heap.size≤k∧k<wr.heap.size:=fun k e=>aB.dL M5.out e;have hel:qC.is (fun k=>w8.heap.size≤k∧(Value.slice ka kn kc).ownBlock≠some k) w10 [.string gn,.slice s9a gargs.length s9c] (gn,gargs):=⟨_,rfl,aB.bQ (aB.bL (aB.fq HO9.out (by show gargs.length≤_;omega)) OY.size fun k hk _=>OY.block hk) fun k _ (hk:wa.heap.size+3≤k)=>⟨by omega,fun e=>by have:=(OZ k e).2;omega⟩⟩;obtain⟨ti,i1,i2,i3,i4⟩:=JH;have Xu:=JL.size;obtain⟨v11,w11,hrun,Gr,uU,_,_⟩:=aB.jY (P:=Tryz.prog) (t:=24) QM Tryz.underlying24 i1 i2 i3 i4 rfl (by decide) hel (by omega) (by simp only[maxLen];omega) (by omega);have Zw:Hid (Below w8.heap.size w8 w11):=(aj HBy.out (JL.alloc _).below HBy.out.size).grown uU (by rw[World.size_alloc];omega) (fun k e=>(OZ k e).1);rw[←HFs.out] at Gr;obtain⟨a6,n6,c6,rfl⟩:∃a n c,v11=.slice a n c:=by obtain⟨a,c,e⟩:=aB.aY Gr;exact⟨a,_,c,e⟩
        have HRn:=au hrun;have Pw:=au Gr;clear qj JL OY RF QM OZ hel i1 i2 i3 i4 hrun Gr uU Xu M5 HBy Xt HLf HRf HO9 HFs r1
        go_wp2_with (first|(rw[←HWf.out])|(at_builtin;refine wpList_append_run rfl (.tmp 184) (.tmp 186) 24 rfl _ _ _ _ rfl rfl HRn.out ?_))
        go_roundg (B'.length- (y+1))
        case measure=>omega
        case rel=>exact⟨y+1,a6,n6,c6,by omega,by go_num,rfl,by rw[HG2.out],Pw,Zw⟩
     obtain⟨K,hKd⟩:∃K,K=cu B' l:=⟨_,rfl⟩;have hke:=M5.out;rw[List.take_of_length_le (by omega),←hKd] at hke;rw[List.take_of_length_le (by omega),←hKd] at hGd;have hfd:=HFd.out;rw[←hKd] at hfd
     try dsimp only at hfd
     rw[←hGd] at hfd;cases G with
     |false=>
      have Zx:Hid (BP=((LS.map (cu B')).drop (t+1)).find? fun of=>of.all (inB old)):=hfd;have Zy:=au Ep;clear hke hGd hfd hKd M5 HBy Ep Kl HFd;go_wp2
      go_roundg (LS.length- (t+1))
      case measure=>omega
      case rel=>exact⟨t+1,by omega,by go_num,Zx,Zy⟩
     |true=>
      have hbs:BP=some K:=hfd;have hhw:how (fn,aH)=((j:Int),K):=by have:=HFb.out;rw[hbs] at this;exact this
      have HKm:Hid (∀k∈K,k∈all):=fun k hk=>F9 HOk.out k (by rw[←hKd];exact hk);have hKl:K.length≤5:=by rw[hKd];exact Nat.le_trans (jP _ _) hBl
      have hkn:kn=K.length:=by
       obtain⟨a,c,e⟩:=aB.aY hke
       injection e
      obtain⟨M,rfl⟩:∃M,N=M+1:=⟨N-1,by have:=HN.out;omega⟩;have hpg:=xZ (N:=M+1) HC1.out HD1.out HMu.out hhw;obtain⟨PG,hPG⟩:∃PG,PG=lC (fun g s=>bI how (M+1) g (dep+1) s) K [] (c1,d1):=⟨_,rfl⟩;rw[←hPG] at hpg;have hrw:=(Kl.block _ UZ).trans HR4.out;have hrP:=(Kl.block _ SI).trans CP.out;have O0:=au (Xc.out.trans (Tn.LY Kl));have SL:=au (aj Gs.out Kl Gs.out.size);obtain⟨wO,hwO⟩:∃wO,wO=wr.alloc (.cells #[.string fn,.slice sa aH.length sc,.int .i64 (j:Int),.slice none 0 0] 30):=⟨_,rfl⟩;have hLO:ak wr wO:=by rw[hwO];exact(ak.refl wr).alloc _
      have hrO:wO.heap[wr.heap.size]?=some (.cells #[.string fn,.slice sa aH.length sc,.int .i64 (j:Int),.slice none 0 0] 30 (0,0)):=by rw[hwO];exact heap_alloc_new wr _
      have hPr:P<wr.heap.size:=Nat.lt_of_lt_of_le SI Kl.size;have HKf:Hid (qC.sl (fun k=>w8.heap.size≤k∧k<wr.heap.size) wr (.slice ka kn kc) K):=aB.bQ (aB.fq hke (by omega)) fun k hk (h:w8.heap.size≤k)=>⟨h,hk⟩;have Xv:=(hLO.block hPr).trans hrP;have hP8:P<w8.heap.size:=Nat.lt_of_lt_of_le SI (Nat.le_trans hz4 hz8);have hlO:wr.heap.size<wO.heap.size:=(Array.getElem?_eq_some_iff.1 hrO).1;have Zu:=HBy.out.size;obtain⟨q0,q1,_,_,hwl⟩:=iH hrw;have q1':wr.cell? ⟨w.heap.size,0+1,none⟩=some (.slice sa aH.length sc):=q1;have HPG:=au hpg;have zF:=au hPG;have HLO:=au hLO;have HRO:=au hrO;have Xw:=au Xv;have HWO:=au hwO;subst hkn;clear hke hGd hfd hKd hbs hhw hpg hPG hrw hrP hwO hLO hrO Xv M5 HBy Ep Kl HFd HFb HOk HLk HLs HS7 HS8 HEf Xo RA HBt HMu HA Xa Xb HR4 CP Xc Pp HWb q1
      go_wp2_with (rw[←HWO.out])
      clear q0 q1' HWO;generalize wr=wF at*;generalize hBX:wF.heap.size=bx at*;have HBX:=au hBX;clear hBX
      go_loopg [197] K.length (fun q i wr=>∃(y:Nat) (done:List bG) (cc dd:Nat) (ra:Option Addr) (rn rc:Nat),y+q=K.length∧i=.int .i64 y∧Hid (done.length=y)∧Hid (((kZ (M+1)).but bx).own 30 w8.heap.size wr (.slice ra rn rc) done)∧Hid (∀k,(Value.slice ra rn rc).ownBlock=some k→wO.heap.size≤k)∧Hid (wr.heap[bx]?=some (.cells #[.string fn,.slice sa aH.length sc,.int .i64 (j:Int),.slice ra rn rc] 30 (0,0)))∧Hid (wr.heap[P]?=some (.cells #[.slice (some ⟨b1,o1,none⟩) p.length pc,.slice (some ⟨g,0,none⟩) (m+1) cap,.int .i64 (cc:Int)] 62 (0,0)))∧Hid (PG=lC (fun g s=>bI how (M+1) g (dep+1) s) (K.drop y) done (cc,dd))∧cc≤400∧dd≤60∧Hid (Kq P bx wO wr))
      case atStart=>exact⟨0,[],c1,d1,none,0,0,by omega,rfl,(rfl:_=_),aB.fD _ _ _ _,(fun k e=>by cases e),HRO,Xw,(by rw[List.drop_zero];exact zF.out:_=_),Un,Uo,Kq.refl _ _ _⟩
      clear zF HRO Xw;obtain⟨y,done,cc,dd,ra,rn,rc,hy,rfl,HDn,HO,HOl,HRb,HRP,zF,hcc,hdd,HK⟩:=hrel;have TU:=HK.out.size;have OX:Below w0.heap.size w0 wr:=aj (aj SL.out HLO.out.below SL.out.size) (HK.out.below hP (by have:=SL.out.size;rw[HBX.out] at this;exact this) (Nat.le_trans SL.out.size HLO.out.size)) (Nat.le_refl _);have SN:Tn P w wr:=⟨HK.out.os.trans (HLO.out.below.os.trans O0.out.os),HK.out.tape.trans (HLO.out.below.tape.trans O0.out.tape),HK.out.output.trans (HLO.out.below.output.trans O0.out.output),by have h1:=O0.out.size;rw[HBX.out] at h1;omega,fun k hk h1=>(HK.out.block k (by have h1:=O0.out.size;rw[HBX.out] at h1;omega) h1 (by omega)).trans ((HLO.out.block (by have h1:=O0.out.size;omega)).trans (O0.out.block k hk h1))⟩
      by_cases hlty:y<K.length
      ·obtain⟨f2,hf2⟩:∃f2,K[y]?=some f2:=⟨_,List.getElem?_eq_getElem hlty⟩;have hKr:qC.sl (fun k=>w8.heap.size≤k∧k<bx) wr (.slice ka K.length kc) K:=aB.bL HKf.out (by rw[HBX.out];omega) fun k hk hb=>(HK.out.block k (by omega) (by omega) (by omega)).trans (HLO.out.block hk);obtain⟨b3,o3,_,e3,hb3,⟨s2,hce,hs2⟩,hc⟩:=aB.bO hKr hf2;subst e3;subst hce;have d0:wr.cell? ⟨b3,o3+y*2,none⟩=some (.string f2.1):=by simpa[qC] using hc 0 _ rfl
       have d1:wr.cell? ⟨b3,o3+y*2+1,none⟩=some s2:=by simpa[qC] using hc 1 _ rfl
       obtain⟨s2a,s2c,rfl⟩:=aB.slice hs2;have hdr:K.drop y=f2::K.drop (y+1):=by obtain⟨hi,e⟩:=List.getElem?_eq_some_iff.1 hf2;rw[List.drop_eq_getElem_cons hi,e]
       have hfm:=HKm.out f2 (List.mem_of_getElem? hf2);have hrn:y=rn:=by
        obtain⟨a,c,e⟩:=aB.aY HO.out
        injection e with _ e _
        rw[e,HDn.out]
       subst hrn;obtain⟨w9,hw9⟩:∃w9,w9=wr.alloc (.cells #[.string f2.1,.slice s2a f2.2.length s2c] 27):=⟨_,rfl⟩;have hL9:ak wr w9:=by rw[hw9];exact(ak.refl wr).alloc _
       have hr9:w9.heap[wr.heap.size]?=some (.cells #[.string f2.1,.slice s2a f2.2.length s2c] 27 (0,0)):=by rw[hw9];exact heap_alloc_new wr _
       have hPw:=(Array.getElem?_eq_some_iff.1 HRP.out).1;have Lj:=HIh.out (by omega) f2 (.slice s2a f2.2.length s2c) (dep+1) cc dd w9 (by have:=HN.out;omega) (aj OX hL9.below OX.size) ((hL9.block hPw).trans HRP.out) hcc hdd hfm ((iX hs2).later hL9);rw[show(((dep+1:Nat):Int))=(dep:Int)+1 from rfl] at Lj;obtain⟨PX,hPX⟩:∃PX,PX=bI how (M+1) f2 (dep+1) (cc,dd):=⟨_,rfl⟩;rw[←hPX] at Lj;obtain⟨x0,x1,_,_,hl9⟩:=iH hr9;have x1':w9.cell? ⟨wr.heap.size,0+1,none⟩=some (.slice s2a f2.2.length s2c):=x1;have QL:=au Lj;have HPX:=au hPX;have HW9:=au hw9;have HL9:=au hL9;have HDr:=au hdr;have HS2:=au hs2;have Zz:=au SN;clear hKr hc hf2 hs2 hdr hfm hw9 hL9 hr9 Lj hPX SN OX x1 hb3;obtain⟨gn,gargs⟩:=f2;dsimp only at*
       go_wp2_with (first|(rw[←HW9.out])|fail)
       refine QL.out.mono ?_;rintro e w10 ⟨hV,JM,M6⟩;obtain⟨PX1,c9,d9⟩:=PX;dsimp only at hV JM;have Gb:Kq P bx wr w10:=(Kq.of_below HL9.out.below).trans (Kq.Ot M6);have O1:Tn P w w10:=(Zz.out.trans (Tn.of_below HL9.out.below)).trans M6;have hz9:=HL9.out.size;have Xu:=M6.size;clear QL d0 d1 x0 x1' HW9;cases PX1 with
       |none=>
        have he:e=.returned (.pointer none):=hV;subst he;have HE:Hid (bI how (M+1+1) (fn,aH) dep (c,d)=(none,(c9,d9))):=by
         show _=_;rw[HPG.out,zF.out,HDr.out,xL HPX.out.symm]
         rfl
        have HRf:=au JM;have HTf:=au O1;clear hV JM O1 Gb M6 zF HPG HO HIh HPX;go_wp2;go_ret;exact⟨by rw[HE.out];exact rfl,by rw[HE.out];exact HRf.out,HTf.out⟩
       |some x=>
        obtain⟨b9,kv9,he,hb9,hxf,hrx,hk9⟩:=hV;subst he;have hk9:(kZ M).sl (From w9.heap.size) w10 kv9 x.kids:=hk9;obtain⟨ka9,kc9,rfl⟩:=aB.slice hk9;have hbd:=qU (M+1) (gn,gargs) (dep+1) (cc,dd) x (c9,d9) HPX.out.symm;dsimp only at hbd;have HE:Hid (PG=lC (fun g s=>bI how (M+1) g (dep+1) s) (K.drop (y+1)) (done++[x]) (c9,d9)):=by show _=_;rw[zF.out,HDr.out];exact xM HPX.out.symm
        have hlb:bx<wr.heap.size:=(Array.getElem?_eq_some_iff.1 HRb.out).1;have zk:w10.heap[bx]?=some (.cells #[.string fn,.slice sa aH.length sc,.int .i64 (j:Int),.slice ra y rc] 30 (0,0)):=(M6.block bx (by omega) (by omega)).trans ((HL9.out.block hlb).trans HRb.out);have ZA:b9<w10.heap.size:=(Array.getElem?_eq_some_iff.1 hrx).1;have Br:∀k,(Value.slice ra y rc).ownBlock=some k→k<wr.heap.size:=fun k e=>(aB.dL HO.out e).2;obtain⟨wD,hwD⟩:∃wD,wD=w10.drew:=⟨_,rfl⟩;have hbD:∀k:Nat,wD.heap[k]?=w10.heap[k]?:=fun k=>by rw[hwD];rfl
        have ZB:wD.heap.size≤w10.heap.size:=by rw[hwD];exact Nat.le_refl _
        have ZC:w10.heap.size≤wD.heap.size:=by rw[hwD];exact Nat.le_refl _
        have hOD:((kZ (M+1)).but bx).own 30 w8.heap.size wD (.slice ra y rc) done:=CV HO.out (by omega) (fun k hk hlo hne=>(hbD k).trans ((M6.block k (by omega) (by omega)).trans (HL9.out.block hk))) (fun e=>by have:=HOl.out bx e;omega);have hzr:((kZ (M+1)).but bx).is (fun k=>w8.heap.size≤k∧(Value.slice ra y rc).ownBlock≠some k) wD [.string ⟨#[]⟩,.slice none 0 0,.int .i64 0,.slice none 0 0] (bG.mk (⟨#[]⟩,[]) 0 []):=⟨_,_,rfl,aB.eH _ _ _ _ _,aB.eH _ _ _ _ _⟩;have hdl:=HDn.out;obtain⟨ti,i1,i2,i3,i4⟩:=xK;obtain⟨v11,w11,hrun,Gr,uU,_,MN⟩:=aB.jY (P:=Tryz.prog) (t:=28) hOD Tryz.underlying28 i1 i2 i3 i4 rfl (by show 0<4;decide) hzr (by omega) (by simp only[maxLen];omega) (by omega);have Xx:=uU.size;rw[World.size_alloc] at Xx;have O3:∀k,k<wD.heap.size→(Value.slice ra y rc).ownBlock≠some k→w11.heap[k]?=w10.heap[k]?:=fun k hk hne=>(uU.block k (by rw[World.size_alloc];omega) (fun e=>hne e.symm)).trans ((Below.heap_alloc wD _ k hk).trans (hbD k));have Xy:bsK.sl (fun k=>w8.heap.size≤k∧k<bx) w11 (.slice s2a gargs.length s2c) x.fact.2:=by rw[hxf];exact aB.bL HS2.out (by omega) fun k hk hb=>(O3 k (by omega) (fun e=>by have:=HOl.out k e;omega)).trans ((M6.block k (by omega) (by omega)).trans (HL9.out.block hk))
        have RG:(kZ M).sl (fun k=>w9.heap.size≤k∧k<w10.heap.size) w11 (.slice ka9 x.kids.length kc9) x.kids:=aB.bL (aB.bQ hk9 fun k hk (h:w9.heap.size≤k)=>⟨h,hk⟩) (by omega) fun k hk hb=>O3 k (by omega) (fun e=>by have:=Br k e;omega);have hcx:((kZ (M+1)).but bx).is (fun k=>w8.heap.size≤k∧v11.ownBlock≠some k) w11 [.string gn,.slice s2a gargs.length s2c,.int .i64 x.rule,.slice ka9 x.kids.length kc9] x:=⟨_,_,by rw[hxf],aB.bQ Xy fun k _ hb=>⟨⟨hb.1,fun e=>by
         rcases MN k e with h|h;·have:=HOl.out k h;omega
         ·omega⟩,by omega⟩,aB.bQ RG fun k _ hb=>⟨⟨by omega,fun e=>by
         rcases MN k e with h|h;·have:=Br k h;omega
         omega⟩,by omega⟩⟩
        obtain⟨g11,vH,Xz,hlg,hgl,hfz,⟨cur,hcur,L9⟩,_⟩:=Eo (K:=(kZ (M+1)).but bx) rfl Gr hcx;rw[hdl] at Xz L9;subst Xz;have hgO:wO.heap.size≤g11:=by
         rcases MN g11 rfl with h|h;·exact HOl.out g11 h
         omega
        have hg9:g11≠b9:=by
         rcases MN g11 rfl with h|h;·have:=Br g11 h;omega
         omega
        have Cw:=(O3 bx (by omega) (fun e=>by have:=HOl.out bx e;omega)).trans zk;have O4:=(O3 b9 (by omega) (fun e=>by have:=Br b9 e;omega)).trans hrx;have RH:=(O3 P (by omega) (fun e=>by have:=HOl.out P e;omega)).trans JM;obtain⟨⟨_,_,_,m3⟩,_,_,_⟩:=dG zk;obtain⟨wE,hwE⟩:∃wE,wE=(w10.alloc (.cells #[.string ⟨#[]⟩,.slice none 0 0,.int .i64 0,.slice none 0 0] 30)).drew:=⟨_,rfl⟩;have HRn:Hid ((Builtin.append_ #[28,28] 28 #[.slice ra y rc,.slice (some ⟨w10.heap.size,0,none⟩) 1 1]).run Tryz.prog wE=.ok (.slice (some ⟨g11,0,none⟩) (y+1) vH) w11):=by show _=_;rw[hwE];rw[hwD] at hrun;exact hrun
        have hSE:wE.heap[b9]?=some (.cells #[.string gn,.slice s2a gargs.length s2c,.int .i64 x.rule,.slice ka9 x.kids.length kc9] 30 (0,0)):=by rw[hwE];exact(Below.heap_alloc w10 _ b9 ZA).trans hrx
        have m3E:wE.cell? ⟨bx,3,none⟩=some (.slice ra y rc):=by
         have:wE.heap[bx]?=w10.heap[bx]?:=by rw[hwE];exact Below.heap_alloc w10 _ bx (by omega)
         exact(dG (this.trans zk)).1.2.2.2
        have HWE:=au hwE;have hyi:(y:Int)<(y:Int)+1:=by omega
        obtain⟨⟨_,_,_,o3⟩,_,⟨_,_,_,t3⟩,_⟩:=dG Cw;have hcell:∀o,o<cur.size→∃v,w11.cell? ⟨g11,o,none⟩=some v:=fun o ho=>⟨cur[o],by rw[cell_of_row _ _ _ _ _ _ hcur];exact Array.getElem?_eq_getElem ho⟩;obtain⟨zv0,ze0⟩:=hcell (y*4) (by omega);obtain⟨zv1,ze1⟩:=hcell (y*4+1) (by omega);obtain⟨zv2,ze2⟩:=hcell (y*4+2) (by omega);obtain⟨zv3,ze3⟩:=hcell (y*4+3) (by omega);have hgb:g11≠bx:=by omega
        have SQ:wD.os=w10.os∧wD.tape=w10.tape∧wD.output=w10.output:=by rw[hwD];exact⟨rfl,rfl,rfl⟩
        have HFin:Hid (∀wN:World,wN.os=w11.os→wN.tape=w11.tape→wN.output=w11.output→w11.heap.size≤wN.heap.size→(∀k,k<w11.heap.size→k≠bx→k≠g11→wN.heap[k]?=w11.heap[k]?)→wN.heap[P]?=some (.cells #[.slice (some ⟨b1,o1,none⟩) p.length pc,.slice (some ⟨g,0,none⟩) (m+1) cap,.int .i64 (c9:Int)] 62 (0,0))∧Kq P bx wO wN):=fun wN h1 h2 h3 h4 h5=>
         ⟨(h5 P (by omega) (by omega) (by omega)).trans RH,⟨h1.trans (uU.os.trans (SQ.1.trans (Gb.os.trans HK.out.os))),h2.trans (uU.tape.trans (SQ.2.1.trans (Gb.tape.trans HK.out.tape))),h3.trans (uU.output.trans (SQ.2.2.trans (Gb.output.trans HK.out.output))),by omega,fun k hk hn1 hn2=>(h5 k (by omega) hn2 (by omega)).trans ((O3 k (by omega) (fun e=>by have:=HOl.out k e;omega)).trans ((Gb.block k (by omega) hn1 hn2).trans (HK.out.block k hk hn1 hn2)))⟩⟩
        have Pw:=au Gr;have HCx:=au hcx;have HFz:=au hfz;have aaB:=hfz (y*4);have aaC:=hfz (y*4+1);have aaD:=hfz (y*4+2);have aaE:=hfz (y*4+3);have HDN:Hid ((done++[x]).length=y+1):=by show _=_;rw[List.length_append,hdl];rfl
        have HOL:Hid (∀k,(Value.slice (some ⟨g11,0,none⟩) (y+1) vH).ownBlock=some k→wO.heap.size≤k):=fun k e=>by simp only[Value.ownBlock,Option.some.injEq] at e;omega
        have aaF:w8.heap.size≤b9:=by omega
        have XA:b9≠bx:=by omega
        have HKz:=au (⟨hcur,L9⟩:_∧_);have aaG:b9<w11.heap.size:=by omega
        have aaH:bx<w11.heap.size:=by omega
        have HRx:=au hrx;have XB:=au Cw;have HDl:=au hdl;clear hwE hrun Gr hcx hfz hcell Xy RG O3 MN hOD hzr uU Xx hbD ZB ZC hwD JM RH zk hrx hk9 Br hdl SQ M6 O1 Gb hcur L9 i1 i2 i3 i4 Cw;go_wp2;refine wp_region_held_drew (S:=fun w'=>w'.heap[b9]?=some (.cells #[.string gn,.slice s2a gargs.length s2c,.int .i64 x.rule,.slice ka9 x.kids.length kc9] 30 (0,0))) (by kernel_rfl) HRx.out (fun hHeld=>?_);refine tkY 0 208 hHeld ?_;refine tkY 1 209 hHeld ?_;refine tkY 2 210 hHeld ?_;refine tkY 4 212 hHeld ?_;refine tkY 5 213 hHeld ?_;refine tkY 6 214 hHeld ?_ rfl fun w hSw=>by obtain⟨⟨p0,p1,p2,p3⟩,⟨p4,p5,p6⟩,_,_⟩:=dG hSw;go_simp;try with_reducible rfl
        refine wpAnyH_ready (rs:=[3,8]) (by kernel_rfl) (by simp) ?_;refine AllReadyH.cons rfl (fun K' hK=> ?ga) (AllReadyH.cons rfl (fun K' hK=> ?gb) AllReadyH.nil)
        case' ga=>
         go_simp;refine hK.out _ _ hHeld (fun hHeld=>?_);clear hK K';refine tkY 7 215 hHeld ?_;refine tkC 8 fun K' hK=>?_;go_simp;rw[←HWE.out];refine hK.out _ _ hSE (fun hHeld=>?_);clear hK K'
        case' gb=>
         go_simp;rw[←HWE.out];refine hK.out _ _ hSE (fun hHeld=>?_);clear hK K';refine tkC 3 fun K' hK=>?_;go_simp;refine hK.out _ _ hSE (fun hHeld=>?_);clear hK K';refine tkY 7 215 hHeld ?_
        all_goals
         refine wpAnyH_ready (rs:=[9]) (by kernel_rfl) (by simp) ?_;refine aO (i:=9) (d:=some 217) rfl rfl rfl (.tmp 211) (.tmp 216) 28 28 rfl rfl _ _ _ _ rfl rfl HRn.out O4 (fun hHeld=>?_) AllReadyH.nil;simp only[SY,PO,aze,asu];refine tkY 10 218 hHeld ?_;refine tkY 12 219 hHeld ?_;refine tkY 13 220 hHeld ?_;refine wpAnyH_ready (rs:=[11,14]) (by kernel_rfl) (by simp) ?_;refine AllReadyH.cons rfl (fun K' hK=>?_) (AllReadyH.cons rfl (fun K' hK=>?_) AllReadyH.nil)
         ·go_simp;have hOA:((kZ (M+1)).but bx).own 30 w8.heap.size (putAt w11 g11 (y*4) (.string gn) (.slice s2a gargs.length s2c) (.int .i64 x.rule) (.slice ka9 x.kids.length kc9)) (.slice (some ⟨g11,0,none⟩) (y+1) vH) (done++[x]):=JG rfl Pw.out HCx.out HDl.out;have hTA:=zB w11 g11 (y*4) (.string gn) (.slice s2a gargs.length s2c) (.int .i64 x.rule) (.slice ka9 x.kids.length kc9);obtain⟨wA,hwA⟩:∃wA,wA=putAt w11 g11 (y*4) (.string gn) (.slice s2a gargs.length s2c) (.int .i64 x.rule) (.slice ka9 x.kids.length kc9):=⟨_,rfl⟩;rw[←hwA] at hOA hTA;unfold putAt at hwA;rw[←hwA];have Vf:=(hTA.block b9 (by omega) (by omega)).trans O4;have Vg:=(hTA.block bx (by omega) (by omega)).trans XB.out;refine hK.out _ _ Vf (fun hHeld=>?_);clear hK K' hwA;refine tkC 14 fun K' hK=>?_;obtain⟨⟨_,_,_,o3'⟩,_,⟨_,_,_,t3'⟩,_⟩:=dG Vg;go_simp;obtain⟨wN,hwN⟩:∃wN,wN=wA.setCell ⟨bx,3,none⟩ (.slice (some ⟨g11,0,none⟩) (y+1) vH):=⟨_,rfl⟩;have hTN:Tn bx wA wN:=by rw[hwN];exact Tn.setCell (p:=bx) (Tn.refl _ _) (x:=⟨bx,3,none⟩) (Or.inl rfl) _
          have Jc:wN.heap[bx]?=some (.cells #[.string fn,.slice sa aH.length sc,.int .i64 (j:Int),(.slice (some ⟨g11,0,none⟩) (y+1) vH)] 30 (0,0)):=by rw[hwN,dz (j:=3) Vg];rfl
          have hzA:=hTA.size;have hzN:=hTN.size;have hON:=CV hOA hTN.size (fun k hk _ hne=>hTN.block k hk hne) (fun e=>by simp only[Value.ownBlock,Option.some.injEq] at e;omega);rw[←hwN];refine hK.out _ _ ((hTN.block b9 (by omega) XA).trans Vf) (fun hHeld=>?_);clear hK K' hwN;refine wpAnyH_done (by kernel_rfl) ?_ _;obtain⟨hPN,hKN⟩:=HFin.out wN (hTN.os.trans hTA.os) (hTN.tape.trans hTA.tape) (hTN.output.trans hTA.output) (by omega) fun k hk h1 h2=>(hTN.block k (by omega) h1).trans (hTA.block k hk h2);have HON:=au hON;have HRN:=au Jc;have HPN:=au hPN;have HKN:=au hKN;clear hON Jc hPN hKN hTN hTA hOA hHeld Vf Vg HFin Pw HCx;go_wp2
          go_roundg (K.length- (y+1))
          case measure=>omega
          case rel=>exact⟨y+1,done++[x],c9,d9,_,y+1,vH,by omega,by go_num,HDN,HON,HOL,HRN,HPN,HE,hbd.1,hbd.2,HKN⟩
         ·go_simp;obtain⟨wB,hwB⟩:∃wB,wB=w11.setCell ⟨bx,3,none⟩ (.slice (some ⟨g11,0,none⟩) (y+1) vH):=⟨_,rfl⟩;have hTB:Tn bx w11 wB:=by rw[hwB];exact Tn.setCell (p:=bx) (Tn.refl _ _) (x:=⟨bx,3,none⟩) (Or.inl rfl) _
          have XC:wB.heap[bx]?=some (.cells #[.string fn,.slice sa aH.length sc,.int .i64 (j:Int),(.slice (some ⟨g11,0,none⟩) (y+1) vH)] 30 (0,0)):=by rw[hwB,dz (j:=3) XB.out];rfl
          have hzB:=hTB.size;have Vh:=(hTB.block b9 (by omega) XA).trans O4;have hOB:=CV Pw.out hTB.size (fun k hk _ hne=>hTB.block k hk hne) (fun e=>by simp only[Value.ownBlock,Option.some.injEq] at e;omega);have hcB:((kZ (M+1)).but bx).is (fun k=>w8.heap.size≤k∧(Value.slice (some ⟨g11,0,none⟩) (y+1) vH).ownBlock≠some k) wB [.string gn,.slice s2a gargs.length s2c,.int .i64 x.rule,.slice ka9 x.kids.length kc9] x:=(kZ (M+1)).kept HCx.out hTB.size fun k hk hB=>hTB.block k hk hB.2;have Vi:=(hTB.block g11 (by omega) hgb).trans HKz.out.1;have Bt:∀o,o<cur.size→∃v,wB.cell? ⟨g11,o,none⟩=some v:=fun o ho=>⟨cur[o],by rw[cell_of_row _ _ _ _ _ _ Vi];exact Array.getElem?_eq_getElem ho⟩;have L9:=HKz.out.2;obtain⟨zw0,zf0⟩:=Bt (y*4) (by omega);obtain⟨zw1,zf1⟩:=Bt (y*4+1) (by omega);obtain⟨zw2,zf2⟩:=Bt (y*4+2) (by omega);obtain⟨zw3,zf3⟩:=Bt (y*4+3) (by omega);have hfB:∀o,wB.frozen? ⟨g11,o,none⟩=false:=fun o=>by simp[World.frozen?,Vi]
          have aaI:=hfB (y*4);have aaJ:=hfB (y*4+1);have aaK:=hfB (y*4+2);have aaL:=hfB (y*4+3);rw[←hwB];refine hK.out _ _ Vh (fun hHeld=>?_);clear hK K' hwB Bt hfB;refine tkC 11 fun K' hK=>?_;go_simp;have hON:((kZ (M+1)).but bx).own 30 w8.heap.size (putAt wB g11 (y*4) (.string gn) (.slice s2a gargs.length s2c) (.int .i64 x.rule) (.slice ka9 x.kids.length kc9)) (.slice (some ⟨g11,0,none⟩) (y+1) vH) (done++[x]):=JG rfl hOB hcB HDl.out;have hTN:=zB wB g11 (y*4) (.string gn) (.slice s2a gargs.length s2c) (.int .i64 x.rule) (.slice ka9 x.kids.length kc9);obtain⟨wN,hwN⟩:∃wN,wN=putAt wB g11 (y*4) (.string gn) (.slice s2a gargs.length s2c) (.int .i64 x.rule) (.slice ka9 x.kids.length kc9):=⟨_,rfl⟩;rw[←hwN] at hON hTN;unfold putAt at hwN;rw[←hwN];have hzN:=hTN.size;refine hK.out _ _ ((hTN.block b9 (by omega) (by omega)).trans Vh) (fun hHeld=>?_);clear hK K' hwN;refine wpAnyH_done (by kernel_rfl) ?_ _;have Jc:=(hTN.block bx (by omega) (by omega)).trans XC;obtain⟨hPN,hKN⟩:=HFin.out wN (hTN.os.trans hTB.os) (hTN.tape.trans hTB.tape) (hTN.output.trans hTB.output) (by omega) fun k hk h1 h2=>(hTN.block k (by omega) h2).trans (hTB.block k hk h1);have HON:=au hON;have HRN:=au Jc;have HPN:=au hPN;have HKN:=au hKN;clear hON Jc hPN hKN hTN hTB hOB hcB hHeld Vh XC Vi HFin Pw HCx;go_wp2
          go_roundg (K.length- (y+1))
          case measure=>omega
          case rel=>exact⟨y+1,done++[x],c9,d9,_,y+1,vH,by omega,by go_num,HDN,HON,HOL,HRN,HPN,HE,hbd.1,hbd.2,HKN⟩
      have HE:Hid (bI how (M+1+1) (fn,aH) dep (c,d)=(some (bG.mk (fn,aH) (j:Int) done),(cc,dd))):=by show _=_;rw[HPG.out,zF.out,List.drop_eq_nil_of_le (by omega)];unfold lC kL;simp
      have HTf:=au SN;have hown:=HO.out;have hsl:(kZ (M+1)).sl (From w.heap.size) wr (.slice ra rn rc) done:=aB.bQ (Rt (aB.fq hown (by have:=HDn.out;omega))) fun k _ (h:w8.heap.size≤k)=>(by show w.heap.size≤k;omega);have HSl:=au hsl;have ZE:w.heap.size≤bx:=by omega
      clear SN hown hsl OX HO zF HPG HIh;go_wp2;go_ret;refine⟨?_,?_,HTf.out⟩;·rw[HE.out];exact⟨_,_,rfl,ZE,rfl,HRb.out,HSl.out⟩
      rw[HE.out];exact HRP.out
    have JJ:Hid (how (fn,aH)=iw (fun r=>byP (jv all) all old r (fn,aH)) (j+1) (p.drop (j+1))):=by have hbn:=HBp.out;rw[List.drop_eq_nil_of_le (by rw[List.length_map];omega)] at hbn;have hbn:BP=none:=hbn;have:=HFb.out;rw[hbn] at this;exact this
    have ZF:=au (aj RA.out HBt.out hz4);clear HBp HBt HFb HLk HLs HS7;go_wp2
    go_roundg (p.length- (j+1))
    case measure=>omega
    case rel=>exact⟨j+1,by omega,by go_num,JJ,ZF⟩
   have JJ:Hid (how (fn,aH)=iw (fun r=>byP (jv all) all old r (fn,aH)) (j+1) (p.drop (j+1))):=by have hbn:=HBp.out;rw[(En hT7 her).1] at hbn;have hbn:BP=none:=hbn;have:=HFb.out;rw[hbn] at this;exact this
   obtain⟨_,a7,n7,c7,rfl⟩:=En hT7 her;have hne:(er != 0)=true:=by simpa using her
   clear hT7 hB7 HWi HBp HFb;go_wp2
   go_roundg (p.length- (j+1))
   case measure=>omega
   case rel=>exact⟨j+1,by omega,by go_num,JJ,RA⟩
 exfalso
 refine Xb.out ?_;rw[Pv.out,List.drop_eq_nil_of_le (by omega)]
 rfl
def jy (p:List aG) (told:List aA) (f:aA):Int×Option bG:=
 if iP p told≠0 then(iP p told,none) else if fG f≠0 then(fG f,none) else if inB (bR told (fQ p told)) f=false then(6,none)
 else match(bI (mQ (jv (bR told (fQ p told))) p told (bR told (fQ p told)) (told::fQ p told)) 61 f 1 (0,0)).1 with
  |none=>(4,none)
  |some x=>(0,some x)
def Vj (lo:Nat) (w:World) (v:Value):Option bG→Prop
 |none=>v=iQ
 |some x=>lV 60 (From lo) w v x
def Vk (lo:Nat) (w:World) (v:Value):Option bG→Prop
 |none=>v=iQ
 |some x=>Ou 60 (From lo) w v x
theorem Vk.opt {lo:Nat} {w:World} {v:Value}:∀{o:Option bG},Vk lo w v o→Vj lo w v o
 |none,h=>h
 |some _,h=>Ou.prf h
theorem RI (p:List aG) (told:List aA) (f:aA) (pv tv fv:Value) (w:World) (hpv:eP.sl bf w pv p) (ht:Facts w tv told) (hf:dD w fv f):
  Calls Tryz.prog 8 #[pv,tv,fv] w fun e w'=>∃v,e=.returned (.tuple #[v,.int .i64 (jy p told f).1])∧Vk w.heap.size w' v (jy p told f).2∧Below w.heap.size w w':=by
 obtain⟨s,rfl,hs⟩:=hf;obtain⟨sa,sc,rfl⟩:=bA hs;obtain⟨pa,pc,rfl⟩:=aB.slice hpv;obtain⟨ta,tc,rfl⟩:=aF ht;obtain⟨w1,hw1⟩:∃w1,w1=(((w.alloc (.cells #[.string f.1,.slice sa f.2.length sc] 27)).alloc (.cells #[.string ⟨#[]⟩,.slice none 0 0,.int .i64 0,.slice none 0 0] 30)).alloc (.map #[] 0)).alloc (.cells #[.slice pa p.length pc,.slice ta told.length tc,.slice none 0 0,.int .i64 0,.int .i64 0,.slice none 0 0,.map (some (w.heap.size+2))] 53):=⟨_,rfl⟩;have hL1:ak w w1:=by rw[hw1];exact((((ak.refl w).alloc _).alloc _).alloc _).alloc _
 have hs1:w1.heap.size=w.heap.size+4:=by rw[hw1];simp
 have hr0:w1.heap[w.heap.size]?=some (.cells #[.string f.1,.slice sa f.2.length sc] 27 (0,0)):=by
  rw[hw1];simp only[bV,World.size_alloc]
  repeat (first|rw[if_pos trivial]|rw[if_pos (by omega)]|rw[if_neg (by omega)])
 have hr1:w1.heap[w.heap.size+1]?=some (.cells #[.string ⟨#[]⟩,.slice none 0 0,.int .i64 0,.slice none 0 0] 30 (0,0)):=by
  rw[hw1];simp only[bV,World.size_alloc]
  repeat (first|rw[if_pos trivial]|rw[if_pos (by omega)]|rw[if_neg (by omega)])
 have hr2:w1.heap[w.heap.size+2]?=some (.map #[] 0):=by
  rw[hw1];simp only[bV,World.size_alloc]
  repeat (first|rw[if_pos trivial]|rw[if_pos (by omega)]|rw[if_neg (by omega)])
 have hr3:w1.heap[w.heap.size+3]?=some (.cells #[.slice pa p.length pc,.slice ta told.length tc,.slice none 0 0,.int .i64 0,.int .i64 0,.slice none 0 0,.map (some (w.heap.size+2))] 53 (0,0)):=by
  rw[hw1];simp only[bV,World.size_alloc]
  repeat (first|rw[if_pos trivial]|rw[if_pos (by omega)]|rw[if_neg (by omega)])
 have HFo:=au (Oh p told (w.heap.size+3) (w.heap.size+2) (.slice pa p.length pc) (.slice ta told.length tc) w w1 ⟨hr3⟩ hL1.below (by omega) hpv ht);obtain⟨PP,hPP⟩:∃PP,PP=jy p told f:=⟨_,rfl⟩;rw[←hPP];unfold jy at hPP;have HPP:=au hPP;have HW1:=au hw1;have HL1:=au hL1;have HR0:=au hr0;have HR1:=au hr1;have HR2:=au hr2;have HR3:=au hr3;have HPv:=au hpv;have HTv:=au ht;have HSt:=au hs;have hsz1:w.heap.size+4≤w1.heap.size:=by omega
 have HS1:=au hs1;have HBx:Hid (∀(x0 x1 x2 x3:Value) (wr:World),Below w.heap.size w wr→Below w.heap.size w (qR wr (w.heap.size+1) x0 x1 x2 x3)):=fun x0 x1 x2 x3 wr h=>
  aj h ((mK wr (w.heap.size+1) x0 x1 x2 x3).below (n:=w.heap.size) (by omega) h.size) (Nat.le_refl _)
 clear hw1 hPP hL1 hr0 hr1 hr2 hr3 hpv ht hs hs1;obtain⟨fn,aH⟩:=f;dsimp only at*;have hmm:= @run_makeMap Tryz.prog
 go_enter Tryz.func8,Tryz.ntmps8
 go_wp2_with (first|(rw[←HW1.out])|fail)
 clear hmm;refine HFo.out.mono ?_;rintro e w2 ⟨rfl,hS2,hK2⟩;have hsz2:=hK2.size;have hBw2:Below w.heap.size w w2:=aj HL1.out.below (hK2.below (n:=w1.heap.size-1) (by have:=HS1.out;omega) (by have:=HS1.out;omega)) (by omega);have Gc:=(hK2.block w.heap.size (by omega) (by omega)).trans HR0.out;have vI:=(hK2.block (w.heap.size+1) (by omega) (by omega)).trans HR1.out;have XD:=(hK2.block (w.heap.size+2) (by omega) (by omega)).trans HR2.out;have M7:=au Gc;have Px:=au vI;have ZG:=au XD;have HB2:=au hBw2;have HK2:=au hK2;have HS2:=au hS2;obtain⟨FE,hFE⟩:∃FE,FE=iP p told:=⟨_,rfl⟩;rw[←hFE];rw[←hFE] at HPP HS2;have HFE:=au hFE;clear hFE Gc XD hBw2 hK2 hS2 HFo
 by_cases h0:FE=0
 ·subst h0;obtain⟨g1,g2,g3,g4,g5,g6,g7,g8,g9,g10⟩:=A8 HFE.out.symm;obtain⟨av,sv,xs,k1,k2,k3,k4,k5⟩:=(HS2.out rfl).has;rw[show(bC p (aV p).1 (countP (aV p).1) 0 told).2=fQ p told from rfl] at k3 k4 k5;obtain⟨PS,hPS⟩:∃PS,PS=told::fQ p told:=⟨_,rfl⟩;obtain⟨all,hal⟩:∃all,all=bR told (fQ p told):=⟨_,rfl⟩;have Ma:=HPP.out;rw[if_neg (by simp)] at Ma;rw[←hPS,←hal] at g5 g8 g10 Ma;rw[←hal] at g3 k3;rw[←hPS] at g6 g7 k4 k5;have JN:=au Ma;have XE:dD w2 (.agg #[.string fn,.slice sa aH.length sc]) (fn,aH):=⟨_,rfl,HSt.out.below HB2.out⟩;have HWr:=au (wrong (.agg #[.string fn,.slice sa aH.length sc]) (fn,aH) w2 XE);obtain⟨q0,q1,_,_,_⟩:=iH M7.out;have q1':w2.cell? ⟨w.heap.size,0+1,none⟩=some (.slice sa aH.length sc):=q1;obtain⟨WF,hWF⟩:∃WF,WF=fG (fn,aH):=⟨_,rfl⟩;rw[←hWF] at HWr JN;have HK1:=au k1;have XF:=au k2;have HK3:=au k3;have HK4:=au k4;have HK5:=au k5;have hav:∃a n c,av=.slice a n c:=by obtain⟨a,c,e⟩:=aF k3;exact⟨a,_,c,e⟩
  obtain⟨aa,an,ac,rfl⟩:=hav;have HGr:Hid (Grd w (w.heap.size+3) p told all PS (.slice pa p.length pc) (.slice ta told.length tc)):=⟨by omega,HPv.out,HTv.out,g2.up,g3.up,g6,g7,g8,g9,g1.few,g3.few⟩;have HCl:Hid (∀f∈all,(∀g∈(mQ (jv all) p told all PS f).2,g∈all)∧(mQ (jv all) p told all PS f).2.length≤1000):=g10;have HAg:Hid (∀f∈all,f.2.length≤1000):=fun f hf=>by have:=(g3.right f hf).2.1;omega
  have hup:=g3.up;have HUp:=au hup;have p2:=k1.cells.2.2.1;clear g1 g2 g3 g4 g5 g6 g7 g8 g9 g10 k1 k2 k3 k4 k5 Ma HPP HS2 hWF hPS hal XE q1 hup HFE p2
  go_wp2_with fail
  refine HWr.out.mono ?_;rintro e w3 ⟨rfl,hL3⟩;have hB3:=aj HB2.out hL3.below HB2.out.size;have RV:=hL3.size;have sG:=(hL3.block (by omega:w.heap.size+1<w2.heap.size)).trans Px.out;have HL3:=au hL3;have HB3:=au hB3;have Lf:=au sG;clear HWr q0 q1' hL3 hB3 vI
  by_cases h1:WF=0
  ·subst h1;have O5:=JN.out;rw[if_neg (by simp)] at O5;have Km:=au O5;have Fz:=(HL3.out.block (by omega:w.heap.size<w2.heap.size)).trans M7.out;obtain⟨q0,q1,_,_,_⟩:=iH Fz;have q1':w3.cell? ⟨w.heap.size,0+1,none⟩=some (.slice sa aH.length sc):=q1;have XG:=HK1.out.below HL3.out.below;have p2:=XG.cells.2.2.1;have hin:=inC (.slice aa an ac) (.agg #[.string fn,.slice sa aH.length sc]) all (fn,aH) w3 (HK3.out.later HL3.out) ⟨_,rfl,HSt.out.below HB3.out⟩ HUp.out;rw[qL] at hin;have HIn:=au hin;clear O5 JN Fz q1 XG hin sG
   go_wp2_with fail
   refine HIn.out.mono ?_;rintro e w4 ⟨rfl,hL4⟩;have hB4:=aj HB3.out hL4.below HB3.out.size;have T9:=hL4.size;have vN:=(hL4.block (by omega:w.heap.size+1<w3.heap.size)).trans Lf.out;cases hib:inB all (fn,aH) with
   |false=>
    have HX:Hid (PP=(6,none)):=by show _=_;rw[Km.out,if_pos hib]
    have HZ:=au (dG (gG vN (.string ⟨#[]⟩) (.slice none 0 0) (.int .i64 0) (.slice none 0 0))).1;have HBf:=au (HBx.out (.string ⟨#[]⟩) (.slice none 0 0) (.int .i64 0) (.slice none 0 0) w4 hB4);obtain⟨_,_,⟨t0,t1,t2,t3⟩,_⟩:=dG vN;clear Km vN hib HIn q0 q1' p2 hL4 hB4;go_wp2;obtain⟨z0,z1,z2,z3⟩:=HZ.out;unfold qR at z0 z1 z2 z3;refine bodyPost_ret (v:=.tuple #[iQ,.int .i64 6]) (by simp[results,Tryz.results8,go_sem,z0,z1,z2,z3];rfl) rfl ⟨iQ,?_,?_,HBf.out⟩
    ·rw[HX.out]
    rw[HX.out];exact rfl
   |true=>
    have Mc:=Km.out;rw[if_neg (by rw[hib];simp)] at Mc;have O6:=HL3.out.trans hL4;have Vl:=HK1.out.below O6.below;have M8:w4.heap[w.heap.size+2]?=some (.map #[] 0):=(O6.block (by omega)).trans ZG.out;have hGp:Gp w4 (w.heap.size+3) w1.heap.size (w.heap.size+2) (.slice aa an ac) sv xs all PS:=by
     refine⟨?_,HK3.out.later O6,HK4.out,fun i u l hu hl=>(HK5.out i u l hu hl).later O6,Vl.xJ ⟨_,_,_,rfl⟩ ⟨_,_,_,rfl⟩ ⟨_,_,_,rfl⟩ XF.out.og,⟨_,_,M8⟩,by omega,by omega,by omega,by omega⟩;rcases XF.out with e|h
     ·exact Or.inl e
     exact Or.inr (h.block fun i hi _=>O6.block hi)
    have hGq:Gq w w4 (w.heap.size+3) w1.heap.size (w.heap.size+2) p told all PS (.slice pa p.length pc) (.slice ta told.length tc) (.slice aa an ac) sv xs:=⟨hGp,HGr.out,by omega,hB4,HCl.out,HAg.out,⟨_,_,_,rfl⟩,⟨_,_,_,rfl⟩⟩;have hPv:PvS (fun k=>k≠w.heap.size+2∧k≠w.heap.size+3) w4 w4 (w.heap.size+3) (w.heap.size+2) (.slice pa p.length pc) (.slice ta told.length tc) (.slice aa an ac) sv ((0:Nat):Int) ((0:Nat):Int) 0 all (mQ (jv all) p told all PS):=by
     refine⟨Vl,Kq.refl _ _ _,⟨.map [],?_,fun k h=>by simp[Maps.has] at h⟩⟩;have hw:((w.alloc (.cells #[] 0)).alloc (.cells #[] 0)).heap.size=w.heap.size+2:=by simp
     have hmd:=World.ownsMap_made (P:=Tryz.prog) ((w.alloc (.cells #[] 0)).alloc (.cells #[] 0)) 3 uS;rw[hw] at hmd;refine dN hmd ?_;rw[M8];have:=heap_alloc_new ((w.alloc (.cells #[] 0)).alloc (.cells #[] 0)) (.map #[] 0);rw[hw] at this;exact this.symm
    have hPr:=D6 w w4 (w.heap.size+3) w1.heap.size (w.heap.size+2) p told all PS _ _ _ sv xs hGq 60 (fun k=>k≠w.heap.size+2∧k≠w.heap.size+3) (fn,aH) (.agg #[.string fn,.slice sa aH.length sc]) 1 0 0 0 w4 rfl (fun k h=>h) (fun k hk=>⟨by omega,by omega⟩) hPv (Nat.le_refl _) (by omega) (by omega) (dn.1 hib) ⟨_,rfl,HSt.out.below hB4⟩;rw[show(((1:Nat):Int))=1 from rfl] at hPr;obtain⟨PX,hPX⟩:∃PX,PX=bI (mQ (jv all) p told all PS) (60+1) (fn,aH) 1 (0,0):=⟨_,rfl⟩;rw[←hPX] at hPr;rw[show(61:Nat)=60+1 from rfl,←hPX] at Mc;have HPr:=au hPr;have Md:=au Mc;have Kh:=(O6.block (by omega:w.heap.size<w2.heap.size)).trans M7.out;obtain⟨y0,y1,_,_,_⟩:=iH Kh;have y1':w4.cell? ⟨w.heap.size,0+1,none⟩=some (.slice sa aH.length sc):=y1;have HB4:=au hB4;have Lh:=au vN;clear Mc Km Vl M8 hGp hGq hPv hPr hPX hib HIn q0 q1' p2 hL4 hB4 O6 Kh y1 vN
    go_wp2_with fail
    refine HPr.out.mono ?_;rintro e w5 ⟨v5,er5,n5,rfl,hV5,_,_,hK5⟩;have hsz5:=hK5.size;have hB5:Below w.heap.size w w5:=aj HB4.out (hK5.below (n:=w.heap.size) (by omega) (by omega) (by omega)) (Nat.le_refl _);have Gn:=(hK5.block (w.heap.size+1) (by omega) (by omega) (by omega)).trans Lh.out;obtain⟨PX1,PX2⟩:=PX;dsimp only at hV5;obtain⟨_,_,⟨t0,t1,t2,t3⟩,_⟩:=dG Gn;cases PX1 with
    |none=>
     obtain⟨rfl,rfl⟩:=hV5;have HX:Hid (PP=(4,none)):=Md.out;have HZ:=au (dG (gG Gn (.string ⟨#[]⟩) (.slice none 0 0) (.int .i64 0) (.slice none 0 0))).1;have HBf:=au (HBx.out (.string ⟨#[]⟩) (.slice none 0 0) (.int .i64 0) (.slice none 0 0) w5 hB5);rw[show iQ=.agg #[.string ⟨#[]⟩,.slice none 0 0,.int .i64 0,.slice none 0 0] from rfl];clear Md Gn hB5 hK5 HPr y0 y1';go_wp2;obtain⟨z0,z1,z2,z3⟩:=HZ.out;unfold qR at z0 z1 z2 z3;refine bodyPost_ret (v:=.tuple #[iQ,.int .i64 4]) (by simp[results,Tryz.results8,go_sem,z0,z1,z2,z3];rfl) rfl ⟨iQ,?_,?_,HBf.out⟩
     ·rw[HX.out]
     rw[HX.out];exact rfl
    |some x=>
     obtain⟨rfl,s9,k9,rfl,hs9,hk9,hz9⟩:=hV5;have hk9:(I9 60).sl (From w4.heap.size) w5 k9 x.kids:=hk9;obtain⟨sa9,sc9,rfl⟩:=aB.slice hs9;obtain⟨ka9,kc9,rfl⟩:=aB.slice hk9;have HX:Hid (PP=(0,some x)):=Md.out;have hT:=mK w5 (w.heap.size+1) (.string x.fact.1) (.slice sa9 x.fact.2.length sc9) (.int .i64 x.rule) (.slice ka9 x.kids.length kc9);have HZ:=au (dG (gG Gn (.string x.fact.1) (.slice sa9 x.fact.2.length sc9) (.int .i64 x.rule) (.slice ka9 x.kids.length kc9))).1;have HBf:=au (HBx.out (.string x.fact.1) (.slice sa9 x.fact.2.length sc9) (.int .i64 x.rule) (.slice ka9 x.kids.length kc9) w5 hB5);have HVf:Hid (Ou 60 (From w.heap.size) (qR w5 (w.heap.size+1) (.string x.fact.1) (.slice sa9 x.fact.2.length sc9) (.int .i64 x.rule) (.slice ka9 x.kids.length kc9)) (.agg #[.string x.fact.1,.slice sa9 x.fact.2.length sc9,.int .i64 x.rule,.slice ka9 x.kids.length kc9]) x):=
      ⟨_,_,rfl,aB.bQ (aB.bL hs9 hT.size fun k hk (hb:w4.heap.size≤k)=>hT.block k hk (by omega)) fun k _ (hb:w4.heap.size≤k)=>(by show w.heap.size≤k;omega),aB.bQ (aB.bL hk9 hT.size fun k hk (hb:w4.heap.size≤k)=>hT.block k hk (by omega)) fun k _ (hb:w4.heap.size≤k)=>(by show w.heap.size≤k;omega),hz9.kept hk9 fun k hk (hb:w4.heap.size≤k)=>hT.block k hk (by omega)⟩
     clear Md Gn hB5 hK5 HPr y0 y1' hT hs9 hk9 hz9;go_wp2;obtain⟨z0,z1,z2,z3⟩:=HZ.out;unfold qR at z0 z1 z2 z3;refine bodyPost_ret (v:=.tuple #[.agg #[.string x.fact.1,.slice sa9 x.fact.2.length sc9,.int .i64 x.rule,.slice ka9 x.kids.length kc9],.int .i64 0]) (by simp[results,Tryz.results8,go_sem,z0,z1,z2,z3]) rfl ⟨.agg #[.string x.fact.1,.slice sa9 x.fact.2.length sc9,.int .i64 x.rule,.slice ka9 x.kids.length kc9],?_,?_,HBf.out⟩;·rw[HX.out]
     rw[HX.out];exact HVf.out
  have hne:(WF != 0)=true:=by simpa using h1
  have HX:Hid (PP=(WF,none)):=by show _=_;rw[JN.out,if_pos h1]
  have HZ:=au (dG (gG sG (.string ⟨#[]⟩) (.slice none 0 0) (.int .i64 0) (.slice none 0 0))).1;have HBf:=au (HBx.out (.string ⟨#[]⟩) (.slice none 0 0) (.int .i64 0) (.slice none 0 0) w3 HB3.out);obtain⟨_,_,⟨t0,t1,t2,t3⟩,_⟩:=dG sG;clear h1 JN sG;go_wp2;obtain⟨z0,z1,z2,z3⟩:=HZ.out;unfold qR at z0 z1 z2 z3;refine bodyPost_ret (v:=.tuple #[iQ,.int .i64 WF]) (by simp[results,Tryz.results8,go_sem,z0,z1,z2,z3];rfl) rfl ⟨iQ,?_,?_,HBf.out⟩
  ·rw[HX.out]
  rw[HX.out];exact rfl
 have hne:(FE != 0)=true:=by simpa using h0
 have HX:Hid (PP=(FE,none)):=by show _=_;rw[HPP.out,if_pos h0]
 have HZ:=au (dG (gG vI (.string ⟨#[]⟩) (.slice none 0 0) (.int .i64 0) (.slice none 0 0))).1;have HBf:=au (HBx.out (.string ⟨#[]⟩) (.slice none 0 0) (.int .i64 0) (.slice none 0 0) w2 HB2.out);obtain⟨_,_,⟨t0,t1,t2,t3⟩,_⟩:=dG vI;clear h0 HPP vI HS2;go_wp2;obtain⟨z0,z1,z2,z3⟩:=HZ.out;unfold qR at z0 z1 z2 z3;refine bodyPost_ret (v:=.tuple #[iQ,.int .i64 FE]) (by simp[results,Tryz.results8,go_sem,z0,z1,z2,z3];rfl) rfl ⟨iQ,?_,?_,HBf.out⟩
 ·rw[HX.out]
 rw[HX.out];exact rfl
theorem RJ (p:List aG) (told:List aA) (f:aA) (pv tv fv:Value) (w:World) (hpv:eP.sl bf w pv p) (ht:Facts w tv told) (hf:dD w fv f):
  Calls Tryz.prog 8 #[pv,tv,fv] w fun e w'=>∃v,e=.returned (.tuple #[v,.int .i64 (jy p told f).1])∧Vj w.heap.size w' v (jy p told f).2∧Below w.heap.size w w':=
 (RI p told f pv tv fv w hpv ht hf).mono fun _ _ ⟨v,he,hO,hB⟩=>⟨v,he,hO.opt,hB⟩
theorem RL (w0:World) (P m g cap:Nat) (p:List aG) (told all:List aA) (PS:List (List aA)) (pv:Value) (hG:Gof w0 p told all PS pv g m) (hP:w0.heap.size≤P):∀N,OfS w0 P m g cap pv all (mQ (jv all) p told all PS) (N+1)
 |0=>JI w0 P m g cap p told all PS pv hG hP 0 (fun h=>absurd h (by omega))
 |N+1=>JI w0 P m g cap p told all PS pv hG hP (N+1) fun _=>RL w0 P m g cap p told all PS pv hG hP N
def XH (w:World) (v:Value):Option bG→Prop
 |none=>v=iQ
 |some x=>lV 60 bf w v x
theorem Me {told:List aA}:∀{ps:List (List aA)} {m:Nat},(told::ps).length=m+1→(told::ps)[m]?=some (bR told ps):=fun {ps m} h=>by
 unfold bR;cases ps with
 |nil=>
  simp at h;subst h
  rfl
 |cons a l=>
  have:(told::a::l)[m]?=(told::a::l).getLast?:=by
   rw[List.getLast?_eq_getElem?,h]
   rfl
  rw[this,List.getLast?_cons_cons];rw[List.getLast?_cons]
  rfl
theorem RN (p:List aG) (told:List aA) (f:aA) (pv tv fs:Value) (w:World) (hpv:eP.sl bf w pv p) (ht:Facts w tv told) (hf:bsK.sl bf w fs f.2) (hlg:∀r∈p,Bg r) (hok:∀k,okF (told.getD k aC)) (hof:okF f):
  Calls Tryz.prog 9 #[pv,tv,.agg #[.string f.1,fs]] w fun e w'=>∃v,e=.returned (.tuple #[v,.int .i64 (jy p told f).1])∧XH w' v (jy p told f).2∧Below w.heap.size w w':=by
 have hs:=iX hf;obtain⟨sa,sc,rfl⟩:=bA hs;obtain⟨pa,pc,rfl⟩:=aB.slice hpv;obtain⟨ta,tc,rfl⟩:=aF ht;obtain⟨w1,hw1⟩:∃w1,w1=(w.alloc (.cells #[.string f.1,.slice sa f.2.length sc] 27)).alloc (.cells #[.string ⟨#[]⟩,.slice none 0 0,.int .i64 0,.slice none 0 0] 30):=⟨_,rfl⟩;have hL1:ak w w1:=by rw[hw1];exact((ak.refl w).alloc _).alloc _
 have hs1:w1.heap.size=w.heap.size+2:=by rw[hw1];simp
 have hr0:w1.heap[w.heap.size]?=some (.cells #[.string f.1,.slice sa f.2.length sc] 27 (0,0)):=by
  rw[hw1];simp only[bV,World.size_alloc]
  repeat (first|rw[if_pos trivial]|rw[if_pos (by omega)]|rw[if_neg (by omega)])
 have hr1:w1.heap[w.heap.size+1]?=some (.cells #[.string ⟨#[]⟩,.slice none 0 0,.int .i64 0,.slice none 0 0] 30 (0,0)):=by
  rw[hw1];simp only[bV,World.size_alloc]
  repeat (first|rw[if_pos trivial]|rw[if_pos (by omega)]|rw[if_neg (by omega)])
 have HRo:=au (JA p told (.slice pa p.length pc) (.slice ta told.length tc) w1 (aB.aK hpv hL1) (ht.later hL1) hlg hok);obtain⟨PP,hPP⟩:∃PP,PP=jy p told f:=⟨_,rfl⟩;rw[←hPP];unfold jy at hPP;have HPP:=au hPP;have HW1:=au hw1;have HL1:=au hL1;have HR0:=au hr0;have HR1:=au hr1;have HPv:=au hpv;have HSt:=au hs;have HSl:=au hf;have HOf:=au hof;have hlt1:w.heap.size+1<w1.heap.size:=by omega
 have HBx:Hid (∀(x0 x1 x2 x3:Value) (wr:World),Below w.heap.size w wr→Below w.heap.size w (qR wr (w.heap.size+1) x0 x1 x2 x3)):=fun x0 x1 x2 x3 wr h=>
  aj h ((mK wr (w.heap.size+1) x0 x1 x2 x3).below (n:=w.heap.size) (by omega) h.size) (Nat.le_refl _)
 clear hw1 hPP hL1 hr0 hr1 hpv ht hs hs1 hf hlg hok hof;obtain⟨fn,aH⟩:=f;dsimp only at*
 go_enter Tryz.func9,Tryz.ntmps9
 go_wp2_with (first|(rw[←HW1.out])|fail)
 refine HRo.out.mono ?_;rintro e w2 ⟨v2,er2,rfl,⟨her,hT0,hT1⟩,SS⟩;have hB2:Below w.heap.size w w2:=aj HL1.out.below SS HL1.out.size;have Gc:=(SS.block _ (by omega)).trans HR0.out;have vI:=(SS.block _ hlt1).trans HR1.out;have hfa:=qQ p told;obtain⟨FE,hFE⟩:∃FE,FE=iP p told:=⟨_,rfl⟩;rw[←hFE] at HPP;have HFE:=au hFE;rw[hfa.1,←hFE] at her hT0 hT1;subst her;have HB2:=au hB2;have M7:=au Gc;have Px:=au vI;clear hFE hfa SS HRo HW1
 by_cases h0:er2=0
 ·subst h0;obtain⟨g1,g2,g3,g4,g5,g6,g7,g8,g9,g10⟩:=A8 HFE.out.symm;obtain⟨g,m,cap,u,rfl,hm,hg,hcu,hFu,hlen,hRF⟩:=hT1 rfl;rw[show(bC p (aV p).1 (countP (aV p).1) 0 told).2=fQ p told from rfl] at hlen hRF;obtain⟨PS,hPS⟩:∃PS,PS=told::fQ p told:=⟨_,rfl⟩;obtain⟨all,hal⟩:∃all,all=bR told (fQ p told):=⟨_,rfl⟩;have hlast:PS[m]?=some all:=by rw[hPS,hal];exact Me hlen
  have hgr:=Cy HFE.out.symm;rw[g4] at hFu;have Ma:=HPP.out;rw[if_neg (by simp)] at Ma;rw[←hPS,←hal] at g5 g8 Ma;rw[←hal] at g3 hFu;rw[←hPS] at hgr hlen hRF;have JN:=au Ma;have XI:∃ps,PS=told::ps:=⟨_,hPS⟩;have HGo:Hid (∀w',Below w2.heap.size w2 w'→Gof w' p told all PS (.slice pa p.length pc) g m):=fun w' h=>
   ⟨aB.aJ HPv.out (aj HB2.out h HB2.out.size),hRF.below hg h,Nat.lt_of_lt_of_le hg h.size,hlen,by omega,hlast,XI,g5,g8,hgr,g1,g3⟩
  obtain⟨ua,uc,rfl⟩:=aF hFu;have HFu:=au hFu;have HCu:Hid (∀w',Below w2.heap.size w2 w'→w'.cell? ⟨g,m,none⟩=some (.slice ua all.length uc)):=fun w' h=>by rw[h.cell (p:=⟨g,m,none⟩) hg];exact hcu
  have HWr:=au (MR (.agg #[.string fn,.slice sa aH.length sc]) (fn,aH) w2 ⟨_,rfl,HSt.out.below HB2.out⟩ HOf.out);obtain⟨q0,q1,_,_,WE⟩:=iH Gc;have q1':w2.cell? ⟨w.heap.size,0+1,none⟩=some (.slice sa aH.length sc):=q1;obtain⟨WF,hWF⟩:∃WF,WF=fG (fn,aH):=⟨_,rfl⟩;rw[←hWF] at HWr JN;clear g1 g2 g3 g4 g5 g6 g7 g8 g9 g10 hFu hlen hRF hlast hgr Ma HPP hPS hal XI hcu hT0 hT1 hWF q1 HFE Gc hB2
  go_wp2_with fail
  refine HWr.out.mono ?_;rintro e w3 ⟨rfl,hL3⟩;have Lb:=au hL3.below;have hB3:=aj HB2.out hL3.below HB2.out.size;have RV:=hL3.size;have sG:=(hL3.block (Array.getElem?_eq_some_iff.1 vI).1).trans Px.out;have Fz:=(hL3.block WE).trans M7.out;have HB3:=au hB3;have Lf:=au sG;have O7:=au Fz;clear HWr q0 q1' hL3 hB3 vI
  by_cases h1:WF=0
  ·subst h1;have O5:=JN.out;rw[if_neg (by simp)] at O5;have Km:=au O5;have HIn:Hid (∀w',ak w3 w'→Calls Tryz.prog 24 #[.slice ua all.length uc,.agg #[.string fn,.slice sa aH.length sc]] w' fun e w''=>e=.returned (.bool (inB all (fn,aH)))∧ak w3 w''):=fun w' h=>by
    have:=rIn (.slice ua all.length uc) (.agg #[.string fn,.slice sa aH.length sc]) all (fn,aH) w' (HFu.out.below (aj Lb.out h.below Lb.out.size)) ⟨_,rfl,HSt.out.below (aj HB3.out h.below HB3.out.size)⟩;rw[qL] at this;exact this.mono fun e w'' ⟨he,hL⟩=>⟨he,h.trans hL⟩
   have HCe:Hid (∀w',ak w3 w'→w'.cell? ⟨g,m,none⟩=some (.slice ua all.length uc)∧w'.cell? ⟨w.heap.size,0,none⟩=some (.string fn)∧w'.cell? ⟨w.heap.size,0+1,none⟩=some (.slice sa aH.length sc)):=fun w' h=>by have h0:=(h.block (Array.getElem?_eq_some_iff.1 O7.out).1).trans O7.out;exact⟨HCu.out w' (aj Lb.out h.below Lb.out.size),(iH h0).1,(iH h0).2.1⟩
   have e0:IntKind.i64.wrap (m:Int)=(m:Int):=by simp[IntKind.wrap,IntKind.bits,IntKind.signed];omega
   have e1:IntKind.i64.wrap ((m:Int)+1-1)=(m:Int):=by rw[show(m:Int)+1-1=(m:Int) by omega];exact e0
   have e2:IntKind.i64.wrap (((m+1:Nat):Int)-1)=(m:Int):=by rw[show((m+1:Nat):Int)-1=(m:Int) by omega];exact e0
   have hmi:(m:Int)<(m:Int)+1:=by omega
   obtain⟨ib,hib⟩:∃ib,ib=inB all (fn,aH):=⟨_,rfl⟩;rw[←hib] at HIn Km;have HIb:=au hib;clear O5 JN sG Fz hib;go_wp2;refine wp_region_held_drew (S:=fun w'=>ak w3 w') (by kernel_rfl) (ak.refl w3).drew (fun hHeld=>?_);refine tkY 0 29 hHeld ?_;refine tkY 1 30 hHeld ?_;refine tkY 2 31 hHeld ?_;refine tkY 3 32 hHeld ?_;refine tkY 4 33 hHeld ?_;refine tkY 5 34 hHeld ?_ rfl fun w hSw=>by obtain⟨p0,p1,p2⟩:=HCe.out _ hSw;go_simp;try with_reducible rfl
   refine tkY 6 35 hHeld ?_ rfl fun w hSw=>by obtain⟨p0,p1,p2⟩:=HCe.out _ hSw;go_simp;try with_reducible rfl
   refine tkC 7 fun K hK=>?_;go_simp;refine(HIn.out _ hHeld).mono ?_;rintro e w4 ⟨rfl,hL4⟩;refine hK.out _ _ hL4 (fun hHeld=>?_);clear hK K;refine tkY 8 37 hHeld ?_;refine wpAnyH_done (by kernel_rfl) ?_ _;have Vm:=aj Lb.out hL4.below Lb.out.size;have hB4:=aj HB3.out hL4.below HB3.out.size;have vN:=(hL4.block (Array.getElem?_eq_some_iff.1 Lf.out).1).trans Lf.out;have Kh:=(hL4.block (Array.getElem?_eq_some_iff.1 O7.out).1).trans O7.out;clear hHeld HIn HCe e0 e1 e2 hmi;cases ib with
   |false=>
    have HX:Hid (PP=(6,none)):=by show _=_;rw[Km.out,if_pos rfl]
    have HZ:=au (dG (gG vN (.string ⟨#[]⟩) (.slice none 0 0) (.int .i64 0) (.slice none 0 0))).1;have HBf:=au (HBx.out (.string ⟨#[]⟩) (.slice none 0 0) (.int .i64 0) (.slice none 0 0) w4 hB4);obtain⟨_,_,⟨t0,t1,t2,t3⟩,_⟩:=dG vN;clear Km vN hL4 hB4 Vm Kh;go_wp2;obtain⟨z0,z1,z2,z3⟩:=HZ.out;unfold qR at z0 z1 z2 z3;refine bodyPost_ret (v:=.tuple #[iQ,.int .i64 6]) (by simp[results,Tryz.results9,go_sem,z0,z1,z2,z3];rfl) rfl ⟨iQ,?_,?_,HBf.out⟩
    ·rw[HX.out]
    rw[HX.out];exact rfl
   |true=>
    have Mc:=Km.out;rw[if_neg (by simp)] at Mc;obtain⟨w5,hw5⟩:∃w5,w5=w4.alloc (.cells #[.slice pa p.length pc,.slice (some ⟨g,0,none⟩) (m+1) cap,.int .i64 0] 62):=⟨_,rfl⟩;have hL5:ak w4 w5:=by rw[hw5];exact(ak.refl w4).alloc _
    have hr5:w5.heap[w4.heap.size]?=some (.cells #[.slice pa p.length pc,.slice (some ⟨g,0,none⟩) (m+1) cap,.int .i64 ((0:Nat):Int)] 62 (0,0)):=by rw[hw5];exact heap_alloc_new w4 _
    have hOf:=RL w4 w4.heap.size m g cap p told all PS (.slice pa p.length pc) (HGo.out w4 Vm) (Nat.le_refl _) 60 (fn,aH) (.slice sa aH.length sc) 1 0 0 w5 rfl hL5.below hr5 (by omega) (by omega) (dn.1 HIb.out.symm) (HSt.out.below (aj hB4 hL5.below hB4.size));rw[show(((1:Nat):Int))=1 from rfl] at hOf;obtain⟨PX,hPX⟩:∃PX,PX=bI (mQ (jv all) p told all PS) (60+1) (fn,aH) 1 (0,0):=⟨_,rfl⟩;rw[←hPX] at hOf;rw[show(61:Nat)=60+1 from rfl,←hPX] at Mc;have Vn:=au hOf;have Md:=au Mc;have Li:=(hL5.block (Array.getElem?_eq_some_iff.1 Kh).1).trans Kh;obtain⟨y0,y1,_,_,_⟩:=iH Li;have y1':w5.cell? ⟨w.heap.size,0+1,none⟩=some (.slice sa aH.length sc):=y1;have HB5:=au (aj hB4 hL5.below hB4.size);have Py:=au ((hL5.block (Array.getElem?_eq_some_iff.1 vN).1).trans vN);have hz4:w.heap.size+1<w4.heap.size:=(Array.getElem?_eq_some_iff.1 vN).1;have HW5:=au hw5;clear Mc Km hOf hPX hw5 hL5 hr5 Li y1 vN Kh hL4 hB4 Vm HGo HCu HFu HIb
    go_wp2_with (first|(rw[←HW5.out])|fail)
    refine Vn.out.mono ?_;rintro e w6 ⟨hV6,_,hT6⟩;have hB6:Below w.heap.size w w6:=aj HB5.out (hT6.below (by omega) HB5.out.size) (Nat.le_refl _);have Cv:=(hT6.block _ (Array.getElem?_eq_some_iff.1 Py.out).1 (by omega)).trans Py.out;obtain⟨PX1,PX2⟩:=PX;dsimp only at hV6;obtain⟨_,_,⟨t0,t1,t2,t3⟩,_⟩:=dG Cv;cases PX1 with
    |none=>
     have he:e=.returned (.pointer none):=hV6;subst he;have HX:Hid (PP=(4,none)):=Md.out;have HZ:=au (dG (gG Cv (.string ⟨#[]⟩) (.slice none 0 0) (.int .i64 0) (.slice none 0 0))).1;have HBf:=au (HBx.out (.string ⟨#[]⟩) (.slice none 0 0) (.int .i64 0) (.slice none 0 0) w6 hB6);clear Md Cv hB6 hT6 Vn y0 y1' hV6;go_wp2;obtain⟨z0,z1,z2,z3⟩:=HZ.out;unfold qR at z0 z1 z2 z3;refine bodyPost_ret (v:=.tuple #[iQ,.int .i64 4]) (by simp[results,Tryz.results9,go_sem,z0,z1,z2,z3];rfl) rfl ⟨iQ,?_,?_,HBf.out⟩
     ·rw[HX.out]
     rw[HX.out];exact rfl
    |some x=>
     obtain⟨b9,kv9,he,hb9,hxf,hr9,hk9⟩:=hV6;subst he;have hk9:(kZ 60).sl (From w5.heap.size) w6 kv9 x.kids:=hk9;obtain⟨ka9,kc9,rfl⟩:=aB.slice hk9;have HX:Hid (PP=(0,some x)):=Md.out;have hT:=mK w6 (w.heap.size+1) (.string fn) (.slice sa aH.length sc) (.int .i64 x.rule) (.slice ka9 x.kids.length kc9);have HZ:=au (dG (gG Cv (.string fn) (.slice sa aH.length sc) (.int .i64 x.rule) (.slice ka9 x.kids.length kc9))).1;have HBf:=au (HBx.out (.string fn) (.slice sa aH.length sc) (.int .i64 x.rule) (.slice ka9 x.kids.length kc9) w6 hB6);have hz5:=HB5.out.size;have HVf:Hid (lV 60 bf (qR w6 (w.heap.size+1) (.string fn) (.slice sa aH.length sc) (.int .i64 x.rule) (.slice ka9 x.kids.length kc9)) (.agg #[.string fn,.slice sa aH.length sc,.int .i64 x.rule,.slice ka9 x.kids.length kc9]) x):=by
      have hxa:bsK.sl bf w (.slice sa aH.length sc) x.fact.2:=by rw[hxf];exact HSl.out
      have h15:=(Array.getElem?_eq_some_iff.1 Py.out).1;exact⟨_,_,by rw[hxf],aB.aJ hxa HBf.out,aB.dO (aB.bL hk9 hT.size fun k hk (hb:w5.heap.size≤k)=>hT.block k hk (by omega))⟩
     obtain⟨⟨l0,l1,l2,l3⟩,⟨l4,l5,l6⟩,_,_⟩:=dG hr9;clear Md Cv hB6 hT6 Vn y0 y1' hT hk9 hr9;go_wp2;obtain⟨z0,z1,z2,z3⟩:=HZ.out;unfold qR at z0 z1 z2 z3;refine bodyPost_ret (v:=.tuple #[.agg #[.string fn,.slice sa aH.length sc,.int .i64 x.rule,.slice ka9 x.kids.length kc9],.int .i64 0]) (by simp[results,Tryz.results9,go_sem,z0,z1,z2,z3]) rfl ⟨.agg #[.string fn,.slice sa aH.length sc,.int .i64 x.rule,.slice ka9 x.kids.length kc9],?_,?_,HBf.out⟩;·rw[HX.out]
     rw[HX.out];exact HVf.out
  have hne:(WF != 0)=true:=by simpa using h1
  have HX:Hid (PP=(WF,none)):=by show _=_;rw[JN.out,if_pos h1]
  have HZ:=au (dG (gG sG (.string ⟨#[]⟩) (.slice none 0 0) (.int .i64 0) (.slice none 0 0))).1;have HBf:=au (HBx.out (.string ⟨#[]⟩) (.slice none 0 0) (.int .i64 0) (.slice none 0 0) w3 HB3.out);obtain⟨_,_,⟨t0,t1,t2,t3⟩,_⟩:=dG sG;clear h1 JN sG Fz HGo HCu HFu;go_wp2;obtain⟨z0,z1,z2,z3⟩:=HZ.out;unfold qR at z0 z1 z2 z3;refine bodyPost_ret (v:=.tuple #[iQ,.int .i64 WF]) (by simp[results,Tryz.results9,go_sem,z0,z1,z2,z3];rfl) rfl ⟨iQ,?_,?_,HBf.out⟩
  ·rw[HX.out]
  rw[HX.out];exact rfl
 have hne:(er2 != 0)=true:=by simpa using h0
 have e2:=hT0 h0;subst e2;have HX:Hid (PP=(er2,none)):=by show _=_;rw[HPP.out,if_pos h0]
 have HZ:=au (dG (gG vI (.string ⟨#[]⟩) (.slice none 0 0) (.int .i64 0) (.slice none 0 0))).1;have HBf:=au (HBx.out (.string ⟨#[]⟩) (.slice none 0 0) (.int .i64 0) (.slice none 0 0) w2 hB2);obtain⟨_,_,⟨t0,t1,t2,t3⟩,_⟩:=dG vI;clear h0 HPP vI Gc hT0 hT1 hB2;go_wp2;obtain⟨z0,z1,z2,z3⟩:=HZ.out;unfold qR at z0 z1 z2 z3;refine bodyPost_ret (v:=.tuple #[iQ,.int .i64 er2]) (by simp[results,Tryz.results9,go_sem,z0,z1,z2,z3];rfl) rfl ⟨iQ,?_,?_,HBf.out⟩
 ·rw[HX.out]
 rw[HX.out];exact rfl
end Go.Proofs.YtaallngooaaonaaGreatDoor
