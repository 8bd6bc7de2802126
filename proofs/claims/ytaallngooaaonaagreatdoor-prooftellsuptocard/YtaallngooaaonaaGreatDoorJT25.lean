import Derived.Test.YtaallngooaaonaaGreatDoorJT24
import Derived.Test.YtaallngooaaonaaGreatDoorJT6
import Derived.Test.YtaallngooaaonaaGreatDoorJT18
open Go.RowKit Go.Sort
set_option maxHeartbeats 8000000
set_option maxRecDepth 100000
namespace Go.Proofs.YtaallngooaaonaaGreatDoor
theorem uQ {α:Type} (K:aB α) (ty:TypeId) (w:World):K.own ty 0 (w.alloc (.cells #[] ty)) (.slice (some ⟨w.heap.size,0,none⟩) 0 0) []:=
 ⟨[],⟨by simp,Or.inr ⟨w.heap.size,0,#[],rfl,Nat.zero_le _,heap_alloc_new _ _,by simp,by simp[maxLen],by simp,by simp⟩⟩,fun i x hi=>by simp at hi⟩
theorem IY {α:Type} {K:aB α} {ty:TypeId} {lo g i q:Nat} {w:World} {v u:Value} {l:List α} {x x':α} (h:K.own ty lo w v l) (hv:v.ownBlock=some g) (hi:l[i]?=some x) (hq:q<K.size)
  (hset:∀c,K.is (fun k=>lo≤k∧v.ownBlock≠some k) w c x→K.is (fun k=>lo≤k∧v.ownBlock≠some k) w (c.set q u) x'):K.own ty lo (w.setCell ⟨g,i*K.size+q,none⟩ u) v (l.set i x'):=by
 obtain⟨xs,ho,hx⟩:=h;have hil:=(List.getElem?_eq_some_iff.1 hi).1;rcases ho.2 with⟨rfl,e⟩|⟨g',cap,cur,rfl,hbg,hg,hnc,hcm,hcs,htk⟩;·omega
 obtain rfl:g'=g:=by simpa[Value.ownBlock] using hv
 have hkept:∀{c:List Value} {y:α},K.is (fun k=>lo≤k∧(Value.slice (some ⟨g',0,none⟩) l.length cap).ownBlock≠some k) w c y→K.is (fun k=>lo≤k∧(Value.slice (some ⟨g',0,none⟩) l.length cap).ownBlock≠some k) (w.setCell ⟨g',i*K.size+q,none⟩ u) c y:=fun {c y} hc=>
  K.kept hc (by rw[size_setCell];exact Nat.le_refl _) fun k _ hB=>heap_setCell_other _ _ _ (by intro e;exact hB.2 (by simp[Value.ownBlock];exact e.symm))
 refine⟨xs.set (i*K.size+q) u,⟨by rw[List.length_set,List.length_set];exact ho.1,Or.inr ⟨g',cap,cur.setIfInBounds (i*K.size+q) u,by rw[List.length_set],hbg,dz hg u,by rw[List.length_set];exact hnc,hcm,by rw[Array.size_setIfInBounds];exact hcs,?_⟩⟩,fun t y ht=>?_⟩
 ·rw[List.length_set,Array.toList_setIfInBounds,List.take_set,htk]
 by_cases e:t=i
 ·subst e;rw[List.getElem?_set_self (by omega)] at ht;cases ht;obtain⟨c,c1,c2⟩:=hx t x hi;have hcl:=K.len c1;refine⟨c.set q u,hkept (hset c c1),fun j z hz=>?_⟩;have hxl:t*K.size+q<xs.length:=by
   have h1:=c2 q (c[q]'(by omega)) (List.getElem?_eq_getElem (by omega));exact(List.getElem?_eq_some_iff.1 h1).1
  by_cases ej:j=q
  ·subst ej;rw[List.getElem?_set_self (by omega)] at hz;rw[List.getElem?_set_self hxl];exact hz
  rw[List.getElem?_set_ne (by omega)] at hz;rw[List.getElem?_set_ne (by omega)];exact c2 j z hz
 rw[List.getElem?_set_ne (fun h=>e h.symm)] at ht;obtain⟨c,c1,c2⟩:=hx t y ht;have hcl:=K.len c1;refine⟨c,hkept c1,fun j z hz=>?_⟩;have hj:j<K.size:=by rw[←hcl];exact(List.getElem?_eq_some_iff.1 hz).1
 have hne:i*K.size+q≠t*K.size+j:=fun he=>by
  rcases Nat.lt_or_gt_of_ne e with h1|h1;·have:=Nat.mul_le_mul_right K.size (show t+1≤i from h1);rw[Nat.add_mul] at this;omega
  have:=Nat.mul_le_mul_right K.size (show i+1≤t from h1);rw[Nat.add_mul] at this;omega
 rw[List.getElem?_set_ne hne];exact c2 j z hz
theorem fU {w:World} {g j:Nat} {cs:Array Value} {t:TypeId} (h:w.heap[g]?=some (.cells cs t (0,0))):w.frozen? ⟨g,j,none⟩=false:=by simp[World.frozen?,h]
theorem IZ {α:Type} {K:aB α} {ty:TypeId} {lo:Nat} {w:World} {v:Value} {l:List α} {i:Nat} {x:α} (h:K.own ty lo w v l) (hi:l[i]?=some x):∃g cap cs,v=.slice (some ⟨g,0,none⟩) l.length cap∧g<w.heap.size∧l.length≤cap∧K.is (fun k=>lo≤k∧v.ownBlock≠some k) w cs x∧(∀j u,cs[j]?=some u→w.cell? ⟨g,i*K.size+j,none⟩=some u∧w.frozen? ⟨g,i*K.size+j,none⟩=false):=by
 obtain⟨xs,ho,hx⟩:=h;obtain⟨c,c1,c2⟩:=hx i x hi;have hil:=(List.getElem?_eq_some_iff.1 hi).1;rcases ho.2 with⟨rfl,e⟩|⟨g,cap,cur,rfl,hbg,hg,hnc,hcm,hcs,htk⟩;·omega
 refine⟨g,cap,c,rfl,(Array.getElem?_eq_some_iff.1 hg).1,hnc,c1,fun j u hu=>⟨?_,?_⟩⟩;·have:=ho.cells (g:=g) rfl _ u (c2 j u hu);rw[Addr.add_lit] at this;simpa using this
 exact fU hg
theorem AU:∃i z,Tryz.prog.info? 79=some i∧i.zero=some z∧i.size=bN.size∧i.bytes=48∧z.cells.size=bN.size:=⟨Tryz.t79,.agg #[.bool false,.string ByteArray.empty,.slice none 0 0],by kernel_rfl,by kernel_rfl,by kernel_rfl,by kernel_rfl,by kernel_rfl⟩
theorem Fp (l:List aI) (v:Value) (w:World) (h:bN.sl bf w v l) (hl:l.length≤1099511627776):
  Calls Tryz.prog 146 #[v] w fun e w'=>∃v',e=.returned v'∧bN.own 79 0 w' v' l∧(∀k,v'.ownBlock=some k→w.heap.size≤k)∧Below w.heap.size w w':=by
 obtain⟨a,cap,rfl⟩:=aB.slice h;obtain⟨i,z,i1,i2,i3,i4,i5⟩:=AU;cases a with
 |none=>
  have hl0:l=[]:=by refine Classical.byContradiction fun hne=>?_;obtain⟨_,a',cap',e,h1⟩:=h;simp only[Value.slice.injEq] at e;obtain⟨rfl,_,_⟩:=e;obtain⟨b,off,e,_⟩:=h1 hne;cases e
  subst hl0;have hnil:=fun w=>Lib.run_eql_slice_nil (P:=Tryz.prog) w 80 79 none 0 cap 0 0 Tryz.underlying80;clear h hl;simp only[List.length_nil]
  go_enter Tryz.func146,Tryz.ntmps146
  go_wp2;go_ret;exact⟨_,rfl,bN.fD _ _ _,fun k e=>(by cases e),Below.refl _ _⟩
 |some b=>
  have hnil:=fun w=>Lib.run_eql_slice_nil (P:=Tryz.prog) w 80 79 (some b) l.length cap 0 0 Tryz.underlying80;have h0:bN.own 79 0 (w.alloc (.cells #[] 79)) (.slice (some ⟨w.heap.size,0,none⟩) 0 0) []:=uQ bN 79 w;have hs:bN.sl (fun k=>0≤k∧(Value.slice (some ⟨w.heap.size,0,none⟩) 0 0).ownBlock≠some k) (w.alloc (.cells #[] 79)) (.slice (some b) l.length cap) l:=
   aB.bL (aB.bQ h fun k hk _=>⟨Nat.zero_le _,by simp[Value.ownBlock];omega⟩) (by simp) fun k hk _=>Below.heap_alloc w _ k hk
  obtain⟨v',w',hrun,hR,hg,hk⟩:=aB.uP (P:=Tryz.prog) (e':=80) h0 Tryz.underlying80 i1 i2 i3 i4 i5 (by decide) (by decide) hs (by simpa using hl) (Nat.zero_le _) rfl;have HB:Hid (Below w.heap.size w w'):=(((ak.refl w).alloc (.cells #[] 79)).below).grown hg (by simp) (fun k e=>by simp[Value.ownBlock] at e;omega);have HK:Hid (∀k,v'.ownBlock=some k→w.heap.size≤k):=fun k e=>by
   rcases hk k e with h1|h1;·simp[Value.ownBlock] at h1;omega
   simp at h1;omega
  have HR:=au hrun;have HF:=au hR;clear hrun hR hg hk h0 hs h
  go_enter Tryz.func146,Tryz.ntmps146
  go_wp2_with (at_builtin;refine wpList_append_run rfl (.tmp 5) (.tmp 6) 80 rfl _ _ _ _ rfl rfl HR.out ?_)
  go_ret;exact⟨v',rfl,by simpa using HF.out,HK.out,HB.out⟩
theorem AV:∃i z,Tryz.prog.info? 101=some i∧i.zero=some z∧i.size=eD.size∧i.bytes=24∧z.cells.size=eD.size:=⟨Tryz.t101,.agg #[.bool false,.string ByteArray.empty],by kernel_rfl,by kernel_rfl,by kernel_rfl,by kernel_rfl,by kernel_rfl⟩
theorem Fq (l:List dK) (v:Value) (w:World) (h:eD.sl bf w v l) (hl:l.length≤1099511627776):
  Calls Tryz.prog 147 #[v] w fun e w'=>∃v',e=.returned v'∧eD.own 101 0 w' v' l∧(∀k,v'.ownBlock=some k→w.heap.size≤k)∧Below w.heap.size w w':=by
 obtain⟨a,cap,rfl⟩:=aB.slice h;obtain⟨i,z,i1,i2,i3,i4,i5⟩:=AV;cases a with
 |none=>
  have hl0:l=[]:=by refine Classical.byContradiction fun hne=>?_;obtain⟨_,a',cap',e,h1⟩:=h;simp only[Value.slice.injEq] at e;obtain⟨rfl,_,_⟩:=e;obtain⟨b,off,e,_⟩:=h1 hne;cases e
  subst hl0;have hnil:=fun w=>Lib.run_eql_slice_nil (P:=Tryz.prog) w 77 101 none 0 cap 0 0 Tryz.underlying77;clear h hl;simp only[List.length_nil]
  go_enter Tryz.func147,Tryz.ntmps147
  go_wp2;go_ret;exact⟨_,rfl,eD.fD _ _ _,fun k e=>(by cases e),Below.refl _ _⟩
 |some b=>
  have hnil:=fun w=>Lib.run_eql_slice_nil (P:=Tryz.prog) w 77 101 (some b) l.length cap 0 0 Tryz.underlying77;have h0:eD.own 101 0 (w.alloc (.cells #[] 101)) (.slice (some ⟨w.heap.size,0,none⟩) 0 0) []:=uQ eD 101 w;have hs:eD.sl (fun k=>0≤k∧(Value.slice (some ⟨w.heap.size,0,none⟩) 0 0).ownBlock≠some k) (w.alloc (.cells #[] 101)) (.slice (some b) l.length cap) l:=
   aB.bL (aB.bQ h fun k hk _=>⟨Nat.zero_le _,by simp[Value.ownBlock];omega⟩) (by simp) fun k hk _=>Below.heap_alloc w _ k hk
  obtain⟨v',w',hrun,hR,hg,hk⟩:=aB.uP (P:=Tryz.prog) (e':=77) h0 Tryz.underlying77 i1 i2 i3 i4 i5 (by decide) (by decide) hs (by simpa using hl) (Nat.zero_le _) rfl;have HB:Hid (Below w.heap.size w w'):=(((ak.refl w).alloc (.cells #[] 101)).below).grown hg (by simp) (fun k e=>by simp[Value.ownBlock] at e;omega);have HK:Hid (∀k,v'.ownBlock=some k→w.heap.size≤k):=fun k e=>by
   rcases hk k e with h1|h1;·simp[Value.ownBlock] at h1;omega
   simp at h1;omega
  have HR:=au hrun;have HF:=au hR;clear hrun hR hg hk h0 hs h
  go_enter Tryz.func147,Tryz.ntmps147
  go_wp2_with (at_builtin;refine wpList_append_run rfl (.tmp 5) (.tmp 6) 77 rfl _ _ _ _ rfl rfl HR.out ?_)
  go_ret;exact⟨v',rfl,by simpa using HF.out,HK.out,HB.out⟩
theorem K9:∃i z,Tryz.prog.info? 9=some i∧i.zero=some z∧i.size=bsK.size∧i.bytes=16∧z.cells.size=bsK.size:=⟨Tryz.t9,.string ByteArray.empty,by kernel_rfl,by kernel_rfl,by kernel_rfl,by kernel_rfl,by kernel_rfl⟩
structure Hole (w:World) (v:Value) (n:Nat) (L:List aI) (j:Nat) (a:aI) (u:Value):Prop where
 row:∃xs,w.ownsRow 0 79 3 v n xs∧(∀t x,t≠j→L[t]?=some x→∃c,bN.is (fun k=>v.ownBlock≠some k∧u.ownBlock≠some k) w c x∧∀q z,c[q]?=some z→xs[t*3+q]?=some z)∧xs[j*3]?=some (.bool a.no)∧xs[j*3+1]?=some (.string (bs a.name))∧xs[j*3+2]?=some u
theorem rM {w w':World} {lo:Nat} {ty:TypeId} {sz n:Nat} {v:Value} {xs:List Value} (h:w.ownsRow lo ty sz v n xs) (hk:∀k,v.ownBlock=some k→w'.heap[k]?=w.heap[k]?):w'.ownsRow lo ty sz v n xs:=by
 refine⟨h.1,?_⟩;rcases h.2 with e|⟨g,cap,cur,rfl,hbg,hg,r⟩
 ·exact Or.inl e
 exact Or.inr ⟨g,cap,cur,rfl,hbg,by rw[hk g rfl];exact hg,r⟩
theorem Hole.kept {w w':World} {v u:Value} {n j:Nat} {L:List aI} {a:aI} (h:Hole w v n L j a u) (hs:w.heap.size≤w'.heap.size) (hk:∀k,k<w.heap.size→u.ownBlock≠some k→w'.heap[k]?=w.heap[k]?) (hv:∀k,v.ownBlock=some k→k<w.heap.size∧u.ownBlock≠some k):Hole w' v n L j a u:=by obtain⟨xs,h1,h2,h3,h4,h5⟩:=h.row;refine⟨xs,rM h1 (fun k e=>hk k (hv k e).1 (hv k e).2),fun t x ht hx=>?_,h3,h4,h5⟩;obtain⟨c,c1,c2⟩:=h2 t x ht hx;exact⟨c,bN.kept c1 hs fun k hk' hB=>hk k hk' hB.2,c2⟩
theorem Hole.fill {w:World} {v u:Value} {L:List aI} {j:Nat} {a:aI} {ts:List dK} (h:Hole w v L.length L j a u) (hj:j<L.length) (ht:eD.sl (fun k=>v.ownBlock≠some k) w u ts):bN.own 79 0 w v (L.set j ⟨a.no,a.name,ts⟩):=by
 obtain⟨xs,h1,h2,h3,h4,h5⟩:=h.row;refine⟨xs,by rw[List.length_set];exact h1,fun t x hx=>?_⟩
 by_cases e:t=j
 ·subst e;rw[List.getElem?_set_self hj] at hx;cases hx;refine⟨[.bool a.no,.string (bs a.name),u],⟨u,rfl,aB.bQ ht fun k _ hB=>⟨Nat.zero_le _,hB⟩⟩,fun q z hz=>?_⟩;rcases q with _|_|_|q
  ·simp at hz;subst hz;exact h3
  ·simp at hz;subst hz;exact h4
  ·simp at hz;subst hz;exact h5
  simp at hz
 rw[List.getElem?_set_ne (fun h=>e h.symm)] at hx;obtain⟨c,c1,c2⟩:=h2 t x e hx;exact⟨c,bN.mono c1 fun k _ hB=>⟨Nat.zero_le _,hB.1⟩,c2⟩
theorem I4 {w0 w:World} {v u:Value} {g j:Nat} {L:List aI} {a:aI} (h:bN.own 79 0 w0 v L) (hs0:w0.heap.size≤w.heap.size) (hk0:∀k,k<w0.heap.size→w.heap[k]?=w0.heap[k]?) (hv:v.ownBlock=some g) (ha:L[j]?=some a) (hu:∀k,u.ownBlock=some k→w0.heap.size≤k):Hole (w.setCell ⟨g,j*3+2,none⟩ u) v L.length L j a u:=by
 obtain⟨xs,ho,hx⟩:=h;have hjl:=(List.getElem?_eq_some_iff.1 ha).1;rcases ho.2 with⟨rfl,e⟩|⟨g',cap,cur,rfl,hbg,hg,hnc,hcm,hcs,htk⟩;·omega
 obtain rfl:g'=g:=by simpa[Value.ownBlock] using hv
 obtain⟨c,⟨tv,rfl,_⟩,c2⟩:=hx j a ha;have hs3:bN.size=3:=rfl;rw[hs3] at c2;have hxl:j*3+2<xs.length:=(List.getElem?_eq_some_iff.1 (c2 2 _ rfl)).1;refine⟨xs.set (j*3+2) u,⟨by rw[List.length_set];exact ho.1,Or.inr ⟨g',cap,cur.setIfInBounds (j*3+2) u,rfl,hbg,dz ((hk0 g' (Array.getElem?_eq_some_iff.1 hg).1).trans hg) u,hnc,hcm,by rw[Array.size_setIfInBounds];exact hcs,?_⟩⟩,fun t y ht hy=>?_,?_,?_,?_⟩
 ·rw[Array.toList_setIfInBounds,List.take_set];exact congrArg (fun z=>z.set (j*3+2) u) htk
 ·obtain⟨d,d1,d2⟩:=hx t y hy;have hdl:=bN.len d1;rw[hs3] at d2;refine⟨d,?_,fun q z hz=>?_⟩;·refine bN.kept (bN.mono d1 (B':=fun k=>(Value.slice (some ⟨g',0,none⟩) L.length cap).ownBlock≠some k∧u.ownBlock≠some k) fun k hk hB=>⟨hB.2,fun e=>by have:=hu k e;omega⟩) (by rw[size_setCell];exact hs0) fun k hk hB=>(heap_setCell_other _ _ _ (by intro e;exact hB.1 (by simp[Value.ownBlock];exact e.symm))).trans (hk0 k hk)
  have hq:q<3:=by have:=(List.getElem?_eq_some_iff.1 hz).1;rw[hdl] at this;exact this
  rw[List.getElem?_set_ne (by omega)];exact d2 q z hz
 ·rw[List.getElem?_set_ne (by omega)];exact c2 0 _ rfl
 ·rw[List.getElem?_set_ne (by omega)];exact c2 1 _ rfl
 rw[List.getElem?_set_self hxl]
theorem Hole.cell {w:World} {v u:Value} {n j:Nat} {L:List aI} {a:aI} (h:Hole w v n L j a u) {g cap:Nat} (hv:v=.slice (some ⟨g,0,none⟩) n cap):w.cell? ⟨g,j*3+2,none⟩=some u:=by obtain⟨xs,h1,_,_,_,h5⟩:=h.row;have:=h1.cells (g:=g) (by rw[hv];rfl) _ u h5;rw[Addr.add_lit] at this;simpa using this
theorem DT {α:Type} {g:α→α} {l:List α} {j:Nat} {a:α} (h:l[j]?=some a):((l.take j).map g++l.drop j).set j (g a)=(l.take (j+1)).map g++l.drop (j+1):=by
 obtain⟨hi,e⟩:=List.getElem?_eq_some_iff.1 h;have hl:((l.take j).map g).length=j:=by rw[List.length_map,List.length_take];omega
 rw[List.set_append_right _ _ (by omega),hl,Nat.sub_self,List.drop_eq_getElem_cons hi,List.set_cons_zero,List.take_add_one,h,List.map_append,List.append_assoc]
 rfl
theorem DU {α:Type} {g:α→α} {l:List α} {j:Nat} {a:α} (h:l[j]?=some a):((l.take j).map g++l.drop j)[j]?=some a:=by
 obtain⟨hi,e⟩:=List.getElem?_eq_some_iff.1 h;have hl:((l.take j).map g).length=j:=by rw[List.length_map,List.length_take];omega
 rw[List.getElem?_append_right (by omega),hl,Nat.sub_self,List.getElem?_drop,Nat.add_zero];exact h
theorem nZ {α:Type} {g:α→α} {l:List α} {j:Nat}:((l.take j).map g++l.drop j).length=l.length:=by rw[List.length_append,List.length_map,List.length_take,List.length_drop];omega
theorem Oe {ty:TypeId} {lo:Nat} {w:World} {v:Value} {l:List dK} (h:eD.own ty lo w v l) (hl:l.length≤8796093022208):eD.sl (ko v) w v l:=by
 obtain⟨xs,ho,hx⟩:=h;rcases ho.2 with⟨rfl,e⟩|⟨g,cap,cur,rfl,hbg,hg,hnc,_⟩;·have:l=[]:=List.eq_nil_of_length_eq_zero e;subst this;exact eD.eH _ _ _ _
 refine⟨⟨hl,hnc⟩,_,cap,rfl,fun _=>⟨g,0,rfl,rfl,(Array.getElem?_eq_some_iff.1 hg).1,fun i x hi=>?_⟩⟩;obtain⟨c,c1,c2⟩:=hx i x hi;refine⟨c,c1,fun j u hu=>?_⟩;have:=ho.cells (g:=g) rfl _ u (c2 j u hu);rw[Addr.add_lit] at this;rw[Nat.add_assoc];exact this
theorem I5 {α:Type} {l:List α} {i:Nat} {x:α} (h:l[i]?=some x):l.set i x=l:=by obtain⟨hi,e⟩:=List.getElem?_eq_some_iff.1 h;rw[←e];exact List.set_getElem_self hi
theorem QB (b:List aD) (body:List aI) (bv lv:Value) (w:World) (hb:bN.sl bf w bv body) (hl:bq.sl bf w lv b) (h5:body.length≤1000) (h4:∀a∈body,a.terms.length≤1000):
  Calls Tryz.prog 127 #[bv,lv] w fun e w'=>∃v',e=.returned v'∧bN.sl bf w' v' (dR b body)∧Below w.heap.size w w':=by
 have HCl:=au (Fp body bv w hb (by omega));obtain⟨ba,bc,rfl⟩:=aB.slice hb;obtain⟨la,lc,rfl⟩:=aB.slice hl;have HB:=au hb;have HL:=au hl;have H4:=au h4;clear hb hl h4
 go_enter Tryz.func127,Tryz.ntmps127
 go_wp2_with fail
 refine HCl.out.mono ?_;rintro e w1 ⟨v1,rfl,hO1,hk1,hB1⟩;have HK1:=au hk1;have HO1:=au hO1;have HB1:=au hB1;obtain⟨va,vn,vc,rfl⟩:∃a n c,v1=.slice a n c:=by obtain⟨a,c,e⟩:=aB.aY hO1;exact⟨a,_,c,e⟩
 clear hO1 hk1 hB1 HCl;go_wp2
 go_loopg [16] body.length (fun g i wr=>∃j:Nat,j+g=body.length∧i=.int .i64 j∧Hid (bN.own 79 0 wr (.slice va vn vc) ((body.take j).map (dV b)++body.drop j))∧Hid (Below w.heap.size w wr))
 case atStart=>exact⟨0,by omega,rfl,(by rw[List.take_zero,List.drop_zero];exact HO1.out:aB.own _ _ _ _ _ _),HB1⟩
 clear HO1 HB1;obtain⟨j,hj,rfl,HO,HW⟩:=hrel
 by_cases hlt:j<body.length
 ·obtain⟨a,ha⟩:∃a,body[j]?=some a:=⟨_,List.getElem?_eq_getElem hlt⟩;obtain⟨b1,o1,_,e1,hb1,⟨xv,hce,htv⟩,hc⟩:=aB.bO HB.out ha;subst e1;subst hce;have d0:wr.cell? ⟨b1,o1+j*3,none⟩=some (.bool a.no):=by rw[HW.out.cell (p:=⟨b1,o1+j*3,none⟩) hb1];simpa[bN] using hc 0 _ rfl
  have d1:wr.cell? ⟨b1,o1+j*3+1,none⟩=some (.string (bs a.name)):=by rw[HW.out.cell (p:=⟨b1,o1+j*3+1,none⟩) hb1];simpa[bN] using hc 1 _ rfl
  have d2:wr.cell? ⟨b1,o1+j*3+2,none⟩=some xv:=by rw[HW.out.cell (p:=⟨b1,o1+j*3+2,none⟩) hb1];simpa[bN] using hc 2 _ rfl
  obtain⟨xa,xc,rfl⟩:=aB.slice htv;have hat:=H4.out a (List.mem_of_getElem? ha);have VP:=DU (g:=dV b) ha;obtain⟨g,ZW,cs,hve,hgw,hgc,_,hrow⟩:=IZ HO.out VP;rw[nZ] at hve hgc;simp only[Value.slice.injEq] at hve;obtain⟨rfl,rfl,rfl⟩:=hve;obtain⟨wa,hwa⟩:∃wa,wa=wr.alloc (.cells #[.bool a.no,.string (bs a.name),.slice xa a.terms.length xc] 79):=⟨_,rfl⟩;have hLa:ak wr wa:=by rw[hwa];exact(ak.refl wr).alloc _
  have hRa:wa.heap[wr.heap.size]?=some (.cells #[.bool a.no,.string (bs a.name),.slice xa a.terms.length xc] 79 (0,0)):=by rw[hwa];exact heap_alloc_new wr _
  obtain⟨c0,c1,c2,hla⟩:=Cb hRa;have hBa:=aj HW.out hLa.below HW.out.size;have HCt:=au (Fq a.terms (.slice xa a.terms.length xc) wa (aB.aJ htv hBa) (by omega));have HTv:=au htv;have HBa:=au hBa;have HLa:=au hLa;have HWa:=au hwa;have HRa:=au hRa;have HA:=au ha;have VK:=HW.out.size;clear hc ha htv hwa hLa hRa hBa hrow VP
  go_wp2_with (first|(rw[←HWa.out])|fail)
  refine HCt.out.mono ?_;rintro e w2 ⟨v2,rfl,hO2,hk2,hB2⟩;have Pj:Below wr.heap.size wr w2:=aj HLa.out.below hB2 HLa.out.size;have VQ:=aB.dS HO.out Pj.size fun k hk _=>Pj.block k hk;obtain⟨g',YB,cs',hve,ZX,_,hcs',hrow'⟩:=IZ VQ (DU (g:=dV b) HA.out);simp only[Value.slice.injEq,Option.some.injEq,Addr.mk.injEq] at hve;obtain⟨⟨rfl,-,-⟩,-,-⟩:=hve;obtain⟨tv',rfl,_⟩:=hcs';obtain⟨k2,fz2⟩:=hrow' 2 _ rfl;have k2:w2.cell? ⟨g,j*3+2,none⟩=some tv':=k2;have fz2:w2.frozen? ⟨g,j*3+2,none⟩=false:=fz2;have hsa:=hB2.size;have hsr:=HLa.out.size;obtain⟨w3,hw3⟩:∃w3,w3=w2.setCell ⟨g,j*3+2,none⟩ v2:=⟨_,rfl⟩;have hH3:Hole w3 (.slice (some ⟨g,0,none⟩) body.length vc) body.length ((body.take j).map (dV b)++body.drop j) j a v2:=by
   have:=I4 (u:=v2) HO.out Pj.size (fun k hk=>Pj.block k hk) rfl (DU (g:=dV b) HA.out) fun k hk=>by have:=hk2 k hk;omega
   rw[nZ] at this;rw[hw3];exact this
  have hT3:Tn g w2 w3:=by rw[hw3];exact Tn.setCell (p:=g) (Tn.refl _ _) (x:=⟨g,j*3+2,none⟩) (Or.inl rfl) _
  have hO3:eD.own 101 0 w3 v2 ((a.terms.take 0).map (cO b)++a.terms.drop 0):=by rw[List.take_zero,List.map_nil,List.nil_append,List.drop_zero];obtain⟨xs,hown,hx⟩:=hO2;exact⟨xs,rM hown fun k hk=>hT3.block k (hown.lt k hk).2 (by have:=hk2 k hk;omega),hx⟩
  have hgl:w.heap.size≤g:=HK1.out g rfl;have hB3:Below w.heap.size w w3:=aj (aj HW.out Pj HW.out.size) (hT3.below hgl (by omega)) (Nat.le_refl _);have VR:=(hT3.block _ (by omega) (by omega)).trans ((hB2.block _ hla).trans HRa.out);have r2:w3.cell? ⟨wr.heap.size,2,none⟩=some (.slice xa a.terms.length xc):=by rw[cell_of_row _ _ _ _ _ _ VR];rfl
  obtain⟨ua,un,uc,rfl⟩:∃a n c,v2=.slice a n c:=by obtain⟨a,c,e⟩:=aB.aY hO2;exact⟨a,_,c,e⟩
  have HH3:=au hH3;have HO3:=au hO3;have HB3:=au hB3;have HW3:=au hw3;have HK2:Hid (∀k,(Value.slice ua un uc).ownBlock=some k→wa.heap.size≤k):=hk2;have hs3:=hT3.size;have hjb:(j:Int)<(body.length:Int):=by omega
  have hj0:(0:Int)≤(j:Int):=by omega
  clear hO2 hk2 hB2 Pj VQ hrow' hw3 hH3 hO3 hB3 hT3 VR HCt HO HW d0 d1 d2 c0 c1 HBa HRa
  go_wp2_with (rw[←HW3.out])
  clear r2 k2 fz2 c2 HW3
  go_loopg [31] a.terms.length (fun q i wr=>∃k:Nat,k+q=a.terms.length∧i=.int .i64 k∧Hid (eD.own 101 0 wr (.slice ua un uc) ((a.terms.take k).map (cO b)++a.terms.drop k))∧Hid (Hole wr (.slice (some ⟨g,0,none⟩) body.length vc) body.length ((body.take j).map (dV b)++body.drop j) j a (.slice ua un uc))∧Hid (Below w.heap.size w wr)∧wa.heap.size≤wr.heap.size)
  case atStart=>exact⟨0,by omega,rfl,HO3,HH3,HB3,by omega⟩
  clear HO3 HH3 HB3;obtain⟨k,hk,rfl,HO,HH,HW,hwz⟩:=hrel
  by_cases hltk:k<a.terms.length
  ·obtain⟨t,ht⟩:∃t,a.terms[k]?=some t:=⟨_,List.getElem?_eq_getElem hltk⟩;obtain⟨b2,o2,cs,e2,hb2,hte,hc2⟩:=aB.bO HTv.out ht;subst e2;have YC:cs=[.bool t.1,.string (bs t.2)]:=hte;subst YC;have d0:wr.cell? ⟨b2,o2+k*2,none⟩=some (.bool t.1):=by rw[HW.out.cell (p:=⟨b2,o2+k*2,none⟩) hb2];simpa[eD] using hc2 0 _ rfl
   have d1:wr.cell? ⟨b2,o2+k*2+1,none⟩=some (.string (bs t.2)):=by rw[HW.out.cell (p:=⟨b2,o2+k*2+1,none⟩) hb2];simpa[eD] using hc2 1 _ rfl
   have hmt:=DU (g:=cO b) ht;have htm:=DT (g:=cO b) ht;obtain⟨wt,hwt⟩:∃wt,wt=wr.alloc (.cells #[.bool t.1,.string (bs t.2)] 101):=⟨_,rfl⟩;have hLt:ak wr wt:=by rw[hwt];exact(ak.refl wr).alloc _
   have hRt:wt.heap[wr.heap.size]?=some (.cells #[.bool t.1,.string (bs t.2)] 101 (0,0)):=by rw[hwt];exact heap_alloc_new wr _
   obtain⟨c0,c1,_,_,hlt2⟩:=iH hRt;have hBt:=aj HW.out hLt.below HW.out.size;have HGe:=au (RU (.slice la b.length lc) b (bs t.2) wt (aB.aJ HL.out hBt));have HLt:=au hLt;have HRt:=au hRt;have HWt:=au hwt;have HMt:=au hmt;have HTm:=au htm;have hgg:g<wr.heap.size:=by omega
   obtain⟨gb,hgb⟩:∃gb,gb=dB b (bs t.2):=⟨_,rfl⟩;rw[←hgb] at HGe;have HGb:=au hgb;unfold kX at HGe;obtain⟨t1,t2⟩:=t;dsimp only at*;clear hc2 ht hmt htm hwt hLt hRt hBt hgb;generalize htn:bs t2=tn at*;have HTn:=au htn;clear htn
   go_wp2_with (first|(rw[←HWt.out])|fail)
   refine HGe.out.mono ?_;rintro e w4 ⟨rfl,hL4⟩;have Kg:=HLt.out.trans hL4;have hr4:=(hL4.block hlt2).trans HRt.out;have z0:w4.cell? ⟨wr.heap.size,0,none⟩=some (.bool t1):=by rw[cell_of_row _ _ _ _ _ _ hr4];rfl
   have hO4:eD.own 101 0 w4 (.slice ua un uc) ((a.terms.take k).map (cO b)++a.terms.drop k):=aB.dS HO.out Kg.size fun i hi _=>Kg.block hi;have hH4:=HH.out.kept (w':=w4) Kg.size (fun i hi _=>Kg.block hi) (fun i hi=>by
    have e:g=i:=by simpa[Value.ownBlock] using hi
    subst e;exact⟨hgg,fun hc=>by have:=HK2.out _ hc;omega⟩)
   have HB4:=au (aj HW.out Kg.below HW.out.size);have hz4:wa.heap.size≤w4.heap.size:=by have:=Kg.size;omega
   have same:(t1=false∨gb=none)→(a.terms.take k).map (cO b)++a.terms.drop k=(a.terms.take (k+1)).map (cO b)++a.terms.drop (k+1):=fun h=>by
    have hbt:cO b (t1,t2)=(t1,t2):=by
     unfold cO;rcases h with h|h
     ·rw[h];rfl
     dsimp only;rw[HTn.out,←HGb.out,h];cases t1 <;> rfl
    have h1:=HTm.out;rw[hbt] at h1;rw[←h1];exact(I5 HMt.out).symm
   clear d0 d1 c0 c1 HGe HRt HO HH HW;cases gb with
   |none=>
    have HO5:Hid (eD.own 101 0 w4 (.slice ua un uc) ((a.terms.take (k+1)).map (cO b)++a.terms.drop (k+1))):=by show aB.own _ _ _ _ _ _;rw[←same (Or.inr rfl)];exact hO4
    have HH4:=au hH4;simp only[Option.getD_none,Option.isSome_none];clear same hO4 hH4 hL4 Kg hr4 HGb HMt HTm;go_wp2
    go_roundg (a.terms.length- (k+1))
    case measure=>omega
    case rel=>exact⟨k+1,by omega,by go_num,HO5,HH4,HB4,hz4⟩
   |some s=>
    simp only[Option.getD_some,Option.isSome_some];cases t1 with
    |false=>
     have HO5:Hid (eD.own 101 0 w4 (.slice ua un uc) ((a.terms.take (k+1)).map (cO b)++a.terms.drop (k+1))):=by show aB.own _ _ _ _ _ _;rw[←same (Or.inl rfl)];exact hO4
     have HH4:=au hH4;clear same hO4 hH4 hL4 Kg hr4 HGb HMt HTm;go_wp2
     go_roundg (a.terms.length- (k+1))
     case measure=>omega
     case rel=>exact⟨k+1,by omega,by go_num,HO5,HH4,HB4,hz4⟩
    |true=>
     have hbt:cO b (true,t2)=(false,raw s):=by
      unfold cO;dsimp only;rw[HTn.out,←HGb.out]
      rfl
     have htm:=HTm.out;rw[hbt] at htm;obtain⟨h,hcap,cs,hve,hhw,hhc,hcs,hrow⟩:=IZ hO4 HMt.out;rw[nZ] at hve hhc;simp only[Value.slice.injEq] at hve;obtain⟨rfl,rfl,rfl⟩:=hve;have hcs':cs=[.bool true,.string (bs t2)]:=hcs;subst hcs';obtain⟨y0,y1⟩:=hrow 0 _ rfl;obtain⟨y2,y3⟩:=hrow 1 _ rfl;have y0:w4.cell? ⟨h,k*2,none⟩=some (.bool true):=y0;have y1:w4.frozen? ⟨h,k*2,none⟩=false:=y1;have y2:w4.cell? ⟨h,k*2+1,none⟩=some (.string (bs t2)):=y2;have y3:w4.frozen? ⟨h,k*2+1,none⟩=false:=y3;have hhb:wa.heap.size≤h:=HK2.out h rfl;have hcell:=hH4.cell rfl;have hp1:=IY (q:=0) (u:=.bool false) (x':=((false,t2):dK)) hO4 rfl HMt.out (by decide) (fun c hc=>by have hc':c=[.bool true,.string (bs t2)]:=hc;subst hc';rfl)
     have Fu:k<((a.terms.take k).map (cO b)++a.terms.drop k).length:=by rw[nZ];exact hltk
     have hp2:=IY (q:=1) (u:=.string s) (x':=((false,raw s):dK)) hp1 rfl (List.getElem?_set_self Fu) (by decide) (fun c hc=>by have hc':c=[.bool false,.string (bs t2)]:=hc;subst hc';show[Value.bool false,.string s]=[.bool false,.string (bs (raw s))];rw[iT])
     rw[List.set_set,htm] at hp2;obtain⟨w5,hw5⟩:∃w5,w5=(w4.setCell ⟨h,k*2,none⟩ (.bool false)).setCell ⟨h,k*2+1,none⟩ (.string s):=⟨_,rfl⟩;have hO5:eD.own 101 0 w5 (.slice (some ⟨h,0,none⟩) a.terms.length uc) ((a.terms.take (k+1)).map (cO b)++a.terms.drop (k+1)):=by rw[hw5];exact hp2
     have hT5:Tn h w4 w5:=by rw[hw5];exact Tn.setCell (p:=h) (Tn.setCell (p:=h) (Tn.refl _ _) (x:=⟨h,k*2,none⟩) (Or.inl rfl) _) (x:=⟨h,k*2+1,none⟩) (Or.inl rfl) _
     have HH5:=au (hH4.kept (w':=w5) hT5.size (fun i hi hne=>hT5.block i hi (fun e=>hne (by simp[Value.ownBlock];exact e.symm))) (fun i hi=>by
      have e:g=i:=by simpa[Value.ownBlock] using hi
      subst e;exact⟨by have:=Kg.size;omega,fun hc=>by have:=HK2.out _ hc;omega⟩))
     have HO5:=au hO5;have HB5:=au (aj HB4.out (hT5.below (n:=w.heap.size) (by omega) HB4.out.size) (Nat.le_refl _));have hz5:wa.heap.size≤w5.heap.size:=by have:=hT5.size;omega
     have HW5:=au hw5;have hkb:(k:Int)<(a.terms.length:Int):=by omega
     have hk0:(0:Int)≤(k:Int):=by omega
     clear same hO4 hH4 hL4 Kg hr4 HGb HMt HTm hbt htm hrow hcs hp1 hp2 Fu hw5 hO5 hT5
     go_wp2_with (rw[←HW5.out])
     go_roundg (a.terms.length- (k+1))
     case measure=>omega
     case rel=>exact⟨k+1,by omega,by go_num,HO5,HH5,HB5,hz5⟩
  have htk:(a.terms.take k).map (cO b)++a.terms.drop k=a.terms.map (cO b):=by rw[List.take_of_length_le (by omega),List.drop_eq_nil_of_le (by omega),List.append_nil]
  have hO:=HO.out;rw[htk] at hO;have hsl:=Oe hO (by rw[List.length_map];omega);have hf:=Hole.fill (L:=(body.take j).map (dV b)++body.drop j) (ts:=a.terms.map (cO b)) (by have:=HH.out;rw[←nZ (g:=dV b) (l:=body) (j:=j)] at this;rw[nZ] at this⊢;exact HH.out) (by rw[nZ];exact hlt) (aB.bQ hsl fun i hi hB=>fun e=>by
   have e':g=i:=by simpa[Value.ownBlock] using e
   subst e';have:=HK2.out _ hB;omega)
  have htm:=DT (g:=dV b) HA.out;have hba:dV b a=⟨a.no,a.name,a.terms.map (cO b)⟩:=rfl;rw[←hba,htm] at hf;have HF:=au hf;clear htk hO hsl hf htm hba HO HH;go_wp2
  go_roundg (body.length- (j+1))
  case measure=>omega
  case rel=>exact⟨j+1,by omega,by go_num,HF,HW⟩
 have hO:=HO.out;rw[List.take_of_length_le (by omega),List.drop_eq_nil_of_le (by omega),List.append_nil] at hO;have hb:(body.map (dV b)).length≤8796093022208:=by rw[List.length_map];omega
 have HS:=au (aB.dO (aB.fq hO hb));clear hO HO;go_wp2;go_ret;exact⟨_,rfl,HS.out,HW.out⟩
structure PrB (w:World) (P:Nat) (pv tv av:Value) (c d:Int) (sv:Value) (m:Nat):Prop where
 row:w.heap[P]?=some (.cells #[pv,tv,av,.int .i64 c,.int .i64 d,sv,.map (some m)] 53 (0,0))
theorem PrB.cells {w:World} {P:Nat} {pv tv av:Value} {c d:Int} {sv:Value} {m:Nat} (h:PrB w P pv tv av c d sv m):w.cell? ⟨P,0,none⟩=some pv∧w.cell? ⟨P,1,none⟩=some tv∧w.cell? ⟨P,2,none⟩=some av∧w.cell? ⟨P,3,none⟩=some (.int .i64 c)∧w.cell? ⟨P,4,none⟩=some (.int .i64 d)∧w.cell? ⟨P,5,none⟩=some sv∧w.cell? ⟨P,6,none⟩=some (.map (some m))∧P<w.heap.size:=by have h:=h.row;refine⟨?_,?_,?_,?_,?_,?_,?_,(Array.getElem?_eq_some_iff.1 h).1⟩ <;> (rw[cell_of_row _ _ _ _ _ _ h];rfl)
theorem PrB.block {w w':World} {P:Nat} {pv tv av:Value} {c d:Int} {sv:Value} {m:Nat} (h:PrB w P pv tv av c d sv m) (e:w'.heap[P]?=w.heap[P]?):PrB w' P pv tv av c d sv m:=⟨e.trans h.row⟩
theorem PrB.below {w w':World} {P:Nat} {pv tv av:Value} {c d:Int} {sv:Value} {m:Nat} (h:PrB w P pv tv av c d sv m) (k:Below w.heap.size w w'):PrB w' P pv tv av c d sv m:=h.block (k.block P h.cells.2.2.2.2.2.2.2)
def ByV (lo:Nat) (w:World) (v:Value):Option (List aA)→Prop
 |none=>v=.slice none 0 0
 |some of=>eX (From lo) w v of
abbrev jv (all:List aA):List aI→Int:=fun b=>pJ b all []
theorem rO {w:World} {v:Value} {er:Int} {body:List aI} {all:List aA} (h:nT w v er body all (-1) []):gZ.sl bf w v (jZ body all (jv all body)):=by
 unfold nT at h;unfold jZ jv;split at h;·rename_i h0;rw[if_pos h0,h.1];exact aB.eH _ _ _ _ _
 rename_i h0;rw[if_neg h0];rw[pQ] at h;cases e:lF (fun _=>all) body with
 |none=>
  rw[e] at h;rw[h.1];exact aB.eH _ _ _ _ _
 |some R=>
  rw[e] at h;exact h.2
theorem rP {body:List aI} {all:List aA} {er:Int}:(jZ body all er).length≤20000:=by
 unfold jZ;split;·simp
 cases e:lF (fun _=>all) body with
 |none=>simp
 |some R=>exact mV e
theorem DV {of old:List aA}:(of.filter fun f=> !dY old f 0)=[]↔of.all (inB old)=true:=by
 rw[List.filter_eq_nil_iff,List.all_eq_true]
 constructor
 ·intro h f hf;have:=h f hf;rw[qL] at this;simpa using this
 intro h f hf;rw[qL,h f hf];simp
theorem AX {α:Type} {P:α→Bool} {l:List α} {j:Nat} {x:α} (h:l[j]?=some x):(l.drop j).find? P=if P x then some x else(l.drop (j+1)).find? P:=by obtain⟨hi,e⟩:=List.getElem?_eq_some_iff.1 h;rw[List.drop_eq_getElem_cons hi,e,List.find?_cons];cases P x <;> rfl
theorem byC (all old:List aA) (r:aG) (f:aA) (P:Nat) (pv tv av hv bv fv ov sv:Value) (c d:Int) (m:Nat) (w:World) (hP:PrB w P pv tv av c d sv m) (hh:eD.sl bf w hv r.head.terms) (hb:bN.sl bf w bv r.body) (hf:dD w fv f) (ho:Facts w ov old) (ha:Facts w av all) (hro:fP old)
  (h4:r.head.terms.length≤4) (h5:r.body.length≤5) (hbt:∀a∈r.body,a.terms.length≤4):
  Calls Tryz.prog 98 #[.pointer (some ⟨P,0,none⟩),.agg #[.bool r.head.no,.string (bs r.head.name),hv,bv],fv,ov] w fun e w'=>∃v',e=.returned (.tuple #[v',.bool (byP (jv all) all old r f).isSome])∧ByV w.heap.size w' v' (byP (jv all) all old r f)∧Below w.heap.size w w':=by
 obtain⟨s,rfl,hs⟩:=hf;obtain⟨sa,sc,rfl⟩:=bA hs;obtain⟨ha',hc',rfl⟩:=aB.slice hh;obtain⟨ba,bc,rfl⟩:=aB.slice hb;obtain⟨aa,ac,rfl⟩:=aF ha;obtain⟨oa,oc,rfl⟩:=aF ho;have hPl:=hP.cells.2.2.2.2.2.2.2;obtain⟨w1,hw1⟩:∃w1,w1=(w.alloc (.cells #[.bool r.head.no,.string (bs r.head.name),.slice ha' r.head.terms.length hc',.slice ba r.body.length bc] 82)).alloc (.cells #[.string f.1,.slice sa f.2.length sc] 27):=⟨_,rfl⟩;have hL1:ak w w1:=by rw[hw1];exact((ak.refl w).alloc _).alloc _
 have hs1:w1.heap.size=w.heap.size+2:=by rw[hw1];simp
 have hr0:w1.heap[w.heap.size]?=some (.cells #[.bool r.head.no,.string (bs r.head.name),.slice ha' r.head.terms.length hc',.slice ba r.body.length bc] 82 (0,0)):=by
  rw[hw1];simp only[bV,World.size_alloc]
  repeat (first|rw[if_pos trivial]|rw[if_pos (by omega)]|rw[if_neg (by omega)])
 have hr1:w1.heap[w.heap.size+1]?=some (.cells #[.string f.1,.slice sa f.2.length sc] 27 (0,0)):=by
  rw[hw1];simp only[bV,World.size_alloc]
  repeat (first|rw[if_pos trivial]|rw[if_pos (by omega)]|rw[if_neg (by omega)])
 have HMe:=au (KJ r.head (.slice ha' r.head.terms.length hc') (.agg #[.string f.1,.slice sa f.2.length sc]) (.slice none 0 0) f [] w1 (aB.aK hh hL1) ⟨_,rfl,hs.later hL1⟩ (aB.eH _ _ _ _ _) (by simp;omega));have a0:w1.cell? ⟨w.heap.size,0,none⟩=some (.bool r.head.no):=by rw[cell_of_row _ _ _ _ _ _ hr0];rfl
 have a1:w1.cell? ⟨w.heap.size,0+1,none⟩=some (.string (bs r.head.name)):=by rw[cell_of_row _ _ _ _ _ _ hr0];rfl
 have a2:w1.cell? ⟨w.heap.size,0+2,none⟩=some (.slice ha' r.head.terms.length hc'):=by rw[cell_of_row _ _ _ _ _ _ hr0];rfl
 have f0:w1.cell? ⟨w.heap.size+1,0,none⟩=some (.string f.1):=by rw[cell_of_row _ _ _ _ _ _ hr1];rfl
 have f1:w1.cell? ⟨w.heap.size+1,0+1,none⟩=some (.slice sa f.2.length sc):=by rw[cell_of_row _ _ _ _ _ _ hr1];rfl
 obtain⟨BP,hBP⟩:∃BP,BP=byP (jv all) all old r f:=⟨_,rfl⟩;rw[←hBP];have HPr:=au hP;have HB:=au hb;have HO:=au ho;have HAl:=au ha;have HRo:=au hro;have HBT:=au hbt;have HL1:=au hL1;have HR0:=au hr0;have HW1:=au hw1;unfold byP at hBP;clear hP hh hb hs ho ha hro hbt hL1 hr0 hr1 hw1;cases hm:cZ r.head f [] with
 |none=>
  rw[hm] at HMe hBP;dsimp only at hBP;simp only[Option.isSome_none] at HMe;subst hBP;simp only[Option.isSome_none];clear hm;obtain⟨fn,aH⟩:=f;dsimp only at*;generalize bs r.head.name=nm at*;generalize r.head.no=no at*
  go_enter Tryz.func98,Tryz.ntmps98
  go_wp2_with (first|(rw[←HW1.out])|fail)
  refine HMe.out.mono ?_;rintro e w2 ⟨v2,rfl,hv2,hL2⟩;obtain rfl:v2=.slice none 0 0:=hv2;have HB2:=au ((HL1.out.trans hL2).below);clear hL2 HMe;go_wp2;exact bodyPost_ret (v:=.tuple #[.slice none 0 0,.bool false]) (by simp[results,Tryz.results98,go_sem]) rfl ⟨_,rfl,rfl,HB2.out⟩
 |some b0=>
  rw[hm] at HMe hBP;dsimp only at hBP;simp only[Option.isSome_some] at HMe;have hb0:=yS hm;simp only[List.length_nil] at hb0;have HBP:=au hBP;clear hm hBP;obtain⟨fn,aH⟩:=f;dsimp only at*;obtain⟨hd,body⟩:=r;dsimp only at*;generalize bs hd.name=nm at*;generalize hd.no=no at*
  go_enter Tryz.func98,Tryz.ntmps98
  go_wp2_with (first|(rw[←HW1.out])|fail)
  refine HMe.out.mono ?_;rintro e w2 ⟨v2,rfl,hv2,hL2⟩;have Ql:bq.own 108 w1.heap.size w2 v2 b0:=hv2;have hb2:bq.sl bf w2 v2 b0:=aB.dO (aB.fq Ql (by omega));have La:=HL1.out.trans hL2;have HBo:=au (QB b0 body (.slice ba body.length bc) v2 w2 (aB.aK HB.out La) hb2 (by omega) (fun a ha=>by have:=HBT.out a ha;omega));obtain⟨va,vn,vc,rfl⟩:∃a n c,v2=.slice a n c:=by obtain⟨a,c,e⟩:=aB.slice hb2;exact⟨a,_,c,e⟩
  have hr2:=(hL2.block (by omega)).trans HR0.out;have k3:w2.cell? ⟨w.heap.size,3,none⟩=some (.slice ba body.length bc):=by rw[cell_of_row _ _ _ _ _ _ hr2];rfl
  have HB2:=au La.below;clear hv2 Ql hb2 hL2 hr2 HMe a0 a1 a2 f0 f1 HW1 La
  go_wp2_with fail
  refine HBo.out.mono ?_;rintro e w3 ⟨v3,rfl,hv3,hB3⟩;have HB3:=au (aj HB2.out hB3 HB2.out.size);have HAc:=au (VD (dR b0 body) v3 (.slice aa all.length ac) all w3 hv3 (HAl.out.below HB3.out));have HV3:=au hv3;obtain⟨xa,xn,xc,rfl⟩:∃a n c,v3=.slice a n c:=by obtain⟨a,c,e⟩:=aB.slice hv3;exact⟨a,_,c,e⟩
  have p2:=(HPr.out.below HB3.out).cells.2.2.1;clear hv3 hB3 HBo k3
  go_wp2_with fail
  refine HAc.out.mono ?_;rintro e w4 ⟨v4,er4,rfl,hT4,hB4⟩;have HB4:=au (aj HB3.out hB4 HB3.out.size);have hS4:=rO hT4;have HS4:=au hS4;have hls:=rP (body:=dR b0 body) (all:=all) (er:=jv all (dR b0 body));have HV4:=au (aB.aJ HV3.out hB4);obtain⟨LS,hLS⟩:∃LS,LS=jZ (dR b0 body) all (jv all (dR b0 body)):=⟨_,rfl⟩;rw[←hLS] at HS4 HBP hls;obtain⟨la,lc,hlv⟩:=aB.slice HS4.out;subst hlv;have hbb:(dR b0 body).length≤1000:=by unfold dR;rw[List.length_map];omega
  have HFi:Hid (∀(l:List aD) (lv:Value) (w':World),Below w4.heap.size w4 w'→bq.sl bf w' lv l→Calls Tryz.prog 128 #[.slice xa xn xc,lv] w' fun e w''=>∃v',e=.returned v'∧kE w'' w'.heap.size v' (cu (dR b0 body) l)∧ak w' w''):=fun l lv w' h hl=>
   Ob (dR b0 body) l _ lv w' (aB.aJ HV4.out h) hl hbb
  have HFl:Hid (∀l,(cu (dR b0 body) l).length≤1000):=fun l=>Nat.le_trans (jP _ _) hbb;generalize cu (dR b0 body)=FL at*;clear hT4 hS4 hB4 HAc hLS p2 HV3 HV4 hbb;go_wp2
  go_loopg [43] LS.length (fun g i wr=>∃j:Nat,j+g=LS.length∧i=.int .i64 j∧Hid (BP=((LS.map FL).drop j).find? fun of=>of.all (inB old))∧Hid (Below w4.heap.size w4 wr))
  case atStart=>exact⟨0,by omega,rfl,(by rw[List.drop_zero];exact HBP.out:_=_),Below.refl _ _⟩
  obtain⟨j,hj,rfl,HF,HW⟩:=hrel
  by_cases hlt:j<LS.length
  ·obtain⟨l,hl⟩:∃l,LS[j]?=some l:=⟨_,List.getElem?_eq_getElem hlt⟩;obtain⟨b1,o1,_,e1,hb1,⟨lv,hce,hlv⟩,hc⟩:=aB.bO HS4.out hl;subst e1;subst hce;have d0:wr.cell? ⟨b1,o1+j,none⟩=some lv:=by rw[HW.out.cell (p:=⟨b1,o1+j,none⟩) hb1];simpa[slK] using hc 0 _ rfl
   have hfd:=AX (P:=fun of:List aA=>of.all (inB old)) (l:=LS.map FL) (j:=j) (x:=FL l) (by rw[List.getElem?_map,hl];rfl);have H5:=au (HFi.out l lv wr HW.out (aB.aJ hlv HW.out));have hfl:=HFl.out l;obtain⟨ya,yc,rfl⟩:=aB.slice hlv;have HFd:=au hfd;clear hc hl hlv hfd
   go_wp2_with fail
   refine H5.out.mono ?_;rintro e w5 ⟨v5,rfl,hO5,hL5⟩;have hF5:=hO5.facts (by omega);have hB5:=aj HW.out hL5.below HW.out.size;have HLs:=au (Ti v5 (.slice oa old.length oc) (FL l) old w5 hF5 (HO.out.below (aj HB4.out hB5 HB4.out.size)) HRo.out);obtain⟨za,zc,hzv⟩:=aF hF5;subst hzv;have hsW:=HW.out.size;have hsB:=HB4.out.size;have HF5:Hid (eX (From w.heap.size) w5 (.slice za (FL l).length zc) (FL l)):=(hO5.PW hfl).mono fun k _ (h:wr.heap.size≤k)=>(by show w.heap.size≤k;omega);have HB5:=au hB5;clear hO5 hL5 hF5 hB5 H5 d0
   go_wp2_with fail
   refine HLs.out.mono ?_;rintro e w6 ⟨v6,rfl,hO6,hL6⟩;have QC:((FL l).filter fun f=> !dY old f 0).length≤(FL l).length:=List.length_filter_le _ _;obtain⟨qa,qc,hqv⟩:=aF (hO6.facts (by omega));subst hqv;have HB6:=au (aj HB5.out hL6.below HB5.out.size);have HF6:=au (HF5.out.below hL6.below);cases hall:(FL l).all (inB old) with
   |true=>
    have he:((FL l).filter fun f=> !dY old f 0)=[]:=DV.2 hall;have HE:Hid (BP=some (FL l)):=by show _=_;rw[HF.out,HFd.out,hall];rfl
    rw[he];have hz:decide ((0:Nat)=0)=true:=rfl;clear hO6 hL6 HLs QC hall he HFd HF;simp only[List.length_nil];go_wp2;refine bodyPost_ret (v:=.tuple #[.slice za (FL l).length zc,.bool true]) (by simp[results,Tryz.results98,go_sem]) rfl ⟨.slice za (FL l).length zc,?_,?_,aj HB4.out HB6.out HB4.out.size⟩;·rw[HE.out];rfl
    rw[HE.out];exact HF6.out
   |false=>
    have hne:¬((FL l).filter fun f=> !dY old f 0)=[]:=fun e=>by rw[DV.1 e] at hall;cases hall
    have hpos:=List.length_pos_iff.2 hne;have HE:Hid (BP=((LS.map FL).drop (j+1)).find? fun of=>of.all (inB old)):=by show _=_;rw[HF.out,HFd.out,hall];rfl
    generalize((FL l).filter fun f=> !dY old f 0).length=nn at*;have hz:((nn:Int)==0)=false:=by simp;omega
    clear hO6 hL6 HLs QC hall hne HFd HF;go_wp2
    go_roundg (LS.length- (j+1))
    case measure=>omega
    case rel=>exact⟨j+1,by omega,by go_num,HE,HB6⟩
  have HE:Hid (BP=none):=by show _=_;rw[HF.out,List.drop_eq_nil_of_le (by rw[List.length_map];omega)];rfl
  clear HF;go_wp2;refine bodyPost_ret (v:=.tuple #[.slice none 0 0,.bool false]) (by simp[results,Tryz.results98,go_sem]) rfl ⟨.slice none 0 0,?_,?_,aj HB4.out HW.out HB4.out.size⟩;·rw[HE.out];rfl
  rw[HE.out];exact rfl
end Go.Proofs.YtaallngooaaonaaGreatDoor
