import Derived.Test.YthngiikhgplldaaGreatDoorJR3
import Derived.Test.YthngiikhgplldaaGreatDoorJR6
import Derived.Test.YthngiikhgplldaaGreatDoorJR4
import Derived.Shelf.SlSortCmp.QuietGrown
import Derived.Test.YthngiikhgplldaaGreatDoorJR7
import Derived.Deep.RegionWith
import Derived.Laws.EntriesVeiled
import Derived.Test.YthngiikhgplldaaGreatDoorJR12
open Go.RowKit Go.Sort Go.Maps
set_option maxHeartbeats 4000000
set_option maxRecDepth 100000
namespace Go.Proofs.YthngiikhgplldaaGreatDoor
theorem Bz {r:aD} {fs x:List aF} (hc:Covers r.body) (h:gY r fs=some x) (f:aF):f∈x↔∃env,og (fun _=>fs) r.body env∧bf r.head env=some f:=by
 unfold gY at h;cases e:mK (fun _=>fs) r.body with
 |none=>rw[e] at h;cases h
 |some R=>
  rw[e] at h;cases h;rw[dA,List.mem_filterMap];exact⟨fun⟨l,hl,hf⟩=>⟨l,(oJ hc e l).1 hl,hf⟩,fun⟨l,hl,hf⟩=>⟨l,(oJ hc e l).2 hl,hf⟩⟩
theorem vP {a:aJ} {l:List aI} {f:aF} (h:bf a l=some f):f.1=bs a.name∧aT l a.terms=some f.2:=by
 unfold bf at h;cases e:aT l a.terms with
 |none=>rw[e] at h;cases h
 |some r=>rw[e] at h;cases h;exact⟨rfl,rfl⟩
def jF (f:aF):Prop:=isNamed (raw f.1)=true∧f.2.length≤4∧∀s∈f.2,isNamed (raw s)=true
theorem pG {l:List aI}:∀{ts:List dM} {r:List ByteArray},aT l ts=some r→∀t∈ts,∃u∈r,bH l t=some u
 |[],_,_=>fun _ h=>by cases h
 |t::ts,r,h=>fun u hu=>by
  simp only[aT] at h;cases e:bH l t with
  |none=>rw[e] at h;cases h
  |some s=>
   rw[e] at h;dsimp only at h;cases e2:aT l ts with
   |none=>rw[e2] at h;cases h
   |some q=>
    rw[e2] at h;cases h;rcases List.mem_cons.1 hu with rfl|hu
    ·exact⟨s,by simp,e⟩
    obtain⟨v,hv,hw⟩:=pG e2 u hu;exact⟨v,by simp[hv],hw⟩
theorem mo {l:List aI}:∀{ts:List dM} {r:List ByteArray},aT l ts=some r→∀u∈r,∃t∈ts,bH l t=some u
 |[],_,h=>fun _ hu=>by cases h;cases hu
 |t::ts,r,h=>fun u hu=>by
  simp only[aT] at h;cases e:bH l t with
  |none=>rw[e] at h;cases h
  |some s=>
   rw[e] at h;dsimp only at h;cases e2:aT l ts with
   |none=>rw[e2] at h;cases h
   |some q=>
    rw[e2] at h;cases h;rcases List.mem_cons.1 hu with rfl|hu
    ·exact⟨t,by simp,e⟩
    obtain⟨v,hv,hw⟩:=mo e2 u hu;exact⟨v,by simp[hv],hw⟩
theorem BA {fs:List aF} {body:List aJ} {env:List aI} (hr:∀f∈fs,jF f) (h:og (fun _=>fs) body env) {v s:ByteArray} (hg:fu env v=some s):isNamed (raw s)=true:=by
 obtain⟨_,_,h3,h4⟩:=h;have hk0:v∈bU env:=List.mem_map.2 ⟨_,sK hg,rfl⟩;obtain⟨k,hk,rfl⟩:=List.mem_map.1 ((h3 v).1 hk0);rcases(lg body).1 hk with hk|⟨a,ha,hno,t,ht,ht1,rfl⟩;·cases hk
 obtain⟨f,hf,hi⟩:=AA.1 h4 a ha;rw[hno] at hi;obtain⟨u,hu,hw⟩:=pG (vP hf).2 t ht;unfold bH at hw;rw[if_pos ht1,hg] at hw;cases hw;exact(hr f (dD.1 hi)).2.2 _ hu
theorem j3 {a:aJ} (h:aL a=0):isNamed a.name=true∧a.terms.length≤4∧∀t∈a.terms,aW t=false:=by
 unfold aL at h;split at h;·cases h
 rename_i h1;split at h;·cases h
 rename_i h2;split at h;·cases h
 rename_i h3;refine⟨by simpa using h1,by omega,fun t ht=>?_⟩;cases e:aW t with
 |false=>rfl
 |true=>exact absurd (List.any_eq_true.2 ⟨t,ht,e⟩) h3
theorem rG {r:aD} {fs:List aF} {env:List aI} {f:aF} (hR:oK r) (hr:∀f∈fs,jF f) (h:og (fun _=>fs) r.body env) (hf:bf r.head env=some f):
  jF f∧f.1=bs r.head.name∧f.2.length=r.head.terms.length:=by
 obtain⟨h1,h2⟩:=vP hf;obtain⟨h3,h4,h5⟩:=j3 hR.head;have hl:=jR h2;refine⟨⟨by rw[h1,jN];exact h3,by omega,fun s hs=>?_⟩,h1,hl⟩;obtain⟨t,ht,hw⟩:=mo h2 s hs;unfold bH at hw;split at hw;·exact BA hr h hw
 rename_i ht1;cases hw;have:=h5 t ht;unfold aW at this;rw[if_neg ht1] at this;rw[jN];simpa using this
structure GoodS (p:List aD) (L:List aF):Prop where
 up:Up L
 right:∀f∈L,jF f
 few:L.length≤200
 fit:∀f∈L,uH p f=true
theorem yN {p:List aD} {f:aF}:uH p f=true↔∀a∈eB p,bs a.name=f.1→a.terms.length=f.2.length:=by
 unfold uH eB;simp only[List.all_eq_true,Bool.or_eq_true,Bool.not_eq_true',decide_eq_false_iff_not,decide_eq_true_eq,List.mem_flatMap]
 constructor
 ·rintro h a ⟨r,hr,ha⟩ e;exact(h r hr a ha).resolve_left fun hn=>hn e
 intro h r hr a ha
 by_cases e:bs a.name=f.1
 ·exact Or.inr (h a ⟨r,hr,ha⟩ e)
 exact Or.inl e
theorem DJ {p:List aD} (hp:fG p) {r:aD} (hr:r∈p) {f:aF} (h1:f.1=bs r.head.name) (h2:f.2.length=r.head.terms.length):uH p f=true:=
 yN.2 fun a ha e=>by rw[h2];exact hp.even a ha r.head (List.mem_flatMap.2 ⟨r,hr,by simp⟩) (oD (e.trans h1))
theorem nS {r:aD} (h:oK r):Covers r.body:=vg h.body
inductive Walks (p:List aD) (ss:List Nat) (n:Int):List aF→List aF→Prop
 |stop {L:List aF}:wV p ss n L=(0,L)→Walks p ss n L L
 |go {L L' M:List aF}:wV p ss n L=(0,L')→Walks p ss n L' M→Walks p ss n L M
structure Way (p:List aD) (τ:Bs→Nat) (l:List aF) (n m:Nat) (L:List aF):Prop where
 told:∀f∈l,f∈L
 of:∀f∈L,f∉l→∃r∈p,τ r.head.name<m∧f.1=bs r.head.name
 closed:∀r∈p,τ r.head.name<n→∀env f,og (fun _=>L) r.body env→bf r.head env=some f→f∈L
 made:∀f∈L,f∉l→∃r∈p,τ r.head.name<m∧∃env,og (fun _=>L) r.body env∧bf r.head env=some f
theorem mixed:Tryz.prog.follows .mixedOrders=true:=by kernel_rfl
theorem Facts.grown {w:World} {b off n cap:Nat} {l:List aG} (h:Facts w (.slice (some ⟨b,off,none⟩) n cap) l) {k:Nat} (hk:k<l.length):
  ∃a len c,(∀q os,(grow (w.drewN q) os).cell? ⟨b,off+k*2,none⟩=some (.string (l.getD k aA).1))∧(∀q os,(grow (w.drewN q) os).cell? ⟨b,off+k*2+1,none⟩=some (.slice a len c))∧dh w (.agg #[.string (l.getD k aA).1,.slice a len c]) (l.getD k aA):=by
 obtain⟨hb,a,len,c,g1,g2,hf⟩:=h.at hk;exact⟨a,len,c,fun q os=>by rw[aj.cell ⟨q,os,rfl⟩ (p:=⟨b,off+k*2,none⟩) hb];exact g1,fun q os=>by rw[aj.cell ⟨q,os,rfl⟩ (p:=⟨b,off+k*2+1,none⟩) hb];exact g2,hf⟩
theorem nC {l:List aG} {f:aG}:bV l f 0=true↔f∈l:=by unfold bV;rw[List.drop_zero,List.any_eq_true];exact⟨fun⟨x,h1,h2⟩=>by rw[oU.1 h2] at h1;exact h1,fun h=>⟨f,h,oU.2 rfl⟩⟩
theorem meet {l:List aG} {g:aG} (hr:iW l) {m:Nat} (hm:m≤l.length) (ha:∀t,t<m→fF (l.getD t aA) g<0) (hb:∀t,m≤t→t<l.length→0≤fF (l.getD t aA) g):
  bV l g 0=(decide (m<l.length)&&decide (fF (l.getD m aA) g=0)):=by
 rw[Bool.eq_iff_iff,nC,Bool.and_eq_true,decide_eq_true_eq,decide_eq_true_eq]
 constructor
 ·intro h;obtain⟨t,ht,rfl⟩:=List.getElem_of_mem h;have e:l.getD t aA=l[t]:=by rw[List.getD_eq_getElem?_getD,List.getElem?_eq_getElem ht];rfl
  have h1:m≤t:=Nat.not_lt.1 fun n=>by have:=ha t n;rw[e,aV.refl] at this;omega
  have h2:m=t:=by refine Classical.byContradiction fun n=>?_;have h3:=List.pairwise_iff_getElem.1 hr m t (by omega) ht (by omega);have h4:=hb m (Nat.le_refl _) (by omega);rw[List.getD_eq_getElem?_getD,List.getElem?_eq_getElem (by omega)] at h4;have h5:(0:Int)≤fF l[m] l[t]:=h4;omega
  subst h2;exact⟨ht,by rw[e,aV.refl]⟩
 rintro⟨h1,h2⟩;rw[←aV.zero _ _ h2,List.getD_eq_getElem?_getD,List.getElem?_eq_getElem h1];exact List.getElem_mem h1
theorem BD {x:Value} {a b:Bool} (h:a=b):Ending.returned (.tuple #[x,.bool a])=.returned (.tuple #[x,.bool b]):=by rw[h]
theorem cell_later {w w':World} (hL:aj w w') {p:Addr} {v:Value} (hb:p.block<w.heap.size) (h:w.cell? p=some v):∀q os,(grow (w'.drewN q) os).cell? p=some v:=fun q os=>by rw[(hL.trans ⟨q,os,rfl⟩).cell hb];exact h
theorem search (v t:Value) (l:List aG) (g:aG) (w:World) (hf:Facts w v l) (ht:dh w t g) (hr:iW l):
  Calls Tryz.prog 79 #[v,t,.func (.func 60) #[] #[]] w fun e w'=>∃n:Int,e=.returned (.tuple #[.int .i64 n,.bool (bV l g 0)])∧aj w w':=by
 have mx:=mixed;have HF:=au hf;have HT:=au ht;have HR:=au hr;obtain⟨a,cap,rfl,hn,hz⟩:=hf.addr;obtain⟨s2,rfl,l2,a2,c2,rfl,_⟩:=ht;clear hf hr
 go_enter Tryz.func79,Tryz.ntmps79
 go_wp2
 go_loopw [9,10] (fun i j wr=>∃lo hi:Nat,lo≤hi∧hi≤l.length∧i=.int .i64 lo∧j=.int .i64 hi∧aj (w.alloc (.cells #[.string g.1,.slice a2 g.2.length c2] 50)) wr∧Hid (∀t,t<lo→fF (l.getD t aA) g<0)∧Hid (∀t,hi≤t→t<l.length→0≤fF (l.getD t aA) g)) (fun i j _=>(intOf j).toNat- (intOf i).toNat)
 case atStart=>exact⟨0,l.length,by omega,by omega,rfl,rfl,aj.refl _,fun t ht=>absurd ht (Nat.not_lt_zero _),fun t h1 h2=>by omega⟩
 obtain⟨lo,hi,hlh,hin,rfl,rfl,hL,HA,HB⟩:=hrel;have hL0:aj w wr:=((aj.refl _).alloc _).trans hL;have z0:=cell_later hL (p:=⟨w.heap.size,0,none⟩) (v:=.string g.1) (by simp) (by simp);have z1:=cell_later hL (p:=⟨w.heap.size,1,none⟩) (v:=.slice a2 g.2.length c2) (by simp) (by simp)
 by_cases hlt:lo<hi
 ·rcases hz with rfl|⟨b,off,rfl⟩;·simp at hin;omega
  obtain⟨m,hm⟩:∃m,m=(lo+hi)/2:=⟨_,rfl⟩;have hml:m<l.length:=by omega
  have hlm:lo≤m:=by omega
  have hmh:m<hi:=by omega
  have em:((lo:Int)+(hi:Int))/2=(m:Int):=by omega
  clear hm;have hltz:(lo:Int)<(hi:Int):=by omega
  have hmz:(m:Int)<(l.length:Int):=by omega
  obtain⟨ax,lx,cx,g1,g2,fx⟩:=(HF.out.later hL0).grown hml;have hC:∀q os,Calls Tryz.prog 60 #[.agg #[.string (l.getD m aA).1,.slice ax lx cx],.agg #[.string g.1,.slice a2 g.2.length c2]] (grow (wr.drewN q) os) fun e w''=>e=.returned (.int .i64 (fF (l.getD m aA) g))∧aj (grow (wr.drewN q) os) w'':=
   fun q os=>lX _ _ _ _ _ (fx.later ⟨q,os,rfl⟩) ((HT.out.later hL0).later ⟨q,os,rfl⟩)
  have HC:=au hC;clear hC fx;have hlow:=HR.out;have Ev:fF (l.getD m aA) g<0→∀t,t<m+1→fF (l.getD t aA) g<0:=fun h t ht=>by
   by_cases e:t=m
   ·rw[e];exact h
   have h3:=List.pairwise_iff_getElem.1 hlow t m (by omega) hml (by omega);refine aV.trans _ (l.getD m aA) _ ?_ h;rw[List.getD_eq_getElem?_getD,List.getElem?_eq_getElem (by omega),List.getD_eq_getElem?_getD,List.getElem?_eq_getElem hml];exact h3
  have hstep2:0≤fF (l.getD m aA) g→∀t,m≤t→t<l.length→0≤fF (l.getD t aA) g:=fun h t h1 h2=>by
   by_cases e:t=m
   ·rw[e];exact h
   have h3:=List.pairwise_iff_getElem.1 hlow m t (by omega) h2 (by omega);refine Int.not_lt.1 fun n=>?_;have h4:=aV.trans (l.getD m aA) (l.getD t aA) g (by rw[List.getD_eq_getElem?_getD,List.getElem?_eq_getElem (by omega),List.getD_eq_getElem?_getD,List.getElem?_eq_getElem h2];exact h3) n
   omega
  have H1:=au Ev;have H2:=au hstep2;clear Ev hstep2 hlow;generalize hcm:fF (l.getD m aA) g=cm at*;have HCM:=au hcm;clear hcm;generalize(l.getD m aA).1=nm at*
  by_cases hneg:cm<0
  ·go_wp2
   go_quiet_grown ((go_at_call 60;exact Calls.grown_of (HC.out _ _)))
   go_wp2
   go_roundw
   case rel=>exact⟨m+1,hi,by omega,hin,by go_num,rfl,hL.trans ⟨_,_,rfl⟩,H1.out hneg,HB⟩
   case measure=>simp[intOf];omega
  go_wp2
  go_quiet_grown ((go_at_call 60;exact Calls.grown_of (HC.out _ _)))
  go_wp2
  go_roundw
  case rel=>exact⟨lo,m,by omega,by omega,rfl,rfl,hL.trans ⟨_,_,rfl⟩,HA,H2.out (by omega)⟩
  case measure=>simp[intOf];omega
 obtain rfl:lo=hi:=by omega
 have hfin:=meet HR.out hin HA.out HB.out
 by_cases hll:lo<l.length
 ·rcases hz with rfl|⟨b,off,rfl⟩;·simp at hll
  have hmz:(lo:Int)<(l.length:Int):=by omega
  obtain⟨ax,lx,cx,g1,g2,fx⟩:=(HF.out.later hL0).grown hll;have hC:∀q os,Calls Tryz.prog 60 #[.agg #[.string (l.getD lo aA).1,.slice ax lx cx],.agg #[.string g.1,.slice a2 g.2.length c2]] (grow (wr.drewN q) os) fun e w''=>e=.returned (.int .i64 (fF (l.getD lo aA) g))∧aj (grow (wr.drewN q) os) w'':=
   fun q os=>lX _ _ _ _ _ (fx.later ⟨q,os,rfl⟩) ((HT.out.later hL0).later ⟨q,os,rfl⟩)
  have HC:=au hC;rw[decide_eq_true hll] at hfin;have HFN:=au hfin;clear hC fx hfin;generalize hcm:fF (l.getD lo aA) g=cm at*;generalize(l.getD lo aA).1=nm at*;have HCM:=au hcm;clear hcm;go_wp2
  go_quiet_grown ((go_at_call 60;exact Calls.grown_of (HC.out _ _)))
  go_wp2
  go_ret2
  exact⟨(lo:Int),BD (by rw[HFN.out,Bool.true_and,Bool.eq_iff_iff];simp),hL0.trans ⟨_,_,rfl⟩⟩
 rw[decide_eq_false hll] at hfin;have HFN:=au hfin;clear hfin;have hd:decide ((lo:Int)<(l.length:Int))=false:=by rw[decide_eq_false_iff_not];omega
 go_wp2
 go_quiet (fail)
 go_wp2
 go_ret2
 exact⟨(lo:Int),BD (by rw[HFN.out];rfl),hL0.drewN _⟩
theorem among (a:Option Addr) (n cap:Nat) (w:World):Calls Tryz.prog 61 #[.slice a n cap] w fun e w'=>
  e=.returned (.func (.func 78) #[] #[.pointer (some ⟨w.heap.size,0,none⟩)])∧w'=w.alloc (.cells #[.slice a n cap] 24):=by
 go_enter Tryz.func61,Tryz.ntmps61
 go_wp2;go_ret;exact⟨rfl,rfl⟩
theorem Ew (c:Nat) (v t:Value) (l:List aG) (g:aG) (w:World) (hc:w.cell? ⟨c,0,none⟩=some v) (hb:c<w.heap.size) (hf:Facts w v l) (ht:dh w t g) (hr:iW l):
  Calls Tryz.prog 78 #[t,.pointer (some ⟨c,0,none⟩)] w fun e w'=>e=.returned (.bool (bV l g 0))∧aj w w':=by
 have hS:=fun w' (hw:aj w w')=>search v t l g w' (hf.later hw) (ht.later hw) hr;have HS:=au hS;obtain⟨a,cap,rfl⟩:=aC hf;obtain⟨s2,rfl,l2,a2,c2,rfl,_⟩:=ht;clear hS hf hr
 go_enter Tryz.func78,Tryz.ntmps78
 go_wp2_with (go_at_call 79;refine(HS.out _ ((aj.refl _).alloc _)).mono ?_;rintro e w1 ⟨n,rfl,hL⟩)
 go_ret;exact⟨rfl,((aj.refl _).alloc _).trans hL⟩
theorem inC (v t:Value) (l:List aG) (g:aG) (w:World) (hf:Facts w v l) (ht:dh w t g) (hr:iW l):
  Calls Tryz.prog 133 #[v,t] w fun e w'=>e=.returned (.bool (bV l g 0))∧aj w w':=by
 have hA:=fun c w' hc hb (hw:aj w w')=>Ew c v t l g w' hc hb (hf.later hw) (ht.later hw) hr;have HA:=au hA;obtain⟨a,cap,rfl⟩:=aC hf;obtain⟨s2,rfl,l2,a2,c2,rfl,_⟩:=ht;clear hA hf hr
 go_enter Tryz.func133,Tryz.ntmps133
 go_wp2
 go_region_with (first
  |(go_at_call 61;refine(among _ _ _ _).mono ?_;rintro e w1 ⟨rfl,rfl⟩)
  |(go_at_call 78;refine(HA.out (w.heap.size+1) _ (by simp) (by simp) (by repeat (first|exact aj.refl _|assumption|refine aj.drewN ?_ _|refine aj.drew ?_|refine aj.alloc ?_ _|refine aj.grow ?_ _))).mono ?_;rintro e w2 ⟨rfl,hL⟩))
 all_goals
  go_wp2;go_ret;exact⟨rfl,aj.trans (by repeat (first|exact aj.refl _|assumption|refine aj.drewN ?_ _|refine aj.drew ?_|refine aj.alloc ?_ _|refine aj.grow ?_ _)) hL⟩
theorem Jt (c d:Nat) (v t:Value) (l:List aG) (g:aG) (w:World) (hc:w.cell? ⟨c,0,none⟩=some v) (hb:c<w.heap.size) (hd:w.cell? ⟨d,0,none⟩=some (.func (.func 78) #[] #[.pointer (some ⟨c,0,none⟩)])) (hdb:d<w.heap.size) (hf:Facts w v l) (ht:dh w t g) (hr:iW l):
  Calls Tryz.prog 62 #[t,.pointer (some ⟨d,0,none⟩)] w fun e w'=>e=.returned (.bool (!bV l g 0))∧aj w w':=by
 have hA:=fun w' (hw:aj w w')=>Ew c v t l g w' (by rw[hw.cell (p:=⟨c,0,none⟩) hb];exact hc) (Nat.lt_of_lt_of_le hb hw.size) (hf.later hw) (ht.later hw) hr;have HA:=au hA;obtain⟨s2,rfl,l2,a2,c2,rfl,_⟩:=ht;clear hA hf hr hc;generalize bV l g 0=r at*
 go_enter Tryz.func62,Tryz.ntmps62
 go_wp2_with (go_at_call 78;refine(HA.out _ ((aj.refl _).alloc _)).mono ?_;rintro e w1 ⟨rfl,hL⟩)
 go_ret;exact⟨rfl,((aj.refl _).alloc _).trans hL⟩
theorem He (va vb:Value) (la lb:List aG) (w:World) (ha:Facts w va la) (hb:Facts w vb lb) (hr:iW lb):
  Calls Tryz.prog 39 #[va,vb] w fun e w'=>∃v',e=.returned v'∧dR w' w.heap.size v' (la.filter fun f=> !bV lb f 0)∧aj w w':=by
 have HA:=au ha;have HB:=au hb;have HR:=au hr;obtain⟨a1,c1,rfl⟩:=aC ha;obtain⟨a2,c2,rfl⟩:=aC hb;clear ha hb hr
 go_enter Tryz.func39,Tryz.ntmps39
 go_wp2_with (go_at_call 61;refine(among _ _ _ _).mono ?_;rintro e w1 ⟨rfl,rfl⟩)
 have hL:aj w ((w.alloc (.cells #[.slice a2 lb.length c2] 24)).alloc (.cells #[.func (.func 78) #[] #[.pointer (some ⟨w.heap.size,0,none⟩)]] 67)):=(by repeat (first|exact aj.refl _|assumption|refine aj.drewN ?_ _|refine aj.drew ?_|refine aj.alloc ?_ _|refine aj.grow ?_ _));have hz:w.heap.size+1<((w.alloc (.cells #[.slice a2 lb.length c2] 24)).alloc (.cells #[.func (.func 78) #[] #[.pointer (some ⟨w.heap.size,0,none⟩)]] 67)).heap.size:=by simp
 have y0:((w.alloc (.cells #[.slice a2 lb.length c2] 24)).alloc (.cells #[.func (.func 78) #[] #[.pointer (some ⟨w.heap.size,0,none⟩)]] 67)).cell? ⟨w.heap.size,0,none⟩=some (.slice a2 lb.length c2):=by simp
 have y1:((w.alloc (.cells #[.slice a2 lb.length c2] 24)).alloc (.cells #[.func (.func 78) #[] #[.pointer (some ⟨w.heap.size,0,none⟩)]] 67)).cell? ⟨w.heap.size+1,0,none⟩=some (.func (.func 78) #[] #[.pointer (some ⟨w.heap.size,0,none⟩)]):=by simp
 generalize((w.alloc (.cells #[.slice a2 lb.length c2] 24)).alloc (.cells #[.func (.func 78) #[] #[.pointer (some ⟨w.heap.size,0,none⟩)]] 67))=W at*;refine(keep 62 #[.pointer (some ⟨w.heap.size+1,0,none⟩)] vG W.heap.size W.heap.size W W _ la (fun k=> !bV lb (la.getD k aA) 0) (fun _ _=>True) (HA.out.later hL) (aj.refl _) (Nat.le_refl _) (Nat.le_refl _)
  ⟨fun k w' t hk hw _ _ hf=>(Jt w.heap.size (w.heap.size+1) _ t lb (la.getD k aA) w' (by rw[hw.cell (p:=⟨w.heap.size,0,none⟩) (by show w.heap.size<_;omega)];exact y0) (by have:=hw.size;omega)
    (by rw[hw.cell (p:=⟨w.heap.size+1,0,none⟩) hz];exact y1) (by have:=hw.size;omega) ((HB.out.later hL).later hw) (hf.later hw) HR.out).mono fun e w'' ⟨he,hL'⟩=>⟨he,hL'.only,trivial⟩,
   fun _ _ _ _ _ _=>trivial⟩ trivial).mono ?_
 rintro e w1 ⟨v',rfl,hO,hW,_⟩;have e:=oZ (fun f=> !bV lb f 0) la la.length (Nat.le_refl _);rw[List.take_length] at e;rw[e] at hO;have HO:=au hO;clear hO e;go_wp2;go_ret;exact⟨v',rfl,HO.out.base hL.size,hL.trans (hW.later (aj.refl _) (Nat.le_refl _))⟩
theorem Fx (l:List aG) (f:aG):bV l f 0=inB l f:=by rw[Bool.eq_iff_iff,nC,dD]
def BF (fs:List aG) (a:aJ) (l:List aI):Bool:=match bf a l with
 |some f=>inB fs f
 |none=>false
theorem vQ {pick:Nat→List aF} {body:List aJ} {j:Nat} {a:aJ} (h:body[j]?=some a) (l:List aI):barredB pick j (body.drop j) l=((a.no&&BF (pick j) a l)||barredB pick (j+1) (body.drop (j+1)) l):=by obtain⟨h1,e1⟩:=List.getElem?_eq_some_iff.1 h;rw[List.drop_eq_getElem_cons h1,e1];rfl
theorem Fy (body:List aJ) (v u:Value) (l:List aI) (g:Nat) (cb:Array Value) (eg:∀args w,(callFunc g args).run Tryz.prog w=.ok (.enter g args) w) (pick:Nat→List aG) (w:World) (hv:dY.sl bT w v body) (hu:bO.sl bT w u l) (hp:vM g cb pick w.heap.size w) (hb:body.length≤5) (hr:∀n,iW (pick n)):
  Calls Tryz.prog 113 #[v,.func (.func g) #[] cb,u] w fun e w'=>e=.returned (.bool (barredB pick 0 body l))∧aj w w':=by
 obtain⟨sa,cap,rfl⟩:=aB.slice hv;obtain⟨ua,Ju,rfl⟩:=aB.slice hu;have HV:=au hv;have HU:=au hu;have HP:=au hp;have HR:=au hr;clear hv hu hp hr;generalize hR:barredB pick 0 body l=R at*;have H0:Hid (R=barredB pick 0 (body.drop 0) l):=hR.symm;clear hR
 go_enter Tryz.func113,Tryz.ntmps113
 go_wp2
 go_loopg [13] body.length (fun gg i wr=>∃j:Nat,j+gg=body.length∧i=.int .i64 j∧Hid (R=barredB pick j (body.drop j) l)∧Hid (aj w wr))
 case atStart=>exact⟨0,by omega,rfl,H0,((by repeat (first|exact aj.refl _|assumption|refine aj.drewN ?_ _|refine aj.drew ?_|refine aj.alloc ?_ _|refine aj.grow ?_ _)):aj _ _)⟩
 obtain⟨j,hj,rfl,HE,HL⟩:=hrel
 by_cases hlt:j<body.length
 ·obtain⟨a,hx⟩:∃x,body[j]?=some x:=⟨_,List.getElem?_eq_getElem hlt⟩;obtain⟨b1,o1,_,rfl,hb1,⟨sv,rfl,hsv⟩,hc⟩:=aB.bR HV.out hx;have d0:wr.cell? ⟨b1,o1+j*3,none⟩=some (.bool a.no):=by rw[HL.out.cell hb1];exact hc 0 _ rfl
  have d1:wr.cell? ⟨b1,o1+j*3+1,none⟩=some (.string (bs a.name)):=by rw[HL.out.cell hb1];exact hc 1 _ rfl
  have d2:wr.cell? ⟨b1,o1+j*3+2,none⟩=some sv:=by rw[HL.out.cell hb1];exact hc 2 _ rfl
  have hbr:b1<wr.heap.size:=Nat.lt_of_lt_of_le hb1 HL.out.size;have HS:=au (vQ (pick:=pick) hx l);obtain⟨sva,svc,rfl⟩:=aB.slice hsv;have HSV:=au hsv;clear hc hx hsv;cases hno:a.no
  ·have HS1:Hid (R=barredB pick (j+1) (body.drop (j+1)) l):=by
    show _=_;rw[HE.out,HS.out,hno];rfl
   rw[hno] at d0;clear HE HS hno;generalize bs a.name=nm at*;go_wp2
   go_roundg (body.length- (j+1))
   case measure=>omega
   case rel=>exact⟨j+1,by omega,by go_num,HS1,HL.out.alloc _⟩
  have HS1:Hid (R=(BF (pick j) a l||barredB pick (j+1) (body.drop (j+1)) l)):=by show _=_;rw[HE.out,HS.out,hno];rfl
  rw[hno] at d0;have hLt:aj w (wr.alloc (.cells #[.bool true,.string (bs a.name),.slice sva a.terms.length svc] 54)):=HL.out.alloc _;have HFc:=au (GU a _ (.slice ua l.length Ju) l (wr.alloc (.cells #[.bool true,.string (bs a.name),.slice sva a.terms.length svc] 54)) (aB.aS HSV.out hLt) (aB.aS HU.out hLt));rw[hno] at HFc;have hbo:BF (pick j) a l=match bf a l with|some f=>inB (pick j) f|none=>false:=rfl
  unfold filled at HFc;have HLt:=au hLt;clear HE HS hLt hno;cases hf:bf a l with
  |none=>
   rw[hf] at HFc hbo;have HS2:Hid (R=barredB pick (j+1) (body.drop (j+1)) l):=by show _=_;rw[HS1.out,hbo];rfl
   simp only[Option.isSome_none,Option.getD_none] at HFc;clear HS1 hbo hf;generalize bs a.name=nm at*
   go_wp2_with fail
   refine HFc.out.mono ?_;rintro e w2 ⟨fv,rfl,hfv,hL2⟩;obtain⟨s,rfl,hs⟩:=hfv;obtain⟨sA,sC,rfl⟩:=bP hs;have HL2:=au (HLt.out.trans hL2);clear hs hL2 HFc;go_wp2;refine wp_region_held_drew (S:=fun w'=>aj w w') (by kernel_rfl) ((HL2.out.alloc _).drew) (fun hHeld=>?_);refine tkY 0 27 hHeld ?_;refine tkY 1 28 hHeld ?_;refine tkN 2 29 hHeld ?_;refine tkN 3 30 hHeld ?_;refine tkN 4 31 hHeld ?_;refine tkN 5 32 hHeld ?_;refine tkN 6 33 hHeld ?_;refine tkY 7 34 hHeld ?_;refine wpAnyH_done (by kernel_rfl) ?_ _;go_wp2
   go_roundg (body.length- (j+1))
   case measure=>omega
   case rel=>exact⟨j+1,by omega,by go_num,HS2,hHeld⟩
  |some f=>
   rw[hf] at HFc hbo;have HS2:Hid (R=(bV (pick j) f 0||barredB pick (j+1) (body.drop (j+1)) l)):=by show _=_;rw[HS1.out,hbo,Fx]
   simp only[Option.isSome_some,Option.getD_some] at HFc;clear HS1 hbo hf;generalize bs a.name=nm at*
   go_wp2_with fail
   refine HFc.out.mono ?_;rintro e w2 ⟨fv,rfl,hfv,hL2⟩;have HFV:=au hfv;obtain⟨s,rfl,hs⟩:=hfv;obtain⟨sA,sC,rfl⟩:=bP hs;have HL2:=au (HLt.out.trans hL2);obtain⟨fn,dF⟩:=f;dsimp only at*;obtain⟨wb,hwb⟩:∃wb,wb=w2.alloc (.cells #[.string fn,.slice sA dF.length sC] 50):=⟨_,rfl⟩;have hLb:aj w wb:=by rw[hwb];exact HL2.out.alloc _
   have hFb:dh wb (.agg #[.string fn,.slice sA dF.length sC]) (fn,dF):=by rw[hwb];exact HFV.out.later ((aj.refl _).alloc _)
   have z:wb.cell? ⟨w2.heap.size,0,none⟩=some (.string fn)∧wb.cell? ⟨w2.heap.size,1,none⟩=some (.slice sA dF.length sC):=by rw[hwb];simp
   have hsb:w2.heap.size<wb.heap.size:=by rw[hwb];simp
   have CELL:Hid (∀w',aj wb w'→w'.cell? ⟨w2.heap.size,0,none⟩=some (.string fn)∧w'.cell? ⟨w2.heap.size,1,none⟩=some (.slice sA dF.length sC)):=fun w' hL=>
    ⟨by rw[hL.cell hsb];exact z.1,by rw[hL.cell hsb];exact z.2⟩
   have HFr:Hid (∀w',aj wb w'→Calls Tryz.prog g (#[.int .i64 j]++cb) w' fun e w2=>∃v,e=.returned v∧Facts w2 v (pick j)∧aj w' w2):=fun w' hL=>
    HP.out w' j (hLb.trans hL).below (by omega)
   have HIn:Hid (∀w' x,aj wb w'→Facts w' x (pick j)→Calls Tryz.prog 133 #[x,.agg #[.string fn,.slice sA dF.length sC]] w' fun e w3=>e=.returned (.bool (bV (pick j) (fn,dF) 0))∧aj w' w3):=fun w' x hL hx=>
    inC x _ (pick j) (fn,dF) w' hx (hFb.later hL) (HR.out j)
   have HWB:=au hwb;clear hs hL2 HFc hwb z hsb HFV hFb;go_wp2;rw[←HWB.out];generalize bV (pick j) (fn,dF) 0=bb at*;refine wp_region_held_drew (S:=fun w'=>aj wb w') (by kernel_rfl) (aj.refl _).drew (fun hHeld=>?_);refine tkY 0 27 hHeld ?_;refine tkY 1 28 hHeld ?_;refine tkY 2 29 hHeld ?_;refine tkY 3 30 hHeld ?_;refine tkY 5 32 hHeld ?_ rfl fun w hSw=>by obtain⟨q0,q1⟩:=CELL.out w hSw;go_simp;try with_reducible rfl
   refine tkC 4 fun K hK=>?_;go_simp;refine(HFr.out _ hHeld).mono ?_;rintro e u1 ⟨x,rfl,hx,hU1⟩;dsimp only;have Eu:aj wb u1:=aj.trans hHeld hU1;refine hK.out _ _ Eu (fun hHeld=>?_);clear hK K;refine tkC 6 fun K hK=>?_;go_simp;refine(HIn.out _ x Eu hx).mono ?_;rintro e u2 ⟨rfl,hU2⟩;dsimp only;have G8:aj wb u2:=Eu.trans hU2;refine hK.out _ _ G8 (fun hHeld=>?_);clear hK K;refine tkY 7 34 hHeld ?_;refine wpAnyH_done (by kernel_rfl) ?_ _;have HLu:=au (hLb.trans G8);cases bb
   ·have HS3:Hid (R=barredB pick (j+1) (body.drop (j+1)) l):=by show _=_;rw[HS2.out];rfl
    clear HS2;go_wp2
    go_roundg (body.length- (j+1))
    case measure=>omega
    case rel=>exact⟨j+1,by omega,by go_num,HS3,HLu⟩
   have HS3:Hid (R=true):=by show _=_;rw[HS2.out];rfl
   clear HS2;go_wp2;go_ret;exact⟨by rw[HS3.out];rfl,HLu.out⟩
 have HS3:Hid (R=false):=by show _=_;rw[HE.out,List.drop_eq_nil_of_le (by omega)];rfl
 clear HE;go_wp2;go_ret;exact⟨by rw[HS3.out];rfl,HL.out⟩
theorem vR:∀args w,(callFunc 112 args).run Tryz.prog w=.ok (.enter 112 args) w:=enters_of Tryz.func112 (by kernel_rfl) rfl
def Jv (g:Nat) (cb:Array Value) (p:List aI→Bool) (n:Nat) (w0:World):Prop:=∀(W:World) (u:Value) (l:List aI),Below n w0 W→bO.sl bT W u l→
 Calls Tryz.prog g (#[u]++cb) W fun e w'=>e=.returned (.bool (p l))∧aj W w'
theorem Hf (cB cF:Nat) (body:List aJ) (v:Value) (g:Nat) (cb:Array Value) (eg:∀args w,(callFunc g args).run Tryz.prog w=.ok (.enter g args) w) (pick:Nat→List aG) (n:Nat) (w0:World) (hv:dY.sl bT w0 v body) (hp:vM g cb pick n w0) (hb:body.length≤5) (hr:∀n,iW (pick n))
  (h0:w0.cell? ⟨cB,0,none⟩=some v) (h1:w0.cell? ⟨cF,0,none⟩=some (.func (.func g) #[] cb)) (b0:cB<n) (b1:cF<n) (hn:n=w0.heap.size):
  Jv 112 #[.pointer (some ⟨cB,0,none⟩),.pointer (some ⟨cF,0,none⟩)] (barredB pick 0 body) n w0:=by
 intro W u l hW hu;have hW':Below w0.heap.size w0 W:=by rw[←hn];exact hW
 have hs:n≤W.heap.size:=by have:=hW.size;omega
 have z0:W.cell? ⟨cB,0,none⟩=some v:=by rw[hW.cell b0];exact h0
 have z1:W.cell? ⟨cF,0,none⟩=some (.func (.func g) #[] cb):=by rw[hW.cell b1];exact h1
 have s0:cB<W.heap.size:=by omega
 have s1:cF<W.heap.size:=by omega
 have HC:=au (Fy body v u l g cb eg pick W (aB.aO hv hW') hu (hp.below hW hs) hb hr);obtain⟨a,cap,rfl⟩:=aB.slice hv;obtain⟨ua,Ju,rfl⟩:=aB.slice hu;clear hv hu hp hr h0 h1 hW' hW;generalize barredB pick 0 body l=bb at*;show Calls _ _ #[.slice ua l.length Ju,.pointer (some ⟨cB,0,none⟩),.pointer (some ⟨cF,0,none⟩)] _ _
 go_enter Tryz.func112,Tryz.ntmps112
 go_wp2_with (go_at_call 113;refine HC.out.mono ?_;rintro e w2 ⟨rfl,hL2⟩;replace hL2:=au hL2)
 go_ret;exact⟨rfl,bg hL2⟩
end Go.Proofs.YthngiikhgplldaaGreatDoor
