import Derived.Test.YtafmbokfkbccaaaGreatDoorJD27
import Derived.Test.YtafmbokfkbccaaaGreatDoorJD3
import Derived.Test.YtafmbokfkbccaaaGreatDoorJD6
import Derived.ProofKit
import Derived.SliceStrings
import Derived.Deep.Slices
import Derived.Deep.Strs
import Derived.Lib.SmallJoins
import Derived.SizedLaws
import Derived.Test.YtafmbokfkbccaaaGreatDoorJD9
namespace Go.Proofs.YtafmbokfkbccaaaGreatDoor
open Go.RowKit Go.Sort Go.Maps
def runOf (p:List RuleD) (l:List FactB):RunD:=⟨l,l,0,0,decide (countP (strataP p).1=0)⟩
def beginP (p:List RuleD) (l:List FactB):Int×RunD:=if forE p l≠0 then(forE p l,noRun) else(0,runOf p l)
set_option maxRecDepth 100000 in
set_option maxHeartbeats 2000000 in
theorem roundBegin (p:List RuleD) (l:List FactB) (pv fv:Value) (w:World) (hv:ruleK.sl Anyw w pv p) (hf:Facts w fv l):
  Calls Tryz.prog 35 #[pv,fv] w fun e w'=>∃v' er,e=.returned (.tuple #[v',.int .i64 er])∧NextT (w.heap.size+1) w' v' er (beginP p l)∧Below w.heap.size w w':=by
 obtain⟨pa,pc,rfl⟩:=Kind.slice hv;obtain⟨fa,fc,rfl⟩:=sliceFacts hf;obtain⟨wb,hwb⟩:∃wb,wb=w.alloc (.cells #[.slice none 0 0,.slice none 0 0,.int .i64 0,.int .i64 0,.bool false] 47):=⟨_,rfl⟩;have hLb:Later w wb:=by rw[hwb];exact(Later.refl w).alloc _
 have hzb:wb.heap.size=w.heap.size+1:=by rw[hwb];simp
 have hrs:wb.heap[w.heap.size]?=some (.cells #[.slice none 0 0,.slice none 0 0,.int .i64 0,.int .i64 0,.bool false] 47 (0,0)):=by rw[hwb];exact heap_alloc_new w _
 have HFo:=hide (strataForC p l (.slice pa p.length pc) (.slice fa l.length fc) wb (Kind.sl_later hv hLb) (hf.later hLb));have HF:=hide hf;have HLb:=hide hLb;have HRs:=hide hrs;have HWb:=hide hwb;have HX:Hid (beginP p l=if forE p l≠0 then(forE p l,noRun) else(0,⟨l,l,0,0,decide (countP (strataP p).1=0)⟩)):=(rfl:_=_);have HGo:Hid (forE p l=0→l.length≤200∧∀s∈(strataP p).1,s<1000):=fun h=>by
  obtain⟨_,hg,τ,_,hs,ht⟩:=forE_zero h;refine⟨hg.few,fun s hs'=> ?_⟩;rw[hs] at hs';obtain⟨q,hq,rfl⟩:=List.mem_map.1 hs';have:=ht q hq;omega
 unfold ForT at HFo;generalize beginP p l=SF at*;generalize forE p l=fo at*;generalize(strataP p).1=ss at*;clear hv hf hLb hrs hwb
 go_enter Tryz.func35,Tryz.ntmps35
 go_wp2_with fail
 rw[←HWb.out];refine HFo.out.mono ?_;rintro e w1 ⟨v1,rfl,⟨⟨a1,n1,c1,rfl⟩,hs1⟩,hB1⟩;have HB1:Hid (Below w.heap.size w w1):=below_trans HLb.out.below hB1 HLb.out.size;have hr1:w1.heap[w.heap.size]?=some (.cells #[.slice none 0 0,.slice none 0 0,.int .i64 0,.int .i64 0,.bool false] 47 (0,0)):=by rw[hB1.block _ (by omega)];exact HRs.out
 have hz1:w.heap.size+1≤w1.heap.size:=by have:=hB1.size;omega
 have HS1:=hide hs1;have HR1:=hide hr1;clear hB1 hs1 HFo HWb HRs
 by_cases h0:fo=0
 ·subst h0;obtain⟨hl2,hsm⟩:=HGo.out rfl;have HV1:=hide (Kind.sl_any (HS1.out rfl));have hn1:n1=ss.length:=by obtain⟨_,_,e⟩:=Kind.slice HV1.out;simp only[Value.slice.injEq] at e;exact e.2.1
  subst hn1;have HX1:Hid (SF=(0,⟨l,l,0,0,decide (countP ss=0)⟩)):=by show _=_;rw[HX.out];simp
  have HO1:=hide (ownC (.slice fa l.length fc) l w1 (HF.out.below HB1.out));have HSm:=hide hsm;clear HX HGo HS1 hr1 hsm
  go_wp2_with fail
  refine HO1.out.mono ?_;rintro e w2 ⟨v2,rfl,hO2,hL2⟩;obtain⟨a2,c2,rfl⟩:=hO2.slice;have HB2:Hid (Below w.heap.size w w2):=below_trans HB1.out hL2.below HB1.out.size;have HO2:=hide (ownC (.slice fa l.length fc) l w2 (HF.out.below HB2.out));have HR2:Hid (w2.heap[w.heap.size]?=some (.cells #[.slice none 0 0,.slice none 0 0,.int .i64 0,.int .i64 0,.bool false] 47 (0,0))):=by show _=_;rw[hL2.block (by omega)];exact HR1.out
  have HV2:=hide (Kind.sl_later HV1.out hL2);have HK2:=hide (hO2.base (base':=w.heap.size+1) (by omega));have hz2:w.heap.size+1≤w2.heap.size:=by have:=hL2.size;omega
  clear hO2 hL2 HO1 HB1 HR1 HV1 hz1
  go_wp2_with fail
  refine HO2.out.mono ?_;rintro e w3 ⟨v3,rfl,hO3,hL3⟩;obtain⟨a3,c3,rfl⟩:=hO3.slice;have HB3:Hid (Below w.heap.size w w3):=below_trans HB2.out hL3.below HB2.out.size;have HR3:Hid (w3.heap[w.heap.size]?=some (.cells #[.slice none 0 0,.slice none 0 0,.int .i64 0,.int .i64 0,.bool false] 47 (0,0))):=by show _=_;rw[hL3.block (by omega)];exact HR2.out
  have HK3:=hide (HK2.out.later hL3);have HN3:=hide (hO3.base (base':=w.heap.size+1) (by omega));have HCn:=hide (countC ss (.slice a1 ss.length c1) w3 (Kind.sl_later HV2.out hL3) HSm.out);have hz3:w.heap.size+1≤w3.heap.size:=by have:=hL3.size;omega
  have hcs:countP ss≤1000:=countP_le HSm.out;clear hO3 hL3 HO2 HB2 HR2 HV2 HK2 hz2
  go_wp2_with fail
  refine HCn.out.mono ?_;rintro e w4 ⟨rfl,hL4⟩;have HB4:Hid (Below w.heap.size w w4):=below_trans HB3.out hL4.below HB3.out.size;have HR4:Hid (w4.heap[w.heap.size]?=some (.cells #[.slice none 0 0,.slice none 0 0,.int .i64 0,.int .i64 0,.bool false] 47 (0,0))):=by show _=_;rw[hL4.block (by omega)];exact HR3.out
  have HK4:=hide (HK3.out.later hL4);have HN4:=hide (HN3.out.later hL4);clear hL4 HCn HB3 HR3 HK3 HN3;obtain⟨q0,q1,q2,q3,q4,⟨f0,f1,f2,f3,f4⟩,_⟩:=row5 HR4.out;have HEq:Hid ((((countP ss:Nat):Int)==0)=decide (countP ss=0)):=by
   show _=_
   by_cases h:countP ss=0
   ·simp[h]
   ·simp[h]
  generalize countP ss=cc at*;go_wp2;obtain⟨r0,r1,r2,r3,r4⟩:=set5 HR4.out (.slice a2 l.length c2) (.slice a3 l.length c3) (.int .i64 0) (.int .i64 0) (.bool ((cc:Int)==0));exact bodyPost_ret (v:=.tuple #[.agg #[.slice a2 l.length c2,.slice a3 l.length c3,.int .i64 0,.int .i64 0,.bool ((cc:Int)==0)],.int .i64 0]) (by simp[results,Tryz.results35,go_sem,r0,r1,r2,r3,r4]) rfl
   ⟨_,0,rfl,by rw[HX1.out];exact⟨rfl,_,_,by rw[HEq.out],HK4.out.put5 (by omega),HN4.out.put5 (by omega)⟩,Below.put5 HB4.out (Nat.le_refl _)⟩
 ·have HX1:Hid (SF=(fo,noRun)):=by show _=_;rw[HX.out,if_pos h0]
  have hne:(fo != 0)=true:=by simpa using h0
  obtain⟨q0,q1,q2,q3,q4,⟨f0,f1,f2,f3,f4⟩,_⟩:=row5 hr1;clear HX HGo HS1 h0 hr1;go_wp2;obtain⟨r0,r1,r2,r3,r4⟩:=set5 HR1.out (.slice none 0 0) (.slice none 0 0) (.int .i64 0) (.int .i64 0) (.bool false);exact bodyPost_ret (v:=.tuple #[.agg #[.slice none 0 0,.slice none 0 0,.int .i64 0,.int .i64 0,.bool false],.int .i64 fo]) (by simp[results,Tryz.results35,go_sem,r0,r1,r2,r3,r4]) rfl ⟨_,fo,rfl,by rw[HX1.out];exact⟨rfl,RunO.none _ _⟩,Below.put5 HB1.out (Nat.le_refl _)⟩
def allR (p:List RuleD) (l:List FactB):Int×List FactB:=if forE p l≠0 then(forE p l,[]) else
 if(stepsP p (strataP p).1 1000 (runOf p l)).1≠0 then((stepsP p (strataP p).1 1000 (runOf p l)).1,[]) else(0,(stepsP p (strataP p).1 1000 (runOf p l)).2.known)
theorem begin_right {p:List RuleD} {l:List FactB} (h:forE p l=0):wrongRunP p (runOf p l)=0:=by
 obtain⟨_,hg,_⟩:=forE_zero h;exact wrongRun_right h (right_begin hg)
end Go.Proofs.YtafmbokfkbccaaaGreatDoor
namespace Go.Proofs.YtafmbokfkbccaaaGreatDoor
inductive PrfD where
 |mk (fact:FactB) (rule:Int) (kids:List PrfD):PrfD
def PrfD.fact:PrfD→FactB
 | .mk f _ _=>f
def PrfD.rule:PrfD→Int
 | .mk _ r _=>r
def PrfD.kids:PrfD→List PrfD
 | .mk _ _ k=>k
def Deep:Nat→PrfD→Prop
 |0,_=>False
 |n+1,x=>∀k∈x.kids,Deep n k
theorem Deep.mono:∀{n m:Nat} {x:PrfD},Deep n x→n≤m→Deep m x
 |0,_,_,h,_=>h.elim
 |n+1,0,_,_,h=>by omega
 |n+1,m+1,x,h,hm=>fun k hk=>(h k hk).mono (by omega)
def measGo (en:Nat×Nat→Bool):Nat→List PrfD→Nat×Nat→Nat×Nat
 |0,_,s=>s
 |n+1,L,s=>if L=[]∨en s=true then s else measGo en n (L.flatMap PrfD.kids) (s.1+L.length,s.2+1)
def muchS (s:Nat×Nat):Bool:=decide (400<s.1)||decide (60<s.2)
def kidsGo:List AtomD→List FactB→List BindD→Int×List BindD
 |[],[],b=>(0,b)
 |[],_::_,_=>(5,[])
 |a::as',ks,b=>if a.no then kidsGo as' ks b else match ks with
  |[]=>(5,[])
  |k::ks=>match meetB a k b with
   |none=>(8,[])
   |some b'=>kidsGo as' ks b'
def barX (all:List FactB) (body:List AtomD) (b:List BindD):Int:=
 if body.any (fun a=>a.no&&(match fillB a b with|none=>true|some f=>inB all f)) then 10 else 0
def stepE (all:List FactB) (r:RuleD) (f:FactB) (ks:List FactB):Int:=match meetB r.head f [] with
 |none=>8
 |some b=>if(kidsGo r.body ks b).1≠0 then(kidsGo r.body ks b).1 else barX all r.body (kidsGo r.body ks b).2
def firstE (g:PrfD→Int):List PrfD→Int
 |[]=>0
 |k::ks=>if g k≠0 then g k else firstE g ks
def wrongX (p:List RuleD) (told all:List FactB):Nat→PrfD→Int
 |0,_=>0
 |n+1,x=>if x.rule<0 then(if x.rule= -1∧x.kids=[]∧inB told x.fact=true then 0 else 6) else match p[x.rule.toNat]? with
  |none=>1
  |some r=>if stepE all r x.fact (x.kids.map PrfD.fact)≠0 then stepE all r x.fact (x.kids.map PrfD.fact) else firstE (wrongX p told all n) x.kids
inductive Sub:PrfD→PrfD→Prop where
 |here (x:PrfD):Sub x x
 |kid {x k y:PrfD} (hk:k∈x.kids) (h:Sub k y):Sub x y
end Go.Proofs.YtafmbokfkbccaaaGreatDoor
namespace Go.Proofs.YtafmbokfkbccaaaGreatDoor
open Go.RowKit Go.Sort Go.ChangeShapes Go.WideShapes Go.ChangeAt Go.Deep
variable {H:Type} {enc:TypeId×Value→H} {W:World}
theorem ownP:ownKnob Tryz.prog.godebug=none:=by kernel_rfl
theorem laidOutP:laidOutB Tryz.prog=true:=by kernel_rfl
theorem addr_plainP {a:Addr} {v:Value} (h:W.cell? (a.add 0)=some v):∃b off,a=⟨b,off,none⟩:=by
 obtain⟨b,off,spot⟩:=a;have hspot:spot=none:=by simpa[Addr.add] using World.cell?_spot h
 subst hspot;exact⟨b,off,rfl⟩
def Sized (t:TypeId) (d:DataW H):Prop:=(d.weights Tryz.prog t).all (· ≤reachBytes)=true
def Opens {α:Type} (enc:TypeId×Value→H) (W:World) (ty:TypeId) (K:Kind α) (ok:α→Prop):Prop:=
 ∀n cs x,DataW.trod enc Tryz.prog W 0 (fun _=>true) true n ty cs=some x→Sized ty x.1→∃a,K.is Anyw W cs a∧ok a
def okT (t:TermD):Prop:=t.2.length≤maxLen
def okA (a:AtomD):Prop:=a.name.length≤maxLen∧∀t∈a.terms,okT t
def okR (r:RuleD):Prop:=okA r.head∧∀a∈r.body,okA a
end Go.Proofs.YtafmbokfkbccaaaGreatDoor
namespace Go.Proofs.YtafmbokfkbccaaaGreatDoor
open Go.RowKit Go.Sort Go.ChangeShapes Go.WideShapes Go.ChangeAt Go.Deep
variable {H:Type} {enc:TypeId×Value→H} {W:World}
def factK:Kind FactD where
 size:=2
 is:=fun B w c f=>∃s,c=[.string f.1,s]∧bsK.sl B w s f.2
 len:=fun⟨s,h,_⟩=>by subst h;rfl
 one:=fun⟨s,h,hs⟩ u hu=>by
  subst h;obtain⟨a,cap,rfl⟩:=Kind.slice hs;simp at hu;rcases hu with rfl|rfl <;> rfl
 kept:=fun⟨v,h,hs⟩ h1 h2=>⟨v,h,Kind.sl_kept hs h1 h2⟩
 mono:=fun⟨v,h,hs⟩ h1=>⟨v,h,Kind.sl_mono hs h1⟩
theorem sl_strs {B:Nat→Prop} {w:World} {v:Value} {l:List ByteArray} (h:bsK.sl B w v l):Strs w v l:=by
 obtain⟨⟨h0,_⟩,a,cap,rfl,h1⟩:=h;refine⟨h0,a,cap,rfl,fun hne=> ?_⟩;obtain⟨b,off,rfl,_,hb,hc⟩:=h1 hne;refine⟨b,off,rfl,hb,fun i hi=> ?_⟩;obtain⟨c,rfl,c2⟩:=hc i _ (List.getElem?_eq_getElem hi);have:=c2 0 _ rfl;rw[List.getD_eq_getElem?_getD,List.getElem?_eq_getElem hi];simpa[bsK] using this
def okS (s:ByteArray):Prop:=s.size≤maxLen
def okFt (f:FactD):Prop:=okS f.1∧∀s∈f.2,okS s
end Go.Proofs.YtafmbokfkbccaaaGreatDoor
