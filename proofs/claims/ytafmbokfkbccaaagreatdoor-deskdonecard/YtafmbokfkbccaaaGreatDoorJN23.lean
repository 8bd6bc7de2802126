import Derived.Test.YtafmbokfkbccaaaGreatDoorJN22
import Derived.Test.YtafmbokfkbccaaaGreatDoorJN5
import Derived.Test.YtafmbokfkbccaaaGreatDoorJN3
import Derived.ProofKit
import Derived.SliceStrings
import Derived.Deep.Slices
import Derived.Deep.Strs
import Derived.Lib.SmallJoins
import Derived.SizedLaws
import Derived.Test.YtafmbokfkbccaaaGreatDoorJN8
namespace Go.Proofs.YtafmbokfkbccaaaGreatDoor
open Go.RowKit Go.Sort Go.Maps
def vG (p:List aA) (l:List au):fG:=⟨l,l,0,0,decide (countP (aG p).1=0)⟩
def iN (p:List aA) (l:List au):Int×fG:=if oH p l≠0 then(oH p l,dZ) else(0,vG p l)
set_option maxRecDepth 100000 in
set_option maxHeartbeats 2000000 in
theorem ET (p:List aA) (l:List au) (pv fv:Value) (w:World) (hv:dU.sl bZ w pv p) (hf:Facts w fv l):
  Calls Tryz.prog 35 #[pv,fv] w fun e w'=>∃v' er,e=.returned (.tuple #[v',.int .i64 er])∧vE (w.heap.size+1) w' v' er (iN p l)∧Below w.heap.size w w':=by
 obtain⟨pa,pc,rfl⟩:=Kind.slice hv;obtain⟨fa,fc,rfl⟩:=aB hf;obtain⟨wb,hwb⟩:∃wb,wb=w.alloc (.cells #[.slice none 0 0,.slice none 0 0,.int .i64 0,.int .i64 0,.bool false] 47):=⟨_,rfl⟩;have hLb:Later w wb:=by rw[hwb];exact(Later.refl w).alloc _
 have hzb:wb.heap.size=w.heap.size+1:=by rw[hwb];simp
 have hrs:wb.heap[w.heap.size]?=some (.cells #[.slice none 0 0,.slice none 0 0,.int .i64 0,.int .i64 0,.bool false] 47 (0,0)):=by rw[hwb];exact heap_alloc_new w _
 have HFo:=hide (wZ p l (.slice pa p.length pc) (.slice fa l.length fc) wb (Kind.aQ hv hLb) (hf.later hLb));have HF:=hide hf;have HLb:=hide hLb;have HRs:=hide hrs;have HWb:=hide hwb;have HX:Hid (iN p l=if oH p l≠0 then(oH p l,dZ) else(0,⟨l,l,0,0,decide (countP (aG p).1=0)⟩)):=(rfl:_=_);have HGo:Hid (oH p l=0→l.length≤200∧∀s∈(aG p).1,s<1000):=fun h=>by
  obtain⟨_,hg,τ,_,hs,ht⟩:=gZ h;refine⟨hg.few,fun s hs'=> ?_⟩;rw[hs] at hs';obtain⟨q,hq,rfl⟩:=List.mem_map.1 hs';have:=ht q hq;omega
 unfold NK at HFo;generalize iN p l=SF at*;generalize oH p l=fo at*;generalize(aG p).1=ss at*;clear hv hf hLb hrs hwb
 go_enter Tryz.func35,Tryz.ntmps35
 go_wp2_with fail
 rw[←HWb.out];refine HFo.out.mono ?_;rintro e w1 ⟨v1,rfl,⟨⟨a1,n1,c1,rfl⟩,hs1⟩,hB1⟩;have HB1:Hid (Below w.heap.size w w1):=aj HLb.out.below hB1 HLb.out.size;have hr1:w1.heap[w.heap.size]?=some (.cells #[.slice none 0 0,.slice none 0 0,.int .i64 0,.int .i64 0,.bool false] 47 (0,0)):=by rw[hB1.block _ (by omega)];exact HRs.out
 have hz1:w.heap.size+1≤w1.heap.size:=by have:=hB1.size;omega
 have HS1:=hide hs1;have HR1:=hide hr1;clear hB1 hs1 HFo HWb HRs
 by_cases h0:fo=0
 ·subst h0;obtain⟨hl2,hsm⟩:=HGo.out rfl;have HV1:=hide (Kind.dz (HS1.out rfl));have hn1:n1=ss.length:=by obtain⟨_,_,e⟩:=Kind.slice HV1.out;simp only[Value.slice.injEq] at e;exact e.2.1
  subst hn1;have HX1:Hid (SF=(0,⟨l,l,0,0,decide (countP ss=0)⟩)):=by show _=_;rw[HX.out];simp
  have HO1:=hide (ND (.slice fa l.length fc) l w1 (HF.out.below HB1.out));have HSm:=hide hsm;clear HX HGo HS1 hr1 hsm
  go_wp2_with fail
  refine HO1.out.mono ?_;rintro e w2 ⟨v2,rfl,hO2,hL2⟩;obtain⟨a2,c2,rfl⟩:=hO2.slice;have HB2:Hid (Below w.heap.size w w2):=aj HB1.out hL2.below HB1.out.size;have HO2:=hide (ND (.slice fa l.length fc) l w2 (HF.out.below HB2.out));have HR2:Hid (w2.heap[w.heap.size]?=some (.cells #[.slice none 0 0,.slice none 0 0,.int .i64 0,.int .i64 0,.bool false] 47 (0,0))):=by show _=_;rw[hL2.block (by omega)];exact HR1.out
  have HV2:=hide (Kind.aQ HV1.out hL2);have HK2:=hide (hO2.base (base':=w.heap.size+1) (by omega));have hz2:w.heap.size+1≤w2.heap.size:=by have:=hL2.size;omega
  clear hO2 hL2 HO1 HB1 HR1 HV1 hz1
  go_wp2_with fail
  refine HO2.out.mono ?_;rintro e w3 ⟨v3,rfl,hO3,hL3⟩;obtain⟨a3,c3,rfl⟩:=hO3.slice;have HB3:Hid (Below w.heap.size w w3):=aj HB2.out hL3.below HB2.out.size;have HR3:Hid (w3.heap[w.heap.size]?=some (.cells #[.slice none 0 0,.slice none 0 0,.int .i64 0,.int .i64 0,.bool false] 47 (0,0))):=by show _=_;rw[hL3.block (by omega)];exact HR2.out
  have HK3:=hide (HK2.out.later hL3);have HN3:=hide (hO3.base (base':=w.heap.size+1) (by omega));have HCn:=hide (Dw ss (.slice a1 ss.length c1) w3 (Kind.aQ HV2.out hL3) HSm.out);have hz3:w.heap.size+1≤w3.heap.size:=by have:=hL3.size;omega
  have hcs:countP ss≤1000:=countP_le HSm.out;clear hO3 hL3 HO2 HB2 HR2 HV2 HK2 hz2
  go_wp2_with fail
  refine HCn.out.mono ?_;rintro e w4 ⟨rfl,hL4⟩;have HB4:Hid (Below w.heap.size w w4):=aj HB3.out hL4.below HB3.out.size;have HR4:Hid (w4.heap[w.heap.size]?=some (.cells #[.slice none 0 0,.slice none 0 0,.int .i64 0,.int .i64 0,.bool false] 47 (0,0))):=by show _=_;rw[hL4.block (by omega)];exact HR3.out
  have HK4:=hide (HK3.out.later hL4);have HN4:=hide (HN3.out.later hL4);clear hL4 HCn HB3 HR3 HK3 HN3;obtain⟨q0,q1,q2,q3,q4,⟨f0,f1,f2,f3,f4⟩,_⟩:=dR HR4.out;have HEq:Hid ((((countP ss:Nat):Int)==0)=decide (countP ss=0)):=by
   show _=_
   by_cases h:countP ss=0
   ·simp[h]
   ·simp[h]
  generalize countP ss=cc at*;go_wp2;obtain⟨r0,r1,r2,r3,r4⟩:=yR HR4.out (.slice a2 l.length c2) (.slice a3 l.length c3) (.int .i64 0) (.int .i64 0) (.bool ((cc:Int)==0));exact bodyPost_ret (v:=.tuple #[.agg #[.slice a2 l.length c2,.slice a3 l.length c3,.int .i64 0,.int .i64 0,.bool ((cc:Int)==0)],.int .i64 0]) (by simp[results,Tryz.results35,go_sem,r0,r1,r2,r3,r4]) rfl
   ⟨_,0,rfl,by rw[HX1.out];exact⟨rfl,_,_,by rw[HEq.out],HK4.out.gD (by omega),HN4.out.gD (by omega)⟩,Below.gD HB4.out (Nat.le_refl _)⟩
 ·have HX1:Hid (SF=(fo,dZ)):=by show _=_;rw[HX.out,if_pos h0]
  have hne:(fo != 0)=true:=by simpa using h0
  obtain⟨q0,q1,q2,q3,q4,⟨f0,f1,f2,f3,f4⟩,_⟩:=dR hr1;clear HX HGo HS1 h0 hr1;go_wp2;obtain⟨r0,r1,r2,r3,r4⟩:=yR HR1.out (.slice none 0 0) (.slice none 0 0) (.int .i64 0) (.int .i64 0) (.bool false);exact bodyPost_ret (v:=.tuple #[.agg #[.slice none 0 0,.slice none 0 0,.int .i64 0,.int .i64 0,.bool false],.int .i64 fo]) (by simp[results,Tryz.results35,go_sem,r0,r1,r2,r3,r4]) rfl ⟨_,fo,rfl,by rw[HX1.out];exact⟨rfl,oh.none _ _⟩,Below.gD HB1.out (Nat.le_refl _)⟩
def Xj (p:List aA) (l:List au):Int×List au:=if oH p l≠0 then(oH p l,[]) else
 if(eU p (aG p).1 1000 (vG p l)).1≠0 then((eU p (aG p).1 1000 (vG p l)).1,[]) else(0,(eU p (aG p).1 1000 (vG p l)).2.known)
theorem uG {p:List aA} {l:List au} (h:oH p l=0):aX p (vG p l)=0:=by
 obtain⟨_,hg,_⟩:=gZ h;exact nO h (sU hg)
end Go.Proofs.YtafmbokfkbccaaaGreatDoor
namespace Go.Proofs.YtafmbokfkbccaaaGreatDoor
inductive iT where
 |mk (fact:au) (rule:Int) (kids:List iT):iT
def iT.fact:iT→au
 | .mk f _ _=>f
def iT.rule:iT→Int
 | .mk _ r _=>r
def iT.kids:iT→List iT
 | .mk _ _ k=>k
def Deep:Nat→iT→Prop
 |0,_=>False
 |n+1,x=>∀k∈x.kids,Deep n k
theorem Deep.mono:∀{n m:Nat} {x:iT},Deep n x→n≤m→Deep m x
 |0,_,_,h,_=>h.elim
 |n+1,0,_,_,h=>by omega
 |n+1,m+1,x,h,hm=>fun k hk=>(h k hk).mono (by omega)
def Le (en:Nat×Nat→Bool):Nat→List iT→Nat×Nat→Nat×Nat
 |0,_,s=>s
 |n+1,L,s=>if L=[]∨en s=true then s else Le en n (L.flatMap iT.kids) (s.1+L.length,s.2+1)
def AO (s:Nat×Nat):Bool:=decide (400<s.1)||decide (60<s.2)
def lK:List aF→List au→List aD→Int×List aD
 |[],[],b=>(0,b)
 |[],_::_,_=>(5,[])
 |a::as',ks,b=>if a.no then lK as' ks b else match ks with
  |[]=>(5,[])
  |k::ks=>match fK a k b with
   |none=>(8,[])
   |some b'=>lK as' ks b'
def RO (all:List au) (body:List aF) (b:List aD):Int:=
 if body.any (fun a=>a.no&&(match aV a b with|none=>true|some f=>inB all f)) then 10 else 0
def EU (all:List au) (r:aA) (f:au) (ks:List au):Int:=match fK r.head f [] with
 |none=>8
 |some b=>if(lK r.body ks b).1≠0 then(lK r.body ks b).1 else RO all r.body (lK r.body ks b).2
def Lf (g:iT→Int):List iT→Int
 |[]=>0
 |k::ks=>if g k≠0 then g k else Lf g ks
def Lg (p:List aA) (told all:List au):Nat→iT→Int
 |0,_=>0
 |n+1,x=>if x.rule<0 then(if x.rule= -1∧x.kids=[]∧inB told x.fact=true then 0 else 6) else match p[x.rule.toNat]? with
  |none=>1
  |some r=>if EU all r x.fact (x.kids.map iT.fact)≠0 then EU all r x.fact (x.kids.map iT.fact) else Lf (Lg p told all n) x.kids
theorem uH:∀{body:List aF} {ks:List au} {b b':List aD} {K:List Bs},bO b=K.map bs→lK body ks b=(0,b')→
  (∃r,b'=b++r)∧bO b'=(fM K body).map bs∧∀a∈body,a.no=false→∃k∈ks,aV a b'=some k
 |[],[],b,b',K,hk,h=>by
  simp only[lK,Prod.mk.injEq,true_and] at h;subst h;exact⟨⟨[],by simp⟩,hk,fun a ha=>by cases ha⟩
 |[],_::_,b,b',K,hk,h=>by simp[lK] at h
 |a::as',ks,b,b',K,hk,h=>by
  unfold lK at h;rw[jh];cases hno:a.no with
  |true=>
   rw[hno] at h;simp only[if_true] at h⊢;obtain⟨h1,h2,h3⟩:=uH hk h;refine⟨h1,h2,fun c hc hcn=> ?_⟩;rcases List.mem_cons.1 hc with rfl|hc
   ·rw[hno] at hcn;cases hcn
   ·exact h3 c hc hcn
  |false=>
   rw[hno] at h;simp only[Bool.false_eq_true,if_false] at h⊢;cases ks with
   |nil=>simp at h
   |cons k ks=>
    dsimp only at h;cases hm:fK a k b with
    |none=>rw[hm] at h;simp at h
    |some b1=>
     rw[hm] at h;obtain⟨⟨r,hr⟩,hk1,hf1⟩:=oO hk hm;obtain⟨⟨s,hs⟩,h2,h3⟩:=uH hk1 h;refine⟨⟨r++s,by rw[hs,hr,List.append_assoc]⟩,h2,fun c hc hcn=> ?_⟩;rcases List.mem_cons.1 hc with rfl|hc
     ·exact⟨k,by simp,by rw[hs];exact qP hf1⟩
     ·obtain⟨q,hq,e⟩:=h3 c hc hcn;exact⟨q,by simp[hq],e⟩
theorem MO {all:List au} {body:List aF} {b:List aD} (h:∀a∈body,a.no=true→∃f,aV a b=some f∧inB all f=false):RO all body b=0:=by
 unfold RO;rw[if_neg];intro h0;obtain⟨a,ha,hc⟩:=List.any_eq_true.1 h0;rw[Bool.and_eq_true] at hc;obtain⟨f,hf,hi⟩:=h a ha hc.1;rw[hf] at hc;rw[show(match some f with|none=>true|some f=>inB all f)=inB all f from rfl,hi] at hc;cases hc.2
inductive Sub:iT→iT→Prop where
 |here (x:iT):Sub x x
 |kid {x k y:iT} (hk:k∈x.kids) (h:Sub k y):Sub x y
end Go.Proofs.YtafmbokfkbccaaaGreatDoor
namespace Go.Proofs.YtafmbokfkbccaaaGreatDoor
open Go.RowKit Go.Sort Go.ChangeShapes Go.WideShapes Go.ChangeAt Go.Deep
variable {H:Type} {enc:TypeId×Value→H} {W:World}
theorem VQ:ownKnob Tryz.prog.godebug=none:=by kernel_rfl
theorem Dz:laidOutB Tryz.prog=true:=by kernel_rfl
theorem uI:Tryz.prog.cellsOf 9=1:=by kernel_rfl
theorem Cy {a:Addr} {v:Value} (h:W.cell? (a.add 0)=some v):∃b off,a=⟨b,off,none⟩:=by
 obtain⟨b,off,spot⟩:=a;have hspot:spot=none:=by simpa[Addr.add] using World.cell?_spot h
 subst hspot;exact⟨b,off,rfl⟩
def vH (t:TypeId) (d:DataW H):Prop:=(d.weights Tryz.prog t).all (· ≤reachBytes)=true
def Opens {α:Type} (enc:TypeId×Value→H) (W:World) (ty:TypeId) (K:Kind α) (ok:α→Prop):Prop:=
 ∀n cs x,DataW.trod enc Tryz.prog W 0 (fun _=>true) true n ty cs=some x→vH ty x.1→∃a,K.is bZ W cs a∧ok a
theorem Hg {e:TypeId} {l:List (DataW H)} (h:(DataW.weightsAll Tryz.prog e l).all (· ≤reachBytes)=true):∀d∈l,vH e d:=by
 induction l with
 |nil=>intro d hd;cases hd
 |cons x r ih=>
  simp only[DataW.weightsAll,List.all_append,Bool.and_eq_true] at h;intro d hd;rcases List.mem_cons.1 hd with rfl|hd
  ·exact h.1
  ·exact ih h.2 d hd
set_option maxRecDepth 100000 in
theorem Hl {α:Type} {K:Kind α} {T ty:TypeId} {ok:α→Prop} (hT:Tryz.prog.underlying T=some (.slice ty)) (hc:Tryz.prog.cellsOf ty=K.size) (hby:16≤Tryz.prog.bytesOf ty) (hsz:0<K.size) (E:Opens enc W ty K ok)
  {n:Nat} {v:Value} {x:DataW H×List MemPlace} (hf:DataW.trod enc Tryz.prog W 0 (fun _=>true) true n T [v]=some x) (hw:vH T x.1):∃l,K.sl bZ W v l∧(∀a∈l,ok a)∧l.length*Tryz.prog.bytesOf ty≤reachBytes:=by
 rcases open_slice hT hf with⟨hcs,_⟩|⟨a,len,cap,m,k,D,Pl,hcs,_,hl,hm,hmm,hx,hel⟩
 ·simp only[List.cons.injEq,and_true] at hcs;exact⟨[],by rw[hcs];exact K.dw _ _ _ _,fun a ha=>(by cases ha),by simp⟩
 ·simp only[List.cons.injEq,and_true] at hcs;simp only[if_true] at hmm;subst hmm;rw[hc] at hel;have hd:x.1=.slice ((List.range len).map D) ((List.range (m-len)).map fun j=>D (len+j)):=by rw[hx]
  have hw2:(decide ((len+(m-len))*Tryz.prog.bytesOf ty≤reachBytes)&&((DataW.weightsAll Tryz.prog ty ((List.range len).map D)).all (· ≤reachBytes)&&(DataW.weightsAll Tryz.prog ty ((List.range (m-len)).map fun j=>D (len+j))).all (· ≤reachBytes)))=true:=by
   have:=hw;unfold vH at this;rw[hd,DataW.weights,hT] at this;simpa using this
  simp only[Bool.and_eq_true] at hw2;have hlen:len≤8796093022208:=by
   have h1:(len+(m-len))*Tryz.prog.bytesOf ty≤reachBytes:=of_decide_eq_true hw2.1;have h2:len*16≤(len+(m-len))*Tryz.prog.bytesOf ty:=Nat.mul_le_mul (by omega) hby;unfold reachBytes at h1;omega
  have each:∀i:Fin len,∃z:α,∃cs',W.cells? 0 (a.add (i.1*K.size)) K.size=some cs'∧K.is bZ W cs' z∧ok z:=fun i=>by
   obtain⟨cs',k1,k2⟩:=hel i.1 (by omega);obtain⟨z,hz,hk⟩:=E _ _ _ k2 (Hg hw2.2.1 _ (List.mem_map.2 ⟨i.1,List.mem_range.2 i.2,rfl⟩));exact⟨z,cs',k1,hz,hk⟩
  refine⟨List.ofFn fun i=>Classical.choose (each i),⟨⟨by simpa using hlen,?_⟩,some a,m,by rw[hcs];simp,fun hne=> ?_⟩,fun z hz=> ?_,?_⟩
  ·rw[hcs];show len≤m;omega
  rotate_left
  rotate_left
  ·have h1:(len+(m-len))*Tryz.prog.bytesOf ty≤reachBytes:=of_decide_eq_true hw2.1;rw[List.length_ofFn];exact Nat.le_trans (Nat.mul_le_mul_right _ (by omega)) h1
  rotate_left
  ·rw[List.mem_ofFn] at hz;obtain⟨i,rfl⟩:=hz;obtain⟨_,_,_,hok⟩:=Classical.choose_spec (each i);exact hok
  have h0:0<len:=by
   refine Nat.pos_of_ne_zero fun e=>hne ?_;subst e;rfl
  have first:∀i:Fin len,∀cs',W.cells? 0 (a.add (i.1*K.size)) K.size=some cs'→∀j u,cs'[j]?=some u→W.cell? ((a.add (i.1*K.size)).add j)=some u:=fun i cs' k1 j u hu=>by
   obtain⟨h1,_,hcell⟩:=World.cells?_some k1;have hj:j<cs'.length:=(List.getElem?_eq_some_iff.1 hu).1;have:=hcell j (by omega);rw[this];exact hu
  have hplain:∃b off,a=⟨b,off,none⟩:=by
   obtain⟨cs',k0,k1,_⟩:=Classical.choose_spec (each ⟨0,h0⟩);have hl:=K.len k1;have hu:cs'[0]?=some (cs'[0]'(by omega)):=List.getElem?_eq_getElem (by omega);have:=first ⟨0,h0⟩ cs' k0 0 _ hu
   exact Cy (W:=W) (v:=cs'[0]'(by omega)) (by simpa[Addr.add] using this)
  obtain⟨b,off,rfl⟩:=hplain;have hlt:b<W.heap.size:=by
   obtain⟨cs',k0,k1,_⟩:=Classical.choose_spec (each ⟨0,h0⟩);have hl:=K.len k1;have hu:cs'[0]?=some (cs'[0]'(by omega)):=List.getElem?_eq_getElem (by omega);have:=first ⟨0,h0⟩ cs' k0 0 _ hu
   rw[Addr.add_lit,Addr.add_lit] at this;exact World.block_lt_of_cell? W _ this
  refine⟨b,off,rfl,trivial,hlt,fun i z hi=> ?_⟩;have hi':i<len:=by simpa using(List.getElem?_eq_some_iff.1 hi).1
  rw[List.getElem?_ofFn,dif_pos hi'] at hi
  injection hi with hi
  subst hi;obtain⟨cs',k0,k1,_⟩:=Classical.choose_spec (each ⟨i,hi'⟩);refine⟨cs',k1,fun j u hu=> ?_⟩;have:=first ⟨i,hi'⟩ cs' k0 j u hu
  rw[Addr.add_lit,Addr.add_lit] at this;exact this
def okT (t:dH):Prop:=t.2.length≤maxLen
def okA (a:aF):Prop:=a.name.length≤maxLen∧∀t∈a.terms,okT t
def okR (r:aA):Prop:=okA r.head∧∀a∈r.body,okA a
theorem J6 {ts:List TypeId} {ds:List (DataW H)} (h:(DataW.weightsEach Tryz.prog ts ds).all (· ≤reachBytes)=true) {j:Nat} {t:TypeId} {d:DataW H} (ht:ts[j]?=some t) (hd:ds[j]?=some d):vH t d:=
 List.all_eq_true.2 fun k hk=>List.all_eq_true.1 h _ (DataW.weights_mem_each ht hd k hk)
end Go.Proofs.YtafmbokfkbccaaaGreatDoor
namespace Go.Proofs.YtafmbokfkbccaaaGreatDoor
open Go.RowKit Go.Sort Go.ChangeShapes Go.WideShapes Go.ChangeAt Go.Deep
variable {H:Type} {enc:TypeId×Value→H} {W:World}
def VR:Kind aI where
 size:=2
 is:=fun B w c f=>∃s,c=[.string f.1,s]∧bsK.sl B w s f.2
 len:=fun⟨s,h,_⟩=>by subst h;rfl
 one:=fun⟨s,h,hs⟩ u hu=>by
  subst h;obtain⟨a,cap,rfl⟩:=Kind.slice hs;simp at hu;rcases hu with rfl|rfl <;> rfl
 kept:=fun⟨v,h,hs⟩ h1 h2=>⟨v,h,Kind.aM hs h1 h2⟩
 mono:=fun⟨v,h,hs⟩ h1=>⟨v,h,Kind.aH hs h1⟩
theorem MP {B:Nat→Prop} {w:World} {v:Value} {l:List ByteArray} (h:bsK.sl B w v l):Strs w v l:=by
 obtain⟨⟨h0,_⟩,a,cap,rfl,h1⟩:=h;refine⟨h0,a,cap,rfl,fun hne=> ?_⟩;obtain⟨b,off,rfl,_,hb,hc⟩:=h1 hne;refine⟨b,off,rfl,hb,fun i hi=> ?_⟩;obtain⟨c,rfl,c2⟩:=hc i _ (List.getElem?_eq_getElem hi);have:=c2 0 _ rfl;rw[List.getD_eq_getElem?_getD,List.getElem?_eq_getElem hi];simpa[bsK] using this
def okS (s:ByteArray):Prop:=s.size≤maxLen
def Xk (f:aI):Prop:=okS f.1∧∀s∈f.2,okS s
theorem xk:Tryz.prog.cellsOf 27=2:=by kernel_rfl
theorem EW:Tryz.prog.cellsOf 25=1:=by kernel_rfl
theorem Ho:Tryz.prog.bytesOf 9=16:=by kernel_rfl
set_option maxRecDepth 100000 in
theorem J7:Opens enc W 9 bsK okS:=by
 intro n cs x h _;obtain⟨s,hs,_,hsz⟩:=DataW.trod_string Tryz.underlying9 h;exact⟨s,hs,hsz⟩
end Go.Proofs.YtafmbokfkbccaaaGreatDoor
