import Derived.Test.YtaallngooaaonaaGreatDoorJT9
import Derived.Test.YtaallngooaaonaaGreatDoorJT10
import Derived.Maps.OwnSet
import Derived.Maps.OwnOps
import Derived.StringKeys
import Derived.Test.YtaallngooaaonaaGreatDoorJT1
import Derived.Test.YtaallngooaaonaaGreatDoorJT4
import Derived.Test.YtaallngooaaonaaGreatDoorJT3
open Go.RowKit Go.Sort Go.Maps
set_option maxHeartbeats 4000000
set_option maxRecDepth 100000
namespace Go.Proofs.YtaallngooaaonaaGreatDoor
theorem Ia:∃i,Tryz.prog.info? 106=some i∧i.zero=some (.slice none 0 0)∧i.size=1∧i.bytes=24:=⟨Tryz.t106,by kernel_rfl,by kernel_rfl,by kernel_rfl,by kernel_rfl⟩
theorem KL {ty:TypeId} {lo:Nat} {w:World} {v:Value} {l:List aD} (h:bq.own ty lo w v l):v.oneCell'=true:=by obtain⟨a,c,rfl⟩:=aB.aY h;rfl
theorem Lists.more {lo:Nat} {w:World} {v u:Value} {ps:List (Value×List aD)} {l:List aD} (h:Lists 106 108 lo w v ps) (hu:bq.own 108 lo w u l) (ha:∀p∈ps,apart p.1 u) (hv:apart u v) (hl:ps.length+1≤1099511627776) (hlo:lo≤w.heap.size):
  ∃v' w',(Builtin.append_ #[103,103] 103 #[v,.slice (some ⟨w.heap.size,0,none⟩) 1 1]).run Tryz.prog (w.alloc (.cells #[u] 106))=.ok v' w'∧Lists 106 108 lo w' v' (ps++[(u,l)])∧(w.alloc (.cells #[u] 106)).grownBy w' v.ownBlock∧w.drawn≤w'.drawn:=by
 obtain⟨i,i1,i2,i3,i4⟩:=Ia;obtain⟨ho,hp,hpw⟩:=h;have hnews:∀j x,([u]:List Value)[j]?=some x→(w.alloc (.cells #[u] 106)).cell? ((⟨w.heap.size,0,none⟩:Addr).add j)=some x:=by intro j x hx;rw[Addr.add_lit,Nat.zero_add,cell_of_row _ w.heap.size j #[u] 106 (0,0) (heap_alloc_new w _)];simpa using hx
 obtain⟨v',w',hrun,r1,r2,r3,r4⟩:=dZ (P:=Tryz.prog) (w.alloc (.cells #[u] 106)) lo 103 103 106 i _ 1 24 Tryz.underlying103 i1 i2 i3 i4 rfl (by omega) v ps.length (ps.map (·.1)) (ho.alloc _) ⟨w.heap.size,0,none⟩ 1 1 [u] rfl hnews
  (by intro x hx;simp at hx;subst hx;exact KL hu) (by simp only[maxLen];omega) (by omega) (by simp;omega)
 have keep:∀k,k<w.heap.size→v.ownBlock≠some k→w'.heap[k]?=w.heap[k]?:=fun k hk hne=>
  (r2.block k (by simp;omega) (fun e=>hne e.symm)).trans (Below.heap_alloc w _ k hk)
 have ap:∀{x:Value} {q:List aD},bq.own 108 lo w x q→apart x v→bq.own 108 lo w' x q∧apart x v':=fun {x q} hx hxa=>by
  refine⟨kI hx fun k e=>keep k (aB.dL hx e).2 (hxa k e),fun k e e'=>?_⟩;rcases r4 k e' with h1|h1
  ·exact hxa k e h1
  have:=(aB.dL hx e).2;simp at h1;omega
 refine⟨v',w',hrun,⟨by simpa using r1,fun p hp'=>?_,?_⟩,r2,r3⟩
 ·rcases List.mem_append.1 hp' with h1|h1;·exact ap (hp p h1).1 (hp p h1).2
  simp at h1;subst h1;exact ap hu hv
 rw[List.pairwise_append];exact⟨hpw,List.pairwise_singleton _ _,fun p h1 q h2=>by simp at h2;subst h2;exact ha p h1⟩
theorem Lists.Ib {tyS ty:TypeId} {lo b:Nat} {w w':World} {v u:Value} {ps:List (Value×List aD)} {l:List aD} (h:Lists tyS ty lo w v ps) (hu:bq.own ty b w' u l) (hb:w.heap.size≤b):(∀p∈ps,apart p.1 u)∧apart u v:=by
 refine⟨fun p hp k e e'=>?_,fun k e e'=>?_⟩;·have h1:=(aB.dL (h.2.1 p hp).1 e).2;have h2:=(aB.dL hu e').1;omega
 have h1:=(h.1.lt k e').2;have h2:=(aB.dL hu e).1;omega
theorem Lists.lo_le {tyS ty:TypeId} {lo:Nat} {w:World} {v:Value} {ps:List (Value×List aD)} (h:Lists tyS ty lo w v ps):∀k,v.ownBlock=some k→lo≤k:=fun k e=>(h.1.lt k e).1
theorem Lists.base {tyS ty:TypeId} {lo lo':Nat} {w:World} {v:Value} {ps:List (Value×List aD)} (h:Lists tyS ty lo w v ps) (hl:lo'≤lo):Lists tyS ty lo' w v ps:=by
 obtain⟨ho,hp,hpw⟩:=h;refine⟨⟨ho.1,?_⟩,fun p h1=>⟨oP (hp p h1).1 hl,(hp p h1).2⟩,hpw⟩;rcases ho.2 with e|⟨g,cap,cur,e,hg,r⟩;·exact Or.inl e
 exact Or.inr ⟨g,cap,cur,e,Nat.le_trans hl hg,r⟩
theorem vU {fs:List aN} {j:Nat} {f:aN} (h:fs[j]?=some f) (q:aN→Option (List aD)):(fs.take (j+1)).filterMap q=match q f with|none=>(fs.take j).filterMap q|some m=>(fs.take j).filterMap q++[m]:=by
 rw[List.take_add_one,h,List.filterMap_append];simp only[Option.toList];cases e:q f with
 |none=>simp[e]
 |some m=>simp[e]
theorem yN {a:aI} {fs:List aA} {ls:List (List aD)} {i:Nat} {l:List aD} (h:ls[i]?=some l):aQ a fs (ls.take (i+1))=aQ a fs (ls.take i)++fs.filterMap fun f=>cZ a f l:=by unfold aQ;rw[List.take_add_one,h,List.flatMap_append];simp
theorem Ca {a:aI} {fs:List aA} {ls:List (List aD)} (i:Nat):(aQ a fs (ls.take i)).length≤(aQ a fs ls).length:=by
 have h:aQ a fs ls=aQ a fs (ls.take i)++aQ a fs (ls.drop i):=by unfold aQ;rw[←List.flatMap_append,List.take_append_drop]
 rw[h,List.length_append];omega
theorem KM {w:World} {a:Option Addr} {n cap:Nat} {l:List aN} {j:Nat} {f:aN} (h:Facts w (.slice a n cap) l) (hj:l[j]?=some f):
  ∃b off s,a=some ⟨b,off,none⟩∧b<w.heap.size∧w.cell? ⟨b,off+j*2,none⟩=some (.string f.1)∧w.cell? ⟨b,off+j*2+1,none⟩=some s∧Strs w s f.2:=by
 obtain⟨_,a',cap',e,h1⟩:=h;simp only[Value.slice.injEq] at e;obtain⟨rfl,_,_⟩:=e;obtain⟨hl,e⟩:=List.getElem?_eq_some_iff.1 hj;obtain⟨b,off,rfl,hb,hc⟩:=h1 (by intro e;rw[e] at hl;simp at hl);obtain⟨c1,s,c2,c3⟩:=hc j hl;have ed:l.getD j aC=f:=by rw[List.getD_eq_getElem?_getD,hj];rfl
 rw[ed] at c1 c3;exact⟨b,off,s,rfl,hb,c1,c2,c3⟩
theorem Cb {w:World} {R:Nat} {u0 u1 u2:Value} {t:TypeId} (h:w.heap[R]?=some (.cells #[u0,u1,u2] t (0,0))):w.cell? ⟨R,0,none⟩=some u0∧w.cell? ⟨R,1,none⟩=some u1∧w.cell? ⟨R,2,none⟩=some u2∧R<w.heap.size:=
 ⟨by rw[cell_of_row _ _ _ _ _ _ h];rfl,by rw[cell_of_row _ _ _ _ _ _ h];rfl,by rw[cell_of_row _ _ _ _ _ _ h];rfl,(Array.getElem?_eq_some_iff.1 h).1⟩
def Ai (w0 w:World) (v:Value) (ls:List (List aD)):Prop:=
 if 20000<ls.length then v=.slice none 0 0 else∃ps,ps.map (·.2)=ls∧Lists 106 108 w0.heap.size w v ps
theorem KN (a:aI) (tv fv v:Value) (fs:List aN) (ls:List (List aD)) (w:World) (ht:eD.sl bf w tv a.terms) (hf:Facts w fv fs) (hv:gZ.sl bf w v ls) (hfs:fs.length≤200) (hls:ls.length≤20000) (hts:a.terms.length≤4) (hll:∀l∈ls,l.length≤1000):
  Calls Tryz.prog 165 #[.agg #[.bool a.no,.string (bs a.name),tv],fv,v] w fun e w'=>∃v',e=.returned (.tuple #[v',.int .i64 (if 20000<(aQ a fs ls).length then 4 else 0)])∧Ai w w' v' (aQ a fs ls)∧ak w w':=by
 obtain⟨sa,cap,rfl⟩:=aB.slice ht;obtain⟨fa,Hz,rfl⟩:=aF hf;obtain⟨va,ZP,rfl⟩:=aB.slice hv;have HT:=au ht;have HF:=au hf;have HV:=au hv;have HLL:=au hll;clear ht hf hv hll;have HM:Hid (∀(l:List aD) (u:Value) (f:aN) (fv:Value) (w1:World),ak w w1→bq.sl bf w1 u l→dD w1 fv f→l.length≤1000→Calls Tryz.prog 61 #[.agg #[.bool a.no,.string (bs a.name),.slice sa a.terms.length cap],fv,u] w1 fun e w2=>∃v,e=.returned (.tuple #[v,.bool (cZ a f l).isSome])∧RX w1 w2 v (cZ a f l)∧ak w1 w2):=fun l u f fv w1 hL hu hf hl=>
  KJ a _ fv u f l w1 (aB.aK HT.out hL) hf hu (by omega)
 obtain⟨q,hq⟩:∃q:List aD→aN→Option (List aD),q=fun l f=>cZ a f l:=⟨_,rfl⟩;have HSt:Hid (∀i l,ls[i]?=some l→aQ a fs (ls.take (i+1))=aQ a fs (ls.take i)++fs.filterMap (q l)):=fun i l h=>by rw[hq];exact yN h
 have HLe:Hid (∀i,(aQ a fs (ls.take i)).length≤(aQ a fs ls).length):=Ca;have hqe:∀l f,cZ a f l=q l f:=fun l f=>by rw[hq]
 simp only[hqe] at HM;have H0:Hid (aQ a fs (ls.take 0)=[]):=by show _=_;simp[aQ]
 have Nu:Hid (aQ a fs (ls.take ls.length)=aQ a fs ls):=by show _=_;rw[List.take_length]
 clear hqe hq;generalize hA:(fun i=>aQ a fs (ls.take i))=A at*;have hA':∀i,aQ a fs (ls.take i)=A i:=fun i=>by rw[←hA]
 simp only[hA'] at HSt HLe H0 Nu;clear hA hA';generalize aQ a fs ls=R at*;obtain⟨no,name,ts⟩:=a;dsimp only at*;generalize bs name=nm at*;obtain⟨er,her⟩:∃er:Int,er=if 20000<R.length then 4 else 0:=⟨_,rfl⟩;rw[←her];have HER:=au her;clear her
 go_enter Tryz.func165,Tryz.ntmps165
 go_wp2
 go_loopg [8,17] ls.length (fun g o i wr=>∃j:Nat,j+g=ls.length∧i=.int .i64 j∧∃ps,Hid (ps.map (·.2)=A j)∧Hid (Lists 106 108 (w.heap.size+1) wr o ps)∧Hid ((A j).length≤20000)∧Hid (ak w wr)∧w.heap.size+1≤wr.heap.size∧Hid (wr.heap[w.heap.size]?=some (.cells #[.bool no,.string nm,.slice sa ts.length cap] 79 (0,0))))
 case atStart=>
  refine⟨0,by omega,rfl,[],(by rw[H0.out];rfl:_=_),Lists.nil _ _ _ _,(by rw[H0.out];simp:_≤_),((by repeat (first|exact ak.refl _|assumption|refine ak.drewN ?_ _|refine ak.drew ?_|refine ak.alloc ?_ _|refine ak.grow ?_ _)):ak _ _),by simp,?_⟩;show _=_;exact heap_alloc_new _ _
 obtain⟨i,hi,rfl,ps,HP,HO,HN,HL,hsz,HB⟩:=hrel;obtain⟨ao,no',co,rfl⟩:∃a n c,u8=.slice a n c:=by obtain⟨a,c,e⟩:=Lists.slice HO.out;exact⟨a,_,c,e⟩
 by_cases hlt:i<ls.length
 ·obtain⟨l,hl⟩:∃l,ls[i]?=some l:=⟨_,List.getElem?_eq_getElem hlt⟩;obtain⟨b1,o1,_,rfl,hb1,⟨lv,rfl,hlv⟩,hc⟩:=aB.bO HV.out hl;have d0:wr.cell? ⟨b1,o1+i,none⟩=some lv:=by rw[HL.out.cell hb1];simpa[slK] using hc 0 _ rfl
  have hbr:b1<wr.heap.size:=Nat.lt_of_lt_of_le hb1 HL.out.size;have hl1:l.length≤1000:=HLL.out l (List.mem_of_getElem? hl);have HS:=au (HSt.out i l hl);obtain⟨al,cl,rfl⟩:=aB.slice hlv;have HLV:=au hlv;clear hc hl hlv;go_wp2
  go_loopg [8,23] fs.length (fun g o k wr=>∃j:Nat,j+g=fs.length∧k=.int .i64 j∧∃ps,Hid (ps.map (·.2)=A i++(fs.take j).filterMap (q l))∧Hid (Lists 106 108 (w.heap.size+1) wr o ps)∧Hid (ak w wr)∧w.heap.size+1≤wr.heap.size∧Hid (wr.heap[w.heap.size]?=some (.cells #[.bool no,.string nm,.slice sa ts.length cap] 79 (0,0))))
  case atStart=>exact⟨0,by omega,rfl,ps,(by rw[HP.out];simp:_=_),HO,HL,hsz,HB⟩
  clear d0 hbr hsz HO HP HB HL;obtain⟨j,hj,rfl,ps,HP,HO,HL,hsz,HB⟩:=hrel;obtain⟨ao,no',co,rfl⟩:∃a n c,u8=.slice a n c:=by obtain⟨a,c,e⟩:=Lists.slice HO.out;exact⟨a,_,c,e⟩
  by_cases Qc:j<fs.length
  ·obtain⟨f,hf⟩:∃f,fs[j]?=some f:=⟨_,List.getElem?_eq_getElem Qc⟩;obtain⟨b2,o2,sf,rfl,hb2,f0,f1,f2⟩:=KM HF.out hf;have d0:wr.cell? ⟨b2,o2+j*2,none⟩=some (.string f.1):=by rw[HL.out.cell hb2];exact f0
   have d1:wr.cell? ⟨b2,o2+j*2+1,none⟩=some sf:=by rw[HL.out.cell hb2];exact f1
   have hbr:b2<wr.heap.size:=Nat.lt_of_lt_of_le hb2 HL.out.size;have HFM:=au (vU hf (q l));obtain⟨wt,hwt⟩:∃wt,wt=wr.alloc (.cells #[.string f.1,sf] 27):=⟨_,rfl⟩;have hLt:ak w wt:=by rw[hwt];exact HL.out.alloc _
   have hLr:ak wr wt:=by rw[hwt];exact(ak.refl _).alloc _
   have hst:wt.heap.size=wr.heap.size+1:=by rw[hwt];simp
   have HC:=au (HM.out l (.slice al l.length cl) f (.agg #[.string f.1,sf]) wt hLt (aB.aK HLV.out hLt) ⟨sf,rfl,f2.later hLt⟩ hl1);rw[hwt] at HC;obtain⟨q0,q1,q2,q3⟩:=Cb HB.out;obtain⟨af,cf,rfl⟩:=bA f2;have HWT:=au hwt;clear f0 f1 f2 hf hwt;obtain⟨fn,aH⟩:=f;dsimp only at*;cases hqf:q l (fn,aH) with
   |none=>
    rw[hqf] at HC HFM;have HP1:Hid (ps.map (·.2)=A i++(fs.take (j+1)).filterMap (q l)):=by show _=_;have:=HFM.out;dsimp only at this;rw[this];exact HP.out
    simp only[Option.isSome_none] at HC;clear hqf HFM
    go_wp2_with fail
    refine HC.out.mono ?_;rintro e w2 ⟨mv,rfl,hmv,hL2⟩;cases hmv;rw[←HWT.out] at hL2;have MB:ak wr w2:=hLr.trans hL2;have HO2:=au (HO.out.later MB);have HB2:=au ((MB.block (by omega)).trans HB.out);have HL2:=au (hLt.trans hL2);have hs2:w.heap.size+1≤w2.heap.size:=by have:=MB.size;omega
    clear hL2 MB HC;go_wp2
    go_roundg (fs.length- (j+1))
    case measure=>omega
    case rel=>exact⟨j+1,by omega,by go_num,ps,HP1,HO2,HL2,hs2,HB2⟩
   |some m=>
    rw[hqf] at HC HFM;have HP1:Hid ((ps++[((.slice none 0 0:Value),m)]).map (·.2)=A i++(fs.take (j+1)).filterMap (q l)):=by show _=_;have:=HFM.out;dsimp only at this;rw[this,List.map_append,HP.out,List.append_assoc];rfl
    simp only[Option.isSome_some] at HC;have hpl:ps.length≤20000+j:=by have h1:=congrArg List.length HP.out;have h2:=HN.out;have h3:=List.length_filterMap_le (q l) (fs.take j);rw[List.length_map,List.length_append] at h1;rw[List.length_take] at h3;omega
    clear hqf HFM HP
    go_wp2_with fail
    refine HC.out.mono ?_;rintro e w2 ⟨mv,rfl,hmv,hL2⟩;have hmo:bq.own 108 wt.heap.size w2 mv m:=by rw[HWT.out];exact hmv
    clear hmv;rw[←HWT.out] at hL2;have MB:ak wr w2:=hLr.trans hL2;have hs2:wr.heap.size<w2.heap.size:=by have:=hL2.size;omega
    have hO2:=HO.out.later MB;have hap:=HO.out.Ib hmo (by omega);obtain⟨v',w4,hrun,hO4,hg4,hd4⟩:=hO2.more (oP hmo (lo':=w.heap.size+1) (by omega)) hap.1 hap.2 (by omega) (by omega);obtain⟨am,nm',cm,rfl⟩:∃a n c,mv=.slice a n c:=by obtain⟨a,c,e⟩:=aB.aY hmo;exact⟨a,_,c,e⟩
    have HL4:=au ((hLt.trans hL2).more hg4 hd4 fun k e=>by have:=hO2.lo_le k e;omega);have hs4:w.heap.size+1≤w4.heap.size:=by have:=hg4.size;simp at this;omega
    have HB4:Hid (w4.heap[w.heap.size]?=some (.cells #[.bool no,.string nm,.slice sa ts.length cap] 79 (0,0))):=by show _=_;rw[hg4.block w.heap.size (by simp;omega) (fun e=>by have:=hO2.lo_le _ e.symm;omega),Below.heap_alloc _ _ _ (by omega)];exact(MB.block (by omega)).trans HB.out
    obtain⟨a4,n4,c4,rfl⟩:∃a n c,v'=.slice a n c:=by obtain⟨a,c,e⟩:=Lists.slice hO4;exact⟨a,_,c,e⟩
    have HR4:=au hrun;have HO4:=au hO4;have HP2:Hid ((ps++[((.slice am nm' cm:Value),m)]).map (·.2)=A i++(fs.take (j+1)).filterMap (q l)):=by show _=_;rw[←HP1.out];simp
    clear hL2 MB HC hrun hO4 hg4 hd4 hO2 hap hmo HP1
    go_wp2_with (at_builtin;refine wpList_append_run rfl (.tmp 35) (.tmp 37) 103 rfl _ _ _ _ rfl rfl HR4.out ?_)
    go_roundg (fs.length- (j+1))
    case measure=>omega
    case rel=>exact⟨j+1,by omega,by go_num,_,HP2,HO4,HL4,hs4,HB4⟩
  have e:j=fs.length:=by omega
  have HP1:Hid (ps.map (·.2)=A (i+1)):=by show _=_;rw[HP.out,HS.out,e,List.take_length]
  have hpl:no'=(A (i+1)).length:=by have h1:=congrArg List.length HP1.out;obtain⟨a,c,e⟩:=Lists.slice HO.out;simp only[Value.slice.injEq] at e;rw[List.length_map] at h1;omega
  by_cases hbig:20000<(A (i+1)).length
  ·have hz:(20000:Int)<(no':Int):=by omega
   have HR1:Hid (20000<R.length):=by show _<_;have:=HLe.out (i+1);omega
   clear hpl hbig HP HP1;go_wp2
   go_ret2
   have e4:er=4:=by rw[HER.out];exact if_pos HR1.out
   refine⟨.slice none 0 0,by rw[e4];rfl,?_,HL.out⟩;unfold Ai;rw[if_pos HR1.out]
  have hz:¬((20000:Int)<(no':Int)):=by omega
  have HN1:Hid ((A (i+1)).length≤20000):=(by omega:_≤_);clear hpl hbig HP;go_wp2
  go_roundg (ls.length- (i+1))
  case measure=>omega
  case rel=>exact⟨i+1,by omega,by go_num,ps,HP1,HO,HN1,HL,hsz,HB⟩
 have e:i=ls.length:=by omega
 have HR1:Hid (¬20000<R.length):=by show¬_;have:=HN.out;rw[e,Nu.out] at this;omega
 have HP1:Hid (ps.map (·.2)=R):=by show _=_;rw[HP.out,e,Nu.out]
 clear HP HN e;go_wp2
 go_ret2
 have e4:er=0:=by rw[HER.out];exact if_neg HR1.out
 refine⟨.slice ao no' co,by rw[e4];rfl,?_,HL.out⟩;unfold Ai;rw[if_neg HR1.out];exact⟨ps,HP1.out,HO.out.base (by omega)⟩
theorem dN {H:Type} {P:Program} {k:TypeId} {R:Value→Option (DataW H×List MemPlace)} {w w':World} {b n:Nat} {D:DataW H} (h:w.ownsMap P k R b n D) (e:w'.heap[b]?=w.heap[b]?):w'.ownsMap P k R b n D:=by obtain⟨es,clock,hb,F,hs,hD⟩:=h;exact⟨es,clock,e.trans hb,F,hs,hD⟩
theorem lH {P:Program} {K:TypeId} (hk:P.underlying K=some .string) {s:Bs} (hs:s.length≤maxLen):keyOf P K (.string (bs s))=some (.string s):=by have:=WideMaps.keyOf_string_mk (P:=P) (k:=K) hk (s:=bs s) (by rw[jJ];exact hs);rw[this];rfl
theorem Ic (s:Bs):WideAt.IsKeyLit (.string s):=trivial
theorem nA {s t:Bs} (h:t≠s):Lit.string t≠Lit.string s:=fun e=>h (by injection e)
def nC (P:Program) (K:TypeId) (w:World) (b n:Nat) (f:Bs→Bool):Prop:=∃D:DataW Unit,w.ownsMap P K unitElem b n D∧∀s,Maps.has D (.string s)=f s
theorem nC.made (P:Program) (K:TypeId) (w:World):nC P K (w.alloc (.map #[] 0)) w.heap.size 0 (fun _=>false):=⟨.map [],World.ownsMap_made _ _ _ _,fun _=>rfl⟩
section
variable {P:Program} {K:TypeId} {w w':World} {b n:Nat} {f:Bs→Bool}
theorem nC.lt (h:nC P K w b n f):b<w.heap.size:=by obtain⟨D,h,_⟩:=h;exact h.lt
theorem nC.block (h:nC P K w b n f) (e:w'.heap[b]?=w.heap[b]?):nC P K w' b n f:=by obtain⟨D,h,hf⟩:=h;exact⟨D,dN h e,hf⟩
theorem nC.later (h:nC P K w b n f) (k:ak w w'):nC P K w' b n f:=h.block (k.block h.lt)
theorem nC.below (h:nC P K w b n f) (k:Below w.heap.size w w'):nC P K w' b n f:=h.block (k.block b h.lt)
theorem nC.grown {row:Option Nat} (h:nC P K w b n f) (k:w.grownBy w' row) (hne:some b≠row):nC P K w' b n f:=h.block (k.block b h.lt hne)
theorem nC.mono (h:nC P K w b n f) {n':Nat} (hn:n≤n'):nC P K w b n' f:=by obtain⟨D,h,hf⟩:=h;exact⟨D,h.mono hn,hf⟩
theorem nC.congr {g:Bs→Bool} (h:nC P K w b n f) (e:∀s,f s=g s):nC P K w b n g:=by obtain⟨D,h,hf⟩:=h;exact⟨D,h,fun s=>(hf s).trans (e s)⟩
end
def j3 (P:Program) (K E:TypeId) (w:World) (b n:Nat) (m:dU):Prop:=∃D:DataW Unit,w.ownsMap P K (plainElem P E) b n D∧∀s,Maps.has D (.string s)=(m s).isSome∧D.atKey (.string s) (.lit (.int .i64 0))=.lit (.int .i64 (numOf m s))
theorem j3.made (P:Program) (K E:TypeId) (w:World):j3 P K E (w.alloc (.map #[] 0)) w.heap.size 0 (fun _=>none):=⟨.map [],World.ownsMap_made _ _ _ _,fun _=>⟨rfl,rfl⟩⟩
section
variable {P:Program} {K E:TypeId} {w w':World} {b n:Nat} {m:dU}
theorem j3.lt (h:j3 P K E w b n m):b<w.heap.size:=by obtain⟨D,h,_⟩:=h;exact h.lt
theorem j3.block (h:j3 P K E w b n m) (e:w'.heap[b]?=w.heap[b]?):j3 P K E w' b n m:=by obtain⟨D,h,hf⟩:=h;exact⟨D,dN h e,hf⟩
theorem j3.later (h:j3 P K E w b n m) (k:ak w w'):j3 P K E w' b n m:=h.block (k.block h.lt)
theorem j3.below (h:j3 P K E w b n m) (k:Below w.heap.size w w'):j3 P K E w' b n m:=h.block (k.block b h.lt)
theorem j3.grown {row:Option Nat} (h:j3 P K E w b n m) (k:w.grownBy w' row) (hne:some b≠row):j3 P K E w' b n m:=h.block (k.block b h.lt hne)
theorem j3.mono (h:j3 P K E w b n m) {n':Nat} (hn:n≤n'):j3 P K E w b n' m:=by obtain⟨D,h,hf⟩:=h;exact⟨D,h.mono hn,hf⟩
end
section
variable {P:Program} {K E T:TypeId} {w:World} {b n:Nat}
theorem nC.has {f:Bs→Bool} (h:nC P K w b n f) (hk:P.underlying K=some .string) (ht:P.underlying T=some (.map K E)) (hz:(zeroValue E).run P w=.ok (.agg #[]) w) {s:Bs} (hs:s.length≤maxLen):
  (Instr.lookup T (.map (some b)) (.string (bs s)) true).run P w=.ok (.tuple #[.agg #[],.bool (f s)]) w:=by
 obtain⟨D,hown,hf⟩:=h;obtain⟨v,ps,hrun,hv⟩:=hown.look_ok (string_keyed hk) ht hz (zd:=.agg []) (zp:=[]) unitElem_mk (lH hk hs);obtain⟨rfl,_⟩:=unitElem_inv hv;rw[hrun,hf]
theorem nC.add {f:Bs→Bool} (h:nC P K w b n f) (hk:P.underlying K=some .string) (ht:P.underlying T=some (.map K E)) (hn:n<maxLen) {s:Bs} (hs:s.length≤maxLen):
  ∃w',(Instr.mapUpdate T (.map (some b)) (.string (bs s)) (.agg #[])).run P w=.ok () w'∧nC P K w' b (n+1) (fun t=>f t||decide (t=s))∧w.grownBy w' (some b):=by
 obtain⟨D,hown,hf⟩:=h;obtain⟨w',hrun,r1,r2⟩:=hown.update (string_keyed hk) ht hn (lH hk hs) (d:=.agg []) (ps:=[]) unitElem_mk;refine⟨w',hrun,⟨_,r1,fun t=>?_⟩,r2⟩
 by_cases e:t=s
 ·subst e;rw[has_put_same hown.isMap (Ic _)];simp
 rw[has_put_other (nA e),hf];simp[e]
theorem j3.look {m:dU} (h:j3 P K E w b n m) (hk:P.underlying K=some .string) (he:P.underlying E=some (.int .i64)) (ht:P.underlying T=some (.map K E)) (hz:(zeroValue E).run P w=.ok (.int .i64 0) w) {s:Bs} (hs:s.length≤maxLen):
  (Instr.lookup T (.map (some b)) (.string (bs s)) false).run P w=.ok (.int .i64 (numOf m s)) w:=by
 obtain⟨D,hown,hf⟩:=h;obtain⟨c,hrun,hat,_⟩:=hown.lookup_int (string_keyed hk) ht he hz (lH hk hs);rw[(hf s).2] at hat
 injection hat with hat
 injection hat with _ hat
 rw[hrun,hat]
theorem j3.Ie {m:dU} (h:j3 P K E w b n m) (hk:P.underlying K=some .string) (he:P.underlying E=some (.int .i64)) (ht:P.underlying T=some (.map K E)) (hz:(zeroValue E).run P w=.ok (.int .i64 0) w) {s:Bs} (hs:s.length≤maxLen):
  (Instr.lookup T (.map (some b)) (.string (bs s)) true).run P w=.ok (.tuple #[.int .i64 (numOf m s),.bool (m s).isSome]) w:=by
 obtain⟨D,hown,hf⟩:=h;obtain⟨v,ps,hrun,hv⟩:=hown.look_ok (string_keyed hk) ht hz (plainElem_int he (by decide)) (lH hk hs);rw[(hf s).2] at hv;obtain⟨c,rfl,hc,_⟩:=plainElem_int_inv he hv;simp only[Prod.mk.injEq] at hc;have hc:=hc.1
 injection hc with hc
 injection hc with _ hc
 rw[hrun,(hf s).1,←hc]
theorem j3.store {m:dU} (h:j3 P K E w b n m) (hk:P.underlying K=some .string) (he:P.underlying E=some (.int .i64)) (ht:P.underlying T=some (.map K E)) (hn:n<maxLen) {s:Bs} (hs:s.length≤maxLen) {x:Nat} (hx:(Lit.int .i64 (x:Int)).wf=true):
  ∃w',(Instr.mapUpdate T (.map (some b)) (.string (bs s)) (.int .i64 (x:Int))).run P w=.ok () w'∧j3 P K E w' b (n+1) (m.put s x)∧w.grownBy w' (some b):=by
 obtain⟨D,hown,hf⟩:=h;obtain⟨w',hrun,r1,r2⟩:=hown.update (string_keyed hk) ht hn (lH hk hs) (plainElem_int he hx);refine⟨w',hrun,⟨_,r1,fun t=>?_⟩,r2⟩
 by_cases e:t=s
 ·subst e;refine⟨by rw[has_put_same hown.isMap (Ic _)];simp[dU.put],?_⟩;rw[atKey_put_same hown.isMap (Ic _),gL,if_pos rfl]
 refine⟨by rw[has_put_other (nA e),(hf t).1];simp[dU.put,e],?_⟩;rw[atKey_put_other (nA e),(hf t).2,gL,if_neg e]
end
section
variable {P:Program} (w:World) {ops:Array Oper} {rest:List Oper} {o:Oper} {a:Act} {Q:Exit→Act→World→Prop}
theorem bP (hg:o.guard=none) (m x:Operand) (t:TypeId) (c:Bool) (hop:o.op=Op.lookup t m x c) (vm vx v:Value) (hm:a.eval m=vm) (hx:a.eval x=vx) (hrun:(Instr.lookup t vm vx c).run P w=.ok v w)
  (hK:wpList P ops Q rest (a.put o.dst v) w):wpList P ops Q (o::rest) a w:=by
 refine wpList_plain hg fun K' hK'=>?_;unfold Oper.wp;simp[execOp,hop,hm,hx,hrun,Result.andThen];exact hK' _ _ hK
theorem aM (hg:o.guard=none) (m x v:Operand) (t:TypeId) (hop:o.op=Op.mapUpdate t m x v) (vm vx vv:Value) (w':World) (hm:a.eval m=vm) (hx:a.eval x=vx) (hv:a.eval v=vv) (hrun:(Instr.mapUpdate t vm vx vv).run P w=.ok () w')
  (hK:wpList P ops Q rest (a.put o.dst undef) w'):wpList P ops Q (o::rest) a w:=by
 refine wpList_plain hg fun K' hK'=>?_;unfold Oper.wp;simp[execOp,hop,hm,hx,hv,hrun,Result.andThen];exact hK' _ _ hK
end
abbrev fB (w:World) (b n:Nat) (f:Bs→Bool):Prop:=nC Tryz.prog 9 w b n f
theorem KO (w:World):(zeroValue 206).run Tryz.prog w=.ok (.agg #[]) w:=by kernel_rfl
theorem lg (w:World):(zeroValue 3).run Tryz.prog w=.ok (.int .i64 0) w:=by kernel_rfl
theorem Tn.gD {p:Nat} {a b:World} (h:a.grownBy b (some p)):Tn p a b:=⟨h.os,h.tape,h.output,h.size,fun k hk ho=>h.block k hk (by simpa using ho)⟩
theorem aB.Dw {α:Type} {K:aB α} {B:Nat→Prop} {w:World} {a:Option Addr} {n cap i:Nat} {l:List α} {x:α} (h:K.sl B w (.slice a n cap) l) (hi:l[i]?=some x):
  ∃b off c,a=some ⟨b,off,none⟩∧b<w.heap.size∧B b∧K.is B w c x∧∀j u,c[j]?=some u→w.cell? ⟨b,off+i*K.size+j,none⟩=some u:=by
 obtain⟨_,a',cap',e,h1⟩:=h;simp only[Value.slice.injEq] at e;obtain⟨rfl,_,_⟩:=e;obtain⟨b,off,rfl,hB,hb,hc⟩:=h1 (by intro e;rw[e] at hi;simp at hi);obtain⟨c,c1,c2⟩:=hc i x hi;exact⟨b,off,c,rfl,hb,hB,c1,c2⟩
theorem Vy (b n:Nat) (f:Bs→Bool) (s:Bs) (w:World) (h:fB w b n f) (hs:s.length≤maxLen):
  Calls Tryz.prog 135 #[.map (some b),.string (bs s)] w fun e w'=>e=.returned (.bool (f s))∧ak w w':=by
 have hr:=nC.has (T:=168) (E:=206) h Tryz.underlying9 Tryz.underlying168 (KO w) hs;generalize f s=r at*;generalize bs s=k at*
 go_enter Tryz.func135,Tryz.ntmps135
 go_wp2;go_ret;exact⟨rfl,(ak.refl _).alloc _⟩
theorem yO {l:List Bs} {j:Nat} {x:Bs} (h:l[j]?=some x) (s:Bs):(l.take (j+1)).contains s=((l.take j).contains s||decide (s=x)):=by rw[List.take_add_one,h];rw[Bool.eq_iff_iff];simp
theorem Vz (b n:Nat) (f:Bs→Bool) (v:Value) (l:List Bs) (w:World) (h:fB w b n f) (hv:jS.sl (fun k=>k≠b) w v l) (hn:n+l.length<maxLen) (hs:∀s∈l,s.length≤maxLen):
  Calls Tryz.prog 134 #[.map (some b),v] w fun e w'=>e=.returned (.tuple #[])∧fB w' b (n+l.length) (fun s=>f s||l.contains s)∧Tn b w w':=by
 obtain⟨a,cap,rfl⟩:=aB.slice hv;have HV:=au hv;have hl:=hv.1.1;clear hv;have H0:Hid (fB w b (n+0) (fun s=>f s||(l.take 0).contains s)):=h.congr fun s=>by simp
 clear h
 go_enter Tryz.func134,Tryz.ntmps134
 go_wp2
 go_loopg [8] l.length (fun k i wr=>∃j:Nat,j+k=l.length∧i=.int .i64 j∧Hid (fB wr b (n+j) (fun s=>f s||(l.take j).contains s))∧Hid (Tn b w wr))
 case atStart=>exact⟨0,by omega,rfl,H0,Tn.refl _ _⟩
 obtain⟨j,hj,rfl,HM,HT⟩:=hrel
 by_cases hlt:j<l.length
 ·obtain⟨x,hx⟩:∃x,l[j]?=some x:=⟨_,List.getElem?_eq_getElem hlt⟩;obtain⟨b1,o1,_,rfl,hb1,hne,rfl,hc⟩:=aB.Dw HV.out hx;have d0:wr.cell? ⟨b1,o1+j,none⟩=some (.string (bs x)):=by rw[HT.out.cell hb1 hne];simpa[jS] using hc 0 _ rfl
  obtain⟨w1,hr,hm,hg⟩:=nC.add (T:=168) (E:=206) HM.out Tryz.underlying9 Tryz.underlying168 (by omega) (hs x (List.mem_of_getElem? hx));have HM1:Hid (fB w1 b (n+(j+1)) (fun s=>f s||(l.take (j+1)).contains s)):=hm.congr fun s=>by rw[yO hx];simp[Bool.or_assoc]
  have HT1:Hid (Tn b w w1):=HT.out.trans (Tn.gD hg);clear hc hm hg hx HM HT;generalize bs x=k at*
  go_wp2_with (first
   |(at_mapUpdate;refine aM _ rfl _ _ _ _ rfl _ _ _ _ rfl rfl rfl hr ?_)
   |go_in)
  go_roundg (l.length- (j+1))
  case measure=>omega
  case rel=>exact⟨j+1,by omega,by go_num,HM1,HT1⟩
 have e:j=l.length:=by omega
 subst e;go_wp2;go_end0;exact⟨rfl,by simpa using HM.out,HT.out⟩
theorem Ig (b n:Nat) (f:Bs→Bool) (v:Value) (l:List Bs) (w:World) (h:fB w b n f) (hv:jS.sl bf w v l) (hs:∀s∈l,s.length≤maxLen):
  Calls Tryz.prog 111 #[.map (some b),v] w fun e w'=>e=.returned (.bool (l.all f))∧ak w w':=by
 obtain⟨a,cap,rfl⟩:=aB.slice hv;have HV:=au hv;have hl:=hv.1.1;clear hv;have H0:=au h;clear h
 go_enter Tryz.func111,Tryz.ntmps111
 go_wp2
 go_loopg [9] l.length (fun k i wr=>∃j:Nat,j+k=l.length∧i=.int .i64 j∧Hid (ak w wr)∧Hid (l.all f=(l.drop j).all f))
 case atStart=>exact⟨0,by omega,rfl,ak.refl _,(rfl:_=_)⟩
 obtain⟨j,hj,rfl,HL,HF⟩:=hrel
 by_cases hlt:j<l.length
 ·obtain⟨x,hx⟩:∃x,l[j]?=some x:=⟨_,List.getElem?_eq_getElem hlt⟩;obtain⟨b1,o1,_,rfl,hb1,rfl,hc⟩:=aB.bO HV.out hx;have d0:wr.cell? ⟨b1,o1+j,none⟩=some (.string (bs x)):=by rw[HL.out.cell hb1];simpa[jS] using hc 0 _ rfl
  have hC:=Vy b n f x wr (H0.out.later HL.out) (hs x (List.mem_of_getElem? hx));have HC:=au hC;have hd:(l.drop j).all f=(f x&&(l.drop (j+1)).all f):=by obtain⟨h1,e1⟩:=List.getElem?_eq_some_iff.1 hx;rw[List.drop_eq_getElem_cons h1,e1];rfl
  clear hc hx hC;generalize bs x=k at*;cases hf:f x
  ·have F:Hid (l.all f=false):=by show _=_;rw[HF.out,hd,hf];rfl
   rw[hf] at HC;clear hd HF
   go_wp2_with (go_at_call 135;refine HC.out.mono ?_;rintro e w' ⟨rfl,hL⟩;replace hL:=au hL)
   go_ret;exact⟨bU F.out.symm,HL.out.trans (bK hL)⟩
  have F:Hid (l.all f=(l.drop (j+1)).all f):=by show _=_;rw[HF.out,hd,hf];rfl
  rw[hf] at HC;clear hd HF
  go_wp2_with (go_at_call 135;refine HC.out.mono ?_;rintro e w' ⟨rfl,hL⟩;replace hL:=au hL)
  go_roundg (l.length- (j+1))
  case measure=>omega
  case rel=>exact⟨j+1,by omega,by go_num,HL.out.trans (bK hL),F⟩
 have F:Hid (l.all f=true):=by show _=_;rw[HF.out,List.drop_eq_nil_of_le (by omega)];rfl
 go_wp2;go_ret;exact⟨bU F.out.symm,HL.out⟩
theorem wZ {l:Bs} (h:l=[]∨12<l.length):isVar l=false:=by
 rcases h with h|h;·subst h;rfl
 unfold isVar;rw[decide_eq_false (by omega)];rfl
theorem Dx {s:ByteArray} (h0:0<s.size) (h1:s.size≤12):isVar (raw s)=(lX (s[0].toNat)&&decide ((bs ((raw s).takeWhile gJ)).size=s.size)):=by
 have hl:=bZ s;unfold isVar;rw[jJ,←hl,kR,decide_eq_true (by omega)];have hl':0<(raw s).length:=by omega
 have e:raw s=(s[0]'h0)::(raw s).drop 1:=by have:=List.drop_eq_getElem_cons hl';rw[List.drop_zero,Dc h0 hl'] at this;exact this
 generalize(raw s).all gJ=q;rw[e]
 rfl
theorem Ih (s:ByteArray) (w:World):Calls Tryz.prog 150 #[.string s] w fun e w'=>e=.returned (.bool (isVar (raw s)))∧w'=w:=by
 by_cases h0:0<s.size
 ·have h0':((s.size:Int)==0)=false:=by rw[beq_eq_false_iff_ne];omega
  by_cases h1:s.size≤12
  ·have F:=au (Dx h0 h1);generalize hx:bs ((raw s).takeWhile gJ)=x at F;have HX:=au hx;clear hx;generalize hc:(s[0]'h0).toNat=c at F
   by_cases ha:c<65
   ·have G:Hid (lX c=false):=by show _=_;unfold lX;exact decide_eq_false (by omega)
    have ha':(c:Int)<65:=by omega
    go_enter Tryz.func150,Tryz.ntmps150
    go_wp2;go_ret;exact⟨bU (by rw[F.out,G.out];rfl),rfl⟩
   by_cases hz:90<c
   ·have G:Hid (lX c=false):=by show _=_;unfold lX;exact decide_eq_false (by omega)
    have ha':¬(c:Int)<65:=by omega
    have hz':90<(c:Int):=by omega
    go_enter Tryz.func150,Tryz.ntmps150
    go_wp2;go_ret;exact⟨bU (by rw[F.out,G.out];rfl),rfl⟩
   have G:Hid (lX c=true):=by show _=_;unfold lX;exact decide_eq_true (by omega)
   have ha':¬(c:Int)<65:=by omega
   have hz':¬90<(c:Int):=by omega
   go_enter Tryz.func150,Tryz.ntmps150
   go_wp2_with (go_at_call 64;refine(PI _ _ (by omega)).mono ?_;rintro e w' ⟨rfl,rfl⟩;rw[HX.out])
   go_ret;refine⟨bU ?_,rfl⟩;rw[F.out,G.out,Bool.eq_iff_iff];simp;omega
  have F:Hid (isVar (raw s)=false):=wZ (Or.inr (by rw[bZ];omega))
  go_enter Tryz.func150,Tryz.ntmps150
  go_wp2;go_ret;exact⟨bU F.out.symm,rfl⟩
 have F:Hid (isVar (raw s)=false):=wZ (Or.inl (List.eq_nil_of_length_eq_zero (by rw[bZ];omega)));have h0':((s.size:Int)==0)=true:=by rw[beq_iff_eq];omega
 go_enter Tryz.func150,Tryz.ntmps150
 go_wp2;go_ret;exact⟨bU F.out.symm,rfl⟩
end Go.Proofs.YtaallngooaaonaaGreatDoor
