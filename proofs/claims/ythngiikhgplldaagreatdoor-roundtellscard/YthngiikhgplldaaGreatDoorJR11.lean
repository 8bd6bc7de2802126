import Derived.Test.YthngiikhgplldaaGreatDoorJR9
import Derived.Test.YthngiikhgplldaaGreatDoorJR10
import Derived.Test.YthngiikhgplldaaGreatDoorJR5
import Derived.Test.YthngiikhgplldaaGreatDoorJR2
open Go.RowKit Go.Sort Go.Maps
set_option maxHeartbeats 4000000
set_option maxRecDepth 100000
namespace Go.Proofs.YthngiikhgplldaaGreatDoor
theorem Bp:∃i,Tryz.prog.info? 142=some i∧i.zero=some (.slice none 0 0)∧i.size=1∧i.bytes=24:=⟨Tryz.t142,by kernel_rfl,by kernel_rfl,by kernel_rfl,by kernel_rfl⟩
theorem Du {ty:TypeId} {lo:Nat} {w:World} {v:Value} {l:List aI} (h:bO.own ty lo w v l):v.oneCell'=true:=by obtain⟨a,c,rfl⟩:=aB.bI h;rfl
theorem Lists.more {lo:Nat} {w:World} {v u:Value} {ps:List (Value×List aI)} {l:List aI} (h:Lists 142 170 lo w v ps) (hu:bO.own 170 lo w u l) (ha:∀p∈ps,apart p.1 u) (hv:apart u v) (hl:ps.length+1≤1099511627776) (hlo:lo≤w.heap.size):
  ∃v' w',(Builtin.append_ #[120,120] 120 #[v,.slice (some ⟨w.heap.size,0,none⟩) 1 1]).run Tryz.prog (w.alloc (.cells #[u] 142))=.ok v' w'∧Lists 142 170 lo w' v' (ps++[(u,l)])∧(w.alloc (.cells #[u] 142)).grownBy w' v.ownBlock∧w.drawn≤w'.drawn:=by
 obtain⟨i,i1,i2,i3,i4⟩:=Bp;obtain⟨ho,hp,hpw⟩:=h;have hnews:∀j x,([u]:List Value)[j]?=some x→(w.alloc (.cells #[u] 142)).cell? ((⟨w.heap.size,0,none⟩:Addr).add j)=some x:=by intro j x hx;rw[Addr.add_lit,Nat.zero_add,cell_of_row _ w.heap.size j #[u] 142 (0,0) (heap_alloc_new w _)];simpa using hx
 obtain⟨v',w',hrun,r1,r2,r3,r4⟩:=d9 (P:=Tryz.prog) (w.alloc (.cells #[u] 142)) lo 120 120 142 i _ 1 24 Tryz.underlying120 i1 i2 i3 i4 rfl (by omega) v ps.length (ps.map (·.1)) (ho.alloc _) ⟨w.heap.size,0,none⟩ 1 1 [u] rfl hnews
  (by intro x hx;simp at hx;subst hx;exact Du hu) (by simp only[maxLen];omega) (by omega) (by simp;omega)
 have keep:∀k,k<w.heap.size→v.ownBlock≠some k→w'.heap[k]?=w.heap[k]?:=fun k hk hne=>
  (r2.block k (by simp;omega) (fun e=>hne e.symm)).trans (Below.heap_alloc w _ k hk)
 have ap:∀{x:Value} {q:List aI},bO.own 170 lo w x q→apart x v→bO.own 170 lo w' x q∧apart x v':=fun {x q} hx hxa=>by
  refine⟨ji hx fun k e=>keep k (aB.dV hx e).2 (hxa k e),fun k e e'=>?_⟩;rcases r4 k e' with h1|h1
  ·exact hxa k e h1
  have:=(aB.dV hx e).2;simp at h1;omega
 refine⟨v',w',hrun,⟨by simpa using r1,fun p hp'=>?_,?_⟩,r2,r3⟩
 ·rcases List.mem_append.1 hp' with h1|h1;·exact ap (hp p h1).1 (hp p h1).2
  simp at h1;subst h1;exact ap hu hv
 rw[List.pairwise_append];exact⟨hpw,List.pairwise_singleton _ _,fun p h1 q h2=>by simp at h2;subst h2;exact ha p h1⟩
theorem Lists.Fu {tyS ty:TypeId} {lo b:Nat} {w w':World} {v u:Value} {ps:List (Value×List aI)} {l:List aI} (h:Lists tyS ty lo w v ps) (hu:bO.own ty b w' u l) (hb:w.heap.size≤b):(∀p∈ps,apart p.1 u)∧apart u v:=by
 refine⟨fun p hp k e e'=>?_,fun k e e'=>?_⟩;·have h1:=(aB.dV (h.2.1 p hp).1 e).2;have h2:=(aB.dV hu e').1;omega
 have h1:=(h.1.lt k e').2;have h2:=(aB.dV hu e).1;omega
theorem Lists.lo_le {tyS ty:TypeId} {lo:Nat} {w:World} {v:Value} {ps:List (Value×List aI)} (h:Lists tyS ty lo w v ps):∀k,v.ownBlock=some k→lo≤k:=fun k e=>(h.1.lt k e).1
theorem Lists.base {tyS ty:TypeId} {lo lo':Nat} {w:World} {v:Value} {ps:List (Value×List aI)} (h:Lists tyS ty lo w v ps) (hl:lo'≤lo):Lists tyS ty lo' w v ps:=by
 obtain⟨ho,hp,hpw⟩:=h;refine⟨⟨ho.1,?_⟩,fun p h1=>⟨tq (hp p h1).1 hl,(hp p h1).2⟩,hpw⟩;rcases ho.2 with e|⟨g,cap,cur,e,hg,r⟩;·exact Or.inl e
 exact Or.inr ⟨g,cap,cur,e,Nat.le_trans hl hg,r⟩
theorem qK {fs:List aG} {j:Nat} {f:aG} (h:fs[j]?=some f) (q:aG→Option (List aI)):(fs.take (j+1)).filterMap q=match q f with|none=>(fs.take j).filterMap q|some m=>(fs.take j).filterMap q++[m]:=by
 rw[List.take_add_one,h,List.filterMap_append];simp only[Option.toList];cases e:q f with
 |none=>simp[e]
 |some m=>simp[e]
theorem tL {a:aJ} {fs:List aF} {ls:List (List aI)} {i:Nat} {l:List aI} (h:ls[i]?=some l):aQ a fs (ls.take (i+1))=aQ a fs (ls.take i)++fs.filterMap fun f=>fA a f l:=by unfold aQ;rw[List.take_add_one,h,List.flatMap_append];simp
theorem xD {a:aJ} {fs:List aF} {ls:List (List aI)} (i:Nat):(aQ a fs (ls.take i)).length≤(aQ a fs ls).length:=by
 have h:aQ a fs ls=aQ a fs (ls.take i)++aQ a fs (ls.drop i):=by unfold aQ;rw[←List.flatMap_append,List.take_append_drop]
 rw[h,List.length_append];omega
theorem Dv {w:World} {a:Option Addr} {n cap:Nat} {l:List aG} {j:Nat} {f:aG} (h:Facts w (.slice a n cap) l) (hj:l[j]?=some f):
  ∃b off s,a=some ⟨b,off,none⟩∧b<w.heap.size∧w.cell? ⟨b,off+j*2,none⟩=some (.string f.1)∧w.cell? ⟨b,off+j*2+1,none⟩=some s∧Strs w s f.2:=by
 obtain⟨_,a',cap',e,h1⟩:=h;simp only[Value.slice.injEq] at e;obtain⟨rfl,_,_⟩:=e;obtain⟨hl,e⟩:=List.getElem?_eq_some_iff.1 hj;obtain⟨b,off,rfl,hb,hc⟩:=h1 (by intro e;rw[e] at hl;simp at hl);obtain⟨c1,s,c2,c3⟩:=hc j hl;have ed:l.getD j aA=f:=by rw[List.getD_eq_getElem?_getD,hj];rfl
 rw[ed] at c1 c3;exact⟨b,off,s,rfl,hb,c1,c2,c3⟩
theorem Js {w:World} {R:Nat} {u0 u1 u2:Value} {t:TypeId} (h:w.heap[R]?=some (.cells #[u0,u1,u2] t (0,0))):w.cell? ⟨R,0,none⟩=some u0∧w.cell? ⟨R,1,none⟩=some u1∧w.cell? ⟨R,2,none⟩=some u2∧R<w.heap.size:=
 ⟨by rw[cell_of_row _ _ _ _ _ _ h];rfl,by rw[cell_of_row _ _ _ _ _ _ h];rfl,by rw[cell_of_row _ _ _ _ _ _ h];rfl,(Array.getElem?_eq_some_iff.1 h).1⟩
def vK (w0 w:World) (v:Value) (ls:List (List aI)):Prop:=
 if 20000<ls.length then v=.slice none 0 0 else∃ps,ps.map (·.2)=ls∧Lists 142 170 w0.heap.size w v ps
theorem Dw (a:aJ) (tv fv v:Value) (fs:List aG) (ls:List (List aI)) (w:World) (ht:gJ.sl bT w tv a.terms) (hf:Facts w fv fs) (hv:qI.sl bT w v ls) (hfs:fs.length≤200) (hls:ls.length≤20000) (hts:a.terms.length≤4) (hll:∀l∈ls,l.length≤1000):
  Calls Tryz.prog 131 #[.agg #[.bool a.no,.string (bs a.name),tv],fv,v] w fun e w'=>∃v',e=.returned (.tuple #[v',.int .i64 (if 20000<(aQ a fs ls).length then 4 else 0)])∧vK w w' v' (aQ a fs ls)∧aj w w':=by
 obtain⟨sa,cap,rfl⟩:=aB.slice ht;obtain⟨fa,Bl,rfl⟩:=aC hf;obtain⟨va,MZ,rfl⟩:=aB.slice hv;have HT:=au ht;have HF:=au hf;have HV:=au hv;have HLL:=au hll;clear ht hf hv hll;have HM:Hid (∀(l:List aI) (u:Value) (f:aG) (fv:Value) (w1:World),aj w w1→bO.sl bT w1 u l→dh w1 fv f→l.length≤1000→Calls Tryz.prog 161 #[.agg #[.bool a.no,.string (bs a.name),.slice sa a.terms.length cap],fv,u] w1 fun e w2=>∃v,e=.returned (.tuple #[v,.bool (fA a f l).isSome])∧Jo w1 w2 v (fA a f l)∧aj w1 w2):=fun l u f fv w1 hL hu hf hl=>
  Jp a _ fv u f l w1 (aB.aS HT.out hL) hf hu (by omega)
 obtain⟨q,hq⟩:∃q:List aI→aG→Option (List aI),q=fun l f=>fA a f l:=⟨_,rfl⟩;have HSt:Hid (∀i l,ls[i]?=some l→aQ a fs (ls.take (i+1))=aQ a fs (ls.take i)++fs.filterMap (q l)):=fun i l h=>by rw[hq];exact tL h
 have HLe:Hid (∀i,(aQ a fs (ls.take i)).length≤(aQ a fs ls).length):=xD;have hqe:∀l f,fA a f l=q l f:=fun l f=>by rw[hq]
 simp only[hqe] at HM;have H0:Hid (aQ a fs (ls.take 0)=[]):=by show _=_;simp[aQ]
 have Es:Hid (aQ a fs (ls.take ls.length)=aQ a fs ls):=by show _=_;rw[List.take_length]
 clear hqe hq;generalize hA:(fun i=>aQ a fs (ls.take i))=A at*;have hA':∀i,aQ a fs (ls.take i)=A i:=fun i=>by rw[←hA]
 simp only[hA'] at HSt HLe H0 Es;clear hA hA';generalize aQ a fs ls=R at*;obtain⟨no,name,ts⟩:=a;dsimp only at*;generalize bs name=nm at*;obtain⟨er,her⟩:∃er:Int,er=if 20000<R.length then 4 else 0:=⟨_,rfl⟩;rw[←her];have HER:=au her;clear her
 go_enter Tryz.func131,Tryz.ntmps131
 go_wp2
 go_loopg [8,17] ls.length (fun g o i wr=>∃j:Nat,j+g=ls.length∧i=.int .i64 j∧∃ps,Hid (ps.map (·.2)=A j)∧Hid (Lists 142 170 (w.heap.size+1) wr o ps)∧Hid ((A j).length≤20000)∧Hid (aj w wr)∧w.heap.size+1≤wr.heap.size∧Hid (wr.heap[w.heap.size]?=some (.cells #[.bool no,.string nm,.slice sa ts.length cap] 54 (0,0))))
 case atStart=>
  refine⟨0,by omega,rfl,[],(by rw[H0.out];rfl:_=_),Lists.nil _ _ _ _,(by rw[H0.out];simp:_≤_),((by repeat (first|exact aj.refl _|assumption|refine aj.drewN ?_ _|refine aj.drew ?_|refine aj.alloc ?_ _|refine aj.grow ?_ _)):aj _ _),by simp,?_⟩;show _=_;exact heap_alloc_new _ _
 obtain⟨i,hi,rfl,ps,HP,HO,HN,HL,hsz,HB⟩:=hrel;obtain⟨ao,no',co,rfl⟩:∃a n c,u8=.slice a n c:=by obtain⟨a,c,e⟩:=Lists.slice HO.out;exact⟨a,_,c,e⟩
 by_cases hlt:i<ls.length
 ·obtain⟨l,hl⟩:∃l,ls[i]?=some l:=⟨_,List.getElem?_eq_getElem hlt⟩;obtain⟨b1,o1,_,rfl,hb1,⟨lv,rfl,hlv⟩,hc⟩:=aB.bR HV.out hl;have d0:wr.cell? ⟨b1,o1+i,none⟩=some lv:=by rw[HL.out.cell hb1];simpa[slK] using hc 0 _ rfl
  have hbr:b1<wr.heap.size:=Nat.lt_of_lt_of_le hb1 HL.out.size;have hl1:l.length≤1000:=HLL.out l (List.mem_of_getElem? hl);have HS:=au (HSt.out i l hl);obtain⟨al,cl,rfl⟩:=aB.slice hlv;have HLV:=au hlv;clear hc hl hlv;go_wp2
  go_loopg [8,23] fs.length (fun g o k wr=>∃j:Nat,j+g=fs.length∧k=.int .i64 j∧∃ps,Hid (ps.map (·.2)=A i++(fs.take j).filterMap (q l))∧Hid (Lists 142 170 (w.heap.size+1) wr o ps)∧Hid (aj w wr)∧w.heap.size+1≤wr.heap.size∧Hid (wr.heap[w.heap.size]?=some (.cells #[.bool no,.string nm,.slice sa ts.length cap] 54 (0,0))))
  case atStart=>exact⟨0,by omega,rfl,ps,(by rw[HP.out];simp:_=_),HO,HL,hsz,HB⟩
  clear d0 hbr hsz HO HP HB HL;obtain⟨j,hj,rfl,ps,HP,HO,HL,hsz,HB⟩:=hrel;obtain⟨ao,no',co,rfl⟩:∃a n c,u8=.slice a n c:=by obtain⟨a,c,e⟩:=Lists.slice HO.out;exact⟨a,_,c,e⟩
  by_cases G6:j<fs.length
  ·obtain⟨f,hf⟩:∃f,fs[j]?=some f:=⟨_,List.getElem?_eq_getElem G6⟩;obtain⟨b2,o2,sf,rfl,hb2,f0,f1,f2⟩:=Dv HF.out hf;have d0:wr.cell? ⟨b2,o2+j*2,none⟩=some (.string f.1):=by rw[HL.out.cell hb2];exact f0
   have d1:wr.cell? ⟨b2,o2+j*2+1,none⟩=some sf:=by rw[HL.out.cell hb2];exact f1
   have hbr:b2<wr.heap.size:=Nat.lt_of_lt_of_le hb2 HL.out.size;have HFM:=au (qK hf (q l));obtain⟨wt,hwt⟩:∃wt,wt=wr.alloc (.cells #[.string f.1,sf] 50):=⟨_,rfl⟩;have hLt:aj w wt:=by rw[hwt];exact HL.out.alloc _
   have hLr:aj wr wt:=by rw[hwt];exact(aj.refl _).alloc _
   have hst:wt.heap.size=wr.heap.size+1:=by rw[hwt];simp
   have HC:=au (HM.out l (.slice al l.length cl) f (.agg #[.string f.1,sf]) wt hLt (aB.aS HLV.out hLt) ⟨sf,rfl,f2.later hLt⟩ hl1);rw[hwt] at HC;obtain⟨q0,q1,q2,q3⟩:=Js HB.out;obtain⟨af,cf,rfl⟩:=bP f2;have HWT:=au hwt;clear f0 f1 f2 hf hwt;obtain⟨fn,dF⟩:=f;dsimp only at*;cases hqf:q l (fn,dF) with
   |none=>
    rw[hqf] at HC HFM;have HP1:Hid (ps.map (·.2)=A i++(fs.take (j+1)).filterMap (q l)):=by show _=_;have:=HFM.out;dsimp only at this;rw[this];exact HP.out
    simp only[Option.isSome_none] at HC;clear hqf HFM
    go_wp2_with fail
    refine HC.out.mono ?_;rintro e w2 ⟨mv,rfl,hmv,hL2⟩;cases hmv;rw[←HWT.out] at hL2;have Et:aj wr w2:=hLr.trans hL2;have HO2:=au (HO.out.later Et);have HB2:=au ((Et.block (by omega)).trans HB.out);have HL2:=au (hLt.trans hL2);have hs2:w.heap.size+1≤w2.heap.size:=by have:=Et.size;omega
    clear hL2 Et HC;go_wp2
    go_roundg (fs.length- (j+1))
    case measure=>omega
    case rel=>exact⟨j+1,by omega,by go_num,ps,HP1,HO2,HL2,hs2,HB2⟩
   |some m=>
    rw[hqf] at HC HFM;have HP1:Hid ((ps++[((.slice none 0 0:Value),m)]).map (·.2)=A i++(fs.take (j+1)).filterMap (q l)):=by show _=_;have:=HFM.out;dsimp only at this;rw[this,List.map_append,HP.out,List.append_assoc];rfl
    simp only[Option.isSome_some] at HC;have hpl:ps.length≤20000+j:=by have h1:=congrArg List.length HP.out;have h2:=HN.out;have h3:=List.length_filterMap_le (q l) (fs.take j);rw[List.length_map,List.length_append] at h1;rw[List.length_take] at h3;omega
    clear hqf HFM HP
    go_wp2_with fail
    refine HC.out.mono ?_;rintro e w2 ⟨mv,rfl,hmv,hL2⟩;have hmo:bO.own 170 wt.heap.size w2 mv m:=by rw[HWT.out];exact hmv
    clear hmv;rw[←HWT.out] at hL2;have Et:aj wr w2:=hLr.trans hL2;have hs2:wr.heap.size<w2.heap.size:=by have:=hL2.size;omega
    have hO2:=HO.out.later Et;have hap:=HO.out.Fu hmo (by omega);obtain⟨v',w4,hrun,hO4,hg4,hd4⟩:=hO2.more (tq hmo (lo':=w.heap.size+1) (by omega)) hap.1 hap.2 (by omega) (by omega);obtain⟨am,nm',cm,rfl⟩:∃a n c,mv=.slice a n c:=by obtain⟨a,c,e⟩:=aB.bI hmo;exact⟨a,_,c,e⟩
    have HL4:=au ((hLt.trans hL2).more hg4 hd4 fun k e=>by have:=hO2.lo_le k e;omega);have hs4:w.heap.size+1≤w4.heap.size:=by have:=hg4.size;simp at this;omega
    have HB4:Hid (w4.heap[w.heap.size]?=some (.cells #[.bool no,.string nm,.slice sa ts.length cap] 54 (0,0))):=by show _=_;rw[hg4.block w.heap.size (by simp;omega) (fun e=>by have:=hO2.lo_le _ e.symm;omega),Below.heap_alloc _ _ _ (by omega)];exact(Et.block (by omega)).trans HB.out
    obtain⟨a4,n4,c4,rfl⟩:∃a n c,v'=.slice a n c:=by obtain⟨a,c,e⟩:=Lists.slice hO4;exact⟨a,_,c,e⟩
    have HR4:=au hrun;have HO4:=au hO4;have HP2:Hid ((ps++[((.slice am nm' cm:Value),m)]).map (·.2)=A i++(fs.take (j+1)).filterMap (q l)):=by show _=_;rw[←HP1.out];simp
    clear hL2 Et HC hrun hO4 hg4 hd4 hO2 hap hmo HP1
    go_wp2_with (at_builtin;refine wpList_append_run rfl (.tmp 35) (.tmp 37) 120 rfl _ _ _ _ rfl rfl HR4.out ?_)
    go_roundg (fs.length- (j+1))
    case measure=>omega
    case rel=>exact⟨j+1,by omega,by go_num,_,HP2,HO4,HL4,hs4,HB4⟩
  have e:j=fs.length:=by omega
  have HP1:Hid (ps.map (·.2)=A (i+1)):=by show _=_;rw[HP.out,HS.out,e,List.take_length]
  have hpl:no'=(A (i+1)).length:=by have h1:=congrArg List.length HP1.out;obtain⟨a,c,e⟩:=Lists.slice HO.out;simp only[Value.slice.injEq] at e;rw[List.length_map] at h1;omega
  by_cases hbig:20000<(A (i+1)).length
  ·have hz:(20000:Int)<(no':Int):=by omega
   have HR1:Hid (20000<R.length):=by show _<_;have:=HLe.out (i+1);omega
   clear hpl hbig HP HP1;go_wp2
   go_ret2
   have e4:er=4:=by rw[HER.out];exact if_pos HR1.out
   refine⟨.slice none 0 0,by rw[e4];rfl,?_,HL.out⟩;unfold vK;rw[if_pos HR1.out]
  have hz:¬((20000:Int)<(no':Int)):=by omega
  have HN1:Hid ((A (i+1)).length≤20000):=(by omega:_≤_);clear hpl hbig HP;go_wp2
  go_roundg (ls.length- (i+1))
  case measure=>omega
  case rel=>exact⟨i+1,by omega,by go_num,ps,HP1,HO,HN1,HL,hsz,HB⟩
 have e:i=ls.length:=by omega
 have HR1:Hid (¬20000<R.length):=by show¬_;have:=HN.out;rw[e,Es.out] at this;omega
 have HP1:Hid (ps.map (·.2)=R):=by show _=_;rw[HP.out,e,Es.out]
 clear HP HN e;go_wp2
 go_ret2
 have e4:er=0:=by rw[HER.out];exact if_neg HR1.out
 refine⟨.slice ao no' co,by rw[e4];rfl,?_,HL.out⟩;unfold vK;rw[if_neg HR1.out];exact⟨ps,HP1.out,HO.out.base (by omega)⟩
abbrev dK (w:World) (b n:Nat) (f:Bs→Bool):Prop:=kL Tryz.prog 9 w b n f
theorem Dx (w:World):(zeroValue 187).run Tryz.prog w=.ok (.agg #[]) w:=by kernel_rfl
theorem jB (w:World):(zeroValue 3).run Tryz.prog w=.ok (.int .i64 0) w:=by kernel_rfl
theorem Tn.eG {p:Nat} {a b:World} (h:a.grownBy b (some p)):Tn p a b:=⟨h.os,h.tape,h.output,h.size,fun k hk ho=>h.block k hk (by simpa using ho)⟩
theorem aB.yJ {α:Type} {K:aB α} {B:Nat→Prop} {w:World} {a:Option Addr} {n cap i:Nat} {l:List α} {x:α} (h:K.sl B w (.slice a n cap) l) (hi:l[i]?=some x):
  ∃b off c,a=some ⟨b,off,none⟩∧b<w.heap.size∧B b∧K.is B w c x∧∀j u,c[j]?=some u→w.cell? ⟨b,off+i*K.size+j,none⟩=some u:=by
 obtain⟨_,a',cap',e,h1⟩:=h;simp only[Value.slice.injEq] at e;obtain⟨rfl,_,_⟩:=e;obtain⟨b,off,rfl,hB,hb,hc⟩:=h1 (by intro e;rw[e] at hi;simp at hi);obtain⟨c,c1,c2⟩:=hc i x hi;exact⟨b,off,c,rfl,hb,hB,c1,c2⟩
theorem KD (b n:Nat) (f:Bs→Bool) (s:Bs) (w:World) (h:dK w b n f) (hs:s.length≤maxLen):
  Calls Tryz.prog 121 #[.map (some b),.string (bs s)] w fun e w'=>e=.returned (.bool (f s))∧aj w w':=by
 have hr:=kL.has (T:=129) (E:=187) h Tryz.underlying9 Tryz.underlying129 (Dx w) hs;generalize f s=r at*;generalize bs s=k at*
 go_enter Tryz.func121,Tryz.ntmps121
 go_wp2;go_ret;exact⟨rfl,(aj.refl _).alloc _⟩
theorem tN {l:List Bs} {j:Nat} {x:Bs} (h:l[j]?=some x) (s:Bs):(l.take (j+1)).contains s=((l.take j).contains s||decide (s=x)):=by rw[List.take_add_one,h];rw[Bool.eq_iff_iff];simp
theorem KE (b n:Nat) (f:Bs→Bool) (v:Value) (l:List Bs) (w:World) (h:dK w b n f) (hv:iH.sl (fun k=>k≠b) w v l) (hn:n+l.length<maxLen) (hs:∀s∈l,s.length≤maxLen):
  Calls Tryz.prog 120 #[.map (some b),v] w fun e w'=>e=.returned (.tuple #[])∧dK w' b (n+l.length) (fun s=>f s||l.contains s)∧Tn b w w':=by
 obtain⟨a,cap,rfl⟩:=aB.slice hv;have HV:=au hv;have hl:=hv.1.1;clear hv;have H0:Hid (dK w b (n+0) (fun s=>f s||(l.take 0).contains s)):=h.congr fun s=>by simp
 clear h
 go_enter Tryz.func120,Tryz.ntmps120
 go_wp2
 go_loopg [8] l.length (fun k i wr=>∃j:Nat,j+k=l.length∧i=.int .i64 j∧Hid (dK wr b (n+j) (fun s=>f s||(l.take j).contains s))∧Hid (Tn b w wr))
 case atStart=>exact⟨0,by omega,rfl,H0,Tn.refl _ _⟩
 obtain⟨j,hj,rfl,HM,HT⟩:=hrel
 by_cases hlt:j<l.length
 ·obtain⟨x,hx⟩:∃x,l[j]?=some x:=⟨_,List.getElem?_eq_getElem hlt⟩;obtain⟨b1,o1,_,rfl,hb1,hne,rfl,hc⟩:=aB.yJ HV.out hx;have d0:wr.cell? ⟨b1,o1+j,none⟩=some (.string (bs x)):=by rw[HT.out.cell hb1 hne];simpa[iH] using hc 0 _ rfl
  obtain⟨w1,hr,hm,hg⟩:=kL.add (T:=129) (E:=187) HM.out Tryz.underlying9 Tryz.underlying129 (by omega) (hs x (List.mem_of_getElem? hx));have HM1:Hid (dK w1 b (n+(j+1)) (fun s=>f s||(l.take (j+1)).contains s)):=hm.congr fun s=>by rw[tN hx];simp[Bool.or_assoc]
  have HT1:Hid (Tn b w w1):=HT.out.trans (Tn.eG hg);clear hc hm hg hx HM HT;generalize bs x=k at*
  go_wp2_with (first
   |(at_mapUpdate;refine aH _ rfl _ _ _ _ rfl _ _ _ _ rfl rfl rfl hr ?_)
   |go_in)
  go_roundg (l.length- (j+1))
  case measure=>omega
  case rel=>exact⟨j+1,by omega,by go_num,HM1,HT1⟩
 have e:j=l.length:=by omega
 subst e;go_wp2;go_end0;exact⟨rfl,by simpa using HM.out,HT.out⟩
theorem Bq (b n:Nat) (f:Bs→Bool) (v:Value) (l:List Bs) (w:World) (h:dK w b n f) (hv:iH.sl bT w v l) (hs:∀s∈l,s.length≤maxLen):
  Calls Tryz.prog 94 #[.map (some b),v] w fun e w'=>e=.returned (.bool (l.all f))∧aj w w':=by
 obtain⟨a,cap,rfl⟩:=aB.slice hv;have HV:=au hv;have hl:=hv.1.1;clear hv;have H0:=au h;clear h
 go_enter Tryz.func94,Tryz.ntmps94
 go_wp2
 go_loopg [9] l.length (fun k i wr=>∃j:Nat,j+k=l.length∧i=.int .i64 j∧Hid (aj w wr)∧Hid (l.all f=(l.drop j).all f))
 case atStart=>exact⟨0,by omega,rfl,aj.refl _,(rfl:_=_)⟩
 obtain⟨j,hj,rfl,HL,HF⟩:=hrel
 by_cases hlt:j<l.length
 ·obtain⟨x,hx⟩:∃x,l[j]?=some x:=⟨_,List.getElem?_eq_getElem hlt⟩;obtain⟨b1,o1,_,rfl,hb1,rfl,hc⟩:=aB.bR HV.out hx;have d0:wr.cell? ⟨b1,o1+j,none⟩=some (.string (bs x)):=by rw[HL.out.cell hb1];simpa[iH] using hc 0 _ rfl
  have hC:=KD b n f x wr (H0.out.later HL.out) (hs x (List.mem_of_getElem? hx));have HC:=au hC;have hd:(l.drop j).all f=(f x&&(l.drop (j+1)).all f):=by obtain⟨h1,e1⟩:=List.getElem?_eq_some_iff.1 hx;rw[List.drop_eq_getElem_cons h1,e1];rfl
  clear hc hx hC;generalize bs x=k at*;cases hf:f x
  ·have F:Hid (l.all f=false):=by show _=_;rw[HF.out,hd,hf];rfl
   rw[hf] at HC;clear hd HF
   go_wp2_with (go_at_call 121;refine HC.out.mono ?_;rintro e w' ⟨rfl,hL⟩;replace hL:=au hL)
   go_ret;exact⟨bB F.out.symm,HL.out.trans (bg hL)⟩
  have F:Hid (l.all f=(l.drop (j+1)).all f):=by show _=_;rw[HF.out,hd,hf];rfl
  rw[hf] at HC;clear hd HF
  go_wp2_with (go_at_call 121;refine HC.out.mono ?_;rintro e w' ⟨rfl,hL⟩;replace hL:=au hL)
  go_roundg (l.length- (j+1))
  case measure=>omega
  case rel=>exact⟨j+1,by omega,by go_num,HL.out.trans (bg hL),F⟩
 have F:Hid (l.all f=true):=by show _=_;rw[HF.out,List.drop_eq_nil_of_le (by omega)];rfl
 go_wp2;go_ret;exact⟨bB F.out.symm,HL.out⟩
theorem rE {l:Bs} (h:l=[]∨12<l.length):isVar l=false:=by
 rcases h with h|h;·subst h;rfl
 unfold isVar;rw[decide_eq_false (by omega)];rfl
theorem yK {s:ByteArray} (h0:0<s.size) (h1:s.size≤12):isVar (raw s)=(jM (s[0].toNat)&&decide ((bs ((raw s).takeWhile eO)).size=s.size)):=by
 have hl:=bK s;unfold isVar;rw[iB,←hl,jA,decide_eq_true (by omega)];have hl':0<(raw s).length:=by omega
 have e:raw s=(s[0]'h0)::(raw s).drop 1:=by have:=List.drop_eq_getElem_cons hl';rw[List.drop_zero,yD h0 hl'] at this;exact this
 generalize(raw s).all eO=q;rw[e]
 rfl
theorem Br (s:ByteArray) (w:World):Calls Tryz.prog 150 #[.string s] w fun e w'=>e=.returned (.bool (isVar (raw s)))∧w'=w:=by
 by_cases h0:0<s.size
 ·have h0':((s.size:Int)==0)=false:=by rw[beq_eq_false_iff_ne];omega
  by_cases h1:s.size≤12
  ·have F:=au (yK h0 h1);generalize hx:bs ((raw s).takeWhile eO)=x at F;have HX:=au hx;clear hx;generalize hc:(s[0]'h0).toNat=c at F
   by_cases ha:c<65
   ·have G:Hid (jM c=false):=by show _=_;unfold jM;exact decide_eq_false (by omega)
    have ha':(c:Int)<65:=by omega
    go_enter Tryz.func150,Tryz.ntmps150
    go_wp2;go_ret;exact⟨bB (by rw[F.out,G.out];rfl),rfl⟩
   by_cases hz:90<c
   ·have G:Hid (jM c=false):=by show _=_;unfold jM;exact decide_eq_false (by omega)
    have ha':¬(c:Int)<65:=by omega
    have hz':90<(c:Int):=by omega
    go_enter Tryz.func150,Tryz.ntmps150
    go_wp2;go_ret;exact⟨bB (by rw[F.out,G.out];rfl),rfl⟩
   have G:Hid (jM c=true):=by show _=_;unfold jM;exact decide_eq_true (by omega)
   have ha':¬(c:Int)<65:=by omega
   have hz':¬90<(c:Int):=by omega
   go_enter Tryz.func150,Tryz.ntmps150
   go_wp2_with (go_at_call 98;refine(Gz _ _ (by omega)).mono ?_;rintro e w' ⟨rfl,rfl⟩;rw[HX.out])
   go_ret;refine⟨bB ?_,rfl⟩;rw[F.out,G.out,Bool.eq_iff_iff];simp;omega
  have F:Hid (isVar (raw s)=false):=rE (Or.inr (by rw[bK];omega))
  go_enter Tryz.func150,Tryz.ntmps150
  go_wp2;go_ret;exact⟨bB F.out.symm,rfl⟩
 have F:Hid (isVar (raw s)=false):=rE (Or.inl (List.eq_nil_of_length_eq_zero (by rw[bK];omega)));have h0':((s.size:Int)==0)=true:=by rw[beq_iff_eq];omega
 go_enter Tryz.func150,Tryz.ntmps150
 go_wp2;go_ret;exact⟨bB F.out.symm,rfl⟩
theorem Bt (l:Bs) (w:World):Calls Tryz.prog 72 #[.string (bs l)] w fun e w'=>e=.returned (.bool (isNamed l))∧w'=w:=by have:=named (bs l) w;rw[jV,jN] at this;exact this
theorem zM (l:Bs) (w:World):Calls Tryz.prog 150 #[.string (bs l)] w fun e w'=>e=.returned (.bool (isVar l))∧w'=w:=by have:=Br (bs l) w;rw[jN] at this;exact this
theorem zN (t:dM) (w:World):Calls Tryz.prog 119 #[.agg #[.bool t.1,.string (bs t.2)]] w fun e w'=>e=.returned (.bool (aW t))∧aj w w':=by
 obtain⟨v,s⟩:=t;unfold aW;dsimp only;have HN:Hid (∀w,Calls Tryz.prog 72 #[.string (bs s)] w fun e w'=>e=.returned (.bool (isNamed s))∧w'=w):=fun w=>Bt s w;have HV:Hid (∀w,Calls Tryz.prog 150 #[.string (bs s)] w fun e w'=>e=.returned (.bool (isVar s))∧w'=w):=fun w=>zM s w;generalize isNamed s=x at*;generalize isVar s=y at*;generalize bs s=k at*;cases v
 all_goals
  go_enter Tryz.func119,Tryz.ntmps119
  go_wp2_with (first
   |(go_at_call 72;refine(HN.out _).mono ?_;rintro e w' ⟨rfl,rfl⟩)
   |(go_at_call 150;refine(HV.out _).mono ?_;rintro e w' ⟨rfl,rfl⟩))
  go_ret;exact⟨rfl,(aj.refl _).alloc _⟩
theorem tO {α:Type} {l:List α} {j:Nat} {x:α} (h:l[j]?=some x) (f:α→Bool):(l.drop j).any f=(f x||(l.drop (j+1)).any f):=by obtain⟨h1,e1⟩:=List.getElem?_eq_some_iff.1 h;rw[List.drop_eq_getElem_cons h1,e1];rfl
theorem tQ {α:Type} {l:List α} {j:Nat} {x:α} (h:l[j]?=some x) (f:α→Bool):(l.drop j).all f=(f x&&(l.drop (j+1)).all f):=by obtain⟨h1,e1⟩:=List.getElem?_eq_some_iff.1 h;rw[List.drop_eq_getElem_cons h1,e1];rfl
theorem Bu (v:Value) (l:List dM) (w:World) (hv:gJ.sl bT w v l):
  Calls Tryz.prog 149 #[v,.func (.func 119) #[] #[]] w fun e w'=>∃n:Int,e=.returned (.int .i64 n)∧decide (0≤n)=l.any aW∧aj w w':=by
 obtain⟨a,cap,rfl⟩:=aB.slice hv;have HV:=au hv;have hl:=hv.1.1;clear hv
 go_enter Tryz.func149,Tryz.ntmps149
 go_wp2
 go_loopg [8] l.length (fun k i wr=>∃j:Nat,j+k=l.length∧i=.int .i64 j∧Hid (aj w wr)∧Hid (l.any aW=(l.drop j).any aW))
 case atStart=>exact⟨0,by omega,rfl,aj.refl _,(rfl:_=_)⟩
 obtain⟨j,hj,rfl,HL,HF⟩:=hrel
 by_cases hlt:j<l.length
 ·obtain⟨x,hx⟩:∃x,l[j]?=some x:=⟨_,List.getElem?_eq_getElem hlt⟩;obtain⟨b1,o1,_,rfl,hb1,rfl,hc⟩:=aB.bR HV.out hx;have d0:wr.cell? ⟨b1,o1+j*2,none⟩=some (.bool x.1):=by rw[HL.out.cell hb1];exact hc 0 _ rfl
  have d1:wr.cell? ⟨b1,o1+j*2+1,none⟩=some (.string (bs x.2)):=by rw[HL.out.cell hb1];exact hc 1 _ rfl
  have HC:=au (zN x wr);have hd:=tO hx aW;clear hc hx;cases hf:aW x
  ·have F:Hid (l.any aW=(l.drop (j+1)).any aW):=by show _=_;rw[HF.out,hd,hf];rfl
   rw[hf] at HC;clear hd HF hf
   go_wp2_with (go_at_call 119;refine HC.out.mono ?_;rintro e w' ⟨rfl,hL⟩;replace hL:=au hL)
   go_roundg (l.length- (j+1))
   case measure=>omega
   case rel=>exact⟨j+1,by omega,by go_num,HL.out.trans (bg hL),F⟩
  have F:Hid (l.any aW=true):=by show _=_;rw[HF.out,hd,hf];rfl
  rw[hf] at HC;clear hd HF hf
  go_wp2_with (go_at_call 119;refine HC.out.mono ?_;rintro e w' ⟨rfl,hL⟩;replace hL:=au hL)
  go_ret;exact⟨_,rfl,by rw[F.out];simp,HL.out.trans (bg hL)⟩
 have F:Hid (l.any aW=false):=by show _=_;rw[HF.out,List.drop_eq_nil_of_le (by omega)];rfl
 go_wp2;go_ret;exact⟨_,rfl,by rw[F.out];simp,HL.out⟩
theorem vL (v:Value) (l:List dM) (w:World) (hv:gJ.sl bT w v l):
  Calls Tryz.prog 118 #[v,.func (.func 119) #[] #[]] w fun e w'=>e=.returned (.bool (l.any aW))∧aj w w':=by
 have HI:=au (Bu v l w hv);obtain⟨a,cap,rfl⟩:=aB.slice hv;clear hv
 go_enter Tryz.func118,Tryz.ntmps118
 go_wp2_with (go_at_call 149;refine HI.out.mono ?_;rintro e w' ⟨n,rfl,hn,hL⟩;replace hn:=au hn;replace hL:=au hL)
 go_ret;exact⟨bB (bg hn),bg hL⟩
theorem rF (a:aJ) (v:Value) (w:World) (hv:gJ.sl bT w v a.terms):
  Calls Tryz.prog 91 #[.agg #[.bool a.no,.string (bs a.name),v]] w fun e w'=>e=.returned (.int .i64 (aL a))∧aj w w':=by
 have HC:Hid (∀w',aj w w'→Calls Tryz.prog 118 #[v,.func (.func 119) #[] #[]] w' fun e w''=>e=.returned (.bool (a.terms.any aW))∧aj w' w''):=fun w' hw=>vL v a.terms w' (aB.aS hv hw);have HN:Hid (∀w,Calls Tryz.prog 72 #[.string (bs a.name)] w fun e w'=>e=.returned (.bool (isNamed a.name))∧w'=w):=fun w=>Bt a.name w;have l0:=hv.1.1;obtain⟨a1,c1,rfl⟩:=aB.slice hv;clear hv;obtain⟨no,n,x⟩:=a;unfold aL;dsimp only at*;generalize hn:isNamed n=q at*;clear hn;generalize bs n=s at*;cases q
 ·rw[if_pos rfl]
  go_enter Tryz.func91,Tryz.ntmps91
  go_wp2_with (go_at_call 72;refine(HN.out _).mono ?_;rintro e w' ⟨rfl,rfl⟩)
  go_ret;exact⟨rfl,(aj.refl _).alloc _⟩
 rw[if_neg (by simp)]
 by_cases h4:4<x.length
 ·rw[if_pos h4]
  go_enter Tryz.func91,Tryz.ntmps91
  go_wp2_with (go_at_call 72;refine(HN.out _).mono ?_;rintro e w' ⟨rfl,rfl⟩)
  go_ret;exact⟨rfl,(aj.refl _).alloc _⟩
 rw[if_neg h4];generalize x.any aW=r at*;cases r
 all_goals
  go_enter Tryz.func91,Tryz.ntmps91
  go_wp2_with (first
   |(go_at_call 72;refine(HN.out _).mono ?_;rintro e w' ⟨rfl,rfl⟩)
   |(go_at_call 118;refine(HC.out _ ((aj.refl _).alloc _)).mono ?_;rintro e w' ⟨rfl,hL⟩;replace hL:=au hL))
  go_ret;exact⟨rfl,((aj.refl _).alloc _).trans (bg hL)⟩
end Go.Proofs.YthngiikhgplldaaGreatDoor
