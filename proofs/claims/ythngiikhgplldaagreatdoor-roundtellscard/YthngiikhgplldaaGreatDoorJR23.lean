import Derived.Test.YthngiikhgplldaaGreatDoorJR22
import Derived.Test.YthngiikhgplldaaGreatDoorJR15
import Derived.Test.YthngiikhgplldaaGreatDoorJR17
import Derived.Test.YthngiikhgplldaaGreatDoorJR19
import Derived.Test.YthngiikhgplldaaGreatDoorJR5
import Derived.Test.YthngiikhgplldaaGreatDoorJR14
open Go.RowKit Go.Sort Go.Maps
set_option maxHeartbeats 1000000
set_option maxRecDepth 100000
namespace Go.Proofs.YthngiikhgplldaaGreatDoor
theorem BU {L:List aF} {r:List aF} {f:aF} (h:iX r (bY L++[f])):r=bY (L++[f]):=
 jT h.1 fun g=>by rw[h.2.1,List.mem_append,List.mem_append,dA]
theorem Iq (r:aD) (tv bv ev:Value) (L:List (List aI)) (n:Nat) (w:World) (ht:gJ.sl bT w tv r.head.terms) (hb:∃a n c,bv=.slice a n c) (hE:(mM n).sl bT w ev L) (hts:∀t∈r.head.terms,t.2.length≤maxLen) (hL:L.length≤20000):
  Calls Tryz.prog 25 #[.agg #[.bool r.head.no,.string (bs r.head.name),tv,bv],ev] w fun e w'=>∃v',e=.returned v'∧fM w' v' (bY (L.filterMap fun l=>bf r.head l))∧aj w w':=by
 obtain⟨ta,tc,rfl⟩:=aB.slice ht;obtain⟨ba,bn,bc,rfl⟩:=hb;obtain⟨ea,ec,rfl⟩:=aB.slice hE;obtain⟨wb,hwb⟩:∃wb,wb=w.alloc (.cells #[.bool r.head.no,.string (bs r.head.name),.slice ta r.head.terms.length tc,.slice ba bn bc] 57):=⟨_,rfl⟩;have hLb:aj w wb:=by rw[hwb];exact(aj.refl w).alloc _
 have hrb:wb.heap[w.heap.size]?=some (.cells #[.bool r.head.no,.string (bs r.head.name),.slice ta r.head.terms.length tc,.slice ba bn bc] 57 (0,0)):=by rw[hwb];exact heap_alloc_new w _
 have JL:w.heap.size<wb.heap.size:=(Array.getElem?_eq_some_iff.1 hrb).1;have HT:=au (aB.aS ht hLb);have HE:=au (aB.aS hE hLb);have HTS:=au hts;have HLb:=au hLb;have HRb:=au hrb;have HWb:=au hwb;clear ht hE hts hLb hrb hwb;have hex:∃nm no,nm=bs r.head.name∧no=r.head.no:=⟨_,_,rfl,rfl⟩;obtain⟨nm,no,hnm,hno⟩:=hex;have HNM:=au hnm;have HNO:=au hno;rw[←hnm] at HRb HWb⊢;rw[←hno] at HRb HWb⊢;clear hnm hno
 go_enter Tryz.func25,Tryz.ntmps25
 go_wp2;rw[←HWb.out]
 go_loopg [5,12] L.length (fun g o i wr=>∃j:Nat,j+g=L.length∧i=.int .i64 j∧Hid (fM wr o (bY ((L.take j).filterMap fun l=>bf r.head l)))∧Hid (aj wb wr))
 case atStart=>exact⟨0,by omega,rfl,(by show fM _ _ _;rw[List.take_zero,List.filterMap_nil,show bY []=[] from(jT (s:=[]) List.Pairwise.nil fun f=>Iff.rfl).symm];exact rP _),aj.refl _⟩
 obtain⟨j,hj,rfl,HO,HL⟩:=hrel;obtain⟨oa,oc,hov⟩:=aC HO.out.1;obtain⟨on,hon⟩:∃n,n=(bY ((L.take j).filterMap fun l=>bf r.head l)).length:=⟨_,rfl⟩;rw[←hon] at hov;clear hon;subst hov
 by_cases hlt:j<L.length
 ·obtain⟨l,hl⟩:∃x,L[j]?=some x:=⟨_,List.getElem?_eq_getElem hlt⟩;obtain⟨b1,o1,_,e1,hb1,⟨bl,rfl,_,hel⟩,hc⟩:=aB.bR HE.out hl;subst e1;have d0:wr.cell? ⟨b1,o1+j,none⟩=some (.map (some bl)):=by rw[HL.out.cell (p:=⟨b1,o1+j,none⟩) hb1];simpa[mM] using hc 0 _ rfl
  have hrr:=(HL.out.block JL).trans HRb.out;have r0:wr.cell? ⟨w.heap.size,0,none⟩=some (.bool no):=by rw[cell_of_row _ _ _ _ _ _ hrr];rfl
  have r1:wr.cell? ⟨w.heap.size,0+1,none⟩=some (.string nm):=by rw[cell_of_row _ _ _ _ _ _ hrr];rfl
  have r2:wr.cell? ⟨w.heap.size,0+2,none⟩=some (.slice ta r.head.terms.length tc):=by rw[cell_of_row _ _ _ _ _ _ hrr];rfl
  have hRF:=Ey r.head (.slice ta r.head.terms.length tc) l bl n wr (aB.aS HT.out HL.out) (hel.later HL.out) HTS.out;unfold filled at hRF;rw[←HNM.out,←HNO.out] at hRF;have HRF:=au hRF;have HTk:=au (kV (g:=fun l=>bf r.head l) hl);have hlen:(bY ((L.take j).filterMap fun l=>bf r.head l)).length≤20000:=by have h1:=iN ((L.take j).filterMap fun l=>bf r.head l);have h2:=List.length_filterMap_le (fun l=>bf r.head l) (L.take j);rw[List.length_take] at h2;omega
  clear hc hl hel hrr hRF;cases hfl:bf r.head l with
  |none=>
   rw[hfl] at HRF;have HO':Hid (fM wr (.slice oa on oc) (bY ((L.take (j+1)).filterMap fun l=>bf r.head l))):=by show fM _ _ _;rw[HTk.out,hfl];simpa using HO.out
   clear hfl HTk HO
   go_wp2_with fail
   refine HRF.out.mono ?_;rintro e w3 ⟨f3,rfl,hfv,hL3⟩;obtain⟨s,rfl,hs⟩:=hfv;obtain⟨sA',sC',rfl⟩:=bP hs;simp only[Option.isSome_none];have HL3:Hid (aj wr w3):=hL3;clear hs hL3 HRF d0 r0 r1 r2;go_wp2
   go_roundg (L.length- (j+1))
   case measure=>omega
   case rel=>exact⟨j+1,by omega,by go_num,HO'.out.later (HL3.out.alloc _),HL.out.trans (HL3.out.alloc _)⟩
  |some f=>
   rw[hfl] at HRF;have HK:Hid (∀q,iX q (bY ((L.take j).filterMap fun l=>bf r.head l)++[f])→q=bY ((L.take (j+1)).filterMap fun l=>bf r.head l)):=fun q hq=>by rw[HTk.out,hfl];exact BU hq
   clear hfl HTk
   go_wp2_with fail
   refine HRF.out.mono ?_;rintro e w3 ⟨f3,rfl,hfv,hL3⟩;simp only[Option.isSome_some,Option.getD_some] at hfv⊢;have Ia:=hfv;obtain⟨s,rfl,hs⟩:=hfv;obtain⟨sA',sC',rfl⟩:=bP hs;obtain⟨w4,hw4⟩:∃w4,w4=w3.alloc (.cells #[.string f.1,.slice sA' f.2.length sC'] 50):=⟨_,rfl⟩;have hL4:aj w3 w4:=by rw[hw4];exact(aj.refl _).alloc _
   have HAd:=au (JQ (.slice oa on oc) (.agg #[.string f.1,.slice sA' f.2.length sC']) _ f w4 (HO.out.later (hL3.trans hL4)) (Ia.later hL4) (gI _) (by omega));have HL4:=au (HL.out.trans (hL3.trans hL4));have HW4:=au hw4;clear hs hL3 hL4 hw4 Ia HRF HO d0 r0 r1 r2
   go_wp2_with fail
   rw[←HW4.out];refine HAd.out.mono ?_;rintro e w5 ⟨v5,q5,rfl,hF5,hS5,hL5⟩;have e5:=HK.out q5 hS5;subst e5;have HF5:=au hF5;obtain⟨a5,n5,c5,rfl⟩:∃a n c,v5=.slice a n c:=by obtain⟨a,c,e⟩:=aC hF5.1;exact⟨a,_,c,e⟩
   have HL5:=au (HL4.out.trans hL5);clear hF5 hS5 hL5 HAd HW4 HK HL4;go_wp2
   go_roundg (L.length- (j+1))
   case measure=>omega
   case rel=>exact⟨j+1,by omega,by go_num,HF5,HL5⟩
 have e:L.take j=L:=List.take_of_length_le (by omega);rw[e] at HO;clear e;go_wp2;go_ret;exact⟨_,rfl,HO.out,HLb.out.trans HL.out⟩
theorem DW {r:aD} {fs:List aF} {ms:List (List aI)} (hm:eu (fun _=>fs) 0 r.body [[]]=some ms):
  gY r fs=some (bY ((ms.filter fun l=> !barredB (fun _=>fs) 0 r.body l).filterMap fun l=>bf r.head l)):=by
 have hk:∀l∈ms,(bU l).Nodup:=fun l hl=>by rw[((mU (fun _=>fs) r.body 0 [[]] ms [] (fun x hx=>by simp at hx;subst hx;rfl) hm l).1 hl).2.1];exact ig r.body
 unfold gY mK;rw[hm];dsimp only
 congr 1
 refine jh fun f=>?_;rw[List.mem_filterMap,List.mem_filterMap]
 constructor
 ·rintro⟨l,hl,hf⟩;rw[(bF _).mem_iff,List.mem_map] at hl;obtain⟨m,hm',rfl⟩:=hl;exact⟨m,hm',by rw[jd (bF m).symm (hk m (List.mem_filter.1 hm').1)];exact hf⟩
 rintro⟨m,hm',hf⟩;refine⟨jg m,(bF _).mem_iff.2 (List.mem_map.2 ⟨m,hm',rfl⟩),?_⟩;rw[←jd (bF m).symm (hk m (List.mem_filter.1 hm').1)];exact hf
def KX (w:World) (v:Value) (er:Int):Option (List aF)→Prop
 |none=>v=.slice none 0 0∧er=4
 |some x=>er=0∧Facts w v x
theorem xQ {p:List aD} (hp:fG p):∀r∈p,aM r.body=0∧∀t∈r.head.terms,t.2.length≤maxLen:=fun r hr=>
 ⟨(hp.rules r hr).body,fun t ht=>by have:=nJ ((j3 (hp.rules r hr).head).2.2 t ht);unfold maxLen;omega⟩
theorem xR (ss:List Nat) (s:Nat):countP (ss++[s])=max (countP ss) (s+1):=by
 induction ss with
 |nil=>simp[countP]
 |cons t ss ih=>simp only[List.cons_append,countP,ih];omega
theorem BX (ss:List Nat) (v:Value) (w:World) (hv:jL.sl bT w v ss) (hs:∀s∈ss,s<1000):
  Calls Tryz.prog 18 #[v] w fun e w'=>e=.returned (.int .i64 (countP ss:Nat))∧w'=w:=by
 obtain⟨a,cap,rfl⟩:=aB.slice hv;have hl:=hv.1.1;have HV:=au hv;have HS:=au hs;clear hv hs
 go_enter Tryz.func18,Tryz.ntmps18
 go_wp2
 go_loopg [3,8] ss.length (fun g n i wr=>∃j:Nat,j+g=ss.length∧i=.int .i64 j∧n=.int .i64 (countP (ss.take j):Nat)∧wr=w)
 case atStart=>exact⟨0,by omega,rfl,rfl,rfl⟩
 obtain⟨j,hj,rfl,rfl,rfl⟩:=hrel
 by_cases hlt:j<ss.length
 ·obtain⟨s,hsj⟩:∃x,ss[j]?=some x:=⟨_,List.getElem?_eq_getElem hlt⟩;obtain⟨b2,o2,_,rfl,hb2,rfl,hc2⟩:=aB.bR HV.out hsj;have e0:wr.cell? ⟨b2,o2+j,none⟩=some (.int .i64 s):=by simpa[jL] using hc2 0 _ rfl
  have hs1:=HS.out s (List.mem_of_getElem? hsj);have hcl:countP (ss.take j)≤1000:=countP_le fun t ht=>HS.out t (List.mem_of_mem_take ht);have hck:countP (ss.take (j+1))=max (countP (ss.take j)) (s+1):=by rw[List.take_add_one,hsj];exact xR _ _
  have HCk:=au hck;generalize countP (ss.take j)=cj at*;have hmax:max (cj:Int) ((s:Int)+1)=((max cj (s+1):Nat):Int):=by omega
  clear hc2 hsj hck;go_wp2
  go_roundg (ss.length- (j+1))
  case measure=>omega
  case rel=>exact⟨j+1,by omega,by go_num,by rw[HCk.out],rfl⟩
 have e:ss.take j=ss:=List.take_of_length_le (by omega);rw[e];go_wp2;go_ret;exact⟨rfl,rfl⟩
theorem wC:∃i,Tryz.prog.info? 54=some i∧i.zero=some (.agg #[.bool false,.string ByteArray.empty,.slice none 0 0])∧i.size=3∧i.bytes=48:=⟨Tryz.t54,by kernel_rfl,by kernel_rfl,by kernel_rfl,by kernel_rfl⟩
def ow (w0:World) (lo:Nat) (w:World) (v:Value) (l:List aJ):Prop:=
 ∃xs,w.ownsRow lo 54 3 v l.length xs∧∀i a,l[i]?=some a→∃c,dY.is bT w0 c a∧∀j u,c[j]?=some u→xs[i*3+j]?=some u
theorem ow.nil (w0:World) (lo:Nat) (w:World):ow w0 lo w (.slice none 0 0) []:=⟨[],World.ownsRow_nil w _ _ _,fun i a h=>by simp at h⟩
theorem ow.slice {w0 w:World} {lo:Nat} {v:Value} {l:List aJ} (h:ow w0 lo w v l):∃a cap,v=.slice a l.length cap:=by
 obtain⟨xs,ho,_⟩:=h;rcases ho.2 with⟨rfl,e⟩|⟨g,cap,cur,rfl,_⟩;·exact⟨none,0,by rw[e]⟩
 exact⟨_,cap,rfl⟩
theorem ow.lo {w0 w:World} {lo:Nat} {v:Value} {l:List aJ} (h:ow w0 lo w v l):∀k,v.ownBlock=some k→lo≤k∧k<w.heap.size:=fun k e=>by obtain⟨xs,ho,_⟩:=h;exact ho.lt k e
theorem ow.more {w0 w:World} {lo:Nat} {v:Value} {l:List aJ} (h:ow w0 lo w v l) (hs:lo≤w.heap.size) {c:List Value} {a:aJ} (hc:dY.is bT w0 c a) (hl:(l.length+1)*48≤140737488355328):
  ∃v' w',(Builtin.append_ #[55,55] 55 #[v,.slice (some ⟨w.heap.size,0,none⟩) 1 1]).run Tryz.prog (w.alloc (.cells c.toArray 54))=.ok v' w'∧ow w0 lo w' v' (l++[a])∧(w.alloc (.cells c.toArray 54)).grownBy w' v.ownBlock∧w.drawn≤w'.drawn:=by
 obtain⟨i,i1,i2,i3,i4⟩:=wC;obtain⟨xs,ho,hx⟩:=h;have hcl:c.length=3:=dY.len hc;have hnews:∀j u,c[j]?=some u→(w.alloc (.cells c.toArray 54)).cell? ((⟨w.heap.size,0,none⟩:Addr).add j)=some u:=by intro j u hu;rw[Addr.add_lit,Nat.zero_add,cell_of_row _ w.heap.size j c.toArray 54 (0,0) (heap_alloc_new w _)];simpa using hu
 obtain⟨v',w',hrun,r1,r2,r3,_⟩:=d9 (P:=Tryz.prog) (w.alloc (.cells c.toArray 54)) lo 55 55 54 i _ 3 48 Tryz.underlying55 i1 i2 i3 i4 rfl (by omega) v l.length xs (ho.alloc _) ⟨w.heap.size,0,none⟩ 1 1 c (by rw[hcl]) hnews
  (dY.one hc) (by simp only[maxLen];omega) hl (by simp;omega)
 refine⟨v',w',hrun,⟨xs++c,by simpa using r1,fun j y hj=>?_⟩,r2,r3⟩;have hxl:xs.length=l.length*3:=ho.1
 by_cases hjl:j<l.length
 ·rw[List.getElem?_append_left hjl] at hj;obtain⟨d,d1,d2⟩:=hx j y hj;refine⟨d,d1,fun q u hu=>?_⟩;have:=d2 q u hu;rw[List.getElem?_append_left (List.getElem?_eq_some_iff.1 this).1];exact this
 rw[List.getElem?_append_right (by omega)] at hj;have hj':j=l.length:=by have:=(List.getElem?_eq_some_iff.1 hj).1;simp at this;omega
 subst hj';simp at hj;subst hj;refine⟨c,hc,fun q u hu=>?_⟩;rw[List.getElem?_append_right (by omega),hxl,Nat.add_sub_cancel_left];exact hu
theorem ow.sl {w0 w:World} {lo:Nat} {v:Value} {l:List aJ} (h:ow w0 lo w v l) (hb:Below w0.heap.size w0 w) (hl:l.length≤8796093022208):dY.sl bT w v l:=by
 obtain⟨xs,ho,hx⟩:=h;rcases ho.2 with⟨rfl,e⟩|⟨g,cap,cur,rfl,hbg,hg,hnc,_⟩;·have:l=[]:=List.eq_nil_of_length_eq_zero e;subst this;exact dY.jE _ _ _ _
 refine⟨⟨hl,hnc⟩,_,cap,rfl,fun _=>⟨g,0,rfl,trivial,(Array.getElem?_eq_some_iff.1 hg).1,fun i x hi=>?_⟩⟩;obtain⟨c,c1,c2⟩:=hx i x hi;refine⟨c,dY.kept c1 hb.size fun k hk _=>hb.block k hk,fun j u hu=>?_⟩;have:=ho.cells (g:=g) rfl _ u (c2 j u hu);rw[Addr.add_lit] at this;rw[Nat.add_assoc];exact this
theorem ow.one {w0 w:World} {lo:Nat} {c:List Value} {a:aJ} (hc:dY.is bT w0 c a) (hs:lo≤w.heap.size):ow w0 lo (w.alloc (.cells c.toArray 54)) (.slice (some ⟨w.heap.size,0,none⟩) 1 1) [a]:=by
 have hcl:c.length=3:=dY.len hc;refine⟨c,⟨by rw[hcl];rfl,Or.inr ⟨w.heap.size,1,c.toArray,rfl,hs,heap_alloc_new _ _,by simp,by simp[maxLen],by simp[hcl],by show c.take 3=c;rw[←hcl];simp⟩⟩,fun i x hi=>?_⟩;cases i with
 |zero=>
  simp at hi;subst hi;exact⟨c,hc,fun j u hu=>by rw[Nat.zero_mul,Nat.zero_add];exact hu⟩
 |succ i=>simp at hi
theorem ow.slB {w0 w:World} {lo b:Nat} {v:Value} {l:List aJ} (h:ow w0 lo w v l) (hb:Below w0.heap.size w0 w) (hl:l.length≤8796093022208) (h1:w0.heap.size≤b) (h2:b<lo):dY.sl (fun k=>k≠b) w v l:=by
 obtain⟨xs,ho,hx⟩:=h;rcases ho.2 with⟨rfl,e⟩|⟨g,cap,cur,rfl,hbg,hg,hnc,_⟩;·have:l=[]:=List.eq_nil_of_length_eq_zero e;subst this;exact dY.jE _ _ _ _
 refine⟨⟨hl,hnc⟩,_,cap,rfl,fun _=>⟨g,0,rfl,by show g≠b;omega,(Array.getElem?_eq_some_iff.1 hg).1,fun i x hi=>?_⟩⟩;obtain⟨c,c1,c2⟩:=hx i x hi;refine⟨c,dY.kept (dY.mono c1 fun k hk _=>(by omega:k≠b)) hb.size fun k hk _=>hb.block k hk,fun j u hu=>?_⟩;have:=ho.cells (g:=g) rfl _ u (c2 j u hu);rw[Addr.add_lit] at this;rw[Nat.add_assoc];exact this
theorem BZ (x:Int) (w:World):Calls Tryz.prog 81 #[.int .u8 x] w fun e w'=>e=.returned (.bool (gP x))∧w'=w:=by
 go_enter Tryz.func81,Tryz.ntmps81
 go_wp2
 all_goals
  go_ret;refine⟨bB ?_,rfl⟩;rw[Bool.eq_iff_iff];simp[gP];omega
theorem Ir (x:Int) (w:World):Calls Tryz.prog 102 #[.int .u8 x] w fun e w'=>e=.returned (.bool (jc x))∧w'=w:=by
 cases hs:gP x
 ·go_enter Tryz.func102,Tryz.ntmps102
  go_wp2_with (go_at_call 81;refine(BZ _ _).mono ?_;rintro e w' ⟨rfl,rfl⟩;rw[hs])
  all_goals
   go_ret;refine⟨bB ?_,rfl⟩;rw[Bool.eq_iff_iff];simp[jc,hs];omega
 go_enter Tryz.func102,Tryz.ntmps102
 go_wp2_with (go_at_call 81;refine(BZ _ _).mono ?_;rintro e w' ⟨rfl,rfl⟩;rw[hs])
 go_ret;exact⟨bB (by simp[jc,hs]),rfl⟩
theorem bytesOf (s:ByteArray) (w:World):∃cp arr fr,(convert 9 137 (.string s)).run Tryz.prog w=.ok (.slice (some ⟨w.heap.size,0,none⟩) s.size cp) (w.drew.alloc (.cells arr 5 fr))∧
  ∀(j:Nat) (h:j<s.size),(w.drew.alloc (.cells arr 5 fr)).cell? ⟨w.heap.size,j,none⟩=some (.int .u8 (s[j].toNat:Int)):=by
 refine⟨_,_,_,run_bytes_of_string (P:=Tryz.prog) w 9 137 5 s Tryz.underlying9 Tryz.underlying137 Tryz.underlying5,fun j h=>?_⟩;rw[show w.heap.size=w.drew.heap.size from rfl,World.cell?_alloc_mark];rw[bytesRow_at s _ j h]
 rfl
def oo (s:ByteArray):Bool:=lY s 0&&decide (0<s.size∧s.size≤12)
theorem Ca (s:ByteArray) (w:World) (hs:s.size≤9223372036854775807):Calls Tryz.prog 80 #[.string s] w fun e w'=>e=.returned (.bool (oo s))∧aj w w':=by
 obtain⟨cp,arr,fr,hcv,hcell⟩:=bytesOf s w;have HC:=au hcell;clear hcell;unfold oo
 go_enter Tryz.func80,Tryz.ntmps80
 go_wp2
 go_loop [8] (fun i=>∃k:Nat,k≤s.size∧i=.int .i64 k∧Hid (lY s 0=lY s k)) (fun i=>s.size- (intOf i).toNat)
 case atStart=>exact⟨0,by omega,rfl,(rfl:_=_)⟩
 obtain⟨k,hk,rfl,HE⟩:=hrel
 by_cases hlt:k<s.size
 ·have hcl:(w.alloc (.cells arr 5 fr)).cell? ⟨w.heap.size,k,none⟩=some (.int .u8 (s[k].toNat:Int)):=HC.out k hlt;have hltz:(k:Int)<(s.size:Int):=by omega
  have ha:=mW hlt;generalize(s[k].toNat:Int)=ch at*;cases hc:jc ch
  ·have F:Hid (lY s 0=false):=by show _=_;rw[HE.out,ha,hc];rfl
   clear ha
   go_wp2_with (go_at_call 102;refine(Ir _ _).mono ?_;rintro e w' ⟨rfl,rfl⟩;rw[hc])
   go_ret;exact⟨bB (by rw[F.out];rfl),(by repeat (first|exact aj.refl _|assumption|refine aj.drewN ?_ _|refine aj.drew ?_|refine aj.alloc ?_ _|refine aj.grow ?_ _))⟩
  have F:Hid (lY s 0=lY s (k+1)):=by show _=_;rw[HE.out,ha,hc];rfl
  clear ha
  go_wp2_with (go_at_call 102;refine(Ir _ _).mono ?_;rintro e w' ⟨rfl,rfl⟩;rw[hc])
  go_round
  case rel=>exact⟨k+1,by omega,by go_num,F⟩
  case measure=>simp[intOf];omega
 have F:Hid (lY s 0=true):=by show _=_;rw[HE.out,AV (by omega)]
 by_cases h0:0<s.size
 ·have h0z:(0:Int)<(s.size:Int):=by omega
  go_wp2
  all_goals
   go_ret;exact⟨bB (by rw[F.out,Bool.eq_iff_iff];simp;omega),(by repeat (first|exact aj.refl _|assumption|refine aj.drewN ?_ _|refine aj.drew ?_|refine aj.alloc ?_ _|refine aj.grow ?_ _))⟩
 have h0z:¬(0:Int)<(s.size:Int):=by omega
 go_wp2;go_ret;exact⟨bB rfl,(by repeat (first|exact aj.refl _|assumption|refine aj.drewN ?_ _|refine aj.drew ?_|refine aj.alloc ?_ _|refine aj.grow ?_ _))⟩
theorem Aa {x:Int} (h:gP x=true):jc x=true:=by simp[jc,h]
theorem DX {s:ByteArray} (h:oo s=false):eX s=false:=by
 unfold oo at h
 by_cases hr:0<s.size∧s.size≤12
 ·rw[decide_eq_true hr,Bool.and_true,mW hr.1] at h;rw[lZ hr.1 hr.2];cases hb:gP s[0].toNat;·rfl
  rw[Aa hb,Bool.true_and] at h;rw[h];rfl
 unfold eX;rw[decide_eq_false hr];rfl
theorem Cb {s:ByteArray} (h:oo s=true):∃h0:0<s.size,eX s=gP s[0].toNat:=by unfold oo at h;rw[Bool.and_eq_true,decide_eq_true_eq] at h;refine⟨h.2.1,?_⟩;rw[lZ h.2.1 h.2.2];have h1:=h.1;rw[mW h.2.1,Bool.and_eq_true] at h1;rw[h1.2,Bool.and_true]
theorem rT (s:ByteArray) (w:World) (hs:s.size≤9223372036854775807):Calls Tryz.prog 63 #[.string s] w fun e w'=>e=.returned (.bool (eX s))∧aj w w':=by
 cases hw:oo s
 ·have hn:=DX hw;rw[hn]
  go_enter Tryz.func63,Tryz.ntmps63
  go_wp2_with (go_at_call 80;refine(Ca _ _ hs).mono ?_;rintro e w1 ⟨rfl,hL⟩;rw[hw])
  go_ret;exact⟨rfl,hL⟩
 obtain⟨h0,hn⟩:=Cb hw;rw[hn];have h0z:(0:Int)<(s.size:Int):=by omega
 go_enter Tryz.func63,Tryz.ntmps63
 go_wp2_with (first
  |(go_at_call 80;refine(Ca _ _ hs).mono ?_;rintro e w1 ⟨rfl,hL⟩;rw[hw])
  |(go_at_call 81;refine(BZ _ _).mono ?_;rintro e w2 ⟨rfl,rfl⟩))
 go_ret;exact⟨rfl,by assumption⟩
def okF (f:aG):Prop:=f.1.size≤9223372036854775807∧∀s∈f.2,s.size≤9223372036854775807
theorem DY {f:aG} (h:okF f) (k:Nat):(f.2.getD k ByteArray.empty).size≤9223372036854775807:=by
 rw[List.getD_eq_getElem?_getD];cases e:f.2[k]? with
 |none=>simp
 |some s=>exact h.2 s (List.mem_of_getElem? e)
theorem Iu (v:Value) (f:aG) (w:World) (h:dh w v f) (hok:okF f):
  Calls Tryz.prog 40 #[v] w fun e w'=>e=.returned (.int .i64 (eF f))∧aj w w':=by
 obtain⟨s,rfl,l0,a,c,rfl,hc⟩:=h;have HC:=au hc;have HOK:=au hok;have hn0:=hok.1;clear hc hok;obtain⟨n,x⟩:=f;unfold eF;dsimp only at*;cases hn:eX n
 ·go_enter Tryz.func40,Tryz.ntmps40
  go_wp2_with (go_at_call 63;refine(rT _ _ hn0).mono ?_;rintro e w1 ⟨rfl,hL⟩;rw[hn])
  go_ret;exact⟨rfl,((aj.refl _).alloc _).trans hL⟩
 by_cases h4:4<x.length
 ·rw[if_pos h4]
  go_enter Tryz.func40,Tryz.ntmps40
  go_wp2_with fail
  refine(rT _ _ hn0).mono ?_;rintro e w1 ⟨rfl,hL⟩;rw[hn];have z1:w1.cell? ⟨w.heap.size,1,none⟩=some (.slice a x.length c):=by rw[hL.cell (by simp)];simp
  go_wp2;go_ret;exact⟨rfl,((aj.refl _).alloc _).trans hL⟩
 rw[if_neg h4];simp only[Bool.not_true,Bool.false_eq_true,if_false];generalize hres:(if dZ x 0=true then(7:Int) else 0)=r;have KY:=au hres;clear hres
 go_enter Tryz.func40,Tryz.ntmps40
 go_wp2_with fail
 refine(rT _ _ hn0).mono ?_;rintro e w1 ⟨rfl,hL⟩;rw[hn];have hL0:aj w w1:=((aj.refl _).alloc _).trans hL;have z1:w1.cell? ⟨w.heap.size,1,none⟩=some (.slice a x.length c):=by rw[hL.cell (by simp)];simp
 go_wp2
 go_loopw [16] (fun i wr=>∃k:Nat,k≤x.length∧i=.int .i64 k∧aj w1 wr∧Hid (dZ x 0=dZ x k)) (fun i _=>x.length- (intOf i).toNat)
 case atStart=>exact⟨0,by omega,rfl,aj.refl _,(rfl:_=_)⟩
 obtain⟨k,hk,rfl,hLr,HE⟩:=hrel
 by_cases hlt:k<x.length
 ·obtain⟨b,off,rfl,hb,hcell⟩:=HC.out (by intro e;rw[e] at hlt;simp at hlt);have hltz:(k:Int)<(x.length:Int):=by omega
  have g1:=hcell k hlt;rw[←(hL0.trans hLr).cell (p:=⟨b,off+k,none⟩) hb] at g1;have hs:=oP hlt;have hsz:=DY HOK.out k;dsimp only at hsz;clear hcell;generalize x.getD k ByteArray.empty=s at*;cases hns:eX s
  ·have F:Hid (dZ x 0=true):=by show _=_;rw[HE.out,hs,hns];rfl
   clear hs
   go_wp2_with (go_at_call 63;refine(rT _ _ hsz).mono ?_;rintro e w2 ⟨rfl,hL2⟩;rw[hns])
   go_ret;exact⟨mP (by rw[←KY.out,F.out];rfl),hL0.trans (hLr.trans hL2)⟩
  have F:Hid (dZ x 0=dZ x (k+1)):=by show _=_;rw[HE.out,hs,hns];rfl
  clear hs
  go_wp2_with (go_at_call 63;refine(rT _ _ hsz).mono ?_;rintro e w2 ⟨rfl,hL2⟩;rw[hns])
  go_roundw
  case rel=>exact⟨k+1,by omega,by go_num,hLr.trans hL2,F⟩
  case measure=>simp[intOf];omega
 have F:Hid (dZ x 0=false):=by show _=_;rw[HE.out,qX (by omega)]
 go_wp2;go_ret;exact⟨mP (by rw[←KY.out,F.out];rfl),hL0.trans hLr⟩
end Go.Proofs.YthngiikhgplldaaGreatDoor
