import Derived.Test.YtafmbokfkbccaaaGreatDoorJN15
import Derived.Test.YtafmbokfkbccaaaGreatDoorJN17
import Derived.Test.YtafmbokfkbccaaaGreatDoorJN16
import Derived.BigQuiet
namespace Go.Proofs.YtafmbokfkbccaaaGreatDoor
open Go.RowKit Go.Sort Go.Maps
def EG (w:World) (v:Value) (er:Int) (a:Int×List au):Prop:=er=a.1∧(a.1≠0→v=.slice none 0 0)∧(a.1=0→Facts w v a.2)
theorem uj (n:Int) (fs:List au) (p:List aA) (acc:List au):jk n fs p [] acc=(0,dK acc):=by cases p <;> rfl
theorem EH {L:List au} (h:∀f∈L,mG f):∀f∈dK L,mG f:=fun f hf=>h f (cu.1 hf)
theorem lJ {P:Program} {K E:TypeId} {L:List au} {b n:Nat} (w:World) {ops:Array Oper} {rest:List Oper} {o:Oper} {a:Act} {Q:Exit→Act→World→Prop} (hg:o.guard=none) (m:Operand) (t:TypeId)
  (hop:o.op=Op.call {callee:=Callee.builtin Builtin.len,args:=#[m],argTypes:=#[t]}) (ht:P.underlying t=some (.map K E)) (hm:a.eval m=.map (some b)) (h:fT P K w b n L)
  (hK:wpList P ops Q rest (a.put o.dst (.int .i64 ((dK L).length:Nat))) w):wpList P ops Q (o::rest) a w:=by
 refine wpList_plain hg fun K' hK'=> ?_;unfold Oper.wp;simp[execOp,hop,resolve,invoke,builtin,hm,h.len ht o.type,Result.andThen];exact hK' _ _ hK
set_option maxRecDepth 100000 in
set_option maxHeartbeats 4000000 in
theorem Rl (p:List aA) (ss:List Nat) (n:Int) (fs:List au) (pv sv fv:Value) (w:World) (hp:dU.sl bZ w pv p) (hss:oG.sl bZ w sv ss) (hf:Facts w fv fs) (h16:p.length≤16) (Rm:fs.length≤200)
  (hok:∀r∈p,pJ r.body fs []=0) (hsh:∀r∈p,∀R,lX (fun _=>fs) r.body=some R→∀l∈R,∀f,aV r.head l=some f→mG f) (hfs:∀f∈fs,mG f):
  Calls Tryz.prog 125 #[pv,sv,.int .i64 n,fv] w fun e w'=>∃v' er,e=.returned (.tuple #[v',.int .i64 er])∧EG w' v' er (fu p ss n fs)∧Below w.heap.size w w':=by
 obtain⟨pa,pc,rfl⟩:=Kind.slice hp;obtain⟨sa,sc,rfl⟩:=Kind.slice hss;obtain⟨fa,fc,rfl⟩:=aB hf;have hsl:=hss.1.1;have HP:=hide hp;have HSS:=hide hss;have HF:=hide hf;have HOk:=hide hok;have HSh:=hide hsh;have hL1:Later w (w.alloc (.map #[] 0)):=(Later.refl w).alloc _;have HAd:=hide (yL w.heap.size 0 [] (.slice fa fs.length fc) fs (w.alloc (.map #[] 0)) (fT.made _ _ _) (hf.later hL1) hfs (by omega));have HL1:=hide hL1.below;have hmm:= @run_makeMap Tryz.prog;clear hp hss hf hok hsh hfs hL1
 go_enter Tryz.func125,Tryz.ntmps125
 go_wp2_with fail
 refine HAd.out.mono ?_;rintro e w2 ⟨⟨u2,rfl⟩,hK2,hT2⟩;have HK2:Hid (KnN w2 w.heap.size (0+fs.length) fs):=by show KnN _ _ _ _;simpa using hK2
 have HB2:Hid (Below w.heap.size w w2):=HL1.out.trans (hT2.below (Nat.le_refl _) (by simp));clear hK2 hT2 HAd HL1 hmm;go_wp2
 go_loopg [21] p.length (fun g i wr=>∃j:Nat,j+g=p.length∧i=.int .i64 j∧∃acc m,m≤200+20000*j∧Hid (KnN wr w.heap.size m acc)∧Hid (Below w.heap.size w wr)∧Hid (fu p ss n fs=jk n fs (p.drop j) (ss.drop j) acc))
 case atStart=>exact⟨0,by omega,rfl,fs,_,by omega,HK2,HB2,(rfl:_=_)⟩
 case round=>
  clear HK2 HB2;obtain⟨j,hj,rfl,acc,m,hm,HK,HBr,HE⟩:=hrel
  by_cases hlt:j<p.length
  ·obtain⟨r,hr⟩:∃x,p[j]?=some x:=⟨_,List.getElem?_eq_getElem hlt⟩;have hrm:r∈p:=List.mem_of_getElem? hr;obtain⟨b1,o1,_,rfl,hb1,⟨tv,bv,rfl,htv,hbv⟩,hc⟩:=Kind.fC HP.out hr;have d0:wr.cell? ⟨b1,o1+j*4,none⟩=some (.bool r.head.no):=by rw[HBr.out.cell (p:=⟨b1,o1+j*4,none⟩) hb1];exact hc 0 _ rfl
   have d1:wr.cell? ⟨b1,o1+j*4+1,none⟩=some (.string (bs r.head.name)):=by rw[HBr.out.cell (p:=⟨b1,o1+j*4+1,none⟩) hb1];exact hc 1 _ rfl
   have d2:wr.cell? ⟨b1,o1+j*4+2,none⟩=some tv:=by rw[HBr.out.cell (p:=⟨b1,o1+j*4+2,none⟩) hb1];exact hc 2 _ rfl
   have d3:wr.cell? ⟨b1,o1+j*4+3,none⟩=some bv:=by rw[HBr.out.cell (p:=⟨b1,o1+j*4+3,none⟩) hb1];exact hc 3 _ rfl
   have hpd:p.drop j=r::p.drop (j+1):=by
    obtain⟨h1,e1⟩:=List.getElem?_eq_some_iff.1 hr;rw[List.drop_eq_getElem_cons h1,e1]
   obtain⟨ta,tc,rfl⟩:=Kind.slice htv;obtain⟨ba,bc,rfl⟩:=Kind.slice hbv;have hwr:=HBr.out.size
   by_cases hsj:j<ss.length
   ·obtain⟨s,hs⟩:∃x,ss[j]?=some x:=⟨_,List.getElem?_eq_getElem hsj⟩;obtain⟨b2,o2,_,rfl,hb2,rfl,hc2⟩:=Kind.fC HSS.out hs;have e0:wr.cell? ⟨b2,o2+j,none⟩=some (.int .i64 s):=by rw[HBr.out.cell (p:=⟨b2,o2+j,none⟩) hb2];simpa[oG] using hc2 0 _ rfl
    have hsd:ss.drop j=s::ss.drop (j+1):=by
     obtain⟨h1,e1⟩:=List.getElem?_eq_some_iff.1 hs;rw[List.drop_eq_getElem_cons h1,e1]
    have hstep:fu p ss n fs=if(s:Int)=n then(match gH r fs with
      |none=>(4,[])
      |some x=>if 200<(dK (acc++x)).length then(5,[]) else jk n fs (p.drop (j+1)) (ss.drop (j+1)) (acc++x)) else jk n fs (p.drop (j+1)) (ss.drop (j+1)) acc:=by
     rw[HE.out,hpd,hsd];rfl
    have Tx:(j:Int)<(ss.length:Int):=by omega
    have Xb:b2<wr.heap.size:=by omega
    by_cases hsn:(s:Int)=n
    ·rw[if_pos hsn] at hstep;obtain⟨wb,hwb⟩:∃wb,wb=wr.alloc (.cells #[.bool r.head.no,.string (bs r.head.name),.slice ta r.head.terms.length tc,.slice ba r.body.length bc] 87):=⟨_,rfl⟩;have hLb:Later wr wb:=by rw[hwb];exact(Later.refl _).alloc _
     have hBb:Below w.heap.size w wb:=aj HBr.out hLb.below hwr;have HH:=hide (GZ r (.slice ta r.head.terms.length tc) (.slice ba r.body.length bc) (.slice fa fs.length fc) fs wb (Kind.aY htv hBb) (Kind.aY hbv hBb) (HF.out.below hBb) (HSh.out r hrm));have h0:=HOk.out r hrm;have Tz:=HSh.out r hrm;have HKb:=hide (HK.out.later hLb);have HBb:=hide hBb;have HWb:=hide hwb;clear hc hc2 hr hs htv hbv hpd hsd HE hLb hBb hwb hrm;have hneq:((s:Int) != n)=false:=by simp[hsn]
     generalize bs r.head.name=nm at*;generalize hno:r.head.no=no at*;clear hno;subst hsn
     go_wp2_with fail
     rw[←HWb.out];refine HH.out.mono ?_;rintro e w3 ⟨v3,er,rfl,hT3,hB3⟩;unfold mI at hT3;rw[if_neg (by simp[h0])] at hT3;have HB3:Hid (Below w.heap.size w w3):=aj HBb.out hB3 HBb.out.size;have HK3:=hide (HKb.out.below hB3);clear hB3 HH HWb HKb HBb;cases hh:gH r fs with
     |none=>
      rw[hh] at hT3 hstep;obtain⟨rfl,rfl⟩:=hT3;have HT:Hid (∀w',EG w' (.slice none 0 0) 4 (fu p ss s fs)):=fun w'=>by rw[hstep];exact⟨rfl,fun _=>rfl,fun h=>by simp at h⟩
      clear hstep hh;go_wp2;exact bodyPost_ret (v:=.tuple #[.slice none 0 0,.int .i64 4]) (by simp[results,Tryz.results125,go_sem]) rfl ⟨_,4,rfl,HT.out _,HB3.out⟩
     |some x=>
      rw[hh] at hT3 hstep;obtain⟨rfl,hF3⟩:=hT3;have hxs:(∀f∈x,mG f)∧x.length≤20000:=by
       unfold gH at hh;cases hR:lX (fun _=>fs) r.body with
       |none=>rw[hR] at hh;cases hh
       |some R=>
        rw[hR] at hh;cases hh;refine⟨EH fun f hf=> ?_,Nat.le_trans (rY _) (Nat.le_trans (List.length_filterMap_le _ _) (kM hR))⟩;obtain⟨l,hl,hlf⟩:=List.mem_filterMap.1 hf;exact Tz R hR l hl f hlf
      have hxl:=hxs.2;have HAd:=hide (yL w.heap.size m acc v3 x w3 HK3.out hF3 hxs.1 (by omega));obtain⟨xa,xc,rfl⟩:=aB hF3;dsimp only at hstep;have HST:=hide hstep;clear hF3 hxs hh hstep Tz HK3
      go_wp2_with fail
      refine HAd.out.mono ?_;rintro e w4 ⟨⟨u4,rfl⟩,hK4,hT4⟩;have HB4:Hid (Below w.heap.size w w4):=HB3.out.trans (hT4.below (Nat.le_refl _) HB3.out.size);have HK4:=hide hK4;clear hK4 hT4 HAd
      by_cases hbig:200<(dK (acc++x)).length
      ·have HT:Hid (∀w',EG w' (.slice none 0 0) 5 (fu p ss s fs)):=fun w'=>by rw[HST.out,if_pos hbig];exact⟨rfl,fun _=>rfl,fun h=>by simp at h⟩
       have hbi:(200:Int)<((dK (acc++x)).length:Nat):=by omega
       clear HST hbig
       go_wp2_with (at_len;refine lJ _ rfl _ 160 rfl Tryz.underlying160 rfl HK4.out ?_)
       exact bodyPost_ret (v:=.tuple #[.slice none 0 0,.int .i64 5]) (by simp[results,Tryz.results125,go_sem]) rfl ⟨_,5,rfl,HT.out _,HB4.out⟩
      ·have HE4:Hid (fu p ss s fs=jk s fs (p.drop (j+1)) (ss.drop (j+1)) (acc++x)):=by show _=_;rw[HST.out,if_neg hbig]
       have hbi:¬(200:Int)<((dK (acc++x)).length:Nat):=by omega
       clear HST hbig
       go_wp2_with (at_len;refine lJ _ rfl _ 160 rfl Tryz.underlying160 rfl HK4.out ?_)
       go_roundg (p.length- (j+1))
       case measure=>omega
       case rel=>exact⟨j+1,by omega,by go_num,acc++x,m+x.length,by omega,HK4,HB4,HE4⟩
    ·rw[if_neg hsn] at hstep;have HE4:Hid (fu p ss n fs=jk n fs (p.drop (j+1)) (ss.drop (j+1)) acc):=hstep;have HB4:Hid (Below w.heap.size w (wr.alloc (.cells #[.bool r.head.no,.string (bs r.head.name),.slice ta r.head.terms.length tc,.slice ba r.body.length bc] 87))):=aj HBr.out ((Later.refl _).alloc _).below hwr;have HK4:Hid (KnN (wr.alloc (.cells #[.bool r.head.no,.string (bs r.head.name),.slice ta r.head.terms.length tc,.slice ba r.body.length bc] 87)) w.heap.size m acc):=HK.out.later ((Later.refl _).alloc _);have hneq:((s:Int) != n)=true:=by simpa using hsn
     clear hstep hc hc2 hr hs htv hbv hpd hsd HE hsn hrm;generalize bs r.head.name=nm at*;generalize r.head.no=no at*;go_wp2
     go_roundg (p.length- (j+1))
     case measure=>omega
     case rel=>exact⟨j+1,by omega,by go_num,acc,m,by omega,HK4,HB4,HE4⟩
   ·have hsd:ss.drop j=[]:=List.drop_eq_nil_of_le (by omega);have hsd2:ss.drop (j+1)=[]:=List.drop_eq_nil_of_le (by omega);have HE4:Hid (fu p ss n fs=jk n fs (p.drop (j+1)) (ss.drop (j+1)) acc):=by show _=_;rw[HE.out,hsd,hsd2,uj,uj]
    have HB4:Hid (Below w.heap.size w (wr.alloc (.cells #[.bool r.head.no,.string (bs r.head.name),.slice ta r.head.terms.length tc,.slice ba r.body.length bc] 87))):=aj HBr.out ((Later.refl _).alloc _).below hwr;have HK4:Hid (KnN (wr.alloc (.cells #[.bool r.head.no,.string (bs r.head.name),.slice ta r.head.terms.length tc,.slice ba r.body.length bc] 87)) w.heap.size m acc):=HK.out.later ((Later.refl _).alloc _);have Tx:(ss.length:Int)≤(j:Int):=by omega
    clear hc hr htv hbv hpd hsd hsd2 HE hrm hsj;generalize bs r.head.name=nm at*;generalize r.head.no=no at*;go_wp2
    go_roundg (p.length- (j+1))
    case measure=>omega
    case rel=>exact⟨j+1,by omega,by go_num,acc,m,by omega,HK4,HB4,HE4⟩
  ·have hd:p.drop j=[]:=List.drop_eq_nil_of_le (by omega);have HX:Hid (fu p ss n fs=(0,dK acc)):=by show _=_;rw[HE.out,hd];rfl
   have HSt:=hide (Du _ _ _ wr HK.out (by omega));clear hd HE
   go_wp2_with fail
   refine HSt.out.mono ?_;rintro e w6 ⟨v6,rfl,hF6,hB6⟩;have HT6:Hid (EG w6 v6 0 (fu p ss n fs)):=by show EG _ _ _ _;rw[HX.out];exact⟨rfl,fun h=>absurd rfl h,fun _=>hF6⟩
   have HB6:Hid (Below w.heap.size w w6):=aj HBr.out hB6 HBr.out.size;obtain⟨a6,c6,rfl⟩:=aB hF6;clear hF6 hB6;go_wp2;exact bodyPost_ret (v:=.tuple #[.slice a6 (dK acc).length c6,.int .i64 0]) (by simp[results,Tryz.results125,go_sem]) rfl ⟨_,0,rfl,HT6.out,HB6.out⟩
end Go.Proofs.YtafmbokfkbccaaaGreatDoor
namespace Go.Proofs.YtafmbokfkbccaaaGreatDoor
open Go.RowKit Go.Sort Go.Maps
theorem nX {f:au} (h:kJ f):mG f:=
 ⟨by have:=uh h.1;omega,h.2.1,fun s hs=>by have:=uh (h.2.2 s hs);omega⟩
theorem mJ {l:List au} (hw:∀f∈l,fA f=0) (hu:Up l):∀(n k:Nat),k+n=l.length→dB l n k=(0,0)
 |0,_,_=>rfl
 |n+1,k,h=>by
  have hk:k<l.length:=by omega
  unfold dB;have e1:fA (l.getD k aC)=0:=hw _ (by rw[List.getD_eq_getElem?_getD,List.getElem?_eq_getElem hk];exact List.getElem_mem hk);rw[if_neg (by rw[e1];simp),if_neg,mJ hw hu n (k+1) (by omega)];rintro⟨h0,h1⟩;have:=List.pairwise_iff_getElem.1 hu (k-1) k (by omega) hk (by omega);rw[List.getD_eq_getElem?_getD,List.getD_eq_getElem?_getD,List.getElem?_eq_getElem (by omega),List.getElem?_eq_getElem hk] at h1;simp only[Option.getD_some] at h1;omega
theorem iZ {l:List au} (hu:Up l) (hr:∀f∈l,kJ f) (hl:l.length≤200):bA l=(0,0):=by
 unfold bA;rw[if_neg (by omega)];exact mJ (fun f hf=>j4.2 (hr f hf)) hu _ 0 (by omega)
theorem yP {p:List aA} {l:List au} (h:(bA l).1=0) (hf:∀f∈l,zH p f=true):GoodS p l:=by
 obtain⟨h1,h2,h3⟩:=set_right h;exact⟨h2,fun f hf=>j4.1 (h3 f hf),h1,hf⟩
theorem qB {p:List aA} (hp:cZ p) {L:List au} (hL:GoodS p L):∀r∈p,pJ r.body L []=0:=fun r hr=>by
 unfold pJ;rw[if_neg (by simp[(hp.rules r hr).body]),if_neg (by rw[iZ hL.up hL.right hL.few];simp)]
 rfl
theorem nY {p:List aA} (hp:cZ p) {L:List au} (hL:GoodS p L):∀r∈p,∀R,lX (fun _=>L) r.body=some R→∀l∈R,∀f,aV r.head l=some f→mG f:=fun r hr _ hR l hl _ hf=>
 nX (qb (hp.rules r hr) hL.right ((nT (dJ (hp.rules r hr)) hR l).1 hl) hf).1
end Go.Proofs.YtafmbokfkbccaaaGreatDoor
namespace Go.Proofs.YtafmbokfkbccaaaGreatDoor
open Go.RowKit Go.Sort Go.Maps
theorem Cw {p:List aA} (hp:cZ p) {K N:List au} (hK:GoodS p K) (hN:Up N) (hs:∀f∈N,f∈K):∀r∈p,pJ r.body K N=0:=fun r hr=>by
 unfold pJ;rw[if_neg (by simp[(hp.rules r hr).body]),if_neg (by rw[iZ hK.up hK.right hK.few];simp),iZ hN (fun f hf=>hK.right f (hs f hf)) (Nat.le_trans (sO hN hs) hK.few)]
def FQ (K N:List au) (r:aA) (acc:List au) (mb:Nat) (kv nv:Value) (er:Int) (w:World):Prop:=match BA K N r acc with
 |none=>er=4
 |some acc'=>er=0∧∃D',MkB mb kv nv D' w∧rG K D' acc'
theorem Mx (l:List aF):(l.any fun a=> !a.no)= !(l.all fun a=>a.no):=by
 induction l with
 |nil=>rfl
 |cons a l ih=>rw[List.any_cons,List.all_cons,ih];cases a.no <;> rfl
set_option maxRecDepth 100000 in
set_option maxHeartbeats 4000000 in
theorem JX (p:List aA) (hp:cZ p) (r:aA) (hr:r∈p) (K N D acc:List au) (hK:GoodS p K) (hN:Up N) (hs:∀f∈N,f∈K) (mb:Nat) (kv nv tv bv:Value) (w0 w:World) (hk:Facts w0 kv K) (hn:Facts w0 nv N)
  (ht:dL.sl bZ w0 tv r.head.terms) (hb:bU.sl bZ w0 bv r.body) (h0:w0.heap.size≤mb) (hB:Below w0.heap.size w0 w) (hm:MkB mb kv nv D w) (hM:rG K D acc):
  Calls Tryz.prog 211 #[.pointer (some ⟨mb,0,none⟩),.agg #[.bool r.head.no,.string (bs r.head.name),tv,bv]] w fun e w'=>∃er,e=.returned (.int .i64 er)∧FQ K N r acc mb kv nv er w'∧Tn mb w w':=by
 have hKf:=hK.few;have hNf:=Nat.le_trans (sO hN hs) hK.few;have HE0:=hide (qB hp hK r hr);have HEN:=hide (Cw hp hK hN hs r hr);have HSh:=hide (nY hp hK r hr);have HU:=hide hK.up;have hmb:=hm.lt;have h5:=(wQ (hp.rules r hr).body).1;obtain⟨ta,tc,rfl⟩:=Kind.slice ht;obtain⟨ba,bc,rfl⟩:=Kind.slice hb;obtain⟨ka,kc,rfl⟩:=aB hk;obtain⟨na,nc,rfl⟩:=aB hn;have HK:=hide hk;have HN:=hide hn;have HT:=hide ht;have HBd:=hide hb;have HB:=hide hB;have HMk:=hide hm;have HM:=hide hM;obtain⟨wb,hwb⟩:∃wb,wb=w.alloc (.cells #[.bool r.head.no,.string (bs r.head.name),.slice ta r.head.terms.length tc,.slice ba r.body.length bc] 87):=⟨_,rfl⟩;have hLb:Later w wb:=by rw[hwb];exact(Later.refl w).alloc _
 have hrb:wb.heap[w.heap.size]?=some (.cells #[.bool r.head.no,.string (bs r.head.name),.slice ta r.head.terms.length tc,.slice ba r.body.length bc] 87 (0,0)):=by rw[hwb];exact heap_alloc_new w _
 have hBb:Below w0.heap.size w0 wb:=aj hB hLb.below hB.size;have HCn:=hide (containsAtom (.slice ba r.body.length bc) r.body wb (Kind.aY hb hBb));have c3:wb.cell? ⟨w.heap.size,3,none⟩=some (.slice ba r.body.length bc):=by rw[cell_of_row _ _ _ _ _ _ hrb];rfl
 have HLb:=hide hLb;have HRb:=hide hrb;have HWB:=hide hwb;rw[Mx] at HCn;clear hp hr hK hN hs hk hn ht hb hB hm hM hLb hrb hBb;generalize hal:(r.body.all fun a=>a.no)=al at*;have HAl:=hide hal;clear hal
 go_enter Tryz.func211,Tryz.ntmps211
 rw[hwb] at c3;clear hwb
 go_wp2_with fail
 rw[←HWB.out];clear c3;refine HCn.out.mono ?_;rintro e w1 ⟨rfl,hL1⟩;clear HCn HWB;have OI:w.heap.size<wb.heap.size:=(Array.getElem?_eq_some_iff.1 HRb.out).1;have EC:Later w w1:=HLb.out.trans hL1;have HR1:Hid (w1.heap[w.heap.size]?=some (.cells #[.bool r.head.no,.string (bs r.head.name),.slice ta r.head.terms.length tc,.slice ba r.body.length bc] 87 (0,0))):=by
  show _=_;rw[hL1.block OI];exact HRb.out
 have HB1:Hid (Below w0.heap.size w0 w1):=aj HB.out EC.below HB.out.size;have K9:Hid (MkB mb (.slice ka K.length kc) (.slice na N.length nc) D w1):=HMk.out.below EC.below;have Rn:Hid (Tn mb w w1):=Tn.of_below EC.below;have hw1:w.heap.size<w1.heap.size:=by have:=hL1.size;omega
 clear hL1 EC HLb HRb HMk HB OI wb;cases al with
 |true=>
  obtain⟨dv,hrow,_⟩:=K9.out;have HS:Hid (∀w',Below w1.heap.size w1 w'→w'.cell? ⟨w.heap.size,0,none⟩=some (.bool r.head.no)∧w'.cell? ⟨w.heap.size,0+1,none⟩=some (.string (bs r.head.name))∧w'.cell? ⟨w.heap.size,0+2,none⟩=some (.slice ta r.head.terms.length tc)∧w'.cell? ⟨w.heap.size,0+3,none⟩=some (.slice ba r.body.length bc)∧w'.cell? ⟨mb,0,none⟩=some (.slice ka K.length kc)):=fun w' h=>by
   have hr':=(h.block _ hw1).trans HR1.out;have hm':=(h.block _ (Array.getElem?_eq_some_iff.1 hrow).1).trans hrow;exact⟨by rw[cell_of_row _ _ _ _ _ _ hr'];rfl,by rw[cell_of_row _ _ _ _ _ _ hr'];rfl,by rw[cell_of_row _ _ _ _ _ _ hr'];rfl,by rw[cell_of_row _ _ _ _ _ _ hr'];rfl,by rw[cell_of_row _ _ _ _ _ _ hm'];rfl⟩
  have HH:Hid (∀w',Below w1.heap.size w1 w'→Calls Tryz.prog 42 #[.agg #[.bool r.head.no,.string (bs r.head.name),.slice ta r.head.terms.length tc,.slice ba r.body.length bc],.slice ka K.length kc] w' fun e w''=>∃v' er,e=.returned (.tuple #[v',.int .i64 er])∧mI w'' v' er r K∧Below w1.heap.size w1 w''):=fun w' h=>by
   have h':=aj HB1.out h HB1.out.size;exact(GZ r _ _ _ K w' (Kind.aY HT.out h') (Kind.aY HBd.out h') (HK.out.below h') HSh.out).mono fun e w'' ⟨v',er,he,hT,hB'⟩=>⟨v',er,he,hT,aj h hB' h.size⟩
  have HX:Hid (BA K N r acc=match gH r K with|none=>none|some x=>some (acc++x)):=by show _=_;unfold BA;rw[if_pos HAl.out];all_goals rfl
  clear HR1 HT HBd HSh HEN hrow;generalize bs r.head.name=nm at*;generalize r.head.no=no at*;go_wp2;refine wp_region_held_drew (S:=fun w'=>Below w1.heap.size w1 w') (by kernel_rfl) (Below.refl _ _).drew (fun hHeld=> ?_);refine ak (i:=0) (d:=some 16) (v:= ?_) rfl rfl hHeld ?_ ?_;rotate_left;focus intro w hSw;(try dsimp only at hSw);obtain⟨q0,q1,q2,q3,q4⟩:=HS.out _ hSw;go_simp;try with_reducible rfl
  simp only[aK,aL,aze,asu];refine ak (i:=1) (d:=some 17) (v:= ?_) rfl rfl hHeld ?_ ?_;rotate_left;focus intro w hSw;(try dsimp only at hSw);go_simp;try with_reducible rfl
  simp only[aK,aL,aze,asu];refine ak (i:=2) (d:=some 18) (v:= ?_) rfl rfl hHeld ?_ ?_;rotate_left;focus intro w hSw;(try dsimp only at hSw);go_simp;try with_reducible rfl
  simp only[aK,aL,aze,asu];refine ak (i:=3) (d:=some 19) (v:= ?_) rfl rfl hHeld ?_ ?_;rotate_left;focus intro w hSw;(try dsimp only at hSw);go_simp;try with_reducible rfl
  simp only[aK,aL,aze,asu];refine ak (i:=4) (d:=some 20) (v:= ?_) rfl rfl hHeld ?_ ?_;rotate_left;focus intro w hSw;(try dsimp only at hSw);obtain⟨q0,q1,q2,q3,q4⟩:=HS.out _ hSw;go_simp;try with_reducible rfl
  simp only[aK,aL,aze,asu];refine wpAnyH_ready (rs:=[5]) (by kernel_rfl) (by simp) ?_;refine AllReadyH.cons rfl (fun K hK=> ?_) AllReadyH.nil;go_simp;refine(HH.out _ hHeld).mono ?_;rintro e w2 ⟨v2,er,rfl,hT2,hB2⟩;refine hK.out _ _ hB2 (fun hHeld=> ?_);clear hK K;refine ak (i:=6) (d:=some 15) (v:= ?_) rfl rfl hHeld ?_ ?_;rotate_left;focus intro w hSw;(try dsimp only at hSw);go_simp;try with_reducible rfl
  simp only[aK,aL,aze,asu];refine ak (i:=7) (d:=some 22) (v:= ?_) rfl rfl hHeld ?_ ?_;rotate_left;focus intro w hSw;(try dsimp only at hSw);go_simp;try with_reducible rfl
  simp only[aK,aL,aze,asu];refine ak (i:=8) (d:=some 23) (v:= ?_) rfl rfl hHeld ?_ ?_;rotate_left;focus intro w hSw;(try dsimp only at hSw);go_simp;try with_reducible rfl
  simp only[aK,aL,aze,asu];refine ak (i:=9) (d:=some 5) (v:= ?_) rfl rfl hHeld ?_ ?_;rotate_left;focus intro w hSw;(try dsimp only at hSw);go_simp;try with_reducible rfl
  simp only[aK,aL,aze,asu];refine ak (i:=10) (d:=some 6) (v:= ?_) rfl rfl hHeld ?_ ?_;rotate_left;focus intro w hSw;(try dsimp only at hSw);go_simp;try with_reducible rfl
  simp only[aK,aL,aze,asu];refine wpAnyH_done (by kernel_rfl) ?_ _;unfold mI at hT2;rw[if_neg (by rw[HE0.out];simp)] at hT2;have HB2:=hide hB2;have OP:Hid (MkB mb (.slice ka K.length kc) (.slice na N.length nc) D w2):=K9.out.below hB2;have HK2:Hid (Facts w2 (.slice ka K.length kc) K):=HK.out.below (aj HB1.out hB2 HB1.out.size);have NH:Hid (Tn mb w w2):=Rn.out.trans (Tn.of_below hB2);clear hB2 hHeld HS HH HE0;cases hh:gH r K with
  |none=>
   rw[hh] at hT2;obtain⟨rfl,rfl⟩:=hT2;have HA:=hide (yO mb K D [] (.slice ka K.length kc) (.slice na N.length nc) (.slice none 0 0) w2 OP.out HK2.out HU.out (tY w2) hKf (by simp) HM.out.few);have HTo:Hid (∀w',FQ K N r acc mb (.slice ka K.length kc) (.slice na N.length nc) 4 w'):=fun w'=>by unfold FQ;rw[HX.out,hh]
   clear hh
   go_wp2_with fail
   refine HA.out.mono ?_;rintro e w3 ⟨⟨u3,rfl⟩,_,La⟩;have OQ:=hide (NH.out.trans La);clear La;go_wp2;go_ret;exact⟨4,rfl,HTo.out _,OQ.out⟩
  |some x=>
   rw[hh] at hT2;obtain⟨rfl,hF2⟩:=hT2;have hxl:x.length≤20000:=by
    unfold gH at hh;split at hh
    ·cases hh
    ·rename_i R hR;cases hh;have h1:=rY (R.filterMap fun l=>aV r.head l);have h2:=List.length_filterMap_le (fun l=>aV r.head l) R;have h3:=kM hR;omega
   obtain⟨xa,xc,rfl⟩:=aB hF2;have HA:=hide (yO mb K D x (.slice ka K.length kc) (.slice na N.length nc) (.slice xa x.length xc) w2 OP.out HK2.out HU.out hF2 hKf hxl HM.out.few);have HTo:Hid (∀w',MkB mb (.slice ka K.length kc) (.slice na N.length nc) (OO K D x) w'→FQ K N r acc mb (.slice ka K.length kc) (.slice na N.length nc) 0 w'):=fun w' h=>by unfold FQ;rw[HX.out,hh];exact⟨rfl,_,h,HM.out.add x hxl⟩
   clear hh hF2 hxl
   go_wp2_with fail
   refine HA.out.mono ?_;rintro e w3 ⟨⟨u3,rfl⟩,TA,La⟩;have OQ:=hide (NH.out.trans La);have VA:=hide TA;clear La TA;go_wp2;go_ret;exact⟨0,rfl,HTo.out _ VA.out,OQ.out⟩
 |false=>
  have HX:Hid (BA K N r acc=vV K N r 0 (r.body.drop 0) acc):=by show _=_;unfold BA;rw[if_neg (by rw[HAl.out];simp)];rfl
  have c3:w1.cell? ⟨w.heap.size,3,none⟩=some (.slice ba r.body.length bc):=by rw[cell_of_row _ _ _ _ _ _ HR1.out];rfl
  clear HSh HE0;go_wp2
  go_loopg [31] r.body.length (fun g i wr=>∃j:Nat,j+g=r.body.length∧i=.int .i64 j∧∃D' acc',Hid (MkB mb (.slice ka K.length kc) (.slice na N.length nc) D' wr)∧Hid (rG K D' acc')∧Hid (Below w0.heap.size w0 wr)∧
   Hid (wr.heap[w.heap.size]?=some (.cells #[.bool r.head.no,.string (bs r.head.name),.slice ta r.head.terms.length tc,.slice ba r.body.length bc] 87 (0,0)))∧w.heap.size<wr.heap.size∧Hid (Tn mb w wr)∧Hid (BA K N r acc=vV K N r j (r.body.drop j) acc'))
  case atStart=>exact⟨0,by omega,rfl,D,acc,K9,HM,HB1,HR1,hw1,Rn,HX⟩
  case round=>
   clear K9 HM HB1 HR1 hw1 Rn HX c3 HAl;obtain⟨j,hj,rfl,D1,MB,HMk,HM,HBr,HR,hwr,HTn,HX⟩:=hrel
   by_cases hlt:j<r.body.length
   ·obtain⟨a,hx⟩:∃x,r.body[j]?=some x:=⟨_,List.getElem?_eq_getElem hlt⟩;obtain⟨b1,o1,_,rfl,hb1,⟨av,rfl,hav⟩,hc⟩:=Kind.fC HBd.out hx;obtain⟨aa,ac,rfl⟩:=Kind.slice hav;have d0:wr.cell? ⟨b1,o1+j*3,none⟩=some (.bool a.no):=by rw[HBr.out.cell (p:=⟨b1,o1+j*3,none⟩) hb1];exact hc 0 _ rfl
    have d1:wr.cell? ⟨b1,o1+j*3+1,none⟩=some (.string (bs a.name)):=by rw[HBr.out.cell (p:=⟨b1,o1+j*3+1,none⟩) hb1];exact hc 1 _ rfl
    have d2:wr.cell? ⟨b1,o1+j*3+2,none⟩=some (.slice aa a.terms.length ac):=by rw[HBr.out.cell (p:=⟨b1,o1+j*3+2,none⟩) hb1];exact hc 2 _ rfl
    have hX:vV K N r j (r.body.drop j) MB=if a.no then vV K N r (j+1) (r.body.drop (j+1)) MB else match lX (gG K (j:Nat) N) r.body with|none=>none|some R=>vV K N r (j+1) (r.body.drop (j+1)) (MB++R.filterMap fun e=>aV r.head e):=by
     obtain⟨h1,e1⟩:=List.getElem?_eq_some_iff.1 hx;rw[List.drop_eq_getElem_cons h1,e1,vV]
     all_goals rfl
    have HX2:=hide (HX.out.trans hX);obtain⟨wb,hwb⟩:∃wb,wb=wr.alloc (.cells #[.bool a.no,.string (bs a.name),.slice aa a.terms.length ac] 85):=⟨_,rfl⟩;have hLb:Later wr wb:=by rw[hwb];exact(Later.refl _).alloc _
    have hzb:wr.heap.size<wb.heap.size:=by rw[hwb];simp
    have MC:Hid (MkB mb (.slice ka K.length kc) (.slice na N.length nc) D1 wb):=HMk.out.below hLb.below;have HBb:Hid (Below w0.heap.size w0 wb):=aj HBr.out hLb.below HBr.out.size;have HRb:Hid (wb.heap[w.heap.size]?=some (.cells #[.bool r.head.no,.string (bs r.head.name),.slice ta r.head.terms.length tc,.slice (some ⟨b1,o1,none⟩) r.body.length bc] 87 (0,0))):=by show _=_;rw[hLb.block hwr];exact HR.out
    have Ro:Hid (Tn mb w wb):=HTn.out.trans (Tn.of_below hLb.below);have Qm:w.heap.size<wb.heap.size:=by omega
    have HWb:=hide hwb;clear hc hx hav hX HX hLb hwb HMk HBr HR HTn;cases hno:a.no with
    |true=>
     rw[hno] at d0 HWb;have HX3:Hid (BA K N r acc=vV K N r (j+1) (r.body.drop (j+1)) MB):=by show _=_;rw[HX2.out,hno];rfl
     clear hno HX2;generalize bs a.name=anm at*;go_wp2;rw[←HWb.out]
     go_roundg (r.body.length- (j+1))
     case measure=>omega
     case rel=>exact⟨j+1,by omega,by go_num,D1,MB,MC,HM,HBb,HRb,Qm,Ro,HX3⟩
    |false=>
     rw[hno] at d0 HWb;have hX3:BA K N r acc=match lX (gG K (j:Nat) N) r.body with|none=>none|some R=>vV K N r (j+1) (r.body.drop (j+1)) (MB++R.filterMap fun e=>aV r.head e):=by rw[HX2.out,hno];rfl
     have HX3:=hide hX3;obtain⟨dv,hrow,_⟩:=MC.out;have HS:Hid (∀w',Below wb.heap.size wb w'→w'.cell? ⟨w.heap.size,3,none⟩=some (.slice (some ⟨b1,o1,none⟩) r.body.length bc)∧w'.cell? ⟨mb,0,none⟩=some (.slice ka K.length kc)∧w'.cell? ⟨mb,1,none⟩=some (.slice na N.length nc)):=fun w' h=>by
      have hr':=(h.block _ Qm).trans HRb.out;have hm':=(h.block _ (Array.getElem?_eq_some_iff.1 hrow).1).trans hrow;exact⟨by rw[cell_of_row _ _ _ _ _ _ hr'];rfl,by rw[cell_of_row _ _ _ _ _ _ hm'];rfl,by rw[cell_of_row _ _ _ _ _ _ hm'];rfl⟩
     have HWi:Hid (∀w',Below wb.heap.size wb w'→Calls Tryz.prog 88 #[.slice (some ⟨b1,o1,none⟩) r.body.length bc,.slice ka K.length kc,.int .i64 (j:Nat),.slice na N.length nc] w' fun e w''=>∃v' er,e=.returned (.tuple #[v',.int .i64 er])∧yM w'' v' er r.body K (j:Nat) N∧Below wb.heap.size wb w''):=fun w' h=>by
      have h':=aj HBb.out h HBb.out.size;exact(Rf r.body _ _ _ K N (j:Nat) w' (Kind.aY HBd.out h') (HK.out.below h') (HN.out.below h')).mono fun e w'' ⟨v',er,he,hT,hB'⟩=>⟨v',er,he,hT,aj h hB' h.size⟩
     clear hno HX2 hX3 hrow;generalize bs a.name=anm at*;go_wp2;rw[←HWb.out];clear HWb d0 d1 d2;refine wp_region_held_drew (S:=fun w'=>Below wb.heap.size wb w') (by kernel_rfl) (Below.refl _ _).drew (fun hHeld=> ?_);refine ak (i:=0) (d:=some 39) (v:= ?_) rfl rfl hHeld ?_ ?_;rotate_left;focus intro w hSw;(try dsimp only at hSw);go_simp;try with_reducible rfl
     simp only[aK,aL,aze,asu];refine ak (i:=1) (d:=some 40) (v:= ?_) rfl rfl hHeld ?_ ?_;rotate_left;focus intro w hSw;(try dsimp only at hSw);obtain⟨q0,q1,q2⟩:=HS.out _ hSw;go_simp;try with_reducible rfl
     simp only[aK,aL,aze,asu];refine ak (i:=2) (d:=some 41) (v:= ?_) rfl rfl hHeld ?_ ?_;rotate_left;focus intro w hSw;(try dsimp only at hSw);go_simp;try with_reducible rfl
     simp only[aK,aL,aze,asu];refine ak (i:=3) (d:=some 42) (v:= ?_) rfl rfl hHeld ?_ ?_;rotate_left;focus intro w hSw;(try dsimp only at hSw);go_simp;try with_reducible rfl
     simp only[aK,aL,aze,asu];refine ak (i:=4) (d:=some 43) (v:= ?_) rfl rfl hHeld ?_ ?_;rotate_left;focus intro w hSw;(try dsimp only at hSw);go_simp;try with_reducible rfl
     simp only[aK,aL,aze,asu];refine ak (i:=5) (d:=some 44) (v:= ?_) rfl rfl hHeld ?_ ?_;rotate_left;focus intro w hSw;(try dsimp only at hSw);obtain⟨q0,q1,q2⟩:=HS.out _ hSw;go_simp;try with_reducible rfl
     simp only[aK,aL,aze,asu];refine ak (i:=6) (d:=some 45) (v:= ?_) rfl rfl hHeld ?_ ?_;rotate_left;focus intro w hSw;(try dsimp only at hSw);go_simp;try with_reducible rfl
     simp only[aK,aL,aze,asu];refine ak (i:=7) (d:=some 46) (v:= ?_) rfl rfl hHeld ?_ ?_;rotate_left;focus intro w hSw;(try dsimp only at hSw);go_simp;try with_reducible rfl
     simp only[aK,aL,aze,asu];refine ak (i:=8) (d:=some 47) (v:= ?_) rfl rfl hHeld ?_ ?_;rotate_left;focus intro w hSw;(try dsimp only at hSw);go_simp;try with_reducible rfl
     simp only[aK,aL,aze,asu];refine ak (i:=9) (d:=some 48) (v:= ?_) rfl rfl hHeld ?_ ?_;rotate_left;focus intro w hSw;(try dsimp only at hSw);go_simp;try with_reducible rfl
     simp only[aK,aL,aze,asu];refine ak (i:=10) (d:=some 49) (v:= ?_) rfl rfl hHeld ?_ ?_;rotate_left;focus intro w hSw;(try dsimp only at hSw);obtain⟨q0,q1,q2⟩:=HS.out _ hSw;go_simp;try with_reducible rfl
     simp only[aK,aL,aze,asu];refine wpAnyH_ready (rs:=[11]) (by kernel_rfl) (by simp) ?_;refine AllReadyH.cons rfl (fun K hK=> ?_) AllReadyH.nil;go_simp;refine(HWi.out _ hHeld).mono ?_;rintro e w2 ⟨v2,er,rfl,hT2,hB2⟩;refine hK.out _ _ hB2 (fun hHeld=> ?_);clear hK K;refine ak (i:=12) (d:=some 38) (v:= ?_) rfl rfl hHeld ?_ ?_;rotate_left;focus intro w hSw;(try dsimp only at hSw);go_simp;try with_reducible rfl
     simp only[aK,aL,aze,asu];refine ak (i:=13) (d:=some 51) (v:= ?_) rfl rfl hHeld ?_ ?_;rotate_left;focus intro w hSw;(try dsimp only at hSw);go_simp;try with_reducible rfl
     simp only[aK,aL,aze,asu];refine ak (i:=14) (d:=some 52) (v:= ?_) rfl rfl hHeld ?_ ?_;rotate_left;focus intro w hSw;(try dsimp only at hSw);go_simp;try with_reducible rfl
     simp only[aK,aL,aze,asu];refine ak (i:=15) (d:=some 9) (v:= ?_) rfl rfl hHeld ?_ ?_;rotate_left;focus intro w hSw;(try dsimp only at hSw);go_simp;try with_reducible rfl
     simp only[aK,aL,aze,asu];refine ak (i:=16) (d:=some 10) (v:= ?_) rfl rfl hHeld ?_ ?_;rotate_left;focus intro w hSw;(try dsimp only at hSw);go_simp;try with_reducible rfl
     simp only[aK,aL,aze,asu];refine wpAnyH_done (by kernel_rfl) ?_ _;unfold yM at hT2;rw[if_neg (by rw[HEN.out];simp)] at hT2;have OP:Hid (MkB mb (.slice ka K.length kc) (.slice na N.length nc) D1 w2):=MC.out.below hB2;have HB2:Hid (Below w0.heap.size w0 w2):=aj HBb.out hB2 HBb.out.size;have NH:Hid (Tn mb w w2):=Ro.out.trans (Tn.of_below hB2);have HR2:Hid (w2.heap[w.heap.size]?=some (.cells #[.bool r.head.no,.string (bs r.head.name),.slice ta r.head.terms.length tc,.slice (some ⟨b1,o1,none⟩) r.body.length bc] 87 (0,0))):=by show _=_;rw[hB2.block _ Qm];exact HRb.out
     have hw2:w.heap.size<w2.heap.size:=by have:=hB2.size;omega
     clear hB2 hHeld HS HWi MC HBb Ro HRb Qm;cases hR:lX (gG K (j:Nat) N) r.body with
     |none=>
      rw[hR] at hT2;obtain⟨rfl,rfl⟩:=hT2;have HTo:Hid (∀w',FQ K N r acc mb (.slice ka K.length kc) (.slice na N.length nc) 4 w'):=fun w'=>by unfold FQ;rw[HX3.out,hR]
      clear hR HX3;go_wp2;go_ret;exact⟨4,rfl,HTo.out _,NH.out⟩
     |some R=>
      rw[hR] at hT2;obtain⟨rfl,hsl⟩:=hT2;have hsm:=kM hR;have HX4:Hid (BA K N r acc=vV K N r (j+1) (r.body.drop (j+1)) (MB++R.filterMap fun e=>aV r.head e)):=by show _=_;rw[HX3.out,hR]
      obtain⟨ra,rc,rfl⟩:=Kind.slice hsl;have HFl:=hide (Mv r.head (.slice ta r.head.terms.length tc) (.slice ra R.length rc) R w2 (Kind.aY HT.out HB2.out) hsl hsm);have r0:w2.cell? ⟨w.heap.size,0,none⟩=some (.bool r.head.no):=by rw[cell_of_row _ _ _ _ _ _ HR2.out];rfl
      have r1:w2.cell? ⟨w.heap.size,0+1,none⟩=some (.string (bs r.head.name)):=by rw[cell_of_row _ _ _ _ _ _ HR2.out];rfl
      have r2:w2.cell? ⟨w.heap.size,0+2,none⟩=some (.slice ta r.head.terms.length tc):=by rw[cell_of_row _ _ _ _ _ _ HR2.out];rfl
      have hfl:=Nat.le_trans (List.length_filterMap_le (fun e=>aV r.head e) R) hsm;clear hR HX3 hsl hsm;generalize bs r.head.name=nm at*;generalize r.head.no=no at*
      go_wp2_with fail
      refine HFl.out.mono ?_;rintro e w3 ⟨v3,rfl,hO3,hL3⟩;have hF3:=hO3.facts (by omega);have HA:=hide (yO mb K D1 _ (.slice ka K.length kc) (.slice na N.length nc) v3 w3 (OP.out.below hL3.below) (HK.out.below (aj HB2.out hL3.below HB2.out.size)) HU.out hF3 hKf hfl HM.out.few);have HB3:Hid (Below w0.heap.size w0 w3):=aj HB2.out hL3.below HB2.out.size;have HR3:Hid (w3.heap[w.heap.size]?=some (.cells #[.bool no,.string nm,.slice ta r.head.terms.length tc,.slice (some ⟨b1,o1,none⟩) r.body.length bc] 87 (0,0))):=by show _=_;rw[hL3.block hw2];exact HR2.out
      have OQ:Hid (Tn mb w w3):=NH.out.trans (Tn.of_below hL3.below);have hw3:w.heap.size<w3.heap.size:=by have:=hL3.size;omega
      have hm3:w0.heap.size≤w3.heap.size:=HB3.out.size;obtain⟨a3,c3,rfl⟩:=hO3.slice;clear hO3 hF3 hL3 HFl r0 r1 r2 OP HB2 HR2 NH hw2
      go_wp2_with fail
      refine HA.out.mono ?_;rintro e w4 ⟨⟨u4,rfl⟩,TB,OT⟩;have VB:=hide TB;have HM4:=hide (HM.out.add _ hfl);have HB4:Hid (Below w0.heap.size w0 w4):=aj HB3.out (OT.below (Nat.le_trans h0 (Nat.le_refl _)) hm3) (Nat.le_refl _);have HR4:Hid (w4.heap[w.heap.size]?=some (.cells #[.bool no,.string nm,.slice ta r.head.terms.length tc,.slice (some ⟨b1,o1,none⟩) r.body.length bc] 87 (0,0))):=by show _=_;rw[OT.block _ hw3 (by omega)];exact HR3.out
      have hw4:w.heap.size<w4.heap.size:=by have:=OT.size;omega
      have VD:Hid (Tn mb w w4):=OQ.out.trans OT;clear TB OT HA;go_wp2
      go_roundg (r.body.length- (j+1))
      case measure=>omega
      case rel=>exact⟨j+1,by omega,by go_num,_,_,VB,HM4,HB4,HR4,hw4,VD,HX4⟩
   ·have HTo:Hid (FQ K N r acc mb (.slice ka K.length kc) (.slice na N.length nc) 0 wr):=by
     show FQ _ _ _ _ _ _ _ _ _;unfold FQ;rw[HX.out,List.drop_eq_nil_of_le (by omega),vV];exact⟨rfl,D1,HMk.out,HM.out⟩
    go_wp2;go_ret;exact⟨0,rfl,HTo.out,HTn.out⟩
end Go.Proofs.YtafmbokfkbccaaaGreatDoor
namespace Go.Proofs.YtafmbokfkbccaaaGreatDoor
open Go.RowKit Go.Sort Go.Maps
def uo (b:Nat) (w:World) (v:Value) (er:Int) (p:List aA) (ss:List Nat) (r:fG):Prop:=match dV r.known r.fresh r.level p ss [] with
 |none=>v=.slice none 0 0∧er=4
 |some acc=>er=0∧∃D,bY w b v D∧rG r.known D acc
set_option maxRecDepth 100000 in
set_option maxHeartbeats 4000000 in
theorem OU (p:List aA) (hp:cZ p) (σ:aA→Nat) (r:fG) (hK:GoodS p r.known) (hN:Up r.fresh) (hs:∀f∈r.fresh,f∈r.known) (pv sv kv nv:Value) (w:World) (hpv:dU.sl bZ w pv p) (hsv:oG.sl bZ w sv (p.map σ)) (hk:Facts w kv r.known) (hn:Facts w nv r.fresh):
  Calls Tryz.prog 150 #[pv,sv,.agg #[kv,nv,.int .i64 r.level,.int .i64 r.rounds,.bool r.done]] w fun e w'=>∃v' er,e=.returned (.tuple #[v',.int .i64 er])∧uo (w.heap.size+2) w' v' er p (p.map σ) r∧Below w.heap.size w w':=by
 obtain⟨K,N,lev,rn,dn⟩:=r;dsimp only at*;obtain⟨pa,pc,rfl⟩:=Kind.slice hpv;obtain⟨sa,sc,rfl⟩:=Kind.slice hsv;obtain⟨ka,kc,rfl⟩:=aB hk;obtain⟨na,nc,rfl⟩:=aB hn;have TD:(p.map σ).length=p.length:=List.length_map _;generalize hss:p.map σ=ss at*;have TF:=hide TD;clear TD;have HP:=hide hpv;have HSV:=hide hsv;have HRP:=hide hp;have HGK:=hide hK;have HUN:=hide hN;have HSub:=hide hs;have h16:=hp.few;obtain⟨wa,hwa⟩:∃wa,wa=w.alloc (.cells #[.slice ka K.length kc,.slice na N.length nc,.int .i64 lev,.int .i64 rn,.bool dn] 47):=⟨_,rfl⟩;have hLa:Later w wa:=by rw[hwa];exact(Later.refl w).alloc _
 have hza:wa.heap.size=w.heap.size+1:=by rw[hwa];simp
 have HRa:Hid (wa.heap[w.heap.size]?=some (.cells #[.slice ka K.length kc,.slice na N.length nc,.int .i64 lev,.int .i64 rn,.bool dn] 47 (0,0))):=by show _=_;rw[hwa];exact heap_alloc_new w _
 have HKa:=hide (hk.later hLa);have HNa:=hide (hn.later hLa);have HLa:=hide hLa;have K9:Hid (MkB (w.heap.size+1) (.slice ka K.length kc) (.slice na N.length nc) [] (wa.alloc (.cells #[.slice ka K.length kc,.slice na N.length nc,.slice none 0 0] 280))):=by
  refine⟨.slice none 0 0,?_,bY.nil _ _⟩;rw[←hza];exact heap_alloc_new wa _
 have HB1:Hid (Below wa.heap.size wa (wa.alloc (.cells #[.slice ka K.length kc,.slice na N.length nc,.slice none 0 0] 280))):=((Later.refl wa).alloc _).below;rw[hwa] at K9 HB1;have HWa:=hide hwa;clear hpv hsv hp hK hN hs hk hn hLa hwa
 go_enter Tryz.func150,Tryz.ntmps150
 go_wp2
 go_loopg [19] p.length (fun g i wr=>∃j:Nat,j+g=p.length∧i=.int .i64 j∧∃D acc,Hid (MkB (w.heap.size+1) (.slice ka K.length kc) (.slice na N.length nc) D wr)∧Hid (rG K D acc)∧Hid (Below wa.heap.size wa wr)∧Hid (dV K N lev p ss []=dV K N lev (p.drop j) (ss.drop j) acc))
 case atStart=>exact⟨0,by omega,rfl,[],[],K9,rG.nil K,by show Below _ _ _;rw[HWa.out];exact HB1.out,(rfl:_=_)⟩
 case round=>
  clear K9 HB1;obtain⟨j,hj,rfl,D,acc,HMk,HM,HBr,HX⟩:=hrel;have hBw:Below w.heap.size w wr:=aj HLa.out.below HBr.out (by omega);have hrr:wr.heap[w.heap.size]?=some (.cells #[.slice ka K.length kc,.slice na N.length nc,.int .i64 lev,.int .i64 rn,.bool dn] 47 (0,0)):=(HBr.out.block _ (by omega)).trans HRa.out
  by_cases hlt:j<p.length
  ·obtain⟨r,hr⟩:∃x,p[j]?=some x:=⟨_,List.getElem?_eq_getElem hlt⟩;have hrm:r∈p:=List.mem_of_getElem? hr;obtain⟨b1,o1,_,rfl,hb1,⟨tv,bv,rfl,htv,hbv⟩,hc⟩:=Kind.fC HP.out hr;have d0:wr.cell? ⟨b1,o1+j*4,none⟩=some (.bool r.head.no):=by rw[hBw.cell (p:=⟨b1,o1+j*4,none⟩) hb1];exact hc 0 _ rfl
   have d1:wr.cell? ⟨b1,o1+j*4+1,none⟩=some (.string (bs r.head.name)):=by rw[hBw.cell (p:=⟨b1,o1+j*4+1,none⟩) hb1];exact hc 1 _ rfl
   have d2:wr.cell? ⟨b1,o1+j*4+2,none⟩=some tv:=by rw[hBw.cell (p:=⟨b1,o1+j*4+2,none⟩) hb1];exact hc 2 _ rfl
   have d3:wr.cell? ⟨b1,o1+j*4+3,none⟩=some bv:=by rw[hBw.cell (p:=⟨b1,o1+j*4+3,none⟩) hb1];exact hc 3 _ rfl
   have hpd:p.drop j=r::p.drop (j+1):=by
    obtain⟨h1,e1⟩:=List.getElem?_eq_some_iff.1 hr;rw[List.drop_eq_getElem_cons h1,e1]
   obtain⟨ta,tc,rfl⟩:=Kind.slice htv;obtain⟨ba,bc,rfl⟩:=Kind.slice hbv;have hwr:=hBw.size;obtain⟨s,hs⟩:∃x,ss[j]?=some x:=⟨_,List.getElem?_eq_getElem (by have:=TF.out;omega)⟩;obtain⟨b2,o2,_,rfl,hb2,rfl,hc2⟩:=Kind.fC HSV.out hs;have hsd:ss.drop j=s::ss.drop (j+1):=by
    obtain⟨h1,e1⟩:=List.getElem?_eq_some_iff.1 hs;rw[List.drop_eq_getElem_cons h1,e1]
   have hstep:dV K N lev p ss []=if(s:Int)=lev then(match BA K N r acc with
     |none=>none
     |some acc'=>dV K N lev (p.drop (j+1)) (ss.drop (j+1)) acc') else dV K N lev (p.drop (j+1)) (ss.drop (j+1)) acc:=by
    rw[HX.out,hpd,hsd];rfl
   have Tx:(j:Int)<(ss.length:Int):=by have:=TF.out;omega
   obtain⟨wb,hwb⟩:∃wb,wb=wr.alloc (.cells #[.bool r.head.no,.string (bs r.head.name),.slice ta r.head.terms.length tc,.slice ba r.body.length bc] 87):=⟨_,rfl⟩;have hLb:Later wr wb:=by rw[hwb];exact(Later.refl _).alloc _
   have hrb:wb.heap[wr.heap.size]?=some (.cells #[.bool r.head.no,.string (bs r.head.name),.slice ta r.head.terms.length tc,.slice ba r.body.length bc] 87 (0,0)):=by rw[hwb];exact heap_alloc_new _ _
   have hBb:Below w.heap.size w wb:=aj hBw hLb.below hwr;have e0:wb.cell? ⟨b2,o2+j,none⟩=some (.int .i64 s):=by rw[hBb.cell (p:=⟨b2,o2+j,none⟩) hb2];simpa[oG] using hc2 0 _ rfl
   have l0:wb.cell? ⟨w.heap.size,2,none⟩=some (.int .i64 lev):=by rw[hLb.cell (p:=⟨w.heap.size,2,none⟩) (Array.getElem?_eq_some_iff.1 hrr).1,cell_of_row _ _ _ _ _ _ hrr];rfl
   have r0:wb.cell? ⟨wr.heap.size,0,none⟩=some (.bool r.head.no):=by rw[cell_of_row _ _ _ _ _ _ hrb];rfl
   have r1:wb.cell? ⟨wr.heap.size,0+1,none⟩=some (.string (bs r.head.name)):=by rw[cell_of_row _ _ _ _ _ _ hrb];rfl
   have r2:wb.cell? ⟨wr.heap.size,0+2,none⟩=some (.slice ta r.head.terms.length tc):=by rw[cell_of_row _ _ _ _ _ _ hrb];rfl
   have r3:wb.cell? ⟨wr.heap.size,0+3,none⟩=some (.slice ba r.body.length bc):=by rw[cell_of_row _ _ _ _ _ _ hrb];rfl
   have MC:Hid (MkB (w.heap.size+1) (.slice ka K.length kc) (.slice na N.length nc) D wb):=HMk.out.below hLb.below;have HBb:Hid (Below wa.heap.size wa wb):=aj HBr.out hLb.below HBr.out.size;have HWb:=hide hwb
   by_cases hsn:(s:Int)=lev
   ·rw[if_pos hsn] at hstep;have TG:Hid (∀q,Calls Tryz.prog 211 #[.pointer (some ⟨w.heap.size+1,0,none⟩),.agg #[.bool r.head.no,.string (bs r.head.name),.slice ta r.head.terms.length tc,.slice ba r.body.length bc]] (wb.drewN q) fun e w'=>∃er,e=.returned (.int .i64 er)∧FQ K N r acc (w.heap.size+1) (.slice ka K.length kc) (.slice na N.length nc) er w'∧Tn (w.heap.size+1) (wb.drewN q) w'):=fun q=>
     JX p HRP.out r hrm K N D acc HGK.out HUN.out HSub.out (w.heap.size+1) _ _ _ _ wa (wb.drewN q) HKa.out HNa.out (Kind.aQ htv HLa.out) (Kind.aQ hbv HLa.out) (by omega) (Ar HBb.out q) (MC.out.drewN q) HM.out
    have hneq:((s:Int) != lev)=false:=by simp[hsn]
    have HST:=hide hstep;clear hc hc2 hr hs htv hbv hpd hsd hLb hwb hrm hrb hBb hrr hstep HX HMk hBw;generalize bs r.head.name=nm at*;generalize r.head.no=no at*;subst hsn;go_wp2;rw[←HWb.out]
    go_quiet (fail)
    go_wp2_with fail
    refine(TG.out _).mono ?_;rintro e w3 ⟨er,rfl,hT3,La⟩;have HB3:Hid (Below wa.heap.size wa w3):=aj (Ar HBb.out _) (La.below (n:=wa.heap.size) (by omega) HBb.out.size) (Nat.le_refl _);clear La TG HWb e0 l0 r0 r1 r2 r3 d0 d1 d2 d3;unfold FQ at hT3;cases hh:BA K N r acc with
    |none=>
     rw[hh] at hT3;have hT3:er=4:=hT3;subst hT3;have HT:Hid (∀w',uo (w.heap.size+2) w' (.slice none 0 0) 4 p ss ⟨K,N,s,rn,dn⟩):=fun w'=>by unfold uo;dsimp only;rw[HST.out,hh];exact⟨rfl,rfl⟩
     have VE:Hid (Below w.heap.size w w3):=aj HLa.out.below HB3.out (by omega);clear hh HST;go_wp2;exact bodyPost_ret (v:=.tuple #[.slice none 0 0,.int .i64 4]) (by simp[results,Tryz.results150,go_sem]) rfl ⟨_,4,rfl,HT.out _,VE.out⟩
    |some acc'=>
     rw[hh] at hT3;obtain⟨rfl,D',TH,hM'⟩:=hT3;have HX':Hid (dV K N s p ss []=dV K N s (p.drop (j+1)) (ss.drop (j+1)) acc'):=by show _=_;rw[HST.out,hh]
     have VF:=hide TH;have HM':=hide hM';clear hh HST TH hM';go_wp2
     go_roundg (p.length- (j+1))
     case measure=>omega
     case rel=>exact⟨j+1,by omega,by go_num,D',acc',VF,HM',HB3,HX'⟩
   ·rw[if_neg hsn] at hstep;have hneq:((s:Int) != lev)=true:=by simp[hsn]
    have HX':=hide hstep;clear hc hc2 hr hs htv hbv hpd hsd hLb hwb hrm hrb hBb hrr hstep HX HMk hBw;generalize bs r.head.name=nm at*;generalize r.head.no=no at*;go_wp2;rw[←HWb.out]
    go_quiet (fail)
    go_wp2
    go_roundg (p.length- (j+1))
    case measure=>omega
    case rel=>exact⟨j+1,by omega,by go_num,D,acc,MC.out.drewN _,HM,Ar HBb.out _,HX'⟩
  ·obtain⟨dv,hrow,hO⟩:=HMk.out;obtain⟨da,dc,rfl⟩:=hO.slice;have c2:wr.cell? ⟨w.heap.size+1,2,none⟩=some (.slice da D.length dc):=by rw[cell_of_row _ _ _ _ _ _ hrow];rfl
   have HT:Hid (uo (w.heap.size+2) wr (.slice da D.length dc) 0 p ss ⟨K,N,lev,rn,dn⟩):=by
    show uo _ _ _ _ _ _ _;unfold uo;dsimp only;rw[HX.out,List.drop_eq_nil_of_le (by omega)];unfold dV;exact⟨rfl,D,hO,HM.out⟩
   have HBw:=hide hBw;clear hrow hO HX hBw hrr;go_wp2;exact bodyPost_ret (v:=.tuple #[.slice da D.length dc,.int .i64 0]) (by simp[results,Tryz.results150,go_sem]) rfl ⟨_,0,rfl,HT.out,HBw.out⟩
end Go.Proofs.YtafmbokfkbccaaaGreatDoor
