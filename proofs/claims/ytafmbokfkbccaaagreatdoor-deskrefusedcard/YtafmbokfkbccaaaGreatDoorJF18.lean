import Derived.Test.YtafmbokfkbccaaaGreatDoorJF15
import Derived.Test.YtafmbokfkbccaaaGreatDoorJF17
import Derived.Test.YtafmbokfkbccaaaGreatDoorJF16
import Derived.BigQuiet
namespace Go.Proofs.YtafmbokfkbccaaaGreatDoor
open Go.RowKit Go.Sort Go.Maps
def E5 (w:World) (v:Value) (er:Int) (a:Int×List au):Prop:=er=a.1∧(a.1≠0→v=.slice none 0 0)∧(a.1=0→Facts w v a.2)
theorem uf (n:Int) (fs:List au) (p:List aB) (acc:List au):jm n fs p [] acc=(0,dP acc):=by cases p <;> rfl
theorem E8 {L:List au} (h:∀f∈L,mD f):∀f∈dP L,mD f:=fun f hf=>h f (dR.1 hf)
theorem lK {P:Program} {K E:TypeId} {L:List au} {b n:Nat} (w:World) {ops:Array Oper} {rest:List Oper} {o:Oper} {a:Act} {Q:Exit→Act→World→Prop} (hg:o.guard=none) (m:Operand) (t:TypeId)
  (hop:o.op=Op.call {callee:=Callee.builtin Builtin.len,args:=#[m],argTypes:=#[t]}) (ht:P.underlying t=some (.map K E)) (hm:a.eval m=.map (some b)) (h:fT P K w b n L)
  (hK:wpList P ops Q rest (a.put o.dst (.int .i64 ((dP L).length:Nat))) w):wpList P ops Q (o::rest) a w:=by
 refine wpList_plain hg fun K' hK'=> ?_;unfold Oper.wp;simp[execOp,hop,resolve,invoke,builtin,hm,h.len ht o.type,Result.andThen];exact hK' _ _ hK
set_option maxRecDepth 100000 in
set_option maxHeartbeats 4000000 in
theorem Ru (p:List aB) (ss:List Nat) (n:Int) (fs:List au) (pv sv fv:Value) (w:World) (hp:dO.sl bY w pv p) (hss:ou.sl bY w sv ss) (hf:Facts w fv fs) (h16:p.length≤16) (Rv:fs.length≤200)
  (hok:∀r∈p,pG r.body fs []=0) (hsh:∀r∈p,∀R,lY (fun _=>fs) r.body=some R→∀l∈R,∀f,aW r.head l=some f→mD f) (hfs:∀f∈fs,mD f):
  Calls Tryz.prog 125 #[pv,sv,.int .i64 n,fv] w fun e w'=>∃v' er,e=.returned (.tuple #[v',.int .i64 er])∧E5 w' v' er (fu p ss n fs)∧Below w.heap.size w w':=by
 obtain⟨pa,pc,rfl⟩:=Kind.slice hp;obtain⟨sa,sc,rfl⟩:=Kind.slice hss;obtain⟨fa,fc,rfl⟩:=aA hf;have hsl:=hss.1.1;have HP:=hide hp;have HSS:=hide hss;have HF:=hide hf;have HOk:=hide hok;have HSh:=hide hsh;have hL1:Later w (w.alloc (.map #[] 0)):=(Later.refl w).alloc _;have HAd:=hide (yH w.heap.size 0 [] (.slice fa fs.length fc) fs (w.alloc (.map #[] 0)) (fT.made _ _ _) (hf.later hL1) hfs (by omega));have HL1:=hide hL1.below;have hmm:= @run_makeMap Tryz.prog;clear hp hss hf hok hsh hfs hL1
 go_enter Tryz.func125,Tryz.ntmps125
 go_wp2_with fail
 refine HAd.out.mono ?_;rintro e w2 ⟨⟨u2,rfl⟩,hK2,hT2⟩;have HK2:Hid (KnN w2 w.heap.size (0+fs.length) fs):=by show KnN _ _ _ _;simpa using hK2
 have HB2:Hid (Below w.heap.size w w2):=HL1.out.trans (hT2.below (Nat.le_refl _) (by simp));clear hK2 hT2 HAd HL1 hmm;go_wp2
 go_loopg [21] p.length (fun g i wr=>∃j:Nat,j+g=p.length∧i=.int .i64 j∧∃acc m,m≤200+20000*j∧Hid (KnN wr w.heap.size m acc)∧Hid (Below w.heap.size w wr)∧Hid (fu p ss n fs=jm n fs (p.drop j) (ss.drop j) acc))
 case atStart=>exact⟨0,by omega,rfl,fs,_,by omega,HK2,HB2,(rfl:_=_)⟩
 case round=>
  clear HK2 HB2;obtain⟨j,hj,rfl,acc,m,hm,HK,HBr,HE⟩:=hrel
  by_cases hlt:j<p.length
  ·obtain⟨r,hr⟩:∃x,p[j]?=some x:=⟨_,List.getElem?_eq_getElem hlt⟩;have hrm:r∈p:=List.mem_of_getElem? hr;obtain⟨b1,o1,_,rfl,hb1,⟨tv,bv,rfl,htv,hbv⟩,hc⟩:=Kind.dY HP.out hr;have d0:wr.cell? ⟨b1,o1+j*4,none⟩=some (.bool r.head.no):=by rw[HBr.out.cell (p:=⟨b1,o1+j*4,none⟩) hb1];exact hc 0 _ rfl
   have d1:wr.cell? ⟨b1,o1+j*4+1,none⟩=some (.string (bs r.head.name)):=by rw[HBr.out.cell (p:=⟨b1,o1+j*4+1,none⟩) hb1];exact hc 1 _ rfl
   have d2:wr.cell? ⟨b1,o1+j*4+2,none⟩=some tv:=by rw[HBr.out.cell (p:=⟨b1,o1+j*4+2,none⟩) hb1];exact hc 2 _ rfl
   have d3:wr.cell? ⟨b1,o1+j*4+3,none⟩=some bv:=by rw[HBr.out.cell (p:=⟨b1,o1+j*4+3,none⟩) hb1];exact hc 3 _ rfl
   have hpd:p.drop j=r::p.drop (j+1):=by
    obtain⟨h1,e1⟩:=List.getElem?_eq_some_iff.1 hr;rw[List.drop_eq_getElem_cons h1,e1]
   obtain⟨ta,tc,rfl⟩:=Kind.slice htv;obtain⟨ba,bc,rfl⟩:=Kind.slice hbv;have hwr:=HBr.out.size
   by_cases hsj:j<ss.length
   ·obtain⟨s,hs⟩:∃x,ss[j]?=some x:=⟨_,List.getElem?_eq_getElem hsj⟩;obtain⟨b2,o2,_,rfl,hb2,rfl,hc2⟩:=Kind.dY HSS.out hs;have e0:wr.cell? ⟨b2,o2+j,none⟩=some (.int .i64 s):=by rw[HBr.out.cell (p:=⟨b2,o2+j,none⟩) hb2];simpa[ou] using hc2 0 _ rfl
    have hsd:ss.drop j=s::ss.drop (j+1):=by
     obtain⟨h1,e1⟩:=List.getElem?_eq_some_iff.1 hs;rw[List.drop_eq_getElem_cons h1,e1]
    have hstep:fu p ss n fs=if(s:Int)=n then(match gZ r fs with
      |none=>(4,[])
      |some x=>if 200<(dP (acc++x)).length then(5,[]) else jm n fs (p.drop (j+1)) (ss.drop (j+1)) (acc++x)) else jm n fs (p.drop (j+1)) (ss.drop (j+1)) acc:=by
     rw[HE.out,hpd,hsd];rfl
    have TH:(j:Int)<(ss.length:Int):=by omega
    have Xi:b2<wr.heap.size:=by omega
    by_cases hsn:(s:Int)=n
    ·rw[if_pos hsn] at hstep;obtain⟨wb,hwb⟩:∃wb,wb=wr.alloc (.cells #[.bool r.head.no,.string (bs r.head.name),.slice ta r.head.terms.length tc,.slice ba r.body.length bc] 87):=⟨_,rfl⟩;have hLb:Later wr wb:=by rw[hwb];exact(Later.refl _).alloc _
     have hBb:Below w.heap.size w wb:=aj HBr.out hLb.below hwr;have HH:=hide (Lb r (.slice ta r.head.terms.length tc) (.slice ba r.body.length bc) (.slice fa fs.length fc) fs wb (Kind.aX htv hBb) (Kind.aX hbv hBb) (HF.out.below hBb) (HSh.out r hrm));have h0:=HOk.out r hrm;have TI:=HSh.out r hrm;have HKb:=hide (HK.out.later hLb);have HBb:=hide hBb;have HWb:=hide hwb;clear hc hc2 hr hs htv hbv hpd hsd HE hLb hBb hwb hrm;have hneq:((s:Int) != n)=false:=by simp[hsn]
     generalize bs r.head.name=nm at*;generalize hno:r.head.no=no at*;clear hno;subst hsn
     go_wp2_with fail
     rw[←HWb.out];refine HH.out.mono ?_;rintro e w3 ⟨v3,er,rfl,hT3,hB3⟩;unfold nJ at hT3;rw[if_neg (by simp[h0])] at hT3;have HB3:Hid (Below w.heap.size w w3):=aj HBb.out hB3 HBb.out.size;have HK3:=hide (HKb.out.below hB3);clear hB3 HH HWb HKb HBb;cases hh:gZ r fs with
     |none=>
      rw[hh] at hT3 hstep;obtain⟨rfl,rfl⟩:=hT3;have HT:Hid (∀w',E5 w' (.slice none 0 0) 4 (fu p ss s fs)):=fun w'=>by rw[hstep];exact⟨rfl,fun _=>rfl,fun h=>by simp at h⟩
      clear hstep hh;go_wp2;exact bodyPost_ret (v:=.tuple #[.slice none 0 0,.int .i64 4]) (by simp[results,Tryz.results125,go_sem]) rfl ⟨_,4,rfl,HT.out _,HB3.out⟩
     |some x=>
      rw[hh] at hT3 hstep;obtain⟨rfl,hF3⟩:=hT3;have hxs:(∀f∈x,mD f)∧x.length≤20000:=by
       unfold gZ at hh;cases hR:lY (fun _=>fs) r.body with
       |none=>rw[hR] at hh;cases hh
       |some R=>
        rw[hR] at hh;cases hh;refine⟨E8 fun f hf=> ?_,Nat.le_trans (rW _) (Nat.le_trans (List.length_filterMap_le _ _) (kR hR))⟩;obtain⟨l,hl,hlf⟩:=List.mem_filterMap.1 hf;exact TI R hR l hl f hlf
      have hxl:=hxs.2;have HAd:=hide (yH w.heap.size m acc v3 x w3 HK3.out hF3 hxs.1 (by omega));obtain⟨xa,xc,rfl⟩:=aA hF3;dsimp only at hstep;have HST:=hide hstep;clear hF3 hxs hh hstep TI HK3
      go_wp2_with fail
      refine HAd.out.mono ?_;rintro e w4 ⟨⟨u4,rfl⟩,hK4,hT4⟩;have HB4:Hid (Below w.heap.size w w4):=HB3.out.trans (hT4.below (Nat.le_refl _) HB3.out.size);have HK4:=hide hK4;clear hK4 hT4 HAd
      by_cases hbig:200<(dP (acc++x)).length
      ·have HT:Hid (∀w',E5 w' (.slice none 0 0) 5 (fu p ss s fs)):=fun w'=>by rw[HST.out,if_pos hbig];exact⟨rfl,fun _=>rfl,fun h=>by simp at h⟩
       have hbi:(200:Int)<((dP (acc++x)).length:Nat):=by omega
       clear HST hbig
       go_wp2_with (at_len;refine lK _ rfl _ 160 rfl Tryz.underlying160 rfl HK4.out ?_)
       exact bodyPost_ret (v:=.tuple #[.slice none 0 0,.int .i64 5]) (by simp[results,Tryz.results125,go_sem]) rfl ⟨_,5,rfl,HT.out _,HB4.out⟩
      ·have HE4:Hid (fu p ss s fs=jm s fs (p.drop (j+1)) (ss.drop (j+1)) (acc++x)):=by show _=_;rw[HST.out,if_neg hbig]
       have hbi:¬(200:Int)<((dP (acc++x)).length:Nat):=by omega
       clear HST hbig
       go_wp2_with (at_len;refine lK _ rfl _ 160 rfl Tryz.underlying160 rfl HK4.out ?_)
       go_roundg (p.length- (j+1))
       case measure=>omega
       case rel=>exact⟨j+1,by omega,by go_num,acc++x,m+x.length,by omega,HK4,HB4,HE4⟩
    ·rw[if_neg hsn] at hstep;have HE4:Hid (fu p ss n fs=jm n fs (p.drop (j+1)) (ss.drop (j+1)) acc):=hstep;have HB4:Hid (Below w.heap.size w (wr.alloc (.cells #[.bool r.head.no,.string (bs r.head.name),.slice ta r.head.terms.length tc,.slice ba r.body.length bc] 87))):=aj HBr.out ((Later.refl _).alloc _).below hwr;have HK4:Hid (KnN (wr.alloc (.cells #[.bool r.head.no,.string (bs r.head.name),.slice ta r.head.terms.length tc,.slice ba r.body.length bc] 87)) w.heap.size m acc):=HK.out.later ((Later.refl _).alloc _);have hneq:((s:Int) != n)=true:=by simpa using hsn
     clear hstep hc hc2 hr hs htv hbv hpd hsd HE hsn hrm;generalize bs r.head.name=nm at*;generalize r.head.no=no at*;go_wp2
     go_roundg (p.length- (j+1))
     case measure=>omega
     case rel=>exact⟨j+1,by omega,by go_num,acc,m,by omega,HK4,HB4,HE4⟩
   ·have hsd:ss.drop j=[]:=List.drop_eq_nil_of_le (by omega);have hsd2:ss.drop (j+1)=[]:=List.drop_eq_nil_of_le (by omega);have HE4:Hid (fu p ss n fs=jm n fs (p.drop (j+1)) (ss.drop (j+1)) acc):=by show _=_;rw[HE.out,hsd,hsd2,uf,uf]
    have HB4:Hid (Below w.heap.size w (wr.alloc (.cells #[.bool r.head.no,.string (bs r.head.name),.slice ta r.head.terms.length tc,.slice ba r.body.length bc] 87))):=aj HBr.out ((Later.refl _).alloc _).below hwr;have HK4:Hid (KnN (wr.alloc (.cells #[.bool r.head.no,.string (bs r.head.name),.slice ta r.head.terms.length tc,.slice ba r.body.length bc] 87)) w.heap.size m acc):=HK.out.later ((Later.refl _).alloc _);have TH:(ss.length:Int)≤(j:Int):=by omega
    clear hc hr htv hbv hpd hsd hsd2 HE hrm hsj;generalize bs r.head.name=nm at*;generalize r.head.no=no at*;go_wp2
    go_roundg (p.length- (j+1))
    case measure=>omega
    case rel=>exact⟨j+1,by omega,by go_num,acc,m,by omega,HK4,HB4,HE4⟩
  ·have hd:p.drop j=[]:=List.drop_eq_nil_of_le (by omega);have HX:Hid (fu p ss n fs=(0,dP acc)):=by show _=_;rw[HE.out,hd];rfl
   have HSt:=hide (DK _ _ _ wr HK.out (by omega));clear hd HE
   go_wp2_with fail
   refine HSt.out.mono ?_;rintro e w6 ⟨v6,rfl,hF6,hB6⟩;have HT6:Hid (E5 w6 v6 0 (fu p ss n fs)):=by show E5 _ _ _ _;rw[HX.out];exact⟨rfl,fun h=>absurd rfl h,fun _=>hF6⟩
   have HB6:Hid (Below w.heap.size w w6):=aj HBr.out hB6 HBr.out.size;obtain⟨a6,c6,rfl⟩:=aA hF6;clear hF6 hB6;go_wp2;exact bodyPost_ret (v:=.tuple #[.slice a6 (dP acc).length c6,.int .i64 0]) (by simp[results,Tryz.results125,go_sem]) rfl ⟨_,0,rfl,HT6.out,HB6.out⟩
end Go.Proofs.YtafmbokfkbccaaaGreatDoor
namespace Go.Proofs.YtafmbokfkbccaaaGreatDoor
open Go.RowKit Go.Sort Go.Maps
theorem nU {f:au} (h:kM f):mD f:=
 ⟨by have:=tZ h.1;omega,h.2.1,fun s hs=>by have:=tZ (h.2.2 s hs);omega⟩
theorem mF {l:List au} (hw:∀f∈l,fA f=0) (hu:Up l):∀(n k:Nat),k+n=l.length→dz l n k=(0,0)
 |0,_,_=>rfl
 |n+1,k,h=>by
  have hk:k<l.length:=by omega
  unfold dz;have e1:fA (l.getD k aC)=0:=hw _ (by rw[List.getD_eq_getElem?_getD,List.getElem?_eq_getElem hk];exact List.getElem_mem hk);rw[if_neg (by rw[e1];simp),if_neg,mF hw hu n (k+1) (by omega)];rintro⟨h0,h1⟩;have:=List.pairwise_iff_getElem.1 hu (k-1) k (by omega) hk (by omega);rw[List.getD_eq_getElem?_getD,List.getD_eq_getElem?_getD,List.getElem?_eq_getElem (by omega),List.getElem?_eq_getElem hk] at h1;simp only[Option.getD_some] at h1;omega
theorem je {l:List au} (hu:Up l) (hr:∀f∈l,kM f) (hl:l.length≤200):bA l=(0,0):=by
 unfold bA;rw[if_neg (by omega)];exact mF (fun f hf=>j3.2 (hr f hf)) hu _ 0 (by omega)
theorem yL {p:List aB} {l:List au} (h:(bA l).1=0) (hf:∀f∈l,zH p f=true):GoodS p l:=by
 obtain⟨h1,h2,h3⟩:=set_right h;exact⟨h2,fun f hf=>j3.1 (h3 f hf),h1,hf⟩
theorem wQ {p:List aB} (hp:dB p) {L:List au} (hL:GoodS p L):∀r∈p,pG r.body L []=0:=fun r hr=>by
 unfold pG;rw[if_neg (by simp[(hp.rules r hr).body]),if_neg (by rw[je hL.up hL.right hL.few];simp)]
 rfl
theorem ug {p:List aB} (hp:dB p) {L:List au} (hL:GoodS p L):∀r∈p,∀R,lY (fun _=>L) r.body=some R→∀l∈R,∀f,aW r.head l=some f→mD f:=fun r hr _ hR l hl _ hf=>
 nU (p9 (hp.rules r hr) hL.right ((nP (dW (hp.rules r hr)) hR l).1 hl) hf).1
end Go.Proofs.YtafmbokfkbccaaaGreatDoor
namespace Go.Proofs.YtafmbokfkbccaaaGreatDoor
open Go.RowKit Go.Sort Go.Maps
theorem Cy {p:List aB} (hp:dB p) {K N:List au} (hK:GoodS p K) (hN:Up N) (hs:∀f∈N,f∈K):∀r∈p,pG r.body K N=0:=fun r hr=>by
 unfold pG;rw[if_neg (by simp[(hp.rules r hr).body]),if_neg (by rw[je hK.up hK.right hK.few];simp),je hN (fun f hf=>hK.right f (hs f hf)) (Nat.le_trans (sJ hN hs) hK.few)]
def F7 (K N:List au) (r:aB) (acc:List au) (mb:Nat) (kv nv:Value) (er:Int) (w:World):Prop:=match Bz K N r acc with
 |none=>er=4
 |some acc'=>er=0∧∃D',MkB mb kv nv D' w∧rG K D' acc'
theorem ME (l:List aF):(l.any fun a=> !a.no)= !(l.all fun a=>a.no):=by
 induction l with
 |nil=>rfl
 |cons a l ih=>rw[List.any_cons,List.all_cons,ih];cases a.no <;> rfl
set_option maxRecDepth 100000 in
set_option maxHeartbeats 4000000 in
theorem J3 (p:List aB) (hp:dB p) (r:aB) (hr:r∈p) (K N D acc:List au) (hK:GoodS p K) (hN:Up N) (hs:∀f∈N,f∈K) (mb:Nat) (kv nv tv bv:Value) (w0 w:World) (hk:Facts w0 kv K) (hn:Facts w0 nv N)
  (ht:dF.sl bY w0 tv r.head.terms) (hb:bV.sl bY w0 bv r.body) (h0:w0.heap.size≤mb) (hB:Below w0.heap.size w0 w) (hm:MkB mb kv nv D w) (hM:rG K D acc):
  Calls Tryz.prog 211 #[.pointer (some ⟨mb,0,none⟩),.agg #[.bool r.head.no,.string (bs r.head.name),tv,bv]] w fun e w'=>∃er,e=.returned (.int .i64 er)∧F7 K N r acc mb kv nv er w'∧Tn mb w w':=by
 have hKf:=hK.few;have hNf:=Nat.le_trans (sJ hN hs) hK.few;have HE0:=hide (wQ hp hK r hr);have HEN:=hide (Cy hp hK hN hs r hr);have HSh:=hide (ug hp hK r hr);have HU:=hide hK.up;have hmb:=hm.lt;have h5:=(wL (hp.rules r hr).body).1;obtain⟨ta,tc,rfl⟩:=Kind.slice ht;obtain⟨ba,bc,rfl⟩:=Kind.slice hb;obtain⟨ka,kc,rfl⟩:=aA hk;obtain⟨na,nc,rfl⟩:=aA hn;have HK:=hide hk;have HN:=hide hn;have HT:=hide ht;have HBd:=hide hb;have HB:=hide hB;have HMk:=hide hm;have HM:=hide hM;obtain⟨wb,hwb⟩:∃wb,wb=w.alloc (.cells #[.bool r.head.no,.string (bs r.head.name),.slice ta r.head.terms.length tc,.slice ba r.body.length bc] 87):=⟨_,rfl⟩;have hLb:Later w wb:=by rw[hwb];exact(Later.refl w).alloc _
 have hrb:wb.heap[w.heap.size]?=some (.cells #[.bool r.head.no,.string (bs r.head.name),.slice ta r.head.terms.length tc,.slice ba r.body.length bc] 87 (0,0)):=by rw[hwb];exact heap_alloc_new w _
 have hBb:Below w0.heap.size w0 wb:=aj hB hLb.below hB.size;have HCn:=hide (containsAtom (.slice ba r.body.length bc) r.body wb (Kind.aX hb hBb));have c3:wb.cell? ⟨w.heap.size,3,none⟩=some (.slice ba r.body.length bc):=by rw[cell_of_row _ _ _ _ _ _ hrb];rfl
 have HLb:=hide hLb;have HRb:=hide hrb;have HWB:=hide hwb;rw[ME] at HCn;clear hp hr hK hN hs hk hn ht hb hB hm hM hLb hrb hBb;generalize hal:(r.body.all fun a=>a.no)=al at*;have HAl:=hide hal;clear hal
 go_enter Tryz.func211,Tryz.ntmps211
 rw[hwb] at c3;clear hwb
 go_wp2_with fail
 rw[←HWB.out];clear c3;refine HCn.out.mono ?_;rintro e w1 ⟨rfl,hL1⟩;clear HCn HWB;have OZ:w.heap.size<wb.heap.size:=(Array.getElem?_eq_some_iff.1 HRb.out).1;have EX:Later w w1:=HLb.out.trans hL1;have HR1:Hid (w1.heap[w.heap.size]?=some (.cells #[.bool r.head.no,.string (bs r.head.name),.slice ta r.head.terms.length tc,.slice ba r.body.length bc] 87 (0,0))):=by
  show _=_;rw[hL1.block OZ];exact HRb.out
 have HB1:Hid (Below w0.heap.size w0 w1):=aj HB.out EX.below HB.out.size;have Lc:Hid (MkB mb (.slice ka K.length kc) (.slice na N.length nc) D w1):=HMk.out.below EX.below;have Rw:Hid (Tn mb w w1):=Tn.of_below EX.below;have hw1:w.heap.size<w1.heap.size:=by have:=hL1.size;omega
 clear hL1 EX HLb HRb HMk HB OZ wb;cases al with
 |true=>
  obtain⟨dv,hrow,_⟩:=Lc.out;have HS:Hid (∀w',Below w1.heap.size w1 w'→w'.cell? ⟨w.heap.size,0,none⟩=some (.bool r.head.no)∧w'.cell? ⟨w.heap.size,0+1,none⟩=some (.string (bs r.head.name))∧w'.cell? ⟨w.heap.size,0+2,none⟩=some (.slice ta r.head.terms.length tc)∧w'.cell? ⟨w.heap.size,0+3,none⟩=some (.slice ba r.body.length bc)∧w'.cell? ⟨mb,0,none⟩=some (.slice ka K.length kc)):=fun w' h=>by
   have hr':=(h.block _ hw1).trans HR1.out;have hm':=(h.block _ (Array.getElem?_eq_some_iff.1 hrow).1).trans hrow;exact⟨by rw[cell_of_row _ _ _ _ _ _ hr'];rfl,by rw[cell_of_row _ _ _ _ _ _ hr'];rfl,by rw[cell_of_row _ _ _ _ _ _ hr'];rfl,by rw[cell_of_row _ _ _ _ _ _ hr'];rfl,by rw[cell_of_row _ _ _ _ _ _ hm'];rfl⟩
  have HH:Hid (∀w',Below w1.heap.size w1 w'→Calls Tryz.prog 42 #[.agg #[.bool r.head.no,.string (bs r.head.name),.slice ta r.head.terms.length tc,.slice ba r.body.length bc],.slice ka K.length kc] w' fun e w''=>∃v' er,e=.returned (.tuple #[v',.int .i64 er])∧nJ w'' v' er r K∧Below w1.heap.size w1 w''):=fun w' h=>by
   have h':=aj HB1.out h HB1.out.size;exact(Lb r _ _ _ K w' (Kind.aX HT.out h') (Kind.aX HBd.out h') (HK.out.below h') HSh.out).mono fun e w'' ⟨v',er,he,hT,hB'⟩=>⟨v',er,he,hT,aj h hB' h.size⟩
  have HX:Hid (Bz K N r acc=match gZ r K with|none=>none|some x=>some (acc++x)):=by show _=_;unfold Bz;rw[if_pos HAl.out];all_goals rfl
  clear HR1 HT HBd HSh HEN hrow;generalize bs r.head.name=nm at*;generalize r.head.no=no at*;go_wp2;refine wp_region_held_drew (S:=fun w'=>Below w1.heap.size w1 w') (by kernel_rfl) (Below.refl _ _).drew (fun hHeld=> ?_);refine ak (i:=0) (d:=some 16) (v:= ?_) rfl rfl hHeld ?_ ?_;rotate_left;focus intro w hSw;(try dsimp only at hSw);obtain⟨q0,q1,q2,q3,q4⟩:=HS.out _ hSw;go_simp;try with_reducible rfl
  simp only[aK,aL,aze,asu];refine ak (i:=1) (d:=some 17) (v:= ?_) rfl rfl hHeld ?_ ?_;rotate_left;focus intro w hSw;(try dsimp only at hSw);go_simp;try with_reducible rfl
  simp only[aK,aL,aze,asu];refine ak (i:=2) (d:=some 18) (v:= ?_) rfl rfl hHeld ?_ ?_;rotate_left;focus intro w hSw;(try dsimp only at hSw);go_simp;try with_reducible rfl
  simp only[aK,aL,aze,asu];refine ak (i:=3) (d:=some 19) (v:= ?_) rfl rfl hHeld ?_ ?_;rotate_left;focus intro w hSw;(try dsimp only at hSw);go_simp;try with_reducible rfl
  simp only[aK,aL,aze,asu];refine ak (i:=4) (d:=some 20) (v:= ?_) rfl rfl hHeld ?_ ?_;rotate_left;focus intro w hSw;(try dsimp only at hSw);obtain⟨q0,q1,q2,q3,q4⟩:=HS.out _ hSw;go_simp;try with_reducible rfl
  simp only[aK,aL,aze,asu];refine wpAnyH_ready (rs:=[5]) (by kernel_rfl) (by simp) ?_;refine AllReadyH.cons rfl (fun K hK=> ?_) AllReadyH.nil;go_simp;refine(HH.out _ hHeld).mono ?_;rintro e w2 ⟨v2,er,rfl,hT2,hB2⟩;refine hK.out _ _ hB2 (fun hHeld=> ?_);clear hK K;refine ak (i:=6) (d:=some 15) (v:= ?_) rfl rfl hHeld ?_ ?_;rotate_left;focus intro w hSw;(try dsimp only at hSw);go_simp;try with_reducible rfl
  simp only[aK,aL,aze,asu];refine ak (i:=7) (d:=some 22) (v:= ?_) rfl rfl hHeld ?_ ?_;rotate_left;focus intro w hSw;(try dsimp only at hSw);go_simp;try with_reducible rfl
  simp only[aK,aL,aze,asu];refine ak (i:=8) (d:=some 23) (v:= ?_) rfl rfl hHeld ?_ ?_;rotate_left;focus intro w hSw;(try dsimp only at hSw);go_simp;try with_reducible rfl
  simp only[aK,aL,aze,asu];refine ak (i:=9) (d:=some 5) (v:= ?_) rfl rfl hHeld ?_ ?_;rotate_left;focus intro w hSw;(try dsimp only at hSw);go_simp;try with_reducible rfl
  simp only[aK,aL,aze,asu];refine ak (i:=10) (d:=some 6) (v:= ?_) rfl rfl hHeld ?_ ?_;rotate_left;focus intro w hSw;(try dsimp only at hSw);go_simp;try with_reducible rfl
  simp only[aK,aL,aze,asu];refine wpAnyH_done (by kernel_rfl) ?_ _;unfold nJ at hT2;rw[if_neg (by rw[HE0.out];simp)] at hT2;have HB2:=hide hB2;have O4:Hid (MkB mb (.slice ka K.length kc) (.slice na N.length nc) D w2):=Lc.out.below hB2;have HK2:Hid (Facts w2 (.slice ka K.length kc) K):=HK.out.below (aj HB1.out hB2 HB1.out.size);have NS:Hid (Tn mb w w2):=Rw.out.trans (Tn.of_below hB2);clear hB2 hHeld HS HH HE0;cases hh:gZ r K with
  |none=>
   rw[hh] at hT2;obtain⟨rfl,rfl⟩:=hT2;have HA:=hide (yK mb K D [] (.slice ka K.length kc) (.slice na N.length nc) (.slice none 0 0) w2 O4.out HK2.out HU.out (tT w2) hKf (by simp) HM.out.few);have HTo:Hid (∀w',F7 K N r acc mb (.slice ka K.length kc) (.slice na N.length nc) 4 w'):=fun w'=>by unfold F7;rw[HX.out,hh]
   clear hh
   go_wp2_with fail
   refine HA.out.mono ?_;rintro e w3 ⟨⟨u3,rfl⟩,_,Ld⟩;have O5:=hide (NS.out.trans Ld);clear Ld;go_wp2;go_ret;exact⟨4,rfl,HTo.out _,O5.out⟩
  |some x=>
   rw[hh] at hT2;obtain⟨rfl,hF2⟩:=hT2;have hxl:x.length≤20000:=by
    unfold gZ at hh;split at hh
    ·cases hh
    ·rename_i R hR;cases hh;have h1:=rW (R.filterMap fun l=>aW r.head l);have h2:=List.length_filterMap_le (fun l=>aW r.head l) R;have h3:=kR hR;omega
   obtain⟨xa,xc,rfl⟩:=aA hF2;have HA:=hide (yK mb K D x (.slice ka K.length kc) (.slice na N.length nc) (.slice xa x.length xc) w2 O4.out HK2.out HU.out hF2 hKf hxl HM.out.few);have HTo:Hid (∀w',MkB mb (.slice ka K.length kc) (.slice na N.length nc) (O3 K D x) w'→F7 K N r acc mb (.slice ka K.length kc) (.slice na N.length nc) 0 w'):=fun w' h=>by unfold F7;rw[HX.out,hh];exact⟨rfl,_,h,HM.out.add x hxl⟩
   clear hh hF2 hxl
   go_wp2_with fail
   refine HA.out.mono ?_;rintro e w3 ⟨⟨u3,rfl⟩,TJ,Ld⟩;have O5:=hide (NS.out.trans Ld);have VJ:=hide TJ;clear Ld TJ;go_wp2;go_ret;exact⟨0,rfl,HTo.out _ VJ.out,O5.out⟩
 |false=>
  have HX:Hid (Bz K N r acc=vT K N r 0 (r.body.drop 0) acc):=by show _=_;unfold Bz;rw[if_neg (by rw[HAl.out];simp)];rfl
  have c3:w1.cell? ⟨w.heap.size,3,none⟩=some (.slice ba r.body.length bc):=by rw[cell_of_row _ _ _ _ _ _ HR1.out];rfl
  clear HSh HE0;go_wp2
  go_loopg [31] r.body.length (fun g i wr=>∃j:Nat,j+g=r.body.length∧i=.int .i64 j∧∃D' acc',Hid (MkB mb (.slice ka K.length kc) (.slice na N.length nc) D' wr)∧Hid (rG K D' acc')∧Hid (Below w0.heap.size w0 wr)∧
   Hid (wr.heap[w.heap.size]?=some (.cells #[.bool r.head.no,.string (bs r.head.name),.slice ta r.head.terms.length tc,.slice ba r.body.length bc] 87 (0,0)))∧w.heap.size<wr.heap.size∧Hid (Tn mb w wr)∧Hid (Bz K N r acc=vT K N r j (r.body.drop j) acc'))
  case atStart=>exact⟨0,by omega,rfl,D,acc,Lc,HM,HB1,HR1,hw1,Rw,HX⟩
  case round=>
   clear Lc HM HB1 HR1 hw1 Rw HX c3 HAl;obtain⟨j,hj,rfl,D1,MF,HMk,HM,HBr,HR,hwr,HTn,HX⟩:=hrel
   by_cases hlt:j<r.body.length
   ·obtain⟨a,hx⟩:∃x,r.body[j]?=some x:=⟨_,List.getElem?_eq_getElem hlt⟩;obtain⟨b1,o1,_,rfl,hb1,⟨av,rfl,hav⟩,hc⟩:=Kind.dY HBd.out hx;obtain⟨aa,ac,rfl⟩:=Kind.slice hav;have d0:wr.cell? ⟨b1,o1+j*3,none⟩=some (.bool a.no):=by rw[HBr.out.cell (p:=⟨b1,o1+j*3,none⟩) hb1];exact hc 0 _ rfl
    have d1:wr.cell? ⟨b1,o1+j*3+1,none⟩=some (.string (bs a.name)):=by rw[HBr.out.cell (p:=⟨b1,o1+j*3+1,none⟩) hb1];exact hc 1 _ rfl
    have d2:wr.cell? ⟨b1,o1+j*3+2,none⟩=some (.slice aa a.terms.length ac):=by rw[HBr.out.cell (p:=⟨b1,o1+j*3+2,none⟩) hb1];exact hc 2 _ rfl
    have hX:vT K N r j (r.body.drop j) MF=if a.no then vT K N r (j+1) (r.body.drop (j+1)) MF else match lY (gW K (j:Nat) N) r.body with|none=>none|some R=>vT K N r (j+1) (r.body.drop (j+1)) (MF++R.filterMap fun e=>aW r.head e):=by
     obtain⟨h1,e1⟩:=List.getElem?_eq_some_iff.1 hx;rw[List.drop_eq_getElem_cons h1,e1,vT]
     all_goals rfl
    have HX2:=hide (HX.out.trans hX);obtain⟨wb,hwb⟩:∃wb,wb=wr.alloc (.cells #[.bool a.no,.string (bs a.name),.slice aa a.terms.length ac] 85):=⟨_,rfl⟩;have hLb:Later wr wb:=by rw[hwb];exact(Later.refl _).alloc _
    have hzb:wr.heap.size<wb.heap.size:=by rw[hwb];simp
    have MG:Hid (MkB mb (.slice ka K.length kc) (.slice na N.length nc) D1 wb):=HMk.out.below hLb.below;have HBb:Hid (Below w0.heap.size w0 wb):=aj HBr.out hLb.below HBr.out.size;have HRb:Hid (wb.heap[w.heap.size]?=some (.cells #[.bool r.head.no,.string (bs r.head.name),.slice ta r.head.terms.length tc,.slice (some ⟨b1,o1,none⟩) r.body.length bc] 87 (0,0))):=by show _=_;rw[hLb.block hwr];exact HR.out
    have Rx:Hid (Tn mb w wb):=HTn.out.trans (Tn.of_below hLb.below);have Qy:w.heap.size<wb.heap.size:=by omega
    have HWb:=hide hwb;clear hc hx hav hX HX hLb hwb HMk HBr HR HTn;cases hno:a.no with
    |true=>
     rw[hno] at d0 HWb;have HX3:Hid (Bz K N r acc=vT K N r (j+1) (r.body.drop (j+1)) MF):=by show _=_;rw[HX2.out,hno];rfl
     clear hno HX2;generalize bs a.name=anm at*;go_wp2;rw[←HWb.out]
     go_roundg (r.body.length- (j+1))
     case measure=>omega
     case rel=>exact⟨j+1,by omega,by go_num,D1,MF,MG,HM,HBb,HRb,Qy,Rx,HX3⟩
    |false=>
     rw[hno] at d0 HWb;have hX3:Bz K N r acc=match lY (gW K (j:Nat) N) r.body with|none=>none|some R=>vT K N r (j+1) (r.body.drop (j+1)) (MF++R.filterMap fun e=>aW r.head e):=by rw[HX2.out,hno];rfl
     have HX3:=hide hX3;obtain⟨dv,hrow,_⟩:=MG.out;have HS:Hid (∀w',Below wb.heap.size wb w'→w'.cell? ⟨w.heap.size,3,none⟩=some (.slice (some ⟨b1,o1,none⟩) r.body.length bc)∧w'.cell? ⟨mb,0,none⟩=some (.slice ka K.length kc)∧w'.cell? ⟨mb,1,none⟩=some (.slice na N.length nc)):=fun w' h=>by
      have hr':=(h.block _ Qy).trans HRb.out;have hm':=(h.block _ (Array.getElem?_eq_some_iff.1 hrow).1).trans hrow;exact⟨by rw[cell_of_row _ _ _ _ _ _ hr'];rfl,by rw[cell_of_row _ _ _ _ _ _ hm'];rfl,by rw[cell_of_row _ _ _ _ _ _ hm'];rfl⟩
     have HWi:Hid (∀w',Below wb.heap.size wb w'→Calls Tryz.prog 88 #[.slice (some ⟨b1,o1,none⟩) r.body.length bc,.slice ka K.length kc,.int .i64 (j:Nat),.slice na N.length nc] w' fun e w''=>∃v' er,e=.returned (.tuple #[v',.int .i64 er])∧yI w'' v' er r.body K (j:Nat) N∧Below wb.heap.size wb w''):=fun w' h=>by
      have h':=aj HBb.out h HBb.out.size;exact(Ro r.body _ _ _ K N (j:Nat) w' (Kind.aX HBd.out h') (HK.out.below h') (HN.out.below h')).mono fun e w'' ⟨v',er,he,hT,hB'⟩=>⟨v',er,he,hT,aj h hB' h.size⟩
     clear hno HX2 hX3 hrow;generalize bs a.name=anm at*;go_wp2;rw[←HWb.out];clear HWb d0 d1 d2;refine wp_region_held_drew (S:=fun w'=>Below wb.heap.size wb w') (by kernel_rfl) (Below.refl _ _).drew (fun hHeld=> ?_);refine ak (i:=0) (d:=some 39) (v:= ?_) rfl rfl hHeld ?_ ?_;rotate_left;focus intro w hSw;(try dsimp only at hSw);go_simp;try with_reducible rfl
     simp only[aK,aL,aze,asu];refine ak (i:=1) (d:=some 40) (v:= ?_) rfl rfl hHeld ?_ ?_;rotate_left;focus intro w hSw;(try dsimp only at hSw);obtain⟨q0,q1,q2⟩:=HS.out _ hSw;go_simp;try with_reducible rfl
     simp only[aK,aL,aze,asu];refine ak (i:=2) (d:=some 41) (v:= ?_) rfl rfl hHeld ?_ ?_;rotate_left;focus intro w hSw;(try dsimp only at hSw);go_simp;try with_reducible rfl
     simp only[aK,aL,aze,asu];refine ak (i:=3) (d:=some 42) (v:= ?_) rfl rfl hHeld ?_ ?_;rotate_left;focus intro w hSw;(try dsimp only at hSw);go_simp;try with_reducible rfl
     simp only[aK,aL,aze,asu];refine ak (i:=4) (d:=some 43) (v:= ?_) rfl rfl hHeld ?_ ?_;rotate_left;focus intro w hSw;(try dsimp only at hSw);go_simp;try with_reducible rfl
     simp only[aK,aL,aze,asu];refine ak (i:=5) (d:=some 44) (v:= ?_) rfl rfl hHeld ?_ ?_;rotate_left;focus intro w hSw;(try dsimp only at hSw);obtain⟨q0,q1,q2⟩:=HS.out _ hSw;go_simp;try with_reducible rfl
     simp only[aK,aL,aze,asu];refine ak (i:=6) (d:=some 45) (v:= ?_) rfl rfl hHeld ?_ ?_;rotate_left;focus intro w hSw;(try dsimp only at hSw);go_simp;try with_reducible rfl
     simp only[aK,aL,aze,asu];refine ak (i:=7) (d:=some 46) (v:= ?_) rfl rfl hHeld ?_ ?_;rotate_left;focus intro w hSw;(try dsimp only at hSw);go_simp;try with_reducible rfl
     simp only[aK,aL,aze,asu];refine ak (i:=8) (d:=some 47) (v:= ?_) rfl rfl hHeld ?_ ?_;rotate_left;focus intro w hSw;(try dsimp only at hSw);go_simp;try with_reducible rfl
     simp only[aK,aL,aze,asu];refine ak (i:=9) (d:=some 48) (v:= ?_) rfl rfl hHeld ?_ ?_;rotate_left;focus intro w hSw;(try dsimp only at hSw);go_simp;try with_reducible rfl
     simp only[aK,aL,aze,asu];refine ak (i:=10) (d:=some 49) (v:= ?_) rfl rfl hHeld ?_ ?_;rotate_left;focus intro w hSw;(try dsimp only at hSw);obtain⟨q0,q1,q2⟩:=HS.out _ hSw;go_simp;try with_reducible rfl
     simp only[aK,aL,aze,asu];refine wpAnyH_ready (rs:=[11]) (by kernel_rfl) (by simp) ?_;refine AllReadyH.cons rfl (fun K hK=> ?_) AllReadyH.nil;go_simp;refine(HWi.out _ hHeld).mono ?_;rintro e w2 ⟨v2,er,rfl,hT2,hB2⟩;refine hK.out _ _ hB2 (fun hHeld=> ?_);clear hK K;refine ak (i:=12) (d:=some 38) (v:= ?_) rfl rfl hHeld ?_ ?_;rotate_left;focus intro w hSw;(try dsimp only at hSw);go_simp;try with_reducible rfl
     simp only[aK,aL,aze,asu];refine ak (i:=13) (d:=some 51) (v:= ?_) rfl rfl hHeld ?_ ?_;rotate_left;focus intro w hSw;(try dsimp only at hSw);go_simp;try with_reducible rfl
     simp only[aK,aL,aze,asu];refine ak (i:=14) (d:=some 52) (v:= ?_) rfl rfl hHeld ?_ ?_;rotate_left;focus intro w hSw;(try dsimp only at hSw);go_simp;try with_reducible rfl
     simp only[aK,aL,aze,asu];refine ak (i:=15) (d:=some 9) (v:= ?_) rfl rfl hHeld ?_ ?_;rotate_left;focus intro w hSw;(try dsimp only at hSw);go_simp;try with_reducible rfl
     simp only[aK,aL,aze,asu];refine ak (i:=16) (d:=some 10) (v:= ?_) rfl rfl hHeld ?_ ?_;rotate_left;focus intro w hSw;(try dsimp only at hSw);go_simp;try with_reducible rfl
     simp only[aK,aL,aze,asu];refine wpAnyH_done (by kernel_rfl) ?_ _;unfold yI at hT2;rw[if_neg (by rw[HEN.out];simp)] at hT2;have O4:Hid (MkB mb (.slice ka K.length kc) (.slice na N.length nc) D1 w2):=MG.out.below hB2;have HB2:Hid (Below w0.heap.size w0 w2):=aj HBb.out hB2 HBb.out.size;have NS:Hid (Tn mb w w2):=Rx.out.trans (Tn.of_below hB2);have HR2:Hid (w2.heap[w.heap.size]?=some (.cells #[.bool r.head.no,.string (bs r.head.name),.slice ta r.head.terms.length tc,.slice (some ⟨b1,o1,none⟩) r.body.length bc] 87 (0,0))):=by show _=_;rw[hB2.block _ Qy];exact HRb.out
     have hw2:w.heap.size<w2.heap.size:=by have:=hB2.size;omega
     clear hB2 hHeld HS HWi MG HBb Rx HRb Qy;cases hR:lY (gW K (j:Nat) N) r.body with
     |none=>
      rw[hR] at hT2;obtain⟨rfl,rfl⟩:=hT2;have HTo:Hid (∀w',F7 K N r acc mb (.slice ka K.length kc) (.slice na N.length nc) 4 w'):=fun w'=>by unfold F7;rw[HX3.out,hR]
      clear hR HX3;go_wp2;go_ret;exact⟨4,rfl,HTo.out _,NS.out⟩
     |some R=>
      rw[hR] at hT2;obtain⟨rfl,hsl⟩:=hT2;have hsm:=kR hR;have HX4:Hid (Bz K N r acc=vT K N r (j+1) (r.body.drop (j+1)) (MF++R.filterMap fun e=>aW r.head e)):=by show _=_;rw[HX3.out,hR]
      obtain⟨ra,rc,rfl⟩:=Kind.slice hsl;have HFl:=hide (MB r.head (.slice ta r.head.terms.length tc) (.slice ra R.length rc) R w2 (Kind.aX HT.out HB2.out) hsl hsm);have r0:w2.cell? ⟨w.heap.size,0,none⟩=some (.bool r.head.no):=by rw[cell_of_row _ _ _ _ _ _ HR2.out];rfl
      have r1:w2.cell? ⟨w.heap.size,0+1,none⟩=some (.string (bs r.head.name)):=by rw[cell_of_row _ _ _ _ _ _ HR2.out];rfl
      have r2:w2.cell? ⟨w.heap.size,0+2,none⟩=some (.slice ta r.head.terms.length tc):=by rw[cell_of_row _ _ _ _ _ _ HR2.out];rfl
      have hfl:=Nat.le_trans (List.length_filterMap_le (fun e=>aW r.head e) R) hsm;clear hR HX3 hsl hsm;generalize bs r.head.name=nm at*;generalize r.head.no=no at*
      go_wp2_with fail
      refine HFl.out.mono ?_;rintro e w3 ⟨v3,rfl,hO3,hL3⟩;have hF3:=hO3.facts (by omega);have HA:=hide (yK mb K D1 _ (.slice ka K.length kc) (.slice na N.length nc) v3 w3 (O4.out.below hL3.below) (HK.out.below (aj HB2.out hL3.below HB2.out.size)) HU.out hF3 hKf hfl HM.out.few);have HB3:Hid (Below w0.heap.size w0 w3):=aj HB2.out hL3.below HB2.out.size;have HR3:Hid (w3.heap[w.heap.size]?=some (.cells #[.bool no,.string nm,.slice ta r.head.terms.length tc,.slice (some ⟨b1,o1,none⟩) r.body.length bc] 87 (0,0))):=by show _=_;rw[hL3.block hw2];exact HR2.out
      have O5:Hid (Tn mb w w3):=NS.out.trans (Tn.of_below hL3.below);have hw3:w.heap.size<w3.heap.size:=by have:=hL3.size;omega
      have hm3:w0.heap.size≤w3.heap.size:=HB3.out.size;obtain⟨a3,c3,rfl⟩:=hO3.slice;clear hO3 hF3 hL3 HFl r0 r1 r2 O4 HB2 HR2 NS hw2
      go_wp2_with fail
      refine HA.out.mono ?_;rintro e w4 ⟨⟨u4,rfl⟩,TK,O6⟩;have VK:=hide TK;have HM4:=hide (HM.out.add _ hfl);have HB4:Hid (Below w0.heap.size w0 w4):=aj HB3.out (O6.below (Nat.le_trans h0 (Nat.le_refl _)) hm3) (Nat.le_refl _);have HR4:Hid (w4.heap[w.heap.size]?=some (.cells #[.bool no,.string nm,.slice ta r.head.terms.length tc,.slice (some ⟨b1,o1,none⟩) r.body.length bc] 87 (0,0))):=by show _=_;rw[O6.block _ hw3 (by omega)];exact HR3.out
      have hw4:w.heap.size<w4.heap.size:=by have:=O6.size;omega
      have VL:Hid (Tn mb w w4):=O5.out.trans O6;clear TK O6 HA;go_wp2
      go_roundg (r.body.length- (j+1))
      case measure=>omega
      case rel=>exact⟨j+1,by omega,by go_num,_,_,VK,HM4,HB4,HR4,hw4,VL,HX4⟩
   ·have HTo:Hid (F7 K N r acc mb (.slice ka K.length kc) (.slice na N.length nc) 0 wr):=by
     show F7 _ _ _ _ _ _ _ _ _;unfold F7;rw[HX.out,List.drop_eq_nil_of_le (by omega),vT];exact⟨rfl,D1,HMk.out,HM.out⟩
    go_wp2;go_ret;exact⟨0,rfl,HTo.out,HTn.out⟩
end Go.Proofs.YtafmbokfkbccaaaGreatDoor
namespace Go.Proofs.YtafmbokfkbccaaaGreatDoor
open Go.RowKit Go.Sort Go.Maps
def uh (b:Nat) (w:World) (v:Value) (er:Int) (p:List aB) (ss:List Nat) (r:gH):Prop:=match dS r.known r.fresh r.level p ss [] with
 |none=>v=.slice none 0 0∧er=4
 |some acc=>er=0∧∃D,cu w b v D∧rG r.known D acc
set_option maxRecDepth 100000 in
set_option maxHeartbeats 4000000 in
theorem O7 (p:List aB) (hp:dB p) (σ:aB→Nat) (r:gH) (hK:GoodS p r.known) (hN:Up r.fresh) (hs:∀f∈r.fresh,f∈r.known) (pv sv kv nv:Value) (w:World) (hpv:dO.sl bY w pv p) (hsv:ou.sl bY w sv (p.map σ)) (hk:Facts w kv r.known) (hn:Facts w nv r.fresh):
  Calls Tryz.prog 150 #[pv,sv,.agg #[kv,nv,.int .i64 r.level,.int .i64 r.rounds,.bool r.done]] w fun e w'=>∃v' er,e=.returned (.tuple #[v',.int .i64 er])∧uh (w.heap.size+2) w' v' er p (p.map σ) r∧Below w.heap.size w w':=by
 obtain⟨K,N,lev,rn,dn⟩:=r;dsimp only at*;obtain⟨pa,pc,rfl⟩:=Kind.slice hpv;obtain⟨sa,sc,rfl⟩:=Kind.slice hsv;obtain⟨ka,kc,rfl⟩:=aA hk;obtain⟨na,nc,rfl⟩:=aA hn;have TL:(p.map σ).length=p.length:=List.length_map _;generalize hss:p.map σ=ss at*;have TM:=hide TL;clear TL;have HP:=hide hpv;have HSV:=hide hsv;have HRP:=hide hp;have HGK:=hide hK;have HUN:=hide hN;have HSub:=hide hs;have h16:=hp.few;obtain⟨wa,hwa⟩:∃wa,wa=w.alloc (.cells #[.slice ka K.length kc,.slice na N.length nc,.int .i64 lev,.int .i64 rn,.bool dn] 47):=⟨_,rfl⟩;have hLa:Later w wa:=by rw[hwa];exact(Later.refl w).alloc _
 have hza:wa.heap.size=w.heap.size+1:=by rw[hwa];simp
 have HRa:Hid (wa.heap[w.heap.size]?=some (.cells #[.slice ka K.length kc,.slice na N.length nc,.int .i64 lev,.int .i64 rn,.bool dn] 47 (0,0))):=by show _=_;rw[hwa];exact heap_alloc_new w _
 have HKa:=hide (hk.later hLa);have HNa:=hide (hn.later hLa);have HLa:=hide hLa;have Lc:Hid (MkB (w.heap.size+1) (.slice ka K.length kc) (.slice na N.length nc) [] (wa.alloc (.cells #[.slice ka K.length kc,.slice na N.length nc,.slice none 0 0] 280))):=by
  refine⟨.slice none 0 0,?_,cu.nil _ _⟩;rw[←hza];exact heap_alloc_new wa _
 have HB1:Hid (Below wa.heap.size wa (wa.alloc (.cells #[.slice ka K.length kc,.slice na N.length nc,.slice none 0 0] 280))):=((Later.refl wa).alloc _).below;rw[hwa] at Lc HB1;have HWa:=hide hwa;clear hpv hsv hp hK hN hs hk hn hLa hwa
 go_enter Tryz.func150,Tryz.ntmps150
 go_wp2
 go_loopg [19] p.length (fun g i wr=>∃j:Nat,j+g=p.length∧i=.int .i64 j∧∃D acc,Hid (MkB (w.heap.size+1) (.slice ka K.length kc) (.slice na N.length nc) D wr)∧Hid (rG K D acc)∧Hid (Below wa.heap.size wa wr)∧Hid (dS K N lev p ss []=dS K N lev (p.drop j) (ss.drop j) acc))
 case atStart=>exact⟨0,by omega,rfl,[],[],Lc,rG.nil K,by show Below _ _ _;rw[HWa.out];exact HB1.out,(rfl:_=_)⟩
 case round=>
  clear Lc HB1;obtain⟨j,hj,rfl,D,acc,HMk,HM,HBr,HX⟩:=hrel;have hBw:Below w.heap.size w wr:=aj HLa.out.below HBr.out (by omega);have hrr:wr.heap[w.heap.size]?=some (.cells #[.slice ka K.length kc,.slice na N.length nc,.int .i64 lev,.int .i64 rn,.bool dn] 47 (0,0)):=(HBr.out.block _ (by omega)).trans HRa.out
  by_cases hlt:j<p.length
  ·obtain⟨r,hr⟩:∃x,p[j]?=some x:=⟨_,List.getElem?_eq_getElem hlt⟩;have hrm:r∈p:=List.mem_of_getElem? hr;obtain⟨b1,o1,_,rfl,hb1,⟨tv,bv,rfl,htv,hbv⟩,hc⟩:=Kind.dY HP.out hr;have d0:wr.cell? ⟨b1,o1+j*4,none⟩=some (.bool r.head.no):=by rw[hBw.cell (p:=⟨b1,o1+j*4,none⟩) hb1];exact hc 0 _ rfl
   have d1:wr.cell? ⟨b1,o1+j*4+1,none⟩=some (.string (bs r.head.name)):=by rw[hBw.cell (p:=⟨b1,o1+j*4+1,none⟩) hb1];exact hc 1 _ rfl
   have d2:wr.cell? ⟨b1,o1+j*4+2,none⟩=some tv:=by rw[hBw.cell (p:=⟨b1,o1+j*4+2,none⟩) hb1];exact hc 2 _ rfl
   have d3:wr.cell? ⟨b1,o1+j*4+3,none⟩=some bv:=by rw[hBw.cell (p:=⟨b1,o1+j*4+3,none⟩) hb1];exact hc 3 _ rfl
   have hpd:p.drop j=r::p.drop (j+1):=by
    obtain⟨h1,e1⟩:=List.getElem?_eq_some_iff.1 hr;rw[List.drop_eq_getElem_cons h1,e1]
   obtain⟨ta,tc,rfl⟩:=Kind.slice htv;obtain⟨ba,bc,rfl⟩:=Kind.slice hbv;have hwr:=hBw.size;obtain⟨s,hs⟩:∃x,ss[j]?=some x:=⟨_,List.getElem?_eq_getElem (by have:=TM.out;omega)⟩;obtain⟨b2,o2,_,rfl,hb2,rfl,hc2⟩:=Kind.dY HSV.out hs;have hsd:ss.drop j=s::ss.drop (j+1):=by
    obtain⟨h1,e1⟩:=List.getElem?_eq_some_iff.1 hs;rw[List.drop_eq_getElem_cons h1,e1]
   have hstep:dS K N lev p ss []=if(s:Int)=lev then(match Bz K N r acc with
     |none=>none
     |some acc'=>dS K N lev (p.drop (j+1)) (ss.drop (j+1)) acc') else dS K N lev (p.drop (j+1)) (ss.drop (j+1)) acc:=by
    rw[HX.out,hpd,hsd];rfl
   have TH:(j:Int)<(ss.length:Int):=by have:=TM.out;omega
   obtain⟨wb,hwb⟩:∃wb,wb=wr.alloc (.cells #[.bool r.head.no,.string (bs r.head.name),.slice ta r.head.terms.length tc,.slice ba r.body.length bc] 87):=⟨_,rfl⟩;have hLb:Later wr wb:=by rw[hwb];exact(Later.refl _).alloc _
   have hrb:wb.heap[wr.heap.size]?=some (.cells #[.bool r.head.no,.string (bs r.head.name),.slice ta r.head.terms.length tc,.slice ba r.body.length bc] 87 (0,0)):=by rw[hwb];exact heap_alloc_new _ _
   have hBb:Below w.heap.size w wb:=aj hBw hLb.below hwr;have e0:wb.cell? ⟨b2,o2+j,none⟩=some (.int .i64 s):=by rw[hBb.cell (p:=⟨b2,o2+j,none⟩) hb2];simpa[ou] using hc2 0 _ rfl
   have l0:wb.cell? ⟨w.heap.size,2,none⟩=some (.int .i64 lev):=by rw[hLb.cell (p:=⟨w.heap.size,2,none⟩) (Array.getElem?_eq_some_iff.1 hrr).1,cell_of_row _ _ _ _ _ _ hrr];rfl
   have r0:wb.cell? ⟨wr.heap.size,0,none⟩=some (.bool r.head.no):=by rw[cell_of_row _ _ _ _ _ _ hrb];rfl
   have r1:wb.cell? ⟨wr.heap.size,0+1,none⟩=some (.string (bs r.head.name)):=by rw[cell_of_row _ _ _ _ _ _ hrb];rfl
   have r2:wb.cell? ⟨wr.heap.size,0+2,none⟩=some (.slice ta r.head.terms.length tc):=by rw[cell_of_row _ _ _ _ _ _ hrb];rfl
   have r3:wb.cell? ⟨wr.heap.size,0+3,none⟩=some (.slice ba r.body.length bc):=by rw[cell_of_row _ _ _ _ _ _ hrb];rfl
   have MG:Hid (MkB (w.heap.size+1) (.slice ka K.length kc) (.slice na N.length nc) D wb):=HMk.out.below hLb.below;have HBb:Hid (Below wa.heap.size wa wb):=aj HBr.out hLb.below HBr.out.size;have HWb:=hide hwb
   by_cases hsn:(s:Int)=lev
   ·rw[if_pos hsn] at hstep;have TN:Hid (∀q,Calls Tryz.prog 211 #[.pointer (some ⟨w.heap.size+1,0,none⟩),.agg #[.bool r.head.no,.string (bs r.head.name),.slice ta r.head.terms.length tc,.slice ba r.body.length bc]] (wb.drewN q) fun e w'=>∃er,e=.returned (.int .i64 er)∧F7 K N r acc (w.heap.size+1) (.slice ka K.length kc) (.slice na N.length nc) er w'∧Tn (w.heap.size+1) (wb.drewN q) w'):=fun q=>
     J3 p HRP.out r hrm K N D acc HGK.out HUN.out HSub.out (w.heap.size+1) _ _ _ _ wa (wb.drewN q) HKa.out HNa.out (Kind.aN htv HLa.out) (Kind.aN hbv HLa.out) (by omega) (Ao HBb.out q) (MG.out.drewN q) HM.out
    have hneq:((s:Int) != lev)=false:=by simp[hsn]
    have HST:=hide hstep;clear hc hc2 hr hs htv hbv hpd hsd hLb hwb hrm hrb hBb hrr hstep HX HMk hBw;generalize bs r.head.name=nm at*;generalize r.head.no=no at*;subst hsn;go_wp2;rw[←HWb.out]
    go_quiet (fail)
    go_wp2_with fail
    refine(TN.out _).mono ?_;rintro e w3 ⟨er,rfl,hT3,Ld⟩;have HB3:Hid (Below wa.heap.size wa w3):=aj (Ao HBb.out _) (Ld.below (n:=wa.heap.size) (by omega) HBb.out.size) (Nat.le_refl _);clear Ld TN HWb e0 l0 r0 r1 r2 r3 d0 d1 d2 d3;unfold F7 at hT3;cases hh:Bz K N r acc with
    |none=>
     rw[hh] at hT3;have hT3:er=4:=hT3;subst hT3;have HT:Hid (∀w',uh (w.heap.size+2) w' (.slice none 0 0) 4 p ss ⟨K,N,s,rn,dn⟩):=fun w'=>by unfold uh;dsimp only;rw[HST.out,hh];exact⟨rfl,rfl⟩
     have VN:Hid (Below w.heap.size w w3):=aj HLa.out.below HB3.out (by omega);clear hh HST;go_wp2;exact bodyPost_ret (v:=.tuple #[.slice none 0 0,.int .i64 4]) (by simp[results,Tryz.results150,go_sem]) rfl ⟨_,4,rfl,HT.out _,VN.out⟩
    |some acc'=>
     rw[hh] at hT3;obtain⟨rfl,D',TP,hM'⟩:=hT3;have HX':Hid (dS K N s p ss []=dS K N s (p.drop (j+1)) (ss.drop (j+1)) acc'):=by show _=_;rw[HST.out,hh]
     have VO:=hide TP;have HM':=hide hM';clear hh HST TP hM';go_wp2
     go_roundg (p.length- (j+1))
     case measure=>omega
     case rel=>exact⟨j+1,by omega,by go_num,D',acc',VO,HM',HB3,HX'⟩
   ·rw[if_neg hsn] at hstep;have hneq:((s:Int) != lev)=true:=by simp[hsn]
    have HX':=hide hstep;clear hc hc2 hr hs htv hbv hpd hsd hLb hwb hrm hrb hBb hrr hstep HX HMk hBw;generalize bs r.head.name=nm at*;generalize r.head.no=no at*;go_wp2;rw[←HWb.out]
    go_quiet (fail)
    go_wp2
    go_roundg (p.length- (j+1))
    case measure=>omega
    case rel=>exact⟨j+1,by omega,by go_num,D,acc,MG.out.drewN _,HM,Ao HBb.out _,HX'⟩
  ·obtain⟨dv,hrow,hO⟩:=HMk.out;obtain⟨da,dc,rfl⟩:=hO.slice;have c2:wr.cell? ⟨w.heap.size+1,2,none⟩=some (.slice da D.length dc):=by rw[cell_of_row _ _ _ _ _ _ hrow];rfl
   have HT:Hid (uh (w.heap.size+2) wr (.slice da D.length dc) 0 p ss ⟨K,N,lev,rn,dn⟩):=by
    show uh _ _ _ _ _ _ _;unfold uh;dsimp only;rw[HX.out,List.drop_eq_nil_of_le (by omega)];unfold dS;exact⟨rfl,D,hO,HM.out⟩
   have HBw:=hide hBw;clear hrow hO HX hBw hrr;go_wp2;exact bodyPost_ret (v:=.tuple #[.slice da D.length dc,.int .i64 0]) (by simp[results,Tryz.results150,go_sem]) rfl ⟨_,0,rfl,HT.out,HBw.out⟩
end Go.Proofs.YtafmbokfkbccaaaGreatDoor
