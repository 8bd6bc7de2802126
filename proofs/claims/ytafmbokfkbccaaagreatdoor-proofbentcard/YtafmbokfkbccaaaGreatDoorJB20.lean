import Derived.Test.YtafmbokfkbccaaaGreatDoorJB18
import Derived.Test.YtafmbokfkbccaaaGreatDoorJB19
import Derived.Test.YtafmbokfkbccaaaGreatDoorJB16
namespace Go.Proofs.YtafmbokfkbccaaaGreatDoor
open Go.RowKit Go.Sort Go.Maps
def nD (w:World) (v:Value) (er:Int) (a:Int×List aj):Prop:=er=a.1∧(a.1≠0→v=.slice none 0 0)∧(a.1=0→Facts w v a.2)
theorem q8 (n:Int) (fs:List aj) (p:List aA) (acc:List aj):eP n fs p [] acc=(0,fO acc):=by cases p <;> rfl
theorem Dl {L:List aj} (h:∀f∈L,kM f):∀f∈fO L,kM f:=fun f hf=>h f (bU.1 hf)
theorem kg {P:Program} {K E:TypeId} {L:List aj} {b n:Nat} (w:World) {ops:Array Oper} {rest:List Oper} {o:Oper} {a:Act} {Q:Exit→Act→World→Prop} (hg:o.guard=none) (m:Operand) (t:TypeId)
  (hop:o.op=Op.call {callee:=Callee.builtin Builtin.len,args:=#[m],argTypes:=#[t]}) (ht:P.underlying t=some (.map K E)) (hm:a.eval m=.map (some b)) (h:fF P K w b n L)
  (hK:wpList P ops Q rest (a.put o.dst (.int .i64 ((fO L).length:Nat))) w):wpList P ops Q (o::rest) a w:=by
 refine wpList_plain hg fun K' hK'=> ?_;unfold Oper.wp;simp[execOp,hop,resolve,invoke,builtin,hm,h.len ht o.type,Result.andThen];exact hK' _ _ hK
set_option maxRecDepth 100000 in
set_option maxHeartbeats 4000000 in
theorem M7 (p:List aA) (ss:List Nat) (n:Int) (fs:List aj) (pv sv fv:Value) (w:World) (hp:eD.sl bJ w pv p) (hss:r9.sl bJ w sv ss) (hf:Facts w fv fs) (h16:p.length≤16) (LY:fs.length≤200)
  (hok:∀r∈p,pO r.body fs []=0) (hsh:∀r∈p,∀R,lF (fun _=>fs) r.body=some R→∀l∈R,∀f,aQ r.head l=some f→kM f) (hfs:∀f∈fs,kM f):
  Calls Tryz.prog 125 #[pv,sv,.int .i64 n,fv] w fun e w'=>∃v' er,e=.returned (.tuple #[v',.int .i64 er])∧nD w' v' er (bV p ss n fs)∧Below w.heap.size w w':=by
 obtain⟨pa,pc,rfl⟩:=Kind.slice hp;obtain⟨sa,sc,rfl⟩:=Kind.slice hss;obtain⟨fa,fc,rfl⟩:=aD hf;have hsl:=hss.1.1;have HP:=hide hp;have HSS:=hide hss;have HF:=hide hf;have HOk:=hide hok;have HSh:=hide hsh;have hL1:Later w (w.alloc (.map #[] 0)):=(Later.refl w).alloc _;have HAd:=hide (vW w.heap.size 0 [] (.slice fa fs.length fc) fs (w.alloc (.map #[] 0)) (fF.made _ _ _) (hf.later hL1) hfs (by omega));have HL1:=hide hL1.below;have hmm:= @run_makeMap Tryz.prog;clear hp hss hf hok hsh hfs hL1
 go_enter Tryz.func125,Tryz.ntmps125
 go_wp2_with fail
 refine HAd.out.mono ?_;rintro e w2 ⟨⟨u2,rfl⟩,hK2,hT2⟩;have HK2:Hid (KnN w2 w.heap.size (0+fs.length) fs):=by show KnN _ _ _ _;simpa using hK2
 have HB2:Hid (Below w.heap.size w w2):=HL1.out.trans (hT2.below (Nat.le_refl _) (by simp));clear hK2 hT2 HAd HL1 hmm;go_wp2
 go_loopg [21] p.length (fun g i wr=>∃j:Nat,j+g=p.length∧i=.int .i64 j∧∃acc m,m≤200+20000*j∧Hid (KnN wr w.heap.size m acc)∧Hid (Below w.heap.size w wr)∧Hid (bV p ss n fs=eP n fs (p.drop j) (ss.drop j) acc))
 case atStart=>exact⟨0,by omega,rfl,fs,_,by omega,HK2,HB2,(rfl:_=_)⟩
 case round=>
  clear HK2 HB2;obtain⟨j,hj,rfl,acc,m,hm,HK,HBr,HE⟩:=hrel
  by_cases hlt:j<p.length
  ·obtain⟨r,hr⟩:∃x,p[j]?=some x:=⟨_,List.getElem?_eq_getElem hlt⟩;have hrm:r∈p:=List.mem_of_getElem? hr;obtain⟨b1,o1,_,rfl,hb1,⟨tv,bv,rfl,htv,hbv⟩,hc⟩:=Kind.fP HP.out hr;have d0:wr.cell? ⟨b1,o1+j*4,none⟩=some (.bool r.head.no):=by rw[HBr.out.cell (p:=⟨b1,o1+j*4,none⟩) hb1];exact hc 0 _ rfl
   have d1:wr.cell? ⟨b1,o1+j*4+1,none⟩=some (.string (bs r.head.name)):=by rw[HBr.out.cell (p:=⟨b1,o1+j*4+1,none⟩) hb1];exact hc 1 _ rfl
   have d2:wr.cell? ⟨b1,o1+j*4+2,none⟩=some tv:=by rw[HBr.out.cell (p:=⟨b1,o1+j*4+2,none⟩) hb1];exact hc 2 _ rfl
   have d3:wr.cell? ⟨b1,o1+j*4+3,none⟩=some bv:=by rw[HBr.out.cell (p:=⟨b1,o1+j*4+3,none⟩) hb1];exact hc 3 _ rfl
   have hpd:p.drop j=r::p.drop (j+1):=by
    obtain⟨h1,e1⟩:=List.getElem?_eq_some_iff.1 hr;rw[List.drop_eq_getElem_cons h1,e1]
   obtain⟨ta,tc,rfl⟩:=Kind.slice htv;obtain⟨ba,bc,rfl⟩:=Kind.slice hbv;have hwr:=HBr.out.size
   by_cases hsj:j<ss.length
   ·obtain⟨s,hs⟩:∃x,ss[j]?=some x:=⟨_,List.getElem?_eq_getElem hsj⟩;obtain⟨b2,o2,_,rfl,hb2,rfl,hc2⟩:=Kind.fP HSS.out hs;have e0:wr.cell? ⟨b2,o2+j,none⟩=some (.int .i64 s):=by rw[HBr.out.cell (p:=⟨b2,o2+j,none⟩) hb2];simpa[r9] using hc2 0 _ rfl
    have hsd:ss.drop j=s::ss.drop (j+1):=by
     obtain⟨h1,e1⟩:=List.getElem?_eq_some_iff.1 hs;rw[List.drop_eq_getElem_cons h1,e1]
    have hstep:bV p ss n fs=if(s:Int)=n then(match dM r fs with
      |none=>(4,[])
      |some x=>if 200<(fO (acc++x)).length then(5,[]) else eP n fs (p.drop (j+1)) (ss.drop (j+1)) (acc++x)) else eP n fs (p.drop (j+1)) (ss.drop (j+1)) acc:=by
     rw[HE.out,hpd,hsd];rfl
    have Tc:(j:Int)<(ss.length:Int):=by omega
    have Ut:b2<wr.heap.size:=by omega
    by_cases hsn:(s:Int)=n
    ·rw[if_pos hsn] at hstep;obtain⟨wb,hwb⟩:∃wb,wb=wr.alloc (.cells #[.bool r.head.no,.string (bs r.head.name),.slice ta r.head.terms.length tc,.slice ba r.body.length bc] 87):=⟨_,rfl⟩;have hLb:Later wr wb:=by rw[hwb];exact(Later.refl _).alloc _
     have hBb:Below w.heap.size w wb:=ak HBr.out hLb.below hwr;have HH:=hide (M4 r (.slice ta r.head.terms.length tc) (.slice ba r.body.length bc) (.slice fa fs.length fc) fs wb (Kind.aR htv hBb) (Kind.aR hbv hBb) (HF.out.below hBb) (HSh.out r hrm));have h0:=HOk.out r hrm;have QL:=HSh.out r hrm;have HKb:=hide (HK.out.later hLb);have HBb:=hide hBb;have HWb:=hide hwb;clear hc hc2 hr hs htv hbv hpd hsd HE hLb hBb hwb hrm;have hneq:((s:Int) != n)=false:=by simp[hsn]
     generalize bs r.head.name=nm at*;generalize hno:r.head.no=no at*;clear hno;subst hsn
     go_wp2_with fail
     rw[←HWb.out];refine HH.out.mono ?_;rintro e w3 ⟨v3,er,rfl,hT3,hB3⟩;unfold oO at hT3;rw[if_neg (by simp[h0])] at hT3;have HB3:Hid (Below w.heap.size w w3):=ak HBb.out hB3 HBb.out.size;have HK3:=hide (HKb.out.below hB3);clear hB3 HH HWb HKb HBb;cases hh:dM r fs with
     |none=>
      rw[hh] at hT3 hstep;obtain⟨rfl,rfl⟩:=hT3;have HT:Hid (∀w',nD w' (.slice none 0 0) 4 (bV p ss s fs)):=fun w'=>by rw[hstep];exact⟨rfl,fun _=>rfl,fun h=>by simp at h⟩
      clear hstep hh;go_wp2;exact bodyPost_ret (v:=.tuple #[.slice none 0 0,.int .i64 4]) (by simp[results,Tryz.results125,go_sem]) rfl ⟨_,4,rfl,HT.out _,HB3.out⟩
     |some x=>
      rw[hh] at hT3 hstep;obtain⟨rfl,hF3⟩:=hT3;have hxs:(∀f∈x,kM f)∧x.length≤20000:=by
       unfold dM at hh;cases hR:lF (fun _=>fs) r.body with
       |none=>rw[hR] at hh;cases hh
       |some R=>
        rw[hR] at hh;cases hh;refine⟨Dl fun f hf=> ?_,Nat.le_trans (Bh _) (Nat.le_trans (List.length_filterMap_le _ _) (oh hR))⟩;obtain⟨l,hl,hlf⟩:=List.mem_filterMap.1 hf;exact QL R hR l hl f hlf
      have hxl:=hxs.2;have HAd:=hide (vW w.heap.size m acc v3 x w3 HK3.out hF3 hxs.1 (by omega));obtain⟨xa,xc,rfl⟩:=aD hF3;dsimp only at hstep;have HST:=hide hstep;clear hF3 hxs hh hstep QL HK3
      go_wp2_with fail
      refine HAd.out.mono ?_;rintro e w4 ⟨⟨u4,rfl⟩,hK4,hT4⟩;have HB4:Hid (Below w.heap.size w w4):=HB3.out.trans (hT4.below (Nat.le_refl _) HB3.out.size);have HK4:=hide hK4;clear hK4 hT4 HAd
      by_cases hbig:200<(fO (acc++x)).length
      ·have HT:Hid (∀w',nD w' (.slice none 0 0) 5 (bV p ss s fs)):=fun w'=>by rw[HST.out,if_pos hbig];exact⟨rfl,fun _=>rfl,fun h=>by simp at h⟩
       have hbi:(200:Int)<((fO (acc++x)).length:Nat):=by omega
       clear HST hbig
       go_wp2_with (at_len;refine kg _ rfl _ 160 rfl Tryz.underlying160 rfl HK4.out ?_)
       exact bodyPost_ret (v:=.tuple #[.slice none 0 0,.int .i64 5]) (by simp[results,Tryz.results125,go_sem]) rfl ⟨_,5,rfl,HT.out _,HB4.out⟩
      ·have HE4:Hid (bV p ss s fs=eP s fs (p.drop (j+1)) (ss.drop (j+1)) (acc++x)):=by show _=_;rw[HST.out,if_neg hbig]
       have hbi:¬(200:Int)<((fO (acc++x)).length:Nat):=by omega
       clear HST hbig
       go_wp2_with (at_len;refine kg _ rfl _ 160 rfl Tryz.underlying160 rfl HK4.out ?_)
       go_roundg (p.length- (j+1))
       case measure=>omega
       case rel=>exact⟨j+1,by omega,by go_num,acc++x,m+x.length,by omega,HK4,HB4,HE4⟩
    ·rw[if_neg hsn] at hstep;have HE4:Hid (bV p ss n fs=eP n fs (p.drop (j+1)) (ss.drop (j+1)) acc):=hstep;have HB4:Hid (Below w.heap.size w (wr.alloc (.cells #[.bool r.head.no,.string (bs r.head.name),.slice ta r.head.terms.length tc,.slice ba r.body.length bc] 87))):=ak HBr.out ((Later.refl _).alloc _).below hwr;have HK4:Hid (KnN (wr.alloc (.cells #[.bool r.head.no,.string (bs r.head.name),.slice ta r.head.terms.length tc,.slice ba r.body.length bc] 87)) w.heap.size m acc):=HK.out.later ((Later.refl _).alloc _);have hneq:((s:Int) != n)=true:=by simpa using hsn
     clear hstep hc hc2 hr hs htv hbv hpd hsd HE hsn hrm;generalize bs r.head.name=nm at*;generalize r.head.no=no at*;go_wp2
     go_roundg (p.length- (j+1))
     case measure=>omega
     case rel=>exact⟨j+1,by omega,by go_num,acc,m,by omega,HK4,HB4,HE4⟩
   ·have hsd:ss.drop j=[]:=List.drop_eq_nil_of_le (by omega);have hsd2:ss.drop (j+1)=[]:=List.drop_eq_nil_of_le (by omega);have HE4:Hid (bV p ss n fs=eP n fs (p.drop (j+1)) (ss.drop (j+1)) acc):=by show _=_;rw[HE.out,hsd,hsd2,q8,q8]
    have HB4:Hid (Below w.heap.size w (wr.alloc (.cells #[.bool r.head.no,.string (bs r.head.name),.slice ta r.head.terms.length tc,.slice ba r.body.length bc] 87))):=ak HBr.out ((Later.refl _).alloc _).below hwr;have HK4:Hid (KnN (wr.alloc (.cells #[.bool r.head.no,.string (bs r.head.name),.slice ta r.head.terms.length tc,.slice ba r.body.length bc] 87)) w.heap.size m acc):=HK.out.later ((Later.refl _).alloc _);have Tc:(ss.length:Int)≤(j:Int):=by omega
    clear hc hr htv hbv hpd hsd hsd2 HE hrm hsj;generalize bs r.head.name=nm at*;generalize r.head.no=no at*;go_wp2
    go_roundg (p.length- (j+1))
    case measure=>omega
    case rel=>exact⟨j+1,by omega,by go_num,acc,m,by omega,HK4,HB4,HE4⟩
  ·have hd:p.drop j=[]:=List.drop_eq_nil_of_le (by omega);have HX:Hid (bV p ss n fs=(0,fO acc)):=by show _=_;rw[HE.out,hd];rfl
   have HSt:=hide (BL _ _ _ wr HK.out (by omega));clear hd HE
   go_wp2_with fail
   refine HSt.out.mono ?_;rintro e w6 ⟨v6,rfl,hF6,hB6⟩;have HT6:Hid (nD w6 v6 0 (bV p ss n fs)):=by show nD _ _ _ _;rw[HX.out];exact⟨rfl,fun h=>absurd rfl h,fun _=>hF6⟩
   have HB6:Hid (Below w.heap.size w w6):=ak HBr.out hB6 HBr.out.size;obtain⟨a6,c6,rfl⟩:=aD hF6;clear hF6 hB6;go_wp2;exact bodyPost_ret (v:=.tuple #[.slice a6 (fO acc).length c6,.int .i64 0]) (by simp[results,Tryz.results125,go_sem]) rfl ⟨_,0,rfl,HT6.out,HB6.out⟩
end Go.Proofs.YtafmbokfkbccaaaGreatDoor
namespace Go.Proofs.YtafmbokfkbccaaaGreatDoor
open Go.RowKit Go.Sort Go.Maps
theorem j5 {f:aj} (h:iH f):kM f:=
 ⟨by have:=qM h.1;omega,h.2.1,fun s hs=>by have:=qM (h.2.2 s hs);omega⟩
theorem kR {l:List aj} (hw:∀f∈l,gD f=0) (hu:Up l):∀(n k:Nat),k+n=l.length→cu l n k=(0,0)
 |0,_,_=>rfl
 |n+1,k,h=>by
  have hk:k<l.length:=by omega
  unfold cu;have e1:gD (l.getD k aB)=0:=hw _ (by rw[List.getD_eq_getElem?_getD,List.getElem?_eq_getElem hk];exact List.getElem_mem hk);rw[if_neg (by rw[e1];simp),if_neg,kR hw hu n (k+1) (by omega)];rintro⟨h0,h1⟩;have:=List.pairwise_iff_getElem.1 hu (k-1) k (by omega) hk (by omega);rw[List.getD_eq_getElem?_getD,List.getD_eq_getElem?_getD,List.getElem?_eq_getElem (by omega),List.getElem?_eq_getElem hk] at h1;simp only[Option.getD_some] at h1;omega
theorem lZ {l:List aj} (hu:Up l) (hr:∀f∈l,iH f) (hl:l.length≤200):bF l=(0,0):=by
 unfold bF;rw[if_neg (by omega)];exact kR (fun f hf=>iJ.2 (hr f hf)) hu _ 0 (by omega)
theorem vY {p:List aA} {l:List aj} (h:(bF l).1=0) (hf:∀f∈l,sD p f=true):GoodS p l:=by
 obtain⟨h1,h2,h3⟩:=set_right h;exact⟨h2,fun f hf=>iJ.1 (h3 f hf),h1,hf⟩
theorem uw {p:List aA} (hp:cZ p) {L:List aj} (hL:GoodS p L):∀r∈p,pO r.body L []=0:=fun r hr=>by
 unfold pO;rw[if_neg (by simp[(hp.rules r hr).body]),if_neg (by rw[lZ hL.up hL.right hL.few];simp)]
 rfl
theorem q9 {p:List aA} (hp:cZ p) {L:List aj} (hL:GoodS p L):∀r∈p,∀R,lF (fun _=>L) r.body=some R→∀l∈R,∀f,aQ r.head l=some f→kM f:=fun r hr _ hR l hl _ hf=>
 j5 (nQ (hp.rules r hr) hL.right ((lW (bH (hp.rules r hr)) hR l).1 hl) hf).1
set_option maxRecDepth 100000 in
set_option maxHeartbeats 2000000 in
theorem Pm (p:List aA) (hp:cZ p) (σ:aA→Nat) (n:Int) (fs:List aj) (pv sv fv:Value) (w:World) (hpv:eD.sl bJ w pv p) (hsv:r9.sl bJ w sv (p.map σ)) (hf:Facts w fv fs) (hg:GoodS p fs):
  Calls Tryz.prog 69 #[pv,sv,.int .i64 n,fv] w fun e w'=>∃v' er,e=.returned (.tuple #[v',.int .i64 er])∧nD w' v' er (dH p (p.map σ) n 201 fs)∧((dH p (p.map σ) n 201 fs).1=0→GoodS p (dH p (p.map σ) n 201 fs).2)∧Below w.heap.size w w':=by
 generalize hss:p.map σ=ss at*;have HSS:=hide hss;clear hss;obtain⟨pa,pc,rfl⟩:=Kind.slice hpv;obtain⟨sa,sc,rfl⟩:=Kind.slice hsv;have HP:=hide hpv;have HSV:=hide hsv;have HF:=hide hf;have HG:=hide hg;have HRP:=hide hp;have LY:=hg.few;clear hpv hsv hf hg hp
 go_enter Tryz.func69,Tryz.ntmps69
 go_wp2
 go_loopg [3] 201 (fun g v wr=>∃k L,k=g∧200<L.length+k∧Hid (Facts wr v L)∧Hid (GoodS p L)∧Hid (Below w.heap.size w wr)∧Hid (dH p ss n 201 fs=dH p ss n k L))
 case atStart=>exact⟨201,fs,rfl,by omega,HF,HG,Below.refl _ _,(rfl:_=_)⟩
 case round=>
  clear HF HG;obtain⟨k,L,hkg,hk,HF,HG,HBr,HE⟩:=hrel;have hL:=HG.out.few;obtain⟨k',rfl⟩:∃k',k=k'+1:=⟨k-1,by omega⟩;have HC:=hide (M7 p ss n L _ _ _ wr (Kind.aR HP.out HBr.out) (Kind.aR HSV.out HBr.out) HF.out HRP.out.few hL (uw HRP.out HG.out) (q9 HRP.out HG.out) (fun f hf=>j5 (HG.out.right f hf)));obtain⟨la,lc,rfl⟩:=aD HF.out;obtain⟨er,S,hS⟩:∃er S,bV p ss n L=(er,S):=⟨_,_,rfl⟩;have hst:dH p ss n 201 fs=if er≠0 then(er,[]) else if S.length=L.length then(0,S) else dH p ss n k' S:=by
   rw[HE.out,dH,hS]
  rw[hS] at HC;have HSt:=hide hst;have HGS:Hid (er=0→GoodS p S∧L.length≤S.length):=fun e=>by
   subst e;obtain⟨g1,g2⟩:=jN HRP.out σ HG.out (by rw[HSS.out];exact hS);exact⟨g1,sw HG.out.up g2⟩
  clear hst hS HE
  go_wp2_with fail
  refine HC.out.mono ?_;rintro e w2 ⟨v2,er',rfl,⟨her,hT1,hT2⟩,hB2⟩;dsimp only at her hT1 hT2⊢;have Pn:=her.symm;clear her;subst Pn;have HB2:Hid (Below w.heap.size w w2):=ak HBr.out hB2 HBr.out.size;clear HC hB2
  by_cases h0:er=0
  ·subst h0;have hF2:=hT2 rfl;have HF2:=hide hF2;obtain⟨hgS,hlS⟩:=HGS.out rfl;have QM:=hide hgS;obtain⟨xa,xc,rfl⟩:=aD hF2;have hSt:=HSt.out;rw[if_neg (by simp)] at hSt
   by_cases hlen:S.length=L.length
   ·rw[if_pos hlen] at hSt;have HR:=hide hSt;have hli:((S.length:Nat):Int)=(L.length:Nat):=by omega
    clear hSt hlen hT1 hT2 hF2 hgS HSt HGS;go_wp2;exact bodyPost_ret (v:=.tuple #[.slice xa S.length xc,.int .i64 0]) (by simp[results,Tryz.results69,go_sem]) rfl ⟨_,0,rfl,by rw[HR.out];exact⟨rfl,fun h=>absurd rfl h,fun _=>HF2.out⟩,by rw[HR.out];exact fun _=>QM.out,HB2.out⟩
   ·rw[if_neg hlen] at hSt;have HR:=hide hSt;have hli:¬((S.length:Nat):Int)=(L.length:Nat):=by omega
    have hk':200<S.length+k':=by omega
    clear hSt hlen hT1 hT2 hF2 hgS HSt HGS;go_wp2
    go_roundg k'
    case measure=>omega
    case rel=>exact⟨k',S,rfl,hk',HF2,QM,HB2,HR⟩
  ·have e2:=hT1 h0;subst e2;have HR:Hid (dH p ss n 201 fs=(er,[])):=by show _=_;rw[HSt.out,if_pos h0]
   have HT:Hid (∀w',nD w' (.slice none 0 0) er (dH p ss n 201 fs)∧((dH p ss n 201 fs).1=0→GoodS p (dH p ss n 201 fs).2)):=fun w'=>by rw[HR.out];exact⟨⟨rfl,fun _=>rfl,fun h=>absurd h h0⟩,fun h=>absurd h h0⟩
   have hne:(er != 0)=true:=by simpa using h0
   clear hT1 hT2 HSt HGS HR;go_wp2;exact bodyPost_ret (v:=.tuple #[.slice none 0 0,.int .i64 er]) (by simp[results,Tryz.results69,go_sem]) rfl ⟨_,er,rfl,(HT.out _).1,(HT.out w2).2,HB2.out⟩
end Go.Proofs.YtafmbokfkbccaaaGreatDoor
namespace Go.Proofs.YtafmbokfkbccaaaGreatDoor
open Go.RowKit Go.Sort Go.Maps
abbrev ru:=Bs→Option Int
def ru.put (m:ru) (s:Bs) (n:Int):ru:=fun t=>if t=s then some n else m t
def jB (m:ru) (a:aF):ru:=match m a.name with
 |none=>m.put a.name a.terms.length
 |some n=>if n≠a.terms.length then m.put a.name (-1) else m.put a.name a.terms.length
def l7 (A:List aF) (m:ru):Prop:=∀s,(m s=none↔∀a∈A,a.name≠s)∧∀n,m s=some n→∀k:Nat,n=(k:Int)↔∀a∈A,a.name=s→a.terms.length=k
theorem l7.nil:l7 [] (fun _=>none):=fun s=>⟨by simp,fun n h=>by cases h⟩
theorem l7.step {A:List aF} {m:ru} (h:l7 A m) (a:aF):l7 (A++[a]) (jB m a):=by
 have key:∀x:Int,jB m a=m.put a.name x→(∀k:Nat,x=(k:Int)↔∀b∈A++[a],b.name=a.name→b.terms.length=k)→l7 (A++[a]) (jB m a):=fun x hx hk s=>by
  rw[hx];unfold ru.put
  by_cases e:s=a.name
  ·subst e;simp only[if_true];refine⟨⟨fun h=>by simp at h,fun h=>absurd rfl (h a (by simp))⟩,fun n hn=> ?_⟩;cases hn;exact hk
  ·simp only[if_neg e];obtain⟨h1,h2⟩:=h s;refine⟨by rw[h1];exact⟨fun h b hb=>(List.mem_append.1 hb).elim (h b) (fun hb=>by simp only[List.mem_singleton] at hb;subst hb;exact fun e'=>e e'.symm),fun h b hb=>h b (by simp[hb])⟩,fun n hn k=> ?_⟩;rw[h2 n hn k];exact⟨fun h b hb hbs=>(List.mem_append.1 hb).elim (fun hb=>h b hb hbs) (fun hb=>by simp only[List.mem_singleton] at hb;subst hb;exact absurd hbs.symm e),fun h b hb=>h b (by simp[hb])⟩
 obtain⟨h1,h2⟩:=h a.name;unfold jB at key⊢;cases e:m a.name with
 |none=>
  rw[e] at key;refine key _ rfl fun k=> ?_;have hn:=h1.1 e
  constructor
  ·intro hk b hb hbn;rcases List.mem_append.1 hb with hb|hb
   ·exact absurd hbn (hn b hb)
   ·simp only[List.mem_singleton] at hb;subst hb;omega
  ·intro hk;have:=hk a (by simp) rfl;omega
 |some n=>
  rw[e] at key;dsimp only at key⊢;have hA:=h2 n e
  by_cases hne:n≠a.terms.length
  ·rw[if_pos hne] at key⊢;refine key _ rfl fun k=>⟨fun hk=>by omega,fun hk=> ?_⟩
   exfalso
   have h3:=hk a (by simp) rfl;have h4:=(hA k).2 fun b hb=>hk b (by simp[hb]);omega
  ·rw[if_neg hne] at key⊢;have hne:n=a.terms.length:=by omega
   refine key _ rfl fun k=> ?_
   constructor
   ·intro hk b hb hbn;rcases List.mem_append.1 hb with hb|hb
    ·exact(hA k).1 (by omega) b hb hbn
    ·simp only[List.mem_singleton] at hb;subst hb;omega
   ·intro hk;have:=hk a (by simp) rfl;omega
def l8 (w:World) (b n:Nat) (m:ru):Prop:=∃D:DataW Unit,w.ownsMap Tryz.prog 9 (plainElem Tryz.prog 3) b n D∧∀s,Maps.has D (.string s)=(m s).isSome∧D.atKey (.string s) (.lit (.int .i64 0))=.lit (.int .i64 ((m s).getD 0))
theorem l8.made (w:World):l8 (w.alloc (.map #[] 0)) w.heap.size 0 (fun _=>none):=⟨.map [],World.ownsMap_made _ _ _ _,fun _=>⟨rfl,rfl⟩⟩
theorem l8.lt {w:World} {b n:Nat} {m:ru} (h:l8 w b n m):b<w.heap.size:=by obtain⟨D,h,_⟩:=h;exact h.lt
theorem l8.block {w w':World} {b n:Nat} {m:ru} (h:l8 w b n m) (e:w'.heap[b]?=w.heap[b]?):l8 w' b n m:=by obtain⟨D,h,hf⟩:=h;exact⟨D,eU h e,hf⟩
theorem l8.later {w w':World} {b n:Nat} {m:ru} (h:l8 w b n m) (k:Later w w'):l8 w' b n m:=h.block (k.block h.lt)
set_option maxRecDepth 100000 in
theorem l8.look {w:World} {b n:Nat} {m:ru} (h:l8 w b n m) {s:Bs} (hs:s.length≤maxLen):
  (Instr.lookup 197 (.map (some b)) (.string (bs s)) true).run Tryz.prog w=.ok (.tuple #[.int .i64 ((m s).getD 0),.bool (m s).isSome]) w:=by
 obtain⟨D,hown,hf⟩:=h;obtain⟨v,ps,hrun,hv⟩:=hown.look_ok (string_keyed Tryz.underlying9) (t:=197) Tryz.underlying197 (qF _) (plainElem_int Tryz.underlying3 (by decide)) (oJ Tryz.underlying9 hs);rw[(hf s).2] at hv;obtain⟨c,rfl,hc,_⟩:=plainElem_int_inv Tryz.underlying3 hv;simp only[Prod.mk.injEq] at hc;have hc:=hc.1
 injection hc with hc
 injection hc with _ hc
 subst hc;refine hrun.trans ?_;rw[(hf s).1]
theorem l8.store {w:World} {b n:Nat} {m:ru} (h:l8 w b n m) (hn:n<maxLen) {s:Bs} (hs:s.length≤maxLen) {x:Int} (hx:(Lit.int .i64 x).wf=true):
  ∃w',(Instr.mapUpdate 197 (.map (some b)) (.string (bs s)) (.int .i64 x)).run Tryz.prog w=.ok () w'∧l8 w' b (n+1) (m.put s x)∧w.grownBy w' (some b):=by
 obtain⟨D,hown,hf⟩:=h;obtain⟨w',hrun,r1,r2⟩:=hown.update (string_keyed Tryz.underlying9) (t:=197) Tryz.underlying197 hn (oJ Tryz.underlying9 hs) (plainElem_int Tryz.underlying3 hx);refine⟨w',hrun,⟨_,r1,fun t=> ?_⟩,r2⟩
 by_cases e:t=s
 ·subst e;exact⟨by rw[has_put_same hown.isMap (Ke _)];simp[ru.put],by rw[atKey_put_same hown.isMap (Ke _)];simp[ru.put]⟩
 ·exact⟨by rw[has_put_other (qE e),(hf t).1];simp[ru.put,e],by rw[atKey_put_other (qE e),(hf t).2];simp[ru.put,e]⟩
set_option maxRecDepth 100000 in
set_option maxHeartbeats 1000000 in
theorem FM (b n:Nat) (m:ru) (a:aF) (v:Value) (w:World) (h:l8 w b n m) (hv:dn.sl bJ w v a.terms) (hs:a.name.length≤maxLen) (hn:n<maxLen):
  Calls Tryz.prog 193 #[.map (some b),.agg #[.bool a.no,.string (bs a.name),v]] w fun e w'=>(∃u,e=.returned u)∧l8 w' b (n+1) (jB m a)∧Tn b w w':=by
 obtain⟨sa,cap,rfl⟩:=Kind.slice hv;have hl0:=hv.1.1;clear hv;have h1:=h.later ((Later.refl w).alloc (.cells #[.bool a.no,.string (bs a.name),.slice sa a.terms.length cap] 85));have hr:=h1.look hs;have hblt:=h.lt;cases hm:m a.name with
 |none=>
  obtain⟨w1,hst,hm1,hg⟩:=h1.store hn hs (x:=(a.terms.length:Nat)) (yG (by omega));rw[hm] at hr;have F:Hid (jB m a=m.put a.name a.terms.length):=by show _=_;unfold jB;rw[hm]
  have HM:Hid (l8 w1 b (n+1) (m.put a.name a.terms.length)):=hm1;have HT:Hid (Tn b w w1):=(Tn.of_below (p:=b) ((Later.refl w).alloc _).below).trans (fU hg);have hst':=hide hst;clear h h1 hm1 hg hst hm;simp only[Option.getD_none,Option.isSome_none] at hr;generalize bs a.name=nm at*;generalize a.no=no at*
  go_enter Tryz.func193,Tryz.ntmps193
  go_wp2_with (first
   |(at_mapUpdate;refine cO _ rfl _ _ _ _ rfl _ _ _ _ rfl rfl rfl (bE hst') ?_)
   |go_in)
  go_end0;exact⟨⟨_,rfl⟩,by rw[F.out];exact HM.out,HT.out⟩
 |some k=>
  rw[hm] at hr;simp only[Option.getD_some,Option.isSome_some] at hr
  by_cases hne:k≠a.terms.length
  ·obtain⟨w1,hst,hm1,hg⟩:=h1.store hn hs (x:= -1) (by decide);have F:Hid (jB m a=m.put a.name (-1)):=by show _=_;unfold jB;rw[hm];exact if_pos hne
   have HM:Hid (l8 w1 b (n+1) (m.put a.name (-1))):=hm1;have HT:Hid (Tn b w w1):=(Tn.of_below (p:=b) ((Later.refl w).alloc _).below).trans (fU hg);have hst':=hide hst;have hq:(k != (a.terms.length:Int))=true:=by simpa using hne
   clear h h1 hm1 hg hst hm hne;generalize bs a.name=nm at*;generalize a.no=no at*
   go_enter Tryz.func193,Tryz.ntmps193
   go_wp2_with (first
    |(at_mapUpdate;refine cO _ rfl _ _ _ _ rfl _ _ _ _ rfl rfl rfl (bE hst') ?_)
    |go_in)
   exact bodyPost_ret (results_none rfl _ _ _) rfl ⟨⟨_,rfl⟩,by rw[F.out];exact HM.out,HT.out⟩
  ·have hk:k=(a.terms.length:Int):=by omega
   subst hk;obtain⟨w1,hst,hm1,hg⟩:=h1.store hn hs (x:=(a.terms.length:Nat)) (yG (by omega));have F:Hid (jB m a=m.put a.name a.terms.length):=by show _=_;unfold jB;rw[hm];exact if_neg (by simp)
   have HM:Hid (l8 w1 b (n+1) (m.put a.name a.terms.length)):=hm1;have HT:Hid (Tn b w w1):=(Tn.of_below (p:=b) ((Later.refl w).alloc _).below).trans (fU hg);have hst':=hide hst;clear h h1 hm1 hg hst hm hne;generalize bs a.name=nm at*;generalize a.no=no at*
   go_enter Tryz.func193,Tryz.ntmps193
   go_wp2_with (first
    |(at_mapUpdate;refine cO _ rfl _ _ _ _ rfl _ _ _ _ rfl rfl rfl (bE hst') ?_)
    |go_in)
   go_end0;exact⟨⟨_,rfl⟩,by rw[F.out];exact HM.out,HT.out⟩
def rz (m:ru) (f:aj):Bool:=match m (raw f.1) with|none=>true|some k=>decide (k=f.2.length)
set_option maxRecDepth 100000 in
set_option maxHeartbeats 1000000 in
theorem KR (b n:Nat) (m:ru) (f:aj) (v:Value) (w:World) (h:l8 w b n m) (hv:bW w v f) (hs:f.1.size≤maxLen):
  Calls Tryz.prog 122 #[.map (some b),v] w fun e w'=>e=.returned (.bool (rz m f))∧Later w w':=by
 unfold rz;obtain⟨u,rfl,hu⟩:=hv;obtain⟨sa,cap,rfl⟩:=aZ hu;obtain⟨nm,args⟩:=f;dsimp only at*;have h1:=h.later ((Later.refl w).alloc (.cells #[.string nm,.slice sa args.length cap] 27));have hr:=h1.look (s:=raw nm) (by rw[aY];exact hs);rw[jo] at hr;clear h h1 hu hs;cases hm:m (raw nm) with
 |none=>
  rw[hm] at hr;simp only[Option.getD_none,Option.isSome_none] at hr
  go_enter Tryz.func122,Tryz.ntmps122
  go_wp2;go_ret;exact⟨rfl,(by repeat (first|exact Later.refl _|assumption|refine Later.drewN ?_ _|refine Later.drew ?_|refine Later.alloc ?_ _|refine Later.grow ?_ _))⟩
 |some k=>
  rw[hm] at hr;simp only[Option.getD_some,Option.isSome_some] at hr
  go_enter Tryz.func122,Tryz.ntmps122
  go_wp2;go_ret;refine⟨bM ?_,(by repeat (first|exact Later.refl _|assumption|refine Later.drewN ?_ _|refine Later.drew ?_|refine Later.alloc ?_ _|refine Later.grow ?_ _))⟩;rw[Bool.eq_iff_iff];simp
end Go.Proofs.YtafmbokfkbccaaaGreatDoor
namespace Go.Proofs.YtafmbokfkbccaaaGreatDoor
open Go.RowKit Go.Sort Go.Maps
theorem vZ (p q:List aA):fJ (p++q)=fJ p++fJ q:=by simp[fJ]
theorem l8.mono {w:World} {b n n':Nat} {m:ru} (h:l8 w b n m) (hn:n≤n'):l8 w b n' m:=by obtain⟨D,h,hf⟩:=h;exact⟨D,h.mono hn,hf⟩
set_option maxRecDepth 100000 in
set_option maxHeartbeats 4000000 in
theorem FN (p:List aA) (v:Value) (w:World) (hv:eD.sl bJ w v p) (h16:p.length≤16) (h5:∀r∈p,r.body.length≤5) (hs:∀a∈fJ p,a.name.length≤12):
  Calls Tryz.prog 121 #[v] w fun e w'=>∃n m,e=.returned (.map (some w.heap.size))∧l8 w' w.heap.size n m∧l7 (fJ p) m∧Below w.heap.size w w':=by
 obtain⟨pa,pc,rfl⟩:=Kind.slice hv;have HV:=hide hv;have HS:=hide hs;have H5:=hide h5;have HM0:Hid (l8 (w.alloc (.map #[] 0)) w.heap.size 0 (fun _=>none)):=l8.made w;have HB0:Hid (Below w.heap.size w (w.alloc (.map #[] 0))):=((Later.refl w).alloc _).below;have hmm:= @run_makeMap Tryz.prog;clear hv hs h5
 go_enter Tryz.func121,Tryz.ntmps121
 go_wp2
 go_loopg [11] p.length (fun g i wr=>∃j:Nat,j+g=p.length∧i=.int .i64 j∧w.heap.size<wr.heap.size∧∃m,Hid (l8 wr w.heap.size (6*j) m)∧Hid (l7 (fJ (p.take j)) m)∧Hid (Below w.heap.size w wr))
 case atStart=>exact⟨0,by omega,rfl,by simp,_,HM0,l7.nil,HB0⟩
 case round=>
  clear HM0 HB0 hmm;obtain⟨j,hj,rfl,hwr,m,HM,HO,HBr⟩:=hrel;obtain⟨wo,hwo⟩:∃wo,wo=wr:=⟨_,rfl⟩;subst hwo
  by_cases hlt:j<p.length
  ·obtain⟨r,hr⟩:∃x,p[j]?=some x:=⟨_,List.getElem?_eq_getElem hlt⟩;have hrm:r∈p:=List.mem_of_getElem? hr;obtain⟨b1,o1,_,rfl,hb1,⟨tv,bv,rfl,htv,hbv⟩,hc⟩:=Kind.fP HV.out hr;have d0:wo.cell? ⟨b1,o1+j*4,none⟩=some (.bool r.head.no):=by rw[HBr.out.cell (p:=⟨b1,o1+j*4,none⟩) hb1];exact hc 0 _ rfl
   have d1:wo.cell? ⟨b1,o1+j*4+1,none⟩=some (.string (bs r.head.name)):=by rw[HBr.out.cell (p:=⟨b1,o1+j*4+1,none⟩) hb1];exact hc 1 _ rfl
   have d2:wo.cell? ⟨b1,o1+j*4+2,none⟩=some tv:=by rw[HBr.out.cell (p:=⟨b1,o1+j*4+2,none⟩) hb1];exact hc 2 _ rfl
   have d3:wo.cell? ⟨b1,o1+j*4+3,none⟩=some bv:=by rw[HBr.out.cell (p:=⟨b1,o1+j*4+3,none⟩) hb1];exact hc 3 _ rfl
   obtain⟨ta,tc,rfl⟩:=Kind.slice htv;obtain⟨ba,bc,rfl⟩:=Kind.slice hbv;have hsz:=HBr.out.size;have htk:fJ (p.take (j+1))=fJ (p.take j)++(r.head::r.body):=by
    rw[List.take_add_one,hr,vZ];simp[fJ]
   have Po:∀a∈r.head::r.body,a.name.length≤12:=fun a ha=>HS.out a (List.mem_flatMap.2 ⟨r,hrm,ha⟩);have hb5:=H5.out r hrm;have Pp:=dK.made w.heap.size wo (.bool r.head.no) (.string (bs r.head.name)) (.slice ta r.head.terms.length tc) (.slice ba r.body.length bc);obtain⟨wb,hwb⟩:∃wb,wb=wo.alloc (.cells #[.bool r.head.no,.string (bs r.head.name),.slice ta r.head.terms.length tc,.slice ba r.body.length bc] 87):=⟨_,rfl⟩;rw[←hwb] at Pp;have hLb:Later wo wb:=by rw[hwb];exact(Later.refl _).alloc _
   have hBb:Below w.heap.size w wb:=ak HBr.out hLb.below hsz;have HC:=hide (FM w.heap.size (6*j) m r.head (.slice ta r.head.terms.length tc) wb (HM.out.later hLb) (Kind.aR htv hBb) (by have:=Po r.head (by simp);unfold maxLen;omega) (by unfold maxLen;omega));have HBx:=hide Pp;have HBb:=hide hBb;have HBV:=hide hbv;have HTK:=hide htk;have HRA:=hide Po;have HWb:=hide hwb;clear hc hr htv hbv htk Po Pp hLb hBb hwb hrm;generalize bs r.head.name=nm at*;generalize hno:r.head.no=no at*
   go_wp2_with fail
   rw[←HWb.out];refine HC.out.mono ?_;rintro e w2 ⟨⟨u2,rfl⟩,hM2,hT2⟩;have HX2:=hide (HBx.out.turned hT2 hwr);have HM2:=hide hM2;have HO2:Hid (l7 (fJ (p.take j)++(r.head::r.body.take 0)) (jB m r.head)):=by show l7 _ _;have:=HO.out.step r.head;simpa using this
   have HT2:Hid (Tn w.heap.size wb w2):=hT2;have x3:w2.cell? ⟨wo.heap.size,3,none⟩=some (.slice ba r.body.length bc):=HX2.out.z3;clear hM2 hT2 HC hno;go_wp2
   go_loopg [22] r.body.length (fun g i wz=>∃k:Nat,k+g=r.body.length∧i=.int .i64 k∧∃m',Hid (l8 wz w.heap.size (6*j+1+k) m')∧Hid (l7 (fJ (p.take j)++(r.head::r.body.take k)) m')∧Hid (Tn w.heap.size wb wz))
   case atStart=>exact⟨0,by omega,rfl,_,HM2,HO2,HT2⟩
   case round=>
    clear HM2 HO2 HT2 x3;obtain⟨k,hk,rfl,m',HM',HO',HT'⟩:=hrel;have hbs:w.heap.size≤wb.heap.size:=by have:=HBb.out.size;omega
    have hBz:Below w.heap.size wb wr:=HT'.out.below (Nat.le_refl _) hbs;have hwz:=HT'.out.size;have hww:wo.heap.size<wb.heap.size:=HBx.out.lt
    by_cases hltk:k<r.body.length
    ·obtain⟨t,ht⟩:∃x,r.body[k]?=some x:=⟨_,List.getElem?_eq_getElem hltk⟩;obtain⟨b2,o2,_,rfl,hb2,⟨sv,rfl,hsv⟩,hc⟩:=Kind.fP HBV.out ht;have hBw:Below w.heap.size w wr:=HBb.out.trans hBz;have e0:wr.cell? ⟨b2,o2+k*3,none⟩=some (.bool t.no):=by rw[hBw.cell (p:=⟨b2,o2+k*3,none⟩) hb2];exact hc 0 _ rfl
     have e1:wr.cell? ⟨b2,o2+k*3+1,none⟩=some (.string (bs t.name)):=by rw[hBw.cell (p:=⟨b2,o2+k*3+1,none⟩) hb2];exact hc 1 _ rfl
     have e2:wr.cell? ⟨b2,o2+k*3+2,none⟩=some sv:=by rw[hBw.cell (p:=⟨b2,o2+k*3+2,none⟩) hb2];exact hc 2 _ rfl
     have hbr:b2<wr.heap.size:=by omega
     obtain⟨sva,svc,rfl⟩:=Kind.slice hsv;have hL5:Later wr (wr.alloc (.cells #[.bool t.no,.string (bs t.name),.slice sva t.terms.length svc] 85)):=(Later.refl _).alloc _;have htk:r.head::r.body.take (k+1)=(r.head::r.body.take k)++[t]:=by rw[List.take_add_one,ht];rfl
     have HC5:=hide (FM w.heap.size (6*j+1+k) m' t (.slice sva t.terms.length svc) (wr.alloc (.cells #[.bool t.no,.string (bs t.name),.slice sva t.terms.length svc] 85)) (HM'.out.later hL5) (Kind.aR hsv (ak hBw hL5.below hBw.size)) (by have:=HRA.out t (List.mem_cons_of_mem _ (List.mem_of_getElem? ht));unfold maxLen;omega) (by unfold maxLen;omega));have HO5:Hid (l7 (fJ (p.take j)++(r.head::r.body.take (k+1))) (jB m' t)):=by show l7 _ _;rw[htk,←List.append_assoc];exact HO'.out.step t
     have HL5:=hide hL5;clear hc ht hsv hBw hL5 htk hBz;generalize bs t.name=nm5 at*;generalize t.no=no5 at*
     go_wp2_with fail
     refine HC5.out.mono ?_;rintro e w6 ⟨⟨u6,rfl⟩,hM6,hT6⟩;have HM6:Hid (l8 w6 w.heap.size (6*j+1+(k+1)) (jB m' t)):=hM6;have HT6:Hid (Tn w.heap.size wb w6):=(HT'.out.trans (Tn.of_below HL5.out.below)).trans hT6;clear hM6 hT6 HC5;go_wp2
     go_roundg (r.body.length- (k+1))
     case measure=>omega
     case rel=>exact⟨k+1,by omega,by go_num,_,HM6,HO5,HT6⟩
    ·have hk':r.body.take k=r.body:=List.take_of_length_le (by omega);rw[hk',←HTK.out] at HO';have HB4:Hid (Below w.heap.size w wr):=HBb.out.trans hBz;have HM4:Hid (l8 wr w.heap.size (6*(j+1)) m'):=HM'.out.mono (by omega);have hws:w.heap.size<wr.heap.size:=by omega
     clear hk' hBz;go_wp2
     go_roundg (p.length- (j+1))
     case measure=>omega
     case rel=>exact⟨j+1,by omega,by go_num,hws,m',HM4,HO',HB4⟩
  ·have hj':p.take j=p:=List.take_of_length_le (by omega);rw[hj'] at HO;clear hj';go_wp2;go_ret;exact⟨_,m,rfl,HM.out,HO.out,HBr.out⟩
def jI (p:List aA) (l:List aj):Nat→Nat→Int×Int
 |0,_=>(0,0)
 |n+1,k=>if sD p (l.getD k aB)=true then jI p l n (k+1) else(8,k)
def fG (p:List aA) (l:List aj):Int×Int:=if(bF l).1≠0 then bF l else jI p l l.length 0
theorem oP {p:List aA} {l:List aj}:∀(n k:Nat),(jI p l n k).1=0→∀i,k≤i→i<k+n→sD p (l.getD i aB)=true
 |0,k,_,i,h1,h2=>by omega
 |n+1,k,h,i,h1,h2=>by
  unfold jI at h;split at h
  ·rename_i hf
   by_cases e:i=k
   ·subst e;exact hf
   ·exact oP n (k+1) h i (by omega) (by omega)
  ·simp at h
theorem rA {p:List aA} {l:List aj} (h:∀f∈l,sD p f=true):∀(n k:Nat),k+n=l.length→jI p l n k=(0,0)
 |0,_,_=>rfl
 |n+1,k,hk=>by
  unfold jI;rw[if_pos (h _ (by rw[List.getD_eq_getElem?_getD,List.getElem?_eq_getElem (by omega)];exact List.getElem_mem _))];exact rA h n (k+1) (by omega)
theorem ou {p:List aA} {l:List aj} (h:(fG p l).1=0):GoodS p l:=by
 unfold fG at h;split at h
 ·rename_i h1;exact absurd h h1
 ·rename_i h1;refine vY (by simpa using h1) fun f hf=> ?_;obtain⟨i,hi,rfl⟩:=List.getElem_of_mem hf;have:=oP l.length 0 h i (Nat.zero_le _) (by omega)
  rwa [List.getD_eq_getElem?_getD,List.getElem?_eq_getElem hi] at this
theorem Dm {p:List aA} {l:List aj} (h:GoodS p l):fG p l=(0,0):=by
 unfold fG;rw[lZ h.up h.right h.few,if_neg (by simp)];exact rA h.fit _ 0 (by omega)
theorem KS {p:List aA} {m:ru} (h:l7 (fJ p) m) (f:aj):rz m f=sD p f:=by
 unfold rz;obtain⟨h1,h2⟩:=h (raw f.1);rw[Bool.eq_iff_iff,Bn];cases e:m (raw f.1) with
 |none=>
  simp only[true_iff];intro a ha hb;exact absurd (by rw[←hb,iw]) (h1.1 e a ha)
 |some k=>
  simp only[decide_eq_true_eq];rw[h2 k e f.2.length];exact⟨fun h a ha hb=>h a ha (by rw[←hb,iw]),fun h a ha hb=>h a ha (by rw[hb,jo])⟩
theorem Am {p:List aA} (hp:cZ p):(∀r∈p,r.body.length≤5)∧∀a∈fJ p,a.name.length≤12:=by
 have hn:∀a:aF,aN a=0→a.name.length≤12:=fun a ha=>by
  have h1:=(qj ha).1;unfold isNamed at h1;simp only[Bool.and_eq_true,decide_eq_true_eq] at h1;exact h1.1.1
 have hb:∀l:List aF,bB l=0→∀a∈l,aN a=0:=fun l=>by
  induction l with
  |nil=>intro _ a ha;cases ha
  |cons x l ih=>
   intro h a ha;unfold bB at h;split at h
   ·rename_i hx;rcases List.mem_cons.1 ha with rfl|ha
    ·exact hx
    ·exact ih h a ha
   ·rename_i hx;exact absurd h hx
 have key:∀r∈p,r.body.length≤5∧∀a∈r.body,aN a=0:=fun r hr=>by
  have:=(hp.rules r hr).body;unfold aL at this;split at this
  ·cases this
  ·rename_i h5;split at this
   ·rename_i h0;exact⟨by omega,hb _ h0⟩
   ·rename_i h0;exact absurd this h0
 refine⟨fun r hr=>(key r hr).1,fun a ha=> ?_⟩;obtain⟨r,hr,ha⟩:=List.mem_flatMap.1 ha;rcases List.mem_cons.1 ha with rfl|ha
 ·exact hn _ (hp.rules r hr).head
 ·exact hn _ ((key r hr).2 a ha)
end Go.Proofs.YtafmbokfkbccaaaGreatDoor
