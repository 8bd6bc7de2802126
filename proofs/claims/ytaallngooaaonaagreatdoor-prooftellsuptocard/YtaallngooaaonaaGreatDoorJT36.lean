import Derived.Test.YtaallngooaaonaaGreatDoorJT33
import Derived.Test.YtaallngooaaonaaGreatDoorJT35
import Derived.Test.YtaallngooaaonaaGreatDoorJT26
import Derived.Test.YtaallngooaaonaaGreatDoorJT4
open Go.RowKit Go.Sort Go.Maps
set_option maxHeartbeats 8000000
set_option maxRecDepth 100000
namespace Go.Proofs.YtaallngooaaonaaGreatDoor
def Kj (f:aA) (a:aI):Bool:= !decide (bs a.name=f.1)||decide (a.terms.length=f.2.length)
theorem Ec (p:List aG) (f:aA):BR p f=p.all fun r=>(r.head::r.body).all (Kj f):=rfl
theorem Ed {α:Type} {g:α→Bool} {l:List α} {j:Nat} {x:α} (h:l[j]?=some x):(l.take (j+1)).all g=((l.take j).all g&&g x):=by rw[List.take_add_one,h,List.all_append];simp
theorem Ee {α:Type} {g:α→Bool} {l:List α} {x:α} (hx:x∈l) (h:g x=false):l.all g=false:=by
 cases e:l.all g with
 |false=>rfl
 |true=>rw[List.all_eq_true] at e;rw[e x hx] at h;cases h
theorem Ra (p:List aG) (l:List aA) (pv fv:Value) (w:World) (hp:eP.sl bf w pv p) (hf:Facts w fv l) (hR:dP p) (hok:∀k,okF (l.getD k aC)):
  Calls Tryz.prog 44 #[pv,fv] w fun e w'=>e=.returned (.agg #[.int .i64 (eY p l).1,.int .i64 (eY p l).2])∧Below w.heap.size w w':=by
 obtain⟨pa,pc,rfl⟩:=aB.slice hp;obtain⟨fa,fc,hfv,hl0,hz⟩:=hf.addr;subst hfv;have h16:=hR.few;have hb5:∀r∈p,r.body.length≤5:=fun r hr=>(fM (hR.rules r hr).body).1;obtain⟨wb,hwb⟩:∃wb,wb=w.alloc (.cells #[.int .i64 0,.int .i64 0] 69):=⟨_,rfl⟩;have hLb:ak w wb:=by rw[hwb];exact(ak.refl w).alloc _
 have hsb:wb.heap.size=w.heap.size+1:=by rw[hwb];simp
 have hrb:wb.heap[w.heap.size]?=some (.cells #[.int .i64 0,.int .i64 0] 69 (0,0)):=by rw[hwb];exact heap_alloc_new w _
 have HSt:=au (OB (.slice fa l.length fc) l wb (hf.later hLb) hok);have HP:=au (aB.aK hp hLb);have HF:=au (hf.later hLb);have HLb:=au hLb;have HRb:=au hrb;have HWb:=au hwb;have HB5:=au hb5;clear hp hf hR hok hLb hrb hwb hb5;obtain⟨sx,sa,hsx⟩:∃x a,aT l=(x,a):=⟨_,_,rfl⟩;rw[hsx] at HSt;have HSX:=au hsx;clear hsx
 go_enter Tryz.func44,Tryz.ntmps44
 go_wp2_with fail
 rw[←HWb.out];refine HSt.out.mono ?_;rintro e w1 ⟨rfl,hL1⟩;dsimp only;obtain⟨w2,hw2⟩:∃w2,w2=w1.alloc (.cells #[.int .i64 sx,.int .i64 sa] 69):=⟨_,rfl⟩;have hL2:ak w1 w2:=by rw[hw2];exact(ak.refl _).alloc _
 have hB2:Below wb.heap.size wb w2:=(hL1.trans hL2).below;have hr2:=(hB2.block w.heap.size (by omega)).trans HRb.out;have hs2:w2.heap[w1.heap.size]?=some (.cells #[.int .i64 sx,.int .i64 sa] 69 (0,0)):=by rw[hw2];exact heap_alloc_new w1 _
 have hs1:=hL1.size
 by_cases h0:sx=0
 ·subst h0;have HX:Hid (eY p l=jO p l (l.length-0) 0):=by show _=_;unfold eY;rw[HSX.out];simp
  have HB2:=au hB2;have HW2:=au hw2;generalize hfp:eY p l=fp at*;have WH:=au hfp;clear hL1 hL2 hB2 hr2 hs2 hw2 HSt HWb HSX hs1 hfp;go_wp2;rw[←HW2.out]
  go_loopg [20] l.length (fun g i wr=>∃k:Nat,k+g=l.length∧i=.int .i64 k∧Hid (fp=jO p l (l.length-k) k)∧Hid (Below wb.heap.size wb wr))
  case atStart=>exact⟨0,by omega,rfl,HX,HB2⟩
  clear HX HB2 HW2;obtain⟨k,hk,rfl,HX,HBr⟩:=hrel;have zq:=(HBr.out.block w.heap.size (by omega)).trans HRb.out
  by_cases hlt:k<l.length
  ·rcases hz with hz|⟨b4,o4,rfl⟩;·rw[hz] at hlt;simp at hlt
   obtain⟨hb4,ax,lx,cx,g1,g2,fx⟩:=(HF.out.below HBr.out).at hlt;obtain⟨f,hfk⟩:∃f,f=l.getD k aC:=⟨_,rfl⟩;rw[←hfk] at g1 fx;have hstep:fp=if BR p f=true then jO p l (l.length- (k+1)) (k+1) else(8,(k:Int)):=by rw[HX.out,show l.length-k=(l.length- (k+1))+1 by omega];show(if BR p (l.getD k aC)=true then _ else _)=_;rw[←hfk]
   have hlx:lx=f.2.length:=by obtain⟨s,e,hs⟩:=fx;obtain⟨a,c,rfl⟩:=bA hs;simp only[Value.agg.injEq] at e;have:=congrArg (fun x=>x.toList) e;simp at this;exact this.2.1
   have zm:=au hstep;obtain⟨wf,hwf⟩:∃wf,wf=wr.alloc (.cells #[.string f.1,.slice ax lx cx] 27):=⟨_,rfl⟩;have hLf:ak wr wf:=by rw[hwf];exact(ak.refl _).alloc _
   have hrf:wf.heap[wr.heap.size]?=some (.cells #[.string f.1,.slice ax lx cx] 27 (0,0)):=by rw[hwf];exact heap_alloc_new wr _
   have hsf:wf.heap.size=wr.heap.size+1:=by rw[hwf];simp
   have HBf:=au (aj HBr.out hLf.below HBr.out.size);have HRf:=au hrf;have HWf:=au hwf;have aan:f.2.length≤8796093022208:=by obtain⟨s,e,hs⟩:=fx;exact hs.1
   clear fx hfk hstep hwf hLf hrf HX zq;obtain⟨fn,aH⟩:=f;dsimp only at*;subst hlx;go_wp2;rw[←HWf.out];clear HWf g1 g2 HBr;generalize hA:wr.heap.size=A at*;clear hA
   go_loopg [27] p.length (fun g i wr2=>∃j:Nat,j+g=p.length∧i=.int .i64 j∧Hid ((p.take j).all (fun r=>(r.head::r.body).all (Kj (fn,aH)))=true)∧Hid (Below wf.heap.size wf wr2))
   case atStart=>exact⟨0,by omega,rfl,(by show _=_;simp),Below.refl _ _⟩
   obtain⟨j,hj,rfl,HAl,HB2⟩:=hrel
   by_cases Qc:j<p.length
   ·obtain⟨r,hr⟩:∃x,p[j]?=some x:=⟨_,List.getElem?_eq_getElem Qc⟩;have hrm:r∈p:=List.mem_of_getElem? hr;have Jf:=aj HBf.out HB2.out HBf.out.size;obtain⟨b1,o1,_,e1,hb1,⟨tv,bv,rfl,htv,hbv⟩,hc⟩:=aB.bO HP.out hr;subst e1;have d0:wr.cell? ⟨b1,o1+j*4,none⟩=some (.bool r.head.no):=by rw[Jf.cell (p:=⟨b1,o1+j*4,none⟩) hb1];exact hc 0 _ rfl
    have d1:wr.cell? ⟨b1,o1+j*4+1,none⟩=some (.string (bs r.head.name)):=by rw[Jf.cell (p:=⟨b1,o1+j*4+1,none⟩) hb1];exact hc 1 _ rfl
    have d2:wr.cell? ⟨b1,o1+j*4+2,none⟩=some tv:=by rw[Jf.cell (p:=⟨b1,o1+j*4+2,none⟩) hb1];exact hc 2 _ rfl
    have d3:wr.cell? ⟨b1,o1+j*4+3,none⟩=some bv:=by rw[Jf.cell (p:=⟨b1,o1+j*4+3,none⟩) hb1];exact hc 3 _ rfl
    obtain⟨ta,tc,rfl⟩:=aB.slice htv;obtain⟨ba,bc,rfl⟩:=aB.slice hbv;have WB:b1<wr.heap.size:=Nat.lt_of_lt_of_le hb1 Jf.size;have hbl:=HB5.out r hrm;obtain⟨wg,hwg⟩:∃wg,wg=wr.alloc (.cells #[.bool r.head.no,.string (bs r.head.name),.slice ta r.head.terms.length tc,.slice ba r.body.length bc] 82):=⟨_,rfl⟩;have hLg:ak wr wg:=by rw[hwg];exact(ak.refl _).alloc _
    have UG:=aj Jf hLg.below Jf.size;have hca:bN.is bf wb [.bool r.head.no,.string (bs r.head.name),.slice ta r.head.terms.length tc] r.head:=⟨_,rfl,htv⟩;have WI:=sH.one (w0:=wb) (w:=wg) (lo:=wg.heap.size) hca (Nat.le_refl _);obtain⟨v',w7,hrun,hR7,hg7⟩:=sH.many WI (by simp) (aj UG ((ak.refl wg).alloc _).below UG.size) hbv (by simp;omega);obtain⟨a7,n7,c7,hv7,hn7⟩:∃a n c,v'=.slice a n c∧n=r.body.length+1:=by obtain⟨a,c,e⟩:=sH.slice hR7;exact⟨a,_,c,e,by simp⟩
    subst hv7;have UH:Below wf.heap.size wf w7:=(aj (aj HB2.out hLg.below HB2.out.size) ((ak.refl wg).alloc _).below (Nat.le_trans HB2.out.size hLg.size)).grown hg7 (by have:=HB2.out.size;have:=hLg.size;simp;omega) (fun k e=>by have:=HB2.out.size;have:=hLg.size;simp[Value.ownBlock] at e;omega);have WJ:=aj HBf.out UH HBf.out.size;have HAs:=au (hR7.sl WJ (by simp;omega));have HAt:=au (Ed (g:=fun r=>(r.head::r.body).all (Kj (fn,aH))) hr);have HB7:=au UH;have HRn:=au hrun;have HMm:=au (fun(h:(r.head::r.body).all (Kj (fn,aH))=false)=>(Ec p (fn,aH)).trans (Ee hrm h));rw[hwg] at HRn;simp only[World.size_alloc] at HRn;clear hc hr htv hbv hwg hLg UG hca WI hR7 hg7 hrun UH WJ Jf hrm;generalize bs r.head.name=nm at*;generalize r.head.no=no at*
    go_wp2_with (at_builtin;refine wpList_append_run rfl (.tmp 33) (.tmp 35) 80 rfl _ _ _ _ rfl rfl HRn.out ?_)
    go_loopg [38] n7 (fun g i wr3=>∃t:Nat,t+g=n7∧i=.int .i64 t∧Hid (((r.head::r.body).take t).all (Kj (fn,aH))=true)∧Hid (Below w7.heap.size w7 wr3))
    case atStart=>exact⟨0,by omega,rfl,(by show _=_;simp),Below.refl _ _⟩
    clear d0 d1 d2 d3;obtain⟨t,ht,rfl,HTl,HB3⟩:=hrel;have Rb:=aj HB7.out HB3.out HB7.out.size;have Lv:=aj HBf.out Rb HBf.out.size
    by_cases aao:t<n7
    ·obtain⟨a,ha⟩:∃x,(r.head::r.body)[t]?=some x:=⟨_,List.getElem?_eq_getElem (by simp;omega)⟩;obtain⟨b3,o3,_,e3,hb3,⟨tv3,rfl,UJ⟩,hc3⟩:=aB.bO HAs.out ha;subst e3;have d0:wr.cell? ⟨b3,o3+t*3,none⟩=some (.bool a.no):=by rw[HB3.out.cell (p:=⟨b3,o3+t*3,none⟩) hb3];exact hc3 0 _ rfl
     have d1:wr.cell? ⟨b3,o3+t*3+1,none⟩=some (.string (bs a.name)):=by rw[HB3.out.cell (p:=⟨b3,o3+t*3+1,none⟩) hb3];exact hc3 1 _ rfl
     have d2:wr.cell? ⟨b3,o3+t*3+2,none⟩=some tv3:=by rw[HB3.out.cell (p:=⟨b3,o3+t*3+2,none⟩) hb3];exact hc3 2 _ rfl
     obtain⟨ta3,tc3,rfl⟩:=aB.slice UJ;have aap:=UJ.1.1;have Y4:b3<wr.heap.size:=Nat.lt_of_lt_of_le hb3 HB3.out.size;have LJ:wr.heap[A]?=some (.cells #[.string fn,.slice ax aH.length cx] 27 (0,0)):=(Rb.block A (by omega)).trans HRf.out;have zq:=(Lv.block w.heap.size (by omega)).trans HRb.out;have aaq:A<wr.heap.size:=(Array.getElem?_eq_some_iff.1 LJ).1;have aar:w.heap.size<wr.heap.size:=(Array.getElem?_eq_some_iff.1 zq).1;have f0:wr.cell? ⟨A,0,none⟩=some (.string fn):=by rw[cell_of_row _ _ _ _ _ _ LJ];rfl
     have f1:wr.cell? ⟨A,1,none⟩=some (.slice ax aH.length cx):=by rw[cell_of_row _ _ _ _ _ _ LJ];rfl
     have HTk:=au (Ed (g:=Kj (fn,aH)) ha);have HAm:=au (List.mem_of_getElem? ha);have WK:Hid (Below w7.heap.size w7 (wr.alloc (.cells #[.bool a.no,.string (bs a.name),.slice ta3 a.terms.length tc3] 79))):=aj HB3.out ((ak.refl _).alloc _).below HB3.out.size;have hrow4:(wr.alloc (.cells #[.bool a.no,.string (bs a.name),.slice ta3 a.terms.length tc3] 79)).heap[w.heap.size]?=some (.cells #[.int .i64 0,.int .i64 0] 69 (0,0)):=by rw[bV,if_neg (by omega)];exact zq
     have CP:=au hrow4;have OC:=au zq;have HBv:=au (aj HLb.out.below Lv HLb.out.size);have HBw:Hid (Below w.heap.size w (wr.alloc (.cells #[.bool a.no,.string (bs a.name),.slice ta3 a.terms.length tc3] 79))):=aj HLb.out.below (aj Lv ((ak.refl _).alloc _).below Lv.size) HLb.out.size;clear hc3 ha UJ LJ zq hrow4 Rb Lv;obtain⟨an,hnm,ats⟩:=a;dsimp only at*;have hfit:Kj (fn,aH) ⟨an,hnm,ats⟩=(!decide (bs hnm=fn)||decide (ats.length=aH.length)):=rfl
     by_cases hnf:bs hnm=fn
     ·have hq:((bs hnm).toList==fn.toList)=true:=by rw[jK];simp[hnf]
      by_cases hll:ats.length=aH.length
      ·have HT':Hid (((r.head::r.body).take (t+1)).all (Kj (fn,aH))=true):=by show _=_;rw[HTk.out,HTl.out,hfit];simp[hll]
       have hneq:((ats.length:Int) != (aH.length:Int))=false:=by
        have:(ats.length:Int)=(aH.length:Int):=by omega
        simp[this]
       clear HTk HTl hfit hll CP HBw hnf HAm;generalize bs hnm=tk at*;go_wp2
       go_roundg (n7- (t+1))
       case measure=>omega
       case rel=>exact⟨t+1,by omega,by go_num,HT',WK⟩
      have hst:=zm.out;rw[HMm.out (Ee HAm.out (by rw[hfit];simp[hnf,hll]))] at hst;simp only[Bool.false_eq_true,if_false] at hst;have HFp:Hid (fp=(8,(k:Int))):=hst;have hneq:((ats.length:Int) != (aH.length:Int))=true:=by
       have:¬(ats.length:Int)=(aH.length:Int):=by omega
       simpa using this
      obtain⟨q0,q1,p0,p1,q2⟩:=iH CP.out;have hr5:((wr.setCell ⟨w.heap.size,0,none⟩ (.int .i64 8)).alloc (.cells #[.bool an,.string (bs hnm),.slice ta3 ats.length tc3] 79)).heap[w.heap.size]?=some (.cells #[.int .i64 8,.int .i64 0] 69 (0,0)):=by rw[bV,if_neg (by simp;omega)];exact dz (j:=0) OC.out (.int .i64 8)
      obtain⟨q5,q6,p5,p6,q7⟩:=iH hr5;obtain⟨q8,q9,p8,p9,_⟩:=iH OC.out;clear hst HTk HTl hfit hll hnf HAm zm hr5;generalize bs hnm=tk at*;go_wp2;have hrow:=dz (j:=1) (dz (j:=0) OC.out (.int .i64 8)) (.int .i64 (k:Int));have hrow2:(((wr.setCell ⟨w.heap.size,0,none⟩ (.int .i64 8)).setCell ⟨w.heap.size,1,none⟩ (.int .i64 (k:Int))).alloc (.cells #[.bool an,.string tk,.slice ta3 ats.length tc3] 79)).heap[w.heap.size]?=some (.cells #[.int .i64 8,.int .i64 (k:Int)] 69 (0,0)):=by rw[bV,if_neg (by simp;omega)];exact hrow
      have r0:=(iH hrow2).1;have r1:=(iH hrow2).2.1;refine bodyPost_ret (v:=.agg #[.int .i64 8,.int .i64 (k:Int)]) (by simp[results,Tryz.results44,go_sem,r0,r1]) rfl ⟨by rw[WH.out,HFp.out],?_⟩;exact((HBv.out.setCell (by show w.heap.size≤w.heap.size;omega) _).setCell (by show w.heap.size≤w.heap.size;omega) _).alloc (by simp;omega) _
     have hq:((bs hnm).toList==fn.toList)=false:=by rw[jK];simp[hnf]
     have HT':Hid (((r.head::r.body).take (t+1)).all (Kj (fn,aH))=true):=by show _=_;rw[HTk.out,HTl.out,hfit];simp[hnf]
     clear HTk HTl hfit hnf CP HBw HAm;generalize bs hnm=tk at*;go_wp2
     go_roundg (n7- (t+1))
     case measure=>omega
     case rel=>exact⟨t+1,by omega,by go_num,HT',WK⟩
    have hta:(r.head::r.body).take t=r.head::r.body:=List.take_of_length_le (by simp;omega);have Za:Hid ((p.take (j+1)).all (fun r=>(r.head::r.body).all (Kj (fn,aH)))=true):=by show _=_;have h:=HTl.out;rw[hta] at h;rw[HAt.out,HAl.out,h];rfl
    have HB':=au Rb;clear hta HTl Rb Lv HAs;go_wp2
    go_roundg (p.length- (j+1))
    case measure=>omega
    case rel=>exact⟨j+1,by omega,by go_num,Za,HB'⟩
   have hpt:p.take j=p:=List.take_of_length_le (by omega);have hall:=HAl.out;rw[hpt,←Ec] at hall;have hst:=zm.out;rw[if_pos hall] at hst;have HX':=au hst;have HB':=au (aj HBf.out HB2.out HBf.out.size);clear hpt hall hst zm HAl;go_wp2
   go_roundg (l.length- (k+1))
   case measure=>omega
   case rel=>exact⟨k+1,by omega,by go_num,HX',HB'⟩
  have hkl:l.length-k=0:=by omega
  have hx:=HX.out;rw[hkl] at hx;have HFp:Hid (fp=(0,0)):=hx;have P7:=au zq;obtain⟨q0,q1,p0,p1,q2⟩:=iH zq;have HBw:=au (aj HLb.out.below HBr.out HLb.out.size);clear hkl hx HX zq;go_wp2;obtain⟨r0,r1⟩:=qB P7.out (.int .i64 0) (.int .i64 0);refine bodyPost_ret (v:=.agg #[.int .i64 0,.int .i64 0]) (by simp[results,Tryz.results44,go_sem,r0,r1]) rfl ⟨by rw[WH.out,HFp.out],?_⟩;exact(HBw.out.setCell (by show w.heap.size≤w.heap.size;omega) _).setCell (by show w.heap.size≤w.heap.size;omega) _
 have hne:(sx != 0)=true:=by simpa using h0
 have HFp:Hid (eY p l=(sx,sa)):=by show _=_;unfold eY;rw[HSX.out,if_pos h0]
 have HB2:=au (aj HLb.out.below hB2 HLb.out.size);have HR2:=au hr2;have HW2:=au hw2;rw[hw2] at hr2 hs2;obtain⟨q0,q1,p0,p1,q2⟩:=iH hr2;obtain⟨s0,s1,_,_,_⟩:=iH hs2;have hr1:=(hL1.block (show w.heap.size<wb.heap.size by omega)).trans HRb.out;obtain⟨q3,q4,p3,p4,q5⟩:=iH hr1;have HR1:=au hr1;have HB1:=au (aj HLb.out.below hL1.below HLb.out.size);have hR1:w.heap.size<w1.heap.size:=(Array.getElem?_eq_some_iff.1 hr1).1;have hr6:((w1.setCell ⟨w.heap.size,0,none⟩ (.int .i64 sx)).alloc (.cells #[.int .i64 sx,.int .i64 sa] 69)).heap[w.heap.size]?=some (.cells #[.int .i64 sx,.int .i64 0] 69 (0,0)):=by rw[bV,if_neg (by simp;omega)];exact dz (j:=0) hr1 (.int .i64 sx)
 obtain⟨q6,q7,p6,p7,_⟩:=iH hr6;clear hr1 hr2 hs2 hr6 hL1 hL2 hB2 hw2 HSt HWb HSX HW2 h0 hs1 HR2 HB2;go_wp2;have hrow:=dz (j:=1) (dz (j:=0) HR1.out (.int .i64 sx)) (.int .i64 sa);have hrow2:(((w1.setCell ⟨w.heap.size,0,none⟩ (.int .i64 sx)).setCell ⟨w.heap.size,1,none⟩ (.int .i64 sa)).alloc (.cells #[.int .i64 sx,.int .i64 sa] 69)).heap[w.heap.size]?=some (.cells #[.int .i64 sx,.int .i64 sa] 69 (0,0)):=by rw[bV,if_neg (by simp;omega)];exact hrow
 have r0:=(iH hrow2).1;have r1:=(iH hrow2).2.1;refine bodyPost_ret (v:=.agg #[.int .i64 sx,.int .i64 sa]) (by simp[results,Tryz.results44,go_sem,r0,r1]) rfl ⟨by rw[HFp.out],?_⟩;exact((HB1.out.setCell (by show w.heap.size≤w.heap.size;omega) _).setCell (by show w.heap.size≤w.heap.size;omega) _).alloc (by simp;omega) _
theorem FN {lo:Nat} {w w':World} {v:Value} {xs:List Value} (h:nL lo w v xs) (hg:w.grownBy w' v.ownBlock) {u:Value} {l:List Nat} (hf:lS.sl bf w u l):lS.sl bf w' u l:=by
 obtain⟨h0,a,cap,e,h1⟩:=hf;refine⟨h0,a,cap,e,fun hl=>?_⟩;obtain⟨b,off,ea,hB,hb,hc⟩:=h1 hl;have hne:v.ownBlock≠some b:=fun e=>by
  obtain⟨g,cap,cur,rfl,_,h2,_,_,_,_,h7⟩:=h;simp only[Value.ownBlock,Option.some.injEq] at e;subst e;obtain⟨x,r,rfl⟩:∃x r,l=x::r:=by cases l with|nil=>exact absurd rfl hl|cons x r=>exact⟨x,r,rfl⟩
  obtain⟨c,rfl,hc2⟩:=hc 0 x rfl;have hx:=hc2 0 _ rfl;rw[cell_of_row _ _ _ _ _ _ h2] at hx;obtain⟨_,_,_,e⟩:=h7 _ (by rw[Array.mem_toList_iff];exact Array.mem_of_getElem? hx);cases e
 have hbk:=hg.block b hb (fun e=>hne e.symm);refine⟨b,off,ea,hB,Nat.lt_of_lt_of_le hb hg.size,fun i x hx=>?_⟩;obtain⟨c,hc1,hc2⟩:=hc i x hx;refine⟨c,hc1,fun j y hy=>?_⟩;have:=hc2 j y hy;unfold World.cell? at this⊢;dsimp only at this⊢;rw[hbk];exact this
structure PB (w wr:World) (j:Int) (c0 c1 c2 c3:Value) (n:Nat) (m:dU) (w':World):Prop where
 below:Below w.heap.size w w'
 row:w'.heap[w.heap.size]?=some (.cells #[.int .i64 0,.int .i64 0] 69 (0,0))
 i:w'.cell? ⟨wr.heap.size,0,none⟩=some (.int .i64 j)
 cells:w'.cell? ⟨wr.heap.size+1,0,none⟩=some c0∧w'.cell? ⟨wr.heap.size+1,1,none⟩=some c1∧w'.cell? ⟨wr.heap.size+1,2,none⟩=some c2∧w'.cell? ⟨wr.heap.size+1,3,none⟩=some c3∧wr.heap.size+1<w'.heap.size
 lo:w.heap.size+2≤wr.heap.size
 map:eT w' (w.heap.size+1) n m
theorem PB.turned {w wr w1 w2:World} {j:Int} {c0 c1 c2 c3:Value} {n n':Nat} {m m':dU} (h:PB w wr j c0 c1 c2 c3 n m w1) (k:Tn (w.heap.size+1) w1 w2) (hm:eT w2 (w.heap.size+1) n' m'):PB w wr j c0 c1 c2 c3 n' m' w2:=by have hl:=h.cells.2.2.2.2;have hlo:=h.lo;have e:∀q,w2.cell? ⟨wr.heap.size+1,q,none⟩=w1.cell? ⟨wr.heap.size+1,q,none⟩:=fun q=>k.cell (x:=⟨wr.heap.size+1,q,none⟩) hl (by show wr.heap.size+1≠_;omega);refine⟨aj h.below (k.below (n:=w.heap.size) (by omega) (by have:=h.below.size;omega)) (Nat.le_refl _),by rw[k.block _ (by omega) (by omega)];exact h.row,?_,⟨by rw[e];exact h.cells.1,by rw[e];exact h.cells.2.1,by rw[e];exact h.cells.2.2.1,by rw[e];exact h.cells.2.2.2.1,Nat.lt_of_lt_of_le hl k.size⟩,hlo,hm⟩;rw[k.cell (x:=⟨wr.heap.size,0,none⟩) (by show wr.heap.size<_;omega) (by show wr.heap.size≠_;omega)];exact h.i
theorem PB.below' {w wr w1 w2:World} {j:Int} {c0 c1 c2 c3:Value} {n:Nat} {m:dU} (h:PB w wr j c0 c1 c2 c3 n m w1) (k:Below w1.heap.size w1 w2):PB w wr j c0 c1 c2 c3 n m w2:=h.turned (Tn.of_below k) (h.map.below k)
def Bg (r:aG):Prop:=CG r.head∧∀a∈r.body,CG a
theorem zw (p:List aG) (v:Value) (w:World) (hv:eP.sl bf w v p) (hk:∀r∈p,Bg r):
  Calls Tryz.prog 70 #[v] w fun e w'=>e=.returned (.agg #[.int .i64 (dw p).1,.int .i64 ((dw p).2:Nat)])∧Below w.heap.size w w':=by
 obtain⟨sa,cap,rfl⟩:=aB.slice hv;have hl0:=hv.1.1;have HV:=au hv;have HK:=au hk;clear hv hk
 by_cases h16:16<p.length
 ·have F:Hid (dw p=(5,0)):=by show _=_;unfold dw;rw[if_pos h16]
  go_enter Tryz.func70,Tryz.ntmps70
  go_wp2;exact bodyPost_ret (v:=.agg #[.int .i64 5,.int .i64 0]) (by simp[results,Tryz.results70,go_sem]) rfl ⟨by rw[F.out];rfl,((by repeat (first|exact ak.refl _|assumption|refine ak.drewN ?_ _|refine ak.drew ?_|refine ak.alloc ?_ _|refine ak.grow ?_ _)):ak w _).below⟩
 have F:Hid (dw p=gY (fun _=>none) 0 p):=by show _=_;unfold dw;rw[if_neg h16]
 have hmm:= @run_makeMap Tryz.prog
 go_enter Tryz.func70,Tryz.ntmps70
 go_wp2
 go_loopg [20] p.length (fun k i wr=>∃j:Nat,j+k=p.length∧i=.int .i64 j∧∃m,Hid (dw p=gY m j (p.drop j))∧Hid (eT wr (w.heap.size+1) (6*j) (more m))∧Hid (Below w.heap.size w wr)∧Hid (wr.heap[w.heap.size]?=some (.cells #[.int .i64 0,.int .i64 0] 69 (0,0)))∧w.heap.size+2≤wr.heap.size)
 case atStart=>
  refine⟨0,by omega,rfl,fun _=>none,F.out,?_,?_,?_,by simp⟩;·have:=j3.made Tryz.prog 9 3 (w.alloc (.cells #[.int .i64 0,.int .i64 0] 69));rw[World.size_alloc] at this;exact this
  ·exact(((ak.refl w).alloc _).alloc _).below
  show _=_;rw[Below.heap_alloc _ _ _ (by simp),heap_alloc_new]
 obtain⟨j,hj,rfl,m,HE,HM,HB,HR,hsz⟩:=hrel
 by_cases hlt:j<p.length
 ·obtain⟨r,hr⟩:∃x,p[j]?=some x:=⟨_,List.getElem?_eq_getElem hlt⟩;obtain⟨b1,o1,_,rfl,hb1,⟨sv,su,rfl,hsv,hsu⟩,hc⟩:=aB.bO HV.out hr;have d0:wr.cell? ⟨b1,o1+j*4,none⟩=some (.bool r.head.no):=by rw[HB.out.cell hb1];exact hc 0 _ rfl
  have d1:wr.cell? ⟨b1,o1+j*4+1,none⟩=some (.string (bs r.head.name)):=by rw[HB.out.cell hb1];exact hc 1 _ rfl
  have d2:wr.cell? ⟨b1,o1+j*4+2,none⟩=some sv:=by rw[HB.out.cell hb1];exact hc 2 _ rfl
  have d3:wr.cell? ⟨b1,o1+j*4+3,none⟩=some su:=by rw[HB.out.cell hb1];exact hc 3 _ rfl
  have hbr:b1<wr.heap.size:=by omega
  have hst:=rF hr m j;have hlr:=HK.out r (List.mem_of_getElem? hr);obtain⟨wA,hwA⟩:∃wA,wA=(wr.alloc (.cells #[.int .i64 j] 3)).alloc (.cells #[.bool r.head.no,.string (bs r.head.name),sv,su] 82):=⟨_,rfl⟩;have hLA:ak wr wA:=by rw[hwA];exact(by repeat (first|exact ak.refl _|assumption|refine ak.drewN ?_ _|refine ak.drew ?_|refine ak.alloc ?_ _|refine ak.grow ?_ _))
  have hPA:PB w wr j (.bool r.head.no) (.string (bs r.head.name)) sv su (6*j) (more m) wA:=by refine⟨aj HB.out hLA.below HB.out.size,by rw[hLA.block (by omega)];exact HR.out,by rw[hwA];simp,by rw[hwA];simp,hsz,HM.out.later hLA⟩
  have PA:=au hPA;have HWA:=au hwA;have HSV:Hid (∀w',Below w.heap.size w w'→eD.sl bf w' sv r.head.terms):=fun w' h=>aB.aJ hsv h;have HSU:Hid (∀w',Below w.heap.size w w'→bN.sl bf w' su r.body):=fun w' h=>aB.aJ hsu h;have HAt:=au (xU r.head sv wA (HSV.out wA hPA.below) hlr.1);rw[hwA] at HAt;obtain⟨a2,c2,rfl⟩:=aB.slice hsv;obtain⟨a3,c3,rfl⟩:=aB.slice hsu;have HLr:=au hlr;clear hc hr hsv hsu hwA hLA hPA HM HB HR hlr
  by_cases h1:aP r.head=0
  ·rw[h1] at HAt;have HBd:Hid (∀w',Below w.heap.size w w'→Calls Tryz.prog 77 #[.slice a3 r.body.length c3] w' fun e w''=>e=.returned (.int .i64 (aL r.body))∧Below w'.heap.size w' w''):=fun w' h=>xV r.body _ w' (HSU.out w' h) HLr.out.2;cases hno:r.head.no
   ·rw[hno] at HAt PA d0 HWA
    by_cases h2:aL r.body=0
    ·rw[h2] at HBd;obtain⟨hl5,hfb⟩:=je h2;obtain⟨fn,ft,fs⟩:=bB h1;have hkh:Sw r.head:=⟨by omega,fun t ht=>fC (fs t ht)⟩;have HBo:Hid (∀w',Below w.heap.size w w'→Calls Tryz.prog 101 #[.agg #[.bool false,.string (bs r.head.name),.slice a2 r.head.terms.length c2],.slice a3 r.body.length c3] w' fun e w''=>e=.returned (.bool ((vars r.head).all (givenBy r.body)))∧Below w'.heap.size w' w''):=fun w' h=>by
      have:=MU r.head _ r.body _ w' (HSV.out w' h) hkh (HSU.out w' h) (fun b hb=>⟨by have:=(bB (hfb b hb)).2.1;omega,fun t ht=>fC ((bB (hfb b hb)).2.2 t ht)⟩)
      rwa [hno] at this
     cases hal:(vars r.head).all (givenBy r.body)
     ·have HE2:Hid (dw p=(9,j)):=by
       show _=_;have:aX m r=(9,m):=by unfold aX;rw[if_pos h1,hno,if_pos h2,hal];rfl
       rw[HE.out,hst,this,if_neg (by show¬(9:Int)=0;decide)]
      rw[hal] at HBo;clear hst HE h1 h2 hno hal hkh hfb fs HSV HSU HLr HK;generalize bs r.head.name=nm at*
      go_wp2_with fail
      refine HAt.out.mono ?_;rintro e w2 ⟨rfl,hL2⟩;rw[←HWA.out] at hL2;have P2:=au (PA.out.below' hL2.below);obtain⟨y0,y1,y2,y3,yl⟩:=P2.out.cells;have H2:=au (HBd.out w2 P2.out.below);clear hL2 HAt HBd
      go_wp2_with fail
      refine H2.out.mono ?_;rintro e w3 ⟨rfl,hB3⟩;have P3:=au (P2.out.below' hB3);obtain⟨x0,x1,x2,x3,xl⟩:=P3.out.cells;have H3:=au (HBo.out w3 P3.out.below);clear hB3 H2 HBo
      go_wp2_with fail
      refine H3.out.mono ?_;rintro e w4 ⟨rfl,hB4⟩;have P4:=au (P3.out.below' hB4);clear hB4 H3;have Ef:=au (Q9 9 j _ w4 P4.out.i)
      go_wp2_with fail
      refine Ef.out.mono ?_;rintro e wz ⟨rfl,hLz⟩;have Pz:=au (P4.out.below' hLz.below);have hRz:=Pz.out.row;have q0:wz.cell? ⟨w.heap.size,0,none⟩=some (.int .i64 0):=by rw[cell_of_row _ _ _ _ _ _ hRz];rfl
      have q1:wz.cell? ⟨w.heap.size,1,none⟩=some (.int .i64 0):=by rw[cell_of_row _ _ _ _ _ _ hRz];rfl
      have p0:wz.frozen? ⟨w.heap.size,0,none⟩=false:=aS 0 hRz;have p1:wz.frozen? ⟨w.heap.size,1,none⟩=false:=aS 1 hRz;clear hLz Ef hRz;go_wp2;obtain⟨r0,r1⟩:=dW Pz.out.row (.int .i64 9) (.int .i64 j);refine bodyPost_ret (v:=.agg #[.int .i64 9,.int .i64 j]) (by simp[results,Tryz.results70,go_sem,r0,r1]) rfl ⟨iG (by rw[HE2.out]) (by rw[HE2.out]),?_⟩;exact(Pz.out.below.setCell (Nat.le_refl _) _).setCell (Nat.le_refl _) _
     have hWR:=zo (m:=m) h1 hno h2 hal;rw[hal] at HBo;have HFb:Hid (∀a∈r.head::r.body,aP a=0):=fun a ha=>by
      rcases List.mem_cons.1 ha with e|ha;·rw[e];exact h1
      exact hfb a ha
     have HHd:Hid (bN.is bf w [.bool false,.string (bs r.head.name),.slice a2 r.head.terms.length c2] r.head):=⟨_,by rw[hno],HSV.out w (Below.refl _ _)⟩;have WL:Hid (bN.sl bf w (.slice a3 r.body.length c3) r.body):=HSU.out w (Below.refl _ _);have HWR:Hid (dw p=if(fitAll m (r.head::r.body)).1 then gY (fitAll m (r.head::r.body)).2 (j+1) (p.drop (j+1)) else(8,j)):=by show _=_;rw[HE.out,hst,hWR];cases(fitAll m (r.head::r.body)).1 <;> simp
     clear hst HE h1 h2 hno hal hkh hfb fs HLr HK hWR HSV;generalize hall:r.head::r.body=all at*;have Nu:Hid (all=[r.head]++r.body):=hall.symm;have aas:all.length=r.body.length+1:=by rw[←hall];rfl
     clear hall;generalize bs r.head.name=nm at*
     go_wp2_with fail
     refine HAt.out.mono ?_;rintro e w2 ⟨rfl,hL2⟩;rw[←HWA.out] at hL2;have P2:=au (PA.out.below' hL2.below);obtain⟨y0,y1,y2,y3,yl⟩:=P2.out.cells;have H2:=au (HBd.out w2 P2.out.below);clear hL2 HAt HBd
     go_wp2_with fail
     refine H2.out.mono ?_;rintro e w3 ⟨rfl,hB3⟩;have P3:=au (P2.out.below' hB3);obtain⟨x0,x1,x2,x3,xl⟩:=P3.out.cells;have H3:=au (HBo.out w3 P3.out.below);clear hB3 H2 HBo
     go_wp2_with fail
     refine H3.out.mono ?_;rintro e w4 ⟨rfl,hB4⟩;have P4:=au (P3.out.below' hB4);obtain⟨v0,v1,v2,v3,vl⟩:=P4.out.cells;have hRO:=sH.one (w0:=w) (lo:=w4.heap.size) HHd.out (Nat.le_refl w4.heap.size);have hBA:Below w.heap.size w (w4.alloc (.cells #[.bool false,.string nm,.slice a2 r.head.terms.length c2] 79)):=P4.out.below.alloc P4.out.below.size _;obtain⟨v5,w5,hrun,hRA,hg5⟩:=hRO.many (by simp) hBA WL.out (by simp;omega);have hB5:Below w4.heap.size w4 w5:=aj ((ak.refl w4).alloc (.cells #[.bool false,.string nm,.slice a2 r.head.terms.length c2] 79)).below ⟨hg5.os,hg5.tape,hg5.output,hg5.size,fun k hk=>hg5.block k (by simp;omega) (fun e=>by have:=(sH.lo hRO k e.symm).1;omega)⟩ (Nat.le_refl _);rw[←Nu.out] at hRA;have P5:=au (P4.out.below' hB5);have h4:w.heap.size+1<w4.heap.size:=P4.out.map.lt;obtain⟨z5,c5,rfl⟩:=sH.slice hRA;have HSl:=au (hRA.slB P5.out.below (by omega) (b:=w.heap.size+1) (by omega) h4);have HR5:=au hrun;clear hrun hRA hg5 hB5 hRO hBA hB4 H3 HSU WL HHd h4
     go_wp2_with (at_builtin;refine wpList_append_run rfl (.tmp 57) (.tmp 59) 80 rfl _ _ _ _ rfl rfl HR5.out ?_)
     go_loopg [62] all.length (fun g i wr2=>∃k:Nat,k+g=all.length∧i=.int .i64 k∧∃mk,Hid (fitAll m all=fitAll mk (all.drop k))∧Hid (eT wr2 (w.heap.size+1) (6*j+k) (more mk))∧Hid (Tn (w.heap.size+1) w5 wr2))
     case atStart=>exact⟨0,by omega,rfl,m,(rfl:_=_),P5.out.map,Tn.refl _ _⟩
     obtain⟨k,hk,rfl,mk,HFi,HMk,HTn⟩:=hrel
     by_cases hltk:k<all.length
     ·obtain⟨t,ht⟩:∃x,all[k]?=some x:=⟨_,List.getElem?_eq_getElem hltk⟩;obtain⟨b6,o6,_,rfl,hb6,⟨tv,rfl,htv⟩,hct⟩:=aB.bO (aB.rE HSl.out HTn.out) ht;have e0:wr.cell? ⟨b6,o6+k*3,none⟩=some (.bool t.no):=hct 0 _ rfl;have e1:wr.cell? ⟨b6,o6+k*3+1,none⟩=some (.string (bs t.name)):=hct 1 _ rfl;have e2:wr.cell? ⟨b6,o6+k*3+2,none⟩=some tv:=hct 2 _ rfl;have htl:=htv.1.1;obtain⟨ta,tc,rfl⟩:=aB.slice htv;have hts:t.name.length≤maxLen:=fC (bB (HFb.out t (List.mem_of_getElem? ht))).1;have hmp:=HMk.out.later ((ak.refl wr).alloc (.cells #[.bool t.no,.string (bs t.name),.slice ta t.terms.length tc] 79));have hlk:=j3.Ie (T:=110) hmp Tryz.underlying9 Tryz.underlying3 Tryz.underlying110 (lg _) hts;obtain⟨w7,Pt,hm7,hg7⟩:=j3.store (T:=110) hmp Tryz.underlying9 Tryz.underlying3 Tryz.underlying110 (by simp[maxLen];omega) hts (x:=t.terms.length+1) (uz (by omega));rw[show(((t.terms.length+1:Nat)):Int)=(t.terms.length:Int)+1 by omega] at Pt;have HT7:Hid (Tn (w.heap.size+1) w5 w7):=(HTn.out.trans (Tn.of_below ((ak.refl wr).alloc _).below)).trans (Tn.gD hg7);rw[LG] at hm7;have hf1:=uD ht mk;have hbq:b6<wr.heap.size:=hb6;have hmb:w.heap.size+1<wr.heap.size:=HMk.out.lt;have HBQ:=au HTn.out;cases hmt:mk t.name with
      |none=>
       have e3:numOf (more mk) t.name=0:=by unfold numOf more;rw[hmt];rfl
       have e4:((more mk) t.name).isSome=false:=by unfold more;rw[hmt];rfl
       rw[e3,e4] at hlk;have HF1:Hid (fitAll m all=fitAll (mk.put t.name t.terms.length) (all.drop (k+1))):=by show _=_;rw[HFi.out,hf1];rw[CO hmt];rfl
       have HM7:=au hm7;have HST:=au Pt;clear hct ht htv hmp Pt hm7 hg7 hf1 hmt e3 e4 HFi HMk HTn;generalize bs t.name=nt at*;generalize t.no=tn at*
       go_wp2_with (first
        |(at_mapUpdate;refine aM _ rfl _ _ _ _ rfl _ _ _ _ rfl rfl (by simp[Act.eval]) HST.out ?_)
        |go_in)
       go_roundg (all.length- (k+1))
       case measure=>omega
       case rel=>exact⟨k+1,by omega,by go_num,_,HF1,HM7,HT7⟩
      |some n=>
       have e3:numOf (more mk) t.name=n+1:=by unfold numOf more;rw[hmt];rfl
       have e4:((more mk) t.name).isSome=true:=by unfold more;rw[hmt];rfl
       rw[e3,e4,show(((n+1:Nat)):Int)=(n:Int)+1 by omega] at hlk
       by_cases hnt:n=t.terms.length
       ·have HF1:Hid (fitAll m all=fitAll mk (all.drop (k+1))):=by
         show _=_;rw[HFi.out,hf1];rw[uY hmt,decide_eq_true hnt];rfl
        rw[←hnt,LH hmt] at hm7;have HM7:=au hm7;have HST:=au Pt;clear hct ht htv hmp Pt hm7 hg7 hf1 hmt e3 e4 HFi HMk HTn;subst hnt;generalize bs t.name=nt at*;generalize t.no=tn at*
        go_wp2_with (first
         |(at_mapUpdate;refine aM _ rfl _ _ _ _ rfl _ _ _ _ rfl rfl (by simp[Act.eval]) HST.out ?_)
         |go_in)
        go_roundg (all.length- (k+1))
        case measure=>omega
        case rel=>exact⟨k+1,by omega,by go_num,_,HF1,HM7,HT7⟩
       have hqn:(((n:Int)+1) != ((t.terms.length:Int)+1))=true:=by rw[bne_iff_ne];omega
       have HE2:Hid (dw p=(8,j)):=by
        show _=_;have:fitAll m all=(false,mk):=by rw[HFi.out,hf1];rw[uY hmt,decide_eq_false hnt];rfl
        rw[HWR.out,this];rfl
       have PQ:=au ((P5.out.turned HTn.out HMk.out).below' ((ak.refl wr).alloc (.cells #[.bool t.no,.string (bs t.name),.slice ta t.terms.length tc] 79)).below);clear hct ht htv hmp Pt hm7 hg7 hf1 hmt e3 e4 HFi HMk HTn HT7;generalize bs t.name=nt at*;generalize t.no=tn at*;have Ef:=au (Q9 8 j _ (wr.alloc (.cells #[.bool tn,.string nt,.slice ta t.terms.length tc] 79)) PQ.out.i)
       go_wp2_with fail
       refine Ef.out.mono ?_;rintro e wz ⟨rfl,hLz⟩;have Pz:=au (PQ.out.below' hLz.below);have hRz:=Pz.out.row;have q0:wz.cell? ⟨w.heap.size,0,none⟩=some (.int .i64 0):=by rw[cell_of_row _ _ _ _ _ _ hRz];rfl
       have q1:wz.cell? ⟨w.heap.size,1,none⟩=some (.int .i64 0):=by rw[cell_of_row _ _ _ _ _ _ hRz];rfl
       have p0:wz.frozen? ⟨w.heap.size,0,none⟩=false:=aS 0 hRz;have p1:wz.frozen? ⟨w.heap.size,1,none⟩=false:=aS 1 hRz;clear hLz Ef hRz;go_wp2;obtain⟨r0,r1⟩:=dW Pz.out.row (.int .i64 8) (.int .i64 j);refine bodyPost_ret (v:=.agg #[.int .i64 8,.int .i64 j]) (by simp[results,Tryz.results70,go_sem,r0,r1]) rfl ⟨iG (by rw[HE2.out]) (by rw[HE2.out]),?_⟩;exact(Pz.out.below.setCell (Nat.le_refl _) _).setCell (Nat.le_refl _) _
     have e:k=all.length:=by omega
     have HE2:Hid (dw p=gY mk (j+1) (p.drop (j+1))):=by
      show _=_;have:fitAll m all=(true,mk):=by rw[HFi.out,List.drop_eq_nil_of_le (by omega)];rfl
      rw[HWR.out,this];rfl
     have PQ:=au (P5.out.turned HTn.out HMk.out);have hl6:w.heap.size+2≤wr.heap.size:=by have:=PQ.out.cells.2.2.2.2;have:=PQ.out.lo;omega
     go_wp2
     go_roundg (p.length- (j+1))
     case measure=>omega
     case rel=>exact⟨j+1,by omega,by go_num,mk,HE2,PQ.out.map.mono (by omega),PQ.out.below,PQ.out.row,hl6⟩
    have HE2:Hid (dw p=(aL r.body,j)):=by
     show _=_;have:aX m r=(aL r.body,m):=by unfold aX;rw[if_pos h1,hno,if_neg h2];rfl
     rw[HE.out,hst,this,if_neg h2]
    have hq:(aL r.body != 0)=true:=by simpa using h2
    clear hst HE h1 h2 hno HSV HSU HLr HK;generalize aL r.body=eb at*;generalize bs r.head.name=nm at*
    go_wp2_with fail
    refine HAt.out.mono ?_;rintro e w2 ⟨rfl,hL2⟩;rw[←HWA.out] at hL2;have P2:=au (PA.out.below' hL2.below);obtain⟨y0,y1,y2,y3,yl⟩:=P2.out.cells;have H2:=au (HBd.out w2 P2.out.below);clear hL2 HAt HBd
    go_wp2_with fail
    refine H2.out.mono ?_;rintro e w3 ⟨rfl,hB3⟩;have P3:=au (P2.out.below' hB3);clear hB3 H2;have Ef:=au (Q9 eb j _ w3 P3.out.i)
    go_wp2_with fail
    refine Ef.out.mono ?_;rintro e wz ⟨rfl,hLz⟩;have Pz:=au (P3.out.below' hLz.below);have hRz:=Pz.out.row;have q0:wz.cell? ⟨w.heap.size,0,none⟩=some (.int .i64 0):=by rw[cell_of_row _ _ _ _ _ _ hRz];rfl
    have q1:wz.cell? ⟨w.heap.size,1,none⟩=some (.int .i64 0):=by rw[cell_of_row _ _ _ _ _ _ hRz];rfl
    have p0:wz.frozen? ⟨w.heap.size,0,none⟩=false:=aS 0 hRz;have p1:wz.frozen? ⟨w.heap.size,1,none⟩=false:=aS 1 hRz;clear hLz Ef hRz;go_wp2;obtain⟨r0,r1⟩:=dW Pz.out.row (.int .i64 eb) (.int .i64 j);refine bodyPost_ret (v:=.agg #[.int .i64 eb,.int .i64 j]) (by simp[results,Tryz.results70,go_sem,r0,r1]) rfl ⟨iG (by rw[HE2.out]) (by rw[HE2.out]),?_⟩;exact(Pz.out.below.setCell (Nat.le_refl _) _).setCell (Nat.le_refl _) _
   have HE2:Hid (dw p=(2,j)):=by
    show _=_;have:aX m r=(2,m):=by unfold aX;rw[if_pos h1,hno];rfl
    rw[HE.out,hst,this,if_neg (by show¬(2:Int)=0;decide)]
   rw[hno] at HAt PA d0 HWA;clear hst HE h1 hno HSV HSU HLr HK HBd;generalize bs r.head.name=nm at*
   go_wp2_with fail
   refine HAt.out.mono ?_;rintro e w2 ⟨rfl,hL2⟩;rw[←HWA.out] at hL2;have P2:=au (PA.out.below' hL2.below);obtain⟨y0,y1,y2,y3,yl⟩:=P2.out.cells;clear hL2 HAt;have Ef:=au (Q9 2 j _ w2 P2.out.i)
   go_wp2_with fail
   refine Ef.out.mono ?_;rintro e wz ⟨rfl,hLz⟩;have Pz:=au (P2.out.below' hLz.below);have hRz:=Pz.out.row;have q0:wz.cell? ⟨w.heap.size,0,none⟩=some (.int .i64 0):=by rw[cell_of_row _ _ _ _ _ _ hRz];rfl
   have q1:wz.cell? ⟨w.heap.size,1,none⟩=some (.int .i64 0):=by rw[cell_of_row _ _ _ _ _ _ hRz];rfl
   have p0:wz.frozen? ⟨w.heap.size,0,none⟩=false:=aS 0 hRz;have p1:wz.frozen? ⟨w.heap.size,1,none⟩=false:=aS 1 hRz;clear hLz Ef hRz;go_wp2;obtain⟨r0,r1⟩:=dW Pz.out.row (.int .i64 2) (.int .i64 j);refine bodyPost_ret (v:=.agg #[.int .i64 2,.int .i64 j]) (by simp[results,Tryz.results70,go_sem,r0,r1]) rfl ⟨iG (by rw[HE2.out]) (by rw[HE2.out]),?_⟩;exact(Pz.out.below.setCell (Nat.le_refl _) _).setCell (Nat.le_refl _) _
  have HE2:Hid (dw p=(aP r.head,j)):=by
   show _=_;have:aX m r=(aP r.head,m):=by unfold aX;rw[if_neg h1]
   rw[HE.out,hst,this,if_neg h1]
  have hq:(aP r.head != 0)=true:=by simpa using h1
  clear hst HE h1 HSV HSU HLr HK;generalize aP r.head=ex at*;generalize r.head.no=xn at*;generalize bs r.head.name=nm at*
  go_wp2_with fail
  refine HAt.out.mono ?_;rintro e w2 ⟨rfl,hL2⟩;rw[←HWA.out] at hL2;have P2:=au (PA.out.below' hL2.below);clear hL2 HAt;have Ef:=au (Q9 ex j _ w2 P2.out.i)
  go_wp2_with fail
  refine Ef.out.mono ?_;rintro e wz ⟨rfl,hLz⟩;have Pz:=au (P2.out.below' hLz.below);have hRz:=Pz.out.row;have q0:wz.cell? ⟨w.heap.size,0,none⟩=some (.int .i64 0):=by rw[cell_of_row _ _ _ _ _ _ hRz];rfl
  have q1:wz.cell? ⟨w.heap.size,1,none⟩=some (.int .i64 0):=by rw[cell_of_row _ _ _ _ _ _ hRz];rfl
  have p0:wz.frozen? ⟨w.heap.size,0,none⟩=false:=aS 0 hRz;have p1:wz.frozen? ⟨w.heap.size,1,none⟩=false:=aS 1 hRz;clear hLz Ef hRz;go_wp2;obtain⟨r0,r1⟩:=dW Pz.out.row (.int .i64 ex) (.int .i64 j);refine bodyPost_ret (v:=.agg #[.int .i64 ex,.int .i64 j]) (by simp[results,Tryz.results70,go_sem,r0,r1]) rfl ⟨iG (by rw[HE2.out]) (by rw[HE2.out]),?_⟩;exact(Pz.out.below.setCell (Nat.le_refl _) _).setCell (Nat.le_refl _) _
 have E2:Hid (dw p=(0,0)):=by show _=_;rw[HE.out,List.drop_eq_nil_of_le (by omega)];rfl
 have hR2:=HR.out;have q0:wr.cell? ⟨w.heap.size,0,none⟩=some (.int .i64 0):=by rw[cell_of_row _ _ _ _ _ _ hR2];rfl
 have q1:wr.cell? ⟨w.heap.size,1,none⟩=some (.int .i64 0):=by rw[cell_of_row _ _ _ _ _ _ hR2];rfl
 have p0:wr.frozen? ⟨w.heap.size,0,none⟩=false:=aS 0 hR2;have p1:wr.frozen? ⟨w.heap.size,1,none⟩=false:=aS 1 hR2;clear hR2;go_wp2;obtain⟨r0,r1⟩:=dW HR.out (.int .i64 0) (.int .i64 0);refine bodyPost_ret (v:=.agg #[.int .i64 0,.int .i64 0]) (by simp[results,Tryz.results70,go_sem,r0,r1]) rfl ⟨iG (by rw[E2.out]) (by rw[E2.out];rfl),?_⟩;exact(HB.out.setCell (Nat.le_refl _) _).setCell (Nat.le_refl _) _
def Edge (p:List aG) (a b:Bs) (s:Nat):Prop:=∃r∈p,∃x∈r.body,r.head.name=a∧x.name=b∧fK p b∧step x=s
inductive Trail (p:List aG):Bs→List Bs→Nat→Prop
 |nil (a:Bs):Trail p a [] 0
 |cons {a b:Bs} {s n:Nat} {l:List Bs}:Edge p a b s→Trail p b l n→Trail p a (b::l) (s+n)
theorem Edge.le {p:List aG} {a b:Bs} {s:Nat} (h:Edge p a b s):s≤1:=by obtain⟨r,_,x,_,_,_,_,rfl⟩:=h;unfold step;split <;> omega
theorem Trail.split {p:List aG}:∀(l1:List Bs) {a b:Bs} {l2:List Bs} {n:Nat},Trail p a (l1++b::l2) n→∃n1 n2,n=n1+n2∧Trail p a (l1++[b]) n1∧Trail p b l2 n2
 |[],a,b,l2,n,h=>by
  cases h with
  |cons e t=>exact⟨_,_,rfl,by have:=Trail.cons e (Trail.nil b);simpa using this,t⟩
 |c::l1,a,b,l2,n,h=>by
  cases h with
  |cons e t=>
   obtain⟨n1,n2,rfl,t1,t2⟩:=Trail.split l1 t;exact⟨_,n2,(Nat.add_assoc _ _ _).symm,Trail.cons e t1,t2⟩
theorem Trail.heads {p:List aG} {a:Bs} {l:List Bs} {n:Nat} (h:Trail p a l n):∀x∈l,fK p x:=by
 induction h with
 |nil=>intro x hx;cases hx
 |cons e _ ih=>
  intro x hx;obtain⟨_,_,_,_,_,_,hh,_⟩:=e;rcases List.mem_cons.1 hx with rfl|hx
  ·exact hh
  exact ih x hx
theorem Trail.le {p:List aG} {a:Bs} {l:List Bs} {n:Nat} (h:Trail p a l n):n≤l.length:=by
 induction h with
 |nil=>exact Nat.le_refl _
 |cons e _ ih=>have:=e.le;simp;omega
theorem uZ:∀(p:List aG) (l:List Bs),l.Nodup→(∀x∈l,∃r∈p,r.head.name=x)→l.length≤p.length
 |[],l,_,h=>by
  cases l with
  |nil=>simp
  |cons x l=>obtain⟨r,hr,_⟩:=h x (by simp);cases hr
 |r::p,l,hn,h=>by
  have h1:=uZ p (l.erase r.head.name) (hn.erase _) (fun x hx=>by
   rw[hn.mem_erase_iff] at hx;obtain⟨q,hq,e⟩:=h x hx.2;rcases List.mem_cons.1 hq with rfl|hq
   ·exact absurd e.symm hx.1
   exact⟨q,hq,e⟩)
  by_cases hm:r.head.name∈l
  ·rw[List.length_erase_of_mem hm] at h1;simp;omega
  rw[List.erase_of_not_mem hm] at h1;simp;omega
theorem Rc {P:Nat→Prop} (N:Nat) (h0:P 0) (hb:∀n,P n→n≤N):∃m,P m∧∀n,P n→n≤m:=by
 have:∀k,(∃n,P n∧N≤n+k)→∃m,P m∧∀n,P n→n≤m:=by
  intro k
  induction k with
  |zero=>rintro⟨n,hn,hk⟩;exact⟨n,hn,fun m hm=>by have:=hb m hm;omega⟩
  |succ k ih=>
   rintro⟨n,hn,hk⟩
   by_cases hx:∃m,P m∧n<m
   ·obtain⟨m,hm,hlt⟩:=hx;exact ih ⟨m,hm,by omega⟩
   exact⟨n,hn,fun m hm=>Nat.le_of_not_lt fun hlt=>hx ⟨m,hm,hlt⟩⟩
 exact this N ⟨0,h0,by omega⟩
def Far (p:List aG) (a:Bs) (n:Nat):Prop:=∃l,l.Nodup∧a∉l∧Trail p a l n
theorem oo (p:List aG) (a:Bs):∃m,Far p a m∧∀n,Far p a n→n≤m:=
 Rc p.length ⟨[],by simp,by simp,Trail.nil a⟩ fun n ⟨l,hn,_,ht⟩=>Nat.le_trans ht.le (uZ p l hn fun x hx=>ht.heads x hx)
def OD (p:List aG):Prop:=∀a mid n,mid.Nodup→Trail p a (mid++[a]) n→n=0
theorem vY {p:List aG} (h:OD p):∃σ,Sol p σ:=by
 refine⟨fun a=>Classical.choose (oo p a),fun r hr x hx hh=>?_⟩;have hE:Edge p r.head.name x.name (step x):=⟨r,hr,x,hx,rfl,rfl,hh,rfl⟩;obtain⟨⟨l,hn,hnot,ht⟩,_⟩:=Classical.choose_spec (oo p x.name);have hmax:=(Classical.choose_spec (oo p r.head.name)).2;show Classical.choose (oo p x.name)+step x≤Classical.choose (oo p r.head.name);generalize Classical.choose (oo p x.name)=n at*;generalize Classical.choose (oo p r.head.name)=m at*;generalize step x=s at*;generalize r.head.name=a at*;generalize x.name=b at*
 by_cases hab:a=b
 ·subst hab;have h1:=h a [] s (by simp) (by have:=Trail.cons hE (Trail.nil a);simpa using this);have h2:=hmax n ⟨l,hn,hnot,ht⟩;omega
 by_cases hal:a∈l
 ·obtain⟨l1,l2,rfl⟩:=List.append_of_mem hal;obtain⟨n1,n2,rfl,t1,t2⟩:=Trail.split l1 ht;have hn':=hn;rw[List.nodup_append] at hn';obtain⟨hd1,hd2,hd3⟩:=hn';have WM:=List.nodup_cons.1 hd2;have h1:=h a (b::l1) (s+n1) (List.nodup_cons.2 ⟨fun hb=>hnot (by simp[hb]),hd1⟩) (Trail.cons hE t1);have h2:=hmax n2 ⟨l2,WM.2,WM.1,t2⟩;omega
 have h2:=hmax (s+n) ⟨b::l,List.nodup_cons.2 ⟨hnot,hn⟩,by simp[hab,hal],Trail.cons hE ht⟩;omega
end Go.Proofs.YtaallngooaaonaaGreatDoor
