import Derived.Test.YtafmbokfkbccaaaGreatDoorJN28
import Derived.Test.YtafmbokfkbccaaaGreatDoorJN5
import Derived.Test.YtafmbokfkbccaaaGreatDoorJN21
import Derived.Test.YtafmbokfkbccaaaGreatDoorJN26
import Derived.Test.YtafmbokfkbccaaaGreatDoorJN7
namespace Go.Proofs.YtafmbokfkbccaaaGreatDoor
open Go.RowKit Go.Sort
def AZ (B:Nat→Prop) (w:World) (s:Value) (l:List ByteArray):Prop:=Strs w s l∧∀k,l≠[]→s.ownBlock=some k→B k
theorem AZ.kept {B:Nat→Prop} {w w':World} {s:Value} {l:List ByteArray} (h:AZ B w s l) (hs:w.heap.size≤w'.heap.size) (hk:∀k,k<w.heap.size→B k→w'.heap[k]?=w.heap[k]?):AZ B w' s l:=by
 refine⟨?_,h.2⟩
 by_cases hne:l=[]
 ·have:=h.1;rw[hne] at this⊢;exact this.nil
 ·exact h.1.kept hs fun k e=>hk k (h.1.block_lt hne k e) (h.2 k hne e)
theorem AZ.mono {B B':Nat→Prop} {w:World} {s:Value} {l:List ByteArray} (h:AZ B w s l) (hm:∀k,k<w.heap.size→B k→B' k):AZ B' w s l:=
 ⟨h.1,fun k hne e=>hm k (h.1.block_lt hne k e) (h.2 k hne e)⟩
theorem Ig {B:Nat→Prop} {w:World} {v:Value} {l:List ByteArray} (h:bsK.sl B w v l):Strs w v l:=by
 obtain⟨⟨h0,_⟩,a,cap,rfl,h1⟩:=h;refine⟨h0,a,cap,rfl,fun hne=> ?_⟩;obtain⟨b,off,rfl,_,hb,hc⟩:=h1 hne;refine⟨b,off,rfl,hb,fun i hi=> ?_⟩;obtain⟨c,rfl,c2⟩:=hc i _ (List.getElem?_eq_getElem hi);have:=c2 0 _ rfl;rw[List.getD_eq_getElem?_getD,List.getElem?_eq_getElem hi];simpa[bsK] using this
theorem A8 {B:Nat→Prop} {w:World} {v:Value} {l:List ByteArray} (h:bsK.sl B w v l):AZ B w v l:=by
 refine⟨Ig h,fun k hne e=> ?_⟩;obtain⟨_,a,cap,rfl,h1⟩:=h;obtain⟨b,off,rfl,hB,_⟩:=h1 hne;simp only[Value.ownBlock,Option.some.injEq] at e;subst e;exact hB
def doK:Kind DoD where
 size:=5
 is:=fun B w c x=>∃s,c=[.int .i64 x.kind,.int .i64 x.n,.string x.fact.1,s,.string x.text]∧AZ B w s x.fact.2
 len:=fun⟨s,h,_⟩=>by subst h;rfl
 one:=fun⟨s,h,hs⟩ u hu=>by
  subst h;obtain⟨a,cap,rfl⟩:=aW hs.1;simp at hu;rcases hu with rfl|rfl|rfl|rfl|rfl <;> rfl
 kept:=fun⟨s,h,hs⟩ h1 h2=>⟨s,h,hs.kept h1 h2⟩
 mono:=fun⟨s,h,hs⟩ h1=>⟨s,h,hs.mono h1⟩
def Lr:Kind rM where
 size:=8
 is:=fun B w c a=>∃bv sv kv,c=[.int .i64 a.err,.int .i64 a.place,.int .i64 a.n,bv,.string a.prf.fact.1,sv,.int .i64 a.prf.rule,kv]∧lu.sl B w bv a.binds∧bsK.sl B w sv a.prf.fact.2∧(FU 60).sl B w kv a.prf.kids
 len:=fun⟨_,_,_,h,_⟩=>by subst h;rfl
 one:=fun⟨bv,sv,kv,h,h1,h2,h3⟩ u hu=>by
  subst h;obtain⟨a,cap,rfl⟩:=Kind.slice h1;obtain⟨a,cap,rfl⟩:=Kind.slice h2;obtain⟨a,cap,rfl⟩:=Kind.slice h3;simp at hu;rcases hu with rfl|rfl|rfl|rfl|rfl|rfl|rfl|rfl <;> rfl
 kept:=fun⟨bv,sv,kv,h,h1,h2,h3⟩ k1 k2=>⟨bv,sv,kv,h,Kind.aM h1 k1 k2,Kind.aM h2 k1 k2,Kind.aM h3 k1 k2⟩
 mono:=fun⟨bv,sv,kv,h,h1,h2,h3⟩ k1=>⟨bv,sv,kv,h,Kind.aH h1 k1,Kind.aH h2 k1,Kind.aH h3 k1⟩
theorem MZ:∃i z,Tryz.prog.info? 64=some i∧i.zero=some z∧i.size=Lr.size∧i.bytes=120∧z.cells.size=Lr.size:=⟨Tryz.t64,.agg #[.int .i64 0,.int .i64 0,.int .i64 0,.slice none 0 0,.string ByteArray.empty,.slice none 0 0,.int .i64 0,.slice none 0 0],by kernel_rfl,by kernel_rfl,by kernel_rfl,by kernel_rfl,by kernel_rfl⟩
def Fg (B:Nat→Prop) (w:World) (v:Value) (d:dD):Prop:=∃tv rv kv nv sv,v=.agg #[tv,rv,.bool d.running,kv,nv,.int .i64 d.run.level,.int .i64 d.run.rounds,.bool d.run.done,sv]∧bC B w tv d.told∧dU.sl B w rv d.rules∧bC B w kv d.run.known∧bC B w nv d.run.fresh∧kN.sl B w sv d.saved
theorem CG {φ:Prover} {d:dD} {l:List DoD} {j:Nat} {x:DoD} (h:l[j]?=some x):ig φ d (l.drop j)=((ig φ (doP φ d x).1 (l.drop (j+1))).1,(doP φ d x).2::(ig φ (doP φ d x).1 (l.drop (j+1))).2):=by
 have hlt:=(List.getElem?_eq_some_iff.1 h).1;have e:l[j]=x:=(List.getElem?_eq_some_iff.1 h).2;rw[List.drop_eq_getElem_cons hlt,e,ig]
structure M0 (w:World) (P:Nat) (d:dD) (o:Value) (l:List rM) (wr:World):Prop where
 below:Below w.heap.size w wr
 res:wr.heap[w.heap.size]?=some (.cells #[.slice none 0 0,.slice none 0 0,.bool false,.slice none 0 0,.slice none 0 0,.int .i64 0,.int .i64 0,.bool false,.slice none 0 0] 56 (0,0))
 VW:∃tv rv kv nv sv,fH P (fun k=>P<k∧o.ownBlock≠some k) wr d tv rv kv nv sv
 row:Lr.own 64 (P+1) wr o l
set_option maxRecDepth 100000 in
set_option maxHeartbeats 4000000 in
theorem Pz (φ:Prover) (l:List DoD) (lv:Value) (w:World) (hl:doK.sl bZ w lv l) (m:Int) (hm:w.cell? ⟨1,0,none⟩=some (.int .i64 m)) (hmw:1<w.heap.size) (hφ:∀x∈l,x.kind=6→DI φ):
  Calls Tryz.prog 30 #[lv] w fun e w'=>∃dv ov,e=.returned (.tuple #[dv,ov,.int .i64 (pQ φ l).2.2])∧Fg (From (w.heap.size+1)) w' dv (pQ φ l).1∧Lr.sl (From (w.heap.size+1)) w' ov (pQ φ l).2.1∧Below w.heap.size w w':=by
 have HΦ:=hide hφ;clear hφ;obtain⟨la,lc,rfl⟩:=Kind.slice hl;obtain⟨w1,hw1⟩:∃w1,w1=w.alloc (.cells #[.slice none 0 0,.slice none 0 0,.bool false,.slice none 0 0,.slice none 0 0,.int .i64 0,.int .i64 0,.bool false,.slice none 0 0] 56):=⟨_,rfl⟩;have hz1:w1.heap.size=w.heap.size+1:=by rw[hw1];simp
 have hL1:Later w w1:=by rw[hw1];exact(Later.refl w).alloc _
 have hr1:w1.heap[w.heap.size]?=some (.cells #[.slice none 0 0,.slice none 0 0,.bool false,.slice none 0 0,.slice none 0 0,.int .i64 0,.int .i64 0,.bool false,.slice none 0 0] 56 (0,0)):=by rw[hw1];exact heap_alloc_new w _
 have HV:=hide hl;have HW1:=hide hw1;have HR1:=hide hr1;have HL1:=hide hL1;have hll:=hl.1.1;clear hl hw1 hr1 hL1
 by_cases h60:60<l.length
 ·have HX:Hid (pQ φ l=(jy,[],5)):=by show _=_;unfold pQ;rw[if_pos h60]
  obtain⟨⟨q0,q1,q2,q3,q4,q5,q6,q7,q8⟩,qfz,qlt⟩:=jd HR1.out;generalize l.length=ln at*
  go_enter Tryz.func30,Tryz.ntmps30
  go_wp2_with (first|(rw[←HW1.out])|fail)
  have hrow:=yT HR1.out (.slice none 0 0) (.slice none 0 0) (.bool false) (.slice none 0 0) (.slice none 0 0) (.int .i64 0) (.int .i64 0) (.bool false) (.slice none 0 0);obtain⟨⟨r0,r1,r2,r3,r4,r5,r6,r7,r8⟩,_,_⟩:=jd hrow;unfold MX at r0 r1 r2 r3 r4 r5 r6 r7 r8;have hTz:=CF w1 w.heap.size (.slice none 0 0) (.slice none 0 0) (.bool false) (.slice none 0 0) (.slice none 0 0) (.int .i64 0) (.int .i64 0) (.bool false) (.slice none 0 0);unfold MX at hTz;exact bodyPost_ret (v:=.tuple #[.agg #[.slice none 0 0,.slice none 0 0,.bool false,.slice none 0 0,.slice none 0 0,.int .i64 0,.int .i64 0,.bool false,.slice none 0 0],.slice none 0 0,.int .i64 5]) (by simp[results,Tryz.results30,go_sem,r0,r1,r2,r3,r4,r5,r6,r7,r8]) rfl
   ⟨_,_,by rw[HX.out],by rw[HX.out];exact⟨_,_,_,_,_,rfl,bC.nil _ _,dU.dw _ _ _ _,bC.nil _ _,bC.nil _ _,kN.dw _ _ _ _⟩,by rw[HX.out];exact Lr.dw _ _ _ _,HL1.out.below.trans (hTz.below (Nat.le_refl _) HL1.out.size)⟩
 ·have HX:Hid (pQ φ l=((ig φ jy l).1,(ig φ jy l).2,0)):=by show _=_;unfold pQ;rw[if_neg h60]
  obtain⟨w2,hw2⟩:∃w2,w2=w1.alloc (.cells #[.slice none 0 0,.slice none 0 0,.bool false,.slice none 0 0,.slice none 0 0,.int .i64 0,.int .i64 0,.bool false,.slice none 0 0] 140):=⟨_,rfl⟩;have hL2:Later w1 w2:=by rw[hw2];exact(Later.refl w1).alloc _
  have hr2:w2.heap[w.heap.size+1]?=some (.cells #[.slice none 0 0,.slice none 0 0,.bool false,.slice none 0 0,.slice none 0 0,.int .i64 0,.int .i64 0,.bool false,.slice none 0 0] 140 (0,0)):=by rw[hw2,←hz1];exact heap_alloc_new w1 _
  have HP0:Hid (M0 w (w.heap.size+1) jy (.slice none 0 0) [] w2):=⟨(HL1.out.trans hL2).below,(hL2.block (by omega)).trans HR1.out,⟨_,_,_,_,_,hr2,bC.nil _ _,dU.dw _ _ _ _,bC.nil _ _,bC.nil _ _,kN.dw _ _ _ _⟩,Lr.iW _ _ _⟩;have HW2:=hide hw2;have HM:=hide hm;clear hw2 hL2 hr2 hm HR1 HL1;generalize hP:w.heap.size+1=P at*;have HPe:=hide hP;have hPl:w.heap.size<P:=by omega
  clear hP
  go_enter Tryz.func30,Tryz.ntmps30
  go_wp2_with (first|(rw[←HW1.out])|(rw[←HW2.out])|fail)
  clear HW1 HW2
  go_loopg [6,15] l.length (fun g o i wr=>∃j:Nat,j+g=l.length∧i=.int .i64 j∧∃d ans,Hid (ans.length=j)∧Hid (ig φ jy l=((ig φ d (l.drop j)).1,ans++(ig φ d (l.drop j)).2))∧Hid (M0 w P d o ans wr))
  case atStart=>exact⟨0,by omega,rfl,jy,[],(rfl:_=_),(rfl:_=_),HP0⟩
  case round=>
   clear HP0;obtain⟨j,hj,rfl,d,ans,HAl,HEq,HPw⟩:=hrel;have hF:=HPw.out;obtain⟨tv,rv,kv,nv,sv,hD⟩:=hF.VW;have Xl:=hD.lt;obtain⟨oa,on,oc,rfl⟩:∃a n c,u6=.slice a n c:=by obtain⟨a,c,e⟩:=Kind.bT hF.row;exact⟨a,_,c,e⟩
   by_cases hlt:j<l.length
   ·obtain⟨x,hx⟩:∃x,l[j]?=some x:=⟨_,List.getElem?_eq_getElem hlt⟩;obtain⟨b1,o1,_,e1,hb1,⟨xs,hce,hxs⟩,hc⟩:=Kind.fC HV.out hx;subst e1;subst hce;have hst:=CG (φ:=φ) (d:=d) hx;have dc:∀i u,[.int .i64 x.kind,.int .i64 x.n,.string x.fact.1,xs,.string x.text][i]?=some u→wr.cell? ⟨b1,o1+j*5+i,none⟩=some u:=fun i u hu=>by
     rw[hF.below.cell (p:=⟨b1,o1+j*5+i,none⟩) hb1];exact hc i u hu
    have d0:=dc 0 _ rfl;have d1:=dc 1 _ rfl;have d2:=dc 2 _ rfl;have d3:=dc 3 _ rfl;have d4:=dc 4 _ rfl;rw[Nat.add_zero] at d0;obtain⟨xa,xc,rfl⟩:=aW hxs.1;obtain⟨wf,hwf⟩:∃wf,wf=wr.alloc (.cells #[.int .i64 x.kind,.int .i64 x.n,.string x.fact.1,.slice xa x.fact.2.length xc,.string x.text] 72):=⟨_,rfl⟩;have hLf:Later wr wf:=by rw[hwf];exact(Later.refl wr).alloc _
    have hRf:wf.heap[wr.heap.size]?=some (.cells #[.int .i64 x.kind,.int .i64 x.n,.string x.fact.1,.slice xa x.fact.2.length xc,.string x.text] 72 (0,0)):=by rw[hwf];exact heap_alloc_new wr _
    have hBf:Below w.heap.size w wf:=aj hF.below hLf.below hF.below.size;have hsx:Strs wf (.slice xa x.fact.2.length xc) x.fact.2:=hxs.1.below hBf;have Ue:=hF.below.size;have RV:=hLf.size;have HDo:=hide (doC φ P (fun k=>P<k∧(Value.slice oa on oc).ownBlock≠some k) d x (.agg #[.int .i64 x.kind,.int .i64 x.n,.string x.fact.1,.slice xa x.fact.2.length xc,.string x.text]) tv rv kv nv sv wf (hD.below hLf.below) (fun h=>by omega) ⟨_,rfl,hsx⟩ m (by rw[hBf.cell (p:=⟨1,0,none⟩) hmw];exact HM.out) (by omega) (HΦ.out x (List.mem_of_getElem? hx)));obtain⟨g0,g1,g2,g3,g4,_,TT⟩:=dR hRf;have g1':wf.cell? ⟨wr.heap.size,0+1,none⟩=some (.int .i64 x.n):=g1;have g2':wf.cell? ⟨wr.heap.size,0+2,none⟩=some (.string x.fact.1):=g2;have g3':wf.cell? ⟨wr.heap.size,0+3,none⟩=some (.slice xa x.fact.2.length xc):=g3;have g4':wf.cell? ⟨wr.heap.size,0+4,none⟩=some (.string x.text):=g4;have HSt:=hide hst;have HWf:=hide hwf;have HLf:=hide hLf;have HF:=hide hF;clear hst dc hc hx hwf hLf hRf hsx hxs hF hD HPw;obtain⟨Y,hY⟩:∃Y,doP φ d x=Y:=⟨_,rfl⟩;rw[hY] at HDo HSt;clear hY
    go_wp2_with (first|(rw[←HWf.out])|fail)
    refine HDo.out.mono ?_;rintro e w3 ⟨v3,rfl,hA3,⟨tv3,rv3,kv3,nv3,sv3,hD3⟩,hT3⟩;obtain⟨ba,bc,sa,sc,ka',kc',rfl⟩:=hA3.slices;obtain⟨bv',sv',kv',eA,a1,a2,a3⟩:=hA3;simp only[Value.agg.injEq,Array.mk.injEq,List.cons.injEq,true_and,and_true] at eA;obtain⟨rfl,rfl,rfl⟩:=eA;have hz3:=hT3.size;have M4:Tn P wr w3:=(Tn.of_below HLf.out.below).trans hT3;have hown3:Lr.own 64 (P+1) w3 (.slice oa on oc) ans:=Kind.bR HF.out.row M4 (by omega);have RX:∀k,(Value.slice oa on oc).ownBlock=some k→P+1≤k∧k<wr.heap.size:=fun k e=>Kind.eT HF.out.row e;have hm3:∀k,k<w3.heap.size→wf.heap.size≤k→P+1≤k∧(Value.slice oa on oc).ownBlock≠some k:=fun k _ hk=>⟨by omega,fun e=>by have:=(RX k e).2;omega⟩;obtain⟨i,z,i1,i2,i3,i4,i5⟩:=MZ;have hal:=HAl.out;obtain⟨v6,w6,hrun,hO6,hg6,_,hk6⟩:=Kind.rZ (P:=Tryz.prog) (t:=57) hown3 Tryz.underlying57 i1 i2 i3 i4 i5 (by show 0<8;decide) (x:=Y.2) (c:=[.int .i64 Y.2.err,.int .i64 Y.2.place,.int .i64 Y.2.n,.slice ba Y.2.binds.length bc,.string Y.2.prf.fact.1,.slice sa Y.2.prf.fact.2.length sc,.int .i64 Y.2.prf.rule,.slice ka' Y.2.prf.kids.length kc'])
     ⟨_,_,_,rfl,Kind.aH a1 hm3,Kind.aH a2 hm3,Kind.aH a3 hm3⟩ (by omega) (by simp only[maxLen];omega) (by omega)
    obtain⟨a6,n6,c6,rfl⟩:∃a n c,v6=.slice a n c:=by obtain⟨a,c,e⟩:=Kind.bT hO6;exact⟨a,_,c,e⟩
    have hz6:w3.heap.size≤w6.heap.size:=Nat.le_trans (by simp) hg6.size;have hblk:∀k,k<w3.heap.size→(Value.slice oa on oc).ownBlock≠some k→w6.heap[k]?=w3.heap[k]?:=fun k hk hne=>
     (hg6.block k (by simp;omega) (fun e=>hne e.symm)).trans (Below.heap_alloc w3 _ k hk)
    have hnP:∀k,k<P+1→(Value.slice oa on oc).ownBlock≠some k:=fun k hk e=>by have:=(RX k e).1;omega
    have HFin:Hid (M0 w P Y.1 (.slice a6 n6 c6) (ans++[Y.2]) w6):=by
     refine⟨?_,?_,⟨tv3,rv3,kv3,nv3,sv3,?_⟩,hO6⟩
     ·exact⟨hg6.os.trans (M4.os.trans HF.out.below.os),hg6.tape.trans (M4.tape.trans HF.out.below.tape),hg6.output.trans (M4.output.trans HF.out.below.output),by omega,
       fun k hk=>(hblk k (by omega) (hnP k (by omega))).trans ((M4.block k (by omega) (by omega)).trans (HF.out.below.block k hk))⟩
     ·rw[hblk _ (by omega) (hnP _ (by omega)),M4.block _ (by omega) (by omega)];exact HF.out.res
     ·have VX:fH P (fun k=>P<k∧(Value.slice oa on oc).ownBlock≠some k) w3 Y.1 tv3 rv3 kv3 nv3 sv3:=hD3.mono fun k hk hB=>by
       rcases hB with hB|hB
       ·exact hB
       ·exact⟨by omega,(hm3 k hk hB).2⟩
      have hD4:=(VX.mono (B':=fun k=>(P<k∧(Value.slice oa on oc).ownBlock≠some k)∧k<w3.heap.size) fun k hk hB=>⟨hB,hk⟩).kept hz6 (hblk P (by omega) (hnP P (by omega))) fun k hk hB=>hblk k hk hB.1.2;refine hD4.mono fun k _ hB=>⟨hB.1.1,fun e=> ?_⟩;rcases hk6 k e with e|e
      ·exact hB.1.2 e
      ·omega
    have HE1:Hid (ig φ jy l=((ig φ Y.1 (l.drop (j+1))).1,(ans++[Y.2])++(ig φ Y.1 (l.drop (j+1))).2)):=by
     show _=_;rw[HEq.out,HSt.out,List.append_assoc];rfl
    have HRn:=hide hrun;clear hD3 hT3 a1 a2 a3 M4 hown3 RX hm3 hrun hO6 hg6 hk6 hblk hnP HDo HWf HLf HF HSt HEq d0 d1 d2 d3 d4 g0 g1 g2 g3 g4 g1' g2' g3' g4' i1 i2 i3 i4 i5 hBf
    go_wp2_with (at_builtin;refine wpList_append_run rfl (.tmp 19) (.tmp 22) 57 rfl _ _ _ _ rfl rfl HRn.out ?_)
    go_roundg (l.length- (j+1))
    case measure=>omega
    case rel=>exact⟨j+1,by omega,by go_num,Y.1,ans++[Y.2],(by show _=_;rw[List.length_append,hal];rfl),HE1,HFin⟩
   ·have hE:ig φ jy l=(d,ans):=by
     have:=HEq.out;rw[this,List.drop_eq_nil_of_le (by omega)];simp[ig]
    have HX2:Hid (pQ φ l=(d,ans,0)):=by show _=_;rw[HX.out,hE]
    obtain⟨⟨ta,tc,rfl⟩,⟨ra,rc,rfl⟩,⟨xka,xkc,rfl⟩,⟨xna,xnc,rfl⟩,⟨xsa,xsc,rfl⟩⟩:=hD.slices;obtain⟨⟨q0,q1,q2,q3,q4,q5,q6,q7,q8⟩,qfz,_⟩:=jd hD.row;obtain⟨⟨z0,z1,z2,z3,z4,z5,z6,z7,z8⟩,zfz,zlt⟩:=jd hF.res;have HRz:=hide hF.res;have HD:=hide hD;have HB:=hide hF.below;have HO:=hide hF.row;have hal:=HAl.out;clear hE hF hD HEq HPw HX;go_wp2;have hrow:=yT HRz.out (.slice ta d.told.length tc) (.slice ra d.rules.length rc) (.bool d.running) (.slice xka d.run.known.length xkc) (.slice xna d.run.fresh.length xnc) (.int .i64 d.run.level) (.int .i64 d.run.rounds) (.bool d.run.done) (.slice xsa d.saved.length xsc);obtain⟨⟨r0,r1,r2,r3,r4,r5,r6,r7,r8⟩,_,_⟩:=jd hrow;have hTz:=CF wr w.heap.size (.slice ta d.told.length tc) (.slice ra d.rules.length rc) (.bool d.running) (.slice xka d.run.known.length xkc) (.slice xna d.run.fresh.length xnc) (.int .i64 d.run.level) (.int .i64 d.run.rounds) (.bool d.run.done) (.slice xsa d.saved.length xsc);unfold MX at r0 r1 r2 r3 r4 r5 r6 r7 r8 hTz;have hkk:∀k,k<wr.heap.size→(P<k∧(Value.slice oa on oc).ownBlock≠some k)→_:=fun k hk hB=>hTz.block k hk (by omega);have hw:∀k:Nat,(P<k∧(Value.slice oa on oc).ownBlock≠some k)→P≤k:=fun k hB=>by omega
    have hD:=HD.out;exact bodyPost_ret (v:=.tuple #[.agg #[.slice ta d.told.length tc,.slice ra d.rules.length rc,.bool d.running,.slice xka d.run.known.length xkc,.slice xna d.run.fresh.length xnc,.int .i64 d.run.level,.int .i64 d.run.rounds,.bool d.run.done,.slice xsa d.saved.length xsc],.slice oa on oc,.int .i64 0]) (by simp[results,Tryz.results30,go_sem,r0,r1,r2,r3,r4,r5,r6,r7,r8]) rfl
     ⟨_,_,by rw[HX2.out],by
      rw[HX2.out];exact⟨_,_,_,_,_,rfl,(hD.told.kept hTz.size hkk).mono fun k _ hB=>hw k hB,Kind.aH (Kind.aM hD.rules hTz.size hkk) fun k _ hB=>hw k hB,(hD.known.kept hTz.size hkk).mono fun k _ hB=>hw k hB,(hD.fresh.kept hTz.size hkk).mono fun k _ hB=>hw k hB,Kind.aH (Kind.aM hD.saved hTz.size hkk) fun k _ hB=>hw k hB⟩,by
      rw[HX2.out];exact Kind.aH (Kind.iV (Kind.bR HO.out hTz (by omega)) (by rw[hal];omega)) fun k _ hk=>by have:P+1≤k:=hk;show P≤k;omega,HB.out.trans (hTz.below (Nat.le_refl _) HB.out.size)⟩
end Go.Proofs.YtafmbokfkbccaaaGreatDoor
namespace Go.Proofs.YtafmbokfkbccaaaGreatDoor
def M5 {α:Type} (c:α→α→Int) (x:α):List α→List α
 |[]=>[x]
 |y::l=>if c x y≤0 then x::y::l else y::M5 c x l
def mM {α:Type} (c:α→α→Int):List α→List α
 |[]=>[]
 |x::l=>M5 c x (mM c l)
section
variable {α:Type} {c:α→α→Int}
theorem uK (x:α):∀l:List α,(M5 c x l).Perm (x::l)
 |[]=>List.Perm.refl _
 |y::l=>by
  unfold M5;split
  ·exact List.Perm.refl _
  ·exact((uK x l).cons y).trans (List.Perm.swap x y l)
theorem uL:∀l:List α,(mM c l).Perm l
 |[]=>List.Perm.refl _
 |x::l=>(uK x _).trans ((uL l).cons x)
theorem uM (h:Three c) (x:α):∀l:List α,(l.Pairwise fun a b=>c a b≤0)→(M5 c x l).Pairwise fun a b=>c a b≤0
 |[],_=>by simp[M5]
 |y::l,hl=>by
  have hl':=List.pairwise_cons.1 hl;unfold M5;split
  ·rename_i hxy;refine List.pairwise_cons.2 ⟨fun z hz=> ?_,hl⟩;rcases List.mem_cons.1 hz with rfl|hz
   ·exact hxy
   ·exact h.le_trans hxy (hl'.1 z hz)
  ·rename_i hxy;refine List.pairwise_cons.2 ⟨fun z hz=> ?_,uM h x l hl'.2⟩;rcases List.mem_cons.1 ((uK x l).mem_iff.1 hz) with rfl|hz
   ·have:=h.swap z y;omega
   ·exact hl'.1 z hz
theorem pR (h:Three c):∀l:List α,(mM c l).Pairwise fun a b=>c a b≤0
 |[]=>List.Pairwise.nil
 |x::l=>uM h x _ (pR h l)
theorem kR (h:Three c) (l:List α):jI c l=mM c l:=(sK h (uL l) (pR h l)).symm
end
def eS (a b:ByteArray):Int:=if Op.bytesLess a.data.toList b.data.toList then-1 else if a.data.toList==b.data.toList then 0 else 1
def eL:List ByteArray→List ByteArray→Int
 |[],[]=>0
 |[],_::_=> -1
 |_::_,[]=>1
 |a::x,b::y=>if eS a b≠0 then eS a b else eL x y
def eF (f g:au):Int:=if eS f.1 g.1≠0 then eS f.1 g.1 else if vL f.2.length g.2.length≠0 then vL f.2.length g.2.length else eL f.2 g.2
def eB (a b:aD):Int:=if eS a.1 b.1≠0 then eS a.1 b.1 else eS a.2 b.2
theorem M6:jJ=eS:=by funext a b;unfold jJ eS;rw[Lib.toList_data,Lib.toList_data]
theorem RY:cmpL=eL:=by
 funext x y
 induction x generalizing y with
 |nil=>cases y <;> rfl
 |cons a x ih=>cases y with
  |nil=>rfl
  |cons b y=>simp only[cmpL,eL,M6,ih]
theorem PD:gM=eF:=by funext f g;unfold gM eF;rw[M6,RY]
theorem Kn:xX=eB:=by funext a b;unfold xX eB;rw[M6]
def FW (l:List au):List au:=mM eF (fQ l)
theorem qJ (l:List au):dK l=FW l:=by unfold dK FW;rw[kR aU,PD]
def allI (fs:List au) (body:List aF):Option (List (List aD)):=match fF (fun _=>fs) 0 body [[]] with
 |none=>none
 |some ms=>some (mM (sM eB) ((ms.filter fun l=> !barredB (fun _=>fs) 0 body l).map (mM eB)))
theorem M7 (fs:List au) (body:List aF):lX (fun _=>fs) body=allI fs body:=by
 have e1:(kI:List aD→List aD)=mM eB:=by funext l;show jI xX l=_;rw[kR gN,Kn]
 unfold lX allI;cases fF (fun _=>fs) 0 body [[]] with
 |none=>rfl
 |some ms=>
  dsimp only;rw[kR iy,e1,show iY=sM eB from by rw[←Kn]]
def xw (r:aA) (fs:List au):Option (List au):=match allI fs r.body with
 |none=>none
 |some R=>some (FW (R.filterMap fun l=>aV r.head l))
theorem A9 (r:aA) (fs:List au):gH r fs=xw r fs:=by
 unfold gH xw;rw[M7];cases allI fs r.body with
 |none=>rfl
 |some R=>dsimp only;rw[qJ]
def Ba (n:Int) (fs:List au):List aA→List Nat→List au→Int×List au
 |[],_,acc=>(0,FW acc)
 |_::_,[],acc=>(0,FW acc)
 |r::p,s::ss,acc=>if(s:Int)=n then
   match xw r fs with
   |none=>(4,[])
   |some x=>if 200<(FW (acc++x)).length then(5,[]) else Ba n fs p ss (acc++x)
  else Ba n fs p ss acc
theorem yU (n:Int) (fs:List au):∀(p:List aA) (ss:List Nat) (acc:List au),jk n fs p ss acc=Ba n fs p ss acc
 |[],_,acc=>by simp only[jk,Ba,qJ]
 |_::_,[],acc=>by simp only[jk,Ba,qJ]
 |r::p,s::ss,acc=>by
  simp only[jk,Ba];rw[A9];split
  ·cases xw r fs with
   |none=>rfl
   |some x=>
    dsimp only;rw[qJ,yU n fs p ss]
  ·exact yU n fs p ss acc
def Ih (p:List aA) (ss:List Nat) (n:Int):Nat→List au→Int×List au
 |0,l=>(0,l)
 |k+1,l=>match Ba n l p ss l with
  |(e,x)=>if e≠0 then(e,[]) else if x.length=l.length then(0,x) else Ih p ss n k x
theorem DJ (p:List aA) (ss:List Nat) (n:Int):∀(k:Nat) (l:List au),jl p ss n k l=Ih p ss n k l
 |0,l=>rfl
 |k+1,l=>by
  unfold jl Ih fu;rw[yU];obtain⟨e,x,h⟩:∃e x,Ba n l p ss l=(e,x):=⟨_,_,rfl⟩;rw[h];dsimp only;rw[DJ p ss n k x]
def RZ (p:List aA) (ss:List Nat):Nat→Nat→List au→Int×List au
 |0,_,l=>(0,l)
 |c+1,n,l=>match Ih p ss n 201 l with
  |(e,x)=>if e≠0 then(e,[]) else RZ p ss c (n+1) x
theorem M8 (p:List aA) (ss:List Nat):∀(c n:Nat) (l:List au),oV p ss c n l=RZ p ss c n l
 |0,n,l=>rfl
 |c+1,n,l=>by
  unfold oV RZ;rw[DJ];obtain⟨e,x,h⟩:∃e x,Ih p ss n 201 l=(e,x):=⟨_,_,rfl⟩;rw[h];dsimp only;rw[M8 p ss c (n+1) x]
end Go.Proofs.YtafmbokfkbccaaaGreatDoor
namespace Go.Proofs.YtafmbokfkbccaaaGreatDoor
open Go.RowKit Go.Sort
def kb (l:Bs):ByteArray:=⟨l.toArray⟩
def VY : List aA :=
  [⟨⟨false, [116], [(true, [88]), (true, [89])]⟩, [⟨false, [101], [(true, [88]), (true, [89])]⟩]⟩,
   ⟨⟨false, [116], [(true, [88]), (true, [90])]⟩, [⟨false, [116], [(true, [88]), (true, [89])]⟩, ⟨false, [101], [(true, [89]), (true, [90])]⟩]⟩,
   ⟨⟨false, [110], [(true, [88])]⟩, [⟨false, [118], [(true, [88])]⟩, ⟨true, [116], [(false, [97]), (true, [88])]⟩]⟩]
def VZ:List au:=[(kb [101],[kb [97],kb [98]]),(kb [101],[kb [98],kb [99]]),(kb [118],[kb [97]]),(kb [118],[kb [99]])]
def Xm:List au:=[(kb [101],[kb [97],kb [98]]),(kb [101],[kb [98],kb [99]]),(kb [110],[kb [97]]),(kb [116],[kb [97],kb [98]]),(kb [116],[kb [97],kb [99]]),(kb [116],[kb [98],kb [99]]),(kb [118],[kb [97]]),(kb [118],[kb [99]])]
def Xn:Bs:=[116,40,88,44,89,41,32,58,45,32,101,40,88,44,89,41,46,32,116,40,88,44,90,41,32,58,45,32,116,40,88,44,89,41,44,32,101,40,89,44,90,41,46,32,110,40,88,41,32,58,45,32,118,40,88,41,44,32,33,116,40,97,44,88,41,46]
end Go.Proofs.YtafmbokfkbccaaaGreatDoor
namespace Go.Proofs.YtafmbokfkbccaaaGreatDoor
open Go.RowKit Go.Sort Go.Maps
def gQ:List aA:=[⟨⟨false,[98],[(true,[88])]⟩,[⟨false,[97],[(true,[88])]⟩]⟩]
def fZ:List au:=[(kb [97],[kb [113]])]
def Ls:List au:=[(kb [97],[kb [113]]),(kb [98],[kb [113]])]
def Qu:Bs:=[98,40,88,41,32,58,45,32,97,40,88,41,46]
theorem Ii:bB Qu=(gQ,0,0):=by kernel_rfl
theorem qK:aG gQ=([0],0,0):=by kernel_rfl
theorem Ko:Up fZ:=by show List.Pairwise _ _;rw[PD];decide+kernel
theorem uN:∀f∈fZ,fA f=0:=by decide+kernel
theorem Ij:∀f∈fZ,zH gQ f=true:=by decide+kernel
theorem Fh:GoodS gQ fZ:=⟨Ko,fun f hf=>j4.1 (uN f hf),by decide,Ij⟩
end Go.Proofs.YtafmbokfkbccaaaGreatDoor
