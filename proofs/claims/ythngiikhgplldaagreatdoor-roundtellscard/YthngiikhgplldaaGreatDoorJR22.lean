import Derived.Test.YthngiikhgplldaaGreatDoorJR21
import Derived.Test.YthngiikhgplldaaGreatDoorJR16
import Derived.Test.YthngiikhgplldaaGreatDoorJR4
import Derived.BigQuiet
import Derived.Laws.Cover3
import Derived.Test.YthngiikhgplldaaGreatDoorJR13
import Derived.Test.YthngiikhgplldaaGreatDoorJR8
open Go.RowKit Go.Sort Go.Maps
set_option maxHeartbeats 2000000
set_option maxRecDepth 100000
namespace Go.Proofs.YthngiikhgplldaaGreatDoor
def JI (w:World) (v:Value) (er:Int) (pick:Nat→List aF) (body:List aJ):Option (List (List aI))→Prop
 |none=>v=.slice none 0 0∧er=4
 |some ms=>er=0∧(mM 20).sl bT w v (ms.filter fun l=> !barredB pick 0 body l)
theorem nJ {t:dM} (h:aW t=false):t.2.length≤12:=by
 unfold aW at h;split at h;·simp only[Bool.not_eq_false'] at h;unfold isVar at h;simp only[Bool.and_eq_true,decide_eq_true_eq] at h;exact h.1.1
 simp only[Bool.not_eq_false'] at h;unfold isNamed at h;simp only[Bool.and_eq_true,decide_eq_true_eq] at h;exact h.1.1
theorem rO {fs:List aG} (h:(aR fs).1=0):fs.length≤200∧∀f∈fs,∀s∈f.2,s.size≤maxLen:=by obtain⟨h1,_,h3⟩:=set_right h;refine⟨h1,fun f hf s hs=>?_⟩;have h4:=h3 f hf;have h5:isNamed (raw s)=true:=(iP.1 h4).2.2 s hs;unfold isNamed at h5;simp only[Bool.and_eq_true,decide_eq_true_eq] at h5;have:=h5.1.1;rw[bK] at this;unfold maxLen;omega
theorem H7 (body:List aJ) (facts other:List aG) (at_:Int) (bv fv ov:Value) (w:World) (hb:dY.sl bT w bv body) (hf:Facts w fv facts) (ho:Facts w ov other) (hw:aM body=0) (hfs:(aR facts).1=0) (hos:(aR other).1=0):
  Calls Tryz.prog 23 #[bv,fv,.int .i64 at_,ov] w fun e w'=>∃v er,e=.returned (.tuple #[v,.int .i64 er])∧JI w' v er (bW facts at_ other) body (eu (bW facts at_ other) 0 body [[]])∧Below w.heap.size w w':=by
 obtain⟨ba,bc,rfl⟩:=aB.slice hb;obtain⟨fa,fc,rfl⟩:=aC hf;obtain⟨oa,oc,rfl⟩:=aC ho;obtain⟨h5,hat⟩:=jl hw;obtain⟨hfl,hfS⟩:=rO hfs;obtain⟨hol,hoS⟩:=rO hos;have hpl:∀n,(bW facts at_ other n).length≤200:=fun n=>by unfold bW;split <;> assumption
 have hpS:∀n,∀f∈bW facts at_ other n,∀s∈f.2,s.size≤maxLen:=fun n f=>by unfold bW;split;exact hoS f;exact hfS f
 obtain⟨wb,hwb⟩:∃wb,wb=((w.alloc (.cells #[.slice fa facts.length fc] 24)).alloc (.cells #[.int .i64 at_] 3)).alloc (.cells #[.slice oa other.length oc] 24):=⟨_,rfl⟩;have hLb:aj w wb:=by rw[hwb];exact(((aj.refl w).alloc _).alloc _).alloc _
 have hsb:wb.heap.size=w.heap.size+3:=by rw[hwb];simp
 have hr0:wb.heap[w.heap.size]?=some (.cells #[.slice fa facts.length fc] 24 (0,0)):=by
  rw[hwb];simp only[fT,World.size_alloc]
  repeat (first|rw[if_pos trivial]|rw[if_pos (by omega)]|rw[if_neg (by omega)])
 have hr1:wb.heap[w.heap.size+1]?=some (.cells #[.int .i64 at_] 3 (0,0)):=by
  rw[hwb];simp only[fT,World.size_alloc]
  repeat (first|rw[if_pos trivial]|rw[if_pos (by omega)]|rw[if_neg (by omega)])
 have hr2:wb.heap[w.heap.size+2]?=some (.cells #[.slice oa other.length oc] 24 (0,0)):=by
  rw[hwb];simp only[fT,World.size_alloc]
  repeat (first|rw[if_pos trivial]|rw[if_pos (by omega)]|rw[if_neg (by omega)])
 have HPk:Hid (∀(i:Nat),∃a c,∀(w':World),Below wb.heap.size wb w'→Calls Tryz.prog 42 #[.int .i64 (i:Int),.pointer (some ⟨w.heap.size+1,0,none⟩),.pointer (some ⟨w.heap.size+2,0,none⟩),.pointer (some ⟨w.heap.size,0,none⟩)] w' (fun e w''=>e=.returned (.slice a (bW facts at_ other i).length c)∧w''=w')∧Facts w' (.slice a (bW facts at_ other i).length c) (bW facts at_ other i)):=fun i=>by
  have key:∀w',Below wb.heap.size wb w'→Calls Tryz.prog 42 #[.int .i64 (i:Int),.pointer (some ⟨w.heap.size+1,0,none⟩),.pointer (some ⟨w.heap.size+2,0,none⟩),.pointer (some ⟨w.heap.size,0,none⟩)] w' (fun e w''=>e=.returned (if(i:Int)=at_ then .slice oa other.length oc else .slice fa facts.length fc)∧w''=w'):=fun w' hB=>by
   have k0:w'.cell? ⟨w.heap.size,0,none⟩=some (.slice fa facts.length fc):=by rw[hB.cell (p:=⟨w.heap.size,0,none⟩) (by show w.heap.size<_;omega),cell_of_row _ _ _ _ _ _ hr0];rfl
   have k1:w'.cell? ⟨w.heap.size+1,0,none⟩=some (.int .i64 at_):=by rw[hB.cell (p:=⟨w.heap.size+1,0,none⟩) (by show w.heap.size+1<_;omega),cell_of_row _ _ _ _ _ _ hr1];rfl
   have k2:w'.cell? ⟨w.heap.size+2,0,none⟩=some (.slice oa other.length oc):=by rw[hB.cell (p:=⟨w.heap.size+2,0,none⟩) (by show w.heap.size+2<_;omega),cell_of_row _ _ _ _ _ _ hr2];rfl
   exact JF w.heap.size (i:Int) at_ fa oa facts.length fc other.length oc w' k0 k1 k2
  unfold bW
  by_cases h:(i:Int)=at_
  ·simp only[h,if_true] at key⊢;exact⟨oa,oc,fun w' hB=>⟨key w' hB,(ho.later hLb).below hB⟩⟩
  simp only[h,if_false] at key⊢;exact⟨fa,fc,fun w' hB=>⟨key w' hB,(hf.later hLb).below hB⟩⟩
 have HBd:=au (aB.aS hb hLb);have HAt:=au hat;have HPl:=au hpl;have HPS:=au hpS;have HLb:=au hLb;have hmm:= @run_makeMap Tryz.prog;have hmf:∀(fn:Fn) (first cap:Array Value) (w:World),(Instr.makeFunc fn first cap).run Tryz.prog w=.ok (.func fn first cap) w:=fun _ _ _ _=>rfl;have L9:=au (vg hw);obtain⟨w1,hw1⟩:∃w1,w1=(wb.alloc (.map #[] 0)).alloc (.cells #[.map (some (w.heap.size+3))] 76):=⟨_,rfl⟩;have hE0:(mM (4*0)).sl (From wb.heap.size) w1 (.slice (some ⟨w.heap.size+4,0,none⟩) 1 1) [[]]:=by have he:=kI.made wb;rw[hsb] at he;have h1:(mM (4*0)).is (From wb.heap.size) (wb.alloc (.map #[] 0)) [.map (some (w.heap.size+3))] []:=⟨_,rfl,by show wb.heap.size≤_;omega,he⟩;have:=aB.Ba (ty:=76) (lo:=wb.heap.size) h1 (by simp);have h2:=aB.gQ this (by simp);rw[World.size_alloc] at h2;rw[hw1,show w.heap.size+4=wb.heap.size+1 by omega];exact h2
 have hB1:Below wb.heap.size wb w1:=by rw[hw1];exact(((aj.refl wb).alloc _).alloc _).below
 have HE0:=au hE0;have HB1:=au hB1;rw[hwb] at hw1;have HW1:=au hw1;generalize hM:eu (bW facts at_ other) 0 body [[]]=M at*;have HM:Hid (M=eu (bW facts at_ other) 0 (body.drop 0) [[]]):=hM.symm;have HM0:Hid (M=eu (bW facts at_ other) 0 body [[]]):=hM.symm;generalize bW facts at_ other=pick at*;clear hb hf ho hw hfs hos hat hfl hfS hol hoS hpl hpS hwb hLb hr0 hr1 hr2 hE0 hB1 hw1 hM
 go_enter Tryz.func23,Tryz.ntmps23
 go_wp2;rw[←HW1.out]
 go_loopg [10,33] body.length (fun g v10 i wr=>∃j:Nat,j+g=body.length∧i=.int .i64 j∧∃ms:List (List aI),Hid ((mM (4*j)).sl (From wb.heap.size) wr v10 ms)∧ms.length≤20000∧Hid (M=eu pick j (body.drop j) ms)∧Hid (Below wb.heap.size wb wr))
 case atStart=>exact⟨0,by omega,rfl,[[]],HE0,by simp,HM,HB1⟩
 clear HE0 HM HB1 HW1;obtain⟨j,hj,rfl,ms,HEs,hml,HM,HBr⟩:=hrel;obtain⟨ea,ec,hev⟩:=aB.slice HEs.out;subst hev
 by_cases hlt:j<body.length
 ·obtain⟨a,ha⟩:∃a,body[j]?=some a:=⟨_,List.getElem?_eq_getElem hlt⟩;have ham:=List.mem_of_getElem? ha;obtain⟨hz1,hz2,hz3⟩:=j3 (HAt.out a ham);obtain⟨b1,o1,_,rfl,hb1,⟨tv,rfl,htv⟩,hc⟩:=aB.bR HBd.out ha;have d0:wr.cell? ⟨b1,o1+j*3,none⟩=some (.bool a.no):=by rw[HBr.out.cell (p:=⟨b1,o1+j*3,none⟩) hb1];exact hc 0 _ rfl
  have d1:wr.cell? ⟨b1,o1+j*3+1,none⟩=some (.string (bs a.name)):=by rw[HBr.out.cell (p:=⟨b1,o1+j*3+1,none⟩) hb1];exact hc 1 _ rfl
  have d2:wr.cell? ⟨b1,o1+j*3+2,none⟩=some tv:=by rw[HBr.out.cell (p:=⟨b1,o1+j*3+2,none⟩) hb1];exact hc 2 _ rfl
  obtain⟨ta,tc,rfl⟩:=aB.slice htv;have hbr:b1<wr.heap.size:=Nat.lt_of_lt_of_le hb1 HBr.out.size;obtain⟨wa,hwa⟩:∃wa,wa=wr.alloc (.cells #[.bool a.no,.string (bs a.name),.slice ta a.terms.length tc] 54):=⟨_,rfl⟩;have hLa:aj wr wa:=by rw[hwa];exact(aj.refl _).alloc _
  have hra:wa.heap[wr.heap.size]?=some (.cells #[.bool a.no,.string (bs a.name),.slice ta a.terms.length tc] 54 (0,0)):=by rw[hwa];exact heap_alloc_new wr _
  have hsa:wa.heap.size=wr.heap.size+1:=by rw[hwa];simp
  have hBa:Below wb.heap.size wb wa:=ak HBr.out hLa.below HBr.out.size;have hstep:=zR (pick:=pick) (ms:=ms) ha;rw[←HM.out] at hstep;have HTa:=au (aB.aO htv hBa);have HEa:=au (aB.fE HEs.out hLa.size fun k hk _=>hLa.block hk);have HRa:=au hra;have HBa:=au hBa;have HWa:=au hwa;have HTs:Hid (∀t∈a.terms,t.2.length≤maxLen):=fun t ht=>by have:=nJ (hz3 t ht);unfold maxLen;omega
  clear hc ha ham hz1 hz3 htv hwa hLa hra hBa;cases hno:a.no
  ·rw[hno] at hstep d0;rw[hno] at HRa HWa;simp only[Bool.false_eq_true,if_false] at hstep;have tX:=au hstep;obtain⟨pa,pc,hPk⟩:=HPk.out j;have HPj:=au hPk;have hpl:=HPl.out j;have hps:=HPS.out j;have Md:=au hps;clear hstep hPk hps;generalize hnm:bs a.name=nm at*;have HNm:=au hnm;clear hnm;go_wp2;rw[←HWa.out];clear HWa d0 d1 d2 HEs HBr hbr hb1;generalize hA:wr.heap.size=A at*;clear hA
   go_loopg [14,42] ms.length (fun g o i wr2=>∃p:Nat,p+g=ms.length∧i=.int .i64 p∧Hid ((mM (4*j+4)).own 76 wa.heap.size wr2 o (aQ a (pick j) (ms.take p)))∧Hid (Below wa.heap.size wa wr2))
   case atStart=>exact⟨0,by omega,rfl,aB.gX _ _ _ _,Below.refl _ _⟩
   obtain⟨p,hp,rfl,HO,HB2⟩:=hrel;obtain⟨oa',on',oc',hov⟩:∃a n c,u14=.slice a n c:=by obtain⟨a,c,e⟩:=aB.bI HO.out;exact⟨a,_,c,e⟩
   subst hov
   by_cases hlp:p<ms.length
   ·obtain⟨l,hl⟩:∃l,ms[p]?=some l:=⟨_,List.getElem?_eq_getElem hlp⟩;obtain⟨b3,o3,_,e3,hb3,⟨bl,rfl,_,hel⟩,hc3⟩:=aB.bR HEa.out hl;subst e3;have d3:wr.cell? ⟨b3,o3+p,none⟩=some (.map (some bl)):=by rw[HB2.out.cell (p:=⟨b3,o3+p,none⟩) hb3];simpa[mM] using hc3 0 _ rfl
    have BM:=ak HBa.out HB2.out HBa.out.size;obtain⟨hPc,_⟩:=HPj.out wr BM;have HPc:=au hPc;have HEl:=au hel;have HTk:=au (vW (a:=a) (fs:=pick j) hl);have M7:(aQ a (pick j) (ms.take p)).length≤200*p:=by have:=lC (a:=a) hpl (ms.take p);rw[List.length_take] at this;omega
    clear hc3 hl hel hPc BM
    go_wp2_with fail
    refine HPc.out.mono ?_;rintro e w3 ⟨rfl,rfl⟩;clear HPc;go_wp2
    go_loopg [14,50] (pick j).length (fun g o i wr3=>∃q:Nat,q+g=(pick j).length∧i=.int .i64 q∧Hid ((mM (4*j+4)).own 76 wa.heap.size wr3 o (aQ a (pick j) (ms.take p)++((pick j).take q).filterMap fun f=>fA a f l))∧Hid (Below wa.heap.size wa wr3))
    case atStart=>exact⟨0,by omega,rfl,(by show(mM _).own _ _ _ _ _;simpa using HO.out),HB2⟩
    clear HO HB2 d3;obtain⟨q,hq,rfl,HO,HB3⟩:=hrel;obtain⟨oa2,on2,oc2,hov⟩:∃a n c,u14=.slice a n c:=by obtain⟨a,c,e⟩:=aB.bI HO.out;exact⟨a,_,c,e⟩
    subst hov
    by_cases hlq:q<(pick j).length
    ·have DR:=ak HBa.out HB3.out HBa.out.size;obtain⟨_,hPF⟩:=HPj.out wr DR;obtain⟨a',cap',e',_,hz⟩:=hPF.addr
     injection e' with e1 e2 e3
     subst e1;subst e3;rcases hz with hz|⟨b4,o4,rfl⟩
     ·rw[hz] at hlq;simp at hlq
     obtain⟨hb4,ax,lx,cx,g1,g2,fx⟩:=hPF.at hlq;obtain⟨f,hfq⟩:∃f,(pick j)[q]?=some f:=⟨_,List.getElem?_eq_getElem hlq⟩;have hgd:(pick j).getD q aA=f:=by rw[List.getD_eq_getElem?_getD,hfq];rfl
     rw[hgd] at g1 fx;have HFl:=au (Md.out f (List.mem_of_getElem? hfq));have HFk:=au (kV (g:=fun f=>fA a f l) hfq);have M8:(((pick j).take q).filterMap fun f=>fA a f l).length≤q:=by have:=List.length_filterMap_le (fun f=>fA a f l) ((pick j).take q);rw[List.length_take] at this;omega
     have hrow:wr.heap[A]?=some (.cells #[.bool false,.string nm,.slice ta a.terms.length tc] 54 (0,0)):=by rw[HB3.out.block _ (by omega)];exact HRa.out
     obtain⟨wf,hwf⟩:∃wf,wf=wr.alloc (.cells #[.string f.1,.slice ax lx cx] 50):=⟨_,rfl⟩;have hLf:aj wr wf:=by rw[hwf];exact(aj.refl _).alloc _
     have hsf:wf.heap.size=wr.heap.size+1:=by rw[hwf];simp
     have hwal:A<wr.heap.size:=by have:=HB3.out.size;omega
     have hBf:=ak HB3.out hLf.below HB3.out.size;have hrt:=LQ a f l bl (4*j) 4 (.slice ta a.terms.length tc) (.agg #[.string f.1,.slice ax lx cx]) wf (aB.aO HTa.out hBf) (fx.later hLf) (HEl.out.block (hBf.block bl HEl.out.lt)) hz2 (by omega) HTs.out HFl.out;rw[hno,HNm.out] at hrt;have HRT:=au hrt;have k0:wr.cell? ⟨A,0,none⟩=some (.bool false):=by rw[cell_of_row _ _ _ _ _ _ hrow];rfl
     have k1:wr.cell? ⟨A,0+1,none⟩=some (.string nm):=by rw[cell_of_row _ _ _ _ _ _ hrow];rfl
     have k2:wr.cell? ⟨A,0+2,none⟩=some (.slice ta a.terms.length tc):=by rw[cell_of_row _ _ _ _ _ _ hrow];rfl
     have HWf:=au hwf;have HBf:=au hBf;have HOf:=au (aB.fQ HO.out (by omega:wr.heap.size≤wf.heap.size) fun k hk _=>hLf.block hk);clear hPF hgd hfq hrow hwf hLf hrt fx hBf DR HO
     go_wp2_with fail
     rw[←HWf.out];refine HRT.out.mono ?_;rintro e w6 ⟨hT6,hB6⟩;have HB6:=au (ak HBf.out hB6 HBf.out.size);have HO6:=au (aB.fQ HOf.out hB6.size fun k hk _=>hB6.block k hk);have hs6:=hB6.size;clear HRT hB6 HOf HBf HWf k0 k1 k2;cases hm:fA a f l with
     |none=>
      rw[hm] at hT6;have he:e=.returned (.map none):=hT6;subst he;have HO7:Hid ((mM (4*j+4)).own 76 wa.heap.size w6 (.slice oa2 on2 oc2) (aQ a (pick j) (ms.take p)++((pick j).take (q+1)).filterMap fun f=>fA a f l)):=by show(mM _).own _ _ _ _ _;rw[HFk.out,hm];simpa using HO6.out
      have hnq:∀w:World,(binOp .neq 76 (.map none) (.map none)).run Tryz.prog w=.ok (.bool false) w:=fun w=>run_neq_map_nil w 76 9 9 none Tryz.underlying76;clear hm hT6 HO6 HFk;go_wp2
      go_roundg ((pick j).length- (q+1))
      case measure=>omega
      case rel=>exact⟨q+1,by omega,by go_num,HO7,HB6⟩
     |some l'=>
      rw[hm] at hT6;obtain⟨b6,he,hb6,hE6⟩:=hT6;subst he;obtain⟨v',w7,hrun,hO7,hg7,hd7,_⟩:=vV HO6.out hE6 (by have:=HB3.out.size;omega) (by rw[List.length_append];omega) HB6.out.size;have hlo:∀k,(Value.slice oa2 on2 oc2).ownBlock=some k→wa.heap.size≤k:=fun k e=>(aB.dV HO6.out e).1;have hB7:Below wa.heap.size wa w7:=(ak HB6.out ((aj.refl w6).alloc _).below HB6.out.size).grown hg7 (by have:=HB6.out.size;simp;omega) (fun k e=>hlo k e);have HO7:Hid ((mM (4*j+4)).own 76 wa.heap.size w7 v' (aQ a (pick j) (ms.take p)++((pick j).take (q+1)).filterMap fun f=>fA a f l)):=by show(mM _).own _ _ _ _ _;rw[HFk.out,hm,←List.append_assoc];exact hO7
      obtain⟨a7,n7,c7,rfl⟩:∃a n c,v'=.slice a n c:=by obtain⟨a,c,e⟩:=aB.bI hO7;exact⟨a,_,c,e⟩
      have HRn:=au hrun;have hnq:∀w:World,(binOp .neq 76 (.map (some b6)) (.map none)).run Tryz.prog w=.ok (.bool true) w:=fun w=>run_neq_map_nil w 76 9 9 (some b6) Tryz.underlying76;have HB7:=au hB7;clear hm hE6 hrun hO7 hg7 hd7 hlo hB7 HO6 HFk HB6
      go_wp2_with (at_builtin;refine wpList_append_run rfl (.tmp 60) (.tmp 62) 58 rfl _ _ _ _ rfl rfl HRn.out ?_)
      go_roundg ((pick j).length- (q+1))
      case measure=>omega
      case rel=>exact⟨q+1,by omega,by go_num,HO7,HB7⟩
    have hq':(pick j).take q=pick j:=List.take_of_length_le (by omega);have HO7:Hid ((mM (4*j+4)).own 76 wa.heap.size wr (.slice oa2 on2 oc2) (aQ a (pick j) (ms.take (p+1)))):=by have h:=HO.out;show(mM _).own _ _ _ _ _;rw[hq'] at h;rw[HTk.out];exact h
    clear hq' HO;go_wp2
    go_roundg (ms.length- (p+1))
    case measure=>omega
    case rel=>exact⟨p+1,by omega,by go_num,HO7,HB3⟩
   have hp':ms.take p=ms:=List.take_of_length_le (by omega);have hO:=HO.out;rw[hp'] at hO;have hon:on'=(aQ a (pick j) ms).length:=by
    obtain⟨a,c,e⟩:=aB.bI hO
    injection e
   have hBb:=ak HBa.out HB2.out HBa.out.size;have M9:(aQ a (pick j) ms).length≤4000000:=by have:=lC (a:=a) hpl ms;omega
   by_cases hbig:20000<(aQ a (pick j) ms).length
   ·have hst:=tX.out;rw[if_pos hbig] at hst;have HN:Hid (M=none):=hst;have hbz:(20000:Int)<(on':Int):=by omega
    have HBb:=au (ak HLb.out.below hBb HLb.out.size);clear hst hO hBb HO hp' tX hon;go_wp2;exact bodyPost_ret (v:=.tuple #[.slice none 0 0,.int .i64 4]) (by simp[results,Tryz.results23,go_sem]) rfl ⟨_,4,rfl,by rw[HN.out];exact⟨rfl,rfl⟩,HBb.out⟩
   have hst:=tX.out;rw[if_neg hbig] at hst;have HM':=au hst;have hbz:¬(20000:Int)<(on':Int):=by omega
   have hsl:=aB.gQ hO (by omega);have HE':Hid ((mM (4*(j+1))).sl (From wb.heap.size) wr (.slice oa' on' oc') (aQ a (pick j) ms)):=by have h:=aB.dX hsl (B':=From wb.heap.size) fun k _ (hk:wa.heap.size≤k)=>(by have:=HBa.out.size;show wb.heap.size≤k;omega);rw[show 4*(j+1)=4*j+4 by omega];exact h
   have HB':=au hBb;clear hst hO hsl hBb HO hp' tX hon;go_wp2
   go_roundg (body.length- (j+1))
   case measure=>omega
   case rel=>exact⟨j+1,by omega,by go_num,_,HE',by omega,HM',HB'⟩
  rw[hno] at hstep d0;rw[hno] at HRa HWa;simp only[if_true] at hstep;have HM':=au hstep;have HE':Hid ((mM (4*(j+1))).sl (From wb.heap.size) wa (.slice ea ms.length ec) ms):=vT HEa.out (by omega);rw[HWa.out] at HE';have HB':=HBa;rw[HWa.out] at HB';clear hstep HEa HRa HTa HTs;generalize bs a.name=nm at*;go_wp2
  go_roundg (body.length- (j+1))
  case measure=>omega
  case rel=>exact⟨j+1,by omega,by go_num,ms,HE',hml,HM',HB'⟩
 have hm:=HM.out;rw[List.drop_eq_nil_of_le (by omega)] at hm;have HMs:Hid (M=some ms):=hm;have hj5:4*j≤20:=by omega
 have HE5:=au (vT HEs.out hj5);have JJ:Hid (∀l∈ms,∀a∈body,∃f,bf a l=some f):=fun l hl a ha=>by have hk:=((mU pick body 0 [[]] ms [] (fun x hx=>by simp at hx;subst hx;rfl) (by rw[←HM0.out];exact hm) l).1 hl).2.1;exact qQ fun t ht htv=>by rw[hk];exact fJ.2 (L9.out a ha t ht htv)
 clear hm HM HEs hj5;obtain⟨w5,hw5⟩:∃w5,w5=wr:=⟨_,rfl⟩;rw[←hw5] at HE5 HBr⊢;clear hw5;go_wp2
 go_loopg [20,73] ms.length (fun g o i wr=>∃p:Nat,p+g=ms.length∧i=.int .i64 p∧Hid ((mM 20).own 76 wb.heap.size wr o ((ms.take p).filter fun l=> !barredB pick 0 body l))∧Hid (∀k,o.ownBlock=some k→w5.heap.size≤k)∧Hid (Below w5.heap.size w5 wr))
 case atStart=>exact⟨0,by omega,rfl,aB.gX _ _ _ _,(fun k e=>by cases e),Below.refl _ _⟩
 obtain⟨p,hp,rfl,HO,HOk,HB5⟩:=hrel;obtain⟨oa',on',oc',hov⟩:∃a n c,u20=.slice a n c:=by obtain⟨a,c,e⟩:=aB.bI HO.out;exact⟨a,_,c,e⟩
 subst hov
 by_cases hlp:p<ms.length
 ·obtain⟨l,hl⟩:∃l,ms[p]?=some l:=⟨_,List.getElem?_eq_getElem hlp⟩;obtain⟨b3,o3,_,e3,hb3,⟨bl,rfl,Me,hel⟩,hc3⟩:=aB.bR HE5.out hl;subst e3;have d3:wr.cell? ⟨b3,o3+p,none⟩=some (.map (some bl)):=by rw[HB5.out.cell (p:=⟨b3,o3+p,none⟩) hb3];simpa[mM] using hc3 0 _ rfl
  have HEl:=au (hel.block (HB5.out.block bl hel.lt));have HFl:=au (JJ.out l (List.mem_of_getElem? hl));have htk:ms.take (p+1)=ms.take p++[l]:=by rw[List.take_add_one,hl];rfl
  have HTk:=au htk;have JK:((ms.take p).filter fun l=> !barredB pick 0 body l).length≤p:=by have:=List.length_filter_le (fun l=> !barredB pick 0 body l) (ms.take p);rw[List.length_take] at this;omega
  clear hc3 hl hel htk;obtain⟨wx,hwx⟩:∃wx,wx=wr:=⟨_,rfl⟩;rw[←hwx] at HO HB5 d3 HEl⊢;clear hwx;go_wp2
  go_loopg [23,79] body.length (fun g q i wr2=>∃t:Nat,t+g=body.length∧i=.int .i64 t∧q=.bool (!barredB pick 0 (body.take t) l)∧Hid (Below wx.heap.size wx wr2))
  case atStart=>exact⟨0,by omega,rfl,rfl,Below.refl _ _⟩
  clear d3;obtain⟨t,ht,rfl,rfl,HBx⟩:=hrel;have H8:=ak HB5.out HBx.out HB5.out.size;have DT:=ak HBr.out H8 HBr.out.size
  by_cases JL:t<body.length
  ·obtain⟨a,ha⟩:∃a,body[t]?=some a:=⟨_,List.getElem?_eq_getElem JL⟩;have ham:=List.mem_of_getElem? ha;obtain⟨hz1,hz2,hz3⟩:=j3 (HAt.out a ham);obtain⟨f,hfa⟩:=HFl.out a ham;have hbt:=pI (pick:=pick) (l:=l) body 0 t ha;rw[hfa,Nat.zero_add] at hbt;dsimp only at hbt;obtain⟨b1,o1,_,rfl,hb1,⟨tv,rfl,htv⟩,hc⟩:=aB.bR HBd.out ha;have d0:wr.cell? ⟨b1,o1+t*3,none⟩=some (.bool a.no):=by rw[DT.cell (p:=⟨b1,o1+t*3,none⟩) hb1];exact hc 0 _ rfl
   have d1:wr.cell? ⟨b1,o1+t*3+1,none⟩=some (.string (bs a.name)):=by rw[DT.cell (p:=⟨b1,o1+t*3+1,none⟩) hb1];exact hc 1 _ rfl
   have d2:wr.cell? ⟨b1,o1+t*3+2,none⟩=some tv:=by rw[DT.cell (p:=⟨b1,o1+t*3+2,none⟩) hb1];exact hc 2 _ rfl
   obtain⟨ta,tc,rfl⟩:=aB.slice htv;have hbr:b1<wr.heap.size:=Nat.lt_of_lt_of_le hb1 DT.size;obtain⟨wa,hwa⟩:∃wa,wa=wr.alloc (.cells #[.bool a.no,.string (bs a.name),.slice ta a.terms.length tc] 54):=⟨_,rfl⟩;have hLa:aj wr wa:=by rw[hwa];exact(aj.refl _).alloc _
   have JM:=ak HBx.out hLa.below HBx.out.size;have FI:=au JM;have HWa:=au hwa;have HTm:Hid (∀t∈a.terms,t.2.length≤maxLen):=fun t ht=>by have:=nJ (hz3 t ht);unfold maxLen;omega
   have HBn:=au hbt;have hRF:=Ey a (.slice ta a.terms.length tc) l bl 20 wa (aB.aO htv (ak DT hLa.below DT.size)) (HEl.out.block (JM.block bl HEl.out.lt)) HTm.out;unfold filled at hRF;rw[hfa] at hRF;have HRF:=au hRF;clear hc ha ham hz1 hz2 hz3 htv hwa hLa JM hbt hRF hfa;generalize bs a.name=nm at*;cases hno:a.no
   ·have HQ:Hid ((!barredB pick 0 (body.take (t+1)) l)= !barredB pick 0 (body.take t) l):=by show _=_;rw[HBn.out,hno];simp
    rw[hno] at d0 HWa;rw[HWa.out] at FI;clear HBn HRF;go_wp2
    go_roundg (body.length- (t+1))
    case measure=>omega
    case rel=>exact⟨t+1,by omega,by go_num,by rw[HQ.out],FI⟩
   cases hq:barredB pick 0 (body.take t) l
   ·have HQ:Hid ((!barredB pick 0 (body.take (t+1)) l)= !inB (pick t) f):=by show _=_;rw[HBn.out,hq,hno];simp
    rw[hno] at d0 HWa;have JN:=HRF;rw[hno] at JN;obtain⟨pa,pc,hPk⟩:=HPk.out t;have HPj:=au hPk;have Nb:=au DT;have H9:=au H8;clear HBn HRF hPk DT H8 hq
    go_wp2_with fail
    rw[←HWa.out];refine JN.out.mono ?_;rintro e w6 ⟨v6,rfl,hfv,hL6⟩;simp only[Option.isSome_some,Option.getD_some] at hfv⊢;have Ia:=hfv;obtain⟨s6,rfl,hs6⟩:=hfv;obtain⟨sA,sC,rfl⟩:=bP hs6;obtain⟨wz,hwz⟩:∃wz,wz=w6.alloc (.cells #[.string f.1,.slice sA f.2.length sC] 50):=⟨_,rfl⟩;have hLz:aj w6 wz:=by rw[hwz];exact(aj.refl _).alloc _
    have hrz:wz.heap[w6.heap.size]?=some (.cells #[.string f.1,.slice sA f.2.length sC] 50 (0,0)):=by rw[hwz];exact heap_alloc_new w6 _
    have hltz:w6.heap.size<wz.heap.size:=(Array.getElem?_eq_some_iff.1 hrz).1;have hBz:Below wx.heap.size wx wz:=ak FI.out (hL6.trans hLz).below FI.out.size;have Ib:Below wb.heap.size wb wz:=ak HBr.out (ak HB5.out hBz HB5.out.size) HBr.out.size;have HCz:Hid (∀w',aj wz w'→w'.cell? ⟨w6.heap.size,0,none⟩=some (.string f.1)∧w'.cell? ⟨w6.heap.size,0+1,none⟩=some (.slice sA f.2.length sC)):=fun w' hL=>
     ⟨by rw[hL.cell (p:=⟨w6.heap.size,0,none⟩) hltz,cell_of_row _ _ _ _ _ _ hrz];rfl,by rw[hL.cell (p:=⟨w6.heap.size,0+1,none⟩) hltz,cell_of_row _ _ _ _ _ _ hrz];rfl⟩
    have HPz:Hid (∀w',aj wz w'→Calls Tryz.prog 42 #[.int .i64 (t:Int),.pointer (some ⟨w.heap.size+1,0,none⟩),.pointer (some ⟨w.heap.size+2,0,none⟩),.pointer (some ⟨w.heap.size,0,none⟩)] w' (fun e w''=>e=.returned (.slice pa (pick t).length pc)∧w''=w')):=fun w' hL=>(HPj.out w' (ak Ib hL.below Ib.size)).1;have HIz:Hid (∀w',aj wz w'→Calls Tryz.prog 22 #[.slice pa (pick t).length pc,.agg #[.string f.1,.slice sA f.2.length sC]] w' fun e w''=>e=.returned (.bool (inB (pick t) f))∧aj w' w''):=fun w' hL=>by have:=rIn (.slice pa (pick t).length pc) (.agg #[.string f.1,.slice sA f.2.length sC]) (pick t) f w' (HPj.out w' (ak Ib hL.below Ib.size)).2 ((Ia.later hLz).later hL);rw[Fx] at this;exact this
    have HBz:=au hBz;have HWz:=au hwz;clear hs6 hL6 Ia hwz hLz hrz hBz Ib JN HWa FI;generalize hib:inB (pick t) f=ib at*;clear hib;go_wp2;rw[←HWz.out];clear HWz d0 d1 d2;refine wp_region_held_drew (S:=fun w'=>aj wz w') (by kernel_rfl) (aj.refl wz).drew (fun hHeld=>?_);refine tkY 0 95 hHeld ?_;refine tkY 1 96 hHeld ?_;refine tkY 3 98 hHeld ?_ rfl fun w hSw=>by obtain⟨q0,q1⟩:=HCz.out w hSw;go_simp;try with_reducible rfl
    refine tkC 2 fun K hK=>?_;go_simp;refine(HPz.out _ hHeld).mono ?_;rintro e y1 ⟨rfl,rfl⟩;dsimp only;refine hK.out _ _ hHeld (fun hHeld=>?_);clear hK K;refine tkC 4 fun K hK=>?_;go_simp;refine(HIz.out _ hHeld).mono ?_;rintro e y2 ⟨rfl,hL2⟩;dsimp only;refine hK.out _ _ (hHeld.trans hL2) (fun hHeld=>?_);clear hK K;refine tkY 5 100 hHeld ?_;refine tkY 6 23 hHeld ?_;refine wpAnyH_done (by kernel_rfl) ?_ _;have HBy:=au (ak HBz.out hHeld.below HBz.out.size);clear hHeld hL2 HBz HCz HPz HIz;go_wp2
    go_roundg (body.length- (t+1))
    case measure=>omega
    case rel=>exact⟨t+1,by omega,by go_num,by rw[HQ.out],HBy⟩
   have HQ:Hid ((!barredB pick 0 (body.take (t+1)) l)=false):=by show _=_;rw[HBn.out,hq];simp
   rw[hno] at d0 HWa;rw[HWa.out] at FI;clear HBn HRF;go_wp2
   go_roundg (body.length- (t+1))
   case measure=>omega
   case rel=>exact⟨t+1,by omega,by go_num,by rw[HQ.out];rfl,FI⟩
  have htb:body.take t=body:=List.take_of_length_le (by omega);rw[htb];have HOr:=au (aB.fQ HO.out HBx.out.size fun k hk _=>HBx.out.block k hk);have JO:=au (HEl.out.block (HBx.out.block bl HEl.out.lt));have H9:=au H8;have hsx:=HBx.out.size;have hs5:=HB5.out.size;clear H8 DT htb;cases hq:barredB pick 0 body l
  ·obtain⟨v',w7,hrun,hO7,hg7,hd7,hv7⟩:=vV HOr.out JO.out Me (by omega) (by have:=HBr.out.size;omega);have HO7:Hid ((mM 20).own 76 wb.heap.size w7 v' ((ms.take (p+1)).filter fun l=> !barredB pick 0 body l)):=by
    show(mM _).own _ _ _ _ _;rw[HTk.out,List.filter_append];simp only[List.filter_cons,hq,Bool.not_false,if_true,List.filter_nil];exact hO7
   have Mf:Hid (∀k,v'.ownBlock=some k→w5.heap.size≤k):=fun k e=>by
    rcases hv7 k e with h|h;·exact HOk.out k h
    omega
   have hB7:Below w5.heap.size w5 w7:=(ak H9.out ((aj.refl wr).alloc _).below H9.out.size).grown hg7 (by simp;omega) (fun k e=>HOk.out k e);obtain⟨a7,n7,c7,rfl⟩:∃a n c,v'=.slice a n c:=by obtain⟨a,c,e⟩:=aB.bI hO7;exact⟨a,_,c,e⟩
   have HRn:=au hrun;have HB7:=au hB7;clear hq hrun hO7 hg7 hd7 hv7 hB7 HOr JO H9 HO HBx
   go_wp2_with (at_builtin;refine wpList_append_run rfl (.tmp 103) (.tmp 105) 58 rfl _ _ _ _ rfl rfl HRn.out ?_)
   go_roundg (ms.length- (p+1))
   case measure=>omega
   case rel=>exact⟨p+1,by omega,by go_num,HO7,Mf,HB7⟩
  have HO7:Hid ((mM 20).own 76 wb.heap.size wr (.slice oa' on' oc') ((ms.take (p+1)).filter fun l=> !barredB pick 0 body l)):=by show(mM _).own _ _ _ _ _;rw[HTk.out,List.filter_append];simp only[List.filter_cons,hq,Bool.not_true,Bool.false_eq_true,if_false,List.filter_nil,List.append_nil];exact HOr.out
  clear hq HOr JO HO HBx;go_wp2
  go_roundg (ms.length- (p+1))
  case measure=>omega
  case rel=>exact⟨p+1,by omega,by go_num,HO7,HOk,H9⟩
 have hp':ms.take p=ms:=List.take_of_length_le (by omega);have hO:=HO.out;rw[hp'] at hO;have JK:(ms.filter fun l=> !barredB pick 0 body l).length≤20000:=Nat.le_trans (List.length_filter_le _ _) hml;have HS:=au (aB.dO (aB.gQ hO (by omega)));have HBw:=au (ak HLb.out.below (ak HBr.out HB5.out HBr.out.size) HLb.out.size);clear hO hp' HO HOk;go_wp2;exact bodyPost_ret (v:=.tuple #[.slice oa' on' oc',.int .i64 0]) (by simp[results,Tryz.results23,go_sem]) rfl ⟨_,0,rfl,by rw[HMs.out];exact⟨rfl,HS.out⟩,HBw.out⟩
theorem Ic (v1 v2:Value) (l:List aG) (w:World) (h1:Facts w v1 l) (h2:Facts w v2 l):
  Calls Tryz.prog 19 #[v1,v2] w fun e w'=>e=.returned (.bool true)∧aj w w':=by
 have mx:=mixed;have H1:=au h1;have H2:=au h2;obtain⟨a,cap,rfl,hn,hz⟩:=h1.addr;obtain⟨a2,cap2,rfl,_,hz2⟩:=h2.addr;clear h1 h2
 go_enter Tryz.func19,Tryz.ntmps19
 go_wp2
 go_loopw [13] (fun i wr=>∃k:Nat,k≤l.length∧i=.int .i64 k∧aj w wr) (fun i _=>l.length- (intOf i).toNat)
 case atStart=>exact⟨0,by omega,rfl,aj.refl _⟩
 obtain⟨k,hk,rfl,hL⟩:=hrel
 by_cases hlt:k<l.length
 ·rcases hz with rfl|⟨b,off,rfl⟩;·simp at hlt
  rcases hz2 with rfl|⟨b2,off2,rfl⟩;·simp at hlt
  have hltz:(k:Int)<(l.length:Int):=by omega
  obtain⟨ax,lx,cx,g1,g2,fx⟩:=(H1.out.later hL).grown hlt;obtain⟨ay,ly,cy,g3,g4,fy⟩:=(H2.out.later hL).grown hlt;have hE:∀q os,Calls Tryz.prog 37 #[.agg #[.string (l.getD k aA).1,.slice ax lx cx],.agg #[.string (l.getD k aA).1,.slice ay ly cy]] (grow (wr.drewN q) os) fun e w''=>e=.returned (.bool true)∧aj (grow (wr.drewN q) os) w'':=
   fun q os=>(A9 _ _ _ _ _ (fx.later ⟨q,os,rfl⟩) (fy.later ⟨q,os,rfl⟩)).mono fun e w' ⟨he,hw⟩=>⟨by rw[he,oU.2 rfl],hw⟩
  have HE:=au hE;clear hE fx fy;generalize(l.getD k aA).1=nk at*;go_wp2
  go_quiet_grown ((go_at_call 37;exact Calls.grown_of (HE.out _ _)))
  go_wp2
  go_roundw
  case rel=>exact⟨k+1,by omega,by go_num,hL.trans ⟨_,_,rfl⟩⟩
  case measure=>simp[intOf];omega
 go_wp2;go_ret;exact⟨rfl,hL⟩
theorem EB {l:List aG} {f:aG} (hr:iW l) {m:Nat} (hm:m≤l.length) (ha:∀t,t<m→fF (l.getD t aA) f<0) (hb:m<l.length→0≤fF (l.getD m aA) f) (hne:m<l.length→fF (l.getD m aA) f≠0):
  iX (l.take m++[f]++l.drop m) (l++[f]):=by
 have hafter:∀g∈l.drop m,fF f g<0:=fun g hg=>by
  obtain⟨t,ht,rfl⟩:=List.getElem_of_mem hg;rw[List.length_drop] at ht;rw[List.getElem_drop];have h1:=hb (by omega);have h2:=hne (by omega);have h3:=aV.swap (l.getD m aA) f;have e:l.getD m aA=l[m]'(by omega):=by rw[List.getD_eq_getElem?_getD,List.getElem?_eq_getElem (by omega)];rfl
  rw[e] at h1 h2 h3
  by_cases h0:t=0
  ·subst h0;simp only[Nat.add_zero];omega
  have h4:=List.pairwise_iff_getElem.1 hr m (m+t) (by omega) (by omega) (by omega);exact aV.trans _ (l[m]'(by omega)) _ (by omega) h4
 have EC:∀g∈l.take m,fF g f<0:=fun g hg=>by obtain⟨t,ht,_,rfl⟩:=l6 hg;exact ha t ht
 have hsplit:l.take m++l.drop m=l:=List.take_append_drop m l;have Ie:∀a∈l.take m,∀b∈l.drop m,fF a b<0:=fun a h1 b h2=>aV.trans a f b (EC a h1) (hafter b h2);refine⟨?_,fun g=>?_,by simp;omega⟩
 ·unfold iW;rw[List.append_assoc,List.pairwise_append];refine⟨List.Pairwise.sublist (List.take_sublist m l) hr,?_,?_⟩;·rw[List.pairwise_append];refine⟨List.pairwise_singleton _ _,List.Pairwise.sublist (List.drop_sublist m l) hr,fun a h1 b h2=>?_⟩;rw[List.mem_singleton] at h1;subst h1;exact hafter b h2
  intro a h1 b h2;rw[List.mem_append,List.mem_singleton] at h2;rcases h2 with rfl|h2
  ·exact EC a h1
  exact Ie a h1 b h2
 have:g∈l↔g∈l.take m∨g∈l.drop m:=by rw[←List.mem_append,hsplit]
 simp only[List.mem_append,List.mem_singleton,this]
 constructor
 ·rintro((h|h)|h);·exact Or.inl (Or.inl h)
  ·exact Or.inr h
  exact Or.inl (Or.inr h)
 rintro((h|h)|h);·exact Or.inl (Or.inl h)
 ·exact Or.inr h
 exact Or.inl (Or.inr h)
def fM (w:World) (v:Value) (l:List aG):Prop:=Facts w v l∧((v=.slice none 0 0∧l=[])∨∃b off cap,v=.slice (some ⟨b,off,none⟩) l.length cap∧l.length≤cap∧cap≤9223372036854775807)
theorem iO.jH {base:Nat} {w:World} {v:Value} {l:List aG} (h:iO w base v l) (hl:l.length≤3518437208883):fM w v l:=by
 refine⟨h.facts hl,?_⟩;obtain⟨xs,ho,_⟩:=h;rcases ho.2 with⟨rfl,e⟩|⟨g,cap,cur,rfl,_,_,hnc,hcm,_⟩
 ·exact Or.inl ⟨rfl,List.eq_nil_of_length_eq_zero e⟩
 exact Or.inr ⟨g,0,cap,rfl,hnc,by simpa[maxLen] using hcm⟩
theorem fM.later {w w':World} {v:Value} {l:List aG} (h:fM w v l) (k:aj w w'):fM w' v l:=⟨h.1.later k,h.2⟩
theorem JQ (v t:Value) (l:List aG) (f:aG) (w:World) (hc:fM w v l) (ht:dh w t f) (hr:iW l) (hn:l.length≤8388608):
  Calls Tryz.prog 46 #[v,t] w fun e w'=>∃v' r,e=.returned v'∧fM w' v' r∧iX r (l++[f])∧aj w w':=by
 have mx:=mixed;have HF:=au hc.1;have HT:=au ht;have HR:=au hr;have HC0:=au hc;obtain⟨a,cap,rfl,hcap,hcm,hz⟩:∃a cap,v=.slice a l.length cap∧l.length≤cap∧cap≤9223372036854775807∧((a=none∧l=[]∧cap=0)∨∃b off,a=some ⟨b,off,none⟩):=by
  rcases hc.2 with⟨rfl,rfl⟩|⟨b,off,cap,rfl,h1,h2⟩;·exact⟨none,0,rfl,by simp,by omega,Or.inl ⟨rfl,rfl,rfl⟩⟩
  exact⟨_,cap,rfl,h1,h2,Or.inr ⟨b,off,rfl⟩⟩
 obtain⟨s2,rfl,l2,a2,c2,rfl,k2⟩:=ht;have HS:Hid (Strs w (.slice a2 f.2.length c2) f.2):=⟨l2,a2,c2,rfl,k2⟩;clear hc hr k2;have ED:∀w',aj (w.alloc (.cells #[.string f.1,.slice a2 f.2.length c2] 50)) w'→w'.cell? ⟨w.heap.size,0,none⟩=some (.string f.1)∧w'.cell? ⟨w.heap.size,1,none⟩=some (.slice a2 f.2.length c2):=fun w' hw=>⟨by rw[hw.cell (by simp)];simp,by rw[hw.cell (by simp)];simp⟩
 go_enter Tryz.func46,Tryz.ntmps46
 go_wp2
 go_loopw [5] (fun i wr=>∃k:Nat,k≤l.length∧i=.int .i64 k∧aj (w.alloc (.cells #[.string f.1,.slice a2 f.2.length c2] 50)) wr∧Hid (∀t,t<k→fF (l.getD t aA) f<0)) (fun i _=>l.length- (intOf i).toNat)
 case atStart=>exact⟨0,by omega,rfl,aj.refl _,fun t ht=>absurd ht (Nat.not_lt_zero _)⟩
 obtain⟨k,hk,rfl,hL,HA⟩:=hrel;have hL0:aj w wr:=((aj.refl _).alloc _).trans hL;have z0:=cell_later hL (p:=⟨w.heap.size,0,none⟩) (v:=.string f.1) (by simp) (by simp);have z1:=cell_later hL (p:=⟨w.heap.size,1,none⟩) (v:=.slice a2 f.2.length c2) (by simp) (by simp)
 by_cases hlt:k<l.length
 ·rcases hz with⟨rfl,rfl,rfl⟩|⟨b,off,rfl⟩;·simp at hlt
  have hltz:(k:Int)<(l.length:Int):=by omega
  obtain⟨ax,lx,cx,g1,g2,fx⟩:=(HF.out.later hL0).grown hlt;have hC:∀q os,Calls Tryz.prog 41 #[.agg #[.string (l.getD k aA).1,.slice ax lx cx],.agg #[.string f.1,.slice a2 f.2.length c2]] (grow (wr.drewN q) os) fun e w''=>e=.returned (.bool (jI (l.getD k aA) f))∧aj (grow (wr.drewN q) os) w'':=
   fun q os=>Dk _ _ _ _ _ (fx.later ⟨q,os,rfl⟩) ((HT.out.later hL0).later ⟨q,os,rfl⟩)
  have hE:∀w',aj wr w'→Calls Tryz.prog 37 #[.agg #[.string (l.getD k aA).1,.slice ax lx cx],.agg #[.string f.1,.slice a2 f.2.length c2]] w' fun e w''=>e=.returned (.bool (oQ (l.getD k aA) f))∧aj w' w'':=
   fun w' hw=>A9 _ _ _ _ _ (fx.later hw) ((HT.out.later hL0).later hw)
  have Ig:=fun h1 h2=>EB (f:=f) HR.out (m:=k) (by omega) HA.out h1 h2;unfold jI at hC;unfold oQ at hE;have HE:=au hE;have HM:=au Ig;clear hE fx Ig;generalize hcm2:fF (l.getD k aA) f=cm at*;have HCM:=au hcm2;clear hcm2;generalize hnk:(l.getD k aA).1=nk at*;clear hnk
  by_cases hneg:cm<0
  ·rw[decide_eq_true hneg] at hC;have HC:=au hC;clear hC;go_wp2
   go_quiet_grown ((go_at_call 41;exact Calls.grown_of (HC.out _ _)))
   go_wp2
   go_roundw
   case rel=>exact⟨k+1,by omega,by go_num,hL.trans ⟨_,_,rfl⟩,fun t ht=>by
    by_cases e:t=k
    ·rw[e,HCM.out];exact hneg
    exact HA.out t (by omega)⟩
   case measure=>simp[intOf];omega
  rw[decide_eq_false hneg] at hC;have HC:=au hC;clear hC;go_wp2
  go_quiet_grown ((go_at_call 41;exact Calls.grown_of (HC.out _ _)))
  dsimp only;have hL2:aj wr (grow (wr.drewN nq) osq):=⟨_,_,rfl⟩;have hE2:∀q os,Calls Tryz.prog 37 #[.agg #[.string nk,.slice ax lx cx],.agg #[.string f.1,.slice a2 f.2.length c2]] (grow ((grow (wr.drewN nq) osq).drewN q) os) fun e w''=>e=.returned (.bool (decide (cm=0)))∧aj (grow ((grow (wr.drewN nq) osq).drewN q) os) w'':=
   fun q os=>HE.out _ (hL2.trans ⟨q,os,rfl⟩)
  have g1':∀q os,(grow ((grow (wr.drewN nq) osq).drewN q) os).cell? ⟨b,off+k*2,none⟩=some (.string nk):=fun q os=>by obtain⟨q',os',e⟩:=hL2.trans ⟨q,os,rfl⟩;rw[e];exact g1 q' os'
  have g2':∀q os,(grow ((grow (wr.drewN nq) osq).drewN q) os).cell? ⟨b,off+k*2+1,none⟩=some (.slice ax lx cx):=fun q os=>by obtain⟨q',os',e⟩:=hL2.trans ⟨q,os,rfl⟩;rw[e];exact g2 q' os'
  have z0':∀q os,(grow ((grow (wr.drewN nq) osq).drewN q) os).cell? ⟨w.heap.size,0,none⟩=some (.string f.1):=fun q os=>by obtain⟨q',os',e⟩:=hL2.trans ⟨q,os,rfl⟩;rw[e];exact z0 q' os'
  have z1':∀q os,(grow ((grow (wr.drewN nq) osq).drewN q) os).cell? ⟨w.heap.size,1,none⟩=some (.slice a2 f.2.length c2):=fun q os=>by obtain⟨q',os',e⟩:=hL2.trans ⟨q,os,rfl⟩;rw[e];exact z1 q' os'
  clear HC g1 g2 z0 z1;generalize grow (wr.drewN nq) osq=w2 at*;have Mg:aj w w2:=hL0.trans hL2
  by_cases heq:cm=0
  ·rw[decide_eq_true heq] at hE2;have HE2:=au hE2;clear hE2;go_wp2
   go_quiet_grown ((go_at_call 37;exact Calls.grown_of (HE2.out _ _)))
   go_wp2;go_ret;have hL3:aj w (grow (w2.drewN nq) osq):=Mg.trans ⟨_,_,rfl⟩;refine⟨_,l,rfl,HC0.out.later hL3,⟨HR.out,fun g=>?_,by simp⟩,hL3⟩;have e:=aV.zero _ _ (HCM.out.trans heq);rw[List.mem_append,List.mem_singleton,←e];refine⟨Or.inl,fun h=>h.elim id fun h=>?_⟩;rw[h];have:=getD_mem_take (l:=l) (i:=k) (k:=l.length) hlt (Nat.le_refl _)
   rwa [List.take_length] at this
  rw[decide_eq_false heq] at hE2;have HE2:=au hE2;clear hE2;go_wp2
  go_quiet_grown ((go_at_call 37;exact Calls.grown_of (HE2.out _ _)))
  dsimp only;have hLz:aj (w.alloc (.cells #[.string f.1,.slice a2 f.2.length c2] 50)) (grow (w2.drewN nq) osq):=(hL.trans hL2).trans ⟨_,_,rfl⟩;have hset:=HM.out (fun _=>by omega) (fun _=>heq);clear HE2 z0' z1' g1' g2' HE HM;generalize grow (w2.drewN nq) osq=wz at hLz⊢;have zW:=au hset;clear hset;have hck:¬cap=k:=by omega
  have hkc:(k:Int)≤(cap:Int):=by omega
  have hkl:(k:Int)≤(l.length:Int):=by omega
  have hTl:(l.take k).length=k:=by rw[List.length_take];omega
  have hDl:(l.drop k).length=l.length-k:=List.length_drop;have FT:=au (((HF.out.take (k:=k) (by omega))).later ((aj.refl w).alloc (.cells #[.string f.1,.slice a2 f.2.length c2] 50)));have FD:=au (((HF.out.drop (k:=k) (by omega) (cap-k))).later ((aj.refl w).alloc (.cells #[.string f.1,.slice a2 f.2.length c2] 50)));go_wp2;refine wp_region_held_drew (S:=fun w'=>aj (w.alloc (.cells #[.string f.1,.slice a2 f.2.length c2] 50)) w') (by kernel_rfl) hLz.drew (fun hHeld=>?_);refine tkY 1 34 hHeld ?_;refine tkY 2 35 hHeld ?_;refine tkY 3 36 hHeld ?_;refine tkY 5 38 hHeld ?_ rfl fun w hSw=>by obtain⟨q0,q1⟩:=ED w hSw;go_simp;try with_reducible rfl
  refine tkY 8 41 hHeld ?_;refine tkY 9 42 hHeld ?_;refine tkY 10 43 hHeld ?_;have hbz:=hLz.size;refine wpAnyH_ready (rs:=[0,6]) (by kernel_rfl) (by simp) ?_;refine AllReadyH.cons rfl (fun K hK=>?_) (AllReadyH.cons rfl (fun K hK=>?_) AllReadyH.nil)
  ·go_simp;have R0:iO (wz.alloc (.cells #[] 50)).drew (w.alloc (.cells #[.string f.1,.slice a2 f.2.length c2] 50)).heap.size (.slice (some ⟨wz.heap.size,0,none⟩) 0 0) []:=(iO.empty hbz).later (aj.refl _).drew;have hL1:aj (w.alloc (.cells #[.string f.1,.slice a2 f.2.length c2] 50)) (wz.alloc (.cells #[] 50)).drew:=(hLz.alloc _).drew;have hgz:(wz.alloc (.cells #[] 50)).drew.heap.size=wz.heap.size+1:=by simp
   refine hK.out _ _ hL1 (fun hHeld=>?_);clear hK K;clear hHeld;generalize(wz.alloc (.cells #[] 50)).drew=w1 at R0 hL1 hgz⊢;have hHeld:=hL1;refine wpAnyH_ready (rs:=[4,6]) (by kernel_rfl) (by simp) ?_;obtain⟨v4,w4,kE,R4,hL4,_⟩:=R0.append hHeld FT.out (by simp <;> omega);rw[hTl] at kE;rw[List.nil_append] at R4;refine aN (i:=4) (d:=some 37) rfl rfl rfl (.tmp 33) (.tmp 36) 24 24 rfl rfl _ _ _ _ (by simp[Act.eval]) (by simp[Act.eval]) kE hL4 (fun hHeld=>?_) (AllReadyH.cons rfl (fun K hK=>?_) AllReadyH.nil)
   ·simp only[Act.put,List.setIfInBounds_toArray,List.set_cons_zero,List.set_cons_succ];clear kE;refine tkC 6 fun K hK=>?_;go_simp;have S6:=l5.one (w0:=(w.alloc (.cells #[.string f.1,.slice a2 f.2.length c2] 50))) (f:=f) (s:=.slice a2 f.2.length c2) (heap_alloc_new w4 (.cells #[.string f.1,.slice a2 f.2.length c2] 50)) (HS.out.later ((aj.refl w).alloc _));have R6:=R4.later ((aj.refl w4).alloc (.cells #[.string f.1,.slice a2 f.2.length c2] 50));have hL6:=hL4.alloc (.cells #[.string f.1,.slice a2 f.2.length c2] 50);refine hK.out _ _ hL6 (fun hHeld=>?_);clear hK K;clear hHeld;generalize w4.heap.size=g6 at S6⊢;generalize w4.alloc (.cells #[.string f.1,.slice a2 f.2.length c2] 50)=w6 at S6 R6 hL6⊢;have hHeld:=hL6;refine wpAnyH_ready (rs:=[7]) (by kernel_rfl) (by simp) ?_;obtain⟨v7,w7,pW,R7,hL7,_⟩:=R6.dJ (cap:=1) hHeld S6 (by simp <;> omega);refine aN (i:=7) (d:=some 40) rfl rfl rfl (.tmp 37) (.tmp 39) 24 24 rfl rfl _ _ _ _ (by simp[Act.eval]) (by simp[Act.eval]) pW hL7 (fun hHeld=>?_) AllReadyH.nil;simp only[Act.put,List.setIfInBounds_toArray,List.set_cons_zero,List.set_cons_succ];refine wpAnyH_ready (rs:=[11]) (by kernel_rfl) (by simp) ?_;obtain⟨v8,w8,nW,R8,hL8,_⟩:=R7.append hHeld FD.out (by simp <;> omega);rw[hDl] at nW;refine aN (i:=11) (d:=some 44) rfl rfl rfl (.tmp 40) (.tmp 43) 24 24 rfl rfl _ _ _ _ (by simp[Act.eval]) (by simp[Act.eval]) nW hL8 (fun hHeld=>?_) AllReadyH.nil
    simp only[Act.put,List.setIfInBounds_toArray,List.set_cons_zero,List.set_cons_succ];refine tkY 12 4 hHeld ?_;refine wpAnyH_done (by kernel_rfl) ?_ _;go_wp2;go_ret;exact⟨v8,_,rfl,R8.jH (by simp <;> omega),zW.out,((aj.refl w).alloc _).trans hL8⟩
   clear kE R4 hL4;go_simp;have S6:=l5.one (w0:=(w.alloc (.cells #[.string f.1,.slice a2 f.2.length c2] 50))) (f:=f) (s:=.slice a2 f.2.length c2) (heap_alloc_new w1 (.cells #[.string f.1,.slice a2 f.2.length c2] 50)) (HS.out.later ((aj.refl w).alloc _));have R5:=R0.later ((aj.refl w1).alloc (.cells #[.string f.1,.slice a2 f.2.length c2] 50));have hL5:=hL1.alloc (.cells #[.string f.1,.slice a2 f.2.length c2] 50);refine hK.out _ _ hL5 (fun hHeld=>?_);clear hK K;clear hHeld;generalize w1.alloc (.cells #[.string f.1,.slice a2 f.2.length c2] 50)=w5 at S6 R5 hL5⊢;have hHeld:=hL5;refine wpAnyH_ready (rs:=[4]) (by kernel_rfl) (by simp) ?_;obtain⟨v4,w6,kE,R6,hL6,hg6,_⟩:=R5.append hHeld FT.out (by simp <;> omega);rw[hTl] at kE;rw[List.nil_append] at R6
   replace S6:=S6.grown hg6 (by simp[Value.ownBlock];omega)
   refine aN (i:=4) (d:=some 37) rfl rfl rfl (.tmp 33) (.tmp 36) 24 24 rfl rfl _ _ _ _ (by simp[Act.eval]) (by simp[Act.eval]) kE hL6 (fun hHeld=>?_) AllReadyH.nil;simp only[Act.put,List.setIfInBounds_toArray,List.set_cons_zero,List.set_cons_succ];refine wpAnyH_ready (rs:=[7]) (by kernel_rfl) (by simp) ?_;obtain⟨v7,w7,pW,R7,hL7,_⟩:=R6.dJ (cap:=1) hHeld S6 (by simp <;> omega);refine aN (i:=7) (d:=some 40) rfl rfl rfl (.tmp 37) (.tmp 39) 24 24 rfl rfl _ _ _ _ (by simp[Act.eval]) (by simp[Act.eval]) pW hL7 (fun hHeld=>?_) AllReadyH.nil;simp only[Act.put,List.setIfInBounds_toArray,List.set_cons_zero,List.set_cons_succ];refine wpAnyH_ready (rs:=[11]) (by kernel_rfl) (by simp) ?_;obtain⟨v8,w8,nW,R8,hL8,_⟩:=R7.append hHeld FD.out (by simp <;> omega);rw[hDl] at nW;refine aN (i:=11) (d:=some 44) rfl rfl rfl (.tmp 40) (.tmp 43) 24 24 rfl rfl _ _ _ _ (by simp[Act.eval]) (by simp[Act.eval]) nW hL8 (fun hHeld=>?_) AllReadyH.nil;simp only[Act.put,List.setIfInBounds_toArray,List.set_cons_zero,List.set_cons_succ];refine tkY 12 4 hHeld ?_;refine wpAnyH_done (by kernel_rfl) ?_ _;go_wp2;go_ret;exact⟨v8,_,rfl,R8.jH (by simp <;> omega),zW.out,((aj.refl w).alloc _).trans hL8⟩
  go_simp;have S6:l5 (w.alloc (.cells #[.string f.1,.slice a2 f.2.length c2] 50)) (wz.alloc (.cells #[.string f.1,.slice a2 f.2.length c2] 50)).drew ⟨wz.heap.size,0,none⟩ [f]:=l5.one (w0:=(w.alloc (.cells #[.string f.1,.slice a2 f.2.length c2] 50))) (f:=f) (s:=.slice a2 f.2.length c2) (heap_alloc_new wz (.cells #[.string f.1,.slice a2 f.2.length c2] 50)) (HS.out.later ((aj.refl w).alloc _));have hL3:aj (w.alloc (.cells #[.string f.1,.slice a2 f.2.length c2] 50)) (wz.alloc (.cells #[.string f.1,.slice a2 f.2.length c2] 50)).drew:=(hLz.alloc (.cells #[.string f.1,.slice a2 f.2.length c2] 50)).drew;have hgz:(wz.alloc (.cells #[.string f.1,.slice a2 f.2.length c2] 50)).drew.heap.size=wz.heap.size+1:=by simp
  refine hK.out _ _ hL3 (fun hHeld=>?_);clear hK K;clear hHeld;generalize(wz.alloc (.cells #[.string f.1,.slice a2 f.2.length c2] 50)).drew=w3 at S6 hL3 hgz⊢;have hHeld:=hL3;refine tkC 0 fun K hK=>?_;go_simp;have R5:=iO.empty (w:=w3) (base:=(w.alloc (.cells #[.string f.1,.slice a2 f.2.length c2] 50)).heap.size) hL3.size
  replace S6:=S6.later ((aj.refl w3).alloc (.cells #[] 50))
  have hL5:=hL3.alloc (.cells #[] 50);refine hK.out _ _ hL5 (fun hHeld=>?_);clear hK K;clear hHeld;generalize w3.alloc (.cells #[] 50)=w5 at S6 R5 hL5⊢;have hHeld:=hL5;refine wpAnyH_ready (rs:=[4]) (by kernel_rfl) (by simp) ?_;obtain⟨v4,w6,kE,R6,hL6,hg6,_⟩:=R5.append hHeld FT.out (by simp <;> omega);rw[hTl] at kE;rw[List.nil_append] at R6
  replace S6:=S6.grown hg6 (by simp[Value.ownBlock];omega)
  refine aN (i:=4) (d:=some 37) rfl rfl rfl (.tmp 33) (.tmp 36) 24 24 rfl rfl _ _ _ _ (by simp[Act.eval]) (by simp[Act.eval]) kE hL6 (fun hHeld=>?_) AllReadyH.nil;simp only[Act.put,List.setIfInBounds_toArray,List.set_cons_zero,List.set_cons_succ];refine wpAnyH_ready (rs:=[7]) (by kernel_rfl) (by simp) ?_;obtain⟨v7,w7,pW,R7,hL7,_⟩:=R6.dJ (cap:=1) hHeld S6 (by simp <;> omega);refine aN (i:=7) (d:=some 40) rfl rfl rfl (.tmp 37) (.tmp 39) 24 24 rfl rfl _ _ _ _ (by simp[Act.eval]) (by simp[Act.eval]) pW hL7 (fun hHeld=>?_) AllReadyH.nil;simp only[Act.put,List.setIfInBounds_toArray,List.set_cons_zero,List.set_cons_succ];refine wpAnyH_ready (rs:=[11]) (by kernel_rfl) (by simp) ?_;obtain⟨v8,w8,nW,R8,hL8,_⟩:=R7.append hHeld FD.out (by simp <;> omega);rw[hDl] at nW;refine aN (i:=11) (d:=some 44) rfl rfl rfl (.tmp 40) (.tmp 43) 24 24 rfl rfl _ _ _ _ (by simp[Act.eval]) (by simp[Act.eval]) nW hL8 (fun hHeld=>?_) AllReadyH.nil;simp only[Act.put,List.setIfInBounds_toArray,List.set_cons_zero,List.set_cons_succ];refine tkY 12 4 hHeld ?_;refine wpAnyH_done (by kernel_rfl) ?_ _;go_wp2;go_ret;exact⟨v8,_,rfl,R8.jH (by simp <;> omega),zW.out,((aj.refl w).alloc _).trans hL8⟩
 have hd:decide (k<l.length)=false:=by rw[decide_eq_false_iff_not];omega
 go_wp2
 go_quiet (fail)
 have hL5:=hL.drewN nq;generalize wr.drewN nq=w5 at hL5⊢;go_wp2
 go_quiet (fail)
 have hset:=EB (f:=f) HR.out (m:=k) hk HA.out (fun h=>absurd h hlt) (fun h=>absurd h hlt);have hLz:=hL5.drewN nq;generalize w5.drewN nq=wz at hLz⊢;have hkl:k=l.length:=by omega
 clear hd hlt HA z0 z1 hL0 hL hL5;subst hkl;rw[List.take_length,List.drop_length] at hset;have zW:=au hset;clear hset;have hkc:(l.length:Int)≤(cap:Int):=by omega
 have FT:=au (HF.out.later ((aj.refl w).alloc (.cells #[.string f.1,.slice a2 f.2.length c2] 50)));rcases hz with⟨rfl,rfl,rfl⟩|⟨b,off,rfl⟩
 ·have FD:Hid (Facts (w.alloc (.cells #[.string f.1,.slice a2 f.2.length c2] 50)) (.slice none ([]:List aG).length 0) []):=FT;clear hkc hcap hk;simp only[List.length_nil] at FT FD⊢;go_wp2;refine wp_region_held_drew (S:=fun w'=>aj (w.alloc (.cells #[.string f.1,.slice a2 f.2.length c2] 50)) w') (by kernel_rfl) hLz.drew (fun hHeld=>?_);refine tkY 1 34 hHeld ?_;refine tkY 2 35 hHeld ?_;refine tkY 3 36 hHeld ?_;refine tkY 5 38 hHeld ?_ rfl fun w hSw=>by obtain⟨q0,q1⟩:=ED w hSw;go_simp;try with_reducible rfl
  refine tkY 8 41 hHeld ?_;refine tkY 9 42 hHeld ?_;refine tkY 10 43 hHeld ?_;have hbz:=hLz.size;refine wpAnyH_ready (rs:=[0,6]) (by kernel_rfl) (by simp) ?_;refine AllReadyH.cons rfl (fun K hK=>?_) (AllReadyH.cons rfl (fun K hK=>?_) AllReadyH.nil)
  ·go_simp;have R0:iO (wz.alloc (.cells #[] 50)).drew (w.alloc (.cells #[.string f.1,.slice a2 f.2.length c2] 50)).heap.size (.slice (some ⟨wz.heap.size,0,none⟩) 0 0) []:=(iO.empty hbz).later (aj.refl _).drew;have hL1:aj (w.alloc (.cells #[.string f.1,.slice a2 f.2.length c2] 50)) (wz.alloc (.cells #[] 50)).drew:=(hLz.alloc _).drew;have hgz:(wz.alloc (.cells #[] 50)).drew.heap.size=wz.heap.size+1:=by simp
   refine hK.out _ _ hL1 (fun hHeld=>?_);clear hK K;clear hHeld;generalize(wz.alloc (.cells #[] 50)).drew=w1 at R0 hL1 hgz⊢;have hHeld:=hL1;refine wpAnyH_ready (rs:=[4,6]) (by kernel_rfl) (by simp) ?_;obtain⟨v4,w4,kE,R4,hL4,_⟩:=R0.append hHeld FT.out (by simp <;> omega);rw[List.nil_append] at R4;refine aN (i:=4) (d:=some 37) rfl rfl rfl (.tmp 33) (.tmp 36) 24 24 rfl rfl _ _ _ _ (by simp[Act.eval]) (by simp[Act.eval]) kE hL4 (fun hHeld=>?_) (AllReadyH.cons rfl (fun K hK=>?_) AllReadyH.nil)
   ·simp only[Act.put,List.setIfInBounds_toArray,List.set_cons_zero,List.set_cons_succ];clear kE;refine tkC 6 fun K hK=>?_;go_simp;have S6:=l5.one (w0:=(w.alloc (.cells #[.string f.1,.slice a2 f.2.length c2] 50))) (f:=f) (s:=.slice a2 f.2.length c2) (heap_alloc_new w4 (.cells #[.string f.1,.slice a2 f.2.length c2] 50)) (HS.out.later ((aj.refl w).alloc _));have R6:=R4.later ((aj.refl w4).alloc (.cells #[.string f.1,.slice a2 f.2.length c2] 50));have hL6:=hL4.alloc (.cells #[.string f.1,.slice a2 f.2.length c2] 50);refine hK.out _ _ hL6 (fun hHeld=>?_);clear hK K;clear hHeld;generalize w4.heap.size=g6 at S6⊢;generalize w4.alloc (.cells #[.string f.1,.slice a2 f.2.length c2] 50)=w6 at S6 R6 hL6⊢;have hHeld:=hL6;refine wpAnyH_ready (rs:=[7]) (by kernel_rfl) (by simp) ?_;obtain⟨v7,w7,pW,R7,hL7,_⟩:=R6.dJ (cap:=1) hHeld S6 (by simp <;> omega);refine aN (i:=7) (d:=some 40) rfl rfl rfl (.tmp 37) (.tmp 39) 24 24 rfl rfl _ _ _ _ (by simp[Act.eval]) (by simp[Act.eval]) pW hL7 (fun hHeld=>?_) AllReadyH.nil;simp only[Act.put,List.setIfInBounds_toArray,List.set_cons_zero,List.set_cons_succ];refine wpAnyH_ready (rs:=[11]) (by kernel_rfl) (by simp) ?_;obtain⟨v8,w8,nW,R8,hL8,_⟩:=R7.append hHeld FD.out (by simp <;> omega);refine aN (i:=11) (d:=some 44) rfl rfl rfl (.tmp 40) (.tmp 43) 24 24 rfl rfl _ _ _ _ (by simp[Act.eval]) (by simp[Act.eval]) nW hL8 (fun hHeld=>?_) AllReadyH.nil
    simp only[Act.put,List.setIfInBounds_toArray,List.set_cons_zero,List.set_cons_succ];refine tkY 12 4 hHeld ?_;refine wpAnyH_done (by kernel_rfl) ?_ _;go_wp2;go_ret;exact⟨v8,_,rfl,R8.jH (by simp <;> omega),zW.out,((aj.refl w).alloc _).trans hL8⟩
   clear kE R4 hL4;go_simp;have S6:=l5.one (w0:=(w.alloc (.cells #[.string f.1,.slice a2 f.2.length c2] 50))) (f:=f) (s:=.slice a2 f.2.length c2) (heap_alloc_new w1 (.cells #[.string f.1,.slice a2 f.2.length c2] 50)) (HS.out.later ((aj.refl w).alloc _));have R5:=R0.later ((aj.refl w1).alloc (.cells #[.string f.1,.slice a2 f.2.length c2] 50));have hL5:=hL1.alloc (.cells #[.string f.1,.slice a2 f.2.length c2] 50);refine hK.out _ _ hL5 (fun hHeld=>?_);clear hK K;clear hHeld;generalize w1.alloc (.cells #[.string f.1,.slice a2 f.2.length c2] 50)=w5 at S6 R5 hL5⊢;have hHeld:=hL5;refine wpAnyH_ready (rs:=[4]) (by kernel_rfl) (by simp) ?_;obtain⟨v4,w6,kE,R6,hL6,hg6,_⟩:=R5.append hHeld FT.out (by simp <;> omega);rw[List.nil_append] at R6
   replace S6:=S6.grown hg6 (by simp[Value.ownBlock];omega)
   refine aN (i:=4) (d:=some 37) rfl rfl rfl (.tmp 33) (.tmp 36) 24 24 rfl rfl _ _ _ _ (by simp[Act.eval]) (by simp[Act.eval]) kE hL6 (fun hHeld=>?_) AllReadyH.nil;simp only[Act.put,List.setIfInBounds_toArray,List.set_cons_zero,List.set_cons_succ];refine wpAnyH_ready (rs:=[7]) (by kernel_rfl) (by simp) ?_;obtain⟨v7,w7,pW,R7,hL7,_⟩:=R6.dJ (cap:=1) hHeld S6 (by simp <;> omega);refine aN (i:=7) (d:=some 40) rfl rfl rfl (.tmp 37) (.tmp 39) 24 24 rfl rfl _ _ _ _ (by simp[Act.eval]) (by simp[Act.eval]) pW hL7 (fun hHeld=>?_) AllReadyH.nil;simp only[Act.put,List.setIfInBounds_toArray,List.set_cons_zero,List.set_cons_succ];refine wpAnyH_ready (rs:=[11]) (by kernel_rfl) (by simp) ?_;obtain⟨v8,w8,nW,R8,hL8,_⟩:=R7.append hHeld FD.out (by simp <;> omega);refine aN (i:=11) (d:=some 44) rfl rfl rfl (.tmp 40) (.tmp 43) 24 24 rfl rfl _ _ _ _ (by simp[Act.eval]) (by simp[Act.eval]) nW hL8 (fun hHeld=>?_) AllReadyH.nil;simp only[Act.put,List.setIfInBounds_toArray,List.set_cons_zero,List.set_cons_succ];refine tkY 12 4 hHeld ?_;refine wpAnyH_done (by kernel_rfl) ?_ _;go_wp2;go_ret;exact⟨v8,_,rfl,R8.jH (by simp <;> omega),zW.out,((aj.refl w).alloc _).trans hL8⟩
  go_simp;have S6:l5 (w.alloc (.cells #[.string f.1,.slice a2 f.2.length c2] 50)) (wz.alloc (.cells #[.string f.1,.slice a2 f.2.length c2] 50)).drew ⟨wz.heap.size,0,none⟩ [f]:=l5.one (w0:=(w.alloc (.cells #[.string f.1,.slice a2 f.2.length c2] 50))) (f:=f) (s:=.slice a2 f.2.length c2) (heap_alloc_new wz (.cells #[.string f.1,.slice a2 f.2.length c2] 50)) (HS.out.later ((aj.refl w).alloc _));have hL3:aj (w.alloc (.cells #[.string f.1,.slice a2 f.2.length c2] 50)) (wz.alloc (.cells #[.string f.1,.slice a2 f.2.length c2] 50)).drew:=(hLz.alloc (.cells #[.string f.1,.slice a2 f.2.length c2] 50)).drew;have hgz:(wz.alloc (.cells #[.string f.1,.slice a2 f.2.length c2] 50)).drew.heap.size=wz.heap.size+1:=by simp
  refine hK.out _ _ hL3 (fun hHeld=>?_);clear hK K;clear hHeld;generalize(wz.alloc (.cells #[.string f.1,.slice a2 f.2.length c2] 50)).drew=w3 at S6 hL3 hgz⊢;have hHeld:=hL3;refine tkC 0 fun K hK=>?_;go_simp;have R5:=iO.empty (w:=w3) (base:=(w.alloc (.cells #[.string f.1,.slice a2 f.2.length c2] 50)).heap.size) hL3.size
  replace S6:=S6.later ((aj.refl w3).alloc (.cells #[] 50))
  have hL5:=hL3.alloc (.cells #[] 50);refine hK.out _ _ hL5 (fun hHeld=>?_);clear hK K;clear hHeld;generalize w3.alloc (.cells #[] 50)=w5 at S6 R5 hL5⊢;have hHeld:=hL5;refine wpAnyH_ready (rs:=[4]) (by kernel_rfl) (by simp) ?_;obtain⟨v4,w6,kE,R6,hL6,hg6,_⟩:=R5.append hHeld FT.out (by simp <;> omega);rw[List.nil_append] at R6
  replace S6:=S6.grown hg6 (by simp[Value.ownBlock];omega)
  refine aN (i:=4) (d:=some 37) rfl rfl rfl (.tmp 33) (.tmp 36) 24 24 rfl rfl _ _ _ _ (by simp[Act.eval]) (by simp[Act.eval]) kE hL6 (fun hHeld=>?_) AllReadyH.nil;simp only[Act.put,List.setIfInBounds_toArray,List.set_cons_zero,List.set_cons_succ];refine wpAnyH_ready (rs:=[7]) (by kernel_rfl) (by simp) ?_;obtain⟨v7,w7,pW,R7,hL7,_⟩:=R6.dJ (cap:=1) hHeld S6 (by simp <;> omega);refine aN (i:=7) (d:=some 40) rfl rfl rfl (.tmp 37) (.tmp 39) 24 24 rfl rfl _ _ _ _ (by simp[Act.eval]) (by simp[Act.eval]) pW hL7 (fun hHeld=>?_) AllReadyH.nil;simp only[Act.put,List.setIfInBounds_toArray,List.set_cons_zero,List.set_cons_succ];refine wpAnyH_ready (rs:=[11]) (by kernel_rfl) (by simp) ?_;obtain⟨v8,w8,nW,R8,hL8,_⟩:=R7.append hHeld FD.out (by simp <;> omega);refine aN (i:=11) (d:=some 44) rfl rfl rfl (.tmp 40) (.tmp 43) 24 24 rfl rfl _ _ _ _ (by simp[Act.eval]) (by simp[Act.eval]) nW hL8 (fun hHeld=>?_) AllReadyH.nil;simp only[Act.put,List.setIfInBounds_toArray,List.set_cons_zero,List.set_cons_succ];refine tkY 12 4 hHeld ?_;refine wpAnyH_done (by kernel_rfl) ?_ _;go_wp2;go_ret;exact⟨v8,_,rfl,R8.jH (by simp <;> omega),zW.out,((aj.refl w).alloc _).trans hL8⟩
 by_cases hck:cap=l.length
 ·subst hck;have FD:Hid (Facts (w.alloc (.cells #[.string f.1,.slice a2 f.2.length c2] 50)) (.slice (some ⟨b,off,none⟩) ([]:List aG).length 0) []):=⟨by simp,_,_,rfl,fun h=>absurd rfl h⟩;simp only[List.length_nil] at FD;go_wp2;refine wp_region_held_drew (S:=fun w'=>aj (w.alloc (.cells #[.string f.1,.slice a2 f.2.length c2] 50)) w') (by kernel_rfl) hLz.drew (fun hHeld=>?_);refine tkY 1 34 hHeld ?_;refine tkY 2 35 hHeld ?_;refine tkY 3 36 hHeld ?_;refine tkY 5 38 hHeld ?_ rfl fun w hSw=>by obtain⟨q0,q1⟩:=ED w hSw;go_simp;try with_reducible rfl
  refine tkY 8 41 hHeld ?_;refine tkY 9 42 hHeld ?_;refine tkY 10 43 hHeld ?_;have hbz:=hLz.size;refine wpAnyH_ready (rs:=[0,6]) (by kernel_rfl) (by simp) ?_;refine AllReadyH.cons rfl (fun K hK=>?_) (AllReadyH.cons rfl (fun K hK=>?_) AllReadyH.nil)
  ·go_simp;have R0:iO (wz.alloc (.cells #[] 50)).drew (w.alloc (.cells #[.string f.1,.slice a2 f.2.length c2] 50)).heap.size (.slice (some ⟨wz.heap.size,0,none⟩) 0 0) []:=(iO.empty hbz).later (aj.refl _).drew;have hL1:aj (w.alloc (.cells #[.string f.1,.slice a2 f.2.length c2] 50)) (wz.alloc (.cells #[] 50)).drew:=(hLz.alloc _).drew;have hgz:(wz.alloc (.cells #[] 50)).drew.heap.size=wz.heap.size+1:=by simp
   refine hK.out _ _ hL1 (fun hHeld=>?_);clear hK K;clear hHeld;generalize(wz.alloc (.cells #[] 50)).drew=w1 at R0 hL1 hgz⊢;have hHeld:=hL1;refine wpAnyH_ready (rs:=[4,6]) (by kernel_rfl) (by simp) ?_;obtain⟨v4,w4,kE,R4,hL4,_⟩:=R0.append hHeld FT.out (by simp <;> omega);rw[List.nil_append] at R4;refine aN (i:=4) (d:=some 37) rfl rfl rfl (.tmp 33) (.tmp 36) 24 24 rfl rfl _ _ _ _ (by simp[Act.eval]) (by simp[Act.eval]) kE hL4 (fun hHeld=>?_) (AllReadyH.cons rfl (fun K hK=>?_) AllReadyH.nil)
   ·simp only[Act.put,List.setIfInBounds_toArray,List.set_cons_zero,List.set_cons_succ];clear kE;refine tkC 6 fun K hK=>?_;go_simp;have S6:=l5.one (w0:=(w.alloc (.cells #[.string f.1,.slice a2 f.2.length c2] 50))) (f:=f) (s:=.slice a2 f.2.length c2) (heap_alloc_new w4 (.cells #[.string f.1,.slice a2 f.2.length c2] 50)) (HS.out.later ((aj.refl w).alloc _));have R6:=R4.later ((aj.refl w4).alloc (.cells #[.string f.1,.slice a2 f.2.length c2] 50));have hL6:=hL4.alloc (.cells #[.string f.1,.slice a2 f.2.length c2] 50);refine hK.out _ _ hL6 (fun hHeld=>?_);clear hK K;clear hHeld;generalize w4.heap.size=g6 at S6⊢;generalize w4.alloc (.cells #[.string f.1,.slice a2 f.2.length c2] 50)=w6 at S6 R6 hL6⊢;have hHeld:=hL6;refine wpAnyH_ready (rs:=[7]) (by kernel_rfl) (by simp) ?_;obtain⟨v7,w7,pW,R7,hL7,_⟩:=R6.dJ (cap:=1) hHeld S6 (by simp <;> omega);refine aN (i:=7) (d:=some 40) rfl rfl rfl (.tmp 37) (.tmp 39) 24 24 rfl rfl _ _ _ _ (by simp[Act.eval]) (by simp[Act.eval]) pW hL7 (fun hHeld=>?_) AllReadyH.nil;simp only[Act.put,List.setIfInBounds_toArray,List.set_cons_zero,List.set_cons_succ];refine wpAnyH_ready (rs:=[11]) (by kernel_rfl) (by simp) ?_;obtain⟨v8,w8,nW,R8,hL8,_⟩:=R7.append hHeld FD.out (by simp <;> omega);refine aN (i:=11) (d:=some 44) rfl rfl rfl (.tmp 40) (.tmp 43) 24 24 rfl rfl _ _ _ _ (by simp[Act.eval]) (by simp[Act.eval]) nW hL8 (fun hHeld=>?_) AllReadyH.nil
    simp only[Act.put,List.setIfInBounds_toArray,List.set_cons_zero,List.set_cons_succ];refine tkY 12 4 hHeld ?_;refine wpAnyH_done (by kernel_rfl) ?_ _;go_wp2;go_ret;exact⟨v8,_,rfl,R8.jH (by simp <;> omega),zW.out,((aj.refl w).alloc _).trans hL8⟩
   clear kE R4 hL4;go_simp;have S6:=l5.one (w0:=(w.alloc (.cells #[.string f.1,.slice a2 f.2.length c2] 50))) (f:=f) (s:=.slice a2 f.2.length c2) (heap_alloc_new w1 (.cells #[.string f.1,.slice a2 f.2.length c2] 50)) (HS.out.later ((aj.refl w).alloc _));have R5:=R0.later ((aj.refl w1).alloc (.cells #[.string f.1,.slice a2 f.2.length c2] 50));have hL5:=hL1.alloc (.cells #[.string f.1,.slice a2 f.2.length c2] 50);refine hK.out _ _ hL5 (fun hHeld=>?_);clear hK K;clear hHeld;generalize w1.alloc (.cells #[.string f.1,.slice a2 f.2.length c2] 50)=w5 at S6 R5 hL5⊢;have hHeld:=hL5;refine wpAnyH_ready (rs:=[4]) (by kernel_rfl) (by simp) ?_;obtain⟨v4,w6,kE,R6,hL6,hg6,_⟩:=R5.append hHeld FT.out (by simp <;> omega);rw[List.nil_append] at R6
   replace S6:=S6.grown hg6 (by simp[Value.ownBlock];omega)
   refine aN (i:=4) (d:=some 37) rfl rfl rfl (.tmp 33) (.tmp 36) 24 24 rfl rfl _ _ _ _ (by simp[Act.eval]) (by simp[Act.eval]) kE hL6 (fun hHeld=>?_) AllReadyH.nil;simp only[Act.put,List.setIfInBounds_toArray,List.set_cons_zero,List.set_cons_succ];refine wpAnyH_ready (rs:=[7]) (by kernel_rfl) (by simp) ?_;obtain⟨v7,w7,pW,R7,hL7,_⟩:=R6.dJ (cap:=1) hHeld S6 (by simp <;> omega);refine aN (i:=7) (d:=some 40) rfl rfl rfl (.tmp 37) (.tmp 39) 24 24 rfl rfl _ _ _ _ (by simp[Act.eval]) (by simp[Act.eval]) pW hL7 (fun hHeld=>?_) AllReadyH.nil;simp only[Act.put,List.setIfInBounds_toArray,List.set_cons_zero,List.set_cons_succ];refine wpAnyH_ready (rs:=[11]) (by kernel_rfl) (by simp) ?_;obtain⟨v8,w8,nW,R8,hL8,_⟩:=R7.append hHeld FD.out (by simp <;> omega);refine aN (i:=11) (d:=some 44) rfl rfl rfl (.tmp 40) (.tmp 43) 24 24 rfl rfl _ _ _ _ (by simp[Act.eval]) (by simp[Act.eval]) nW hL8 (fun hHeld=>?_) AllReadyH.nil;simp only[Act.put,List.setIfInBounds_toArray,List.set_cons_zero,List.set_cons_succ];refine tkY 12 4 hHeld ?_;refine wpAnyH_done (by kernel_rfl) ?_ _;go_wp2;go_ret;exact⟨v8,_,rfl,R8.jH (by simp <;> omega),zW.out,((aj.refl w).alloc _).trans hL8⟩
  go_simp;have S6:l5 (w.alloc (.cells #[.string f.1,.slice a2 f.2.length c2] 50)) (wz.alloc (.cells #[.string f.1,.slice a2 f.2.length c2] 50)).drew ⟨wz.heap.size,0,none⟩ [f]:=l5.one (w0:=(w.alloc (.cells #[.string f.1,.slice a2 f.2.length c2] 50))) (f:=f) (s:=.slice a2 f.2.length c2) (heap_alloc_new wz (.cells #[.string f.1,.slice a2 f.2.length c2] 50)) (HS.out.later ((aj.refl w).alloc _));have hL3:aj (w.alloc (.cells #[.string f.1,.slice a2 f.2.length c2] 50)) (wz.alloc (.cells #[.string f.1,.slice a2 f.2.length c2] 50)).drew:=(hLz.alloc (.cells #[.string f.1,.slice a2 f.2.length c2] 50)).drew;have hgz:(wz.alloc (.cells #[.string f.1,.slice a2 f.2.length c2] 50)).drew.heap.size=wz.heap.size+1:=by simp
  refine hK.out _ _ hL3 (fun hHeld=>?_);clear hK K;clear hHeld;generalize(wz.alloc (.cells #[.string f.1,.slice a2 f.2.length c2] 50)).drew=w3 at S6 hL3 hgz⊢;have hHeld:=hL3;refine tkC 0 fun K hK=>?_;go_simp;have R5:=iO.empty (w:=w3) (base:=(w.alloc (.cells #[.string f.1,.slice a2 f.2.length c2] 50)).heap.size) hL3.size
  replace S6:=S6.later ((aj.refl w3).alloc (.cells #[] 50))
  have hL5:=hL3.alloc (.cells #[] 50);refine hK.out _ _ hL5 (fun hHeld=>?_);clear hK K;clear hHeld;generalize w3.alloc (.cells #[] 50)=w5 at S6 R5 hL5⊢;have hHeld:=hL5;refine wpAnyH_ready (rs:=[4]) (by kernel_rfl) (by simp) ?_;obtain⟨v4,w6,kE,R6,hL6,hg6,_⟩:=R5.append hHeld FT.out (by simp <;> omega);rw[List.nil_append] at R6
  replace S6:=S6.grown hg6 (by simp[Value.ownBlock];omega)
  refine aN (i:=4) (d:=some 37) rfl rfl rfl (.tmp 33) (.tmp 36) 24 24 rfl rfl _ _ _ _ (by simp[Act.eval]) (by simp[Act.eval]) kE hL6 (fun hHeld=>?_) AllReadyH.nil;simp only[Act.put,List.setIfInBounds_toArray,List.set_cons_zero,List.set_cons_succ];refine wpAnyH_ready (rs:=[7]) (by kernel_rfl) (by simp) ?_;obtain⟨v7,w7,pW,R7,hL7,_⟩:=R6.dJ (cap:=1) hHeld S6 (by simp <;> omega);refine aN (i:=7) (d:=some 40) rfl rfl rfl (.tmp 37) (.tmp 39) 24 24 rfl rfl _ _ _ _ (by simp[Act.eval]) (by simp[Act.eval]) pW hL7 (fun hHeld=>?_) AllReadyH.nil;simp only[Act.put,List.setIfInBounds_toArray,List.set_cons_zero,List.set_cons_succ];refine wpAnyH_ready (rs:=[11]) (by kernel_rfl) (by simp) ?_;obtain⟨v8,w8,nW,R8,hL8,_⟩:=R7.append hHeld FD.out (by simp <;> omega);refine aN (i:=11) (d:=some 44) rfl rfl rfl (.tmp 40) (.tmp 43) 24 24 rfl rfl _ _ _ _ (by simp[Act.eval]) (by simp[Act.eval]) nW hL8 (fun hHeld=>?_) AllReadyH.nil;simp only[Act.put,List.setIfInBounds_toArray,List.set_cons_zero,List.set_cons_succ];refine tkY 12 4 hHeld ?_;refine wpAnyH_done (by kernel_rfl) ?_ _;go_wp2;go_ret;exact⟨v8,_,rfl,R8.jH (by simp <;> omega),zW.out,((aj.refl w).alloc _).trans hL8⟩
 have FD:Hid (Facts (w.alloc (.cells #[.string f.1,.slice a2 f.2.length c2] 50)) (.slice (some ⟨b,off+l.length*2,none⟩) ([]:List aG).length (cap-l.length)) []):=⟨by simp,_,_,rfl,fun h=>absurd rfl h⟩;simp only[List.length_nil] at FD;go_wp2;refine wp_region_held_drew (S:=fun w'=>aj (w.alloc (.cells #[.string f.1,.slice a2 f.2.length c2] 50)) w') (by kernel_rfl) hLz.drew (fun hHeld=>?_);refine tkY 1 34 hHeld ?_;refine tkY 2 35 hHeld ?_;refine tkY 3 36 hHeld ?_;refine tkY 5 38 hHeld ?_ rfl fun w hSw=>by obtain⟨q0,q1⟩:=ED w hSw;go_simp;try with_reducible rfl
 refine tkY 8 41 hHeld ?_;refine tkY 9 42 hHeld ?_;refine tkY 10 43 hHeld ?_;have hbz:=hLz.size;refine wpAnyH_ready (rs:=[0,6]) (by kernel_rfl) (by simp) ?_;refine AllReadyH.cons rfl (fun K hK=>?_) (AllReadyH.cons rfl (fun K hK=>?_) AllReadyH.nil)
 ·go_simp;have R0:iO (wz.alloc (.cells #[] 50)).drew (w.alloc (.cells #[.string f.1,.slice a2 f.2.length c2] 50)).heap.size (.slice (some ⟨wz.heap.size,0,none⟩) 0 0) []:=(iO.empty hbz).later (aj.refl _).drew;have hL1:aj (w.alloc (.cells #[.string f.1,.slice a2 f.2.length c2] 50)) (wz.alloc (.cells #[] 50)).drew:=(hLz.alloc _).drew;have hgz:(wz.alloc (.cells #[] 50)).drew.heap.size=wz.heap.size+1:=by simp
  refine hK.out _ _ hL1 (fun hHeld=>?_);clear hK K;clear hHeld;generalize(wz.alloc (.cells #[] 50)).drew=w1 at R0 hL1 hgz⊢;have hHeld:=hL1;refine wpAnyH_ready (rs:=[4,6]) (by kernel_rfl) (by simp) ?_;obtain⟨v4,w4,kE,R4,hL4,_⟩:=R0.append hHeld FT.out (by simp <;> omega);rw[List.nil_append] at R4;refine aN (i:=4) (d:=some 37) rfl rfl rfl (.tmp 33) (.tmp 36) 24 24 rfl rfl _ _ _ _ (by simp[Act.eval]) (by simp[Act.eval]) kE hL4 (fun hHeld=>?_) (AllReadyH.cons rfl (fun K hK=>?_) AllReadyH.nil)
  ·simp only[Act.put,List.setIfInBounds_toArray,List.set_cons_zero,List.set_cons_succ];clear kE;refine tkC 6 fun K hK=>?_;go_simp;have S6:=l5.one (w0:=(w.alloc (.cells #[.string f.1,.slice a2 f.2.length c2] 50))) (f:=f) (s:=.slice a2 f.2.length c2) (heap_alloc_new w4 (.cells #[.string f.1,.slice a2 f.2.length c2] 50)) (HS.out.later ((aj.refl w).alloc _));have R6:=R4.later ((aj.refl w4).alloc (.cells #[.string f.1,.slice a2 f.2.length c2] 50));have hL6:=hL4.alloc (.cells #[.string f.1,.slice a2 f.2.length c2] 50);refine hK.out _ _ hL6 (fun hHeld=>?_);clear hK K;clear hHeld;generalize w4.heap.size=g6 at S6⊢;generalize w4.alloc (.cells #[.string f.1,.slice a2 f.2.length c2] 50)=w6 at S6 R6 hL6⊢;have hHeld:=hL6;refine wpAnyH_ready (rs:=[7]) (by kernel_rfl) (by simp) ?_;obtain⟨v7,w7,pW,R7,hL7,_⟩:=R6.dJ (cap:=1) hHeld S6 (by simp <;> omega);refine aN (i:=7) (d:=some 40) rfl rfl rfl (.tmp 37) (.tmp 39) 24 24 rfl rfl _ _ _ _ (by simp[Act.eval]) (by simp[Act.eval]) pW hL7 (fun hHeld=>?_) AllReadyH.nil;simp only[Act.put,List.setIfInBounds_toArray,List.set_cons_zero,List.set_cons_succ];refine wpAnyH_ready (rs:=[11]) (by kernel_rfl) (by simp) ?_;obtain⟨v8,w8,nW,R8,hL8,_⟩:=R7.append hHeld FD.out (by simp <;> omega);refine aN (i:=11) (d:=some 44) rfl rfl rfl (.tmp 40) (.tmp 43) 24 24 rfl rfl _ _ _ _ (by simp[Act.eval]) (by simp[Act.eval]) nW hL8 (fun hHeld=>?_) AllReadyH.nil
   simp only[Act.put,List.setIfInBounds_toArray,List.set_cons_zero,List.set_cons_succ];refine tkY 12 4 hHeld ?_;refine wpAnyH_done (by kernel_rfl) ?_ _;go_wp2;go_ret;exact⟨v8,_,rfl,R8.jH (by simp <;> omega),zW.out,((aj.refl w).alloc _).trans hL8⟩
  clear kE R4 hL4;go_simp;have S6:=l5.one (w0:=(w.alloc (.cells #[.string f.1,.slice a2 f.2.length c2] 50))) (f:=f) (s:=.slice a2 f.2.length c2) (heap_alloc_new w1 (.cells #[.string f.1,.slice a2 f.2.length c2] 50)) (HS.out.later ((aj.refl w).alloc _));have R5:=R0.later ((aj.refl w1).alloc (.cells #[.string f.1,.slice a2 f.2.length c2] 50));have hL5:=hL1.alloc (.cells #[.string f.1,.slice a2 f.2.length c2] 50);refine hK.out _ _ hL5 (fun hHeld=>?_);clear hK K;clear hHeld;generalize w1.alloc (.cells #[.string f.1,.slice a2 f.2.length c2] 50)=w5 at S6 R5 hL5⊢;have hHeld:=hL5;refine wpAnyH_ready (rs:=[4]) (by kernel_rfl) (by simp) ?_;obtain⟨v4,w6,kE,R6,hL6,hg6,_⟩:=R5.append hHeld FT.out (by simp <;> omega);rw[List.nil_append] at R6
  replace S6:=S6.grown hg6 (by simp[Value.ownBlock];omega)
  refine aN (i:=4) (d:=some 37) rfl rfl rfl (.tmp 33) (.tmp 36) 24 24 rfl rfl _ _ _ _ (by simp[Act.eval]) (by simp[Act.eval]) kE hL6 (fun hHeld=>?_) AllReadyH.nil;simp only[Act.put,List.setIfInBounds_toArray,List.set_cons_zero,List.set_cons_succ];refine wpAnyH_ready (rs:=[7]) (by kernel_rfl) (by simp) ?_;obtain⟨v7,w7,pW,R7,hL7,_⟩:=R6.dJ (cap:=1) hHeld S6 (by simp <;> omega);refine aN (i:=7) (d:=some 40) rfl rfl rfl (.tmp 37) (.tmp 39) 24 24 rfl rfl _ _ _ _ (by simp[Act.eval]) (by simp[Act.eval]) pW hL7 (fun hHeld=>?_) AllReadyH.nil;simp only[Act.put,List.setIfInBounds_toArray,List.set_cons_zero,List.set_cons_succ];refine wpAnyH_ready (rs:=[11]) (by kernel_rfl) (by simp) ?_;obtain⟨v8,w8,nW,R8,hL8,_⟩:=R7.append hHeld FD.out (by simp <;> omega);refine aN (i:=11) (d:=some 44) rfl rfl rfl (.tmp 40) (.tmp 43) 24 24 rfl rfl _ _ _ _ (by simp[Act.eval]) (by simp[Act.eval]) nW hL8 (fun hHeld=>?_) AllReadyH.nil;simp only[Act.put,List.setIfInBounds_toArray,List.set_cons_zero,List.set_cons_succ];refine tkY 12 4 hHeld ?_;refine wpAnyH_done (by kernel_rfl) ?_ _;go_wp2;go_ret;exact⟨v8,_,rfl,R8.jH (by simp <;> omega),zW.out,((aj.refl w).alloc _).trans hL8⟩
 go_simp;have S6:l5 (w.alloc (.cells #[.string f.1,.slice a2 f.2.length c2] 50)) (wz.alloc (.cells #[.string f.1,.slice a2 f.2.length c2] 50)).drew ⟨wz.heap.size,0,none⟩ [f]:=l5.one (w0:=(w.alloc (.cells #[.string f.1,.slice a2 f.2.length c2] 50))) (f:=f) (s:=.slice a2 f.2.length c2) (heap_alloc_new wz (.cells #[.string f.1,.slice a2 f.2.length c2] 50)) (HS.out.later ((aj.refl w).alloc _));have hL3:aj (w.alloc (.cells #[.string f.1,.slice a2 f.2.length c2] 50)) (wz.alloc (.cells #[.string f.1,.slice a2 f.2.length c2] 50)).drew:=(hLz.alloc (.cells #[.string f.1,.slice a2 f.2.length c2] 50)).drew;have hgz:(wz.alloc (.cells #[.string f.1,.slice a2 f.2.length c2] 50)).drew.heap.size=wz.heap.size+1:=by simp
 refine hK.out _ _ hL3 (fun hHeld=>?_);clear hK K;clear hHeld;generalize(wz.alloc (.cells #[.string f.1,.slice a2 f.2.length c2] 50)).drew=w3 at S6 hL3 hgz⊢;have hHeld:=hL3;refine tkC 0 fun K hK=>?_;go_simp;have R5:=iO.empty (w:=w3) (base:=(w.alloc (.cells #[.string f.1,.slice a2 f.2.length c2] 50)).heap.size) hL3.size
 replace S6:=S6.later ((aj.refl w3).alloc (.cells #[] 50))
 have hL5:=hL3.alloc (.cells #[] 50);refine hK.out _ _ hL5 (fun hHeld=>?_);clear hK K;clear hHeld;generalize w3.alloc (.cells #[] 50)=w5 at S6 R5 hL5⊢;have hHeld:=hL5;refine wpAnyH_ready (rs:=[4]) (by kernel_rfl) (by simp) ?_;obtain⟨v4,w6,kE,R6,hL6,hg6,_⟩:=R5.append hHeld FT.out (by simp <;> omega);rw[List.nil_append] at R6
 replace S6:=S6.grown hg6 (by simp[Value.ownBlock];omega)
 refine aN (i:=4) (d:=some 37) rfl rfl rfl (.tmp 33) (.tmp 36) 24 24 rfl rfl _ _ _ _ (by simp[Act.eval]) (by simp[Act.eval]) kE hL6 (fun hHeld=>?_) AllReadyH.nil;simp only[Act.put,List.setIfInBounds_toArray,List.set_cons_zero,List.set_cons_succ];refine wpAnyH_ready (rs:=[7]) (by kernel_rfl) (by simp) ?_;obtain⟨v7,w7,pW,R7,hL7,_⟩:=R6.dJ (cap:=1) hHeld S6 (by simp <;> omega);refine aN (i:=7) (d:=some 40) rfl rfl rfl (.tmp 37) (.tmp 39) 24 24 rfl rfl _ _ _ _ (by simp[Act.eval]) (by simp[Act.eval]) pW hL7 (fun hHeld=>?_) AllReadyH.nil;simp only[Act.put,List.setIfInBounds_toArray,List.set_cons_zero,List.set_cons_succ];refine wpAnyH_ready (rs:=[11]) (by kernel_rfl) (by simp) ?_;obtain⟨v8,w8,nW,R8,hL8,_⟩:=R7.append hHeld FD.out (by simp <;> omega);refine aN (i:=11) (d:=some 44) rfl rfl rfl (.tmp 40) (.tmp 43) 24 24 rfl rfl _ _ _ _ (by simp[Act.eval]) (by simp[Act.eval]) nW hL8 (fun hHeld=>?_) AllReadyH.nil;simp only[Act.put,List.setIfInBounds_toArray,List.set_cons_zero,List.set_cons_succ];refine tkY 12 4 hHeld ?_;refine wpAnyH_done (by kernel_rfl) ?_ _;go_wp2;go_ret;exact⟨v8,_,rfl,R8.jH (by simp <;> omega),zW.out,((aj.refl w).alloc _).trans hL8⟩
theorem iX.snoc {r r' m:List aG} {f:aG} (h:iX r m) (k:iX r' (r++[f])):iX r' (m++[f]):=
 ⟨k.1,fun g=>by rw[k.2.1 g,List.mem_append,List.mem_append,h.2.1 g],by have:=k.2.2;have:=h.2.2;simp at*;omega⟩
theorem BN:iX [] []:=⟨List.Pairwise.nil,fun _=>Iff.rfl,Nat.le_refl _⟩
theorem rP (w:World):fM w (.slice none 0 0) []:=⟨⟨by simp,none,0,rfl,fun h=>absurd rfl h⟩,Or.inl ⟨rfl,rfl⟩⟩
theorem rOf (v:Value) (l:List aG) (w:World) (h:Facts w v l) (hn:l.length≤4194304):
  Calls Tryz.prog 45 #[v] w fun e w'=>∃v' r,e=.returned v'∧fM w' v' r∧iX r l∧aj w w':=by
 have HF:=au h;obtain⟨a,cap,rfl,_,hz⟩:=h.addr;clear h
 go_enter Tryz.func45,Tryz.ntmps45
 go_wp2
 go_loopw [3,8] (fun o i wr=>∃k:Nat,∃r,k≤l.length∧i=.int .i64 k∧Hid (fM wr o r)∧Hid (iX r (l.take k))∧aj w wr) (fun _ i _=>l.length- (intOf i).toNat)
 case atStart=>exact⟨0,[],by omega,rfl,rP _,(by rw[List.take_zero];exact BN:iX _ _),aj.refl _⟩
 obtain⟨k,r,hk,rfl,HO,HS,hL⟩:=hrel
 by_cases hlt:k<l.length
 ·rcases hz with rfl|⟨b,off,rfl⟩;·simp at hlt
  have hltz:(k:Int)<(l.length:Int):=by omega
  obtain⟨hb,ax,lx,cx,g1,g2,fx⟩:=(HF.out.later hL).at hlt;have hrl:r.length≤4194304:=by have:=HS.out.2.2;rw[List.length_take] at this;omega
  have HC:=au fun w' (hw:aj wr w')=>JQ u3 _ r (l.getD k aA) w' (HO.out.later hw) (fx.later hw) HS.out.1 (by omega);have HT:=au (take_succ hlt);generalize l.getD k aA=f at*;obtain⟨nk,lk⟩:=f;clear fx;dsimp only at*
  go_wp2_with fail
  refine(HC.out _ ((aj.refl _).alloc _)).mono ?_;rintro e w1 ⟨v1,r1,rfl,hF1,hS1,hL1⟩;have HF1:=au hF1;have HS1:=au hS1;clear hF1 hS1;go_wp2
  go_roundw
  case rel=>exact⟨k+1,r1,by omega,by go_num,HF1,(by rw[HT.out];exact HS.out.snoc HS1.out:iX _ _),hL.trans (((aj.refl _).alloc _).trans hL1)⟩
  case measure=>simp[intOf];omega
 go_wp2;go_ret;obtain rfl:k=l.length:=by omega
 exact⟨_,r,rfl,HO.out,by have:=HS.out;rwa [List.take_length] at this,hL⟩
theorem FJ (va vb:Value) (la lb:List aG) (w:World) (ha:Facts w va la) (h:Facts w vb lb) (hna:la.length≤4194304) (hnb:lb.length≤4194304):
  Calls Tryz.prog 24 #[va,vb] w fun e w'=>∃v' r,e=.returned v'∧fM w' v' r∧iX r (la++lb)∧aj w w':=by
 have HF:=au h;have hO:=au (rOf va la w ha hna);obtain⟨a,cap,rfl,_,hz⟩:=h.addr;obtain⟨a0,cap0,rfl⟩:=aC ha;clear h ha
 go_enter Tryz.func24,Tryz.ntmps24
 go_wp2_with fail
 refine hO.out.mono ?_;rintro e w0 ⟨v0,r0,rfl,hF0,hS0,hL0⟩;have HF0:=au hF0;have HS0:=au hS0;clear hF0 hS0;go_wp2
 go_loopw [5,12] (fun o i wr=>∃k:Nat,∃r,k≤lb.length∧i=.int .i64 k∧Hid (fM wr o r)∧Hid (iX r (la++lb.take k))∧aj w wr) (fun _ i _=>lb.length- (intOf i).toNat)
 case atStart=>exact⟨0,r0,by omega,rfl,HF0,(by rw[List.take_zero,List.append_nil];exact HS0.out:iX _ _),hL0⟩
 obtain⟨k,r,hk,rfl,HO,HS,hL⟩:=hrel
 by_cases hlt:k<lb.length
 ·rcases hz with rfl|⟨b,off,rfl⟩;·simp at hlt
  have hltz:(k:Int)<(lb.length:Int):=by omega
  obtain⟨hb,ax,lx,cx,g1,g2,fx⟩:=(HF.out.later hL).at hlt;have hrl:r.length≤8388608:=by have:=HS.out.2.2;rw[List.length_append,List.length_take] at this;omega
  have HC:=au fun w' (hw:aj wr w')=>JQ u5 _ r (lb.getD k aA) w' (HO.out.later hw) (fx.later hw) HS.out.1 (by omega);have HT:=au (take_succ hlt);generalize lb.getD k aA=f at*;obtain⟨nk,lk⟩:=f;clear fx;dsimp only at*
  go_wp2_with fail
  refine(HC.out _ ((aj.refl _).alloc _)).mono ?_;rintro e w1 ⟨v1,r1,rfl,hF1,hS1,hL1⟩;have HF1:=au hF1;have HS1:=au hS1;clear hF1 hS1;go_wp2
  go_roundw
  case rel=>exact⟨k+1,r1,by omega,by go_num,HF1,(by rw[HT.out,←List.append_assoc];exact HS.out.snoc HS1.out:iX _ _),hL.trans (((aj.refl _).alloc _).trans hL1)⟩
  case measure=>simp[intOf];omega
 go_wp2;go_ret;obtain rfl:k=lb.length:=by omega
 exact⟨_,r,rfl,HO.out,by have:=HS.out;rwa [List.take_length] at this,hL⟩
theorem Ih (va vb:Value) (la lb:List aG) (w:World) (ha:Facts w va la) (hb:Facts w vb lb):
  Calls Tryz.prog 26 #[va,vb] w fun e w'=>∃v',e=.returned v'∧Facts w' v' (la.filter fun f=> !bV lb f 0)∧aj w w':=by
 have HA:=au ha;have HB:=au hb;obtain⟨a,cap,rfl,hn,hz⟩:=ha.addr;obtain⟨a0,cap0,rfl⟩:=aC hb;clear ha hb
 go_enter Tryz.func26,Tryz.ntmps26
 go_wp2
 go_loopw [5,10] (fun o i wr=>∃k:Nat,k≤la.length∧i=.int .i64 k∧Hid (iO wr w.heap.size o ((la.take k).filter fun f=> !bV lb f 0))∧aj w wr) (fun _ i _=>la.length- (intOf i).toNat)
 case atStart=>exact⟨0,by omega,rfl,(by rw[List.take_zero];exact iO.nil _ _:iO _ _ _ _),aj.refl _⟩
 obtain⟨k,hk,rfl,HO,hL⟩:=hrel
 by_cases hlt:k<la.length
 ·rcases hz with rfl|⟨b,off,rfl⟩;·simp at hlt
  have hltz:(k:Int)<(la.length:Int):=by omega
  obtain⟨hb0,ax,lx,cx,g1,g2,fx⟩:=HA.out.at hlt;have hb:b<wr.heap.size:=Nat.lt_of_lt_of_le hb0 hL.size;rw[←hL.cell (p:=⟨b,off+k*2,none⟩) hb0] at g1;rw[←hL.cell (p:=⟨b,off+k*2+1,none⟩) hb0] at g2;have HC:=au fun w' (hw:aj wr w')=>rIn _ _ lb (la.getD k aA) w' (HB.out.later (hL.trans hw)) (fx.later (hL.trans hw));have HT:Hid ((la.take (k+1)).filter (fun f=> !bV lb f 0)=(la.take k).filter (fun f=> !bV lb f 0)++if bV lb (la.getD k aA) 0 then[] else[la.getD k aA]):=by show _=_;rw[take_succ hlt,List.filter_append];generalize la.getD k aA=x;cases h:bV lb x 0 <;> simp[h]
  have hfl:((la.take k).filter fun f=> !bV lb f 0).length≤k:=Nat.le_trans (List.length_filter_le _ _) (List.length_take_le _ _);generalize la.getD k aA=f at*;obtain⟨s,es,hs⟩:=fx;obtain⟨nk,lk⟩:=f;dsimp only at*;have es':Value.slice ax lx cx=s:=by simpa using es
  subst es';have HSt:=au hs;clear hs es;cases hin:bV lb (nk,lk) 0
  ·rw[hin] at HC HT
   go_wp2_with fail
   refine(HC.out _ ((aj.refl _).alloc _)).mono ?_;rintro e w1 ⟨rfl,hL1⟩;have Ii:aj wr w1:=((aj.refl _).alloc _).trans hL1;have z0:w1.cell? ⟨wr.heap.size,0,none⟩=some (.string nk):=by rw[hL1.cell (by simp)];simp
   have z1:w1.cell? ⟨wr.heap.size,1,none⟩=some (.slice ax lx cx):=by rw[hL1.cell (by simp)];simp
   have S1:=l5.one (w0:=w) (f:=(nk,lk)) (s:=.slice ax lx cx) (heap_alloc_new w1 (.cells #[.string nk,.slice ax lx cx] 50)) HSt.out;obtain⟨v2,w2,Ep,R2,hL2,_⟩:=(HO.out.later (Ii.alloc (.cells #[.string nk,.slice ax lx cx] 50))).dJ (cap:=1) ((hL.trans Ii).alloc _) S1 (by simp;omega);have RUN:=au Ep;have HR2:=au R2;clear Ep R2 S1
   go_wp2_with (at_builtin;refine wpList_append_run rfl (.tmp 18) (.tmp 20) 24 rfl _ _ _ _ rfl rfl RUN.out ?_)
   go_roundw
   case rel=>exact⟨k+1,by omega,by go_num,(by rw[HT.out];exact HR2.out:iO _ _ _ _),hL2⟩
   case measure=>simp[intOf];omega
  rw[hin] at HC HT
  go_wp2_with fail
  refine(HC.out _ ((aj.refl _).alloc _)).mono ?_;rintro e w1 ⟨rfl,hL1⟩;have Ii:aj wr w1:=((aj.refl _).alloc _).trans hL1;go_wp2
  go_roundw
  case rel=>exact⟨k+1,by omega,by go_num,(by rw[HT.out,if_pos trivial,List.append_nil];exact HO.out.later Ii:iO _ _ _ _),hL.trans Ii⟩
  case measure=>simp[intOf];omega
 go_wp2;go_ret;obtain rfl:k=la.length:=by omega
 have HO2:=HO.out;rw[List.take_length] at HO2;exact⟨_,rfl,HO2.facts (Nat.le_trans (List.length_filter_le _ _) hn),hL⟩
end Go.Proofs.YthngiikhgplldaaGreatDoor
