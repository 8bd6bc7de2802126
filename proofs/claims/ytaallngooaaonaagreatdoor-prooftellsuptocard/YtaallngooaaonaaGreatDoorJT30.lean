import Derived.Test.YtaallngooaaonaaGreatDoorJT29
import Derived.Test.YtaallngooaaonaaGreatDoorJT24
open Go.RowKit Go.Sort Go.Maps
set_option maxHeartbeats 8000000
set_option maxRecDepth 100000
namespace Go.Proofs.YtaallngooaaonaaGreatDoor
theorem AY {l:List ByteArray} {a:Addr} {cap:Nat} {w:World} (hs:Strs w (.slice (some a) l.length cap) l) (hl:l.length≤1000000):
  ∃v' w',(Builtin.append_ #[25,25] 25 #[.slice (some ⟨w.heap.size,0,none⟩) 0 0,.slice (some a) l.length cap]).run Tryz.prog (w.alloc (.cells #[] 9))=.ok v' w'∧bsK.own 9 0 w' v' l∧(w.alloc (.cells #[] 9)).grownBy w' (some w.heap.size)∧∀k,v'.ownBlock=some k→w.heap.size≤k:=by
 obtain⟨i,z,i1,i2,i3,i4,i5⟩:=K9;obtain⟨xs,ho,_⟩:bsK.own 9 0 (w.alloc (.cells #[] 9)) (.slice (some ⟨w.heap.size,0,none⟩) 0 0) []:=uQ bsK 9 w;have hxs:xs=[]:=List.eq_nil_of_length_eq_zero (by have:=ho.1;simpa using this);subst hxs;have hcell:∀(j:Nat) u,(l.map Value.string)[j]?=some u→(w.alloc (.cells #[] 9)).cell? (a.add j)=some u:=fun j u hu=>by
  have hj:j<l.length:=by have:=(List.getElem?_eq_some_iff.1 hu).1;simpa using this
  obtain⟨_,a',cap',e,h1⟩:=hs;simp only[Value.slice.injEq] at e;obtain⟨rfl,_,_⟩:=e;obtain⟨b,off,e,hb,hc⟩:=h1 (by intro e;rw[e] at hj;simp at hj);simp only[Option.some.injEq] at e;subst e;have:=hc j hj;rw[Addr.add_lit,World.cell?_of_block (w:=w) (Below.heap_alloc w _ b hb),this];rw[List.getElem?_map,List.getElem?_eq_getElem hj] at hu;rw[List.getD_eq_getElem?_getD,List.getElem?_eq_getElem hj];simpa using hu
 obtain⟨v',w',hrun,r1,r2,r3,r4⟩:=dZ (P:=Tryz.prog) (w.alloc (.cells #[] 9)) 0 25 25 9 i z 1 16 Tryz.underlying25 i1 i2 i3 i4 i5 (by decide) _ 0 [] ho a l.length cap (l.map Value.string) (by simp) hcell (fun u hu=>by rw[List.mem_map] at hu;obtain⟨x,_,rfl⟩:=hu;rfl) (by simp only[maxLen];omega) (by omega) (Nat.zero_le _);refine⟨v',w',hrun,⟨l.map Value.string,by have h:=r1;simp only[List.nil_append,Nat.zero_add] at h;exact h,fun j x hj=>⟨[.string x],rfl,fun q u hu=>?_⟩⟩,r2,fun k e=>?_⟩
 ·rcases q with _|q
  ·simp at hu;subst hu;show(l.map Value.string)[j*1+0]?=_;rw[Nat.mul_one,Nat.add_zero,List.getElem?_map,hj]
   rfl
  simp at hu
 rcases r4 k e with h|h;·simp[Value.ownBlock] at h;omega
 simp at h;omega
theorem Fy (l:List ByteArray) (v:Value) (w:World) (h:Strs w v l) (hl:l.length≤1000000):
  Calls Tryz.prog 42 #[v] w fun e w'=>∃v',e=.returned v'∧bsK.own 9 0 w' v' l∧(∀k,v'.ownBlock=some k→w.heap.size≤k)∧Below w.heap.size w w':=by
 obtain⟨a,cap,rfl⟩:=bA h;cases a with
 |none=>
  have hl0:l=[]:=by refine Classical.byContradiction fun hne=>?_;obtain⟨_,a',cap',e,h1⟩:=h;simp only[Value.slice.injEq] at e;obtain⟨rfl,_,_⟩:=e;obtain⟨b,off,e,_⟩:=h1 hne;cases e
  subst hl0;have hnil:=fun w=>Lib.run_eql_slice_nil (P:=Tryz.prog) w 25 9 none 0 cap 0 0 Tryz.underlying25;clear h hl;simp only[List.length_nil]
  go_enter Tryz.func42,Tryz.ntmps42
  go_wp2;go_ret;exact⟨_,rfl,bsK.fD _ _ _,fun k e=>(by cases e),Below.refl _ _⟩
 |some b=>
  have hnil:=fun w=>Lib.run_eql_slice_nil (P:=Tryz.prog) w 25 9 (some b) l.length cap 0 0 Tryz.underlying25;obtain⟨v',w',hrun,hR,hg,hk⟩:=AY h hl;have HB:Hid (Below w.heap.size w w'):=(((ak.refl w).alloc (.cells #[] 9)).below).grown hg (by simp) (fun k e=>by simp at e;omega);have HK:=au hk;have HR:=au hrun;have HF:=au hR;clear hrun hR hg hk h
  go_enter Tryz.func42,Tryz.ntmps42
  go_wp2_with (at_builtin;refine wpList_append_run rfl (.tmp 5) (.tmp 6) 25 rfl _ _ _ _ rfl rfl HR.out ?_)
  go_ret;exact⟨v',rfl,HF.out,HK.out,HB.out⟩
structure Gq (w0 wF:World) (P lo mb:Nat) (p:List aG) (told all:List aA) (PS:List (List aA)) (pv tv av sv:Value) (xs:List Value):Prop where
 gp:Gp wF P lo mb av sv xs all PS
 gr:Grd w0 P p told all PS pv tv
 lm:w0.heap.size≤mb
 b0:Below w0.heap.size w0 wF
 cl:∀f∈all,(∀g∈(mQ (jv all) p told all PS f).2,g∈all)∧(mQ (jv all) p told all PS f).2.length≤1000
 ag:∀f∈all,f.2.length≤1000
 pi:og pv∧og tv
theorem uT {P:Nat} {w w':World} {v:Value} {l:List ByteArray} (hn:pW w P) (k:Tn P w w') (h:Strs w v l):Strs w' v l:=by obtain⟨h0,a,cap,rfl,h1⟩:=h;refine⟨h0,a,cap,rfl,fun hl=>?_⟩;obtain⟨b,off,rfl,hb,hc⟩:=h1 hl;refine⟨b,off,rfl,Nat.lt_of_lt_of_le hb k.size,fun i hi=>?_⟩;rw[World.cell?_of_block (w:=w) (k.block b hb (fun e=>by subst e;exact hn _ _ (hc i hi)))];exact hc i hi
theorem PvS.xJ {B:Nat→Prop} {wF w:World} {P lo mb:Nat} {pv tv av sv:Value} {xs:List Value} {c d:Int} {n:Nat} {all:List aA} {PS:List (List aA)} {how:aA→Int×List aA} (h:PvS B wF w P mb pv tv av sv c d n all how) (hp:og pv) (ht:og tv) (G:Gp wF P lo mb av sv xs all PS):pW w P:=by
 have ha:og av:=by obtain⟨a,c,e⟩:=aF G.fa;exact⟨a,_,c,e⟩
 exact h.row.xJ hp ht ha G.past.og
theorem xO (w0 wF:World) (P lo mb:Nat) (p:List aG) (told all:List aA) (PS:List (List aA)) (pv tv av sv:Value) (xs:List Value) (hG:Gq w0 wF P lo mb p told all PS pv tv av sv xs) (N:Nat) (ih:1≤N→Jb all P mb pv tv av sv wF (mQ (jv all) p told all PS) N):Jb all P mb pv tv av sv wF (mQ (jv all) p told all PS) (N+1):=by
 intro B f fv dep c d n w hN hB1 hB2 hS hnc hc4 hd6 hfa hf;obtain⟨how,DY⟩:∃how,how=mQ (jv all) p told all PS:=⟨_,rfl⟩;rw[←DY] at hS ih⊢;obtain⟨s,rfl,hs⟩:=hf;obtain⟨sa,sc,rfl⟩:=bA hs;have hne:=hG.gp.ne;have hlo1:=hG.gp.lo1;have hlo2:=hG.gp.lo2;have hlo3:=hG.gp.lo3;have YA:=hS.kq.size;obtain⟨w1,hw1⟩:∃w1,w1=(w.alloc (.cells #[.string f.1,.slice sa f.2.length sc] 27)).alloc (.cells #[.string ⟨#[]⟩,.slice none 0 0,.int .i64 0,.slice none 0 0] 30):=⟨_,rfl⟩;have hL1:ak w w1:=by rw[hw1];exact((ak.refl w).alloc _).alloc _
 have hs1:w1.heap.size=w.heap.size+2:=by rw[hw1];simp
 have hr0:w1.heap[w.heap.size]?=some (.cells #[.string f.1,.slice sa f.2.length sc] 27 (0,0)):=by
  rw[hw1];simp only[bV,World.size_alloc]
  repeat (first|rw[if_pos trivial]|rw[if_pos (by omega)]|rw[if_neg (by omega)])
 have hr1:w1.heap[w.heap.size+1]?=some (.cells #[.string ⟨#[]⟩,.slice none 0 0,.int .i64 0,.slice none 0 0] 30 (0,0)):=by
  rw[hw1];simp only[bV,World.size_alloc]
  repeat (first|rw[if_pos trivial]|rw[if_pos (by omega)]|rw[if_neg (by omega)])
 obtain⟨c1,hc1⟩:∃c1:Nat,c1=c+1:=⟨_,rfl⟩;obtain⟨d1,hd1⟩:∃d1:Nat,d1=max d dep:=⟨_,rfl⟩;have hci:(c1:Int)=(c:Int)+1:=by omega
 have hdi:(d1:Int)=max (d:Int) (dep:Int):=by omega
 have hS1:=(hS.mono (B':=fun k=>B k∧k≠w.heap.size∧k≠w.heap.size+1) fun k hk hb=>⟨hb,by omega,by omega⟩).below hL1.below;obtain⟨w2,hw2⟩:∃w2,w2=w1.setCell ⟨P,3,none⟩ (.int .i64 ((c:Int)+1)):=⟨_,rfl⟩;have hS2:PvS (fun k=>B k∧k≠w.heap.size∧k≠w.heap.size+1) wF w2 P mb pv tv av sv (c1:Int) (d:Int) n all how:=by rw[hw2,hci];exact hS1.counts hne (fun k hb=>(hB1 k hb.1).2) 3 _ _ _ (Or.inl ⟨rfl,rfl,rfl⟩)
 obtain⟨w3,hw3⟩:∃w3,w3=w2.setCell ⟨P,4,none⟩ (.int .i64 (max (d:Int) (dep:Int))):=⟨_,rfl⟩;have hS3:PvS (fun k=>B k∧k≠w.heap.size∧k≠w.heap.size+1) wF w3 P mb pv tv av sv (c1:Int) (d1:Int) n all how:=by rw[hw3,hdi];exact hS2.counts hne (fun k hb=>(hB1 k hb.1).2) 4 _ _ _ (Or.inr ⟨rfl,rfl,rfl⟩)
 have hPw:=hS.cells.2.2.2.2.1;have QJ:Tn P w1 w3:=by rw[hw3,hw2];exact Tn.setCell (p:=P) (Tn.setCell (p:=P) (Tn.refl _ _) (x:=⟨P,3,none⟩) (Or.inl rfl) _) (x:=⟨P,4,none⟩) (Or.inl rfl) _
 have hs3:w3.heap.size=w.heap.size+2:=by rw[hw3,hw2,size_setCell,size_setCell,hs1]
 have Fz:w3.heap[w.heap.size]?=some (.cells #[.string f.1,.slice sa f.2.length sc] 27 (0,0)):=(QJ.block _ (by omega) (by omega)).trans hr0;have sG:w3.heap[w.heap.size+1]?=some (.cells #[.string ⟨#[]⟩,.slice none 0 0,.int .i64 0,.slice none 0 0] 30 (0,0)):=(QJ.block _ (by omega) (by omega)).trans hr1;have Wd:Kq P mb w w3:=(Kq.of_below hL1.below).trans (Kq.Ot QJ);obtain⟨a3,_,a5,_,_,_⟩:=hS1.cells;obtain⟨_,b4,_,b6,_,_⟩:=hS2.cells;obtain⟨g3,_,_,_,_,g8⟩:=hS3.cells;have HMu:=au (Np c1 d1 w3);have HC1:=au hc1;have HD1:=au hd1;clear hc1 hd1 hci hdi;have HW1:=au hw1;have HW2:=au hw2;have HW3:=au hw3;have HS3:=au hS3;have HR0:=au Fz;have HR1:=au sG;have HK3:=au Wd;have HG:=au hG;have HB1:=au hB1;have HB2:=au hB2;have HIh:=au ih;have Ov:=au DY;have Wh:Strs w3 (.slice sa f.2.length sc) f.2:=uT (hS1.xJ hG.pi.1 hG.pi.2 hG.gp) QJ (hs.later hL1);have QK:=au Wh;clear hG hB1 hB2 hS hs DY ih hw1 hw2 hw3 hL1 hr0 hr1 hS1 hS2 hS3 QJ Fz sG Wd Wh;obtain⟨fn,aH⟩:=f;dsimp only at*
 go_enter Tryz.func21,Tryz.ntmps21
 go_wp2_with (first|(rw[←HW1.out])|(rw[←HW2.out])|(rw[←HW3.out])|fail)
 refine HMu.out.mono ?_;rintro e w4 ⟨rfl,hL4⟩;have T9:=hL4.size;have hS4:=HS3.out.below hL4.below;have Kh:=(hL4.block (by omega:w.heap.size<w3.heap.size)).trans HR0.out;have vN:=(hL4.block (by omega:w.heap.size+1<w3.heap.size)).trans HR1.out;have hK4:Kq P mb w w4:=HK3.out.trans (Kq.of_below hL4.below);have HS4:=au hS4;have Uk:=au Kh;have Lh:=au vN;have HK4:=au hK4;have Pp:=au (QK.out.later hL4);have HFin:Hid (∀(x0 x1 x2 x3:Value) (wr:World),wr.heap[w.heap.size+1]?=some (.cells #[.string ⟨#[]⟩,.slice none 0 0,.int .i64 0,.slice none 0 0] 30 (0,0))→Kq P mb w wr→Kq P mb w (qR wr (w.heap.size+1) x0 x1 x2 x3)):=fun x0 x1 x2 x3 wr hr hK=>by have hT:=mK wr (w.heap.size+1) x0 x1 x2 x3;exact⟨hT.os.trans hK.os,hT.tape.trans hK.tape,hT.output.trans hK.output,Nat.le_trans hK.size hT.size,fun k hk h1 h2=>(hT.block k (Nat.lt_of_lt_of_le hk hK.size) (by omega)).trans (hK.block k hk h1 h2)⟩
 have HTu:Hid (∀(B':Nat→Prop) (cx dx:Int) (nx:Nat) (x0 x1 x2 x3:Value) (wr:World),(∀k,B' k→k≠w.heap.size+1)→PvS B' wF wr P mb pv tv av sv cx dx nx all how→PvS B' wF (qR wr (w.heap.size+1) x0 x1 x2 x3) P mb pv tv av sv cx dx nx all how):=fun B' cx dx nx x0 x1 x2 x3 wr hb hS=>by
  have hT:=mK wr (w.heap.size+1) x0 x1 x2 x3;refine hS.turned hT.os hT.tape hT.output hT.size fun k hk h=>hT.block k hk ?_;rcases h with h|h|h|h
  ·omega
  ·omega
  ·omega
  exact hb k h
 clear hS4 Kh hK4 HMu g3 g8 a3 a5 b4 b6 HS3 HR0 HR1 HK3 QK;cases hm:ig (c1,d1) with
 |true=>
  have HX:Hid (bI how (N+1) (fn,aH) dep (c,d)=(none,(c1,d1))):=by show _=_;unfold bI;dsimp only;rw[←HC1.out,←HD1.out,if_pos hm]
  have HK:=au (HFin.out (.string ⟨#[]⟩) (.slice none 0 0) (.int .i64 0) (.slice none 0 0) w4 Lh.out HK4.out);have HP:=au (HTu.out _ _ _ _ (.string ⟨#[]⟩) (.slice none 0 0) (.int .i64 0) (.slice none 0 0) w4 (fun k hb=>hb.2.2) HS4.out);have HZ:=au (dG (gG Lh.out (.string ⟨#[]⟩) (.slice none 0 0) (.int .i64 0) (.slice none 0 0))).1;obtain⟨_,_,⟨t0,t1,t2,t3⟩,_⟩:=dG vN;clear hm vN HFin HTu HIh HG hL4;go_wp2;obtain⟨z0,z1,z2,z3⟩:=HZ.out;unfold qR at z0 z1 z2 z3;have hc1:=HC1.out;refine bodyPost_ret (v:=.tuple #[iQ,.int .i64 4]) (by simp[results,Tryz.results21,go_sem,z0,z1,z2,z3];rfl) rfl ⟨iQ,4,n,rfl,?_,?_,?_,HK.out⟩
  ·rw[HX.out];exact⟨rfl,rfl⟩
  ·rw[HX.out];exact HP.out.mono fun k _ hb=>hb.1
  rw[HX.out];show n≤c1;omega
 |false=>
  have hcd:c1≤400∧d1≤60:=by unfold ig at hm;simp only[Bool.or_eq_false_iff,decide_eq_false_iff_not] at hm;omega
  have hN1:1≤N:=by have:=HD1.out;omega
  have hNc:n≤1000:=by omega
  obtain⟨rl,of,hho⟩:∃rl of,how (fn,aH)=(rl,of):=⟨_,_,rfl⟩;have HPG:Hid (bI how (N+1) (fn,aH) dep (c,d)=((lC (fun g s=>bI how N g (dep+1) s) of [] (c1,d1)).1.map (bG.mk (fn,aH) rl),(lC (fun g s=>bI how N g (dep+1) s) of [] (c1,d1)).2)):=by
   show _=_
   conv=>lhs;unfold bI
   dsimp only;rw[←HC1.out,←HD1.out,if_neg (by rw[hm];simp),hho];unfold lC;dsimp only;cases(kL (fun g s=>bI how N g (dep+1) s) of (c1,d1)).1 <;> rfl
  have Wi:Below w0.heap.size w0 w4:=aj HG.out.b0 ((HS4.out.kq).below HG.out.gr.low HG.out.lm HG.out.b0.size) (Nat.le_refl _);have Wj:dD w4 (.agg #[.string fn,.slice sa aH.length sc]) (fn,aH):=⟨_,rfl,Pp.out⟩;have hWy:=Uf (fun k=>B k∧k≠w.heap.size∧k≠w.heap.size+1) p told all PS (fn,aH) P lo pv tv (.agg #[.string fn,.slice sa aH.length sc]) (c1:Int) (d1:Int) mb n w0 w4 HG.out.gr Wi (by rw[←Ov.out];exact HS4.out.prx HG.out.gp) (fun k hb=>(HB1.out k hb.1).1) (fun k hk=>⟨HB2.out k (by omega),by omega,by omega⟩) Wj hfa hNc;rw[←Ov.out,hho] at hWy;have HWy:=au hWy;have hcl:=HG.out.cl (fn,aH) hfa;rw[←Ov.out,hho] at hcl;dsimp only at hcl;obtain⟨Wl,Z5⟩:=hcl;have Z6:aH.length≤1000:=HG.out.ag (fn,aH) hfa;have YV:=au Wl;have HHo:=au hho;obtain⟨q0,q1,_,_,_⟩:=iH Uk.out;have q1':w4.cell? ⟨w.heap.size,0+1,none⟩=some (.slice sa aH.length sc):=q1;clear hm hho Wi Wj hWy Wl vN q1
  go_wp2_with fail
  refine HWy.out.mono ?_;rintro e w5 ⟨v5,n5,rfl,⟨u5,rfl,hF5⟩,hX5,hn5,hT5⟩;dsimp only at hF5;have hF5:eX (fun k=>B k∧k≠w.heap.size∧k≠w.heap.size+1) w5 u5 of:=hF5;obtain⟨ha,hc,rfl⟩:=aF hF5.facts;have Z7:=HS4.out.ways.lt;have hP4:=HS4.out.cells.2.2.2.2.1;have hS5:PvS (fun k=>B k∧k≠w.heap.size∧k≠w.heap.size+1) wF w5 P mb pv tv av sv (c1:Int) (d1:Int) n5 all how:=⟨HS4.out.row.block (hT5.block P hP4 hne),HS4.out.kq.trans (Kq.MK hT5),hX5.ways⟩;obtain⟨w6,hw6⟩:∃w6,w6=w5.alloc (.cells #[.int .i64 rl,.slice ha of.length hc] 96):=⟨_,rfl⟩;have hL6:ak w5 w6:=by rw[hw6];exact(ak.refl w5).alloc _
  have hs6:w5.heap.size<w6.heap.size:=by rw[hw6];simp
  have Ul:w6.heap[w5.heap.size]?=some (.cells #[.int .i64 rl,.slice ha of.length hc] 96 (0,0)):=by rw[hw6];exact heap_alloc_new w5 _
  have hsz5:=hT5.size;have VK:w.heap.size+2≤w4.heap.size:=by omega
  have Li:=(hT5.block w.heap.size (by omega) (by omega)).trans Uk.out;have Gn:=(hT5.block (w.heap.size+1) (by omega) (by omega)).trans Lh.out;have Wm:=(hL6.block (by omega:w.heap.size<w5.heap.size)).trans Li;have Cv:=(hL6.block (by omega:w.heap.size+1<w5.heap.size)).trans Gn;have hS6:=hS5.below hL6.below;have hF6:=hF5.below hL6.below;have hK6:Kq P mb w w6:=(HK4.out.trans (Kq.MK hT5)).trans (Kq.of_below hL6.below);have Wn:Strs w6 (.slice sa aH.length sc) aH:=(Ck Pp.out HS4.out.ways.isMap hT5).later hL6;have HCl:Hid (∀w',Below w6.heap.size w6 w'→Calls Tryz.prog 42 #[.slice sa aH.length sc] w' fun e w''=>∃v',e=.returned v'∧bsK.own 9 0 w'' v' aH∧(∀k,v'.ownBlock=some k→w'.heap.size≤k)∧Below w6.heap.size w6 w''∧Below w'.heap.size w' w''):=fun w' h=>
   (Fy aH _ w' (Wn.below h) (by omega)).mono fun e w'' ⟨v',h1,h2,h3,h4⟩=>⟨v',h1,h2,h3,aj h h4 h.size,h4⟩
  have HCe:Hid (∀w',Below w6.heap.size w6 w'→w'.cell? ⟨w.heap.size,0,none⟩=some (.string fn)∧w'.cell? ⟨w.heap.size,1,none⟩=some (.slice sa aH.length sc)∧w'.cell? ⟨w5.heap.size,0,none⟩=some (.int .i64 rl)):=fun w' h=>by have h0:=(h.block _ (by omega)).trans Wm;have h1:=(h.block _ (by omega)).trans Ul;exact⟨by rw[cell_of_row _ _ _ _ _ _ h0];rfl,by rw[cell_of_row _ _ _ _ _ _ h0];rfl,by rw[cell_of_row _ _ _ _ _ _ h1];rfl⟩
  have HW6:=au hw6;have HS6:=au hS6;have HF6:=au hF6;have HK6:=au hK6;have Wo:=au Cv;have Wp:=au Ul;clear hF5 hX5 hT5 hS5 hw6 hL6 Ul Li Gn Wm Cv hS6 hF6 hK6 Wn HWy q0 q1' HS4 Pp Uk Lh HK4 hL4
  go_wp2_with (rw[←HW6.out])
  refine wp_region_held_drew (S:=fun w'=>Below w6.heap.size w6 w') (by kernel_rfl) (Below.refl _ _).drew (fun hHeld=>?_);refine tkY 0 43 hHeld ?_;refine tkY 1 44 hHeld ?_ rfl fun w hSw=>by obtain⟨p0,p1,p2⟩:=HCe.out _ hSw;go_simp;try with_reducible rfl
  refine tkY 2 45 hHeld ?_;refine tkY 3 46 hHeld ?_ rfl fun w hSw=>by obtain⟨p0,p1,p2⟩:=HCe.out _ hSw;go_simp;try with_reducible rfl
  refine tkY 6 49 hHeld ?_;refine tkY 7 50 hHeld ?_ rfl fun w hSw=>by obtain⟨p0,p1,p2⟩:=HCe.out _ hSw;go_simp;try with_reducible rfl
  have hBe:Below w6.heap.size w6 w6.drew:=(Below.refl _ _).drew;refine wpAnyH_ready (rs:=[4,9]) (by kernel_rfl) (by simp) ?_;refine AllReadyH.cons rfl (fun K' hK=> ?ga) (AllReadyH.cons rfl (fun K' hK=> ?gb) AllReadyH.nil)
  case' ga=>
   go_simp;refine(HCl.out _ hBe).mono ?_;rintro e wx ⟨v1,rfl,hO1,hv0,hB1,Oi⟩;have hsl1:=ML hO1 (by omega);obtain⟨xa,xc,rfl⟩:=aB.slice hsl1;have hv1:∀k,(Value.slice xa aH.length xc).ownBlock=some k→w6.heap.size≤k:=hv0;have Um:∀k,(Value.slice xa aH.length xc).ownBlock=some k→k<wx.heap.size:=fun k e=>by obtain⟨ys,ho,_⟩:=hO1;exact(ho.lt k e).2
   refine hK.out _ _ hB1 (fun hHeld=>?_);clear hK K' hBe hO1 Oi hv0;have hBe:=hB1;clear hB1;refine tkY 5 48 hHeld ?_;refine tkY 8 51 hHeld ?_;refine tkC 9 fun K' hK=>?_;go_simp;have hzN:=heap_alloc_new wx (.cells #[.string ⟨#[]⟩,.slice none 0 0,.int .i64 0,.slice none 0 0] 30);have hLz:=(ak.refl wx).alloc (.cells #[.string ⟨#[]⟩,.slice none 0 0,.int .i64 0,.slice none 0 0] 30);have zi:=aj hBe hLz.below hBe.size;have hsl:bsK.sl (ko (.slice xa aH.length xc)) (wx.alloc (.cells #[.string ⟨#[]⟩,.slice none 0 0,.int .i64 0,.slice none 0 0] 30)) (.slice xa aH.length xc) aH:=aB.bL hsl1 hLz.size fun k hk _=>hLz.block hk;have hbx:w6.heap.size≤wx.heap.size:=hBe.size;have hvx:∀k,(Value.slice xa aH.length xc).ownBlock=some k→w6.heap.size≤k∧k≠wx.heap.size∧k<(wx.alloc (.cells #[.string ⟨#[]⟩,.slice none 0 0,.int .i64 0,.slice none 0 0] 30)).heap.size:=fun k e=>⟨hv1 k e,by have:=Um k e;omega,by have:=Um k e;simp;omega⟩;refine hK.out _ _ zi (fun hHeld=>?_);clear hK K' hBe hHeld hv1 Um hsl1 hLz;generalize wx.heap.size=bx at*;generalize wx.alloc (.cells #[.string ⟨#[]⟩,.slice none 0 0,.int .i64 0,.slice none 0 0] 30)=wf at*;have hBe:=zi;have hHeld:=zi;clear zi
  case' gb=>
   go_simp;have hzN:((w6.alloc (.cells #[.string ⟨#[]⟩,.slice none 0 0,.int .i64 0,.slice none 0 0] 30)).drew).heap[w6.heap.size]?=some (.cells #[.string ⟨#[]⟩,.slice none 0 0,.int .i64 0,.slice none 0 0] 30 (0,0)):=heap_alloc_new w6 _;have zi:Below w6.heap.size w6 ((w6.alloc (.cells #[.string ⟨#[]⟩,.slice none 0 0,.int .i64 0,.slice none 0 0] 30)).drew):=((ak.refl w6).alloc (.cells #[.string ⟨#[]⟩,.slice none 0 0,.int .i64 0,.slice none 0 0] 30)).drew.below;have hbl:w6.heap.size<((w6.alloc (.cells #[.string ⟨#[]⟩,.slice none 0 0,.int .i64 0,.slice none 0 0] 30)).drew).heap.size:=by simp
   obtain⟨bx,QF⟩:∃bx,w6.heap.size=bx:=⟨_,rfl⟩;rw[QF] at hzN hbl;have hbx:w6.heap.size≤bx:=by omega
   refine hK.out _ _ zi (fun hHeld=>?_);clear hK K' hBe hHeld;generalize((w6.alloc (.cells #[.string ⟨#[]⟩,.slice none 0 0,.int .i64 0,.slice none 0 0] 30)).drew)=wz at*;have hBe:=zi;have hHeld:=zi;clear zi;refine tkC 4 fun K' hK=>?_;go_simp;refine(HCl.out _ hBe).mono ?_;rintro e wf ⟨v1,rfl,hO1,hv1,hB1,Oi⟩;have hsl:=ML hO1 (by omega);obtain⟨xa,xc,rfl⟩:=aB.slice hsl;have hvx:∀k,(Value.slice xa aH.length xc).ownBlock=some k→w6.heap.size≤k∧k≠bx∧k<wf.heap.size:=fun k e=>⟨by have:=hv1 k e;omega,by have:=hv1 k e;omega,by obtain⟨ys,ho,_⟩:=hO1;exact(ho.lt k e).2⟩;have hzN:=(Oi.block _ hbl).trans hzN;refine hK.out _ _ hB1 (fun hHeld=>?_);clear hK K' hBe Oi hbl QF hO1 hv1;have hBe:=hB1;clear hB1;refine tkY 5 48 hHeld ?_;refine tkY 8 51 hHeld ?_
  all_goals
   refine tkC 10 fun K' hK=>?_;obtain⟨_,_,⟨t0,t1,t2,t3⟩,hbl⟩:=dG hzN;go_simp;have hT7:=mK wf bx (.string fn) (.slice xa aH.length xc) (.int .i64 rl) (.slice none 0 0);have hR7:=gG hzN (.string fn) (.slice xa aH.length xc) (.int .i64 rl) (.slice none 0 0);have DW:Below w6.heap.size w6 (qR wf bx (.string fn) (.slice xa aH.length xc) (.int .i64 rl) (.slice none 0 0)):=aj hBe (hT7.below hbx hBe.size) (Nat.le_refl _);have Sl:bsK.sl (ko (.slice xa aH.length xc)) (qR wf bx (.string fn) (.slice xa aH.length xc) (.int .i64 rl) (.slice none 0 0)) (.slice xa aH.length xc) aH:=aB.bL hsl hT7.size fun k hk e=>hT7.block k hk (hvx k e).2.1;refine hK.out _ _ DW (fun hHeld=>?_);clear hK K' hHeld;refine wpAnyH_done (by kernel_rfl) ?_ _;obtain⟨w7,hw7⟩:∃w7,w7=qR wf bx (.string fn) (.slice xa aH.length xc) (.int .i64 rl) (.slice none 0 0):=⟨_,rfl⟩;have Wq:=hT7.size;rw[←hw7] at hR7 DW Sl Wq;unfold qR at hw7;rw[←hw7];obtain⟨M,rfl⟩:∃M,N=M+1:=⟨N-1,by omega⟩;have Z8:bx<w7.heap.size:=by omega
   have YW:=DW.size;obtain⟨v1,Ws⟩:∃v1,v1=Value.slice xa aH.length xc:=⟨_,rfl⟩;rw[←Ws] at Sl hR7 hvx;have hS7:=(HS6.out.mono (B':=fun k=>(B k∧k≠w.heap.size∧k≠w.heap.size+1)∧k≠bx) fun k hk hb=>⟨hb,by omega⟩).below DW;have YX:=(DW.block (w.heap.size+1) (by omega)).trans Wo.out;have Wt:=(DW.block w5.heap.size (by omega)).trans Wp.out;have y1:w7.cell? ⟨w5.heap.size,1,none⟩=some (.slice ha of.length hc):=by rw[cell_of_row _ _ _ _ _ _ Wt];rfl
   have HSl:=au Sl;have HR7:=au hR7;have HVx:Hid (∀k,v1.ownBlock=some k→w6.heap.size≤k∧k≠bx∧k<w7.heap.size):=fun k e=>⟨(hvx k e).1,(hvx k e).2.1,Nat.lt_of_lt_of_le (hvx k e).2.2 Wq⟩;have HS7:Hid (PvS (fun k=>((B k∧k≠w.heap.size∧k≠w.heap.size+1)∧k≠bx)∧(Value.slice none 0 0).ownBlock≠some k) wF w7 P mb pv tv av sv (c1:Int) (d1:Int) n5 all how):=hS7.mono fun k _ hb=>⟨hb,by simp[Value.ownBlock]⟩;have HK7:Hid (Kq P mb w6 w7):=Kq.of_below DW;have Wu:Hid (∃PG,PG=lC (fun g s=>bI how (M+1) g (dep+1) s) of [] (c1,d1)):=⟨_,rfl⟩;obtain⟨PG,hPG⟩:=Wu.out;rw[←hPG] at HPG;have zF:=au hPG;have YZ:n5≤c1:=by have:=HC1.out;omega
   obtain⟨Un,Uo⟩:=hcd;clear Sl hR7 hvx hS7 YX Wt hw7 hT7 DW hzN hBe hsl t0 t1 t2 t3 Wu hPG HCl HCe HW6 hHeld Wp HS6;go_wp2;clear y1
   go_loopg [55] of.length (fun g i wr=>∃(j:Nat) (done:List bG) (cc dd nn:Nat) (ka:Option Addr) (kn kc:Nat),j+g=of.length∧i=.int .i64 j∧Hid (done.length=j)∧Hid ((I9 (M+1)).own 30 w7.heap.size wr (.slice ka kn kc) done)∧Hid (wr.heap[bx]?=some (.cells #[.string fn,v1,.int .i64 rl,.slice ka kn kc] 30 (0,0)))∧Hid (PG=lC (fun g s=>bI how (M+1) g (dep+1) s) (of.drop j) done (cc,dd))∧Hid (PvS (fun k=>((B k∧k≠w.heap.size∧k≠w.heap.size+1)∧k≠bx)∧(Value.slice ka kn kc).ownBlock≠some k) wF wr P mb pv tv av sv (cc:Int) (dd:Int) nn all how)∧nn≤cc∧cc≤400∧dd≤60∧Hid (Kq P mb w6 wr)∧Hid (bsK.sl (ko v1) wr v1 aH)∧w7.heap.size≤wr.heap.size)
   case atStart=>exact⟨0,[],c1,d1,n5,none,0,0,by omega,rfl,(rfl:_=_),aB.fD _ _ _ _,HR7.out,(by rw[List.drop_zero];exact zF.out:_=_),HS7,YZ,Un,Uo,HK7,HSl,Nat.le_refl _⟩
   case round=>
    clear zF HS7 HR7 HSl HK7;obtain⟨j,done,cc,dd,nn,ka,kn,kc,hj,rfl,HDn,HO,HR,zF,HS,hnn,hcc,hdd,HK,HSl,TU⟩:=hrel;have FB:=(HK.out.block (w.heap.size+1) (by omega) (by omega) (by omega)).trans Wo.out;have Wv:=au FB
    by_cases hlt:j<of.length
    ·have hFr:=HF6.out.kept HK.out.size fun k hk hb=>HK.out.block k hk (HB1.out k hb.1).2 (HB1.out k hb.1).1;have hgA:of.getD j aC∈of:=by
      rw[List.getD_eq_getElem?_getD,List.getElem?_eq_getElem hlt];exact List.getElem_mem hlt
     have hdr:of.drop j=of.getD j aC::of.drop (j+1):=by
      rw[List.drop_eq_getElem_cons hlt,List.getD_eq_getElem?_getD,List.getElem?_eq_getElem hlt]
      rfl
     obtain⟨_,_,_,e0,Ww⟩:=hFr;simp only[Value.slice.injEq,true_and] at e0;obtain⟨rfl,rfl⟩:=e0;obtain⟨fb,fo,hfe,_,Z9,hfc⟩:=Ww (by intro e;rw[e] at hlt;simp at hlt);subst hfe;obtain⟨f0,gs,f1,hgs,_⟩:=hfc j hlt;obtain⟨ga,gc,rfl⟩:=bA hgs;obtain⟨G,hGe⟩:∃G,G=of.getD j aC:=⟨_,rfl⟩;rw[←hGe] at f0 f1 hgs hgA hdr;obtain⟨gn,gargs⟩:=G;dsimp only at f0 f1 hgs;have hGa:(gn,gargs)∈all:=YV.out _ hgA;obtain⟨w8,hw8⟩:∃w8,w8=wr.alloc (.cells #[.string gn,.slice ga gargs.length gc] 27):=⟨_,rfl⟩;have hL8:ak wr w8:=by rw[hw8];exact(ak.refl wr).alloc _
     have hR8:w8.heap[wr.heap.size]?=some (.cells #[.string gn,.slice ga gargs.length gc] 27 (0,0)):=by rw[hw8];exact heap_alloc_new wr _
     obtain⟨x0,x1,_,_,_⟩:=iH hR8;have x1':w8.cell? ⟨wr.heap.size,0+1,none⟩=some (.slice ga gargs.length gc):=x1;have aac:=hL8.size;have hown:∀k,(Value.slice ka kn kc).ownBlock=some k→w7.heap.size≤k∧k<wr.heap.size:=fun k e=>by obtain⟨ys,ho,_⟩:=HO.out;exact ho.lt k e
     have Lj:=HIh.out (by omega) (fun k=>((B k∧k≠w.heap.size∧k≠w.heap.size+1)∧k≠bx)∧(Value.slice ka kn kc).ownBlock≠some k) (gn,gargs) (.agg #[.string gn,.slice ga gargs.length gc]) (dep+1) cc dd nn w8 (by omega) (fun k hb=>HB1.out k hb.1.1.1) (fun k hk=>⟨⟨⟨HB2.out k (by omega),by omega,by omega⟩,by omega⟩,fun e=>by have:=(hown k e).2;omega⟩) (HS.out.below hL8.below) hnn hcc hdd hGa ⟨_,rfl,hgs.later hL8⟩;rw[show(((dep+1:Nat):Int))=(dep:Int)+1 from rfl] at Lj;obtain⟨PX,hPX⟩:∃PX,PX=bI how (M+1) (gn,gargs) (dep+1) (cc,dd):=⟨_,rfl⟩;rw[←hPX] at Lj;have QL:=au Lj;have HPX:=au hPX;have HW8:=au hw8;have HL8:=au hL8;have HOw:=au hown;have HDr:=au hdr;clear Lj hPX hw8 hR8 hL8 Ww hfc hgs hgA hGa hGe x1 hown hdr
     go_wp2_with (first|(rw[←HW8.out])|fail)
     refine QL.out.mono ?_;rintro e w9 ⟨v9,er9,n9,rfl,hV9,hS9,hn9,hK9⟩;obtain⟨PX1,c9,d9⟩:=PX;dsimp only at hV9 hS9 hn9;have aad:=hK9.size;have Ll:Kq P mb wr w9:=(Kq.of_below HL8.out.below).trans hK9;have Sm:=(Ll.block (w.heap.size+1) (by omega) (by omega) (by omega)).trans Wv.out;clear QL f0 f1 x0 x1' HW8;cases PX1 with
     |none=>
      obtain⟨rfl,rfl⟩:=hV9;have HE:Hid (bI how (M+1+1) (fn,aH) dep (c,d)=(none,(c9,d9))):=by
       show _=_;rw[HPG.out,zF.out,HDr.out,xL HPX.out.symm]
       rfl
      obtain⟨es,hes⟩:∃es:ByteArray,es=⟨#[]⟩:=⟨_,rfl⟩;rw[show iQ=.agg #[.string es,.slice none 0 0,.int .i64 0,.slice none 0 0] by rw[hes];rfl];clear hes;obtain⟨w10,Ki⟩:∃w10,w10=w9.alloc (.cells #[.string es,.slice none 0 0,.int .i64 0,.slice none 0 0] 30):=⟨_,rfl⟩;have qj:ak w9 w10:=by rw[Ki];exact(ak.refl w9).alloc _
      have Lm:=(qj.block (Array.getElem?_eq_some_iff.1 Sm).1).trans Sm;have hKw:Kq P mb w w10:=((HK6.out.trans HK.out).trans Ll).trans (Kq.of_below qj.below);have HKf:=au (HFin.out (.string ⟨#[]⟩) (.slice none 0 0) (.int .i64 0) (.slice none 0 0) w10 Lm hKw);have HPf:=au ((HTu.out _ _ _ _ (.string ⟨#[]⟩) (.slice none 0 0) (.int .i64 0) (.slice none 0 0) w10 (fun k hb=>hb.1.1.2.2) (hS9.below qj.below)).mono (B':=B) fun k _ hb=>hb.1.1.1);have HZ:=au (dG (gG Lm (.string ⟨#[]⟩) (.slice none 0 0) (.int .i64 0) (.slice none 0 0))).1;obtain⟨_,_,⟨t0,t1,t2,t3⟩,_⟩:=dG Lm;have Uq:=au Ki;clear Ki qj Lm hKw Sm Ll hS9 hK9 zF HO HS HIh HPX
      go_wp2_with (rw[←Uq.out])
      obtain⟨z0,z1,z2,z3⟩:=HZ.out;unfold qR at z0 z1 z2 z3;refine bodyPost_ret (v:=.tuple #[iQ,.int .i64 4]) (by simp[results,Tryz.results21,go_sem,z0,z1,z2,z3];rfl) rfl ⟨iQ,4,n9,rfl,?_,?_,?_,HKf.out⟩
      ·rw[HE.out];exact⟨rfl,rfl⟩
      ·rw[HE.out];exact HPf.out
      rw[HE.out];exact hn9
     |some x=>
      obtain⟨rfl,s9,k9,rfl,hs9,hk9,hz9⟩:=hV9;have hk9:(I9 M).sl (From w8.heap.size) w9 k9 x.kids:=hk9;obtain⟨sa9,sc9,rfl⟩:=aB.slice hs9;obtain⟨ka9,kc9,rfl⟩:=aB.slice hk9;have hbd:=qU (M+1) (gn,gargs) (dep+1) (cc,dd) x (c9,d9) HPX.out.symm;dsimp only at hbd;have HE:Hid (PG=lC (fun g s=>bI how (M+1) g (dep+1) s) (of.drop (j+1)) (done++[x]) (c9,d9)):=by show _=_;rw[zF.out,HDr.out];exact xM HPX.out.symm
      obtain⟨w10,Ki⟩:∃w10,w10=w9.alloc (.cells #[.string x.fact.1,.slice sa9 x.fact.2.length sc9,.int .i64 x.rule,.slice ka9 x.kids.length kc9] 30):=⟨_,rfl⟩;have qj:ak w9 w10:=by rw[Ki];exact(ak.refl w9).alloc _
      have Wx:w10.heap[w9.heap.size]?=some (.cells #[.string x.fact.1,.slice sa9 x.fact.2.length sc9,.int .i64 x.rule,.slice ka9 x.kids.length kc9] 30 (0,0)):=by rw[Ki];exact heap_alloc_new w9 _
      have Y0:=qj.size;have Wy:=(Ll.block bx (by omega) (by omega) (by omega)).trans HR.out;have zk:=(qj.block (by omega:bx<w9.heap.size)).trans Wy;have Lp:Kq P mb w6 w10:=(HK.out.trans Ll).trans (Kq.of_below qj.below);have QM:(I9 (M+1)).own 30 w7.heap.size w10 (.slice ka kn kc) done:=aB.dS (aB.dS HO.out Ll.size fun k hk hl=>Ll.block k hk (by omega) (by omega)) qj.size fun k hk _=>qj.block hk;have xP:∀k,(Value.slice ka kn kc).ownBlock=some k→w7.heap.size≤k∧k<wr.heap.size:=HOw.out;have hcx:(I9 (M+1)).is (fun k=>w7.heap.size≤k∧(Value.slice ka kn kc).ownBlock≠some k) w10 [.string x.fact.1,.slice sa9 x.fact.2.length sc9,.int .i64 x.rule,.slice ka9 x.kids.length kc9] x:=by have hm:∀k,k<w10.heap.size→From w8.heap.size k→(w7.heap.size≤k∧(Value.slice ka kn kc).ownBlock≠some k):=fun k _ (hb:w8.heap.size≤k)=>⟨by omega,fun e=>by have:=(xP k e).2;omega⟩;exact⟨_,_,rfl,aB.bQ (aB.bL hs9 qj.size fun k hk _=>qj.block hk) hm,aB.bQ (aB.bL hk9 qj.size fun k hk _=>qj.block hk) hm,hz9.kept hk9 fun k hk _=>qj.block hk⟩
      have hdl:=HDn.out;obtain⟨ti,i1,i2,i3,i4⟩:=xK;obtain⟨v11,w11,hrun,Gr,uU,_,MN⟩:=aB.jY (P:=Tryz.prog) (t:=28) QM Tryz.underlying28 i1 i2 i3 i4 rfl (by show 0<4;decide) hcx (by omega) (by simp only[maxLen];omega) (by omega);obtain⟨ka2,kn2,kc2,rfl⟩:∃a n c,v11=.slice a n c:=by obtain⟨a,c,e⟩:=aB.slice (aB.fq Gr (by rw[List.length_append];simp;omega));exact⟨a,_,c,e⟩
      have Y1:=uU.size;have Td:(w10.alloc (.cells #[.string x.fact.1,.slice sa9 x.fact.2.length sc9,.int .i64 x.rule,.slice ka9 x.kids.length kc9] 30)).heap.size=w10.heap.size+1:=by simp
      have Cw:w11.heap[bx]?=some (.cells #[.string fn,v1,.int .i64 rl,.slice ka kn kc] 30 (0,0)):=(uU.block bx (by omega) (fun e=>by have:=(xP bx e.symm).1;omega)).trans ((Below.heap_alloc w10 _ bx (by omega)).trans zk);obtain⟨wN,hwN⟩:∃wN,wN=w11.setCell ⟨bx,3,none⟩ (.slice ka2 kn2 kc2):=⟨_,rfl⟩;have hTN:Tn bx w11 wN:=by rw[hwN];exact Tn.setCell (p:=bx) (Tn.refl _ _) (x:=⟨bx,3,none⟩) (Or.inl rfl) _
      have Jc:wN.heap[bx]?=some (.cells #[.string fn,v1,.int .i64 rl,.slice ka2 kn2 kc2] 30 (0,0)):=by rw[hwN,dz (j:=3) Cw];rfl
      have aae:=hTN.size;have hPN:PvS (fun k=>((B k∧k≠w.heap.size∧k≠w.heap.size+1)∧k≠bx)∧(Value.slice ka2 kn2 kc2).ownBlock≠some k) wF wN P mb pv tv av sv (c9:Int) (d9:Int) n9 all how:=by
       have hSa:=hS9.below qj.below;have hSb:=hSa.mono (B':=fun k=>(((B k∧k≠w.heap.size∧k≠w.heap.size+1)∧k≠bx)∧(Value.slice ka kn kc).ownBlock≠some k)∧(Value.slice ka2 kn2 kc2).ownBlock≠some k) fun k hk hb=>⟨hb,fun e=>by
        rcases MN k e with h|h;·exact hb.2 h
        omega⟩
       have hSc:=hSb.below ((ak.refl w10).alloc (.cells #[.string x.fact.1,.slice sa9 x.fact.2.length sc9,.int .i64 x.rule,.slice ka9 x.kids.length kc9] 30)).below;have hSd:=hSc.turned uU.os uU.tape uU.output uU.size fun k hk h=>uU.block k hk fun e=>by
        have ho:=xP k e.symm;rcases h with h|h|h|h
        ·omega
        ·omega
        ·omega
        exact h.1.2 e.symm
       have hSe:=hSd.turned hTN.os hTN.tape hTN.output hTN.size fun k hk h=>hTN.block k hk (by
        rcases h with h|h|h|h;·omega
        ·omega
        ·omega
        exact h.1.1.2)
       exact hSe.mono fun k _ hb=>⟨hb.1.1,hb.2⟩
      have hKN:Kq P mb w6 wN:=⟨(hTN.os.trans uU.os).trans Lp.os,(hTN.tape.trans uU.tape).trans Lp.tape,(hTN.output.trans uU.output).trans Lp.output,by have:=Lp.size;omega,fun k hk h1 h2=>
       ((hTN.block k (by have:=Lp.size;omega) (by omega)).trans (uU.block k (by have:=Lp.size;omega) (fun e=>by have:=(xP k e.symm).1;omega))).trans ((Below.heap_alloc w10 _ k (by have:=Lp.size;omega)).trans (Lp.block k hk h1 h2))⟩
      have Wz:bsK.sl (ko v1) wN v1 aH:=aB.bL HSl.out (by omega) fun k hk e=>by have hx:=HVx.out k e;exact((hTN.block k (by omega) hx.2.1).trans (uU.block k (by omega) (fun e'=>by have:=(xP k e'.symm).1;omega))).trans ((Below.heap_alloc w10 _ k (by omega)).trans ((qj.block (by omega)).trans (Ll.block k hk (by omega) (by omega))))
      have hON:(I9 (M+1)).own 30 w7.heap.size wN (.slice ka2 kn2 kc2) (done++[x]):=aB.dI Gr hTN (by omega);obtain⟨_,⟨_,_,_⟩,_,_⟩:=dG zk;obtain⟨⟨l0,l1,l2,l3⟩,⟨l4,l5,l6⟩,_,_⟩:=dG Wx;obtain⟨⟨_,_,_,m3⟩,_,_,_⟩:=dG zk;obtain⟨⟨_,_,_,o3⟩,_,⟨_,_,_,t3⟩,_⟩:=dG Cw;have Y2:=au hrun;have Uq:=au Ki;have HWN:=au hwN;have HON:=au hON;have HRN:=au Jc;have HPN:=au hPN;have HKN:=au hKN;have HSN:=au Wz;have HDN:Hid ((done++[x]).length=j+1):=by show _=_;rw[List.length_append,HDn.out];rfl
      have VO:w7.heap.size≤wN.heap.size:=by omega
      clear hrun Ki hwN hON Jc hPN hKN Wz hTN Cw zk Wy uU Gr MN hcx QM Lp qj Wx hs9 hk9 hS9 hK9 Ll Sm FB xP hdl i1 i2 i3 i4 Td Y1 zF HO HS HDn HR HSl HK HPX HDr HOw Wv
      go_wp2_with (first|(rw[←Uq.out])|(rw[←HWN.out])|(at_builtin;refine wpList_append_run rfl (.tmp 72) (.tmp 74) 28 rfl _ _ _ _ rfl rfl Y2.out ?_))
      go_roundg (of.length- (j+1))
      case measure=>omega
      case rel=>exact⟨j+1,done++[x],c9,d9,n9,ka2,kn2,kc2,by omega,by go_num,HDN,HON,HRN,HE,HPN,hn9,hbd.1,hbd.2,HKN,HSN,VO⟩
    have hj0:j=of.length:=by omega
    have HE:Hid (PG=(some done,(cc,dd))):=by show _=_;rw[zF.out,List.drop_eq_nil_of_le (by omega)];unfold lC kL;simp
    have HE2:Hid (bI how (M+1+1) (fn,aH) dep (c,d)=(some (bG.mk (fn,aH) rl done),(cc,dd))):=by show _=_;rw[HPG.out,HE.out];rfl
    obtain⟨⟨e0,e1,e2,e3⟩,⟨e4,e5,e6⟩,_,_⟩:=dG HR.out;obtain⟨_,_,⟨t0,t1,t2,t3⟩,_⟩:=dG FB;have hKw:Kq P mb w wr:=HK6.out.trans HK.out;have hT:=mK wr (w.heap.size+1) (.string fn) v1 (.int .i64 rl) (.slice ka kn kc);have HKf:=au (HFin.out (.string fn) v1 (.int .i64 rl) (.slice ka kn kc) wr FB hKw);have HPf:=au ((HTu.out _ _ _ _ (.string fn) v1 (.int .i64 rl) (.slice ka kn kc) wr (fun k hb=>hb.1.1.2.2) HS.out).mono (B':=B) fun k _ hb=>hb.1.1.1);have HZ:=au (dG (gG FB (.string fn) v1 (.int .i64 rl) (.slice ka kn kc))).1;have HVf:Hid (Ou (M+1) (From w.heap.size) (qR wr (w.heap.size+1) (.string fn) v1 (.int .i64 rl) (.slice ka kn kc)) (.agg #[.string fn,v1,.int .i64 rl,.slice ka kn kc]) (bG.mk (fn,aH) rl done)):=by
     have ho:=aB.fq (aB.dI HO.out hT (by omega)) (by have:=HDn.out;omega);refine⟨v1,.slice ka kn kc,rfl,aB.bQ (aB.bL HSl.out hT.size fun k hk e=>hT.block k hk (by have:=(HVx.out k e).1;omega)) fun k _ e=>?_,aB.bQ ho fun k _ (hb:w7.heap.size≤k)=>?_,Lg (aB.dI HO.out hT (by omega))⟩
     ·show w.heap.size≤k;have:=(HVx.out k e).1;omega
     show w.heap.size≤k;omega
    clear hj0 zF HE hT hKw FB HO HS HIh;subst Ws;go_wp2;obtain⟨z0,z1,z2,z3⟩:=HZ.out;unfold qR at z0 z1 z2 z3;refine bodyPost_ret (v:=.tuple #[.agg #[.string fn,.slice xa aH.length xc,.int .i64 rl,.slice ka kn kc],.int .i64 0]) (by simp[results,Tryz.results21,go_sem,z0,z1,z2,z3]) rfl ⟨_,0,nn,rfl,?_,?_,?_,HKf.out⟩;·rw[HE2.out];exact⟨rfl,HVf.out⟩
    ·rw[HE2.out];exact HPf.out
    rw[HE2.out];exact hnn
def fQ (p:List aG) (told:List aA):List (List aA):=(bC p (aV p).1 (countP (aV p).1) 0 told).2
theorem AZ {p:List aG} {all:List aA}:∀{ps:List (List aA)} {L:List aA},Steps (Came p all) L ps→GoodS p (bR L ps)→∀l∈L::ps,GoodS p l
 |[],L,_,hg,l,hl=>by simp at hl;subst hl;exact hg
 |M::ps,L,hs,hg,l,hl=>by
  rw[gy] at hg;rcases List.mem_cons.1 hl with rfl|hl
  ·exact hs.1.1
  exact AZ hs.2 hg l hl
theorem Lr {p:List aG} {all:List aA} (h:GoodS p all) (b:List aI):jv all b=0↔aL b=0:=by
 show pJ b all []=0↔_;unfold pJ;rw[nW h.up h.right h.few];have e:(aT []).1=0:=rfl
 by_cases hb:aL b=0
 ·rw[if_neg (by simpa using hb),if_neg (by simp),e];simp[hb]
 rw[if_pos hb]
theorem uV {g:aG→Option (List aA)} {n:Nat}:∀(p:List aG) (i:Nat),(∀r∈p,∀of,g r=some of→of.length≤n)→(iw g i p).2.length≤n
 |[],i,_=>by simp[iw]
 |r::p,i,h=>by
  unfold iw;cases e:g r with
  |none=>exact uV p (i+1) fun q hq=>h q (by simp[hq])
  |some of=>exact h r (by simp) of e
theorem Ow {err:List aI→Int} {all old:List aA} {r:aG} {f:aA} {of:List aA} (h:byP err all old r f=some of):of.length≤r.body.length:=by
 unfold byP at h;cases hm:cZ r.head f [] with
 |none=>rw[hm] at h;cases h
 |some b=>
  rw[hm] at h;have:=List.mem_of_find?_eq_some h;obtain⟨l,_,rfl⟩:=List.mem_map.1 this;have:=jP (dR b r.body) l;unfold dR at this;rw[List.length_map] at this;exact this
theorem A8 {p:List aG} {told:List aA} (h:iP p told=0):
  dP p∧GoodS p told∧GoodS p (bR told (fQ p told))∧jG p told=(0,bR told (fQ p told))∧Nn p told (bR told (fQ p told)) (mQ (jv (bR told (fQ p told))) p told (bR told (fQ p told)) (told::fQ p told))∧
  (∀l∈told::fQ p told,fP l)∧(told::fQ p told).length≤1000000∧(∀f∈bR told (fQ p told),inB told f=false→1≤dJ (told::fQ p told) f∧dJ (told::fQ p told) f<(told::fQ p told).length)∧
  (∀r∈p,r.head.terms.length≤4∧r.body.length≤5∧∀a∈r.body,a.terms.length≤4)∧(∀f∈bR told (fQ p told),(∀g∈(mQ (jv (bR told (fQ p told))) p told (bR told (fQ p told)) (told::fQ p told) f).2,g∈bR told (fQ p told))∧(mQ (jv (bR told (fQ p told))) p told (bR told (fQ p told)) (told::fQ p told) f).2.length≤1000):=by
 have hall:jG p told=(0,bR told (fQ p told)):=(qQ p told).2 h;obtain⟨hp,hl,τ,hτ,hst,hr⟩:=Co hall;obtain⟨_,_,hgM,_,_⟩:=uN hall;have hrun:bC p (p.map fun r=>τ r.head.name) (countP (p.map fun r=>τ r.head.name)) 0 told=(0,fQ p told):=by have h1:=r9 p (p.map fun r=>τ r.head.name) (countP (p.map fun r=>τ r.head.name)) 0 told;rw[hr] at h1;refine Prod.ext h1.1.symm ?_;unfold fQ;rw[hst]
 have hsteps:=Dp hp hτ _ 0 hl hrun;have Ht:∀r∈p,dF (fun _=>bR told (fQ p told)) 0 r.body [[]]≠none:=fun r hr'=>Dq hp hτ _ 0 hl hrun r hr' (Nat.zero_le _) (by rw[Nat.zero_add];exact o7 (List.mem_map.2 ⟨r,hr',rfl⟩));have DY:=PZ hp (err:=jv (bR told (fQ p told))) (Lr hgM) hsteps Ht;have hsh:∀r∈p,r.head.terms.length≤4∧r.body.length≤5∧∀a∈r.body,a.terms.length≤4:=fun r hr'=>by have hR:=hp.rules r hr';obtain⟨b1,b2⟩:=je hR.body;exact⟨(bB hR.head).2.1,b1,fun a ha=>(bB (b2 a ha)).2.1⟩
 refine⟨hp,hl,hgM,hall,DY,fun l hl'=>(AZ hsteps hgM l hl').up,?_,fun f hf hn=>?_,hsh,fun f hf=>⟨?_,?_⟩⟩
 ·have h1:=Cq (p:=p) (ss:=p.map fun r=>τ r.head.name) (countP (p.map fun r=>τ r.head.name)) 0 told;rw[hrun] at h1;have h2:countP (p.map fun r=>τ r.head.name)≤16:=by
   rw[←hst];obtain⟨ss,ex,ea,hse⟩:∃ss ex ea,aV p=(ss,ex,ea):=⟨_,_,_,rfl⟩;have hx:ex=0:=by refine Classical.byContradiction fun hne=>?_;unfold iP at h;rw[hse] at h;dsimp only at h;rw[if_pos hne] at h;exact hne h
   subst hx;rw[hse];obtain⟨_,m,hms,_,hlm,hsm⟩:=kF hse;refine countP_le fun s hs=>?_;rw[hms] at hs;obtain⟨r,hr',rfl⟩:=List.mem_map.1 hs;have:=pR hlm hsm r hr';have:=hp.few;omega
  have h3:=Nat.mul_le_mul_right 201 h2;dsimp only at h1;simp only[List.length_cons];omega
 ·have hn':f∉told:=fun hc=>by rw[dn.2 hc] at hn;cases hn
  obtain⟨_,_,_,_,_,_,h5,h6⟩:=BX hsteps hf hn';exact⟨h5,h6⟩
 ·rcases DY.ok f hf with⟨_,e⟩|⟨i,r,of,_,e,_,hk⟩;·rw[e];intro k hk;cases hk
  rw[e];exact hk
 unfold mQ;split;·simp
 refine uV p 0 fun r hr' of hof=>?_;have:=Ow hof;have:=(hsh r hr').2.1;omega
theorem D6 (w0 wF:World) (P lo mb:Nat) (p:List aG) (told all:List aA) (PS:List (List aA)) (pv tv av sv:Value) (xs:List Value) (hG:Gq w0 wF P lo mb p told all PS pv tv av sv xs):∀N,Jb all P mb pv tv av sv wF (mQ (jv all) p told all PS) (N+1)
 |0=>xO w0 wF P lo mb p told all PS pv tv av sv xs hG 0 (fun h=>absurd h (by omega))
 |N+1=>xO w0 wF P lo mb p told all PS pv tv av sv xs hG (N+1) fun _=>D6 w0 wF P lo mb p told all PS pv tv av sv xs hG N
def Cx (A B:List aA):Prop:=∀f∈A,f∈B
theorem A9 {p:List aG} (hp:dP p) (σ:aG→Nat) {n:Int}:∀(k:Nat) {L:List aA} {ps:List (List aA)},GoodS p L→aR p (p.map σ) n k L=(0,ps)→Steps Cx L ps
 |0,L,ps,_,h=>by
  simp only[aR,Prod.mk.injEq,true_and] at h;subst h
  trivial
 |k+1,L,ps,hL,h=>by
  unfold aR at h;obtain⟨e,x,hx⟩:∃e x,bW p (p.map σ) n L=(e,x):=⟨_,_,rfl⟩;rw[hx] at h;dsimp only at h;split at h;·rename_i he;simp at h;exact absurd h.1 he
  rename_i he;have he:e=0:=by simpa using he
  subst he;obtain⟨g1,g2⟩:=jl hp σ hL hx;split at h;·simp at h;subst h;exact⟨g2,trivial⟩
  obtain⟨e2,qs,hq⟩:∃e qs,aR p (p.map σ) n k x=(e,qs):=⟨_,_,rfl⟩;rw[hq] at h;simp only[Prod.mk.injEq] at h;obtain⟨rfl,rfl⟩:=h;exact⟨g2,A9 hp σ k g1 hq⟩
theorem D7 {p:List aG} (hp:dP p) (σ:aG→Nat):∀(c n:Nat) {L:List aA} {ps:List (List aA)},GoodS p L→bC p (p.map σ) c n L=(0,ps)→Steps Cx L ps
 |0,n,L,ps,_,h=>by
  simp only[bC,Prod.mk.injEq,true_and] at h;subst h
  trivial
 |c+1,n,L,ps,hL,h=>by
  unfold bC at h;obtain⟨e,qs,hq⟩:∃e qs,aR p (p.map σ) n 201 L=(e,qs):=⟨_,_,rfl⟩;rw[hq] at h;dsimp only at h;split at h;·rename_i he;simp at h;exact absurd h.1 he
  rename_i he;have he:e=0:=by simpa using he
  subst he;obtain⟨e2,rs,hr⟩:∃e rs,bC p (p.map σ) c (n+1) (bR L qs)=(e,rs):=⟨_,_,rfl⟩;rw[hr] at h;simp only[Prod.mk.injEq] at h;obtain⟨rfl,rfl⟩:=h;exact(A9 hp σ 201 hL hq).append (D7 hp σ c (n+1) (jN hp σ 201 hL hq (by omega)).1 hr)
theorem D8 {Q:List aA→List aA→Prop}:∀{ps:List (List aA)} {L:List aA},Steps Q L ps→∀(i:Nat) A B,(L::ps)[i]?=some A→(L::ps)[i+1]?=some B→Q A B
 |[],L,_,i,A,B,_,h2=>by simp at h2
 |M::ps,L,hs,0,A,B,h1,h2=>by simp at h1 h2;subst h1 h2;exact hs.1
 |M::ps,L,hs,i+1,A,B,h1,h2=>D8 hs.2 i A B (by simpa using h1) (by simpa using h2)
theorem Jd {PS:List (List aA)} (hg:∀(i:Nat) A B,PS[i]?=some A→PS[i+1]?=some B→Cx A B):∀(d i:Nat) A B,PS[i]?=some A→PS[i+d]?=some B→Cx A B
 |0,i,A,B,h1,h2=>by rw[Nat.add_zero,h1] at h2;cases h2;exact fun f h=>h
 |d+1,i,A,B,h1,h2=>by have hl:=(List.getElem?_eq_some_iff.1 h2).1;obtain⟨M,hM⟩:∃M,PS[i+d]?=some M:=⟨_,List.getElem?_eq_getElem (by omega)⟩;exact fun f h=>hg (i+d) M B hM (by rw[←h2];rfl) f (Jd hg d i A M h1 hM f h)
theorem QN {PS:List (List aA)} (hg:∀(i:Nat) A B,PS[i]?=some A→PS[i+1]?=some B→Cx A B) {a:Nat} (h1:1≤a) (h2:a<PS.length) (k:aA):decide (dJ PS k<a)=inB (PS.getD (a-1) []) k:=by
 obtain⟨A,hA⟩:∃A,PS[a-1]?=some A:=⟨_,List.getElem?_eq_getElem (by omega)⟩;have e:PS.getD (a-1) []=A:=by rw[List.getD_eq_getElem?_getD,hA];rfl
 rw[e];cases hi:inB A k with
 |true=>
  have h3:dJ PS k≤a-1:=by
   refine Nat.le_of_not_lt fun hlt=>?_;unfold dJ at hlt;have h4:=List.not_of_lt_findIdx hlt;have e2:PS[a-1]'(by omega)=A:=by have:=List.getElem?_eq_getElem (l:=PS) (i:=a-1) (by omega);rw[hA] at this;exact(Option.some.inj this).symm
   rw[e2,hi] at h4;simp at h4
  simp;omega
 |false=>
  have h3:¬dJ PS k<a:=fun hlt=>by
   have hl:dJ PS k<PS.length:=by omega
   have hp:inB (PS[dJ PS k]'hl) k=true:=List.findIdx_getElem (w:=hl);have h4:=Jd hg (a-1-dJ PS k) (dJ PS k) _ A (List.getElem?_eq_getElem hl) (by rw[show dJ PS k+(a-1-dJ PS k)=a-1 by omega];exact hA) k (dn.1 hp);rw[dn.2 h4] at hi;cases hi
  simp[h3]
theorem D9 {told:List aA} {ps:List (List aA)} {f:aA}:dJ (told::ps) f=0↔inB told f=true:=by unfold dJ;rw[List.findIdx_cons];cases inB told f <;> simp
theorem Cy {p:List aG} {told:List aA} (h:iP p told=0):∀(i:Nat) A B,(told::fQ p told)[i]?=some A→(told::fQ p told)[i+1]?=some B→Cx A B:=by
 have hall:jG p told=(0,bR told (fQ p told)):=(qQ p told).2 h;obtain⟨hp,hl,τ,hτ,hst,hr⟩:=Co hall;have hrun:bC p (p.map fun r=>τ r.head.name) (countP (p.map fun r=>τ r.head.name)) 0 told=(0,fQ p told):=by have h1:=r9 p (p.map fun r=>τ r.head.name) (countP (p.map fun r=>τ r.head.name)) 0 told;rw[hr] at h1;refine Prod.ext h1.1.symm ?_;unfold fQ;rw[hst]
 exact D8 (D7 hp _ _ 0 hl hrun)
end Go.Proofs.YtaallngooaaonaaGreatDoor
