import Derived.Test.YtafmbokfkbccaaaGreatDoorJT29
import Derived.Test.YtafmbokfkbccaaaGreatDoorJT24
namespace Go.Proofs.YtafmbokfkbccaaaGreatDoor
open Go.RowKit Go.Sort Go.Maps
theorem Bf {l:List ByteArray} {a:Addr} {cap:Nat} {w:World} (hs:Strs w (.slice (some a) l.length cap) l) (hl:l.length≤1000000):
  ∃v' w',(Builtin.append_ #[25,25] 25 #[.slice (some ⟨w.heap.size,0,none⟩) 0 0,.slice (some a) l.length cap]).run Tryz.prog (w.alloc (.cells #[] 9))=.ok v' w'∧bsK.own 9 0 w' v' l∧(w.alloc (.cells #[] 9)).grownBy w' (some w.heap.size)∧∀k,v'.ownBlock=some k→w.heap.size≤k:=by
 obtain⟨i,z,i1,i2,i3,i4,i5⟩:=Lr;obtain⟨xs,ho,_⟩:bsK.own 9 0 (w.alloc (.cells #[] 9)) (.slice (some ⟨w.heap.size,0,none⟩) 0 0) []:=uW bsK 9 w;have hxs:xs=[]:=List.eq_nil_of_length_eq_zero (by have:=ho.1;simpa using this);subst hxs;have hcell:∀(j:Nat) u,(l.map Value.string)[j]?=some u→(w.alloc (.cells #[] 9)).cell? (a.add j)=some u:=fun j u hu=>by
  have hj:j<l.length:=by have:=(List.getElem?_eq_some_iff.1 hu).1;simpa using this
  obtain⟨_,a',cap',e,h1⟩:=hs;simp only[Value.slice.injEq] at e;obtain⟨rfl,_,_⟩:=e;obtain⟨b,off,e,hb,hc⟩:=h1 (by intro e;rw[e] at hj;simp at hj);simp only[Option.some.injEq] at e;subst e;have:=hc j hj;rw[Addr.add_lit,World.cell?_of_block (w:=w) (Below.heap_alloc w _ b hb),this];rw[List.getElem?_map,List.getElem?_eq_getElem hj] at hu;rw[List.getD_eq_getElem?_getD,List.getElem?_eq_getElem hj];simpa using hu
 obtain⟨v',w',hrun,r1,r2,r3,r4⟩:=eD (P:=Tryz.prog) (w.alloc (.cells #[] 9)) 0 25 25 9 i z 1 16 Tryz.underlying25 i1 i2 i3 i4 i5 (by decide) _ 0 [] ho a l.length cap (l.map Value.string) (by simp) hcell (fun u hu=>by rw[List.mem_map] at hu;obtain⟨x,_,rfl⟩:=hu;rfl) (by simp only[maxLen];omega) (by omega) (Nat.zero_le _);refine⟨v',w',hrun,⟨l.map Value.string,by have h:=r1;simp only[List.nil_append,Nat.zero_add] at h;exact h,fun j x hj=>⟨[.string x],rfl,fun q u hu=> ?_⟩⟩,r2,fun k e=> ?_⟩
 ·rcases q with _|q
  ·simp at hu;subst hu;show(l.map Value.string)[j*1+0]?=_;rw[Nat.mul_one,Nat.add_zero,List.getElem?_map,hj]
   rfl
  ·simp at hu
 ·rcases r4 k e with h|h
  ·simp[Value.ownBlock] at h;omega
  ·simp at h;omega
set_option maxHeartbeats 1000000 in
theorem FR (l:List ByteArray) (v:Value) (w:World) (h:Strs w v l) (hl:l.length≤1000000):
  Calls Tryz.prog 108 #[v] w fun e w'=>∃v',e=.returned v'∧bsK.own 9 0 w' v' l∧(∀k,v'.ownBlock=some k→w.heap.size≤k)∧Below w.heap.size w w':=by
 obtain⟨a,cap,rfl⟩:=bB h;cases a with
 |none=>
  have hl0:l=[]:=by
   refine Classical.byContradiction fun hne=> ?_;obtain⟨_,a',cap',e,h1⟩:=h;simp only[Value.slice.injEq] at e;obtain⟨rfl,_,_⟩:=e;obtain⟨b,off,e,_⟩:=h1 hne;cases e
  subst hl0;have hnil:=fun w=>Lib.run_eql_slice_nil (P:=Tryz.prog) w 25 9 none 0 cap 0 0 Tryz.underlying25;clear h hl;simp only[List.length_nil]
  go_enter Tryz.func108,Tryz.ntmps108
  go_wp2;go_ret;exact⟨_,rfl,bsK.fF _ _ _,fun k e=>(by cases e),Below.refl _ _⟩
 |some b=>
  have hnil:=fun w=>Lib.run_eql_slice_nil (P:=Tryz.prog) w 25 9 (some b) l.length cap 0 0 Tryz.underlying25;obtain⟨v',w',hrun,hR,hg,hk⟩:=Bf h hl;have HB:Hid (Below w.heap.size w w'):=(((Later.refl w).alloc (.cells #[] 9)).below).grown hg (by simp) (fun k e=>by simp at e;omega);have HK:=hide hk;have HR:=hide hrun;have HF:=hide hR;clear hrun hR hg hk h
  go_enter Tryz.func108,Tryz.ntmps108
  go_wp2_with (at_builtin;refine wpList_append_run rfl (.tmp 5) (.tmp 6) 25 rfl _ _ _ _ rfl rfl HR.out ?_)
  go_ret;exact⟨v',rfl,HF.out,HK.out,HB.out⟩
end Go.Proofs.YtafmbokfkbccaaaGreatDoor
namespace Go.Proofs.YtafmbokfkbccaaaGreatDoor
open Go.RowKit Go.Sort Go.Maps
structure Gq (w0 wF:World) (P lo mb:Nat) (p:List aD) (told all:List au) (PS:List (List au)) (pv tv av sv:Value) (xs:List Value):Prop where
 gp:Gp wF P lo mb av sv xs all PS
 gr:Grd w0 P p told all PS pv tv
 lm:w0.heap.size≤mb
 b0:Below w0.heap.size w0 wF
 cl:∀f∈all,(∀g∈(mY (jD all) p told all PS f).2,g∈all)∧(mY (jD all) p told all PS f).2.length≤1000
 ag:∀f∈all,f.2.length≤1000
 pi:ow pv∧ow tv
theorem uZ {P:Nat} {w w':World} {v:Value} {l:List ByteArray} (hn:qh w P) (k:Tn P w w') (h:Strs w v l):Strs w' v l:=by
 obtain⟨h0,a,cap,rfl,h1⟩:=h;refine⟨h0,a,cap,rfl,fun hl=> ?_⟩;obtain⟨b,off,rfl,hb,hc⟩:=h1 hl;refine⟨b,off,rfl,Nat.lt_of_lt_of_le hb k.size,fun i hi=> ?_⟩;rw[World.cell?_of_block (w:=w) (k.block b hb (fun e=>by subst e;exact hn _ _ (hc i hi)))];exact hc i hi
theorem PvS.xR {B:Nat→Prop} {wF w:World} {P lo mb:Nat} {pv tv av sv:Value} {xs:List Value} {c d:Int} {n:Nat} {all:List au} {PS:List (List au)} {how:au→Int×List au} (h:PvS B wF w P mb pv tv av sv c d n all how) (hp:ow pv) (ht:ow tv) (G:Gp wF P lo mb av sv xs all PS):qh w P:=by
 have ha:ow av:=by obtain⟨a,c,e⟩:=aC G.fa;exact⟨a,_,c,e⟩
 exact h.row.xR hp ht ha G.past.ow
set_option maxRecDepth 100000 in
set_option maxHeartbeats 8000000 in
theorem xW (w0 wF:World) (P lo mb:Nat) (p:List aD) (told all:List au) (PS:List (List au)) (pv tv av sv:Value) (xs:List Value) (hG:Gq w0 wF P lo mb p told all PS pv tv av sv xs) (N:Nat) (ih:1≤N→Jq all P mb pv tv av sv wF (mY (jD all) p told all PS) N):Jq all P mb pv tv av sv wF (mY (jD all) p told all PS) (N+1):=by
 intro B f fv dep c d n w hN hB1 hB2 hS hnc hc4 hd6 hfa hf;obtain⟨how,Ec⟩:∃how,how=mY (jD all) p told all PS:=⟨_,rfl⟩;rw[←Ec] at hS ih⊢;obtain⟨s,rfl,hs⟩:=hf;obtain⟨sa,sc,rfl⟩:=bB hs;have hne:=hG.gp.ne;have hlo1:=hG.gp.lo1;have hlo2:=hG.gp.lo2;have hlo3:=hG.gp.lo3;have YC:=hS.kq.size;obtain⟨w1,hw1⟩:∃w1,w1=(w.alloc (.cells #[.string f.1,.slice sa f.2.length sc] 27)).alloc (.cells #[.string ⟨#[]⟩,.slice none 0 0,.int .i64 0,.slice none 0 0] 30):=⟨_,rfl⟩;have hL1:Later w w1:=by rw[hw1];exact((Later.refl w).alloc _).alloc _
 have hs1:w1.heap.size=w.heap.size+2:=by rw[hw1];simp
 have hr0:w1.heap[w.heap.size]?=some (.cells #[.string f.1,.slice sa f.2.length sc] 27 (0,0)):=by
  rw[hw1];simp only[bY,World.size_alloc]
  repeat (first|rw[if_pos trivial]|rw[if_pos (by omega)]|rw[if_neg (by omega)])
 have hr1:w1.heap[w.heap.size+1]?=some (.cells #[.string ⟨#[]⟩,.slice none 0 0,.int .i64 0,.slice none 0 0] 30 (0,0)):=by
  rw[hw1];simp only[bY,World.size_alloc]
  repeat (first|rw[if_pos trivial]|rw[if_pos (by omega)]|rw[if_neg (by omega)])
 obtain⟨c1,hc1⟩:∃c1:Nat,c1=c+1:=⟨_,rfl⟩;obtain⟨d1,hd1⟩:∃d1:Nat,d1=max d dep:=⟨_,rfl⟩;have hci:(c1:Int)=(c:Int)+1:=by omega
 have hdi:(d1:Int)=max (d:Int) (dep:Int):=by omega
 have hS1:=(hS.mono (B':=fun k=>B k∧k≠w.heap.size∧k≠w.heap.size+1) fun k hk hb=>⟨hb,by omega,by omega⟩).below hL1.below;obtain⟨w2,hw2⟩:∃w2,w2=w1.setCell ⟨P,3,none⟩ (.int .i64 ((c:Int)+1)):=⟨_,rfl⟩;have hS2:PvS (fun k=>B k∧k≠w.heap.size∧k≠w.heap.size+1) wF w2 P mb pv tv av sv (c1:Int) (d:Int) n all how:=by rw[hw2,hci];exact hS1.counts hne (fun k hb=>(hB1 k hb.1).2) 3 _ _ _ (Or.inl ⟨rfl,rfl,rfl⟩)
 obtain⟨w3,hw3⟩:∃w3,w3=w2.setCell ⟨P,4,none⟩ (.int .i64 (max (d:Int) (dep:Int))):=⟨_,rfl⟩;have hS3:PvS (fun k=>B k∧k≠w.heap.size∧k≠w.heap.size+1) wF w3 P mb pv tv av sv (c1:Int) (d1:Int) n all how:=by rw[hw3,hdi];exact hS2.counts hne (fun k hb=>(hB1 k hb.1).2) 4 _ _ _ (Or.inr ⟨rfl,rfl,rfl⟩)
 have hPw:=hS.cells.2.2.2.2.1;have Q0:Tn P w1 w3:=by
  rw[hw3,hw2];exact Tn.setCell (p:=P) (Tn.setCell (p:=P) (Tn.refl _ _) (x:=⟨P,3,none⟩) (Or.inl rfl) _) (x:=⟨P,4,none⟩) (Or.inl rfl) _
 have hs3:w3.heap.size=w.heap.size+2:=by rw[hw3,hw2,size_setCell,size_setCell,hs1]
 have FU:w3.heap[w.heap.size]?=some (.cells #[.string f.1,.slice sa f.2.length sc] 27 (0,0)):=(Q0.block _ (by omega) (by omega)).trans hr0;have sN:w3.heap[w.heap.size+1]?=some (.cells #[.string ⟨#[]⟩,.slice none 0 0,.int .i64 0,.slice none 0 0] 30 (0,0)):=(Q0.block _ (by omega) (by omega)).trans hr1;have Wl:Kq P mb w w3:=(Kq.of_below hL1.below).trans (Kq.OQ Q0);obtain⟨a3,_,a5,_,_,_⟩:=hS1.cells;obtain⟨_,b4,_,b6,_,_⟩:=hS2.cells;obtain⟨g3,_,_,_,_,g8⟩:=hS3.cells;have HMu:=hide (NJ c1 d1 w3);have HC1:=hide hc1;have HD1:=hide hd1;clear hc1 hd1 hci hdi;have HW1:=hide hw1;have HW2:=hide hw2;have HW3:=hide hw3;have HS3:=hide hS3;have HR0:=hide FU;have HR1:=hide sN;have HK3:=hide Wl;have HG:=hide hG;have HB1:=hide hB1;have HB2:=hide hB2;have HIh:=hide ih;have OU:=hide Ec;have Wm:Strs w3 (.slice sa f.2.length sc) f.2:=uZ (hS1.xR hG.pi.1 hG.pi.2 hG.gp) Q0 (hs.later hL1);have Q5:=hide Wm;clear hG hB1 hB2 hS hs Ec ih hw1 hw2 hw3 hL1 hr0 hr1 hS1 hS2 hS3 Q0 FU sN Wl Wm;obtain⟨fn,aH⟩:=f;dsimp only at*
 go_enter Tryz.func60,Tryz.ntmps60
 go_wp2_with (first|(rw[←HW1.out])|(rw[←HW2.out])|(rw[←HW3.out])|fail)
 refine HMu.out.mono ?_;rintro e w4 ⟨rfl,hL4⟩;have Ue:=hL4.size;have hS4:=HS3.out.below hL4.below;have Kz:=(hL4.block (by omega:w.heap.size<w3.heap.size)).trans HR0.out;have vT:=(hL4.block (by omega:w.heap.size+1<w3.heap.size)).trans HR1.out;have hK4:Kq P mb w w4:=HK3.out.trans (Kq.of_below hL4.below);have HS4:=hide hS4;have Uq:=hide Kz;have LG:=hide vT;have HK4:=hide hK4;have PW:=hide (Q5.out.later hL4);have HFin:Hid (∀(x0 x1 x2 x3:Value) (wr:World),wr.heap[w.heap.size+1]?=some (.cells #[.string ⟨#[]⟩,.slice none 0 0,.int .i64 0,.slice none 0 0] 30 (0,0))→Kq P mb w wr→Kq P mb w (qZ wr (w.heap.size+1) x0 x1 x2 x3)):=fun x0 x1 x2 x3 wr hr hK=>by
  have hT:=mU wr (w.heap.size+1) x0 x1 x2 x3;exact⟨hT.os.trans hK.os,hT.tape.trans hK.tape,hT.output.trans hK.output,Nat.le_trans hK.size hT.size,fun k hk h1 h2=>(hT.block k (Nat.lt_of_lt_of_le hk hK.size) (by omega)).trans (hK.block k hk h1 h2)⟩
 have HTu:Hid (∀(B':Nat→Prop) (cx dx:Int) (nx:Nat) (x0 x1 x2 x3:Value) (wr:World),(∀k,B' k→k≠w.heap.size+1)→PvS B' wF wr P mb pv tv av sv cx dx nx all how→PvS B' wF (qZ wr (w.heap.size+1) x0 x1 x2 x3) P mb pv tv av sv cx dx nx all how):=fun B' cx dx nx x0 x1 x2 x3 wr hb hS=>by
  have hT:=mU wr (w.heap.size+1) x0 x1 x2 x3;refine hS.turned hT.os hT.tape hT.output hT.size fun k hk h=>hT.block k hk ?_;rcases h with h|h|h|h
  ·omega
  ·omega
  ·omega
  ·exact hb k h
 clear hS4 Kz hK4 HMu g3 g8 a3 a5 b4 b6 HS3 HR0 HR1 HK3 Q5;cases hm:iA (c1,d1) with
 |true=>
  have HX:Hid (bJ how (N+1) (fn,aH) dep (c,d)=(none,(c1,d1))):=by
   show _=_;unfold bJ;dsimp only;rw[←HC1.out,←HD1.out,if_pos hm]
  have HK:=hide (HFin.out (.string ⟨#[]⟩) (.slice none 0 0) (.int .i64 0) (.slice none 0 0) w4 LG.out HK4.out);have HP:=hide (HTu.out _ _ _ _ (.string ⟨#[]⟩) (.slice none 0 0) (.int .i64 0) (.slice none 0 0) w4 (fun k hb=>hb.2.2) HS4.out);have HZ:=hide (dJ (gI LG.out (.string ⟨#[]⟩) (.slice none 0 0) (.int .i64 0) (.slice none 0 0))).1;obtain⟨_,_,⟨t0,t1,t2,t3⟩,_⟩:=dJ vT;clear hm vT HFin HTu HIh HG hL4;go_wp2;obtain⟨z0,z1,z2,z3⟩:=HZ.out;unfold qZ at z0 z1 z2 z3;have hc1:=HC1.out;refine bodyPost_ret (v:=.tuple #[iU,.int .i64 4]) (by simp[results,Tryz.results60,go_sem,z0,z1,z2,z3];rfl) rfl ⟨iU,4,n,rfl,?_,?_,?_,HK.out⟩
  ·rw[HX.out];exact⟨rfl,rfl⟩
  ·rw[HX.out];exact HP.out.mono fun k _ hb=>hb.1
  ·rw[HX.out];show n≤c1;omega
 |false=>
  have hcd:c1≤400∧d1≤60:=by
   unfold iA at hm;simp only[Bool.or_eq_false_iff,decide_eq_false_iff_not] at hm;omega
  have hN1:1≤N:=by have:=HD1.out;omega
  have hNc:n≤1000:=by omega
  obtain⟨rl,of,hho⟩:∃rl of,how (fn,aH)=(rl,of):=⟨_,_,rfl⟩;have HPG:Hid (bJ how (N+1) (fn,aH) dep (c,d)=((lI (fun g s=>bJ how N g (dep+1) s) of [] (c1,d1)).1.map (bH.mk (fn,aH) rl),(lI (fun g s=>bJ how N g (dep+1) s) of [] (c1,d1)).2)):=by
   show _=_
   conv=>lhs;unfold bJ
   dsimp only;rw[←HC1.out,←HD1.out,if_neg (by rw[hm];simp),hho];unfold lI;dsimp only;cases(kQ (fun g s=>bJ how N g (dep+1) s) of (c1,d1)).1 <;> rfl
  have Wn:Below w0.heap.size w0 w4:=aj HG.out.b0 ((HS4.out.kq).below HG.out.gr.low HG.out.lm HG.out.b0.size) (Nat.le_refl _);have Wo:dH w4 (.agg #[.string fn,.slice sa aH.length sc]) (fn,aH):=⟨_,rfl,PW.out⟩;have hWy:=Uk (fun k=>B k∧k≠w.heap.size∧k≠w.heap.size+1) p told all PS (fn,aH) P lo pv tv (.agg #[.string fn,.slice sa aH.length sc]) (c1:Int) (d1:Int) mb n w0 w4 HG.out.gr Wn (by rw[←OU.out];exact HS4.out.prx HG.out.gp) (fun k hb=>(HB1.out k hb.1).1) (fun k hk=>⟨HB2.out k (by omega),by omega,by omega⟩) Wo hfa hNc;rw[←OU.out,hho] at hWy;have HWy:=hide hWy;have hcl:=HG.out.cl (fn,aH) hfa;rw[←OU.out,hho] at hcl;dsimp only at hcl;obtain⟨Wp,Z0⟩:=hcl;have Z4:aH.length≤1000:=HG.out.ag (fn,aH) hfa;have YX:=hide Wp;have HHo:=hide hho;obtain⟨q0,q1,_,_,_⟩:=iK Uq.out;have q1':w4.cell? ⟨w.heap.size,0+1,none⟩=some (.slice sa aH.length sc):=q1;clear hm hho Wn Wo hWy Wp vT q1
  go_wp2_with fail
  refine HWy.out.mono ?_;rintro e w5 ⟨v5,n5,rfl,⟨u5,rfl,hF5⟩,hX5,hn5,hT5⟩;dsimp only at hF5;have hF5:eZ (fun k=>B k∧k≠w.heap.size∧k≠w.heap.size+1) w5 u5 of:=hF5;obtain⟨ha,hc,rfl⟩:=aC hF5.facts;have Z5:=HS4.out.ways.lt;have hP4:=HS4.out.cells.2.2.2.2.1;have hS5:PvS (fun k=>B k∧k≠w.heap.size∧k≠w.heap.size+1) wF w5 P mb pv tv av sv (c1:Int) (d1:Int) n5 all how:=⟨HS4.out.row.block (hT5.block P hP4 hne),HS4.out.kq.trans (Kq.MZ hT5),hX5.ways⟩;obtain⟨w6,hw6⟩:∃w6,w6=w5.alloc (.cells #[.int .i64 rl,.slice ha of.length hc] 182):=⟨_,rfl⟩;have hL6:Later w5 w6:=by rw[hw6];exact(Later.refl w5).alloc _
  have hs6:w5.heap.size<w6.heap.size:=by rw[hw6];simp
  have Ur:w6.heap[w5.heap.size]?=some (.cells #[.int .i64 rl,.slice ha of.length hc] 182 (0,0)):=by rw[hw6];exact heap_alloc_new w5 _
  have hsz5:=hT5.size;have VP:w.heap.size+2≤w4.heap.size:=by omega
  have LH:=(hT5.block w.heap.size (by omega) (by omega)).trans Uq.out;have GH:=(hT5.block (w.heap.size+1) (by omega) (by omega)).trans LG.out;have Wq:=(hL6.block (by omega:w.heap.size<w5.heap.size)).trans LH;have CP:=(hL6.block (by omega:w.heap.size+1<w5.heap.size)).trans GH;have hS6:=hS5.below hL6.below;have hF6:=hF5.below hL6.below;have hK6:Kq P mb w w6:=(HK4.out.trans (Kq.MZ hT5)).trans (Kq.of_below hL6.below);have Ws:Strs w6 (.slice sa aH.length sc) aH:=(Cx PW.out HS4.out.ways.isMap hT5).later hL6;have HCl:Hid (∀w',Below w6.heap.size w6 w'→Calls Tryz.prog 108 #[.slice sa aH.length sc] w' fun e w''=>∃v',e=.returned v'∧bsK.own 9 0 w'' v' aH∧(∀k,v'.ownBlock=some k→w'.heap.size≤k)∧Below w6.heap.size w6 w''∧Below w'.heap.size w' w''):=fun w' h=>
   (FR aH _ w' (Ws.below h) (by omega)).mono fun e w'' ⟨v',h1,h2,h3,h4⟩=>⟨v',h1,h2,h3,aj h h4 h.size,h4⟩
  have HCe:Hid (∀w',Below w6.heap.size w6 w'→w'.cell? ⟨w.heap.size,0,none⟩=some (.string fn)∧w'.cell? ⟨w.heap.size,1,none⟩=some (.slice sa aH.length sc)∧w'.cell? ⟨w5.heap.size,0,none⟩=some (.int .i64 rl)):=fun w' h=>by
   have h0:=(h.block _ (by omega)).trans Wq;have h1:=(h.block _ (by omega)).trans Ur;exact⟨by rw[cell_of_row _ _ _ _ _ _ h0];rfl,by rw[cell_of_row _ _ _ _ _ _ h0];rfl,by rw[cell_of_row _ _ _ _ _ _ h1];rfl⟩
  have HW6:=hide hw6;have HS6:=hide hS6;have HF6:=hide hF6;have HK6:=hide hK6;have Wt:=hide CP;have Wu:=hide Ur;clear hF5 hX5 hT5 hS5 hw6 hL6 Ur LH GH Wq CP hS6 hF6 hK6 Ws HWy q0 q1' HS4 PW Uq LG HK4 hL4
  go_wp2_with (rw[←HW6.out])
  refine wp_region_held_drew (S:=fun w'=>Below w6.heap.size w6 w') (by kernel_rfl) (Below.refl _ _).drew (fun hHeld=> ?_);refine ak (i:=0) (d:=some 43) (v:= ?_) rfl rfl hHeld ?_ ?_;rotate_left;focus intro w hSw;(try dsimp only at hSw);go_simp;try with_reducible rfl
  simp only[aK,aL,aze,asu];refine ak (i:=1) (d:=some 44) (v:= ?_) rfl rfl hHeld ?_ ?_;rotate_left;focus intro w hSw;(try dsimp only at hSw);obtain⟨p0,p1,p2⟩:=HCe.out _ hSw;go_simp;try with_reducible rfl
  simp only[aK,aL,aze,asu];refine ak (i:=2) (d:=some 45) (v:= ?_) rfl rfl hHeld ?_ ?_;rotate_left;focus intro w hSw;(try dsimp only at hSw);go_simp;try with_reducible rfl
  simp only[aK,aL,aze,asu];refine ak (i:=3) (d:=some 46) (v:= ?_) rfl rfl hHeld ?_ ?_;rotate_left;focus intro w hSw;(try dsimp only at hSw);obtain⟨p0,p1,p2⟩:=HCe.out _ hSw;go_simp;try with_reducible rfl
  simp only[aK,aL,aze,asu];refine ak (i:=6) (d:=some 49) (v:= ?_) rfl rfl hHeld ?_ ?_;rotate_left;focus intro w hSw;(try dsimp only at hSw);go_simp;try with_reducible rfl
  simp only[aK,aL,aze,asu];refine ak (i:=7) (d:=some 50) (v:= ?_) rfl rfl hHeld ?_ ?_;rotate_left;focus intro w hSw;(try dsimp only at hSw);obtain⟨p0,p1,p2⟩:=HCe.out _ hSw;go_simp;try with_reducible rfl
  simp only[aK,aL,aze,asu];have hBe:Below w6.heap.size w6 w6.drew:=(Below.refl _ _).drew;refine wpAnyH_ready (rs:=[4,9]) (by kernel_rfl) (by simp) ?_;refine AllReadyH.cons rfl (fun K' hK=> ?ga) (AllReadyH.cons rfl (fun K' hK=> ?gb) AllReadyH.nil)
  case' ga=>
   go_simp;refine(HCl.out _ hBe).mono ?_;rintro e wx ⟨v1,rfl,hO1,hv0,hB1,OG⟩;have hsl1:=M0 hO1 (by omega);obtain⟨xa,xc,rfl⟩:=Kind.slice hsl1;have hv1:∀k,(Value.slice xa aH.length xc).ownBlock=some k→w6.heap.size≤k:=hv0;have Us:∀k,(Value.slice xa aH.length xc).ownBlock=some k→k<wx.heap.size:=fun k e=>by
    obtain⟨ys,ho,_⟩:=hO1;exact(ho.lt k e).2
   refine hK.out _ _ hB1 (fun hHeld=> ?_);clear hK K' hBe hO1 OG hv0;have hBe:=hB1;clear hB1;refine ak (i:=5) (d:=some 48) (v:= ?_) rfl rfl hHeld ?_ ?_;rotate_left;focus intro w hSw;(try dsimp only at hSw);go_simp;try with_reducible rfl
   simp only[aK,aL,aze,asu];refine ak (i:=8) (d:=some 51) (v:= ?_) rfl rfl hHeld ?_ ?_;rotate_left;focus intro w hSw;(try dsimp only at hSw);go_simp;try with_reducible rfl
   simp only[aK,aL,aze,asu];refine wpAnyH_ready (rs:=[9]) (by kernel_rfl) (by simp) ?_;refine AllReadyH.cons rfl (fun K' hK=> ?_) AllReadyH.nil;go_simp;have hzN:=heap_alloc_new wx (.cells #[.string ⟨#[]⟩,.slice none 0 0,.int .i64 0,.slice none 0 0] 30);have hLz:=(Later.refl wx).alloc (.cells #[.string ⟨#[]⟩,.slice none 0 0,.int .i64 0,.slice none 0 0] 30);have zy:=aj hBe hLz.below hBe.size;have hsl:bsK.sl (kD (.slice xa aH.length xc)) (wx.alloc (.cells #[.string ⟨#[]⟩,.slice none 0 0,.int .i64 0,.slice none 0 0] 30)) (.slice xa aH.length xc) aH:=Kind.bM hsl1 hLz.size fun k hk _=>hLz.block hk;have hbx:w6.heap.size≤wx.heap.size:=hBe.size;have hvx:∀k,(Value.slice xa aH.length xc).ownBlock=some k→w6.heap.size≤k∧k≠wx.heap.size∧k<(wx.alloc (.cells #[.string ⟨#[]⟩,.slice none 0 0,.int .i64 0,.slice none 0 0] 30)).heap.size:=fun k e=>⟨hv1 k e,by have:=Us k e;omega,by have:=Us k e;simp;omega⟩;refine hK.out _ _ zy (fun hHeld=> ?_);clear hK K' hBe hHeld hv1 Us hsl1 hLz;generalize wx.heap.size=bx at*;generalize wx.alloc (.cells #[.string ⟨#[]⟩,.slice none 0 0,.int .i64 0,.slice none 0 0] 30)=wf at*;have hBe:=zy;have hHeld:=zy;clear zy
  case' gb=>
   go_simp;have hzN:((w6.alloc (.cells #[.string ⟨#[]⟩,.slice none 0 0,.int .i64 0,.slice none 0 0] 30)).drew).heap[w6.heap.size]?=some (.cells #[.string ⟨#[]⟩,.slice none 0 0,.int .i64 0,.slice none 0 0] 30 (0,0)):=heap_alloc_new w6 _;have zy:Below w6.heap.size w6 ((w6.alloc (.cells #[.string ⟨#[]⟩,.slice none 0 0,.int .i64 0,.slice none 0 0] 30)).drew):=((Later.refl w6).alloc (.cells #[.string ⟨#[]⟩,.slice none 0 0,.int .i64 0,.slice none 0 0] 30)).drew.below;have hbl:w6.heap.size<((w6.alloc (.cells #[.string ⟨#[]⟩,.slice none 0 0,.int .i64 0,.slice none 0 0] 30)).drew).heap.size:=by simp
   obtain⟨bx,QW⟩:∃bx,w6.heap.size=bx:=⟨_,rfl⟩;rw[QW] at hzN hbl;have hbx:w6.heap.size≤bx:=by omega
   refine hK.out _ _ zy (fun hHeld=> ?_);clear hK K' hBe hHeld;generalize((w6.alloc (.cells #[.string ⟨#[]⟩,.slice none 0 0,.int .i64 0,.slice none 0 0] 30)).drew)=wz at*;have hBe:=zy;have hHeld:=zy;clear zy;refine wpAnyH_ready (rs:=[4]) (by kernel_rfl) (by simp) ?_;refine AllReadyH.cons rfl (fun K' hK=> ?_) AllReadyH.nil;go_simp;refine(HCl.out _ hBe).mono ?_;rintro e wf ⟨v1,rfl,hO1,hv1,hB1,OG⟩;have hsl:=M0 hO1 (by omega);obtain⟨xa,xc,rfl⟩:=Kind.slice hsl;have hvx:∀k,(Value.slice xa aH.length xc).ownBlock=some k→w6.heap.size≤k∧k≠bx∧k<wf.heap.size:=fun k e=>⟨by have:=hv1 k e;omega,by have:=hv1 k e;omega,by obtain⟨ys,ho,_⟩:=hO1;exact(ho.lt k e).2⟩;have hzN:=(OG.block _ hbl).trans hzN;refine hK.out _ _ hB1 (fun hHeld=> ?_);clear hK K' hBe OG hbl QW hO1 hv1;have hBe:=hB1;clear hB1;refine ak (i:=5) (d:=some 48) (v:= ?_) rfl rfl hHeld ?_ ?_;rotate_left;focus intro w hSw;(try dsimp only at hSw);go_simp;try with_reducible rfl
   simp only[aK,aL,aze,asu];refine ak (i:=8) (d:=some 51) (v:= ?_) rfl rfl hHeld ?_ ?_;rotate_left;focus intro w hSw;(try dsimp only at hSw);go_simp;try with_reducible rfl
   simp only[aK,aL,aze,asu]
  all_goals
   refine wpAnyH_ready (rs:=[10]) (by kernel_rfl) (by simp) ?_;refine AllReadyH.cons rfl (fun K' hK=> ?_) AllReadyH.nil;obtain⟨_,_,⟨t0,t1,t2,t3⟩,hbl⟩:=dJ hzN;go_simp;have hT7:=mU wf bx (.string fn) (.slice xa aH.length xc) (.int .i64 rl) (.slice none 0 0);have hR7:=gI hzN (.string fn) (.slice xa aH.length xc) (.int .i64 rl) (.slice none 0 0);have Ea:Below w6.heap.size w6 (qZ wf bx (.string fn) (.slice xa aH.length xc) (.int .i64 rl) (.slice none 0 0)):=aj hBe (hT7.below hbx hBe.size) (Nat.le_refl _);have SA:bsK.sl (kD (.slice xa aH.length xc)) (qZ wf bx (.string fn) (.slice xa aH.length xc) (.int .i64 rl) (.slice none 0 0)) (.slice xa aH.length xc) aH:=Kind.bM hsl hT7.size fun k hk e=>hT7.block k hk (hvx k e).2.1;refine hK.out _ _ Ea (fun hHeld=> ?_);clear hK K' hHeld;refine wpAnyH_done (by kernel_rfl) ?_ _;obtain⟨w7,hw7⟩:∃w7,w7=qZ wf bx (.string fn) (.slice xa aH.length xc) (.int .i64 rl) (.slice none 0 0):=⟨_,rfl⟩;have Wv:=hT7.size;rw[←hw7] at hR7 Ea SA Wv;unfold qZ at hw7;rw[←hw7];obtain⟨M,rfl⟩:∃M,N=M+1:=⟨N-1,by omega⟩;have Z6:bx<w7.heap.size:=by omega
   have YZ:=Ea.size;obtain⟨v1,Ww⟩:∃v1,v1=Value.slice xa aH.length xc:=⟨_,rfl⟩;rw[←Ww] at SA hR7 hvx;have hS7:=(HS6.out.mono (B':=fun k=>(B k∧k≠w.heap.size∧k≠w.heap.size+1)∧k≠bx) fun k hk hb=>⟨hb,by omega⟩).below Ea;have Y0:=(Ea.block (w.heap.size+1) (by omega)).trans Wt.out;have Wx:=(Ea.block w5.heap.size (by omega)).trans Wu.out;have y1:w7.cell? ⟨w5.heap.size,1,none⟩=some (.slice ha of.length hc):=by rw[cell_of_row _ _ _ _ _ _ Wx];rfl
   have HSl:=hide SA;have HR7:=hide hR7;have HVx:Hid (∀k,v1.ownBlock=some k→w6.heap.size≤k∧k≠bx∧k<w7.heap.size):=fun k e=>⟨(hvx k e).1,(hvx k e).2.1,Nat.lt_of_lt_of_le (hvx k e).2.2 Wv⟩;have HS7:Hid (PvS (fun k=>((B k∧k≠w.heap.size∧k≠w.heap.size+1)∧k≠bx)∧(Value.slice none 0 0).ownBlock≠some k) wF w7 P mb pv tv av sv (c1:Int) (d1:Int) n5 all how):=hS7.mono fun k _ hb=>⟨hb,by simp[Value.ownBlock]⟩;have HK7:Hid (Kq P mb w6 w7):=Kq.of_below Ea;have Wy:Hid (∃PG,PG=lI (fun g s=>bJ how (M+1) g (dep+1) s) of [] (c1,d1)):=⟨_,rfl⟩;obtain⟨PG,hPG⟩:=Wy.out;rw[←hPG] at HPG;have zN:=hide hPG;have Y1:n5≤c1:=by have:=HC1.out;omega
   obtain⟨Ut,Uu⟩:=hcd;clear SA hR7 hvx hS7 Y0 Wx hw7 hT7 Ea hzN hBe hsl t0 t1 t2 t3 Wy hPG HCl HCe HW6 hHeld Wu HS6;go_wp2;clear y1
   go_loopg [55] of.length (fun g i wr=>∃(j:Nat) (done:List bH) (cc dd nn:Nat) (ka:Option Addr) (kn kc:Nat),j+g=of.length∧i=.int .i64 j∧Hid (done.length=j)∧Hid ((Jo (M+1)).own 30 w7.heap.size wr (.slice ka kn kc) done)∧Hid (wr.heap[bx]?=some (.cells #[.string fn,v1,.int .i64 rl,.slice ka kn kc] 30 (0,0)))∧Hid (PG=lI (fun g s=>bJ how (M+1) g (dep+1) s) (of.drop j) done (cc,dd))∧Hid (PvS (fun k=>((B k∧k≠w.heap.size∧k≠w.heap.size+1)∧k≠bx)∧(Value.slice ka kn kc).ownBlock≠some k) wF wr P mb pv tv av sv (cc:Int) (dd:Int) nn all how)∧nn≤cc∧cc≤400∧dd≤60∧Hid (Kq P mb w6 wr)∧Hid (bsK.sl (kD v1) wr v1 aH)∧w7.heap.size≤wr.heap.size)
   case atStart=>exact⟨0,[],c1,d1,n5,none,0,0,by omega,rfl,(rfl:_=_),Kind.fF _ _ _ _,HR7.out,(by rw[List.drop_zero];exact zN.out:_=_),HS7,Y1,Ut,Uu,HK7,HSl,Nat.le_refl _⟩
   case round=>
    clear zN HS7 HR7 HSl HK7;obtain⟨j,done,cc,dd,nn,ka,kn,kc,hj,rfl,HDn,HO,HR,zN,HS,hnn,hcc,hdd,HK,HSl,Ua⟩:=hrel;have FV:=(HK.out.block (w.heap.size+1) (by omega) (by omega) (by omega)).trans Wt.out;have Wz:=hide FV
    by_cases hlt:j<of.length
    ·have hFr:=HF6.out.kept HK.out.size fun k hk hb=>HK.out.block k hk (HB1.out k hb.1).2 (HB1.out k hb.1).1;have hgA:of.getD j aA∈of:=by
      rw[List.getD_eq_getElem?_getD,List.getElem?_eq_getElem hlt];exact List.getElem_mem hlt
     have hdr:of.drop j=of.getD j aA::of.drop (j+1):=by
      rw[List.drop_eq_getElem_cons hlt,List.getD_eq_getElem?_getD,List.getElem?_eq_getElem hlt]
      rfl
     obtain⟨_,_,_,e0,WA⟩:=hFr;simp only[Value.slice.injEq,true_and] at e0;obtain⟨rfl,rfl⟩:=e0;obtain⟨fb,fo,hfe,_,Z7,hfc⟩:=WA (by intro e;rw[e] at hlt;simp at hlt);subst hfe;obtain⟨f0,gs,f1,hgs,_⟩:=hfc j hlt;obtain⟨ga,gc,rfl⟩:=bB hgs;obtain⟨G,hGe⟩:∃G,G=of.getD j aA:=⟨_,rfl⟩;rw[←hGe] at f0 f1 hgs hgA hdr;obtain⟨gn,gargs⟩:=G;dsimp only at f0 f1 hgs;have hGa:(gn,gargs)∈all:=YX.out _ hgA;obtain⟨w8,hw8⟩:∃w8,w8=wr.alloc (.cells #[.string gn,.slice ga gargs.length gc] 27):=⟨_,rfl⟩;have hL8:Later wr w8:=by rw[hw8];exact(Later.refl wr).alloc _
     have hR8:w8.heap[wr.heap.size]?=some (.cells #[.string gn,.slice ga gargs.length gc] 27 (0,0)):=by rw[hw8];exact heap_alloc_new wr _
     obtain⟨x0,x1,_,_,_⟩:=iK hR8;have x1':w8.cell? ⟨wr.heap.size,0+1,none⟩=some (.slice ga gargs.length gc):=x1;have Z8:=hL8.size;have hown:∀k,(Value.slice ka kn kc).ownBlock=some k→w7.heap.size≤k∧k<wr.heap.size:=fun k e=>by
      obtain⟨ys,ho,_⟩:=HO.out;exact ho.lt k e
     have LJ:=HIh.out (by omega) (fun k=>((B k∧k≠w.heap.size∧k≠w.heap.size+1)∧k≠bx)∧(Value.slice ka kn kc).ownBlock≠some k) (gn,gargs) (.agg #[.string gn,.slice ga gargs.length gc]) (dep+1) cc dd nn w8 (by omega) (fun k hb=>HB1.out k hb.1.1.1) (fun k hk=>⟨⟨⟨HB2.out k (by omega),by omega,by omega⟩,by omega⟩,fun e=>by have:=(hown k e).2;omega⟩) (HS.out.below hL8.below) hnn hcc hdd hGa ⟨_,rfl,hgs.later hL8⟩;rw[show(((dep+1:Nat):Int))=(dep:Int)+1 from rfl] at LJ;obtain⟨PX,hPX⟩:∃PX,PX=bJ how (M+1) (gn,gargs) (dep+1) (cc,dd):=⟨_,rfl⟩;rw[←hPX] at LJ;have Q6:=hide LJ;have HPX:=hide hPX;have HW8:=hide hw8;have HL8:=hide hL8;have HOw:=hide hown;have HDr:=hide hdr;clear LJ hPX hw8 hR8 hL8 WA hfc hgs hgA hGa hGe x1 hown hdr
     go_wp2_with (first|(rw[←HW8.out])|fail)
     refine Q6.out.mono ?_;rintro e w9 ⟨v9,er9,n9,rfl,hV9,hS9,hn9,hK9⟩;obtain⟨PX1,c9,d9⟩:=PX;dsimp only at hV9 hS9 hn9;have Z9:=hK9.size;have LK:Kq P mb wr w9:=(Kq.of_below HL8.out.below).trans hK9;have SB:=(LK.block (w.heap.size+1) (by omega) (by omega) (by omega)).trans Wz.out;clear Q6 f0 f1 x0 x1' HW8;cases PX1 with
     |none=>
      obtain⟨rfl,rfl⟩:=hV9;have HE:Hid (bJ how (M+1+1) (fn,aH) dep (c,d)=(none,(c9,d9))):=by
       show _=_;rw[HPG.out,zN.out,HDr.out,xU HPX.out.symm]
       rfl
      obtain⟨es,hes⟩:∃es:ByteArray,es=⟨#[]⟩:=⟨_,rfl⟩;rw[show iU=.agg #[.string es,.slice none 0 0,.int .i64 0,.slice none 0 0] by rw[hes];rfl];clear hes;obtain⟨w10,KA⟩:∃w10,w10=w9.alloc (.cells #[.string es,.slice none 0 0,.int .i64 0,.slice none 0 0] 30):=⟨_,rfl⟩;have qx:Later w9 w10:=by rw[KA];exact(Later.refl w9).alloc _
      have LM:=(qx.block (Array.getElem?_eq_some_iff.1 SB).1).trans SB;have hKw:Kq P mb w w10:=((HK6.out.trans HK.out).trans LK).trans (Kq.of_below qx.below);have HKf:=hide (HFin.out (.string ⟨#[]⟩) (.slice none 0 0) (.int .i64 0) (.slice none 0 0) w10 LM hKw);have HPf:=hide ((HTu.out _ _ _ _ (.string ⟨#[]⟩) (.slice none 0 0) (.int .i64 0) (.slice none 0 0) w10 (fun k hb=>hb.1.1.2.2) (hS9.below qx.below)).mono (B':=B) fun k _ hb=>hb.1.1.1);have HZ:=hide (dJ (gI LM (.string ⟨#[]⟩) (.slice none 0 0) (.int .i64 0) (.slice none 0 0))).1;obtain⟨_,_,⟨t0,t1,t2,t3⟩,_⟩:=dJ LM;have Uv:=hide KA;clear KA qx LM hKw SB LK hS9 hK9 zN HO HS HIh HPX
      go_wp2_with (rw[←Uv.out])
      obtain⟨z0,z1,z2,z3⟩:=HZ.out;unfold qZ at z0 z1 z2 z3;refine bodyPost_ret (v:=.tuple #[iU,.int .i64 4]) (by simp[results,Tryz.results60,go_sem,z0,z1,z2,z3];rfl) rfl ⟨iU,4,n9,rfl,?_,?_,?_,HKf.out⟩
      ·rw[HE.out];exact⟨rfl,rfl⟩
      ·rw[HE.out];exact HPf.out
      ·rw[HE.out];exact hn9
     |some x=>
      obtain⟨rfl,s9,k9,rfl,hs9,hk9,hz9⟩:=hV9;have hk9:(Jo M).sl (From w8.heap.size) w9 k9 x.kids:=hk9;obtain⟨sa9,sc9,rfl⟩:=Kind.slice hs9;obtain⟨ka9,kc9,rfl⟩:=Kind.slice hk9;have hbd:=ru (M+1) (gn,gargs) (dep+1) (cc,dd) x (c9,d9) HPX.out.symm;dsimp only at hbd;have HE:Hid (PG=lI (fun g s=>bJ how (M+1) g (dep+1) s) (of.drop (j+1)) (done++[x]) (c9,d9)):=by
       show _=_;rw[zN.out,HDr.out];exact xV HPX.out.symm
      obtain⟨w10,KA⟩:∃w10,w10=w9.alloc (.cells #[.string x.fact.1,.slice sa9 x.fact.2.length sc9,.int .i64 x.rule,.slice ka9 x.kids.length kc9] 30):=⟨_,rfl⟩;have qx:Later w9 w10:=by rw[KA];exact(Later.refl w9).alloc _
      have WB:w10.heap[w9.heap.size]?=some (.cells #[.string x.fact.1,.slice sa9 x.fact.2.length sc9,.int .i64 x.rule,.slice ka9 x.kids.length kc9] 30 (0,0)):=by rw[KA];exact heap_alloc_new w9 _
      have Y2:=qx.size;have WC:=(LK.block bx (by omega) (by omega) (by omega)).trans HR.out;have zA:=(qx.block (by omega:bx<w9.heap.size)).trans WC;have LP:Kq P mb w6 w10:=(HK.out.trans LK).trans (Kq.of_below qx.below);have Q7:(Jo (M+1)).own 30 w7.heap.size w10 (.slice ka kn kc) done:=Kind.dV (Kind.dV HO.out LK.size fun k hk hl=>LK.block k hk (by omega) (by omega)) qx.size fun k hk _=>qx.block hk;have xX:∀k,(Value.slice ka kn kc).ownBlock=some k→w7.heap.size≤k∧k<wr.heap.size:=HOw.out;have hcx:(Jo (M+1)).is (fun k=>w7.heap.size≤k∧(Value.slice ka kn kc).ownBlock≠some k) w10 [.string x.fact.1,.slice sa9 x.fact.2.length sc9,.int .i64 x.rule,.slice ka9 x.kids.length kc9] x:=by
       have hm:∀k,k<w10.heap.size→From w8.heap.size k→(w7.heap.size≤k∧(Value.slice ka kn kc).ownBlock≠some k):=fun k _ (hb:w8.heap.size≤k)=>⟨by omega,fun e=>by have:=(xX k e).2;omega⟩;exact⟨_,_,rfl,Kind.bT (Kind.bM hs9 qx.size fun k hk _=>qx.block hk) hm,Kind.bT (Kind.bM hk9 qx.size fun k hk _=>qx.block hk) hm,hz9.kept hk9 fun k hk _=>qx.block hk⟩
      have hdl:=HDn.out;obtain⟨ti,i1,i2,i3,i4⟩:=xS;obtain⟨v11,w11,hrun,GI,vg,_,M4⟩:=Kind.j5 (P:=Tryz.prog) (t:=28) Q7 Tryz.underlying28 i1 i2 i3 i4 rfl (by show 0<4;decide) hcx (by omega) (by simp only[maxLen];omega) (by omega);obtain⟨ka2,kn2,kc2,rfl⟩:∃a n c,v11=.slice a n c:=by
       obtain⟨a,c,e⟩:=Kind.slice (Kind.fA GI (by rw[List.length_append];simp;omega));exact⟨a,_,c,e⟩
      have Y3:=vg.size;have Tm:(w10.alloc (.cells #[.string x.fact.1,.slice sa9 x.fact.2.length sc9,.int .i64 x.rule,.slice ka9 x.kids.length kc9] 30)).heap.size=w10.heap.size+1:=by simp
      have CQ:w11.heap[bx]?=some (.cells #[.string fn,v1,.int .i64 rl,.slice ka kn kc] 30 (0,0)):=(vg.block bx (by omega) (fun e=>by have:=(xX bx e.symm).1;omega)).trans ((Below.heap_alloc w10 _ bx (by omega)).trans zA);obtain⟨wN,hwN⟩:∃wN,wN=w11.setCell ⟨bx,3,none⟩ (.slice ka2 kn2 kc2):=⟨_,rfl⟩;have hTN:Tn bx w11 wN:=by rw[hwN];exact Tn.setCell (p:=bx) (Tn.refl _ _) (x:=⟨bx,3,none⟩) (Or.inl rfl) _
      have Jr:wN.heap[bx]?=some (.cells #[.string fn,v1,.int .i64 rl,.slice ka2 kn2 kc2] 30 (0,0)):=by rw[hwN,dF (j:=3) CQ];rfl
      have aac:=hTN.size;have hPN:PvS (fun k=>((B k∧k≠w.heap.size∧k≠w.heap.size+1)∧k≠bx)∧(Value.slice ka2 kn2 kc2).ownBlock≠some k) wF wN P mb pv tv av sv (c9:Int) (d9:Int) n9 all how:=by
       have hSa:=hS9.below qx.below;have hSb:=hSa.mono (B':=fun k=>(((B k∧k≠w.heap.size∧k≠w.heap.size+1)∧k≠bx)∧(Value.slice ka kn kc).ownBlock≠some k)∧(Value.slice ka2 kn2 kc2).ownBlock≠some k) fun k hk hb=>⟨hb,fun e=>by
        rcases M4 k e with h|h
        ·exact hb.2 h
        ·omega⟩
       have hSc:=hSb.below ((Later.refl w10).alloc (.cells #[.string x.fact.1,.slice sa9 x.fact.2.length sc9,.int .i64 x.rule,.slice ka9 x.kids.length kc9] 30)).below;have hSd:=hSc.turned vg.os vg.tape vg.output vg.size fun k hk h=>vg.block k hk fun e=>by
        have ho:=xX k e.symm;rcases h with h|h|h|h
        ·omega
        ·omega
        ·omega
        ·exact h.1.2 e.symm
       have hSe:=hSd.turned hTN.os hTN.tape hTN.output hTN.size fun k hk h=>hTN.block k hk (by
        rcases h with h|h|h|h
        ·omega
        ·omega
        ·omega
        ·exact h.1.1.2)
       exact hSe.mono fun k _ hb=>⟨hb.1.1,hb.2⟩
      have hKN:Kq P mb w6 wN:=⟨(hTN.os.trans vg.os).trans LP.os,(hTN.tape.trans vg.tape).trans LP.tape,(hTN.output.trans vg.output).trans LP.output,by have:=LP.size;omega,fun k hk h1 h2=>
       ((hTN.block k (by have:=LP.size;omega) (by omega)).trans (vg.block k (by have:=LP.size;omega) (fun e=>by have:=(xX k e.symm).1;omega))).trans ((Below.heap_alloc w10 _ k (by have:=LP.size;omega)).trans (LP.block k hk h1 h2))⟩
      have WE:bsK.sl (kD v1) wN v1 aH:=Kind.bM HSl.out (by omega) fun k hk e=>by
       have hx:=HVx.out k e;exact((hTN.block k (by omega) hx.2.1).trans (vg.block k (by omega) (fun e'=>by have:=(xX k e'.symm).1;omega))).trans ((Below.heap_alloc w10 _ k (by omega)).trans ((qx.block (by omega)).trans (LK.block k hk (by omega) (by omega))))
      have hON:(Jo (M+1)).own 30 w7.heap.size wN (.slice ka2 kn2 kc2) (done++[x]):=Kind.dL GI hTN (by omega);obtain⟨_,⟨_,_,_⟩,_,_⟩:=dJ zA;obtain⟨⟨l0,l1,l2,l3⟩,⟨l4,l5,l6⟩,_,_⟩:=dJ WB;obtain⟨⟨_,_,_,m3⟩,_,_,_⟩:=dJ zA;obtain⟨⟨_,_,_,o3⟩,_,⟨_,_,_,t3⟩,_⟩:=dJ CQ;have Y4:=hide hrun;have Uv:=hide KA;have HWN:=hide hwN;have HON:=hide hON;have HRN:=hide Jr;have HPN:=hide hPN;have HKN:=hide hKN;have HSN:=hide WE;have HDN:Hid ((done++[x]).length=j+1):=by show _=_;rw[List.length_append,HDn.out];rfl
      have VT:w7.heap.size≤wN.heap.size:=by omega
      clear hrun KA hwN hON Jr hPN hKN WE hTN CQ zA WC vg GI M4 hcx Q7 LP qx WB hs9 hk9 hS9 hK9 LK SB FV xX hdl i1 i2 i3 i4 Tm Y3 zN HO HS HDn HR HSl HK HPX HDr HOw Wz
      go_wp2_with (first|(rw[←Uv.out])|(rw[←HWN.out])|(at_builtin;refine wpList_append_run rfl (.tmp 72) (.tmp 74) 28 rfl _ _ _ _ rfl rfl Y4.out ?_))
      go_roundg (of.length- (j+1))
      case measure=>omega
      case rel=>exact⟨j+1,done++[x],c9,d9,n9,ka2,kn2,kc2,by omega,by go_num,HDN,HON,HRN,HE,HPN,hn9,hbd.1,hbd.2,HKN,HSN,VT⟩
    ·have hj0:j=of.length:=by omega
     have HE:Hid (PG=(some done,(cc,dd))):=by
      show _=_;rw[zN.out,List.drop_eq_nil_of_le (by omega)];unfold lI kQ;simp
     have HE2:Hid (bJ how (M+1+1) (fn,aH) dep (c,d)=(some (bH.mk (fn,aH) rl done),(cc,dd))):=by
      show _=_;rw[HPG.out,HE.out];rfl
     obtain⟨⟨e0,e1,e2,e3⟩,⟨e4,e5,e6⟩,_,_⟩:=dJ HR.out;obtain⟨_,_,⟨t0,t1,t2,t3⟩,_⟩:=dJ FV;have hKw:Kq P mb w wr:=HK6.out.trans HK.out;have hT:=mU wr (w.heap.size+1) (.string fn) v1 (.int .i64 rl) (.slice ka kn kc);have HKf:=hide (HFin.out (.string fn) v1 (.int .i64 rl) (.slice ka kn kc) wr FV hKw);have HPf:=hide ((HTu.out _ _ _ _ (.string fn) v1 (.int .i64 rl) (.slice ka kn kc) wr (fun k hb=>hb.1.1.2.2) HS.out).mono (B':=B) fun k _ hb=>hb.1.1.1);have HZ:=hide (dJ (gI FV (.string fn) v1 (.int .i64 rl) (.slice ka kn kc))).1;have HVf:Hid (OT (M+1) (From w.heap.size) (qZ wr (w.heap.size+1) (.string fn) v1 (.int .i64 rl) (.slice ka kn kc)) (.agg #[.string fn,v1,.int .i64 rl,.slice ka kn kc]) (bH.mk (fn,aH) rl done)):=by
      have ho:=Kind.fA (Kind.dL HO.out hT (by omega)) (by have:=HDn.out;omega);refine⟨v1,.slice ka kn kc,rfl,Kind.bT (Kind.bM HSl.out hT.size fun k hk e=>hT.block k hk (by have:=(HVx.out k e).1;omega)) fun k _ e=> ?_,Kind.bT ho fun k _ (hb:w7.heap.size≤k)=> ?_,LD (Kind.dL HO.out hT (by omega))⟩
      ·show w.heap.size≤k;have:=(HVx.out k e).1;omega
      ·show w.heap.size≤k;omega
     clear hj0 zN HE hT hKw FV HO HS HIh;subst Ww;go_wp2;obtain⟨z0,z1,z2,z3⟩:=HZ.out;unfold qZ at z0 z1 z2 z3;refine bodyPost_ret (v:=.tuple #[.agg #[.string fn,.slice xa aH.length xc,.int .i64 rl,.slice ka kn kc],.int .i64 0]) (by simp[results,Tryz.results60,go_sem,z0,z1,z2,z3]) rfl ⟨_,0,nn,rfl,?_,?_,?_,HKf.out⟩
     ·rw[HE2.out];exact⟨rfl,HVf.out⟩
     ·rw[HE2.out];exact HPf.out
     ·rw[HE2.out];exact hnn
end Go.Proofs.YtafmbokfkbccaaaGreatDoor
namespace Go.Proofs.YtafmbokfkbccaaaGreatDoor
open Go.RowKit Go.Sort Go.Maps
def fU (p:List aD) (told:List au):List (List au):=(bD p (aW p).1 (countP (aW p).1) 0 told).2
theorem Bg {p:List aD} {all:List au}:∀{ps:List (List au)} {L:List au},Steps (Came p all) L ps→GoodS p (bU L ps)→∀l∈L::ps,GoodS p l
 |[],L,_,hg,l,hl=>by
  simp at hl;subst hl;exact hg
 |M::ps,L,hs,hg,l,hl=>by
  rw[gD] at hg;rcases List.mem_cons.1 hl with rfl|hl
  ·exact hs.1.1
  ·exact Bg hs.2 hg l hl
theorem LQ {p:List aD} {all:List au} (h:GoodS p all) (b:List aI):jD all b=0↔aM b=0:=by
 show pU b all []=0↔_;unfold pU;rw[om h.up h.right h.few];have e:(aT []).1=0:=rfl
 by_cases hb:aM b=0
 ·rw[if_neg (by simpa using hb),if_neg (by simp),e];simp[hb]
 ·rw[if_pos hb]
theorem vk {g:aD→Option (List au)} {n:Nat}:∀(p:List aD) (i:Nat),(∀r∈p,∀of,g r=some of→of.length≤n)→(iB g i p).2.length≤n
 |[],i,_=>by simp[iB]
 |r::p,i,h=>by
  unfold iB;cases e:g r with
  |none=>exact vk p (i+1) fun q hq=>h q (by simp[hq])
  |some of=>exact h r (by simp) of e
theorem OV {err:List aI→Int} {all old:List au} {r:aD} {f:au} {of:List au} (h:byP err all old r f=some of):of.length≤r.body.length:=by
 unfold byP at h;cases hm:dw r.head f [] with
 |none=>rw[hm] at h;cases h
 |some b=>
  rw[hm] at h;have:=List.mem_of_find?_eq_some h;obtain⟨l,_,rfl⟩:=List.mem_map.1 this;have:=jU (dU b r.body) l;unfold dU at this;rw[List.length_map] at this;exact this
theorem Bh {p:List aD} {told:List au} (h:iT p told=0):
  dR p∧GoodS p told∧GoodS p (bU told (fU p told))∧jM p told=(0,bU told (fU p told))∧NI p told (bU told (fU p told)) (mY (jD (bU told (fU p told))) p told (bU told (fU p told)) (told::fU p told))∧
  (∀l∈told::fU p told,fT l)∧(told::fU p told).length≤1000000∧(∀f∈bU told (fU p told),inB told f=false→1≤dM (told::fU p told) f∧dM (told::fU p told) f<(told::fU p told).length)∧
  (∀r∈p,r.head.terms.length≤4∧r.body.length≤5∧∀a∈r.body,a.terms.length≤4)∧(∀f∈bU told (fU p told),(∀g∈(mY (jD (bU told (fU p told))) p told (bU told (fU p told)) (told::fU p told) f).2,g∈bU told (fU p told))∧(mY (jD (bU told (fU p told))) p told (bU told (fU p told)) (told::fU p told) f).2.length≤1000):=by
 have hall:jM p told=(0,bU told (fU p told)):=(qY p told).2 h;obtain⟨hp,hl,τ,hτ,hst,hr⟩:=CB hall;obtain⟨_,_,hgM,_,_⟩:=uT hall;have hrun:bD p (p.map fun r=>τ r.head.name) (countP (p.map fun r=>τ r.head.name)) 0 told=(0,fU p told):=by
  have h1:=sH p (p.map fun r=>τ r.head.name) (countP (p.map fun r=>τ r.head.name)) 0 told;rw[hr] at h1;refine Prod.ext h1.1.symm ?_;unfold fU;rw[hst]
 have hsteps:=Dz hp hτ _ 0 hl hrun;have Ii:∀r∈p,dI (fun _=>bU told (fU p told)) 0 r.body [[]]≠none:=fun r hr'=>DC hp hτ _ 0 hl hrun r hr' (Nat.zero_le _) (by rw[Nat.zero_add];exact pE (List.mem_map.2 ⟨r,hr',rfl⟩));have Ec:=Qi hp (err:=jD (bU told (fU p told))) (LQ hgM) hsteps Ii;have hsh:∀r∈p,r.head.terms.length≤4∧r.body.length≤5∧∀a∈r.body,a.terms.length≤4:=fun r hr'=>by
  have hR:=hp.rules r hr';obtain⟨b1,b2⟩:=ji hR.body;exact⟨(bC hR.head).2.1,b1,fun a ha=>(bC (b2 a ha)).2.1⟩
 refine⟨hp,hl,hgM,hall,Ec,fun l hl'=>(Bg hsteps hgM l hl').up,?_,fun f hf hn=> ?_,hsh,fun f hf=>⟨?_,?_⟩⟩
 ·have h1:=CF (p:=p) (ss:=p.map fun r=>τ r.head.name) (countP (p.map fun r=>τ r.head.name)) 0 told;rw[hrun] at h1;have h2:countP (p.map fun r=>τ r.head.name)≤16:=by
   rw[←hst];obtain⟨ss,ex,ea,hse⟩:∃ss ex ea,aW p=(ss,ex,ea):=⟨_,_,_,rfl⟩;have hx:ex=0:=by
    refine Classical.byContradiction fun hne=> ?_;unfold iT at h;rw[hse] at h;dsimp only at h;rw[if_pos hne] at h;exact hne h
   subst hx;rw[hse];obtain⟨_,m,hms,_,hlm,hsm⟩:=kJ hse;refine countP_le fun s hs=> ?_;rw[hms] at hs;obtain⟨r,hr',rfl⟩:=List.mem_map.1 hs;have:=pY hlm hsm r hr';have:=hp.few;omega
  have h3:=Nat.mul_le_mul_right 201 h2;dsimp only at h1;simp only[List.length_cons];omega
 ·have hn':f∉told:=fun hc=>by rw[dB.2 hc] at hn;cases hn
  obtain⟨_,_,_,_,_,_,h5,h6⟩:=Ck hsteps hf hn';exact⟨h5,h6⟩
 ·rcases Ec.ok f hf with⟨_,e⟩|⟨i,r,of,_,e,_,hk⟩
  ·rw[e];intro k hk;cases hk
  ·rw[e];exact hk
 ·unfold mY;split
  ·simp
  ·refine vk p 0 fun r hr' of hof=> ?_;have:=OV hof;have:=(hsh r hr').2.1;omega
theorem Ef (w0 wF:World) (P lo mb:Nat) (p:List aD) (told all:List au) (PS:List (List au)) (pv tv av sv:Value) (xs:List Value) (hG:Gq w0 wF P lo mb p told all PS pv tv av sv xs):∀N,Jq all P mb pv tv av sv wF (mY (jD all) p told all PS) (N+1)
 |0=>xW w0 wF P lo mb p told all PS pv tv av sv xs hG 0 (fun h=>absurd h (by omega))
 |N+1=>xW w0 wF P lo mb p told all PS pv tv av sv xs hG (N+1) fun _=>Ef w0 wF P lo mb p told all PS pv tv av sv xs hG N
end Go.Proofs.YtafmbokfkbccaaaGreatDoor
namespace Go.Proofs.YtafmbokfkbccaaaGreatDoor
def CR (A B:List au):Prop:=∀f∈A,f∈B
theorem Bj {p:List aD} (hp:dR p) (σ:aD→Nat) {n:Int}:∀(k:Nat) {L:List au} {ps:List (List au)},GoodS p L→aR p (p.map σ) n k L=(0,ps)→Steps CR L ps
 |0,L,ps,_,h=>by
  simp only[aR,Prod.mk.injEq,true_and] at h;subst h
  trivial
 |k+1,L,ps,hL,h=>by
  unfold aR at h;obtain⟨e,x,hx⟩:∃e x,bZ p (p.map σ) n L=(e,x):=⟨_,_,rfl⟩;rw[hx] at h;dsimp only at h;split at h
  ·rename_i he;simp at h;exact absurd h.1 he
  ·rename_i he;have he:e=0:=by simpa using he
   subst he;obtain⟨g1,g2⟩:=jr hp σ hL hx;split at h
   ·simp at h;subst h;exact⟨g2,trivial⟩
   ·obtain⟨e2,qs,hq⟩:∃e qs,aR p (p.map σ) n k x=(e,qs):=⟨_,_,rfl⟩;rw[hq] at h;simp only[Prod.mk.injEq] at h;obtain⟨rfl,rfl⟩:=h;exact⟨g2,Bj hp σ k g1 hq⟩
theorem Eh {p:List aD} (hp:dR p) (σ:aD→Nat):∀(c n:Nat) {L:List au} {ps:List (List au)},GoodS p L→bD p (p.map σ) c n L=(0,ps)→Steps CR L ps
 |0,n,L,ps,_,h=>by
  simp only[bD,Prod.mk.injEq,true_and] at h;subst h
  trivial
 |c+1,n,L,ps,hL,h=>by
  unfold bD at h;obtain⟨e,qs,hq⟩:∃e qs,aR p (p.map σ) n 201 L=(e,qs):=⟨_,_,rfl⟩;rw[hq] at h;dsimp only at h;split at h
  ·rename_i he;simp at h;exact absurd h.1 he
  ·rename_i he;have he:e=0:=by simpa using he
   subst he;obtain⟨e2,rs,hr⟩:∃e rs,bD p (p.map σ) c (n+1) (bU L qs)=(e,rs):=⟨_,_,rfl⟩;rw[hr] at h;simp only[Prod.mk.injEq] at h;obtain⟨rfl,rfl⟩:=h;exact(Bj hp σ 201 hL hq).append (Eh hp σ c (n+1) (jS hp σ 201 hL hq (by omega)).1 hr)
theorem Ei {Q:List au→List au→Prop}:∀{ps:List (List au)} {L:List au},Steps Q L ps→∀(i:Nat) A B,(L::ps)[i]?=some A→(L::ps)[i+1]?=some B→Q A B
 |[],L,_,i,A,B,_,h2=>by simp at h2
 |M::ps,L,hs,0,A,B,h1,h2=>by
  simp at h1 h2;subst h1 h2;exact hs.1
 |M::ps,L,hs,i+1,A,B,h1,h2=>Ei hs.2 i A B (by simpa using h1) (by simpa using h2)
theorem Js {PS:List (List au)} (hg:∀(i:Nat) A B,PS[i]?=some A→PS[i+1]?=some B→CR A B):∀(d i:Nat) A B,PS[i]?=some A→PS[i+d]?=some B→CR A B
 |0,i,A,B,h1,h2=>by
  rw[Nat.add_zero,h1] at h2;cases h2;exact fun f h=>h
 |d+1,i,A,B,h1,h2=>by
  have hl:=(List.getElem?_eq_some_iff.1 h2).1;obtain⟨M,hM⟩:∃M,PS[i+d]?=some M:=⟨_,List.getElem?_eq_getElem (by omega)⟩;exact fun f h=>hg (i+d) M B hM (by rw[←h2];rfl) f (Js hg d i A M h1 hM f h)
theorem Q8 {PS:List (List au)} (hg:∀(i:Nat) A B,PS[i]?=some A→PS[i+1]?=some B→CR A B) {a:Nat} (h1:1≤a) (h2:a<PS.length) (k:au):decide (dM PS k<a)=inB (PS.getD (a-1) []) k:=by
 obtain⟨A,hA⟩:∃A,PS[a-1]?=some A:=⟨_,List.getElem?_eq_getElem (by omega)⟩;have e:PS.getD (a-1) []=A:=by rw[List.getD_eq_getElem?_getD,hA];rfl
 rw[e];cases hi:inB A k with
 |true=>
  have h3:dM PS k≤a-1:=by
   refine Nat.le_of_not_lt fun hlt=> ?_;unfold dM at hlt;have h4:=List.not_of_lt_findIdx hlt;have e2:PS[a-1]'(by omega)=A:=by
    have:=List.getElem?_eq_getElem (l:=PS) (i:=a-1) (by omega);rw[hA] at this;exact(Option.some.inj this).symm
   rw[e2,hi] at h4;simp at h4
  simp;omega
 |false=>
  have h3:¬dM PS k<a:=fun hlt=>by
   have hl:dM PS k<PS.length:=by omega
   have hp:inB (PS[dM PS k]'hl) k=true:=List.findIdx_getElem (w:=hl);have h4:=Js hg (a-1-dM PS k) (dM PS k) _ A (List.getElem?_eq_getElem hl) (by rw[show dM PS k+(a-1-dM PS k)=a-1 by omega];exact hA) k (dB.1 hp);rw[dB.2 h4] at hi;cases hi
  simp[h3]
theorem Ej {told:List au} {ps:List (List au)} {f:au}:dM (told::ps) f=0↔inB told f=true:=by
 unfold dM;rw[List.findIdx_cons];cases inB told f <;> simp
theorem CS {p:List aD} {told:List au} (h:iT p told=0):∀(i:Nat) A B,(told::fU p told)[i]?=some A→(told::fU p told)[i+1]?=some B→CR A B:=by
 have hall:jM p told=(0,bU told (fU p told)):=(qY p told).2 h;obtain⟨hp,hl,τ,hτ,hst,hr⟩:=CB hall;have hrun:bD p (p.map fun r=>τ r.head.name) (countP (p.map fun r=>τ r.head.name)) 0 told=(0,fU p told):=by
  have h1:=sH p (p.map fun r=>τ r.head.name) (countP (p.map fun r=>τ r.head.name)) 0 told;rw[hr] at h1;refine Prod.ext h1.1.symm ?_;unfold fU;rw[hst]
 exact Ei (Eh hp _ _ 0 hl hrun)
end Go.Proofs.YtafmbokfkbccaaaGreatDoor
