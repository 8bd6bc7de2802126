import Derived.Test.YtafmbokfkbccaaaGreatDoorJF40
import Derived.Test.YtafmbokfkbccaaaGreatDoorJF35
import Derived.Test.YtafmbokfkbccaaaGreatDoorJF28
namespace Go.Proofs.YtafmbokfkbccaaaGreatDoor
open Go.RowKit Go.Sort Go.Maps
structure Gq (w0 wF:World) (P lo mb:Nat) (p:List aB) (told all:List au) (PS:List (List au)) (pv tv av sv:Value) (xs:List Value):Prop where
 gp:Gp wF P lo mb av sv xs all PS
 gr:Grd w0 P p told all PS pv tv
 lm:w0.heap.size≤mb
 b0:Below w0.heap.size w0 wF
 cl:∀f∈all,(∀g∈(qZ (nM all) p told all PS f).2,g∈all)∧(qZ (nM all) p told all PS f).2.length≤1000
 ag:∀f∈all,f.2.length≤1000
 pi:oq pv∧oq tv
theorem Dc {P:Nat} {w w':World} {v:Value} {l:List ByteArray} (hn:rz w P) (k:Tn P w w') (h:Strs w v l):Strs w' v l:=by
 obtain⟨h0,a,cap,rfl,h1⟩:=h;refine⟨h0,a,cap,rfl,fun hl=> ?_⟩;obtain⟨b,off,rfl,hb,hc⟩:=h1 hl;refine⟨b,off,rfl,Nat.lt_of_lt_of_le hb k.size,fun i hi=> ?_⟩;rw[World.cell?_of_block (w:=w) (k.block b hb (fun e=>by subst e;exact hn _ _ (hc i hi)))];exact hc i hi
theorem PvS.xB {B:Nat→Prop} {wF w:World} {P lo mb:Nat} {pv tv av sv:Value} {xs:List Value} {c d:Int} {n:Nat} {all:List au} {PS:List (List au)} {how:au→Int×List au} (h:PvS B wF w P mb pv tv av sv c d n all how) (hp:oq pv) (ht:oq tv) (G:Gp wF P lo mb av sv xs all PS):rz w P:=by
 have ha:oq av:=by obtain⟨a,c,e⟩:=aA G.fa;exact⟨a,_,c,e⟩
 exact h.row.xB hp ht ha G.past.oq
set_option maxRecDepth 100000 in
set_option maxHeartbeats 8000000 in
theorem xD (w0 wF:World) (P lo mb:Nat) (p:List aB) (told all:List au) (PS:List (List au)) (pv tv av sv:Value) (xs:List Value) (hG:Gq w0 wF P lo mb p told all PS pv tv av sv xs) (N:Nat) (ih:1≤N→Jj all P mb pv tv av sv wF (qZ (nM all) p told all PS) N):Jj all P mb pv tv av sv wF (qZ (nM all) p told all PS) (N+1):=by
 intro B f fv dep c d n w hN hB1 hB2 hS hnc hc4 hd6 hfa hf;obtain⟨how,Jv⟩:∃how,how=qZ (nM all) p told all PS:=⟨_,rfl⟩;rw[←Jv] at hS ih⊢;obtain⟨s,rfl,hs⟩:=hf;obtain⟨sa,sc,rfl⟩:=aV hs;have hne:=hG.gp.ne;have hlo1:=hG.gp.lo1;have hlo2:=hG.gp.lo2;have hlo3:=hG.gp.lo3;have Ws:=hS.kq.size;obtain⟨w1,hw1⟩:∃w1,w1=(w.alloc (.cells #[.string f.1,.slice sa f.2.length sc] 27)).alloc (.cells #[.string ⟨#[]⟩,.slice none 0 0,.int .i64 0,.slice none 0 0] 30):=⟨_,rfl⟩;have hL1:Later w w1:=by rw[hw1];exact((Later.refl w).alloc _).alloc _
 have hs1:w1.heap.size=w.heap.size+2:=by rw[hw1];simp
 have hr0:w1.heap[w.heap.size]?=some (.cells #[.string f.1,.slice sa f.2.length sc] 27 (0,0)):=by
  rw[hw1];simp only[gJ,World.size_alloc]
  repeat (first|rw[if_pos trivial]|rw[if_pos (by omega)]|rw[if_neg (by omega)])
 have hr1:w1.heap[w.heap.size+1]?=some (.cells #[.string ⟨#[]⟩,.slice none 0 0,.int .i64 0,.slice none 0 0] 30 (0,0)):=by
  rw[hw1];simp only[gJ,World.size_alloc]
  repeat (first|rw[if_pos trivial]|rw[if_pos (by omega)]|rw[if_neg (by omega)])
 obtain⟨c1,hc1⟩:∃c1:Nat,c1=c+1:=⟨_,rfl⟩;obtain⟨d1,hd1⟩:∃d1:Nat,d1=max d dep:=⟨_,rfl⟩;have hci:(c1:Int)=(c:Int)+1:=by omega
 have hdi:(d1:Int)=max (d:Int) (dep:Int):=by omega
 have hS1:=(hS.mono (B':=fun k=>B k∧k≠w.heap.size∧k≠w.heap.size+1) fun k hk hb=>⟨hb,by omega,by omega⟩).below hL1.below;obtain⟨w2,hw2⟩:∃w2,w2=w1.setCell ⟨P,3,none⟩ (.int .i64 ((c:Int)+1)):=⟨_,rfl⟩;have hS2:PvS (fun k=>B k∧k≠w.heap.size∧k≠w.heap.size+1) wF w2 P mb pv tv av sv (c1:Int) (d:Int) n all how:=by rw[hw2,hci];exact hS1.counts hne (fun k hb=>(hB1 k hb.1).2) 3 _ _ _ (Or.inl ⟨rfl,rfl,rfl⟩)
 obtain⟨w3,hw3⟩:∃w3,w3=w2.setCell ⟨P,4,none⟩ (.int .i64 (max (d:Int) (dep:Int))):=⟨_,rfl⟩;have hS3:PvS (fun k=>B k∧k≠w.heap.size∧k≠w.heap.size+1) wF w3 P mb pv tv av sv (c1:Int) (d1:Int) n all how:=by rw[hw3,hdi];exact hS2.counts hne (fun k hb=>(hB1 k hb.1).2) 4 _ _ _ (Or.inr ⟨rfl,rfl,rfl⟩)
 have hPw:=hS.cells.2.2.2.2.1;have Qm:Tn P w1 w3:=by
  rw[hw3,hw2];exact Tn.setCell (p:=P) (Tn.setCell (p:=P) (Tn.refl _ _) (x:=⟨P,3,none⟩) (Or.inl rfl) _) (x:=⟨P,4,none⟩) (Or.inl rfl) _
 have hs3:w3.heap.size=w.heap.size+2:=by rw[hw3,hw2,size_setCell,size_setCell,hs1]
 have Qn:w3.heap[w.heap.size]?=some (.cells #[.string f.1,.slice sa f.2.length sc] 27 (0,0)):=(Qm.block _ (by omega) (by omega)).trans hr0;have Ec:w3.heap[w.heap.size+1]?=some (.cells #[.string ⟨#[]⟩,.slice none 0 0,.int .i64 0,.slice none 0 0] 30 (0,0)):=(Qm.block _ (by omega) (by omega)).trans hr1;have UU:Kq P mb w w3:=(Kq.of_below hL1.below).trans (Kq.Ql Qm);obtain⟨a3,_,a5,_,_,_⟩:=hS1.cells;obtain⟨_,b4,_,b6,_,_⟩:=hS2.cells;obtain⟨g3,_,_,_,_,g8⟩:=hS3.cells;have HMu:=hide (Sz c1 d1 w3);have HC1:=hide hc1;have HD1:=hide hd1;clear hc1 hd1 hci hdi;have HW1:=hide hw1;have HW2:=hide hw2;have HW3:=hide hw3;have HS3:=hide hS3;have HR0:=hide Qn;have HR1:=hide Ec;have HK3:=hide UU;have HG:=hide hG;have HB1:=hide hB1;have HB2:=hide hB2;have HIh:=hide ih;have SX:=hide Jv;have UW:Strs w3 (.slice sa f.2.length sc) f.2:=Dc (hS1.xB hG.pi.1 hG.pi.2 hG.gp) Qm (hs.later hL1);have UY:=hide UW;clear hG hB1 hB2 hS hs Jv ih hw1 hw2 hw3 hL1 hr0 hr1 hS1 hS2 hS3 Qm Qn Ec UU UW;obtain⟨fn,aJ⟩:=f;dsimp only at*
 go_enter Tryz.func60,Tryz.ntmps60
 go_wp2_with (first|(rw[←HW1.out])|(rw[←HW2.out])|(rw[←HW3.out])|fail)
 refine HMu.out.mono ?_;rintro e w4 ⟨rfl,hL4⟩;have PD:=hL4.size;have hS4:=HS3.out.below hL4.below;have Qo:=(hL4.block (by omega:w.heap.size<w3.heap.size)).trans HR0.out;have Jy:=(hL4.block (by omega:w.heap.size+1<w3.heap.size)).trans HR1.out;have hK4:Kq P mb w w4:=HK3.out.trans (Kq.of_below hL4.below);have HS4:=hide hS4;have SY:=hide Qo;have Oa:=hide Jy;have HK4:=hide hK4;have S9:=hide (UY.out.later hL4);have HFin:Hid (∀(x0 x1 x2 x3:Value) (wr:World),wr.heap[w.heap.size+1]?=some (.cells #[.string ⟨#[]⟩,.slice none 0 0,.int .i64 0,.slice none 0 0] 30 (0,0))→Kq P mb w wr→Kq P mb w (rY wr (w.heap.size+1) x0 x1 x2 x3)):=fun x0 x1 x2 x3 wr hr hK=>by
  have hT:=mM wr (w.heap.size+1) x0 x1 x2 x3;exact⟨hT.os.trans hK.os,hT.tape.trans hK.tape,hT.output.trans hK.output,Nat.le_trans hK.size hT.size,fun k hk h1 h2=>(hT.block k (Nat.lt_of_lt_of_le hk hK.size) (by omega)).trans (hK.block k hk h1 h2)⟩
 have HTu:Hid (∀(B':Nat→Prop) (cx dx:Int) (nx:Nat) (x0 x1 x2 x3:Value) (wr:World),(∀k,B' k→k≠w.heap.size+1)→PvS B' wF wr P mb pv tv av sv cx dx nx all how→PvS B' wF (rY wr (w.heap.size+1) x0 x1 x2 x3) P mb pv tv av sv cx dx nx all how):=fun B' cx dx nx x0 x1 x2 x3 wr hb hS=>by
  have hT:=mM wr (w.heap.size+1) x0 x1 x2 x3;refine hS.turned hT.os hT.tape hT.output hT.size fun k hk h=>hT.block k hk ?_;rcases h with h|h|h|h
  ·omega
  ·omega
  ·omega
  ·exact hb k h
 clear hS4 Qo hK4 HMu g3 g8 a3 a5 b4 b6 HS3 HR0 HR1 HK3 UY;cases hm:AJ (c1,d1) with
 |true=>
  have HX:Hid (cZ how (N+1) (fn,aJ) dep (c,d)=(none,(c1,d1))):=by
   show _=_;unfold cZ;dsimp only;rw[←HC1.out,←HD1.out,if_pos hm]
  have HK:=hide (HFin.out (.string ⟨#[]⟩) (.slice none 0 0) (.int .i64 0) (.slice none 0 0) w4 Oa.out HK4.out);have HP:=hide (HTu.out _ _ _ _ (.string ⟨#[]⟩) (.slice none 0 0) (.int .i64 0) (.slice none 0 0) w4 (fun k hb=>hb.2.2) HS4.out);have HZ:=hide (jD (iR Oa.out (.string ⟨#[]⟩) (.slice none 0 0) (.int .i64 0) (.slice none 0 0))).1;obtain⟨_,_,⟨t0,t1,t2,t3⟩,_⟩:=jD Jy;clear hm Jy HFin HTu HIh HG hL4;go_wp2;obtain⟨z0,z1,z2,z3⟩:=HZ.out;unfold rY at z0 z1 z2 z3;have hc1:=HC1.out;refine bodyPost_ret (v:=.tuple #[ni,.int .i64 4]) (by simp[results,Tryz.results60,go_sem,z0,z1,z2,z3];rfl) rfl ⟨ni,4,n,rfl,?_,?_,?_,HK.out⟩
  ·rw[HX.out];exact⟨rfl,rfl⟩
  ·rw[HX.out];exact HP.out.mono fun k _ hb=>hb.1
  ·rw[HX.out];show n≤c1;omega
 |false=>
  have hcd:c1≤400∧d1≤60:=by
   unfold AJ at hm;simp only[Bool.or_eq_false_iff,decide_eq_false_iff_not] at hm;omega
  have hN1:1≤N:=by have:=HD1.out;omega
  have hNc:n≤1000:=by omega
  obtain⟨rl,of,hho⟩:∃rl of,how (fn,aJ)=(rl,of):=⟨_,_,rfl⟩;have HPG:Hid (cZ how (N+1) (fn,aJ) dep (c,d)=((rT (fun g s=>cZ how N g (dep+1) s) of [] (c1,d1)).1.map (iU.mk (fn,aJ) rl),(rT (fun g s=>cZ how N g (dep+1) s) of [] (c1,d1)).2)):=by
   show _=_
   conv=>lhs;unfold cZ
   dsimp only;rw[←HC1.out,←HD1.out,if_neg (by rw[hm];simp),hho];unfold rT;dsimp only;cases(lS (fun g s=>cZ how N g (dep+1) s) of (c1,d1)).1 <;> rfl
  have UZ:Below w0.heap.size w0 w4:=aj HG.out.b0 ((HS4.out.kq).below HG.out.gr.low HG.out.lm HG.out.b0.size) (Nat.le_refl _);have U0:cK w4 (.agg #[.string fn,.slice sa aJ.length sc]) (fn,aJ):=⟨_,rfl,S9.out⟩;have hWy:=WL (fun k=>B k∧k≠w.heap.size∧k≠w.heap.size+1) p told all PS (fn,aJ) P lo pv tv (.agg #[.string fn,.slice sa aJ.length sc]) (c1:Int) (d1:Int) mb n w0 w4 HG.out.gr UZ (by rw[←SX.out];exact HS4.out.prx HG.out.gp) (fun k hb=>(HB1.out k hb.1).1) (fun k hk=>⟨HB2.out k (by omega),by omega,by omega⟩) U0 hfa hNc;rw[←SX.out,hho] at hWy;have HWy:=hide hWy;have hcl:=HG.out.cl (fn,aJ) hfa;rw[←SX.out,hho] at hcl;dsimp only at hcl;obtain⟨U1,XF⟩:=hcl;have XG:aJ.length≤1000:=HG.out.ag (fn,aJ) hfa;have WS:=hide U1;have HHo:=hide hho;obtain⟨q0,q1,_,_,_⟩:=jR SY.out;have q1':w4.cell? ⟨w.heap.size,0+1,none⟩=some (.slice sa aJ.length sc):=q1;clear hm hho UZ U0 hWy U1 Jy q1
  go_wp2_with fail
  refine HWy.out.mono ?_;rintro e w5 ⟨v5,n5,rfl,⟨u5,rfl,hF5⟩,hX5,hn5,hT5⟩;dsimp only at hF5;have hF5:bC (fun k=>B k∧k≠w.heap.size∧k≠w.heap.size+1) w5 u5 of:=hF5;obtain⟨ha,hc,rfl⟩:=aA hF5.facts;have XH:=HS4.out.ways.lt;have hP4:=HS4.out.cells.2.2.2.2.1;have hS5:PvS (fun k=>B k∧k≠w.heap.size∧k≠w.heap.size+1) wF w5 P mb pv tv av sv (c1:Int) (d1:Int) n5 all how:=⟨HS4.out.row.block (hT5.block P hP4 hne),HS4.out.kq.trans (Kq.LD hT5),hX5.ways⟩;obtain⟨w6,hw6⟩:∃w6,w6=w5.alloc (.cells #[.int .i64 rl,.slice ha of.length hc] 182):=⟨_,rfl⟩;have hL6:Later w5 w6:=by rw[hw6];exact(Later.refl w5).alloc _
  have hs6:w5.heap.size<w6.heap.size:=by rw[hw6];simp
  have Ta:w6.heap[w5.heap.size]?=some (.cells #[.int .i64 rl,.slice ha of.length hc] 182 (0,0)):=by rw[hw6];exact heap_alloc_new w5 _
  have hsz5:=hT5.size;have Uw:w.heap.size+2≤w4.heap.size:=by omega
  have U2:=(hT5.block w.heap.size (by omega) (by omega)).trans SY.out;have Gc:=(hT5.block (w.heap.size+1) (by omega) (by omega)).trans Oa.out;have U3:=(hL6.block (by omega:w.heap.size<w5.heap.size)).trans U2;have KN:=(hL6.block (by omega:w.heap.size+1<w5.heap.size)).trans Gc;have hS6:=hS5.below hL6.below;have hF6:=hF5.below hL6.below;have hK6:Kq P mb w w6:=(HK4.out.trans (Kq.LD hT5)).trans (Kq.of_below hL6.below);have U4:Strs w6 (.slice sa aJ.length sc) aJ:=(Cr S9.out HS4.out.ways.isMap hT5).later hL6;have HCl:Hid (∀w',Below w6.heap.size w6 w'→Calls Tryz.prog 108 #[.slice sa aJ.length sc] w' fun e w''=>∃v',e=.returned v'∧bsK.own 9 0 w'' v' aJ∧(∀k,v'.ownBlock=some k→w'.heap.size≤k)∧Below w6.heap.size w6 w''∧Below w'.heap.size w' w''):=fun w' h=>
   (F3 aJ _ w' (U4.below h) (by omega)).mono fun e w'' ⟨v',h1,h2,h3,h4⟩=>⟨v',h1,h2,h3,aj h h4 h.size,h4⟩
  have HCe:Hid (∀w',Below w6.heap.size w6 w'→w'.cell? ⟨w.heap.size,0,none⟩=some (.string fn)∧w'.cell? ⟨w.heap.size,1,none⟩=some (.slice sa aJ.length sc)∧w'.cell? ⟨w5.heap.size,0,none⟩=some (.int .i64 rl)):=fun w' h=>by
   have h0:=(h.block _ (by omega)).trans U3;have h1:=(h.block _ (by omega)).trans Ta;exact⟨by rw[cell_of_row _ _ _ _ _ _ h0];rfl,by rw[cell_of_row _ _ _ _ _ _ h0];rfl,by rw[cell_of_row _ _ _ _ _ _ h1];rfl⟩
  have HW6:=hide hw6;have HS6:=hide hS6;have HF6:=hide hF6;have HK6:=hide hK6;have U5:=hide KN;have U6:=hide Ta;clear hF5 hX5 hT5 hS5 hw6 hL6 Ta U2 Gc U3 KN hS6 hF6 hK6 U4 HWy q0 q1' HS4 S9 SY Oa HK4 hL4
  go_wp2_with (rw[←HW6.out])
  refine wp_region_held_drew (S:=fun w'=>Below w6.heap.size w6 w') (by kernel_rfl) (Below.refl _ _).drew (fun hHeld=> ?_);refine ak (i:=0) (d:=some 43) (v:= ?_) rfl rfl hHeld ?_ ?_;rotate_left;focus intro w hSw;(try dsimp only at hSw);go_simp;try with_reducible rfl
  simp only[aK,aL,aze,asu];refine ak (i:=1) (d:=some 44) (v:= ?_) rfl rfl hHeld ?_ ?_;rotate_left;focus intro w hSw;(try dsimp only at hSw);obtain⟨p0,p1,p2⟩:=HCe.out _ hSw;go_simp;try with_reducible rfl
  simp only[aK,aL,aze,asu];refine ak (i:=2) (d:=some 45) (v:= ?_) rfl rfl hHeld ?_ ?_;rotate_left;focus intro w hSw;(try dsimp only at hSw);go_simp;try with_reducible rfl
  simp only[aK,aL,aze,asu];refine ak (i:=3) (d:=some 46) (v:= ?_) rfl rfl hHeld ?_ ?_;rotate_left;focus intro w hSw;(try dsimp only at hSw);obtain⟨p0,p1,p2⟩:=HCe.out _ hSw;go_simp;try with_reducible rfl
  simp only[aK,aL,aze,asu];refine ak (i:=6) (d:=some 49) (v:= ?_) rfl rfl hHeld ?_ ?_;rotate_left;focus intro w hSw;(try dsimp only at hSw);go_simp;try with_reducible rfl
  simp only[aK,aL,aze,asu];refine ak (i:=7) (d:=some 50) (v:= ?_) rfl rfl hHeld ?_ ?_;rotate_left;focus intro w hSw;(try dsimp only at hSw);obtain⟨p0,p1,p2⟩:=HCe.out _ hSw;go_simp;try with_reducible rfl
  simp only[aK,aL,aze,asu];have hBe:Below w6.heap.size w6 w6.drew:=(Below.refl _ _).drew;refine wpAnyH_ready (rs:=[4,9]) (by kernel_rfl) (by simp) ?_;refine AllReadyH.cons rfl (fun K' hK=> ?ga) (AllReadyH.cons rfl (fun K' hK=> ?gb) AllReadyH.nil)
  case' ga=>
   go_simp;refine(HCl.out _ hBe).mono ?_;rintro e wx ⟨v1,rfl,hO1,hv0,hB1,Nu⟩;have hsl1:=LG hO1 (by omega);obtain⟨xa,xc,rfl⟩:=Kind.slice hsl1;have hv1:∀k,(Value.slice xa aJ.length xc).ownBlock=some k→w6.heap.size≤k:=hv0;have Tc:∀k,(Value.slice xa aJ.length xc).ownBlock=some k→k<wx.heap.size:=fun k e=>by
    obtain⟨ys,ho,_⟩:=hO1;exact(ho.lt k e).2
   refine hK.out _ _ hB1 (fun hHeld=> ?_);clear hK K' hBe hO1 Nu hv0;have hBe:=hB1;clear hB1;refine ak (i:=5) (d:=some 48) (v:= ?_) rfl rfl hHeld ?_ ?_;rotate_left;focus intro w hSw;(try dsimp only at hSw);go_simp;try with_reducible rfl
   simp only[aK,aL,aze,asu];refine ak (i:=8) (d:=some 51) (v:= ?_) rfl rfl hHeld ?_ ?_;rotate_left;focus intro w hSw;(try dsimp only at hSw);go_simp;try with_reducible rfl
   simp only[aK,aL,aze,asu];refine wpAnyH_ready (rs:=[9]) (by kernel_rfl) (by simp) ?_;refine AllReadyH.cons rfl (fun K' hK=> ?_) AllReadyH.nil;go_simp;have hzN:=heap_alloc_new wx (.cells #[.string ⟨#[]⟩,.slice none 0 0,.int .i64 0,.slice none 0 0] 30);have hLz:=(Later.refl wx).alloc (.cells #[.string ⟨#[]⟩,.slice none 0 0,.int .i64 0,.slice none 0 0] 30);have yX:=aj hBe hLz.below hBe.size;have hsl:bsK.sl (j6 (.slice xa aJ.length xc)) (wx.alloc (.cells #[.string ⟨#[]⟩,.slice none 0 0,.int .i64 0,.slice none 0 0] 30)) (.slice xa aJ.length xc) aJ:=Kind.aM hsl1 hLz.size fun k hk _=>hLz.block hk;have hbx:w6.heap.size≤wx.heap.size:=hBe.size;have hvx:∀k,(Value.slice xa aJ.length xc).ownBlock=some k→w6.heap.size≤k∧k≠wx.heap.size∧k<(wx.alloc (.cells #[.string ⟨#[]⟩,.slice none 0 0,.int .i64 0,.slice none 0 0] 30)).heap.size:=fun k e=>⟨hv1 k e,by have:=Tc k e;omega,by have:=Tc k e;simp;omega⟩;refine hK.out _ _ yX (fun hHeld=> ?_);clear hK K' hBe hHeld hv1 Tc hsl1 hLz;generalize wx.heap.size=bx at*;generalize wx.alloc (.cells #[.string ⟨#[]⟩,.slice none 0 0,.int .i64 0,.slice none 0 0] 30)=wf at*;have hBe:=yX;have hHeld:=yX;clear yX
  case' gb=>
   go_simp;have hzN:((w6.alloc (.cells #[.string ⟨#[]⟩,.slice none 0 0,.int .i64 0,.slice none 0 0] 30)).drew).heap[w6.heap.size]?=some (.cells #[.string ⟨#[]⟩,.slice none 0 0,.int .i64 0,.slice none 0 0] 30 (0,0)):=heap_alloc_new w6 _;have yX:Below w6.heap.size w6 ((w6.alloc (.cells #[.string ⟨#[]⟩,.slice none 0 0,.int .i64 0,.slice none 0 0] 30)).drew):=((Later.refl w6).alloc (.cells #[.string ⟨#[]⟩,.slice none 0 0,.int .i64 0,.slice none 0 0] 30)).drew.below;have hbl:w6.heap.size<((w6.alloc (.cells #[.string ⟨#[]⟩,.slice none 0 0,.int .i64 0,.slice none 0 0] 30)).drew).heap.size:=by simp
   obtain⟨bx,Qh⟩:∃bx,w6.heap.size=bx:=⟨_,rfl⟩;rw[Qh] at hzN hbl;have hbx:w6.heap.size≤bx:=by omega
   refine hK.out _ _ yX (fun hHeld=> ?_);clear hK K' hBe hHeld;generalize((w6.alloc (.cells #[.string ⟨#[]⟩,.slice none 0 0,.int .i64 0,.slice none 0 0] 30)).drew)=wz at*;have hBe:=yX;have hHeld:=yX;clear yX;refine wpAnyH_ready (rs:=[4]) (by kernel_rfl) (by simp) ?_;refine AllReadyH.cons rfl (fun K' hK=> ?_) AllReadyH.nil;go_simp;refine(HCl.out _ hBe).mono ?_;rintro e wf ⟨v1,rfl,hO1,hv1,hB1,Nu⟩;have hsl:=LG hO1 (by omega);obtain⟨xa,xc,rfl⟩:=Kind.slice hsl;have hvx:∀k,(Value.slice xa aJ.length xc).ownBlock=some k→w6.heap.size≤k∧k≠bx∧k<wf.heap.size:=fun k e=>⟨by have:=hv1 k e;omega,by have:=hv1 k e;omega,by obtain⟨ys,ho,_⟩:=hO1;exact(ho.lt k e).2⟩;have hzN:=(Nu.block _ hbl).trans hzN;refine hK.out _ _ hB1 (fun hHeld=> ?_);clear hK K' hBe Nu hbl Qh hO1 hv1;have hBe:=hB1;clear hB1;refine ak (i:=5) (d:=some 48) (v:= ?_) rfl rfl hHeld ?_ ?_;rotate_left;focus intro w hSw;(try dsimp only at hSw);go_simp;try with_reducible rfl
   simp only[aK,aL,aze,asu];refine ak (i:=8) (d:=some 51) (v:= ?_) rfl rfl hHeld ?_ ?_;rotate_left;focus intro w hSw;(try dsimp only at hSw);go_simp;try with_reducible rfl
   simp only[aK,aL,aze,asu]
  all_goals
   refine wpAnyH_ready (rs:=[10]) (by kernel_rfl) (by simp) ?_;refine AllReadyH.cons rfl (fun K' hK=> ?_) AllReadyH.nil;obtain⟨_,_,⟨t0,t1,t2,t3⟩,hbl⟩:=jD hzN;go_simp;have hT7:=mM wf bx (.string fn) (.slice xa aJ.length xc) (.int .i64 rl) (.slice none 0 0);have hR7:=iR hzN (.string fn) (.slice xa aJ.length xc) (.int .i64 rl) (.slice none 0 0);have Eb:Below w6.heap.size w6 (rY wf bx (.string fn) (.slice xa aJ.length xc) (.int .i64 rl) (.slice none 0 0)):=aj hBe (hT7.below hbx hBe.size) (Nat.le_refl _);have QU:bsK.sl (j6 (.slice xa aJ.length xc)) (rY wf bx (.string fn) (.slice xa aJ.length xc) (.int .i64 rl) (.slice none 0 0)) (.slice xa aJ.length xc) aJ:=Kind.aM hsl hT7.size fun k hk e=>hT7.block k hk (hvx k e).2.1;refine hK.out _ _ Eb (fun hHeld=> ?_);clear hK K' hHeld;refine wpAnyH_done (by kernel_rfl) ?_ _;obtain⟨w7,hw7⟩:∃w7,w7=rY wf bx (.string fn) (.slice xa aJ.length xc) (.int .i64 rl) (.slice none 0 0):=⟨_,rfl⟩;have U7:=hT7.size;rw[←hw7] at hR7 Eb QU U7;unfold rY at hw7;rw[←hw7];obtain⟨M,rfl⟩:∃M,N=M+1:=⟨N-1,by omega⟩;have Lf:bx<w7.heap.size:=by omega
   have WT:=Eb.size;obtain⟨v1,U8⟩:∃v1,v1=Value.slice xa aJ.length xc:=⟨_,rfl⟩;rw[←U8] at QU hR7 hvx;have hS7:=(HS6.out.mono (B':=fun k=>(B k∧k≠w.heap.size∧k≠w.heap.size+1)∧k≠bx) fun k hk hb=>⟨hb,by omega⟩).below Eb;have WU:=(Eb.block (w.heap.size+1) (by omega)).trans U5.out;have U9:=(Eb.block w5.heap.size (by omega)).trans U6.out;have y1:w7.cell? ⟨w5.heap.size,1,none⟩=some (.slice ha of.length hc):=by rw[cell_of_row _ _ _ _ _ _ U9];rfl
   have HSl:=hide QU;have HR7:=hide hR7;have HVx:Hid (∀k,v1.ownBlock=some k→w6.heap.size≤k∧k≠bx∧k<w7.heap.size):=fun k e=>⟨(hvx k e).1,(hvx k e).2.1,Nat.lt_of_lt_of_le (hvx k e).2.2 U7⟩;have HS7:Hid (PvS (fun k=>((B k∧k≠w.heap.size∧k≠w.heap.size+1)∧k≠bx)∧(Value.slice none 0 0).ownBlock≠some k) wF w7 P mb pv tv av sv (c1:Int) (d1:Int) n5 all how):=hS7.mono fun k _ hb=>⟨hb,by simp[Value.ownBlock]⟩;have HK7:Hid (Kq P mb w6 w7):=Kq.of_below Eb;have Va:Hid (∃PG,PG=rT (fun g s=>cZ how (M+1) g (dep+1) s) of [] (c1,d1)):=⟨_,rfl⟩;obtain⟨PG,hPG⟩:=Va.out;rw[←hPG] at HPG;have KO:=hide hPG;have WV:n5≤c1:=by have:=HC1.out;omega
   obtain⟨WW,WX⟩:=hcd;clear QU hR7 hvx hS7 WU U9 hw7 hT7 Eb hzN hBe hsl t0 t1 t2 t3 Va hPG HCl HCe HW6 hHeld U6 HS6;go_wp2;clear y1
   go_loopg [55] of.length (fun g i wr=>∃(j:Nat) (done:List iU) (cc dd nn:Nat) (ka:Option Addr) (kn kc:Nat),j+g=of.length∧i=.int .i64 j∧Hid (done.length=j)∧Hid ((Ga (M+1)).own 30 w7.heap.size wr (.slice ka kn kc) done)∧Hid (wr.heap[bx]?=some (.cells #[.string fn,v1,.int .i64 rl,.slice ka kn kc] 30 (0,0)))∧Hid (PG=rT (fun g s=>cZ how (M+1) g (dep+1) s) (of.drop j) done (cc,dd))∧Hid (PvS (fun k=>((B k∧k≠w.heap.size∧k≠w.heap.size+1)∧k≠bx)∧(Value.slice ka kn kc).ownBlock≠some k) wF wr P mb pv tv av sv (cc:Int) (dd:Int) nn all how)∧nn≤cc∧cc≤400∧dd≤60∧Hid (Kq P mb w6 wr)∧Hid (bsK.sl (j6 v1) wr v1 aJ)∧w7.heap.size≤wr.heap.size)
   case atStart=>exact⟨0,[],c1,d1,n5,none,0,0,by omega,rfl,(rfl:_=_),Kind.iI _ _ _ _,HR7.out,(by rw[List.drop_zero];exact KO.out:_=_),HS7,WV,WW,WX,HK7,HSl,Nat.le_refl _⟩
   case round=>
    clear KO HS7 HR7 HSl HK7;obtain⟨j,done,cc,dd,nn,ka,kn,kc,hj,rfl,HDn,HO,HR,KO,HS,hnn,hcc,hdd,HK,HSl,Ul⟩:=hrel;have Ob:=(HK.out.block (w.heap.size+1) (by omega) (by omega) (by omega)).trans U5.out;have Vb:=hide Ob
    by_cases hlt:j<of.length
    ·have hFr:=HF6.out.kept HK.out.size fun k hk hb=>HK.out.block k hk (HB1.out k hb.1).2 (HB1.out k hb.1).1;have hgA:of.getD j aC∈of:=by
      rw[List.getD_eq_getElem?_getD,List.getElem?_eq_getElem hlt];exact List.getElem_mem hlt
     have hdr:of.drop j=of.getD j aC::of.drop (j+1):=by
      rw[List.drop_eq_getElem_cons hlt,List.getD_eq_getElem?_getD,List.getElem?_eq_getElem hlt]
      rfl
     obtain⟨_,_,_,e0,Vd⟩:=hFr;simp only[Value.slice.injEq,true_and] at e0;obtain⟨rfl,rfl⟩:=e0;obtain⟨fb,fo,hfe,_,XI,hfc⟩:=Vd (by intro e;rw[e] at hlt;simp at hlt);subst hfe;obtain⟨f0,gs,f1,hgs,_⟩:=hfc j hlt;obtain⟨ga,gc,rfl⟩:=aV hgs;obtain⟨G,hGe⟩:∃G,G=of.getD j aC:=⟨_,rfl⟩;rw[←hGe] at f0 f1 hgs hgA hdr;obtain⟨gn,gargs⟩:=G;dsimp only at f0 f1 hgs;have hGa:(gn,gargs)∈all:=WS.out _ hgA;obtain⟨w8,hw8⟩:∃w8,w8=wr.alloc (.cells #[.string gn,.slice ga gargs.length gc] 27):=⟨_,rfl⟩;have hL8:Later wr w8:=by rw[hw8];exact(Later.refl wr).alloc _
     have hR8:w8.heap[wr.heap.size]?=some (.cells #[.string gn,.slice ga gargs.length gc] 27 (0,0)):=by rw[hw8];exact heap_alloc_new wr _
     obtain⟨x0,x1,_,_,_⟩:=jR hR8;have x1':w8.cell? ⟨wr.heap.size,0+1,none⟩=some (.slice ga gargs.length gc):=x1;have XJ:=hL8.size;have hown:∀k,(Value.slice ka kn kc).ownBlock=some k→w7.heap.size≤k∧k<wr.heap.size:=fun k e=>by
      obtain⟨ys,ho,_⟩:=HO.out;exact ho.lt k e
     have QV:=HIh.out (by omega) (fun k=>((B k∧k≠w.heap.size∧k≠w.heap.size+1)∧k≠bx)∧(Value.slice ka kn kc).ownBlock≠some k) (gn,gargs) (.agg #[.string gn,.slice ga gargs.length gc]) (dep+1) cc dd nn w8 (by omega) (fun k hb=>HB1.out k hb.1.1.1) (fun k hk=>⟨⟨⟨HB2.out k (by omega),by omega,by omega⟩,by omega⟩,fun e=>by have:=(hown k e).2;omega⟩) (HS.out.below hL8.below) hnn hcc hdd hGa ⟨_,rfl,hgs.later hL8⟩;rw[show(((dep+1:Nat):Int))=(dep:Int)+1 from rfl] at QV;obtain⟨PX,hPX⟩:∃PX,PX=cZ how (M+1) (gn,gargs) (dep+1) (cc,dd):=⟨_,rfl⟩;rw[←hPX] at QV;have Ve:=hide QV;have HPX:=hide hPX;have HW8:=hide hw8;have HL8:=hide hL8;have HOw:=hide hown;have HDr:=hide hdr;clear QV hPX hw8 hR8 hL8 Vd hfc hgs hgA hGa hGe x1 hown hdr
     go_wp2_with (first|(rw[←HW8.out])|fail)
     refine Ve.out.mono ?_;rintro e w9 ⟨v9,er9,n9,rfl,hV9,hS9,hn9,hK9⟩;obtain⟨PX1,c9,d9⟩:=PX;dsimp only at hV9 hS9 hn9;have XK:=hK9.size;have KP:Kq P mb wr w9:=(Kq.of_below HL8.out.below).trans hK9;have QW:=(KP.block (w.heap.size+1) (by omega) (by omega) (by omega)).trans Vb.out;clear Ve f0 f1 x0 x1' HW8;cases PX1 with
     |none=>
      obtain⟨rfl,rfl⟩:=hV9;have HE:Hid (cZ how (M+1+1) (fn,aJ) dep (c,d)=(none,(c9,d9))):=by
       show _=_;rw[HPG.out,KO.out,HDr.out,FY HPX.out.symm]
       rfl
      obtain⟨es,hes⟩:∃es:ByteArray,es=⟨#[]⟩:=⟨_,rfl⟩;rw[show ni=.agg #[.string es,.slice none 0 0,.int .i64 0,.slice none 0 0] by rw[hes];rfl];clear hes;obtain⟨w10,LH⟩:∃w10,w10=w9.alloc (.cells #[.string es,.slice none 0 0,.int .i64 0,.slice none 0 0] 30):=⟨_,rfl⟩;have wS:Later w9 w10:=by rw[LH];exact(Later.refl w9).alloc _
      have KQ:=(wS.block (Array.getElem?_eq_some_iff.1 QW).1).trans QW;have hKw:Kq P mb w w10:=((HK6.out.trans HK.out).trans KP).trans (Kq.of_below wS.below);have HKf:=hide (HFin.out (.string ⟨#[]⟩) (.slice none 0 0) (.int .i64 0) (.slice none 0 0) w10 KQ hKw);have HPf:=hide ((HTu.out _ _ _ _ (.string ⟨#[]⟩) (.slice none 0 0) (.int .i64 0) (.slice none 0 0) w10 (fun k hb=>hb.1.1.2.2) (hS9.below wS.below)).mono (B':=B) fun k _ hb=>hb.1.1.1);have HZ:=hide (jD (iR KQ (.string ⟨#[]⟩) (.slice none 0 0) (.int .i64 0) (.slice none 0 0))).1;obtain⟨_,_,⟨t0,t1,t2,t3⟩,_⟩:=jD KQ;have Td:=hide LH;clear LH wS KQ hKw QW KP hS9 hK9 KO HO HS HIh HPX
      go_wp2_with (rw[←Td.out])
      obtain⟨z0,z1,z2,z3⟩:=HZ.out;unfold rY at z0 z1 z2 z3;refine bodyPost_ret (v:=.tuple #[ni,.int .i64 4]) (by simp[results,Tryz.results60,go_sem,z0,z1,z2,z3];rfl) rfl ⟨ni,4,n9,rfl,?_,?_,?_,HKf.out⟩
      ·rw[HE.out];exact⟨rfl,rfl⟩
      ·rw[HE.out];exact HPf.out
      ·rw[HE.out];exact hn9
     |some x=>
      obtain⟨rfl,s9,k9,rfl,hs9,hk9⟩:=hV9;have hk9:(Ga M).sl (From w8.heap.size) w9 k9 x.kids:=hk9;obtain⟨sa9,sc9,rfl⟩:=Kind.slice hs9;obtain⟨ka9,kc9,rfl⟩:=Kind.slice hk9;have hbd:=xC (M+1) (gn,gargs) (dep+1) (cc,dd) x (c9,d9) HPX.out.symm;dsimp only at hbd;have HE:Hid (PG=rT (fun g s=>cZ how (M+1) g (dep+1) s) (of.drop (j+1)) (done++[x]) (c9,d9)):=by
       show _=_;rw[KO.out,HDr.out];exact FZ HPX.out.symm
      obtain⟨w10,LH⟩:∃w10,w10=w9.alloc (.cells #[.string x.fact.1,.slice sa9 x.fact.2.length sc9,.int .i64 x.rule,.slice ka9 x.kids.length kc9] 30):=⟨_,rfl⟩;have wS:Later w9 w10:=by rw[LH];exact(Later.refl w9).alloc _
      have Vf:w10.heap[w9.heap.size]?=some (.cells #[.string x.fact.1,.slice sa9 x.fact.2.length sc9,.int .i64 x.rule,.slice ka9 x.kids.length kc9] 30 (0,0)):=by rw[LH];exact heap_alloc_new w9 _
      have WY:=wS.size;have Vg:=(KP.block bx (by omega) (by omega) (by omega)).trans HR.out;have KR:=(wS.block (by omega:bx<w9.heap.size)).trans Vg;have KS:Kq P mb w6 w10:=(HK.out.trans KP).trans (Kq.of_below wS.below);have Vh:(Ga (M+1)).own 30 w7.heap.size w10 (.slice ka kn kc) done:=Kind.jZ (Kind.jZ HO.out KP.size fun k hk hl=>KP.block k hk (by omega) (by omega)) wS.size fun k hk _=>wS.block hk;have xE:∀k,(Value.slice ka kn kc).ownBlock=some k→w7.heap.size≤k∧k<wr.heap.size:=HOw.out;have hcx:(Ga (M+1)).is (fun k=>w7.heap.size≤k∧(Value.slice ka kn kc).ownBlock≠some k) w10 [.string x.fact.1,.slice sa9 x.fact.2.length sc9,.int .i64 x.rule,.slice ka9 x.kids.length kc9] x:=by
       have hm:∀k,k<w10.heap.size→From w8.heap.size k→(w7.heap.size≤k∧(Value.slice ka kn kc).ownBlock≠some k):=fun k _ (hb:w8.heap.size≤k)=>⟨by omega,fun e=>by have:=(xE k e).2;omega⟩;exact⟨_,_,rfl,Kind.aI (Kind.aM hs9 wS.size fun k hk _=>wS.block hk) hm,Kind.aI (Kind.aM hk9 wS.size fun k hk _=>wS.block hk) hm⟩
      have hdl:=HDn.out;obtain⟨ti,i1,i2,i3,i4⟩:=FW;obtain⟨v11,w11,hrun,Te,F4,_,Vi⟩:=Kind.o8 (P:=Tryz.prog) (t:=28) Vh Tryz.underlying28 i1 i2 i3 i4 rfl (by show 0<4;decide) hcx (by omega) (by simp only[maxLen];omega) (by omega);obtain⟨ka2,kn2,kc2,rfl⟩:∃a n c,v11=.slice a n c:=by
       obtain⟨a,c,e⟩:=Kind.slice (Kind.iJ Te (by rw[List.length_append];simp;omega));exact⟨a,_,c,e⟩
      have WZ:=F4.size;have W9:(w10.alloc (.cells #[.string x.fact.1,.slice sa9 x.fact.2.length sc9,.int .i64 x.rule,.slice ka9 x.kids.length kc9] 30)).heap.size=w10.heap.size+1:=by simp
      have NC:w11.heap[bx]?=some (.cells #[.string fn,v1,.int .i64 rl,.slice ka kn kc] 30 (0,0)):=(F4.block bx (by omega) (fun e=>by have:=(xE bx e.symm).1;omega)).trans ((Below.heap_alloc w10 _ bx (by omega)).trans KR);obtain⟨wN,hwN⟩:∃wN,wN=w11.setCell ⟨bx,3,none⟩ (.slice ka2 kn2 kc2):=⟨_,rfl⟩;have hTN:Tn bx w11 wN:=by rw[hwN];exact Tn.setCell (p:=bx) (Tn.refl _ _) (x:=⟨bx,3,none⟩) (Or.inl rfl) _
      have Vj:wN.heap[bx]?=some (.cells #[.string fn,v1,.int .i64 rl,.slice ka2 kn2 kc2] 30 (0,0)):=by rw[hwN,eu (j:=3) NC];rfl
      have XL:=hTN.size;have hPN:PvS (fun k=>((B k∧k≠w.heap.size∧k≠w.heap.size+1)∧k≠bx)∧(Value.slice ka2 kn2 kc2).ownBlock≠some k) wF wN P mb pv tv av sv (c9:Int) (d9:Int) n9 all how:=by
       have hSa:=hS9.below wS.below;have hSb:=hSa.mono (B':=fun k=>(((B k∧k≠w.heap.size∧k≠w.heap.size+1)∧k≠bx)∧(Value.slice ka kn kc).ownBlock≠some k)∧(Value.slice ka2 kn2 kc2).ownBlock≠some k) fun k hk hb=>⟨hb,fun e=>by
        rcases Vi k e with h|h
        ·exact hb.2 h
        ·omega⟩
       have hSc:=hSb.below ((Later.refl w10).alloc (.cells #[.string x.fact.1,.slice sa9 x.fact.2.length sc9,.int .i64 x.rule,.slice ka9 x.kids.length kc9] 30)).below;have hSd:=hSc.turned F4.os F4.tape F4.output F4.size fun k hk h=>F4.block k hk fun e=>by
        have ho:=xE k e.symm;rcases h with h|h|h|h
        ·omega
        ·omega
        ·omega
        ·exact h.1.2 e.symm
       have hSe:=hSd.turned hTN.os hTN.tape hTN.output hTN.size fun k hk h=>hTN.block k hk (by
        rcases h with h|h|h|h
        ·omega
        ·omega
        ·omega
        ·exact h.1.1.2)
       exact hSe.mono fun k _ hb=>⟨hb.1.1,hb.2⟩
      have hKN:Kq P mb w6 wN:=⟨(hTN.os.trans F4.os).trans KS.os,(hTN.tape.trans F4.tape).trans KS.tape,(hTN.output.trans F4.output).trans KS.output,by have:=KS.size;omega,fun k hk h1 h2=>
       ((hTN.block k (by have:=KS.size;omega) (by omega)).trans (F4.block k (by have:=KS.size;omega) (fun e=>by have:=(xE k e.symm).1;omega))).trans ((Below.heap_alloc w10 _ k (by have:=KS.size;omega)).trans (KS.block k hk h1 h2))⟩
      have Vk:bsK.sl (j6 v1) wN v1 aJ:=Kind.aM HSl.out (by omega) fun k hk e=>by
       have hx:=HVx.out k e;exact((hTN.block k (by omega) hx.2.1).trans (F4.block k (by omega) (fun e'=>by have:=(xE k e'.symm).1;omega))).trans ((Below.heap_alloc w10 _ k (by omega)).trans ((wS.block (by omega)).trans (KP.block k hk (by omega) (by omega))))
      have hON:(Ga (M+1)).own 30 w7.heap.size wN (.slice ka2 kn2 kc2) (done++[x]):=Kind.bU Te hTN (by omega);obtain⟨_,⟨_,_,_⟩,_,_⟩:=jD KR;obtain⟨⟨l0,l1,l2,l3⟩,⟨l4,l5,l6⟩,_,_⟩:=jD Vf;obtain⟨⟨_,_,_,m3⟩,_,_,_⟩:=jD KR;obtain⟨⟨_,_,_,o3⟩,_,⟨_,_,_,t3⟩,_⟩:=jD NC;have LP:=hide hrun;have Td:=hide LH;have HWN:=hide hwN;have HON:=hide hON;have HRN:=hide Vj;have HPN:=hide hPN;have HKN:=hide hKN;have HSN:=hide Vk;have HDN:Hid ((done++[x]).length=j+1):=by show _=_;rw[List.length_append,HDn.out];rfl
      have R8:w7.heap.size≤wN.heap.size:=by omega
      clear hrun LH hwN hON Vj hPN hKN Vk hTN NC KR Vg F4 Te Vi hcx Vh KS wS Vf hs9 hk9 hS9 hK9 KP QW Ob xE hdl i1 i2 i3 i4 W9 WZ KO HO HS HDn HR HSl HK HPX HDr HOw Vb
      go_wp2_with (first|(rw[←Td.out])|(rw[←HWN.out])|(at_builtin;refine wpList_append_run rfl (.tmp 72) (.tmp 74) 28 rfl _ _ _ _ rfl rfl LP.out ?_))
      go_roundg (of.length- (j+1))
      case measure=>omega
      case rel=>exact⟨j+1,done++[x],c9,d9,n9,ka2,kn2,kc2,by omega,by go_num,HDN,HON,HRN,HE,HPN,hn9,hbd.1,hbd.2,HKN,HSN,R8⟩
    ·have hj0:j=of.length:=by omega
     have HE:Hid (PG=(some done,(cc,dd))):=by
      show _=_;rw[KO.out,List.drop_eq_nil_of_le (by omega)];unfold rT lS;simp
     have HE2:Hid (cZ how (M+1+1) (fn,aJ) dep (c,d)=(some (iU.mk (fn,aJ) rl done),(cc,dd))):=by
      show _=_;rw[HPG.out,HE.out];rfl
     obtain⟨⟨e0,e1,e2,e3⟩,⟨e4,e5,e6⟩,_,_⟩:=jD HR.out;obtain⟨_,_,⟨t0,t1,t2,t3⟩,_⟩:=jD Ob;have hKw:Kq P mb w wr:=HK6.out.trans HK.out;have hT:=mM wr (w.heap.size+1) (.string fn) v1 (.int .i64 rl) (.slice ka kn kc);have HKf:=hide (HFin.out (.string fn) v1 (.int .i64 rl) (.slice ka kn kc) wr Ob hKw);have HPf:=hide ((HTu.out _ _ _ _ (.string fn) v1 (.int .i64 rl) (.slice ka kn kc) wr (fun k hb=>hb.1.1.2.2) HS.out).mono (B':=B) fun k _ hb=>hb.1.1.1);have HZ:=hide (jD (iR Ob (.string fn) v1 (.int .i64 rl) (.slice ka kn kc))).1;have HVf:Hid (Fy (M+1) (From w.heap.size) (rY wr (w.heap.size+1) (.string fn) v1 (.int .i64 rl) (.slice ka kn kc)) (.agg #[.string fn,v1,.int .i64 rl,.slice ka kn kc]) (iU.mk (fn,aJ) rl done)):=by
      have ho:=Kind.iJ (Kind.bU HO.out hT (by omega)) (by have:=HDn.out;omega);refine⟨v1,.slice ka kn kc,rfl,Kind.aI (Kind.aM HSl.out hT.size fun k hk e=>hT.block k hk (by have:=(HVx.out k e).1;omega)) fun k _ e=> ?_,Kind.aI ho fun k _ (hb:w7.heap.size≤k)=> ?_⟩
      ·show w.heap.size≤k;have:=(HVx.out k e).1;omega
      ·show w.heap.size≤k;omega
     clear hj0 KO HE hT hKw Ob HO HS HIh;subst U8;go_wp2;obtain⟨z0,z1,z2,z3⟩:=HZ.out;unfold rY at z0 z1 z2 z3;refine bodyPost_ret (v:=.tuple #[.agg #[.string fn,.slice xa aJ.length xc,.int .i64 rl,.slice ka kn kc],.int .i64 0]) (by simp[results,Tryz.results60,go_sem,z0,z1,z2,z3]) rfl ⟨_,0,nn,rfl,?_,?_,?_,HKf.out⟩
     ·rw[HE2.out];exact⟨rfl,HVf.out⟩
     ·rw[HE2.out];exact HPf.out
     ·rw[HE2.out];exact hnn
end Go.Proofs.YtafmbokfkbccaaaGreatDoor
namespace Go.Proofs.YtafmbokfkbccaaaGreatDoor
open Go.RowKit Go.Sort Go.Maps
def iw (p:List aB) (told:List au):List (List au):=(bF p (aG p).1 (countP (aG p).1) 0 told).2
theorem Bq {p:List aB} {all:List au}:∀{ps:List (List au)} {L:List au},Steps (Came p all) L ps→GoodS p (bE L ps)→∀l∈L::ps,GoodS p l
 |[],L,_,hg,l,hl=>by
  simp at hl;subst hl;exact hg
 |M::ps,L,hs,hg,l,hl=>by
  rw[gU] at hg;rcases List.mem_cons.1 hl with rfl|hl
  ·exact hs.1.1
  ·exact Bq hs.2 hg l hl
theorem KT {p:List aB} {all:List au} (h:GoodS p all) (b:List aF):nM all b=0↔aP b=0:=by
 show pG b all []=0↔_;unfold pG;rw[je h.up h.right h.few];have e:(bA []).1=0:=rfl
 by_cases hb:aP b=0
 ·rw[if_neg (by simpa using hb),if_neg (by simp),e];simp[hb]
 ·rw[if_pos hb]
theorem uU {g:aB→Option (List au)} {n:Nat}:∀(p:List aB) (i:Nat),(∀r∈p,∀of,g r=some of→of.length≤n)→(jQ g i p).2.length≤n
 |[],i,_=>by simp[jQ]
 |r::p,i,h=>by
  unfold jQ;cases e:g r with
  |none=>exact uU p (i+1) fun q hq=>h q (by simp[hq])
  |some of=>exact h r (by simp) of e
theorem ND {err:List aF→Int} {all old:List au} {r:aB} {f:au} {of:List au} (h:byP err all old r f=some of):of.length≤r.body.length:=by
 unfold byP at h;cases hm:fK r.head f [] with
 |none=>rw[hm] at h;cases h
 |some b=>
  rw[hm] at h;have:=List.mem_of_find?_eq_some h;obtain⟨l,_,rfl⟩:=List.mem_map.1 this;have:=oh (eO b r.body) l;unfold eO at this;rw[List.length_map] at this;exact this
theorem Jk {p:List aB} {told:List au} (h:jC p told=0):
  dB p∧GoodS p told∧GoodS p (bE told (iw p told))∧Ia p told=(0,bE told (iw p told))∧Qb p told (bE told (iw p told)) (qZ (nM (bE told (iw p told))) p told (bE told (iw p told)) (told::iw p told))∧
  (∀l∈told::iw p told,gX l)∧(told::iw p told).length≤1000000∧(∀f∈bE told (iw p told),inB told f=false→1≤iC (told::iw p told) f∧iC (told::iw p told) f<(told::iw p told).length)∧
  (∀r∈p,r.head.terms.length≤4∧r.body.length≤5∧∀a∈r.body,a.terms.length≤4)∧(∀f∈bE told (iw p told),(∀g∈(qZ (nM (bE told (iw p told))) p told (bE told (iw p told)) (told::iw p told) f).2,g∈bE told (iw p told))∧(qZ (nM (bE told (iw p told))) p told (bE told (iw p told)) (told::iw p told) f).2.length≤1000):=by
 have hall:Ia p told=(0,bE told (iw p told)):=(FR p told).2 h;obtain⟨hp,hl,τ,hτ,hst,hr⟩:=I7 hall;obtain⟨_,_,hgM,_,_⟩:=I8 hall;have hrun:bF p (p.map fun r=>τ r.head.name) (countP (p.map fun r=>τ r.head.name)) 0 told=(0,iw p told):=by
  have h1:=yT p (p.map fun r=>τ r.head.name) (countP (p.map fun r=>τ r.head.name)) 0 told;rw[hr] at h1;refine Prod.ext h1.1.symm ?_;unfold iw;rw[hst]
 have hsteps:=D6 hp hτ _ 0 hl hrun;have I6:∀r∈p,fG (fun _=>bE told (iw p told)) 0 r.body [[]]≠none:=fun r hr'=>D7 hp hτ _ 0 hl hrun r hr' (Nat.zero_le _) (by rw[Nat.zero_add];exact oN (List.mem_map.2 ⟨r,hr',rfl⟩));have Jv:=Qc hp (err:=nM (bE told (iw p told))) (KT hgM) hsteps I6;have hsh:∀r∈p,r.head.terms.length≤4∧r.body.length≤5∧∀a∈r.body,a.terms.length≤4:=fun r hr'=>by
  have hR:=hp.rules r hr';obtain⟨b1,b2⟩:=ko hR.body;exact⟨(dG hR.head).2.1,b1,fun a ha=>(dG (b2 a ha)).2.1⟩
 refine⟨hp,hl,hgM,hall,Jv,fun l hl'=>(Bq hsteps hgM l hl').up,?_,fun f hf hn=> ?_,hsh,fun f hf=>⟨?_,?_⟩⟩
 ·have h1:=C8 (p:=p) (ss:=p.map fun r=>τ r.head.name) (countP (p.map fun r=>τ r.head.name)) 0 told;rw[hrun] at h1;have h2:countP (p.map fun r=>τ r.head.name)≤16:=by
   rw[←hst];obtain⟨ss,ex,ea,hse⟩:∃ss ex ea,aG p=(ss,ex,ea):=⟨_,_,_,rfl⟩;have hx:ex=0:=by
    refine Classical.byContradiction fun hne=> ?_;unfold jC at h;rw[hse] at h;dsimp only at h;rw[if_pos hne] at h;exact hne h
   subst hx;rw[hse];obtain⟨_,m,hms,_,hlm,hsm⟩:=kI hse;refine countP_le fun s hs=> ?_;rw[hms] at hs;obtain⟨r,hr',rfl⟩:=List.mem_map.1 hs;have:=uy hlm hsm r hr';have:=hp.few;omega
  have h3:=Nat.mul_le_mul_right 201 h2;dsimp only at h1;simp only[List.length_cons];omega
 ·have hn':f∉told:=fun hc=>by rw[bH.2 hc] at hn;cases hn
  obtain⟨_,_,_,_,_,_,h5,h6⟩:=CX hsteps hf hn';exact⟨h5,h6⟩
 ·rcases Jv.ok f hf with⟨_,e⟩|⟨i,r,of,_,e,_,hk⟩
  ·rw[e];intro k hk;cases hk
  ·rw[e];exact hk
 ·unfold qZ;split
  ·simp
  ·refine uU p 0 fun r hr' of hof=> ?_;have:=ND hof;have:=(hsh r hr').2.1;omega
theorem Ee (w0 wF:World) (P lo mb:Nat) (p:List aB) (told all:List au) (PS:List (List au)) (pv tv av sv:Value) (xs:List Value) (hG:Gq w0 wF P lo mb p told all PS pv tv av sv xs):∀N,Jj all P mb pv tv av sv wF (qZ (nM all) p told all PS) (N+1)
 |0=>xD w0 wF P lo mb p told all PS pv tv av sv xs hG 0 (fun h=>absurd h (by omega))
 |N+1=>xD w0 wF P lo mb p told all PS pv tv av sv xs hG (N+1) fun _=>Ee w0 wF P lo mb p told all PS pv tv av sv xs hG N
end Go.Proofs.YtafmbokfkbccaaaGreatDoor
namespace Go.Proofs.YtafmbokfkbccaaaGreatDoor
open Go.RowKit Go.Sort Go.Maps
def fq (p:List aB) (told:List au) (f:au):Int×Option iU:=
 if jC p told≠0 then(jC p told,none) else if fA f≠0 then(fA f,none) else if inB (bE told (iw p told)) f=false then(6,none)
 else match(cZ (qZ (nM (bE told (iw p told))) p told (bE told (iw p told)) (told::iw p told)) 61 f 1 (0,0)).1 with
  |none=>(4,none)
  |some x=>(0,some x)
def Qp (lo:Nat) (w:World) (v:Value):Option iU→Prop
 |none=>v=ni
 |some x=>Fy 60 (From lo) w v x
set_option maxRecDepth 100000 in
set_option maxHeartbeats 8000000 in
theorem Qq (p:List aB) (told:List au) (f:au) (pv tv fv:Value) (w:World) (hpv:dO.sl bY w pv p) (ht:Facts w tv told) (hf:cK w fv f):
  Calls Tryz.prog 18 #[pv,tv,fv] w fun e w'=>∃v,e=.returned (.tuple #[v,.int .i64 (fq p told f).1])∧Qp w.heap.size w' v (fq p told f).2∧Below w.heap.size w w':=by
 obtain⟨s,rfl,hs⟩:=hf;obtain⟨sa,sc,rfl⟩:=aV hs;obtain⟨pa,pc,rfl⟩:=Kind.slice hpv;obtain⟨ta,tc,rfl⟩:=aA ht;obtain⟨w1,hw1⟩:∃w1,w1=(((w.alloc (.cells #[.string f.1,.slice sa f.2.length sc] 27)).alloc (.cells #[.string ⟨#[]⟩,.slice none 0 0,.int .i64 0,.slice none 0 0] 30)).alloc (.map #[] 0)).alloc (.cells #[.slice pa p.length pc,.slice ta told.length tc,.slice none 0 0,.int .i64 0,.int .i64 0,.slice none 0 0,.map (some (w.heap.size+2))] 115):=⟨_,rfl⟩;have hL1:Later w w1:=by rw[hw1];exact((((Later.refl w).alloc _).alloc _).alloc _).alloc _
 have hs1:w1.heap.size=w.heap.size+4:=by rw[hw1];simp
 have hr0:w1.heap[w.heap.size]?=some (.cells #[.string f.1,.slice sa f.2.length sc] 27 (0,0)):=by
  rw[hw1];simp only[gJ,World.size_alloc]
  repeat (first|rw[if_pos trivial]|rw[if_pos (by omega)]|rw[if_neg (by omega)])
 have hr1:w1.heap[w.heap.size+1]?=some (.cells #[.string ⟨#[]⟩,.slice none 0 0,.int .i64 0,.slice none 0 0] 30 (0,0)):=by
  rw[hw1];simp only[gJ,World.size_alloc]
  repeat (first|rw[if_pos trivial]|rw[if_pos (by omega)]|rw[if_neg (by omega)])
 have hr2:w1.heap[w.heap.size+2]?=some (.map #[] 0):=by
  rw[hw1];simp only[gJ,World.size_alloc]
  repeat (first|rw[if_pos trivial]|rw[if_pos (by omega)]|rw[if_neg (by omega)])
 have hr3:w1.heap[w.heap.size+3]?=some (.cells #[.slice pa p.length pc,.slice ta told.length tc,.slice none 0 0,.int .i64 0,.int .i64 0,.slice none 0 0,.map (some (w.heap.size+2))] 115 (0,0)):=by
  rw[hw1];simp only[gJ,World.size_alloc]
  repeat (first|rw[if_pos trivial]|rw[if_pos (by omega)]|rw[if_neg (by omega)])
 have HFo:=hide (Nt p told (w.heap.size+3) (w.heap.size+2) (.slice pa p.length pc) (.slice ta told.length tc) w w1 ⟨hr3⟩ hL1.below (by omega) hpv ht);obtain⟨PP,hPP⟩:∃PP,PP=fq p told f:=⟨_,rfl⟩;rw[←hPP];unfold fq at hPP;have HPP:=hide hPP;have HW1:=hide hw1;have HL1:=hide hL1;have HR0:=hide hr0;have HR1:=hide hr1;have HR2:=hide hr2;have HR3:=hide hr3;have HPv:=hide hpv;have HTv:=hide ht;have HSt:=hide hs;have hsz1:w.heap.size+4≤w1.heap.size:=by omega
 have HS1:=hide hs1;have HBx:Hid (∀(x0 x1 x2 x3:Value) (wr:World),Below w.heap.size w wr→Below w.heap.size w (rY wr (w.heap.size+1) x0 x1 x2 x3)):=fun x0 x1 x2 x3 wr h=>
  aj h ((mM wr (w.heap.size+1) x0 x1 x2 x3).below (n:=w.heap.size) (by omega) h.size) (Nat.le_refl _)
 clear hw1 hPP hL1 hr0 hr1 hr2 hr3 hpv ht hs hs1;obtain⟨fn,aJ⟩:=f;dsimp only at*;have hmm:= @run_makeMap Tryz.prog
 go_enter Tryz.func18,Tryz.ntmps18
 go_wp2_with (first|(rw[←HW1.out])|fail)
 clear hmm;refine HFo.out.mono ?_;rintro e w2 ⟨rfl,hS2,hK2⟩;have hsz2:=hK2.size;have hBw2:Below w.heap.size w w2:=aj HL1.out.below (hK2.below (n:=w1.heap.size-1) (by have:=HS1.out;omega) (by have:=HS1.out;omega)) (by omega);have Vl:=(hK2.block w.heap.size (by omega) (by omega)).trans HR0.out;have Qr:=(hK2.block (w.heap.size+1) (by omega) (by omega)).trans HR1.out;have Vm:=(hK2.block (w.heap.size+2) (by omega) (by omega)).trans HR2.out;have Tf:=hide Vl;have RG:=hide Qr;have Xa:=hide Vm;have HB2:=hide hBw2;have HK2:=hide hK2;have HS2:=hide hS2;obtain⟨FE,hFE⟩:∃FE,FE=jC p told:=⟨_,rfl⟩;rw[←hFE];rw[←hFE] at HPP HS2;have HFE:=hide hFE;clear hFE Vl Vm hBw2 hK2 hS2 HFo
 by_cases h0:FE=0
 ·subst h0;obtain⟨g1,g2,g3,g4,g5,g6,g7,g8,g9,g10⟩:=Jk HFE.out.symm;obtain⟨av,sv,xs,k1,k2,k3,k4,k5⟩:=(HS2.out rfl).has;rw[show(bF p (aG p).1 (countP (aG p).1) 0 told).2=iw p told from rfl] at k3 k4 k5;obtain⟨PS,hPS⟩:∃PS,PS=told::iw p told:=⟨_,rfl⟩;obtain⟨all,hal⟩:∃all,all=bE told (iw p told):=⟨_,rfl⟩;have QX:=HPP.out;rw[if_neg (by simp)] at QX;rw[←hPS,←hal] at g5 g8 g10 QX;rw[←hal] at g3 k3;rw[←hPS] at g6 g7 k4 k5;have Qs:=hide QX;have Vn:cK w2 (.agg #[.string fn,.slice sa aJ.length sc]) (fn,aJ):=⟨_,rfl,HSt.out.below HB2.out⟩;have HWr:=hide (wrong (.agg #[.string fn,.slice sa aJ.length sc]) (fn,aJ) w2 Vn);obtain⟨q0,q1,_,_,_⟩:=jR Tf.out;have q1':w2.cell? ⟨w.heap.size,0+1,none⟩=some (.slice sa aJ.length sc):=q1;obtain⟨WF,hWF⟩:∃WF,WF=fA (fn,aJ):=⟨_,rfl⟩;rw[←hWF] at HWr Qs;have HK1:=hide k1;have Vo:=hide k2;have HK3:=hide k3;have HK4:=hide k4;have HK5:=hide k5;have hav:∃a n c,av=.slice a n c:=by obtain⟨a,c,e⟩:=aA k3;exact⟨a,_,c,e⟩
  obtain⟨aa,an,ac,rfl⟩:=hav;have HGr:Hid (Grd w (w.heap.size+3) p told all PS (.slice pa p.length pc) (.slice ta told.length tc)):=⟨by omega,HPv.out,HTv.out,g2.up,g3.up,g6,g7,g8,g9,g1.few,g3.few⟩;have HCl:Hid (∀f∈all,(∀g∈(qZ (nM all) p told all PS f).2,g∈all)∧(qZ (nM all) p told all PS f).2.length≤1000):=g10;have HAg:Hid (∀f∈all,f.2.length≤1000):=fun f hf=>by have:=(g3.right f hf).2.1;omega
  have hup:=g3.up;have HUp:=hide hup;have p2:=k1.cells.2.2.1;clear g1 g2 g3 g4 g5 g6 g7 g8 g9 g10 k1 k2 k3 k4 k5 QX HPP HS2 hWF hPS hal Vn q1 hup HFE p2
  go_wp2_with fail
  refine HWr.out.mono ?_;rintro e w3 ⟨rfl,hL3⟩;have hB3:=aj HB2.out hL3.below HB2.out.size;have Ue:=hL3.size;have Ec:=(hL3.block (by omega:w.heap.size+1<w2.heap.size)).trans RG.out;have HL3:=hide hL3;have HB3:=hide hB3;have SQ:=hide Ec;clear HWr q0 q1' hL3 hB3 Qr
  by_cases h1:WF=0
  ·subst h1;have Tg:=Qs.out;rw[if_neg (by simp)] at Tg;have QY:=hide Tg;have Qn:=(HL3.out.block (by omega:w.heap.size<w2.heap.size)).trans Tf.out;obtain⟨q0,q1,_,_,_⟩:=jR Qn;have q1':w3.cell? ⟨w.heap.size,0+1,none⟩=some (.slice sa aJ.length sc):=q1;have Vp:=HK1.out.below HL3.out.below;have p2:=Vp.cells.2.2.1;have hin:=inC (.slice aa an ac) (.agg #[.string fn,.slice sa aJ.length sc]) all (fn,aJ) w3 (HK3.out.later HL3.out) ⟨_,rfl,HSt.out.below HB3.out⟩ HUp.out;rw[Cn] at hin;have HIn:=hide hin;clear Tg Qs Qn q1 Vp hin Ec
   go_wp2_with fail
   refine HIn.out.mono ?_;rintro e w4 ⟨rfl,hL4⟩;have hB4:=aj HB3.out hL4.below HB3.out.size;have PD:=hL4.size;have Jy:=(hL4.block (by omega:w.heap.size+1<w3.heap.size)).trans SQ.out;cases hib:inB all (fn,aJ) with
   |false=>
    have HX:Hid (PP=(6,none)):=by show _=_;rw[QY.out,if_pos hib]
    have HZ:=hide (jD (iR Jy (.string ⟨#[]⟩) (.slice none 0 0) (.int .i64 0) (.slice none 0 0))).1;have HBf:=hide (HBx.out (.string ⟨#[]⟩) (.slice none 0 0) (.int .i64 0) (.slice none 0 0) w4 hB4);obtain⟨_,_,⟨t0,t1,t2,t3⟩,_⟩:=jD Jy;clear QY Jy hib HIn q0 q1' p2 hL4 hB4;go_wp2;obtain⟨z0,z1,z2,z3⟩:=HZ.out;unfold rY at z0 z1 z2 z3;refine bodyPost_ret (v:=.tuple #[ni,.int .i64 6]) (by simp[results,Tryz.results18,go_sem,z0,z1,z2,z3];rfl) rfl ⟨ni,?_,?_,HBf.out⟩
    ·rw[HX.out]
    ·rw[HX.out];exact rfl
   |true=>
    have QZ:=QY.out;rw[if_neg (by rw[hib];simp)] at QZ;have NG:=HL3.out.trans hL4;have Ti:=HK1.out.below NG.below;have Tj:w4.heap[w.heap.size+2]?=some (.map #[] 0):=(NG.block (by omega)).trans Xa.out;have hGp:Gp w4 (w.heap.size+3) w1.heap.size (w.heap.size+2) (.slice aa an ac) sv xs all PS:=by
     refine⟨?_,HK3.out.later NG,HK4.out,fun i u l hu hl=>(HK5.out i u l hu hl).later NG,Ti.xB ⟨_,_,_,rfl⟩ ⟨_,_,_,rfl⟩ ⟨_,_,_,rfl⟩ Vo.out.oq,⟨_,_,Tj⟩,by omega,by omega,by omega,by omega⟩;rcases Vo.out with e|h
     ·exact Or.inl e
     ·exact Or.inr (h.block fun i hi _=>NG.block hi)
    have hGq:Gq w w4 (w.heap.size+3) w1.heap.size (w.heap.size+2) p told all PS (.slice pa p.length pc) (.slice ta told.length tc) (.slice aa an ac) sv xs:=⟨hGp,HGr.out,by omega,hB4,HCl.out,HAg.out,⟨_,_,_,rfl⟩,⟨_,_,_,rfl⟩⟩;have hPv:PvS (fun k=>k≠w.heap.size+2∧k≠w.heap.size+3) w4 w4 (w.heap.size+3) (w.heap.size+2) (.slice pa p.length pc) (.slice ta told.length tc) (.slice aa an ac) sv ((0:Nat):Int) ((0:Nat):Int) 0 all (qZ (nM all) p told all PS):=by
     refine⟨Ti,Kq.refl _ _ _,⟨.map [],?_,fun k h=>by simp[Maps.has] at h⟩⟩;have hw:((w.alloc (.cells #[] 0)).alloc (.cells #[] 0)).heap.size=w.heap.size+2:=by simp
     have hmd:=World.ownsMap_made (P:=Tryz.prog) ((w.alloc (.cells #[] 0)).alloc (.cells #[] 0)) 3 uT;rw[hw] at hmd;refine fD hmd ?_;rw[Tj];have:=heap_alloc_new ((w.alloc (.cells #[] 0)).alloc (.cells #[] 0)) (.map #[] 0);rw[hw] at this;exact this.symm
    have hPr:=Ee w w4 (w.heap.size+3) w1.heap.size (w.heap.size+2) p told all PS _ _ _ sv xs hGq 60 (fun k=>k≠w.heap.size+2∧k≠w.heap.size+3) (fn,aJ) (.agg #[.string fn,.slice sa aJ.length sc]) 1 0 0 0 w4 rfl (fun k h=>h) (fun k hk=>⟨by omega,by omega⟩) hPv (Nat.le_refl _) (by omega) (by omega) (bH.1 hib) ⟨_,rfl,HSt.out.below hB4⟩;rw[show(((1:Nat):Int))=1 from rfl] at hPr;obtain⟨PX,hPX⟩:∃PX,PX=cZ (qZ (nM all) p told all PS) (60+1) (fn,aJ) 1 (0,0):=⟨_,rfl⟩;rw[←hPX] at hPr;rw[show(61:Nat)=60+1 from rfl,←hPX] at QZ;have HPr:=hide hPr;have Q0:=hide QZ;have Qo:=(NG.block (by omega:w.heap.size<w2.heap.size)).trans Tf.out;obtain⟨y0,y1,_,_,_⟩:=jR Qo;have y1':w4.cell? ⟨w.heap.size,0+1,none⟩=some (.slice sa aJ.length sc):=y1;have HB4:=hide hB4;have Oa:=hide Jy;clear QZ QY Ti Tj hGp hGq hPv hPr hPX hib HIn q0 q1' p2 hL4 hB4 NG Qo y1 Jy
    go_wp2_with fail
    refine HPr.out.mono ?_;rintro e w5 ⟨v5,er5,n5,rfl,hV5,_,_,hK5⟩;have hsz5:=hK5.size;have hB5:Below w.heap.size w w5:=aj HB4.out (hK5.below (n:=w.heap.size) (by omega) (by omega) (by omega)) (Nat.le_refl _);have Gc:=(hK5.block (w.heap.size+1) (by omega) (by omega) (by omega)).trans Oa.out;obtain⟨PX1,PX2⟩:=PX;dsimp only at hV5;obtain⟨_,_,⟨t0,t1,t2,t3⟩,_⟩:=jD Gc;cases PX1 with
    |none=>
     obtain⟨rfl,rfl⟩:=hV5;have HX:Hid (PP=(4,none)):=Q0.out;have HZ:=hide (jD (iR Gc (.string ⟨#[]⟩) (.slice none 0 0) (.int .i64 0) (.slice none 0 0))).1;have HBf:=hide (HBx.out (.string ⟨#[]⟩) (.slice none 0 0) (.int .i64 0) (.slice none 0 0) w5 hB5);rw[show ni=.agg #[.string ⟨#[]⟩,.slice none 0 0,.int .i64 0,.slice none 0 0] from rfl];clear Q0 Gc hB5 hK5 HPr y0 y1';go_wp2;obtain⟨z0,z1,z2,z3⟩:=HZ.out;unfold rY at z0 z1 z2 z3;refine bodyPost_ret (v:=.tuple #[ni,.int .i64 4]) (by simp[results,Tryz.results18,go_sem,z0,z1,z2,z3];rfl) rfl ⟨ni,?_,?_,HBf.out⟩
     ·rw[HX.out]
     ·rw[HX.out];exact rfl
    |some x=>
     obtain⟨rfl,s9,k9,rfl,hs9,hk9⟩:=hV5;have hk9:(Ga 60).sl (From w4.heap.size) w5 k9 x.kids:=hk9;obtain⟨sa9,sc9,rfl⟩:=Kind.slice hs9;obtain⟨ka9,kc9,rfl⟩:=Kind.slice hk9;have HX:Hid (PP=(0,some x)):=Q0.out;have hT:=mM w5 (w.heap.size+1) (.string x.fact.1) (.slice sa9 x.fact.2.length sc9) (.int .i64 x.rule) (.slice ka9 x.kids.length kc9);have HZ:=hide (jD (iR Gc (.string x.fact.1) (.slice sa9 x.fact.2.length sc9) (.int .i64 x.rule) (.slice ka9 x.kids.length kc9))).1;have HBf:=hide (HBx.out (.string x.fact.1) (.slice sa9 x.fact.2.length sc9) (.int .i64 x.rule) (.slice ka9 x.kids.length kc9) w5 hB5);have HVf:Hid (Fy 60 (From w.heap.size) (rY w5 (w.heap.size+1) (.string x.fact.1) (.slice sa9 x.fact.2.length sc9) (.int .i64 x.rule) (.slice ka9 x.kids.length kc9)) (.agg #[.string x.fact.1,.slice sa9 x.fact.2.length sc9,.int .i64 x.rule,.slice ka9 x.kids.length kc9]) x):=
      ⟨_,_,rfl,Kind.aI (Kind.aM hs9 hT.size fun k hk (hb:w4.heap.size≤k)=>hT.block k hk (by omega)) fun k _ (hb:w4.heap.size≤k)=>(by show w.heap.size≤k;omega),Kind.aI (Kind.aM hk9 hT.size fun k hk (hb:w4.heap.size≤k)=>hT.block k hk (by omega)) fun k _ (hb:w4.heap.size≤k)=>(by show w.heap.size≤k;omega)⟩
     clear Q0 Gc hB5 hK5 HPr y0 y1' hT hs9 hk9;go_wp2;obtain⟨z0,z1,z2,z3⟩:=HZ.out;unfold rY at z0 z1 z2 z3;refine bodyPost_ret (v:=.tuple #[.agg #[.string x.fact.1,.slice sa9 x.fact.2.length sc9,.int .i64 x.rule,.slice ka9 x.kids.length kc9],.int .i64 0]) (by simp[results,Tryz.results18,go_sem,z0,z1,z2,z3]) rfl ⟨.agg #[.string x.fact.1,.slice sa9 x.fact.2.length sc9,.int .i64 x.rule,.slice ka9 x.kids.length kc9],?_,?_,HBf.out⟩
     ·rw[HX.out]
     ·rw[HX.out];exact HVf.out
  ·have hne:(WF != 0)=true:=by simpa using h1
   have HX:Hid (PP=(WF,none)):=by show _=_;rw[Qs.out,if_pos h1]
   have HZ:=hide (jD (iR Ec (.string ⟨#[]⟩) (.slice none 0 0) (.int .i64 0) (.slice none 0 0))).1;have HBf:=hide (HBx.out (.string ⟨#[]⟩) (.slice none 0 0) (.int .i64 0) (.slice none 0 0) w3 HB3.out);obtain⟨_,_,⟨t0,t1,t2,t3⟩,_⟩:=jD Ec;clear h1 Qs Ec;go_wp2;obtain⟨z0,z1,z2,z3⟩:=HZ.out;unfold rY at z0 z1 z2 z3;refine bodyPost_ret (v:=.tuple #[ni,.int .i64 WF]) (by simp[results,Tryz.results18,go_sem,z0,z1,z2,z3];rfl) rfl ⟨ni,?_,?_,HBf.out⟩
   ·rw[HX.out]
   ·rw[HX.out];exact rfl
 ·have hne:(FE != 0)=true:=by simpa using h0
  have HX:Hid (PP=(FE,none)):=by show _=_;rw[HPP.out,if_pos h0]
  have HZ:=hide (jD (iR Qr (.string ⟨#[]⟩) (.slice none 0 0) (.int .i64 0) (.slice none 0 0))).1;have HBf:=hide (HBx.out (.string ⟨#[]⟩) (.slice none 0 0) (.int .i64 0) (.slice none 0 0) w2 HB2.out);obtain⟨_,_,⟨t0,t1,t2,t3⟩,_⟩:=jD Qr;clear h0 HPP Qr HS2;go_wp2;obtain⟨z0,z1,z2,z3⟩:=HZ.out;unfold rY at z0 z1 z2 z3;refine bodyPost_ret (v:=.tuple #[ni,.int .i64 FE]) (by simp[results,Tryz.results18,go_sem,z0,z1,z2,z3];rfl) rfl ⟨ni,?_,?_,HBf.out⟩
  ·rw[HX.out]
  ·rw[HX.out];exact rfl
end Go.Proofs.YtafmbokfkbccaaaGreatDoor
namespace Go.Proofs.YtafmbokfkbccaaaGreatDoor
open Go.RowKit Go.Sort
theorem uV {p:List aB} {t:List au} {f:au}:((fq p t f).2=none→(fq p t f).1≠0)∧(∀x,(fq p t f).2=some x→(fq p t f).1=0):=by
 unfold fq;split
 ·exact⟨fun _=> ‹_›,fun x h=>by simp at h⟩
 ·split
  ·exact⟨fun _=> ‹_›,fun x h=>by simp at h⟩
  ·split
   ·exact⟨fun _=>by simp,fun x h=>by simp at h⟩
   ·split
    ·exact⟨fun _=>by simp,fun x h=>by simp at h⟩
    ·exact⟨fun h=>by simp at h,fun x _=>rfl⟩
def Vq (lo X:Nat) (w:World) (v:Value):Option iU→Prop
 |none=>True
 |some x=>Fy 60 (fun k=>lo≤k∧k≠X) w v x
theorem Qp.four {lo:Nat} {w:World} {v:Value} {o:Option iU} (h:Qp lo w v o):∃pn pa pl pc pr qa ql qc,v=.agg #[.string pn,.slice pa pl pc,.int .i64 pr,.slice qa ql qc]:=by
 cases o with
 |none=>exact⟨_,_,_,_,_,_,_,_,h⟩
 |some x=>
  obtain⟨s,kv,rfl,h1,h2⟩:=h;obtain⟨a,c,rfl⟩:=Kind.slice h1;obtain⟨a',c',rfl⟩:=Kind.slice h2;exact⟨_,_,_,_,_,_,_,_,rfl⟩
set_option maxRecDepth 100000 in
set_option maxHeartbeats 4000000 in
theorem NH (p:Nat) (B:Nat→Prop) (d:dH) (f:au) (fv tv rv kv nv sv:Value) (w:World) (hD:fH p B w d tv rv kv nv sv) (hB:¬B p) (hf:cK w fv f):
  Calls Tryz.prog 138 #[.pointer (some ⟨p,0,none⟩),fv] w fun e w'=>∃v,e=.returned v∧bZ p B w w' v (d,kT fq d f):=by
 have hp:=hD.lt;obtain⟨fs,rfl,hfs⟩:=hf;obtain⟨fa,fc,rfl⟩:=aV hfs;obtain⟨w1,hw1⟩:∃w1,w1=w.alloc (.cells #[.string f.1,.slice fa f.2.length fc] 27):=⟨_,rfl⟩;obtain⟨w2,hw2⟩:∃w2,w2=w1.alloc (.cells #[.int .i64 0,.int .i64 0,.int .i64 0,.slice none 0 0,.string ⟨#[]⟩,.slice none 0 0,.int .i64 0,.slice none 0 0] 64):=⟨_,rfl⟩;have hz1:w1.heap.size=w.heap.size+1:=by rw[hw1];simp
 have hz2:w2.heap.size=w.heap.size+2:=by rw[hw2];simp;omega
 have hL1:Later w w1:=by rw[hw1];exact(Later.refl w).alloc _
 have DT:Later w1 w2:=by rw[hw2];exact(Later.refl w1).alloc _
 have hL2:Later w w2:=hL1.trans DT;have hr2:w2.heap[w.heap.size+1]?=some (.cells #[.int .i64 0,.int .i64 0,.int .i64 0,.slice none 0 0,.string ⟨#[]⟩,.slice none 0 0,.int .i64 0,.slice none 0 0] 64 (0,0)):=by rw[hw2,←hz1];exact Iy w1
 have hb2:w2.heap[w.heap.size]?=some (.cells #[.string f.1,.slice fa f.2.length fc] 27 (0,0)):=(DT.block (by omega)).trans (by rw[hw1];exact heap_alloc_new w _);have hD2:=hD.below hL2.below;have hf2:cK w2 (.agg #[.string f.1,.slice fa f.2.length fc]) f:=⟨_,rfl,hfs.later hL2⟩;obtain⟨⟨ta,tc,rfl⟩,⟨ra,rc,rfl⟩,⟨xka,xkc,rfl⟩,⟨xna,xnc,rfl⟩,⟨xsa,xsc,rfl⟩⟩:=hD.slices;have HC:Hid (∀w',Later w2 w'→Calls Tryz.prog 18 #[.slice ra d.rules.length rc,.slice ta d.told.length tc,.agg #[.string f.1,.slice fa f.2.length fc]] w' fun e w''=>∃v,e=.returned (.tuple #[v,.int .i64 (fq d.rules d.told f).1])∧Qp w'.heap.size w'' v (fq d.rules d.told f).2∧Below w'.heap.size w' w''):=fun w' h=>
  Qq d.rules d.told f _ _ _ w' (Kind.aN (Kind.bW hD2.rules) h) (hD2.told.facts.later h) (hf2.later h)
 have HPn:Hid ((fq d.rules d.told f).2=none→kT fq d f=mY (fq d.rules d.told f).1):=fun h=>by unfold kT;rw[h]
 have HPs:Hid (∀x,(fq d.rules d.told f).2=some x→kT fq d f=⟨0,0,0,[],x⟩):=fun x h=>by unfold kT;rw[h]
 have HPe:Hid ((fq d.rules d.told f).2=none→(fq d.rules d.told f).1≠0):=uV.1;have HPz:Hid (∀x,(fq d.rules d.told f).2=some x→(fq d.rules d.told f).1=0):=uV.2;have HSp:Hid (∀w':World,(w'.heap[p]?=w2.heap[p]?∧w'.heap[w.heap.size]?=w2.heap[w.heap.size]?)→(w'.heap[p]?=some (.cells #[.slice ta d.told.length tc,.slice ra d.rules.length rc,.bool d.running,.slice xka d.run.known.length xkc,.slice xna d.run.fresh.length xnc,.int .i64 d.run.level,.int .i64 d.run.rounds,.bool d.run.done,.slice xsa d.saved.length xsc] 140 (0,0))∧w'.heap[w.heap.size]?=some (.cells #[.string f.1,.slice fa f.2.length fc] 27 (0,0)))):=fun w' h=>⟨h.1.trans hD2.row,h.2.trans hb2⟩;have HW1:=hide hw1;have HW2:=hide hw2;have HL2:=hide hL2;have HR:=hide hr2;have HD:=hide hD;have HB:=hide hB;clear hw1 hw2 hL1 DT hL2 hr2 hb2 hD hB hD2 hf2 hfs;obtain⟨er,ox,hpp⟩:∃er ox,fq d.rules d.told f=(er,ox):=⟨_,_,rfl⟩;rw[hpp] at HC HPn HPs HPe HPz;clear hpp;dsimp only at HC HPn HPs HPe HPz
 go_enter Tryz.func138,Tryz.ntmps138
 go_wp2_with (first|(rw[←HW1.out])|(rw[←HW2.out])|fail)
 clear HW1 HW2;refine wp_region_held_drew (S:=fun w'=>w'.heap[p]?=w2.heap[p]?∧w'.heap[w.heap.size]?=w2.heap[w.heap.size]?) (by kernel_rfl) ⟨rfl,rfl⟩ (fun hHeld=> ?_);refine ak (i:=0) (d:=some 8) (v:= ?_) rfl rfl hHeld ?_ ?_;rotate_left;focus intro w hSw;(try dsimp only at hSw);obtain⟨s1,s2⟩:=HSp.out _ hSw;obtain⟨⟨c0,c1,c2,c3,c4,c5,c6,c7,c8⟩,_,_⟩:=iX s1;obtain⟨b0,b1,_,_,_⟩:=jR s2;have b1':w.cell? ⟨_,0+1,none⟩=some (.slice fa f.2.length fc):=b1;go_simp;try with_reducible rfl
 simp only[aK,aL,aze,asu];refine ak (i:=1) (d:=some 9) (v:= ?_) rfl rfl hHeld ?_ ?_;rotate_left;focus intro w hSw;(try dsimp only at hSw);obtain⟨s1,s2⟩:=HSp.out _ hSw;obtain⟨⟨c0,c1,c2,c3,c4,c5,c6,c7,c8⟩,_,_⟩:=iX s1;obtain⟨b0,b1,_,_,_⟩:=jR s2;have b1':w.cell? ⟨_,0+1,none⟩=some (.slice fa f.2.length fc):=b1;go_simp;try with_reducible rfl
 simp only[aK,aL,aze,asu];refine ak (i:=2) (d:=some 10) (v:= ?_) rfl rfl hHeld ?_ ?_;rotate_left;focus intro w hSw;(try dsimp only at hSw);obtain⟨s1,s2⟩:=HSp.out _ hSw;obtain⟨⟨c0,c1,c2,c3,c4,c5,c6,c7,c8⟩,_,_⟩:=iX s1;obtain⟨b0,b1,_,_,_⟩:=jR s2;have b1':w.cell? ⟨_,0+1,none⟩=some (.slice fa f.2.length fc):=b1;go_simp;try with_reducible rfl
 simp only[aK,aL,aze,asu];refine ak (i:=3) (d:=some 11) (v:= ?_) rfl rfl hHeld ?_ ?_;rotate_left;focus intro w hSw;(try dsimp only at hSw);obtain⟨s1,s2⟩:=HSp.out _ hSw;obtain⟨⟨c0,c1,c2,c3,c4,c5,c6,c7,c8⟩,_,_⟩:=iX s1;obtain⟨b0,b1,_,_,_⟩:=jR s2;have b1':w.cell? ⟨_,0+1,none⟩=some (.slice fa f.2.length fc):=b1;go_simp;try with_reducible rfl
 simp only[aK,aL,aze,asu];refine ak (i:=4) (d:=some 12) (v:= ?_) rfl rfl hHeld ?_ ?_;rotate_left;focus intro w hSw;(try dsimp only at hSw);obtain⟨s1,s2⟩:=HSp.out _ hSw;obtain⟨⟨c0,c1,c2,c3,c4,c5,c6,c7,c8⟩,_,_⟩:=iX s1;obtain⟨b0,b1,_,_,_⟩:=jR s2;have b1':w.cell? ⟨_,0+1,none⟩=some (.slice fa f.2.length fc):=b1;go_simp;try with_reducible rfl
 simp only[aK,aL,aze,asu];refine ak (i:=5) (d:=some 13) (v:= ?_) rfl rfl hHeld ?_ ?_;rotate_left;focus intro w hSw;(try dsimp only at hSw);obtain⟨s1,s2⟩:=HSp.out _ hSw;obtain⟨⟨c0,c1,c2,c3,c4,c5,c6,c7,c8⟩,_,_⟩:=iX s1;obtain⟨b0,b1,_,_,_⟩:=jR s2;have b1':w.cell? ⟨_,0+1,none⟩=some (.slice fa f.2.length fc):=b1;go_simp;try with_reducible rfl
 simp only[aK,aL,aze,asu];refine ak (i:=6) (d:=some 14) (v:= ?_) rfl rfl hHeld ?_ ?_;rotate_left;focus intro w hSw;(try dsimp only at hSw);obtain⟨s1,s2⟩:=HSp.out _ hSw;obtain⟨⟨c0,c1,c2,c3,c4,c5,c6,c7,c8⟩,_,_⟩:=iX s1;obtain⟨b0,b1,_,_,_⟩:=jR s2;have b1':w.cell? ⟨_,0+1,none⟩=some (.slice fa f.2.length fc):=b1;go_simp;try with_reducible rfl
 simp only[aK,aL,aze,asu];refine ak (i:=7) (d:=some 15) (v:= ?_) rfl rfl hHeld ?_ ?_;rotate_left;focus intro w hSw;(try dsimp only at hSw);obtain⟨s1,s2⟩:=HSp.out _ hSw;obtain⟨⟨c0,c1,c2,c3,c4,c5,c6,c7,c8⟩,_,_⟩:=iX s1;obtain⟨b0,b1,_,_,_⟩:=jR s2;have b1':w.cell? ⟨_,0+1,none⟩=some (.slice fa f.2.length fc):=b1;go_simp;try with_reducible rfl
 simp only[aK,aL,aze,asu];refine ak (i:=8) (d:=some 16) (v:= ?_) rfl rfl hHeld ?_ ?_;rotate_left;focus intro w hSw;(try dsimp only at hSw);obtain⟨s1,s2⟩:=HSp.out _ hSw;obtain⟨⟨c0,c1,c2,c3,c4,c5,c6,c7,c8⟩,_,_⟩:=iX s1;obtain⟨b0,b1,_,_,_⟩:=jR s2;have b1':w.cell? ⟨_,0+1,none⟩=some (.slice fa f.2.length fc):=b1;go_simp;try with_reducible rfl
 simp only[aK,aL,aze,asu];refine ak (i:=9) (d:=some 17) (v:= ?_) rfl rfl hHeld ?_ ?_;rotate_left;focus intro w hSw;(try dsimp only at hSw);obtain⟨s1,s2⟩:=HSp.out _ hSw;obtain⟨⟨c0,c1,c2,c3,c4,c5,c6,c7,c8⟩,_,_⟩:=iX s1;obtain⟨b0,b1,_,_,_⟩:=jR s2;have b1':w.cell? ⟨_,0+1,none⟩=some (.slice fa f.2.length fc):=b1;go_simp;try with_reducible rfl
 simp only[aK,aL,aze,asu];refine ak (i:=10) (d:=some 18) (v:= ?_) rfl rfl hHeld ?_ ?_;rotate_left;focus intro w hSw;(try dsimp only at hSw);obtain⟨s1,s2⟩:=HSp.out _ hSw;obtain⟨⟨c0,c1,c2,c3,c4,c5,c6,c7,c8⟩,_,_⟩:=iX s1;obtain⟨b0,b1,_,_,_⟩:=jR s2;have b1':w.cell? ⟨_,0+1,none⟩=some (.slice fa f.2.length fc):=b1;go_simp;try with_reducible rfl
 simp only[aK,aL,aze,asu];refine wpAnyH_ready (rs:=[11,15]) (by kernel_rfl) (by simp) ?_;refine AllReadyH.cons rfl (fun K' hK=> ?_) (AllReadyH.cons rfl (fun K' hK=> ?_) AllReadyH.nil)
 ·go_simp;refine(HC.out _ (Later.refl w2).drew).mono ?_;rintro e w3 ⟨v3,rfl,hO3,hB3⟩;have hB3:Below w2.heap.size w2 w3:=(Below.refl w2.heap.size w2).drew.trans hB3;have hO3:Qp w2.heap.size w3 v3 ox:=hO3;have hz3:=hB3.size;refine hK.out _ _ ⟨hB3.block p (by omega),hB3.block _ (by omega)⟩ (fun hHeld=> ?_);clear hK K' HC;obtain⟨pn,pa,pl,pc,pr,qa,ql,qc,rfl⟩:=hO3.four;refine ak (i:=12) (d:=some 7) (v:= ?_) rfl rfl hHeld ?_ ?_;rotate_left;focus intro w hSw;(try dsimp only at hSw);go_simp;try with_reducible rfl
  simp only[aK,aL,aze,asu];refine ak (i:=13) (d:=some 20) (v:= ?_) rfl rfl hHeld ?_ ?_;rotate_left;focus intro w hSw;(try dsimp only at hSw);go_simp;try with_reducible rfl
  simp only[aK,aL,aze,asu];refine ak (i:=14) (d:=some 21) (v:= ?_) rfl rfl hHeld ?_ ?_;rotate_left;focus intro w hSw;(try dsimp only at hSw);go_simp;try with_reducible rfl
  simp only[aK,aL,aze,asu];refine wpAnyH_ready (rs:=[15]) (by kernel_rfl) (by simp) ?_;refine AllReadyH.cons rfl (fun K' hK=> ?_) AllReadyH.nil;go_simp;obtain⟨w4,hw4⟩:∃w4,w4=w3.alloc (.cells #[.string ⟨#[]⟩,.slice none 0 0,.int .i64 0,.slice none 0 0] 30):=⟨_,rfl⟩;have hL4:Later w3 w4:=by rw[hw4];exact(Later.refl w3).alloc _
  have hx4:w4.heap[w3.heap.size]?=some (.cells #[.string ⟨#[]⟩,.slice none 0 0,.int .i64 0,.slice none 0 0] 30 (0,0)):=by rw[hw4];exact heap_alloc_new w3 _
  rw[←hw4];clear hw4;have Jl:Below w2.heap.size w2 w4:=aj hB3 hL4.below hB3.size;have hS4:w4.heap[p]?=w2.heap[p]?∧w4.heap[w.heap.size]?=w2.heap[w.heap.size]?:=⟨Jl.block p (by omega),Jl.block _ (by omega)⟩;have hB4:Below w.heap.size w w4:=aj HL2.out.below Jl HL2.out.size;have hR4:=(Jl.block (w.heap.size+1) (by omega)).trans HR.out;have hz4:=hL4.size;have hO4:Vq (w.heap.size+2) w3.heap.size w4 (.agg #[.string pn,.slice pa pl pc,.int .i64 pr,.slice qa ql qc]) ox:=by
   cases ox with
   |none=>trivial
   |some x=>
    obtain⟨s,kv,e,h1,h2⟩:=hO3;exact⟨s,kv,e,Kind.aM (Kind.aI h1 fun k hk hB=>⟨by have:w2.heap.size≤k:=hB;omega,by omega⟩) hL4.size fun k hk _=>hL4.block hk,Kind.aM (Kind.aI h2 fun k hk hB=>⟨by have:w2.heap.size≤k:=hB;omega,by omega⟩) hL4.size fun k hk _=>hL4.block hk⟩
  obtain⟨⟨l0,l1,l2,l3⟩,⟨l4,l5,l6⟩,⟨l7,l8,l9,l10⟩,l11⟩:=jD hx4;refine hK.out _ _ hS4 (fun hHeld=> ?_);clear hK K' hO3 hB3 hL4 Jl;refine wpAnyH_ready (rs:=[16]) (by kernel_rfl) (by simp) ?_;refine AllReadyH.cons rfl (fun K' hK=> ?_) AllReadyH.nil;go_simp;clear l0 l1 l2 l3 l4 l5 l6 l7 l8 l9 l10;have hXr:=iR hx4 (.string pn) (.slice pa pl pc) (.int .i64 pr) (.slice qa ql qc);obtain⟨w5,hw5⟩:∃w5,w5=rY w4 w3.heap.size (.string pn) (.slice pa pl pc) (.int .i64 pr) (.slice qa ql qc):=⟨_,rfl⟩;have hT5:=mM w4 w3.heap.size (.string pn) (.slice pa pl pc) (.int .i64 pr) (.slice qa ql qc);rw[←hw5] at hXr hT5;have NI:=hw5;unfold rY at NI;rw[←NI];clear hw5 NI;refine hK.out _ _ ⟨(hT5.block _ (by omega) (by omega)).trans hS4.1,(hT5.block _ (by omega) (by omega)).trans hS4.2⟩ (fun hHeld=> ?_);clear hK K';refine wpAnyH_ready (rs:=[17]) (by kernel_rfl) (by simp) ?_;refine AllReadyH.cons rfl (fun K' hK=> ?_) AllReadyH.nil;go_simp;refine hK.out _ _ hHeld (fun hHeld=> ?_);clear hK K' hHeld;refine wpAnyH_done (by kernel_rfl) ?_ _;have HBw:Hid (Below w.heap.size w w5):=hB4.trans (hT5.below (by omega) (by have:=hB4.size;omega));have ng:Hid (w5.heap[w.heap.size+1]?=_):=(hT5.block _ (by omega) (by omega)).trans hR4;obtain⟨⟨n0,n1,n2,n3⟩,⟨n4,n5,n6⟩,_,hX5⟩:=jD hXr;have hz5:=hT5.size;cases ox with
  |none=>
   have HX:Hid (kT fq d f=mY er):=HPn.out rfl;have hne:(er != 0)=true:=by have:=HPe.out rfl;simpa using this
   clear hO4 hT5 hXr hS4 hB4 hR4 hx4 HPn HPs HPe HPz;have HCr:=hide (gP er w5);unfold jP at HCr
   go_wp2_with fail
   refine HCr.out.mono ?_;rintro e w6 ⟨rfl,hBr⟩;have HRz:Hid (w6.heap[(w.heap.size+1)]?=_):=(hBr.block _ (by omega)).trans ng.out;obtain⟨⟨z0,z1,z2,z3,z4,z5,z6,z7⟩,zfz,zlt⟩:=gD HRz.out;have HBn:=hide (aj HBw.out hBr HBw.out.size);clear hBr HCr;go_wp2;have hD2:=(HD.out.mono (B':=fun k=>B k∧k<w.heap.size) fun _ hk hb=>⟨hb,hk⟩).below HBn.out;have hrow:=bf HRz.out (.int .i64 er) (.int .i64 0) (.int .i64 0) (.slice none 0 0) (.string ⟨#[]⟩) (.slice none 0 0) (.int .i64 0) (.slice none 0 0);obtain⟨⟨r0,r1,r2,r3,r4,r5,r6,r7⟩,_,_⟩:=gD hrow;unfold kW at r0 r1 r2 r3 r4 r5 r6 r7;have hTz:=bL w6 (w.heap.size+1) (.int .i64 er) (.int .i64 0) (.int .i64 0) (.slice none 0 0) (.string ⟨#[]⟩) (.slice none 0 0) (.int .i64 0) (.slice none 0 0);exact bodyPost_ret (v:=.agg #[.int .i64 er,.int .i64 0,.int .i64 0,.slice none 0 0,.string ⟨#[]⟩,.slice none 0 0,.int .i64 0,.slice none 0 0]) (by simp[results,Tryz.results138,go_sem,r0,r1,r2,r3,r4,r5,r6,r7]) rfl
    ⟨_,rfl,by rw[HX.out];exact bZ.lay (R:=(w.heap.size+1)) (nZ.plain _ _ _ _ _) (hD2.mono fun k _ hb=>⟨Or.inl hb.1,by omega⟩) (Tn.of_below HBn.out) hTz (by omega) hp⟩
  |some x=>
   have HX:Hid (kT fq d f=⟨0,0,0,[],x⟩):=HPs.out x rfl;obtain rfl:er=0:=HPz.out x rfl;obtain⟨sv',kv',ev,hsl,hkl⟩:=hO4;simp only[Value.agg.injEq,Array.mk.injEq,List.cons.injEq,Value.string.injEq,Value.int.injEq,true_and,and_true] at ev;obtain⟨rfl,rfl,rfl,rfl⟩:=ev;have hm:∀k,k<w4.heap.size→w.heap.size+2≤k→k≠w3.heap.size→w5.heap[k]?=w4.heap[k]?:=fun k hk _ hne=>hT5.block k hk hne;have HA:Hid (nZ (fun k=>w.heap.size≤k∧k≠w.heap.size+1) w5 (.agg #[.int .i64 0,.int .i64 0,.int .i64 0,.slice none 0 0,.string x.fact.1,.slice pa pl pc,.int .i64 x.rule,.slice qa ql qc]) ⟨0,0,0,[],x⟩):=
    ⟨_,_,_,rfl,lD.dh _ _ _ _,Kind.aI (Kind.aM hsl hT5.size fun k hk hB=>hT5.block k hk hB.2) fun k _ hB=>⟨by have:=hB.1;omega,by have:=hB.1;omega⟩,Kind.aI (Kind.aM hkl hT5.size fun k hk hB=>hT5.block k hk hB.2) fun k _ hB=>⟨by have:=hB.1;omega,by have:=hB.1;omega⟩⟩
   have HRz:=ng;obtain⟨⟨z0,z1,z2,z3,z4,z5,z6,z7⟩,zfz,zlt⟩:=gD HRz.out;have hD5:=(HD.out.mono (B':=fun k=>B k∧k<w.heap.size) fun _ hk hb=>⟨hb,hk⟩).below HBw.out;have HD5:=hide hD5;clear hD5 hsl hkl hm hT5 hXr hS4 hB4 hR4 hx4 HPn HPs HPe HPz ng;generalize x.fact.1=pn at*;generalize x.rule=pr at*;go_wp2;have hrow:=bf HRz.out (.int .i64 0) (.int .i64 0) (.int .i64 0) (.slice none 0 0) (.string pn) (.slice pa pl pc) (.int .i64 pr) (.slice qa ql qc);obtain⟨⟨r0,r1,r2,r3,r4,r5,r6,r7⟩,_,_⟩:=gD hrow;unfold kW at r0 r1 r2 r3 r4 r5 r6 r7;have hTz:=bL w5 (w.heap.size+1) (.int .i64 0) (.int .i64 0) (.int .i64 0) (.slice none 0 0) (.string pn) (.slice pa pl pc) (.int .i64 pr) (.slice qa ql qc);exact bodyPost_ret (v:=.agg #[.int .i64 0,.int .i64 0,.int .i64 0,.slice none 0 0,.string pn,.slice pa pl pc,.int .i64 pr,.slice qa ql qc]) (by simp[results,Tryz.results138,go_sem,r0,r1,r2,r3,r4,r5,r6,r7]) rfl
    ⟨_,rfl,by rw[HX.out];exact bZ.lay (R:=w.heap.size+1) HA.out (HD5.out.mono fun k _ hb=>⟨Or.inl hb.1,by omega⟩) (Tn.of_below HBw.out) hTz (by omega) hp⟩
 ·go_simp;obtain⟨w3,hw3⟩:∃w3,w3=(w2.alloc (.cells #[.string ⟨#[]⟩,.slice none 0 0,.int .i64 0,.slice none 0 0] 30)).drew:=⟨_,rfl⟩;have hL3:Later w2 w3:=by rw[hw3];exact((Later.refl w2).alloc _).drew
  have hx3:w3.heap[w.heap.size+2]?=some (.cells #[.string ⟨#[]⟩,.slice none 0 0,.int .i64 0,.slice none 0 0] 30 (0,0)):=by rw[hw3,←hz2];exact heap_alloc_new w2 _
  have hlt3:=(Array.getElem?_eq_some_iff.1 hx3).1;rw[←hw3];clear hw3;refine hK.out _ _ ⟨hL3.block (by omega),hL3.block (by omega)⟩ (fun hHeld=> ?_);clear hK K';refine wpAnyH_ready (rs:=[11]) (by kernel_rfl) (by simp) ?_;refine AllReadyH.cons rfl (fun K' hK=> ?_) AllReadyH.nil;go_simp;refine(HC.out _ hL3).mono ?_;rintro e w4 ⟨v4,rfl,hO3,Q5⟩;have Jl:Below w2.heap.size w2 w4:=aj hL3.below Q5 hL3.size;have hz4:=Q5.size;have hS4:w4.heap[p]?=w2.heap[p]?∧w4.heap[w.heap.size]?=w2.heap[w.heap.size]?:=⟨Jl.block p (by omega),Jl.block _ (by omega)⟩;refine hK.out _ _ hS4 (fun hHeld=> ?_);clear hK K' HC;obtain⟨pn,pa,pl,pc,pr,qa,ql,qc,rfl⟩:=hO3.four;refine ak (i:=12) (d:=some 7) (v:= ?_) rfl rfl hHeld ?_ ?_;rotate_left;focus intro w hSw;(try dsimp only at hSw);go_simp;try with_reducible rfl
  simp only[aK,aL,aze,asu];refine ak (i:=13) (d:=some 20) (v:= ?_) rfl rfl hHeld ?_ ?_;rotate_left;focus intro w hSw;(try dsimp only at hSw);go_simp;try with_reducible rfl
  simp only[aK,aL,aze,asu];refine ak (i:=14) (d:=some 21) (v:= ?_) rfl rfl hHeld ?_ ?_;rotate_left;focus intro w hSw;(try dsimp only at hSw);go_simp;try with_reducible rfl
  simp only[aK,aL,aze,asu];have hx4:=(Q5.block _ hlt3).trans hx3;have hB4:Below w.heap.size w w4:=aj HL2.out.below Jl HL2.out.size;have hR4:=(Jl.block (w.heap.size+1) (by omega)).trans HR.out;have hO4:Vq (w.heap.size+2) (w.heap.size+2) w4 (.agg #[.string pn,.slice pa pl pc,.int .i64 pr,.slice qa ql qc]) ox:=by
   cases ox with
   |none=>trivial
   |some x=>
    obtain⟨s,kv,e,h1,h2⟩:=hO3;exact⟨s,kv,e,Kind.aI h1 fun k hk hB=>⟨by have:w3.heap.size≤k:=hB;omega,by have:w3.heap.size≤k:=hB;omega⟩,Kind.aI h2 fun k hk hB=>⟨by have:w3.heap.size≤k:=hB;omega,by have:w3.heap.size≤k:=hB;omega⟩⟩
  obtain⟨⟨l0,l1,l2,l3⟩,⟨l4,l5,l6⟩,⟨l7,l8,l9,l10⟩,l11⟩:=jD hx4;clear hO3 hL3 Jl Q5 hx3;refine wpAnyH_ready (rs:=[16]) (by kernel_rfl) (by simp) ?_;refine AllReadyH.cons rfl (fun K' hK=> ?_) AllReadyH.nil;go_simp;clear l0 l1 l2 l3 l4 l5 l6 l7 l8 l9 l10;have hXr:=iR hx4 (.string pn) (.slice pa pl pc) (.int .i64 pr) (.slice qa ql qc);obtain⟨w5,hw5⟩:∃w5,w5=rY w4 (w.heap.size+2) (.string pn) (.slice pa pl pc) (.int .i64 pr) (.slice qa ql qc):=⟨_,rfl⟩;have hT5:=mM w4 (w.heap.size+2) (.string pn) (.slice pa pl pc) (.int .i64 pr) (.slice qa ql qc);rw[←hw5] at hXr hT5;have NI:=hw5;unfold rY at NI;rw[←NI];clear hw5 NI;refine hK.out _ _ ⟨(hT5.block _ (by omega) (by omega)).trans hS4.1,(hT5.block _ (by omega) (by omega)).trans hS4.2⟩ (fun hHeld=> ?_);clear hK K';refine wpAnyH_ready (rs:=[17]) (by kernel_rfl) (by simp) ?_;refine AllReadyH.cons rfl (fun K' hK=> ?_) AllReadyH.nil;go_simp;refine hK.out _ _ hHeld (fun hHeld=> ?_);clear hK K' hHeld;refine wpAnyH_done (by kernel_rfl) ?_ _;have HBw:Hid (Below w.heap.size w w5):=hB4.trans (hT5.below (by omega) (by have:=hB4.size;omega));have ng:Hid (w5.heap[w.heap.size+1]?=_):=(hT5.block _ (by omega) (by omega)).trans hR4;obtain⟨⟨n0,n1,n2,n3⟩,⟨n4,n5,n6⟩,_,hX5⟩:=jD hXr;have hz5:=hT5.size;cases ox with
  |none=>
   have HX:Hid (kT fq d f=mY er):=HPn.out rfl;have hne:(er != 0)=true:=by have:=HPe.out rfl;simpa using this
   clear hO4 hT5 hXr hS4 hB4 hR4 hx4 HPn HPs HPe HPz;have HCr:=hide (gP er w5);unfold jP at HCr
   go_wp2_with fail
   refine HCr.out.mono ?_;rintro e w6 ⟨rfl,hBr⟩;have HRz:Hid (w6.heap[(w.heap.size+1)]?=_):=(hBr.block _ (by omega)).trans ng.out;obtain⟨⟨z0,z1,z2,z3,z4,z5,z6,z7⟩,zfz,zlt⟩:=gD HRz.out;have HBn:=hide (aj HBw.out hBr HBw.out.size);clear hBr HCr;go_wp2;have hD2:=(HD.out.mono (B':=fun k=>B k∧k<w.heap.size) fun _ hk hb=>⟨hb,hk⟩).below HBn.out;have hrow:=bf HRz.out (.int .i64 er) (.int .i64 0) (.int .i64 0) (.slice none 0 0) (.string ⟨#[]⟩) (.slice none 0 0) (.int .i64 0) (.slice none 0 0);obtain⟨⟨r0,r1,r2,r3,r4,r5,r6,r7⟩,_,_⟩:=gD hrow;unfold kW at r0 r1 r2 r3 r4 r5 r6 r7;have hTz:=bL w6 (w.heap.size+1) (.int .i64 er) (.int .i64 0) (.int .i64 0) (.slice none 0 0) (.string ⟨#[]⟩) (.slice none 0 0) (.int .i64 0) (.slice none 0 0);exact bodyPost_ret (v:=.agg #[.int .i64 er,.int .i64 0,.int .i64 0,.slice none 0 0,.string ⟨#[]⟩,.slice none 0 0,.int .i64 0,.slice none 0 0]) (by simp[results,Tryz.results138,go_sem,r0,r1,r2,r3,r4,r5,r6,r7]) rfl
    ⟨_,rfl,by rw[HX.out];exact bZ.lay (R:=(w.heap.size+1)) (nZ.plain _ _ _ _ _) (hD2.mono fun k _ hb=>⟨Or.inl hb.1,by omega⟩) (Tn.of_below HBn.out) hTz (by omega) hp⟩
  |some x=>
   have HX:Hid (kT fq d f=⟨0,0,0,[],x⟩):=HPs.out x rfl;obtain rfl:er=0:=HPz.out x rfl;obtain⟨sv',kv',ev,hsl,hkl⟩:=hO4;simp only[Value.agg.injEq,Array.mk.injEq,List.cons.injEq,Value.string.injEq,Value.int.injEq,true_and,and_true] at ev;obtain⟨rfl,rfl,rfl,rfl⟩:=ev;have hm:∀k,k<w4.heap.size→w.heap.size+2≤k→k≠(w.heap.size+2)→w5.heap[k]?=w4.heap[k]?:=fun k hk _ hne=>hT5.block k hk hne;have HA:Hid (nZ (fun k=>w.heap.size≤k∧k≠w.heap.size+1) w5 (.agg #[.int .i64 0,.int .i64 0,.int .i64 0,.slice none 0 0,.string x.fact.1,.slice pa pl pc,.int .i64 x.rule,.slice qa ql qc]) ⟨0,0,0,[],x⟩):=
    ⟨_,_,_,rfl,lD.dh _ _ _ _,Kind.aI (Kind.aM hsl hT5.size fun k hk hB=>hT5.block k hk hB.2) fun k _ hB=>⟨by have:=hB.1;omega,by have:=hB.1;omega⟩,Kind.aI (Kind.aM hkl hT5.size fun k hk hB=>hT5.block k hk hB.2) fun k _ hB=>⟨by have:=hB.1;omega,by have:=hB.1;omega⟩⟩
   have HRz:=ng;obtain⟨⟨z0,z1,z2,z3,z4,z5,z6,z7⟩,zfz,zlt⟩:=gD HRz.out;have hD5:=(HD.out.mono (B':=fun k=>B k∧k<w.heap.size) fun _ hk hb=>⟨hb,hk⟩).below HBw.out;have HD5:=hide hD5;clear hD5 hsl hkl hm hT5 hXr hS4 hB4 hR4 hx4 HPn HPs HPe HPz ng;generalize x.fact.1=pn at*;generalize x.rule=pr at*;go_wp2;have hrow:=bf HRz.out (.int .i64 0) (.int .i64 0) (.int .i64 0) (.slice none 0 0) (.string pn) (.slice pa pl pc) (.int .i64 pr) (.slice qa ql qc);obtain⟨⟨r0,r1,r2,r3,r4,r5,r6,r7⟩,_,_⟩:=gD hrow;unfold kW at r0 r1 r2 r3 r4 r5 r6 r7;have hTz:=bL w5 (w.heap.size+1) (.int .i64 0) (.int .i64 0) (.int .i64 0) (.slice none 0 0) (.string pn) (.slice pa pl pc) (.int .i64 pr) (.slice qa ql qc);exact bodyPost_ret (v:=.agg #[.int .i64 0,.int .i64 0,.int .i64 0,.slice none 0 0,.string pn,.slice pa pl pc,.int .i64 pr,.slice qa ql qc]) (by simp[results,Tryz.results138,go_sem,r0,r1,r2,r3,r4,r5,r6,r7]) rfl
    ⟨_,rfl,by rw[HX.out];exact bZ.lay (R:=w.heap.size+1) HA.out (HD5.out.mono fun k _ hb=>⟨Or.inl hb.1,by omega⟩) (Tn.of_below HBw.out) hTz (by omega) hp⟩
theorem Qt:DX fq:=fun p B d f fv tv rv kv nv sv w=>NH p B d f fv tv rv kv nv sv w
end Go.Proofs.YtafmbokfkbccaaaGreatDoor
