import Derived.Test.YtafmbokfkbccaaaGreatDoorJN41
import Derived.Test.YtafmbokfkbccaaaGreatDoorJN34
import Derived.Test.YtafmbokfkbccaaaGreatDoorJN28
namespace Go.Proofs.YtafmbokfkbccaaaGreatDoor
open Go.RowKit Go.Sort Go.Maps
structure Gq (w0 wF:World) (P lo mb:Nat) (p:List aA) (told all:List au) (PS:List (List au)) (pv tv av sv:Value) (xs:List Value):Prop where
 gp:Gp wF P lo mb av sv xs all PS
 gr:Grd w0 P p told all PS pv tv
 lm:w0.heap.size≤mb
 b0:Below w0.heap.size w0 wF
 cl:∀f∈all,(∀g∈(ru (nQ all) p told all PS f).2,g∈all)∧(ru (nQ all) p told all PS f).2.length≤1000
 ag:∀f∈all,f.2.length≤1000
 pi:oD pv∧oD tv
theorem CX {P:Nat} {w w':World} {v:Value} {l:List ByteArray} (hn:rC w P) (k:Tn P w w') (h:Strs w v l):Strs w' v l:=by
 obtain⟨h0,a,cap,rfl,h1⟩:=h;refine⟨h0,a,cap,rfl,fun hl=> ?_⟩;obtain⟨b,off,rfl,hb,hc⟩:=h1 hl;refine⟨b,off,rfl,Nat.lt_of_lt_of_le hb k.size,fun i hi=> ?_⟩;rw[World.cell?_of_block (w:=w) (k.block b hb (fun e=>by subst e;exact hn _ _ (hc i hi)))];exact hc i hi
theorem PvS.xE {B:Nat→Prop} {wF w:World} {P lo mb:Nat} {pv tv av sv:Value} {xs:List Value} {c d:Int} {n:Nat} {all:List au} {PS:List (List au)} {how:au→Int×List au} (h:PvS B wF w P mb pv tv av sv c d n all how) (hp:oD pv) (ht:oD tv) (G:Gp wF P lo mb av sv xs all PS):rC w P:=by
 have ha:oD av:=by obtain⟨a,c,e⟩:=aB G.fa;exact⟨a,_,c,e⟩
 exact h.row.xE hp ht ha G.past.oD
set_option maxRecDepth 100000 in
set_option maxHeartbeats 8000000 in
theorem xH (w0 wF:World) (P lo mb:Nat) (p:List aA) (told all:List au) (PS:List (List au)) (pv tv av sv:Value) (xs:List Value) (hG:Gq w0 wF P lo mb p told all PS pv tv av sv xs) (N:Nat) (ih:1≤N→I9 all P mb pv tv av sv wF (ru (nQ all) p told all PS) N):I9 all P mb pv tv av sv wF (ru (nQ all) p told all PS) (N+1):=by
 intro B f fv dep c d n w hN hB1 hB2 hS hnc hc4 hd6 hfa hf;obtain⟨how,Jp⟩:∃how,how=ru (nQ all) p told all PS:=⟨_,rfl⟩;rw[←Jp] at hS ih⊢;obtain⟨s,rfl,hs⟩:=hf;obtain⟨sa,sc,rfl⟩:=aW hs;have hne:=hG.gp.ne;have hlo1:=hG.gp.lo1;have hlo2:=hG.gp.lo2;have hlo3:=hG.gp.lo3;have Wj:=hS.kq.size;obtain⟨w1,hw1⟩:∃w1,w1=(w.alloc (.cells #[.string f.1,.slice sa f.2.length sc] 27)).alloc (.cells #[.string ⟨#[]⟩,.slice none 0 0,.int .i64 0,.slice none 0 0] 30):=⟨_,rfl⟩;have hL1:Later w w1:=by rw[hw1];exact((Later.refl w).alloc _).alloc _
 have hs1:w1.heap.size=w.heap.size+2:=by rw[hw1];simp
 have hr0:w1.heap[w.heap.size]?=some (.cells #[.string f.1,.slice sa f.2.length sc] 27 (0,0)):=by
  rw[hw1];simp only[iB,World.size_alloc]
  repeat (first|rw[if_pos trivial]|rw[if_pos (by omega)]|rw[if_neg (by omega)])
 have hr1:w1.heap[w.heap.size+1]?=some (.cells #[.string ⟨#[]⟩,.slice none 0 0,.int .i64 0,.slice none 0 0] 30 (0,0)):=by
  rw[hw1];simp only[iB,World.size_alloc]
  repeat (first|rw[if_pos trivial]|rw[if_pos (by omega)]|rw[if_neg (by omega)])
 obtain⟨c1,hc1⟩:∃c1:Nat,c1=c+1:=⟨_,rfl⟩;obtain⟨d1,hd1⟩:∃d1:Nat,d1=max d dep:=⟨_,rfl⟩;have hci:(c1:Int)=(c:Int)+1:=by omega
 have hdi:(d1:Int)=max (d:Int) (dep:Int):=by omega
 have hS1:=(hS.mono (B':=fun k=>B k∧k≠w.heap.size∧k≠w.heap.size+1) fun k hk hb=>⟨hb,by omega,by omega⟩).below hL1.below;obtain⟨w2,hw2⟩:∃w2,w2=w1.setCell ⟨P,3,none⟩ (.int .i64 ((c:Int)+1)):=⟨_,rfl⟩;have hS2:PvS (fun k=>B k∧k≠w.heap.size∧k≠w.heap.size+1) wF w2 P mb pv tv av sv (c1:Int) (d:Int) n all how:=by rw[hw2,hci];exact hS1.counts hne (fun k hb=>(hB1 k hb.1).2) 3 _ _ _ (Or.inl ⟨rfl,rfl,rfl⟩)
 obtain⟨w3,hw3⟩:∃w3,w3=w2.setCell ⟨P,4,none⟩ (.int .i64 (max (d:Int) (dep:Int))):=⟨_,rfl⟩;have hS3:PvS (fun k=>B k∧k≠w.heap.size∧k≠w.heap.size+1) wF w3 P mb pv tv av sv (c1:Int) (d1:Int) n all how:=by rw[hw3,hdi];exact hS2.counts hne (fun k hb=>(hB1 k hb.1).2) 4 _ _ _ (Or.inr ⟨rfl,rfl,rfl⟩)
 have hPw:=hS.cells.2.2.2.2.1;have Qa:Tn P w1 w3:=by
  rw[hw3,hw2];exact Tn.setCell (p:=P) (Tn.setCell (p:=P) (Tn.refl _ _) (x:=⟨P,3,none⟩) (Or.inl rfl) _) (x:=⟨P,4,none⟩) (Or.inl rfl) _
 have hs3:w3.heap.size=w.heap.size+2:=by rw[hw3,hw2,size_setCell,size_setCell,hs1]
 have Qb:w3.heap[w.heap.size]?=some (.cells #[.string f.1,.slice sa f.2.length sc] 27 (0,0)):=(Qa.block _ (by omega) (by omega)).trans hr0;have DW:w3.heap[w.heap.size+1]?=some (.cells #[.string ⟨#[]⟩,.slice none 0 0,.int .i64 0,.slice none 0 0] 30 (0,0)):=(Qa.block _ (by omega) (by omega)).trans hr1;have UG:Kq P mb w w3:=(Kq.of_below hL1.below).trans (Kq.P9 Qa);obtain⟨a3,_,a5,_,_,_⟩:=hS1.cells;obtain⟨_,b4,_,b6,_,_⟩:=hS2.cells;obtain⟨g3,_,_,_,_,g8⟩:=hS3.cells;have HMu:=hide (Sk c1 d1 w3);have HC1:=hide hc1;have HD1:=hide hd1;clear hc1 hd1 hci hdi;have HW1:=hide hw1;have HW2:=hide hw2;have HW3:=hide hw3;have HS3:=hide hS3;have HR0:=hide Qb;have HR1:=hide DW;have HK3:=hide UG;have HG:=hide hG;have HB1:=hide hB1;have HB2:=hide hB2;have HIh:=hide ih;have SI:=hide Jp;have UH:Strs w3 (.slice sa f.2.length sc) f.2:=CX (hS1.xE hG.pi.1 hG.pi.2 hG.gp) Qa (hs.later hL1);have UJ:=hide UH;clear hG hB1 hB2 hS hs Jp ih hw1 hw2 hw3 hL1 hr0 hr1 hS1 hS2 hS3 Qa Qb DW UG UH;obtain⟨fn,aJ⟩:=f;dsimp only at*
 go_enter Tryz.func60,Tryz.ntmps60
 go_wp2_with (first|(rw[←HW1.out])|(rw[←HW2.out])|(rw[←HW3.out])|fail)
 refine HMu.out.mono ?_;rintro e w4 ⟨rfl,hL4⟩;have Pj:=hL4.size;have hS4:=HS3.out.below hL4.below;have Qc:=(hL4.block (by omega:w.heap.size<w3.heap.size)).trans HR0.out;have Jr:=(hL4.block (by omega:w.heap.size+1<w3.heap.size)).trans HR1.out;have hK4:Kq P mb w w4:=HK3.out.trans (Kq.of_below hL4.below);have HS4:=hide hS4;have SK:=hide Qc;have NT:=hide Jr;have HK4:=hide hK4;have SL:=hide (UJ.out.later hL4);have HFin:Hid (∀(x0 x1 x2 x3:Value) (wr:World),wr.heap[w.heap.size+1]?=some (.cells #[.string ⟨#[]⟩,.slice none 0 0,.int .i64 0,.slice none 0 0] 30 (0,0))→Kq P mb w wr→Kq P mb w (sw wr (w.heap.size+1) x0 x1 x2 x3)):=fun x0 x1 x2 x3 wr hr hK=>by
  have hT:=mQ wr (w.heap.size+1) x0 x1 x2 x3;exact⟨hT.os.trans hK.os,hT.tape.trans hK.tape,hT.output.trans hK.output,Nat.le_trans hK.size hT.size,fun k hk h1 h2=>(hT.block k (Nat.lt_of_lt_of_le hk hK.size) (by omega)).trans (hK.block k hk h1 h2)⟩
 have HTu:Hid (∀(B':Nat→Prop) (cx dx:Int) (nx:Nat) (x0 x1 x2 x3:Value) (wr:World),(∀k,B' k→k≠w.heap.size+1)→PvS B' wF wr P mb pv tv av sv cx dx nx all how→PvS B' wF (sw wr (w.heap.size+1) x0 x1 x2 x3) P mb pv tv av sv cx dx nx all how):=fun B' cx dx nx x0 x1 x2 x3 wr hb hS=>by
  have hT:=mQ wr (w.heap.size+1) x0 x1 x2 x3;refine hS.turned hT.os hT.tape hT.output hT.size fun k hk h=>hT.block k hk ?_;rcases h with h|h|h|h
  ·omega
  ·omega
  ·omega
  ·exact hb k h
 clear hS4 Qc hK4 HMu g3 g8 a3 a5 b4 b6 HS3 HR0 HR1 HK3 UJ;cases hm:AO (c1,d1) with
 |true=>
  have HX:Hid (dh how (N+1) (fn,aJ) dep (c,d)=(none,(c1,d1))):=by
   show _=_;unfold dh;dsimp only;rw[←HC1.out,←HD1.out,if_pos hm]
  have HK:=hide (HFin.out (.string ⟨#[]⟩) (.slice none 0 0) (.int .i64 0) (.slice none 0 0) w4 NT.out HK4.out);have HP:=hide (HTu.out _ _ _ _ (.string ⟨#[]⟩) (.slice none 0 0) (.int .i64 0) (.slice none 0 0) w4 (fun k hb=>hb.2.2) HS4.out);have HZ:=hide (jH (iP NT.out (.string ⟨#[]⟩) (.slice none 0 0) (.int .i64 0) (.slice none 0 0))).1;obtain⟨_,_,⟨t0,t1,t2,t3⟩,_⟩:=jH Jr;clear hm Jr HFin HTu HIh HG hL4;go_wp2;obtain⟨z0,z1,z2,z3⟩:=HZ.out;unfold sw at z0 z1 z2 z3;have hc1:=HC1.out;refine bodyPost_ret (v:=.tuple #[nD,.int .i64 4]) (by simp[results,Tryz.results60,go_sem,z0,z1,z2,z3];rfl) rfl ⟨nD,4,n,rfl,?_,?_,?_,HK.out⟩
  ·rw[HX.out];exact⟨rfl,rfl⟩
  ·rw[HX.out];exact HP.out.mono fun k _ hb=>hb.1
  ·rw[HX.out];show n≤c1;omega
 |false=>
  have hcd:c1≤400∧d1≤60:=by
   unfold AO at hm;simp only[Bool.or_eq_false_iff,decide_eq_false_iff_not] at hm;omega
  have hN1:1≤N:=by have:=HD1.out;omega
  have hNc:n≤1000:=by omega
  obtain⟨rl,of,hho⟩:∃rl of,how (fn,aJ)=(rl,of):=⟨_,_,rfl⟩;have HPG:Hid (dh how (N+1) (fn,aJ) dep (c,d)=((rV (fun g s=>dh how N g (dep+1) s) of [] (c1,d1)).1.map (iT.mk (fn,aJ) rl),(rV (fun g s=>dh how N g (dep+1) s) of [] (c1,d1)).2)):=by
   show _=_
   conv=>lhs;unfold dh
   dsimp only;rw[←HC1.out,←HD1.out,if_neg (by rw[hm];simp),hho];unfold rV;dsimp only;cases(lQ (fun g s=>dh how N g (dep+1) s) of (c1,d1)).1 <;> rfl
  have UK:Below w0.heap.size w0 w4:=aj HG.out.b0 ((HS4.out.kq).below HG.out.gr.low HG.out.lm HG.out.b0.size) (Nat.le_refl _);have UL:dF w4 (.agg #[.string fn,.slice sa aJ.length sc]) (fn,aJ):=⟨_,rfl,SL.out⟩;have hWy:=WC (fun k=>B k∧k≠w.heap.size∧k≠w.heap.size+1) p told all PS (fn,aJ) P lo pv tv (.agg #[.string fn,.slice sa aJ.length sc]) (c1:Int) (d1:Int) mb n w0 w4 HG.out.gr UK (by rw[←SI.out];exact HS4.out.prx HG.out.gp) (fun k hb=>(HB1.out k hb.1).1) (fun k hk=>⟨HB2.out k (by omega),by omega,by omega⟩) UL hfa hNc;rw[←SI.out,hho] at hWy;have HWy:=hide hWy;have hcl:=HG.out.cl (fn,aJ) hfa;rw[←SI.out,hho] at hcl;dsimp only at hcl;obtain⟨UM,Xx⟩:=hcl;have Xy:aJ.length≤1000:=HG.out.ag (fn,aJ) hfa;have WJ:=hide UM;have HHo:=hide hho;obtain⟨q0,q1,_,_,_⟩:=jN SK.out;have q1':w4.cell? ⟨w.heap.size,0+1,none⟩=some (.slice sa aJ.length sc):=q1;clear hm hho UK UL hWy UM Jr q1
  go_wp2_with fail
  refine HWy.out.mono ?_;rintro e w5 ⟨v5,n5,rfl,⟨u5,rfl,hF5⟩,hX5,hn5,hT5⟩;dsimp only at hF5;have hF5:bC (fun k=>B k∧k≠w.heap.size∧k≠w.heap.size+1) w5 u5 of:=hF5;obtain⟨ha,hc,rfl⟩:=aB hF5.facts;have Xz:=HS4.out.ways.lt;have hP4:=HS4.out.cells.2.2.2.2.1;have hS5:PvS (fun k=>B k∧k≠w.heap.size∧k≠w.heap.size+1) wF w5 P mb pv tv av sv (c1:Int) (d1:Int) n5 all how:=⟨HS4.out.row.block (hT5.block P hP4 hne),HS4.out.kq.trans (Kq.LA hT5),hX5.ways⟩;obtain⟨w6,hw6⟩:∃w6,w6=w5.alloc (.cells #[.int .i64 rl,.slice ha of.length hc] 182):=⟨_,rfl⟩;have hL6:Later w5 w6:=by rw[hw6];exact(Later.refl w5).alloc _
  have hs6:w5.heap.size<w6.heap.size:=by rw[hw6];simp
  have SN:w6.heap[w5.heap.size]?=some (.cells #[.int .i64 rl,.slice ha of.length hc] 182 (0,0)):=by rw[hw6];exact heap_alloc_new w5 _
  have hsz5:=hT5.size;have Ul:w.heap.size+2≤w4.heap.size:=by omega
  have UN:=(hT5.block w.heap.size (by omega) (by omega)).trans SK.out;have FY:=(hT5.block (w.heap.size+1) (by omega) (by omega)).trans NT.out;have UO:=(hL6.block (by omega:w.heap.size<w5.heap.size)).trans UN;have KG:=(hL6.block (by omega:w.heap.size+1<w5.heap.size)).trans FY;have hS6:=hS5.below hL6.below;have hF6:=hF5.below hL6.below;have hK6:Kq P mb w w6:=(HK4.out.trans (Kq.LA hT5)).trans (Kq.of_below hL6.below);have UQ:Strs w6 (.slice sa aJ.length sc) aJ:=(Co SL.out HS4.out.ways.isMap hT5).later hL6;have HCl:Hid (∀w',Below w6.heap.size w6 w'→Calls Tryz.prog 108 #[.slice sa aJ.length sc] w' fun e w''=>∃v',e=.returned v'∧bsK.own 9 0 w'' v' aJ∧(∀k,v'.ownBlock=some k→w'.heap.size≤k)∧Below w6.heap.size w6 w''∧Below w'.heap.size w' w''):=fun w' h=>
   (FH aJ _ w' (UQ.below h) (by omega)).mono fun e w'' ⟨v',h1,h2,h3,h4⟩=>⟨v',h1,h2,h3,aj h h4 h.size,h4⟩
  have HCe:Hid (∀w',Below w6.heap.size w6 w'→w'.cell? ⟨w.heap.size,0,none⟩=some (.string fn)∧w'.cell? ⟨w.heap.size,1,none⟩=some (.slice sa aJ.length sc)∧w'.cell? ⟨w5.heap.size,0,none⟩=some (.int .i64 rl)):=fun w' h=>by
   have h0:=(h.block _ (by omega)).trans UO;have h1:=(h.block _ (by omega)).trans SN;exact⟨by rw[cell_of_row _ _ _ _ _ _ h0];rfl,by rw[cell_of_row _ _ _ _ _ _ h0];rfl,by rw[cell_of_row _ _ _ _ _ _ h1];rfl⟩
  have HW6:=hide hw6;have HS6:=hide hS6;have HF6:=hide hF6;have HK6:=hide hK6;have UR:=hide KG;have UU:=hide SN;clear hF5 hX5 hT5 hS5 hw6 hL6 SN UN FY UO KG hS6 hF6 hK6 UQ HWy q0 q1' HS4 SL SK NT HK4 hL4
  go_wp2_with (rw[←HW6.out])
  refine wp_region_held_drew (S:=fun w'=>Below w6.heap.size w6 w') (by kernel_rfl) (Below.refl _ _).drew (fun hHeld=> ?_);refine ak (i:=0) (d:=some 43) (v:= ?_) rfl rfl hHeld ?_ ?_;rotate_left;focus intro w hSw;(try dsimp only at hSw);go_simp;try with_reducible rfl
  simp only[aK,aL,aze,asu];refine ak (i:=1) (d:=some 44) (v:= ?_) rfl rfl hHeld ?_ ?_;rotate_left;focus intro w hSw;(try dsimp only at hSw);obtain⟨p0,p1,p2⟩:=HCe.out _ hSw;go_simp;try with_reducible rfl
  simp only[aK,aL,aze,asu];refine ak (i:=2) (d:=some 45) (v:= ?_) rfl rfl hHeld ?_ ?_;rotate_left;focus intro w hSw;(try dsimp only at hSw);go_simp;try with_reducible rfl
  simp only[aK,aL,aze,asu];refine ak (i:=3) (d:=some 46) (v:= ?_) rfl rfl hHeld ?_ ?_;rotate_left;focus intro w hSw;(try dsimp only at hSw);obtain⟨p0,p1,p2⟩:=HCe.out _ hSw;go_simp;try with_reducible rfl
  simp only[aK,aL,aze,asu];refine ak (i:=6) (d:=some 49) (v:= ?_) rfl rfl hHeld ?_ ?_;rotate_left;focus intro w hSw;(try dsimp only at hSw);go_simp;try with_reducible rfl
  simp only[aK,aL,aze,asu];refine ak (i:=7) (d:=some 50) (v:= ?_) rfl rfl hHeld ?_ ?_;rotate_left;focus intro w hSw;(try dsimp only at hSw);obtain⟨p0,p1,p2⟩:=HCe.out _ hSw;go_simp;try with_reducible rfl
  simp only[aK,aL,aze,asu];have hBe:Below w6.heap.size w6 w6.drew:=(Below.refl _ _).drew;refine wpAnyH_ready (rs:=[4,9]) (by kernel_rfl) (by simp) ?_;refine AllReadyH.cons rfl (fun K' hK=> ?ga) (AllReadyH.cons rfl (fun K' hK=> ?gb) AllReadyH.nil)
  case' ga=>
   go_simp;refine(HCl.out _ hBe).mono ?_;rintro e wx ⟨v1,rfl,hO1,hv0,hB1,Nk⟩;have hsl1:=LB hO1 (by omega);obtain⟨xa,xc,rfl⟩:=Kind.slice hsl1;have hv1:∀k,(Value.slice xa aJ.length xc).ownBlock=some k→w6.heap.size≤k:=hv0;have SQ:∀k,(Value.slice xa aJ.length xc).ownBlock=some k→k<wx.heap.size:=fun k e=>by
    obtain⟨ys,ho,_⟩:=hO1;exact(ho.lt k e).2
   refine hK.out _ _ hB1 (fun hHeld=> ?_);clear hK K' hBe hO1 Nk hv0;have hBe:=hB1;clear hB1;refine ak (i:=5) (d:=some 48) (v:= ?_) rfl rfl hHeld ?_ ?_;rotate_left;focus intro w hSw;(try dsimp only at hSw);go_simp;try with_reducible rfl
   simp only[aK,aL,aze,asu];refine ak (i:=8) (d:=some 51) (v:= ?_) rfl rfl hHeld ?_ ?_;rotate_left;focus intro w hSw;(try dsimp only at hSw);go_simp;try with_reducible rfl
   simp only[aK,aL,aze,asu];refine wpAnyH_ready (rs:=[9]) (by kernel_rfl) (by simp) ?_;refine AllReadyH.cons rfl (fun K' hK=> ?_) AllReadyH.nil;go_simp;have hzN:=heap_alloc_new wx (.cells #[.string ⟨#[]⟩,.slice none 0 0,.int .i64 0,.slice none 0 0] 30);have hLz:=(Later.refl wx).alloc (.cells #[.string ⟨#[]⟩,.slice none 0 0,.int .i64 0,.slice none 0 0] 30);have y5:=aj hBe hLz.below hBe.size;have hsl:bsK.sl (kg (.slice xa aJ.length xc)) (wx.alloc (.cells #[.string ⟨#[]⟩,.slice none 0 0,.int .i64 0,.slice none 0 0] 30)) (.slice xa aJ.length xc) aJ:=Kind.aM hsl1 hLz.size fun k hk _=>hLz.block hk;have hbx:w6.heap.size≤wx.heap.size:=hBe.size;have hvx:∀k,(Value.slice xa aJ.length xc).ownBlock=some k→w6.heap.size≤k∧k≠wx.heap.size∧k<(wx.alloc (.cells #[.string ⟨#[]⟩,.slice none 0 0,.int .i64 0,.slice none 0 0] 30)).heap.size:=fun k e=>⟨hv1 k e,by have:=SQ k e;omega,by have:=SQ k e;simp;omega⟩;refine hK.out _ _ y5 (fun hHeld=> ?_);clear hK K' hBe hHeld hv1 SQ hsl1 hLz;generalize wx.heap.size=bx at*;generalize wx.alloc (.cells #[.string ⟨#[]⟩,.slice none 0 0,.int .i64 0,.slice none 0 0] 30)=wf at*;have hBe:=y5;have hHeld:=y5;clear y5
  case' gb=>
   go_simp;have hzN:((w6.alloc (.cells #[.string ⟨#[]⟩,.slice none 0 0,.int .i64 0,.slice none 0 0] 30)).drew).heap[w6.heap.size]?=some (.cells #[.string ⟨#[]⟩,.slice none 0 0,.int .i64 0,.slice none 0 0] 30 (0,0)):=heap_alloc_new w6 _;have y5:Below w6.heap.size w6 ((w6.alloc (.cells #[.string ⟨#[]⟩,.slice none 0 0,.int .i64 0,.slice none 0 0] 30)).drew):=((Later.refl w6).alloc (.cells #[.string ⟨#[]⟩,.slice none 0 0,.int .i64 0,.slice none 0 0] 30)).drew.below;have hbl:w6.heap.size<((w6.alloc (.cells #[.string ⟨#[]⟩,.slice none 0 0,.int .i64 0,.slice none 0 0] 30)).drew).heap.size:=by simp
   obtain⟨bx,P5⟩:∃bx,w6.heap.size=bx:=⟨_,rfl⟩;rw[P5] at hzN hbl;have hbx:w6.heap.size≤bx:=by omega
   refine hK.out _ _ y5 (fun hHeld=> ?_);clear hK K' hBe hHeld;generalize((w6.alloc (.cells #[.string ⟨#[]⟩,.slice none 0 0,.int .i64 0,.slice none 0 0] 30)).drew)=wz at*;have hBe:=y5;have hHeld:=y5;clear y5;refine wpAnyH_ready (rs:=[4]) (by kernel_rfl) (by simp) ?_;refine AllReadyH.cons rfl (fun K' hK=> ?_) AllReadyH.nil;go_simp;refine(HCl.out _ hBe).mono ?_;rintro e wf ⟨v1,rfl,hO1,hv1,hB1,Nk⟩;have hsl:=LB hO1 (by omega);obtain⟨xa,xc,rfl⟩:=Kind.slice hsl;have hvx:∀k,(Value.slice xa aJ.length xc).ownBlock=some k→w6.heap.size≤k∧k≠bx∧k<wf.heap.size:=fun k e=>⟨by have:=hv1 k e;omega,by have:=hv1 k e;omega,by obtain⟨ys,ho,_⟩:=hO1;exact(ho.lt k e).2⟩;have hzN:=(Nk.block _ hbl).trans hzN;refine hK.out _ _ hB1 (fun hHeld=> ?_);clear hK K' hBe Nk hbl P5 hO1 hv1;have hBe:=hB1;clear hB1;refine ak (i:=5) (d:=some 48) (v:= ?_) rfl rfl hHeld ?_ ?_;rotate_left;focus intro w hSw;(try dsimp only at hSw);go_simp;try with_reducible rfl
   simp only[aK,aL,aze,asu];refine ak (i:=8) (d:=some 51) (v:= ?_) rfl rfl hHeld ?_ ?_;rotate_left;focus intro w hSw;(try dsimp only at hSw);go_simp;try with_reducible rfl
   simp only[aK,aL,aze,asu]
  all_goals
   refine wpAnyH_ready (rs:=[10]) (by kernel_rfl) (by simp) ?_;refine AllReadyH.cons rfl (fun K' hK=> ?_) AllReadyH.nil;obtain⟨_,_,⟨t0,t1,t2,t3⟩,hbl⟩:=jH hzN;go_simp;have hT7:=mQ wf bx (.string fn) (.slice xa aJ.length xc) (.int .i64 rl) (.slice none 0 0);have hR7:=iP hzN (.string fn) (.slice xa aJ.length xc) (.int .i64 rl) (.slice none 0 0);have DV:Below w6.heap.size w6 (sw wf bx (.string fn) (.slice xa aJ.length xc) (.int .i64 rl) (.slice none 0 0)):=aj hBe (hT7.below hbx hBe.size) (Nat.le_refl _);have QI:bsK.sl (kg (.slice xa aJ.length xc)) (sw wf bx (.string fn) (.slice xa aJ.length xc) (.int .i64 rl) (.slice none 0 0)) (.slice xa aJ.length xc) aJ:=Kind.aM hsl hT7.size fun k hk e=>hT7.block k hk (hvx k e).2.1;refine hK.out _ _ DV (fun hHeld=> ?_);clear hK K' hHeld;refine wpAnyH_done (by kernel_rfl) ?_ _;obtain⟨w7,hw7⟩:∃w7,w7=sw wf bx (.string fn) (.slice xa aJ.length xc) (.int .i64 rl) (.slice none 0 0):=⟨_,rfl⟩;have UW:=hT7.size;rw[←hw7] at hR7 DV QI UW;unfold sw at hw7;rw[←hw7];obtain⟨M,rfl⟩:∃M,N=M+1:=⟨N-1,by omega⟩;have Lc:bx<w7.heap.size:=by omega
   have WK:=DV.size;obtain⟨v1,UY⟩:∃v1,v1=Value.slice xa aJ.length xc:=⟨_,rfl⟩;rw[←UY] at QI hR7 hvx;have hS7:=(HS6.out.mono (B':=fun k=>(B k∧k≠w.heap.size∧k≠w.heap.size+1)∧k≠bx) fun k hk hb=>⟨hb,by omega⟩).below DV;have WL:=(DV.block (w.heap.size+1) (by omega)).trans UR.out;have UZ:=(DV.block w5.heap.size (by omega)).trans UU.out;have y1:w7.cell? ⟨w5.heap.size,1,none⟩=some (.slice ha of.length hc):=by rw[cell_of_row _ _ _ _ _ _ UZ];rfl
   have HSl:=hide QI;have HR7:=hide hR7;have HVx:Hid (∀k,v1.ownBlock=some k→w6.heap.size≤k∧k≠bx∧k<w7.heap.size):=fun k e=>⟨(hvx k e).1,(hvx k e).2.1,Nat.lt_of_lt_of_le (hvx k e).2.2 UW⟩;have HS7:Hid (PvS (fun k=>((B k∧k≠w.heap.size∧k≠w.heap.size+1)∧k≠bx)∧(Value.slice none 0 0).ownBlock≠some k) wF w7 P mb pv tv av sv (c1:Int) (d1:Int) n5 all how):=hS7.mono fun k _ hb=>⟨hb,by simp[Value.ownBlock]⟩;have HK7:Hid (Kq P mb w6 w7):=Kq.of_below DV;have U0:Hid (∃PG,PG=rV (fun g s=>dh how (M+1) g (dep+1) s) of [] (c1,d1)):=⟨_,rfl⟩;obtain⟨PG,hPG⟩:=U0.out;rw[←hPG] at HPG;have KH:=hide hPG;have WM:n5≤c1:=by have:=HC1.out;omega
   obtain⟨WO,WQ⟩:=hcd;clear QI hR7 hvx hS7 WL UZ hw7 hT7 DV hzN hBe hsl t0 t1 t2 t3 U0 hPG HCl HCe HW6 hHeld UU HS6;go_wp2;clear y1
   go_loopg [55] of.length (fun g i wr=>∃(j:Nat) (done:List iT) (cc dd nn:Nat) (ka:Option Addr) (kn kc:Nat),j+g=of.length∧i=.int .i64 j∧Hid (done.length=j)∧Hid ((FU (M+1)).own 30 w7.heap.size wr (.slice ka kn kc) done)∧Hid (wr.heap[bx]?=some (.cells #[.string fn,v1,.int .i64 rl,.slice ka kn kc] 30 (0,0)))∧Hid (PG=rV (fun g s=>dh how (M+1) g (dep+1) s) (of.drop j) done (cc,dd))∧Hid (PvS (fun k=>((B k∧k≠w.heap.size∧k≠w.heap.size+1)∧k≠bx)∧(Value.slice ka kn kc).ownBlock≠some k) wF wr P mb pv tv av sv (cc:Int) (dd:Int) nn all how)∧nn≤cc∧cc≤400∧dd≤60∧Hid (Kq P mb w6 wr)∧Hid (bsK.sl (kg v1) wr v1 aJ)∧w7.heap.size≤wr.heap.size)
   case atStart=>exact⟨0,[],c1,d1,n5,none,0,0,by omega,rfl,(rfl:_=_),Kind.iW _ _ _ _,HR7.out,(by rw[List.drop_zero];exact KH.out:_=_),HS7,WM,WO,WQ,HK7,HSl,Nat.le_refl _⟩
   case round=>
    clear KH HS7 HR7 HSl HK7;obtain⟨j,done,cc,dd,nn,ka,kn,kc,hj,rfl,HDn,HO,HR,KH,HS,hnn,hcc,hdd,HK,HSl,Ue⟩:=hrel;have NU:=(HK.out.block (w.heap.size+1) (by omega) (by omega) (by omega)).trans UR.out;have U1:=hide NU
    by_cases hlt:j<of.length
    ·have hFr:=HF6.out.kept HK.out.size fun k hk hb=>HK.out.block k hk (HB1.out k hb.1).2 (HB1.out k hb.1).1;have hgA:of.getD j aC∈of:=by
      rw[List.getD_eq_getElem?_getD,List.getElem?_eq_getElem hlt];exact List.getElem_mem hlt
     have hdr:of.drop j=of.getD j aC::of.drop (j+1):=by
      rw[List.drop_eq_getElem_cons hlt,List.getD_eq_getElem?_getD,List.getElem?_eq_getElem hlt]
      rfl
     obtain⟨_,_,_,e0,U2⟩:=hFr;simp only[Value.slice.injEq,true_and] at e0;obtain⟨rfl,rfl⟩:=e0;obtain⟨fb,fo,hfe,_,XA,hfc⟩:=U2 (by intro e;rw[e] at hlt;simp at hlt);subst hfe;obtain⟨f0,gs,f1,hgs,_⟩:=hfc j hlt;obtain⟨ga,gc,rfl⟩:=aW hgs;obtain⟨G,hGe⟩:∃G,G=of.getD j aC:=⟨_,rfl⟩;rw[←hGe] at f0 f1 hgs hgA hdr;obtain⟨gn,gargs⟩:=G;dsimp only at f0 f1 hgs;have hGa:(gn,gargs)∈all:=WJ.out _ hgA;obtain⟨w8,hw8⟩:∃w8,w8=wr.alloc (.cells #[.string gn,.slice ga gargs.length gc] 27):=⟨_,rfl⟩;have hL8:Later wr w8:=by rw[hw8];exact(Later.refl wr).alloc _
     have hR8:w8.heap[wr.heap.size]?=some (.cells #[.string gn,.slice ga gargs.length gc] 27 (0,0)):=by rw[hw8];exact heap_alloc_new wr _
     obtain⟨x0,x1,_,_,_⟩:=jN hR8;have x1':w8.cell? ⟨wr.heap.size,0+1,none⟩=some (.slice ga gargs.length gc):=x1;have XB:=hL8.size;have hown:∀k,(Value.slice ka kn kc).ownBlock=some k→w7.heap.size≤k∧k<wr.heap.size:=fun k e=>by
      obtain⟨ys,ho,_⟩:=HO.out;exact ho.lt k e
     have QJ:=HIh.out (by omega) (fun k=>((B k∧k≠w.heap.size∧k≠w.heap.size+1)∧k≠bx)∧(Value.slice ka kn kc).ownBlock≠some k) (gn,gargs) (.agg #[.string gn,.slice ga gargs.length gc]) (dep+1) cc dd nn w8 (by omega) (fun k hb=>HB1.out k hb.1.1.1) (fun k hk=>⟨⟨⟨HB2.out k (by omega),by omega,by omega⟩,by omega⟩,fun e=>by have:=(hown k e).2;omega⟩) (HS.out.below hL8.below) hnn hcc hdd hGa ⟨_,rfl,hgs.later hL8⟩;rw[show(((dep+1:Nat):Int))=(dep:Int)+1 from rfl] at QJ;obtain⟨PX,hPX⟩:∃PX,PX=dh how (M+1) (gn,gargs) (dep+1) (cc,dd):=⟨_,rfl⟩;rw[←hPX] at QJ;have U3:=hide QJ;have HPX:=hide hPX;have HW8:=hide hw8;have HL8:=hide hL8;have HOw:=hide hown;have HDr:=hide hdr;clear QJ hPX hw8 hR8 hL8 U2 hfc hgs hgA hGa hGe x1 hown hdr
     go_wp2_with (first|(rw[←HW8.out])|fail)
     refine U3.out.mono ?_;rintro e w9 ⟨v9,er9,n9,rfl,hV9,hS9,hn9,hK9⟩;obtain⟨PX1,c9,d9⟩:=PX;dsimp only at hV9 hS9 hn9;have XC:=hK9.size;have KI:Kq P mb wr w9:=(Kq.of_below HL8.out.below).trans hK9;have QK:=(KI.block (w.heap.size+1) (by omega) (by omega) (by omega)).trans U1.out;clear U3 f0 f1 x0 x1' HW8;cases PX1 with
     |none=>
      obtain⟨rfl,rfl⟩:=hV9;have HE:Hid (dh how (M+1+1) (fn,aJ) dep (c,d)=(none,(c9,d9))):=by
       show _=_;rw[HPG.out,KH.out,HDr.out,FC HPX.out.symm]
       rfl
      obtain⟨es,hes⟩:∃es:ByteArray,es=⟨#[]⟩:=⟨_,rfl⟩;rw[show nD=.agg #[.string es,.slice none 0 0,.int .i64 0,.slice none 0 0] by rw[hes];rfl];clear hes;obtain⟨w10,LC⟩:∃w10,w10=w9.alloc (.cells #[.string es,.slice none 0 0,.int .i64 0,.slice none 0 0] 30):=⟨_,rfl⟩;have wV:Later w9 w10:=by rw[LC];exact(Later.refl w9).alloc _
      have KJ:=(wV.block (Array.getElem?_eq_some_iff.1 QK).1).trans QK;have hKw:Kq P mb w w10:=((HK6.out.trans HK.out).trans KI).trans (Kq.of_below wV.below);have HKf:=hide (HFin.out (.string ⟨#[]⟩) (.slice none 0 0) (.int .i64 0) (.slice none 0 0) w10 KJ hKw);have HPf:=hide ((HTu.out _ _ _ _ (.string ⟨#[]⟩) (.slice none 0 0) (.int .i64 0) (.slice none 0 0) w10 (fun k hb=>hb.1.1.2.2) (hS9.below wV.below)).mono (B':=B) fun k _ hb=>hb.1.1.1);have HZ:=hide (jH (iP KJ (.string ⟨#[]⟩) (.slice none 0 0) (.int .i64 0) (.slice none 0 0))).1;obtain⟨_,_,⟨t0,t1,t2,t3⟩,_⟩:=jH KJ;have SS:=hide LC;clear LC wV KJ hKw QK KI hS9 hK9 KH HO HS HIh HPX
      go_wp2_with (rw[←SS.out])
      obtain⟨z0,z1,z2,z3⟩:=HZ.out;unfold sw at z0 z1 z2 z3;refine bodyPost_ret (v:=.tuple #[nD,.int .i64 4]) (by simp[results,Tryz.results60,go_sem,z0,z1,z2,z3];rfl) rfl ⟨nD,4,n9,rfl,?_,?_,?_,HKf.out⟩
      ·rw[HE.out];exact⟨rfl,rfl⟩
      ·rw[HE.out];exact HPf.out
      ·rw[HE.out];exact hn9
     |some x=>
      obtain⟨rfl,s9,k9,rfl,hs9,hk9⟩:=hV9;have hk9:(FU M).sl (From w8.heap.size) w9 k9 x.kids:=hk9;obtain⟨sa9,sc9,rfl⟩:=Kind.slice hs9;obtain⟨ka9,kc9,rfl⟩:=Kind.slice hk9;have hbd:=xG (M+1) (gn,gargs) (dep+1) (cc,dd) x (c9,d9) HPX.out.symm;dsimp only at hbd;have HE:Hid (PG=rV (fun g s=>dh how (M+1) g (dep+1) s) (of.drop (j+1)) (done++[x]) (c9,d9)):=by
       show _=_;rw[KH.out,HDr.out];exact FD HPX.out.symm
      obtain⟨w10,LC⟩:∃w10,w10=w9.alloc (.cells #[.string x.fact.1,.slice sa9 x.fact.2.length sc9,.int .i64 x.rule,.slice ka9 x.kids.length kc9] 30):=⟨_,rfl⟩;have wV:Later w9 w10:=by rw[LC];exact(Later.refl w9).alloc _
      have U4:w10.heap[w9.heap.size]?=some (.cells #[.string x.fact.1,.slice sa9 x.fact.2.length sc9,.int .i64 x.rule,.slice ka9 x.kids.length kc9] 30 (0,0)):=by rw[LC];exact heap_alloc_new w9 _
      have WR:=wV.size;have U5:=(KI.block bx (by omega) (by omega) (by omega)).trans HR.out;have KL:=(wV.block (by omega:bx<w9.heap.size)).trans U5;have KM:Kq P mb w6 w10:=(HK.out.trans KI).trans (Kq.of_below wV.below);have U6:(FU (M+1)).own 30 w7.heap.size w10 (.slice ka kn kc) done:=Kind.j3 (Kind.j3 HO.out KI.size fun k hk hl=>KI.block k hk (by omega) (by omega)) wV.size fun k hk _=>wV.block hk;have xI:∀k,(Value.slice ka kn kc).ownBlock=some k→w7.heap.size≤k∧k<wr.heap.size:=HOw.out;have hcx:(FU (M+1)).is (fun k=>w7.heap.size≤k∧(Value.slice ka kn kc).ownBlock≠some k) w10 [.string x.fact.1,.slice sa9 x.fact.2.length sc9,.int .i64 x.rule,.slice ka9 x.kids.length kc9] x:=by
       have hm:∀k,k<w10.heap.size→From w8.heap.size k→(w7.heap.size≤k∧(Value.slice ka kn kc).ownBlock≠some k):=fun k _ (hb:w8.heap.size≤k)=>⟨by omega,fun e=>by have:=(xI k e).2;omega⟩;exact⟨_,_,rfl,Kind.aH (Kind.aM hs9 wV.size fun k hk _=>wV.block hk) hm,Kind.aH (Kind.aM hk9 wV.size fun k hk _=>wV.block hk) hm⟩
      have hdl:=HDn.out;obtain⟨ti,i1,i2,i3,i4⟩:=FB;obtain⟨v11,w11,hrun,SV,FI,_,U7⟩:=Kind.rZ (P:=Tryz.prog) (t:=28) U6 Tryz.underlying28 i1 i2 i3 i4 rfl (by show 0<4;decide) hcx (by omega) (by simp only[maxLen];omega) (by omega);obtain⟨ka2,kn2,kc2,rfl⟩:∃a n c,v11=.slice a n c:=by
       obtain⟨a,c,e⟩:=Kind.slice (Kind.iV SV (by rw[List.length_append];simp;omega));exact⟨a,_,c,e⟩
      have WS:=FI.size;have WT:(w10.alloc (.cells #[.string x.fact.1,.slice sa9 x.fact.2.length sc9,.int .i64 x.rule,.slice ka9 x.kids.length kc9] 30)).heap.size=w10.heap.size+1:=by simp
      have Ns:w11.heap[bx]?=some (.cells #[.string fn,v1,.int .i64 rl,.slice ka kn kc] 30 (0,0)):=(FI.block bx (by omega) (fun e=>by have:=(xI bx e.symm).1;omega)).trans ((Below.heap_alloc w10 _ bx (by omega)).trans KL);obtain⟨wN,hwN⟩:∃wN,wN=w11.setCell ⟨bx,3,none⟩ (.slice ka2 kn2 kc2):=⟨_,rfl⟩;have hTN:Tn bx w11 wN:=by rw[hwN];exact Tn.setCell (p:=bx) (Tn.refl _ _) (x:=⟨bx,3,none⟩) (Or.inl rfl) _
      have U8:wN.heap[bx]?=some (.cells #[.string fn,v1,.int .i64 rl,.slice ka2 kn2 kc2] 30 (0,0)):=by rw[hwN,eu (j:=3) Ns];rfl
      have XD:=hTN.size;have hPN:PvS (fun k=>((B k∧k≠w.heap.size∧k≠w.heap.size+1)∧k≠bx)∧(Value.slice ka2 kn2 kc2).ownBlock≠some k) wF wN P mb pv tv av sv (c9:Int) (d9:Int) n9 all how:=by
       have hSa:=hS9.below wV.below;have hSb:=hSa.mono (B':=fun k=>(((B k∧k≠w.heap.size∧k≠w.heap.size+1)∧k≠bx)∧(Value.slice ka kn kc).ownBlock≠some k)∧(Value.slice ka2 kn2 kc2).ownBlock≠some k) fun k hk hb=>⟨hb,fun e=>by
        rcases U7 k e with h|h
        ·exact hb.2 h
        ·omega⟩
       have hSc:=hSb.below ((Later.refl w10).alloc (.cells #[.string x.fact.1,.slice sa9 x.fact.2.length sc9,.int .i64 x.rule,.slice ka9 x.kids.length kc9] 30)).below;have hSd:=hSc.turned FI.os FI.tape FI.output FI.size fun k hk h=>FI.block k hk fun e=>by
        have ho:=xI k e.symm;rcases h with h|h|h|h
        ·omega
        ·omega
        ·omega
        ·exact h.1.2 e.symm
       have hSe:=hSd.turned hTN.os hTN.tape hTN.output hTN.size fun k hk h=>hTN.block k hk (by
        rcases h with h|h|h|h
        ·omega
        ·omega
        ·omega
        ·exact h.1.1.2)
       exact hSe.mono fun k _ hb=>⟨hb.1.1,hb.2⟩
      have hKN:Kq P mb w6 wN:=⟨(hTN.os.trans FI.os).trans KM.os,(hTN.tape.trans FI.tape).trans KM.tape,(hTN.output.trans FI.output).trans KM.output,by have:=KM.size;omega,fun k hk h1 h2=>
       ((hTN.block k (by have:=KM.size;omega) (by omega)).trans (FI.block k (by have:=KM.size;omega) (fun e=>by have:=(xI k e.symm).1;omega))).trans ((Below.heap_alloc w10 _ k (by have:=KM.size;omega)).trans (KM.block k hk h1 h2))⟩
      have U9:bsK.sl (kg v1) wN v1 aJ:=Kind.aM HSl.out (by omega) fun k hk e=>by
       have hx:=HVx.out k e;exact((hTN.block k (by omega) hx.2.1).trans (FI.block k (by omega) (fun e'=>by have:=(xI k e'.symm).1;omega))).trans ((Below.heap_alloc w10 _ k (by omega)).trans ((wV.block (by omega)).trans (KI.block k hk (by omega) (by omega))))
      have hON:(FU (M+1)).own 30 w7.heap.size wN (.slice ka2 kn2 kc2) (done++[x]):=Kind.bR SV hTN (by omega);obtain⟨_,⟨_,_,_⟩,_,_⟩:=jH KL;obtain⟨⟨l0,l1,l2,l3⟩,⟨l4,l5,l6⟩,_,_⟩:=jH U4;obtain⟨⟨_,_,_,m3⟩,_,_,_⟩:=jH KL;obtain⟨⟨_,_,_,o3⟩,_,⟨_,_,_,t3⟩,_⟩:=jH Ns;have LM:=hide hrun;have SS:=hide LC;have HWN:=hide hwN;have HON:=hide hON;have HRN:=hide U8;have HPN:=hide hPN;have HKN:=hide hKN;have HSN:=hide U9;have HDN:Hid ((done++[x]).length=j+1):=by show _=_;rw[List.length_append,HDn.out];rfl
      have RV:w7.heap.size≤wN.heap.size:=by omega
      clear hrun LC hwN hON U8 hPN hKN U9 hTN Ns KL U5 FI SV U7 hcx U6 KM wV U4 hs9 hk9 hS9 hK9 KI QK NU xI hdl i1 i2 i3 i4 WT WS KH HO HS HDn HR HSl HK HPX HDr HOw U1
      go_wp2_with (first|(rw[←SS.out])|(rw[←HWN.out])|(at_builtin;refine wpList_append_run rfl (.tmp 72) (.tmp 74) 28 rfl _ _ _ _ rfl rfl LM.out ?_))
      go_roundg (of.length- (j+1))
      case measure=>omega
      case rel=>exact⟨j+1,done++[x],c9,d9,n9,ka2,kn2,kc2,by omega,by go_num,HDN,HON,HRN,HE,HPN,hn9,hbd.1,hbd.2,HKN,HSN,RV⟩
    ·have hj0:j=of.length:=by omega
     have HE:Hid (PG=(some done,(cc,dd))):=by
      show _=_;rw[KH.out,List.drop_eq_nil_of_le (by omega)];unfold rV lQ;simp
     have HE2:Hid (dh how (M+1+1) (fn,aJ) dep (c,d)=(some (iT.mk (fn,aJ) rl done),(cc,dd))):=by
      show _=_;rw[HPG.out,HE.out];rfl
     obtain⟨⟨e0,e1,e2,e3⟩,⟨e4,e5,e6⟩,_,_⟩:=jH HR.out;obtain⟨_,_,⟨t0,t1,t2,t3⟩,_⟩:=jH NU;have hKw:Kq P mb w wr:=HK6.out.trans HK.out;have hT:=mQ wr (w.heap.size+1) (.string fn) v1 (.int .i64 rl) (.slice ka kn kc);have HKf:=hide (HFin.out (.string fn) v1 (.int .i64 rl) (.slice ka kn kc) wr NU hKw);have HPf:=hide ((HTu.out _ _ _ _ (.string fn) v1 (.int .i64 rl) (.slice ka kn kc) wr (fun k hb=>hb.1.1.2.2) HS.out).mono (B':=B) fun k _ hb=>hb.1.1.1);have HZ:=hide (jH (iP NU (.string fn) v1 (.int .i64 rl) (.slice ka kn kc))).1;have HVf:Hid (EX (M+1) (From w.heap.size) (sw wr (w.heap.size+1) (.string fn) v1 (.int .i64 rl) (.slice ka kn kc)) (.agg #[.string fn,v1,.int .i64 rl,.slice ka kn kc]) (iT.mk (fn,aJ) rl done)):=by
      have ho:=Kind.iV (Kind.bR HO.out hT (by omega)) (by have:=HDn.out;omega);refine⟨v1,.slice ka kn kc,rfl,Kind.aH (Kind.aM HSl.out hT.size fun k hk e=>hT.block k hk (by have:=(HVx.out k e).1;omega)) fun k _ e=> ?_,Kind.aH ho fun k _ (hb:w7.heap.size≤k)=> ?_⟩
      ·show w.heap.size≤k;have:=(HVx.out k e).1;omega
      ·show w.heap.size≤k;omega
     clear hj0 KH HE hT hKw NU HO HS HIh;subst UY;go_wp2;obtain⟨z0,z1,z2,z3⟩:=HZ.out;unfold sw at z0 z1 z2 z3;refine bodyPost_ret (v:=.tuple #[.agg #[.string fn,.slice xa aJ.length xc,.int .i64 rl,.slice ka kn kc],.int .i64 0]) (by simp[results,Tryz.results60,go_sem,z0,z1,z2,z3]) rfl ⟨_,0,nn,rfl,?_,?_,?_,HKf.out⟩
     ·rw[HE2.out];exact⟨rfl,HVf.out⟩
     ·rw[HE2.out];exact HPf.out
     ·rw[HE2.out];exact hnn
end Go.Proofs.YtafmbokfkbccaaaGreatDoor
namespace Go.Proofs.YtafmbokfkbccaaaGreatDoor
open Go.RowKit Go.Sort Go.Maps
def iq (p:List aA) (told:List au):List (List au):=(bF p (aG p).1 (countP (aG p).1) 0 told).2
theorem Bt {p:List aA} {all:List au}:∀{ps:List (List au)} {L:List au},Steps (Came p all) L ps→GoodS p (bE L ps)→∀l∈L::ps,GoodS p l
 |[],L,_,hg,l,hl=>by
  simp at hl;subst hl;exact hg
 |M::ps,L,hs,hg,l,hl=>by
  rw[gU] at hg;rcases List.mem_cons.1 hl with rfl|hl
  ·exact hs.1.1
  ·exact Bt hs.2 hg l hl
theorem KN {p:List aA} {all:List au} (h:GoodS p all) (b:List aF):nQ all b=0↔aO b=0:=by
 show pJ b all []=0↔_;unfold pJ;rw[iZ h.up h.right h.few];have e:(bA []).1=0:=rfl
 by_cases hb:aO b=0
 ·rw[if_neg (by simpa using hb),if_neg (by simp),e];simp[hb]
 ·rw[if_pos hb]
theorem uX {g:aA→Option (List au)} {n:Nat}:∀(p:List aA) (i:Nat),(∀r∈p,∀of,g r=some of→of.length≤n)→(jS g i p).2.length≤n
 |[],i,_=>by simp[jS]
 |r::p,i,h=>by
  unfold jS;cases e:g r with
  |none=>exact uX p (i+1) fun q hq=>h q (by simp[hq])
  |some of=>exact h r (by simp) of e
theorem Nt {err:List aF→Int} {all old:List au} {r:aA} {f:au} {of:List au} (h:byP err all old r f=some of):of.length≤r.body.length:=by
 unfold byP at h;cases hm:fK r.head f [] with
 |none=>rw[hm] at h;cases h
 |some b=>
  rw[hm] at h;have:=List.mem_of_find?_eq_some h;obtain⟨l,_,rfl⟩:=List.mem_map.1 this;have:=oz (eH b r.body) l;unfold eH at this;rw[List.length_map] at this;exact this
theorem Ja {p:List aA} {told:List au} (h:jG p told=0):
  cZ p∧GoodS p told∧GoodS p (bE told (iq p told))∧Hf p told=(0,bE told (iq p told))∧PO p told (bE told (iq p told)) (ru (nQ (bE told (iq p told))) p told (bE told (iq p told)) (told::iq p told))∧
  (∀l∈told::iq p told,gW l)∧(told::iq p told).length≤1000000∧(∀f∈bE told (iq p told),inB told f=false→1≤iC (told::iq p told) f∧iC (told::iq p told) f<(told::iq p told).length)∧
  (∀r∈p,r.head.terms.length≤4∧r.body.length≤5∧∀a∈r.body,a.terms.length≤4)∧(∀f∈bE told (iq p told),(∀g∈(ru (nQ (bE told (iq p told))) p told (bE told (iq p told)) (told::iq p told) f).2,g∈bE told (iq p told))∧(ru (nQ (bE told (iq p told))) p told (bE told (iq p told)) (told::iq p told) f).2.length≤1000):=by
 have hall:Hf p told=(0,bE told (iq p told)):=(Fw p told).2 h;obtain⟨hp,hl,τ,hτ,hst,hr⟩:=Iw hall;obtain⟨_,_,hgM,_,_⟩:=Iy hall;have hrun:bF p (p.map fun r=>τ r.head.name) (countP (p.map fun r=>τ r.head.name)) 0 told=(0,iq p told):=by
  have h1:=yV p (p.map fun r=>τ r.head.name) (countP (p.map fun r=>τ r.head.name)) 0 told;rw[hr] at h1;refine Prod.ext h1.1.symm ?_;unfold iq;rw[hst]
 have hsteps:=DL hp hτ _ 0 hl hrun;have IU:∀r∈p,fF (fun _=>bE told (iq p told)) 0 r.body [[]]≠none:=fun r hr'=>DN hp hτ _ 0 hl hrun r hr' (Nat.zero_le _) (by rw[Nat.zero_add];exact lZ (List.mem_map.2 ⟨r,hr',rfl⟩));have Jp:=PU hp (err:=nQ (bE told (iq p told))) (KN hgM) hsteps IU;have hsh:∀r∈p,r.head.terms.length≤4∧r.body.length≤5∧∀a∈r.body,a.terms.length≤4:=fun r hr'=>by
  have hR:=hp.rules r hr';obtain⟨b1,b2⟩:=kr hR.body;exact⟨(dI hR.head).2.1,b1,fun a ha=>(dI (b2 a ha)).2.1⟩
 refine⟨hp,hl,hgM,hall,Jp,fun l hl'=>(Bt hsteps hgM l hl').up,?_,fun f hf hn=> ?_,hsh,fun f hf=>⟨?_,?_⟩⟩
 ·have h1:=CS (p:=p) (ss:=p.map fun r=>τ r.head.name) (countP (p.map fun r=>τ r.head.name)) 0 told;rw[hrun] at h1;have h2:countP (p.map fun r=>τ r.head.name)≤16:=by
   rw[←hst];obtain⟨ss,ex,ea,hse⟩:∃ss ex ea,aG p=(ss,ex,ea):=⟨_,_,_,rfl⟩;have hx:ex=0:=by
    refine Classical.byContradiction fun hne=> ?_;unfold jG at h;rw[hse] at h;dsimp only at h;rw[if_pos hne] at h;exact hne h
   subst hx;rw[hse];obtain⟨_,m,hms,_,hlm,hsm⟩:=kG hse;refine countP_le fun s hs=> ?_;rw[hms] at hs;obtain⟨r,hr',rfl⟩:=List.mem_map.1 hs;have:=uE hlm hsm r hr';have:=hp.few;omega
  have h3:=Nat.mul_le_mul_right 201 h2;dsimp only at h1;simp only[List.length_cons];omega
 ·have hn':f∉told:=fun hc=>by rw[aZ.2 hc] at hn;cases hn
  obtain⟨_,_,_,_,_,_,h5,h6⟩:=CP hsteps hf hn';exact⟨h5,h6⟩
 ·rcases Jp.ok f hf with⟨_,e⟩|⟨i,r,of,_,e,_,hk⟩
  ·rw[e];intro k hk;cases hk
  ·rw[e];exact hk
 ·unfold ru;split
  ·simp
  ·refine uX p 0 fun r hr' of hof=> ?_;have:=Nt hof;have:=(hsh r hr').2.1;omega
theorem DY (w0 wF:World) (P lo mb:Nat) (p:List aA) (told all:List au) (PS:List (List au)) (pv tv av sv:Value) (xs:List Value) (hG:Gq w0 wF P lo mb p told all PS pv tv av sv xs):∀N,I9 all P mb pv tv av sv wF (ru (nQ all) p told all PS) (N+1)
 |0=>xH w0 wF P lo mb p told all PS pv tv av sv xs hG 0 (fun h=>absurd h (by omega))
 |N+1=>xH w0 wF P lo mb p told all PS pv tv av sv xs hG (N+1) fun _=>DY w0 wF P lo mb p told all PS pv tv av sv xs hG N
end Go.Proofs.YtafmbokfkbccaaaGreatDoor
namespace Go.Proofs.YtafmbokfkbccaaaGreatDoor
open Go.RowKit Go.Sort Go.Maps
def fq (p:List aA) (told:List au) (f:au):Int×Option iT:=
 if jG p told≠0 then(jG p told,none) else if fA f≠0 then(fA f,none) else if inB (bE told (iq p told)) f=false then(6,none)
 else match(dh (ru (nQ (bE told (iq p told))) p told (bE told (iq p told)) (told::iq p told)) 61 f 1 (0,0)).1 with
  |none=>(4,none)
  |some x=>(0,some x)
def Qd (lo:Nat) (w:World) (v:Value):Option iT→Prop
 |none=>v=nD
 |some x=>EX 60 (From lo) w v x
set_option maxRecDepth 100000 in
set_option maxHeartbeats 8000000 in
theorem Qe (p:List aA) (told:List au) (f:au) (pv tv fv:Value) (w:World) (hpv:dU.sl bZ w pv p) (ht:Facts w tv told) (hf:dF w fv f):
  Calls Tryz.prog 18 #[pv,tv,fv] w fun e w'=>∃v,e=.returned (.tuple #[v,.int .i64 (fq p told f).1])∧Qd w.heap.size w' v (fq p told f).2∧Below w.heap.size w w':=by
 obtain⟨s,rfl,hs⟩:=hf;obtain⟨sa,sc,rfl⟩:=aW hs;obtain⟨pa,pc,rfl⟩:=Kind.slice hpv;obtain⟨ta,tc,rfl⟩:=aB ht;obtain⟨w1,hw1⟩:∃w1,w1=(((w.alloc (.cells #[.string f.1,.slice sa f.2.length sc] 27)).alloc (.cells #[.string ⟨#[]⟩,.slice none 0 0,.int .i64 0,.slice none 0 0] 30)).alloc (.map #[] 0)).alloc (.cells #[.slice pa p.length pc,.slice ta told.length tc,.slice none 0 0,.int .i64 0,.int .i64 0,.slice none 0 0,.map (some (w.heap.size+2))] 115):=⟨_,rfl⟩;have hL1:Later w w1:=by rw[hw1];exact((((Later.refl w).alloc _).alloc _).alloc _).alloc _
 have hs1:w1.heap.size=w.heap.size+4:=by rw[hw1];simp
 have hr0:w1.heap[w.heap.size]?=some (.cells #[.string f.1,.slice sa f.2.length sc] 27 (0,0)):=by
  rw[hw1];simp only[iB,World.size_alloc]
  repeat (first|rw[if_pos trivial]|rw[if_pos (by omega)]|rw[if_neg (by omega)])
 have hr1:w1.heap[w.heap.size+1]?=some (.cells #[.string ⟨#[]⟩,.slice none 0 0,.int .i64 0,.slice none 0 0] 30 (0,0)):=by
  rw[hw1];simp only[iB,World.size_alloc]
  repeat (first|rw[if_pos trivial]|rw[if_pos (by omega)]|rw[if_neg (by omega)])
 have hr2:w1.heap[w.heap.size+2]?=some (.map #[] 0):=by
  rw[hw1];simp only[iB,World.size_alloc]
  repeat (first|rw[if_pos trivial]|rw[if_pos (by omega)]|rw[if_neg (by omega)])
 have hr3:w1.heap[w.heap.size+3]?=some (.cells #[.slice pa p.length pc,.slice ta told.length tc,.slice none 0 0,.int .i64 0,.int .i64 0,.slice none 0 0,.map (some (w.heap.size+2))] 115 (0,0)):=by
  rw[hw1];simp only[iB,World.size_alloc]
  repeat (first|rw[if_pos trivial]|rw[if_pos (by omega)]|rw[if_neg (by omega)])
 have HFo:=hide (Nj p told (w.heap.size+3) (w.heap.size+2) (.slice pa p.length pc) (.slice ta told.length tc) w w1 ⟨hr3⟩ hL1.below (by omega) hpv ht);obtain⟨PP,hPP⟩:∃PP,PP=fq p told f:=⟨_,rfl⟩;rw[←hPP];unfold fq at hPP;have HPP:=hide hPP;have HW1:=hide hw1;have HL1:=hide hL1;have HR0:=hide hr0;have HR1:=hide hr1;have HR2:=hide hr2;have HR3:=hide hr3;have HPv:=hide hpv;have HTv:=hide ht;have HSt:=hide hs;have hsz1:w.heap.size+4≤w1.heap.size:=by omega
 have HS1:=hide hs1;have HBx:Hid (∀(x0 x1 x2 x3:Value) (wr:World),Below w.heap.size w wr→Below w.heap.size w (sw wr (w.heap.size+1) x0 x1 x2 x3)):=fun x0 x1 x2 x3 wr h=>
  aj h ((mQ wr (w.heap.size+1) x0 x1 x2 x3).below (n:=w.heap.size) (by omega) h.size) (Nat.le_refl _)
 clear hw1 hPP hL1 hr0 hr1 hr2 hr3 hpv ht hs hs1;obtain⟨fn,aJ⟩:=f;dsimp only at*;have hmm:= @run_makeMap Tryz.prog
 go_enter Tryz.func18,Tryz.ntmps18
 go_wp2_with (first|(rw[←HW1.out])|fail)
 clear hmm;refine HFo.out.mono ?_;rintro e w2 ⟨rfl,hS2,hK2⟩;have hsz2:=hK2.size;have hBw2:Below w.heap.size w w2:=aj HL1.out.below (hK2.below (n:=w1.heap.size-1) (by have:=HS1.out;omega) (by have:=HS1.out;omega)) (by omega);have Va:=(hK2.block w.heap.size (by omega) (by omega)).trans HR0.out;have Qf:=(hK2.block (w.heap.size+1) (by omega) (by omega)).trans HR1.out;have Vb:=(hK2.block (w.heap.size+2) (by omega) (by omega)).trans HR2.out;have SX:=hide Va;have Rw:=hide Qf;have WU:=hide Vb;have HB2:=hide hBw2;have HK2:=hide hK2;have HS2:=hide hS2;obtain⟨FE,hFE⟩:∃FE,FE=jG p told:=⟨_,rfl⟩;rw[←hFE];rw[←hFE] at HPP HS2;have HFE:=hide hFE;clear hFE Va Vb hBw2 hK2 hS2 HFo
 by_cases h0:FE=0
 ·subst h0;obtain⟨g1,g2,g3,g4,g5,g6,g7,g8,g9,g10⟩:=Ja HFE.out.symm;obtain⟨av,sv,xs,k1,k2,k3,k4,k5⟩:=(HS2.out rfl).has;rw[show(bF p (aG p).1 (countP (aG p).1) 0 told).2=iq p told from rfl] at k3 k4 k5;obtain⟨PS,hPS⟩:∃PS,PS=told::iq p told:=⟨_,rfl⟩;obtain⟨all,hal⟩:∃all,all=bE told (iq p told):=⟨_,rfl⟩;have QL:=HPP.out;rw[if_neg (by simp)] at QL;rw[←hPS,←hal] at g5 g8 g10 QL;rw[←hal] at g3 k3;rw[←hPS] at g6 g7 k4 k5;have Qg:=hide QL;have Vd:dF w2 (.agg #[.string fn,.slice sa aJ.length sc]) (fn,aJ):=⟨_,rfl,HSt.out.below HB2.out⟩;have HWr:=hide (wrong (.agg #[.string fn,.slice sa aJ.length sc]) (fn,aJ) w2 Vd);obtain⟨q0,q1,_,_,_⟩:=jN SX.out;have q1':w2.cell? ⟨w.heap.size,0+1,none⟩=some (.slice sa aJ.length sc):=q1;obtain⟨WF,hWF⟩:∃WF,WF=fA (fn,aJ):=⟨_,rfl⟩;rw[←hWF] at HWr Qg;have HK1:=hide k1;have Ve:=hide k2;have HK3:=hide k3;have HK4:=hide k4;have HK5:=hide k5;have hav:∃a n c,av=.slice a n c:=by obtain⟨a,c,e⟩:=aB k3;exact⟨a,_,c,e⟩
  obtain⟨aa,an,ac,rfl⟩:=hav;have HGr:Hid (Grd w (w.heap.size+3) p told all PS (.slice pa p.length pc) (.slice ta told.length tc)):=⟨by omega,HPv.out,HTv.out,g2.up,g3.up,g6,g7,g8,g9,g1.few,g3.few⟩;have HCl:Hid (∀f∈all,(∀g∈(ru (nQ all) p told all PS f).2,g∈all)∧(ru (nQ all) p told all PS f).2.length≤1000):=g10;have HAg:Hid (∀f∈all,f.2.length≤1000):=fun f hf=>by have:=(g3.right f hf).2.1;omega
  have hup:=g3.up;have HUp:=hide hup;have p2:=k1.cells.2.2.1;clear g1 g2 g3 g4 g5 g6 g7 g8 g9 g10 k1 k2 k3 k4 k5 QL HPP HS2 hWF hPS hal Vd q1 hup HFE p2
  go_wp2_with fail
  refine HWr.out.mono ?_;rintro e w3 ⟨rfl,hL3⟩;have hB3:=aj HB2.out hL3.below HB2.out.size;have TW:=hL3.size;have DW:=(hL3.block (by omega:w.heap.size+1<w2.heap.size)).trans Rw.out;have HL3:=hide hL3;have HB3:=hide hB3;have SE:=hide DW;clear HWr q0 q1' hL3 hB3 Qf
  by_cases h1:WF=0
  ·subst h1;have SY:=Qg.out;rw[if_neg (by simp)] at SY;have QM:=hide SY;have Qb:=(HL3.out.block (by omega:w.heap.size<w2.heap.size)).trans SX.out;obtain⟨q0,q1,_,_,_⟩:=jN Qb;have q1':w3.cell? ⟨w.heap.size,0+1,none⟩=some (.slice sa aJ.length sc):=q1;have Vf:=HK1.out.below HL3.out.below;have p2:=Vf.cells.2.2.1;have hin:=inC (.slice aa an ac) (.agg #[.string fn,.slice sa aJ.length sc]) all (fn,aJ) w3 (HK3.out.later HL3.out) ⟨_,rfl,HSt.out.below HB3.out⟩ HUp.out;rw[vC] at hin;have HIn:=hide hin;clear SY Qg Qb q1 Vf hin DW
   go_wp2_with fail
   refine HIn.out.mono ?_;rintro e w4 ⟨rfl,hL4⟩;have hB4:=aj HB3.out hL4.below HB3.out.size;have Pj:=hL4.size;have Jr:=(hL4.block (by omega:w.heap.size+1<w3.heap.size)).trans SE.out;cases hib:inB all (fn,aJ) with
   |false=>
    have HX:Hid (PP=(6,none)):=by show _=_;rw[QM.out,if_pos hib]
    have HZ:=hide (jH (iP Jr (.string ⟨#[]⟩) (.slice none 0 0) (.int .i64 0) (.slice none 0 0))).1;have HBf:=hide (HBx.out (.string ⟨#[]⟩) (.slice none 0 0) (.int .i64 0) (.slice none 0 0) w4 hB4);obtain⟨_,_,⟨t0,t1,t2,t3⟩,_⟩:=jH Jr;clear QM Jr hib HIn q0 q1' p2 hL4 hB4;go_wp2;obtain⟨z0,z1,z2,z3⟩:=HZ.out;unfold sw at z0 z1 z2 z3;refine bodyPost_ret (v:=.tuple #[nD,.int .i64 6]) (by simp[results,Tryz.results18,go_sem,z0,z1,z2,z3];rfl) rfl ⟨nD,?_,?_,HBf.out⟩
    ·rw[HX.out]
    ·rw[HX.out];exact rfl
   |true=>
    have QN:=QM.out;rw[if_neg (by rw[hib];simp)] at QN;have Nu:=HL3.out.trans hL4;have S9:=HK1.out.below Nu.below;have Ta:w4.heap[w.heap.size+2]?=some (.map #[] 0):=(Nu.block (by omega)).trans WU.out;have hGp:Gp w4 (w.heap.size+3) w1.heap.size (w.heap.size+2) (.slice aa an ac) sv xs all PS:=by
     refine⟨?_,HK3.out.later Nu,HK4.out,fun i u l hu hl=>(HK5.out i u l hu hl).later Nu,S9.xE ⟨_,_,_,rfl⟩ ⟨_,_,_,rfl⟩ ⟨_,_,_,rfl⟩ Ve.out.oD,⟨_,_,Ta⟩,by omega,by omega,by omega,by omega⟩;rcases Ve.out with e|h
     ·exact Or.inl e
     ·exact Or.inr (h.block fun i hi _=>Nu.block hi)
    have hGq:Gq w w4 (w.heap.size+3) w1.heap.size (w.heap.size+2) p told all PS (.slice pa p.length pc) (.slice ta told.length tc) (.slice aa an ac) sv xs:=⟨hGp,HGr.out,by omega,hB4,HCl.out,HAg.out,⟨_,_,_,rfl⟩,⟨_,_,_,rfl⟩⟩;have hPv:PvS (fun k=>k≠w.heap.size+2∧k≠w.heap.size+3) w4 w4 (w.heap.size+3) (w.heap.size+2) (.slice pa p.length pc) (.slice ta told.length tc) (.slice aa an ac) sv ((0:Nat):Int) ((0:Nat):Int) 0 all (ru (nQ all) p told all PS):=by
     refine⟨S9,Kq.refl _ _ _,⟨.map [],?_,fun k h=>by simp[Maps.has] at h⟩⟩;have hw:((w.alloc (.cells #[] 0)).alloc (.cells #[] 0)).heap.size=w.heap.size+2:=by simp
     have hmd:=World.ownsMap_made (P:=Tryz.prog) ((w.alloc (.cells #[] 0)).alloc (.cells #[] 0)) 3 uW;rw[hw] at hmd;refine eP hmd ?_;rw[Ta];have:=heap_alloc_new ((w.alloc (.cells #[] 0)).alloc (.cells #[] 0)) (.map #[] 0);rw[hw] at this;exact this.symm
    have hPr:=DY w w4 (w.heap.size+3) w1.heap.size (w.heap.size+2) p told all PS _ _ _ sv xs hGq 60 (fun k=>k≠w.heap.size+2∧k≠w.heap.size+3) (fn,aJ) (.agg #[.string fn,.slice sa aJ.length sc]) 1 0 0 0 w4 rfl (fun k h=>h) (fun k hk=>⟨by omega,by omega⟩) hPv (Nat.le_refl _) (by omega) (by omega) (aZ.1 hib) ⟨_,rfl,HSt.out.below hB4⟩;rw[show(((1:Nat):Int))=1 from rfl] at hPr;obtain⟨PX,hPX⟩:∃PX,PX=dh (ru (nQ all) p told all PS) (60+1) (fn,aJ) 1 (0,0):=⟨_,rfl⟩;rw[←hPX] at hPr;rw[show(61:Nat)=60+1 from rfl,←hPX] at QN;have HPr:=hide hPr;have QO:=hide QN;have Qc:=(Nu.block (by omega:w.heap.size<w2.heap.size)).trans SX.out;obtain⟨y0,y1,_,_,_⟩:=jN Qc;have y1':w4.cell? ⟨w.heap.size,0+1,none⟩=some (.slice sa aJ.length sc):=y1;have HB4:=hide hB4;have NT:=hide Jr;clear QN QM S9 Ta hGp hGq hPv hPr hPX hib HIn q0 q1' p2 hL4 hB4 Nu Qc y1 Jr
    go_wp2_with fail
    refine HPr.out.mono ?_;rintro e w5 ⟨v5,er5,n5,rfl,hV5,_,_,hK5⟩;have hsz5:=hK5.size;have hB5:Below w.heap.size w w5:=aj HB4.out (hK5.below (n:=w.heap.size) (by omega) (by omega) (by omega)) (Nat.le_refl _);have FY:=(hK5.block (w.heap.size+1) (by omega) (by omega) (by omega)).trans NT.out;obtain⟨PX1,PX2⟩:=PX;dsimp only at hV5;obtain⟨_,_,⟨t0,t1,t2,t3⟩,_⟩:=jH FY;cases PX1 with
    |none=>
     obtain⟨rfl,rfl⟩:=hV5;have HX:Hid (PP=(4,none)):=QO.out;have HZ:=hide (jH (iP FY (.string ⟨#[]⟩) (.slice none 0 0) (.int .i64 0) (.slice none 0 0))).1;have HBf:=hide (HBx.out (.string ⟨#[]⟩) (.slice none 0 0) (.int .i64 0) (.slice none 0 0) w5 hB5);rw[show nD=.agg #[.string ⟨#[]⟩,.slice none 0 0,.int .i64 0,.slice none 0 0] from rfl];clear QO FY hB5 hK5 HPr y0 y1';go_wp2;obtain⟨z0,z1,z2,z3⟩:=HZ.out;unfold sw at z0 z1 z2 z3;refine bodyPost_ret (v:=.tuple #[nD,.int .i64 4]) (by simp[results,Tryz.results18,go_sem,z0,z1,z2,z3];rfl) rfl ⟨nD,?_,?_,HBf.out⟩
     ·rw[HX.out]
     ·rw[HX.out];exact rfl
    |some x=>
     obtain⟨rfl,s9,k9,rfl,hs9,hk9⟩:=hV5;have hk9:(FU 60).sl (From w4.heap.size) w5 k9 x.kids:=hk9;obtain⟨sa9,sc9,rfl⟩:=Kind.slice hs9;obtain⟨ka9,kc9,rfl⟩:=Kind.slice hk9;have HX:Hid (PP=(0,some x)):=QO.out;have hT:=mQ w5 (w.heap.size+1) (.string x.fact.1) (.slice sa9 x.fact.2.length sc9) (.int .i64 x.rule) (.slice ka9 x.kids.length kc9);have HZ:=hide (jH (iP FY (.string x.fact.1) (.slice sa9 x.fact.2.length sc9) (.int .i64 x.rule) (.slice ka9 x.kids.length kc9))).1;have HBf:=hide (HBx.out (.string x.fact.1) (.slice sa9 x.fact.2.length sc9) (.int .i64 x.rule) (.slice ka9 x.kids.length kc9) w5 hB5);have HVf:Hid (EX 60 (From w.heap.size) (sw w5 (w.heap.size+1) (.string x.fact.1) (.slice sa9 x.fact.2.length sc9) (.int .i64 x.rule) (.slice ka9 x.kids.length kc9)) (.agg #[.string x.fact.1,.slice sa9 x.fact.2.length sc9,.int .i64 x.rule,.slice ka9 x.kids.length kc9]) x):=
      ⟨_,_,rfl,Kind.aH (Kind.aM hs9 hT.size fun k hk (hb:w4.heap.size≤k)=>hT.block k hk (by omega)) fun k _ (hb:w4.heap.size≤k)=>(by show w.heap.size≤k;omega),Kind.aH (Kind.aM hk9 hT.size fun k hk (hb:w4.heap.size≤k)=>hT.block k hk (by omega)) fun k _ (hb:w4.heap.size≤k)=>(by show w.heap.size≤k;omega)⟩
     clear QO FY hB5 hK5 HPr y0 y1' hT hs9 hk9;go_wp2;obtain⟨z0,z1,z2,z3⟩:=HZ.out;unfold sw at z0 z1 z2 z3;refine bodyPost_ret (v:=.tuple #[.agg #[.string x.fact.1,.slice sa9 x.fact.2.length sc9,.int .i64 x.rule,.slice ka9 x.kids.length kc9],.int .i64 0]) (by simp[results,Tryz.results18,go_sem,z0,z1,z2,z3]) rfl ⟨.agg #[.string x.fact.1,.slice sa9 x.fact.2.length sc9,.int .i64 x.rule,.slice ka9 x.kids.length kc9],?_,?_,HBf.out⟩
     ·rw[HX.out]
     ·rw[HX.out];exact HVf.out
  ·have hne:(WF != 0)=true:=by simpa using h1
   have HX:Hid (PP=(WF,none)):=by show _=_;rw[Qg.out,if_pos h1]
   have HZ:=hide (jH (iP DW (.string ⟨#[]⟩) (.slice none 0 0) (.int .i64 0) (.slice none 0 0))).1;have HBf:=hide (HBx.out (.string ⟨#[]⟩) (.slice none 0 0) (.int .i64 0) (.slice none 0 0) w3 HB3.out);obtain⟨_,_,⟨t0,t1,t2,t3⟩,_⟩:=jH DW;clear h1 Qg DW;go_wp2;obtain⟨z0,z1,z2,z3⟩:=HZ.out;unfold sw at z0 z1 z2 z3;refine bodyPost_ret (v:=.tuple #[nD,.int .i64 WF]) (by simp[results,Tryz.results18,go_sem,z0,z1,z2,z3];rfl) rfl ⟨nD,?_,?_,HBf.out⟩
   ·rw[HX.out]
   ·rw[HX.out];exact rfl
 ·have hne:(FE != 0)=true:=by simpa using h0
  have HX:Hid (PP=(FE,none)):=by show _=_;rw[HPP.out,if_pos h0]
  have HZ:=hide (jH (iP Qf (.string ⟨#[]⟩) (.slice none 0 0) (.int .i64 0) (.slice none 0 0))).1;have HBf:=hide (HBx.out (.string ⟨#[]⟩) (.slice none 0 0) (.int .i64 0) (.slice none 0 0) w2 HB2.out);obtain⟨_,_,⟨t0,t1,t2,t3⟩,_⟩:=jH Qf;clear h0 HPP Qf HS2;go_wp2;obtain⟨z0,z1,z2,z3⟩:=HZ.out;unfold sw at z0 z1 z2 z3;refine bodyPost_ret (v:=.tuple #[nD,.int .i64 FE]) (by simp[results,Tryz.results18,go_sem,z0,z1,z2,z3];rfl) rfl ⟨nD,?_,?_,HBf.out⟩
  ·rw[HX.out]
  ·rw[HX.out];exact rfl
end Go.Proofs.YtafmbokfkbccaaaGreatDoor
namespace Go.Proofs.YtafmbokfkbccaaaGreatDoor
open Go.RowKit Go.Sort
theorem uY {p:List aA} {t:List au} {f:au}:((fq p t f).2=none→(fq p t f).1≠0)∧(∀x,(fq p t f).2=some x→(fq p t f).1=0):=by
 unfold fq;split
 ·exact⟨fun _=> ‹_›,fun x h=>by simp at h⟩
 ·split
  ·exact⟨fun _=> ‹_›,fun x h=>by simp at h⟩
  ·split
   ·exact⟨fun _=>by simp,fun x h=>by simp at h⟩
   ·split
    ·exact⟨fun _=>by simp,fun x h=>by simp at h⟩
    ·exact⟨fun h=>by simp at h,fun x _=>rfl⟩
def Vg (lo X:Nat) (w:World) (v:Value):Option iT→Prop
 |none=>True
 |some x=>EX 60 (fun k=>lo≤k∧k≠X) w v x
theorem Qd.four {lo:Nat} {w:World} {v:Value} {o:Option iT} (h:Qd lo w v o):∃pn pa pl pc pr qa ql qc,v=.agg #[.string pn,.slice pa pl pc,.int .i64 pr,.slice qa ql qc]:=by
 cases o with
 |none=>exact⟨_,_,_,_,_,_,_,_,h⟩
 |some x=>
  obtain⟨s,kv,rfl,h1,h2⟩:=h;obtain⟨a,c,rfl⟩:=Kind.slice h1;obtain⟨a',c',rfl⟩:=Kind.slice h2;exact⟨_,_,_,_,_,_,_,_,rfl⟩
set_option maxRecDepth 100000 in
set_option maxHeartbeats 4000000 in
theorem Nv (p:Nat) (B:Nat→Prop) (d:dD) (f:au) (fv tv rv kv nv sv:Value) (w:World) (hD:fH p B w d tv rv kv nv sv) (hB:¬B p) (hf:dF w fv f):
  Calls Tryz.prog 138 #[.pointer (some ⟨p,0,none⟩),fv] w fun e w'=>∃v,e=.returned v∧bW p B w w' v (d,kQ fq d f):=by
 have hp:=hD.lt;obtain⟨fs,rfl,hfs⟩:=hf;obtain⟨fa,fc,rfl⟩:=aW hfs;obtain⟨w1,hw1⟩:∃w1,w1=w.alloc (.cells #[.string f.1,.slice fa f.2.length fc] 27):=⟨_,rfl⟩;obtain⟨w2,hw2⟩:∃w2,w2=w1.alloc (.cells #[.int .i64 0,.int .i64 0,.int .i64 0,.slice none 0 0,.string ⟨#[]⟩,.slice none 0 0,.int .i64 0,.slice none 0 0] 64):=⟨_,rfl⟩;have hz1:w1.heap.size=w.heap.size+1:=by rw[hw1];simp
 have hz2:w2.heap.size=w.heap.size+2:=by rw[hw2];simp;omega
 have hL1:Later w w1:=by rw[hw1];exact(Later.refl w).alloc _
 have Dy:Later w1 w2:=by rw[hw2];exact(Later.refl w1).alloc _
 have hL2:Later w w2:=hL1.trans Dy;have hr2:w2.heap[w.heap.size+1]?=some (.cells #[.int .i64 0,.int .i64 0,.int .i64 0,.slice none 0 0,.string ⟨#[]⟩,.slice none 0 0,.int .i64 0,.slice none 0 0] 64 (0,0)):=by rw[hw2,←hz1];exact Ic w1
 have hb2:w2.heap[w.heap.size]?=some (.cells #[.string f.1,.slice fa f.2.length fc] 27 (0,0)):=(Dy.block (by omega)).trans (by rw[hw1];exact heap_alloc_new w _);have hD2:=hD.below hL2.below;have hf2:dF w2 (.agg #[.string f.1,.slice fa f.2.length fc]) f:=⟨_,rfl,hfs.later hL2⟩;obtain⟨⟨ta,tc,rfl⟩,⟨ra,rc,rfl⟩,⟨xka,xkc,rfl⟩,⟨xna,xnc,rfl⟩,⟨xsa,xsc,rfl⟩⟩:=hD.slices;have HC:Hid (∀w',Later w2 w'→Calls Tryz.prog 18 #[.slice ra d.rules.length rc,.slice ta d.told.length tc,.agg #[.string f.1,.slice fa f.2.length fc]] w' fun e w''=>∃v,e=.returned (.tuple #[v,.int .i64 (fq d.rules d.told f).1])∧Qd w'.heap.size w'' v (fq d.rules d.told f).2∧Below w'.heap.size w' w''):=fun w' h=>
  Qe d.rules d.told f _ _ _ w' (Kind.aQ (Kind.dz hD2.rules) h) (hD2.told.facts.later h) (hf2.later h)
 have HPn:Hid ((fq d.rules d.told f).2=none→kQ fq d f=nA (fq d.rules d.told f).1):=fun h=>by unfold kQ;rw[h]
 have HPs:Hid (∀x,(fq d.rules d.told f).2=some x→kQ fq d f=⟨0,0,0,[],x⟩):=fun x h=>by unfold kQ;rw[h]
 have HPe:Hid ((fq d.rules d.told f).2=none→(fq d.rules d.told f).1≠0):=uY.1;have HPz:Hid (∀x,(fq d.rules d.told f).2=some x→(fq d.rules d.told f).1=0):=uY.2;have HSp:Hid (∀w':World,(w'.heap[p]?=w2.heap[p]?∧w'.heap[w.heap.size]?=w2.heap[w.heap.size]?)→(w'.heap[p]?=some (.cells #[.slice ta d.told.length tc,.slice ra d.rules.length rc,.bool d.running,.slice xka d.run.known.length xkc,.slice xna d.run.fresh.length xnc,.int .i64 d.run.level,.int .i64 d.run.rounds,.bool d.run.done,.slice xsa d.saved.length xsc] 140 (0,0))∧w'.heap[w.heap.size]?=some (.cells #[.string f.1,.slice fa f.2.length fc] 27 (0,0)))):=fun w' h=>⟨h.1.trans hD2.row,h.2.trans hb2⟩;have HW1:=hide hw1;have HW2:=hide hw2;have HL2:=hide hL2;have HR:=hide hr2;have HD:=hide hD;have HB:=hide hB;clear hw1 hw2 hL1 Dy hL2 hr2 hb2 hD hB hD2 hf2 hfs;obtain⟨er,ox,hpp⟩:∃er ox,fq d.rules d.told f=(er,ox):=⟨_,_,rfl⟩;rw[hpp] at HC HPn HPs HPe HPz;clear hpp;dsimp only at HC HPn HPs HPe HPz
 go_enter Tryz.func138,Tryz.ntmps138
 go_wp2_with (first|(rw[←HW1.out])|(rw[←HW2.out])|fail)
 clear HW1 HW2;refine wp_region_held_drew (S:=fun w'=>w'.heap[p]?=w2.heap[p]?∧w'.heap[w.heap.size]?=w2.heap[w.heap.size]?) (by kernel_rfl) ⟨rfl,rfl⟩ (fun hHeld=> ?_);refine ak (i:=0) (d:=some 8) (v:= ?_) rfl rfl hHeld ?_ ?_;rotate_left;focus intro w hSw;(try dsimp only at hSw);obtain⟨s1,s2⟩:=HSp.out _ hSw;obtain⟨⟨c0,c1,c2,c3,c4,c5,c6,c7,c8⟩,_,_⟩:=jd s1;obtain⟨b0,b1,_,_,_⟩:=jN s2;have b1':w.cell? ⟨_,0+1,none⟩=some (.slice fa f.2.length fc):=b1;go_simp;try with_reducible rfl
 simp only[aK,aL,aze,asu];refine ak (i:=1) (d:=some 9) (v:= ?_) rfl rfl hHeld ?_ ?_;rotate_left;focus intro w hSw;(try dsimp only at hSw);obtain⟨s1,s2⟩:=HSp.out _ hSw;obtain⟨⟨c0,c1,c2,c3,c4,c5,c6,c7,c8⟩,_,_⟩:=jd s1;obtain⟨b0,b1,_,_,_⟩:=jN s2;have b1':w.cell? ⟨_,0+1,none⟩=some (.slice fa f.2.length fc):=b1;go_simp;try with_reducible rfl
 simp only[aK,aL,aze,asu];refine ak (i:=2) (d:=some 10) (v:= ?_) rfl rfl hHeld ?_ ?_;rotate_left;focus intro w hSw;(try dsimp only at hSw);obtain⟨s1,s2⟩:=HSp.out _ hSw;obtain⟨⟨c0,c1,c2,c3,c4,c5,c6,c7,c8⟩,_,_⟩:=jd s1;obtain⟨b0,b1,_,_,_⟩:=jN s2;have b1':w.cell? ⟨_,0+1,none⟩=some (.slice fa f.2.length fc):=b1;go_simp;try with_reducible rfl
 simp only[aK,aL,aze,asu];refine ak (i:=3) (d:=some 11) (v:= ?_) rfl rfl hHeld ?_ ?_;rotate_left;focus intro w hSw;(try dsimp only at hSw);obtain⟨s1,s2⟩:=HSp.out _ hSw;obtain⟨⟨c0,c1,c2,c3,c4,c5,c6,c7,c8⟩,_,_⟩:=jd s1;obtain⟨b0,b1,_,_,_⟩:=jN s2;have b1':w.cell? ⟨_,0+1,none⟩=some (.slice fa f.2.length fc):=b1;go_simp;try with_reducible rfl
 simp only[aK,aL,aze,asu];refine ak (i:=4) (d:=some 12) (v:= ?_) rfl rfl hHeld ?_ ?_;rotate_left;focus intro w hSw;(try dsimp only at hSw);obtain⟨s1,s2⟩:=HSp.out _ hSw;obtain⟨⟨c0,c1,c2,c3,c4,c5,c6,c7,c8⟩,_,_⟩:=jd s1;obtain⟨b0,b1,_,_,_⟩:=jN s2;have b1':w.cell? ⟨_,0+1,none⟩=some (.slice fa f.2.length fc):=b1;go_simp;try with_reducible rfl
 simp only[aK,aL,aze,asu];refine ak (i:=5) (d:=some 13) (v:= ?_) rfl rfl hHeld ?_ ?_;rotate_left;focus intro w hSw;(try dsimp only at hSw);obtain⟨s1,s2⟩:=HSp.out _ hSw;obtain⟨⟨c0,c1,c2,c3,c4,c5,c6,c7,c8⟩,_,_⟩:=jd s1;obtain⟨b0,b1,_,_,_⟩:=jN s2;have b1':w.cell? ⟨_,0+1,none⟩=some (.slice fa f.2.length fc):=b1;go_simp;try with_reducible rfl
 simp only[aK,aL,aze,asu];refine ak (i:=6) (d:=some 14) (v:= ?_) rfl rfl hHeld ?_ ?_;rotate_left;focus intro w hSw;(try dsimp only at hSw);obtain⟨s1,s2⟩:=HSp.out _ hSw;obtain⟨⟨c0,c1,c2,c3,c4,c5,c6,c7,c8⟩,_,_⟩:=jd s1;obtain⟨b0,b1,_,_,_⟩:=jN s2;have b1':w.cell? ⟨_,0+1,none⟩=some (.slice fa f.2.length fc):=b1;go_simp;try with_reducible rfl
 simp only[aK,aL,aze,asu];refine ak (i:=7) (d:=some 15) (v:= ?_) rfl rfl hHeld ?_ ?_;rotate_left;focus intro w hSw;(try dsimp only at hSw);obtain⟨s1,s2⟩:=HSp.out _ hSw;obtain⟨⟨c0,c1,c2,c3,c4,c5,c6,c7,c8⟩,_,_⟩:=jd s1;obtain⟨b0,b1,_,_,_⟩:=jN s2;have b1':w.cell? ⟨_,0+1,none⟩=some (.slice fa f.2.length fc):=b1;go_simp;try with_reducible rfl
 simp only[aK,aL,aze,asu];refine ak (i:=8) (d:=some 16) (v:= ?_) rfl rfl hHeld ?_ ?_;rotate_left;focus intro w hSw;(try dsimp only at hSw);obtain⟨s1,s2⟩:=HSp.out _ hSw;obtain⟨⟨c0,c1,c2,c3,c4,c5,c6,c7,c8⟩,_,_⟩:=jd s1;obtain⟨b0,b1,_,_,_⟩:=jN s2;have b1':w.cell? ⟨_,0+1,none⟩=some (.slice fa f.2.length fc):=b1;go_simp;try with_reducible rfl
 simp only[aK,aL,aze,asu];refine ak (i:=9) (d:=some 17) (v:= ?_) rfl rfl hHeld ?_ ?_;rotate_left;focus intro w hSw;(try dsimp only at hSw);obtain⟨s1,s2⟩:=HSp.out _ hSw;obtain⟨⟨c0,c1,c2,c3,c4,c5,c6,c7,c8⟩,_,_⟩:=jd s1;obtain⟨b0,b1,_,_,_⟩:=jN s2;have b1':w.cell? ⟨_,0+1,none⟩=some (.slice fa f.2.length fc):=b1;go_simp;try with_reducible rfl
 simp only[aK,aL,aze,asu];refine ak (i:=10) (d:=some 18) (v:= ?_) rfl rfl hHeld ?_ ?_;rotate_left;focus intro w hSw;(try dsimp only at hSw);obtain⟨s1,s2⟩:=HSp.out _ hSw;obtain⟨⟨c0,c1,c2,c3,c4,c5,c6,c7,c8⟩,_,_⟩:=jd s1;obtain⟨b0,b1,_,_,_⟩:=jN s2;have b1':w.cell? ⟨_,0+1,none⟩=some (.slice fa f.2.length fc):=b1;go_simp;try with_reducible rfl
 simp only[aK,aL,aze,asu];refine wpAnyH_ready (rs:=[11,15]) (by kernel_rfl) (by simp) ?_;refine AllReadyH.cons rfl (fun K' hK=> ?_) (AllReadyH.cons rfl (fun K' hK=> ?_) AllReadyH.nil)
 ·go_simp;refine(HC.out _ (Later.refl w2).drew).mono ?_;rintro e w3 ⟨v3,rfl,hO3,hB3⟩;have hB3:Below w2.heap.size w2 w3:=(Below.refl w2.heap.size w2).drew.trans hB3;have hO3:Qd w2.heap.size w3 v3 ox:=hO3;have hz3:=hB3.size;refine hK.out _ _ ⟨hB3.block p (by omega),hB3.block _ (by omega)⟩ (fun hHeld=> ?_);clear hK K' HC;obtain⟨pn,pa,pl,pc,pr,qa,ql,qc,rfl⟩:=hO3.four;refine ak (i:=12) (d:=some 7) (v:= ?_) rfl rfl hHeld ?_ ?_;rotate_left;focus intro w hSw;(try dsimp only at hSw);go_simp;try with_reducible rfl
  simp only[aK,aL,aze,asu];refine ak (i:=13) (d:=some 20) (v:= ?_) rfl rfl hHeld ?_ ?_;rotate_left;focus intro w hSw;(try dsimp only at hSw);go_simp;try with_reducible rfl
  simp only[aK,aL,aze,asu];refine ak (i:=14) (d:=some 21) (v:= ?_) rfl rfl hHeld ?_ ?_;rotate_left;focus intro w hSw;(try dsimp only at hSw);go_simp;try with_reducible rfl
  simp only[aK,aL,aze,asu];refine wpAnyH_ready (rs:=[15]) (by kernel_rfl) (by simp) ?_;refine AllReadyH.cons rfl (fun K' hK=> ?_) AllReadyH.nil;go_simp;obtain⟨w4,hw4⟩:∃w4,w4=w3.alloc (.cells #[.string ⟨#[]⟩,.slice none 0 0,.int .i64 0,.slice none 0 0] 30):=⟨_,rfl⟩;have hL4:Later w3 w4:=by rw[hw4];exact(Later.refl w3).alloc _
  have hx4:w4.heap[w3.heap.size]?=some (.cells #[.string ⟨#[]⟩,.slice none 0 0,.int .i64 0,.slice none 0 0] 30 (0,0)):=by rw[hw4];exact heap_alloc_new w3 _
  rw[←hw4];clear hw4;have Jb:Below w2.heap.size w2 w4:=aj hB3 hL4.below hB3.size;have hS4:w4.heap[p]?=w2.heap[p]?∧w4.heap[w.heap.size]?=w2.heap[w.heap.size]?:=⟨Jb.block p (by omega),Jb.block _ (by omega)⟩;have hB4:Below w.heap.size w w4:=aj HL2.out.below Jb HL2.out.size;have hR4:=(Jb.block (w.heap.size+1) (by omega)).trans HR.out;have hz4:=hL4.size;have hO4:Vg (w.heap.size+2) w3.heap.size w4 (.agg #[.string pn,.slice pa pl pc,.int .i64 pr,.slice qa ql qc]) ox:=by
   cases ox with
   |none=>trivial
   |some x=>
    obtain⟨s,kv,e,h1,h2⟩:=hO3;exact⟨s,kv,e,Kind.aM (Kind.aH h1 fun k hk hB=>⟨by have:w2.heap.size≤k:=hB;omega,by omega⟩) hL4.size fun k hk _=>hL4.block hk,Kind.aM (Kind.aH h2 fun k hk hB=>⟨by have:w2.heap.size≤k:=hB;omega,by omega⟩) hL4.size fun k hk _=>hL4.block hk⟩
  obtain⟨⟨l0,l1,l2,l3⟩,⟨l4,l5,l6⟩,⟨l7,l8,l9,l10⟩,l11⟩:=jH hx4;refine hK.out _ _ hS4 (fun hHeld=> ?_);clear hK K' hO3 hB3 hL4 Jb;refine wpAnyH_ready (rs:=[16]) (by kernel_rfl) (by simp) ?_;refine AllReadyH.cons rfl (fun K' hK=> ?_) AllReadyH.nil;go_simp;clear l0 l1 l2 l3 l4 l5 l6 l7 l8 l9 l10;have hXr:=iP hx4 (.string pn) (.slice pa pl pc) (.int .i64 pr) (.slice qa ql qc);obtain⟨w5,hw5⟩:∃w5,w5=sw w4 w3.heap.size (.string pn) (.slice pa pl pc) (.int .i64 pr) (.slice qa ql qc):=⟨_,rfl⟩;have hT5:=mQ w4 w3.heap.size (.string pn) (.slice pa pl pc) (.int .i64 pr) (.slice qa ql qc);rw[←hw5] at hXr hT5;have Nw:=hw5;unfold sw at Nw;rw[←Nw];clear hw5 Nw;refine hK.out _ _ ⟨(hT5.block _ (by omega) (by omega)).trans hS4.1,(hT5.block _ (by omega) (by omega)).trans hS4.2⟩ (fun hHeld=> ?_);clear hK K';refine wpAnyH_ready (rs:=[17]) (by kernel_rfl) (by simp) ?_;refine AllReadyH.cons rfl (fun K' hK=> ?_) AllReadyH.nil;go_simp;refine hK.out _ _ hHeld (fun hHeld=> ?_);clear hK K' hHeld;refine wpAnyH_done (by kernel_rfl) ?_ _;have HBw:Hid (Below w.heap.size w w5):=hB4.trans (hT5.below (by omega) (by have:=hB4.size;omega));have nC:Hid (w5.heap[w.heap.size+1]?=_):=(hT5.block _ (by omega) (by omega)).trans hR4;obtain⟨⟨n0,n1,n2,n3⟩,⟨n4,n5,n6⟩,_,hX5⟩:=jH hXr;have hz5:=hT5.size;cases ox with
  |none=>
   have HX:Hid (kQ fq d f=nA er):=HPn.out rfl;have hne:(er != 0)=true:=by have:=HPe.out rfl;simpa using this
   clear hO4 hT5 hXr hS4 hB4 hR4 hx4 HPn HPs HPe HPz;have HCr:=hide (gP er w5);unfold jR at HCr
   go_wp2_with fail
   refine HCr.out.mono ?_;rintro e w6 ⟨rfl,hBr⟩;have HRz:Hid (w6.heap[(w.heap.size+1)]?=_):=(hBr.block _ (by omega)).trans nC.out;obtain⟨⟨z0,z1,z2,z3,z4,z5,z6,z7⟩,zfz,zlt⟩:=gF HRz.out;have HBn:=hide (aj HBw.out hBr HBw.out.size);clear hBr HCr;go_wp2;have hD2:=(HD.out.mono (B':=fun k=>B k∧k<w.heap.size) fun _ hk hb=>⟨hb,hk⟩).below HBn.out;have hrow:=bg HRz.out (.int .i64 er) (.int .i64 0) (.int .i64 0) (.slice none 0 0) (.string ⟨#[]⟩) (.slice none 0 0) (.int .i64 0) (.slice none 0 0);obtain⟨⟨r0,r1,r2,r3,r4,r5,r6,r7⟩,_,_⟩:=gF hrow;unfold kT at r0 r1 r2 r3 r4 r5 r6 r7;have hTz:=bK w6 (w.heap.size+1) (.int .i64 er) (.int .i64 0) (.int .i64 0) (.slice none 0 0) (.string ⟨#[]⟩) (.slice none 0 0) (.int .i64 0) (.slice none 0 0);exact bodyPost_ret (v:=.agg #[.int .i64 er,.int .i64 0,.int .i64 0,.slice none 0 0,.string ⟨#[]⟩,.slice none 0 0,.int .i64 0,.slice none 0 0]) (by simp[results,Tryz.results138,go_sem,r0,r1,r2,r3,r4,r5,r6,r7]) rfl
    ⟨_,rfl,by rw[HX.out];exact bW.lay (R:=(w.heap.size+1)) (ou.plain _ _ _ _ _) (hD2.mono fun k _ hb=>⟨Or.inl hb.1,by omega⟩) (Tn.of_below HBn.out) hTz (by omega) hp⟩
  |some x=>
   have HX:Hid (kQ fq d f=⟨0,0,0,[],x⟩):=HPs.out x rfl;obtain rfl:er=0:=HPz.out x rfl;obtain⟨sv',kv',ev,hsl,hkl⟩:=hO4;simp only[Value.agg.injEq,Array.mk.injEq,List.cons.injEq,Value.string.injEq,Value.int.injEq,true_and,and_true] at ev;obtain⟨rfl,rfl,rfl,rfl⟩:=ev;have hm:∀k,k<w4.heap.size→w.heap.size+2≤k→k≠w3.heap.size→w5.heap[k]?=w4.heap[k]?:=fun k hk _ hne=>hT5.block k hk hne;have HA:Hid (ou (fun k=>w.heap.size≤k∧k≠w.heap.size+1) w5 (.agg #[.int .i64 0,.int .i64 0,.int .i64 0,.slice none 0 0,.string x.fact.1,.slice pa pl pc,.int .i64 x.rule,.slice qa ql qc]) ⟨0,0,0,[],x⟩):=
    ⟨_,_,_,rfl,lu.dw _ _ _ _,Kind.aH (Kind.aM hsl hT5.size fun k hk hB=>hT5.block k hk hB.2) fun k _ hB=>⟨by have:=hB.1;omega,by have:=hB.1;omega⟩,Kind.aH (Kind.aM hkl hT5.size fun k hk hB=>hT5.block k hk hB.2) fun k _ hB=>⟨by have:=hB.1;omega,by have:=hB.1;omega⟩⟩
   have HRz:=nC;obtain⟨⟨z0,z1,z2,z3,z4,z5,z6,z7⟩,zfz,zlt⟩:=gF HRz.out;have hD5:=(HD.out.mono (B':=fun k=>B k∧k<w.heap.size) fun _ hk hb=>⟨hb,hk⟩).below HBw.out;have HD5:=hide hD5;clear hD5 hsl hkl hm hT5 hXr hS4 hB4 hR4 hx4 HPn HPs HPe HPz nC;generalize x.fact.1=pn at*;generalize x.rule=pr at*;go_wp2;have hrow:=bg HRz.out (.int .i64 0) (.int .i64 0) (.int .i64 0) (.slice none 0 0) (.string pn) (.slice pa pl pc) (.int .i64 pr) (.slice qa ql qc);obtain⟨⟨r0,r1,r2,r3,r4,r5,r6,r7⟩,_,_⟩:=gF hrow;unfold kT at r0 r1 r2 r3 r4 r5 r6 r7;have hTz:=bK w5 (w.heap.size+1) (.int .i64 0) (.int .i64 0) (.int .i64 0) (.slice none 0 0) (.string pn) (.slice pa pl pc) (.int .i64 pr) (.slice qa ql qc);exact bodyPost_ret (v:=.agg #[.int .i64 0,.int .i64 0,.int .i64 0,.slice none 0 0,.string pn,.slice pa pl pc,.int .i64 pr,.slice qa ql qc]) (by simp[results,Tryz.results138,go_sem,r0,r1,r2,r3,r4,r5,r6,r7]) rfl
    ⟨_,rfl,by rw[HX.out];exact bW.lay (R:=w.heap.size+1) HA.out (HD5.out.mono fun k _ hb=>⟨Or.inl hb.1,by omega⟩) (Tn.of_below HBw.out) hTz (by omega) hp⟩
 ·go_simp;obtain⟨w3,hw3⟩:∃w3,w3=(w2.alloc (.cells #[.string ⟨#[]⟩,.slice none 0 0,.int .i64 0,.slice none 0 0] 30)).drew:=⟨_,rfl⟩;have hL3:Later w2 w3:=by rw[hw3];exact((Later.refl w2).alloc _).drew
  have hx3:w3.heap[w.heap.size+2]?=some (.cells #[.string ⟨#[]⟩,.slice none 0 0,.int .i64 0,.slice none 0 0] 30 (0,0)):=by rw[hw3,←hz2];exact heap_alloc_new w2 _
  have hlt3:=(Array.getElem?_eq_some_iff.1 hx3).1;rw[←hw3];clear hw3;refine hK.out _ _ ⟨hL3.block (by omega),hL3.block (by omega)⟩ (fun hHeld=> ?_);clear hK K';refine wpAnyH_ready (rs:=[11]) (by kernel_rfl) (by simp) ?_;refine AllReadyH.cons rfl (fun K' hK=> ?_) AllReadyH.nil;go_simp;refine(HC.out _ hL3).mono ?_;rintro e w4 ⟨v4,rfl,hO3,QS⟩;have Jb:Below w2.heap.size w2 w4:=aj hL3.below QS hL3.size;have hz4:=QS.size;have hS4:w4.heap[p]?=w2.heap[p]?∧w4.heap[w.heap.size]?=w2.heap[w.heap.size]?:=⟨Jb.block p (by omega),Jb.block _ (by omega)⟩;refine hK.out _ _ hS4 (fun hHeld=> ?_);clear hK K' HC;obtain⟨pn,pa,pl,pc,pr,qa,ql,qc,rfl⟩:=hO3.four;refine ak (i:=12) (d:=some 7) (v:= ?_) rfl rfl hHeld ?_ ?_;rotate_left;focus intro w hSw;(try dsimp only at hSw);go_simp;try with_reducible rfl
  simp only[aK,aL,aze,asu];refine ak (i:=13) (d:=some 20) (v:= ?_) rfl rfl hHeld ?_ ?_;rotate_left;focus intro w hSw;(try dsimp only at hSw);go_simp;try with_reducible rfl
  simp only[aK,aL,aze,asu];refine ak (i:=14) (d:=some 21) (v:= ?_) rfl rfl hHeld ?_ ?_;rotate_left;focus intro w hSw;(try dsimp only at hSw);go_simp;try with_reducible rfl
  simp only[aK,aL,aze,asu];have hx4:=(QS.block _ hlt3).trans hx3;have hB4:Below w.heap.size w w4:=aj HL2.out.below Jb HL2.out.size;have hR4:=(Jb.block (w.heap.size+1) (by omega)).trans HR.out;have hO4:Vg (w.heap.size+2) (w.heap.size+2) w4 (.agg #[.string pn,.slice pa pl pc,.int .i64 pr,.slice qa ql qc]) ox:=by
   cases ox with
   |none=>trivial
   |some x=>
    obtain⟨s,kv,e,h1,h2⟩:=hO3;exact⟨s,kv,e,Kind.aH h1 fun k hk hB=>⟨by have:w3.heap.size≤k:=hB;omega,by have:w3.heap.size≤k:=hB;omega⟩,Kind.aH h2 fun k hk hB=>⟨by have:w3.heap.size≤k:=hB;omega,by have:w3.heap.size≤k:=hB;omega⟩⟩
  obtain⟨⟨l0,l1,l2,l3⟩,⟨l4,l5,l6⟩,⟨l7,l8,l9,l10⟩,l11⟩:=jH hx4;clear hO3 hL3 Jb QS hx3;refine wpAnyH_ready (rs:=[16]) (by kernel_rfl) (by simp) ?_;refine AllReadyH.cons rfl (fun K' hK=> ?_) AllReadyH.nil;go_simp;clear l0 l1 l2 l3 l4 l5 l6 l7 l8 l9 l10;have hXr:=iP hx4 (.string pn) (.slice pa pl pc) (.int .i64 pr) (.slice qa ql qc);obtain⟨w5,hw5⟩:∃w5,w5=sw w4 (w.heap.size+2) (.string pn) (.slice pa pl pc) (.int .i64 pr) (.slice qa ql qc):=⟨_,rfl⟩;have hT5:=mQ w4 (w.heap.size+2) (.string pn) (.slice pa pl pc) (.int .i64 pr) (.slice qa ql qc);rw[←hw5] at hXr hT5;have Nw:=hw5;unfold sw at Nw;rw[←Nw];clear hw5 Nw;refine hK.out _ _ ⟨(hT5.block _ (by omega) (by omega)).trans hS4.1,(hT5.block _ (by omega) (by omega)).trans hS4.2⟩ (fun hHeld=> ?_);clear hK K';refine wpAnyH_ready (rs:=[17]) (by kernel_rfl) (by simp) ?_;refine AllReadyH.cons rfl (fun K' hK=> ?_) AllReadyH.nil;go_simp;refine hK.out _ _ hHeld (fun hHeld=> ?_);clear hK K' hHeld;refine wpAnyH_done (by kernel_rfl) ?_ _;have HBw:Hid (Below w.heap.size w w5):=hB4.trans (hT5.below (by omega) (by have:=hB4.size;omega));have nC:Hid (w5.heap[w.heap.size+1]?=_):=(hT5.block _ (by omega) (by omega)).trans hR4;obtain⟨⟨n0,n1,n2,n3⟩,⟨n4,n5,n6⟩,_,hX5⟩:=jH hXr;have hz5:=hT5.size;cases ox with
  |none=>
   have HX:Hid (kQ fq d f=nA er):=HPn.out rfl;have hne:(er != 0)=true:=by have:=HPe.out rfl;simpa using this
   clear hO4 hT5 hXr hS4 hB4 hR4 hx4 HPn HPs HPe HPz;have HCr:=hide (gP er w5);unfold jR at HCr
   go_wp2_with fail
   refine HCr.out.mono ?_;rintro e w6 ⟨rfl,hBr⟩;have HRz:Hid (w6.heap[(w.heap.size+1)]?=_):=(hBr.block _ (by omega)).trans nC.out;obtain⟨⟨z0,z1,z2,z3,z4,z5,z6,z7⟩,zfz,zlt⟩:=gF HRz.out;have HBn:=hide (aj HBw.out hBr HBw.out.size);clear hBr HCr;go_wp2;have hD2:=(HD.out.mono (B':=fun k=>B k∧k<w.heap.size) fun _ hk hb=>⟨hb,hk⟩).below HBn.out;have hrow:=bg HRz.out (.int .i64 er) (.int .i64 0) (.int .i64 0) (.slice none 0 0) (.string ⟨#[]⟩) (.slice none 0 0) (.int .i64 0) (.slice none 0 0);obtain⟨⟨r0,r1,r2,r3,r4,r5,r6,r7⟩,_,_⟩:=gF hrow;unfold kT at r0 r1 r2 r3 r4 r5 r6 r7;have hTz:=bK w6 (w.heap.size+1) (.int .i64 er) (.int .i64 0) (.int .i64 0) (.slice none 0 0) (.string ⟨#[]⟩) (.slice none 0 0) (.int .i64 0) (.slice none 0 0);exact bodyPost_ret (v:=.agg #[.int .i64 er,.int .i64 0,.int .i64 0,.slice none 0 0,.string ⟨#[]⟩,.slice none 0 0,.int .i64 0,.slice none 0 0]) (by simp[results,Tryz.results138,go_sem,r0,r1,r2,r3,r4,r5,r6,r7]) rfl
    ⟨_,rfl,by rw[HX.out];exact bW.lay (R:=(w.heap.size+1)) (ou.plain _ _ _ _ _) (hD2.mono fun k _ hb=>⟨Or.inl hb.1,by omega⟩) (Tn.of_below HBn.out) hTz (by omega) hp⟩
  |some x=>
   have HX:Hid (kQ fq d f=⟨0,0,0,[],x⟩):=HPs.out x rfl;obtain rfl:er=0:=HPz.out x rfl;obtain⟨sv',kv',ev,hsl,hkl⟩:=hO4;simp only[Value.agg.injEq,Array.mk.injEq,List.cons.injEq,Value.string.injEq,Value.int.injEq,true_and,and_true] at ev;obtain⟨rfl,rfl,rfl,rfl⟩:=ev;have hm:∀k,k<w4.heap.size→w.heap.size+2≤k→k≠(w.heap.size+2)→w5.heap[k]?=w4.heap[k]?:=fun k hk _ hne=>hT5.block k hk hne;have HA:Hid (ou (fun k=>w.heap.size≤k∧k≠w.heap.size+1) w5 (.agg #[.int .i64 0,.int .i64 0,.int .i64 0,.slice none 0 0,.string x.fact.1,.slice pa pl pc,.int .i64 x.rule,.slice qa ql qc]) ⟨0,0,0,[],x⟩):=
    ⟨_,_,_,rfl,lu.dw _ _ _ _,Kind.aH (Kind.aM hsl hT5.size fun k hk hB=>hT5.block k hk hB.2) fun k _ hB=>⟨by have:=hB.1;omega,by have:=hB.1;omega⟩,Kind.aH (Kind.aM hkl hT5.size fun k hk hB=>hT5.block k hk hB.2) fun k _ hB=>⟨by have:=hB.1;omega,by have:=hB.1;omega⟩⟩
   have HRz:=nC;obtain⟨⟨z0,z1,z2,z3,z4,z5,z6,z7⟩,zfz,zlt⟩:=gF HRz.out;have hD5:=(HD.out.mono (B':=fun k=>B k∧k<w.heap.size) fun _ hk hb=>⟨hb,hk⟩).below HBw.out;have HD5:=hide hD5;clear hD5 hsl hkl hm hT5 hXr hS4 hB4 hR4 hx4 HPn HPs HPe HPz nC;generalize x.fact.1=pn at*;generalize x.rule=pr at*;go_wp2;have hrow:=bg HRz.out (.int .i64 0) (.int .i64 0) (.int .i64 0) (.slice none 0 0) (.string pn) (.slice pa pl pc) (.int .i64 pr) (.slice qa ql qc);obtain⟨⟨r0,r1,r2,r3,r4,r5,r6,r7⟩,_,_⟩:=gF hrow;unfold kT at r0 r1 r2 r3 r4 r5 r6 r7;have hTz:=bK w5 (w.heap.size+1) (.int .i64 0) (.int .i64 0) (.int .i64 0) (.slice none 0 0) (.string pn) (.slice pa pl pc) (.int .i64 pr) (.slice qa ql qc);exact bodyPost_ret (v:=.agg #[.int .i64 0,.int .i64 0,.int .i64 0,.slice none 0 0,.string pn,.slice pa pl pc,.int .i64 pr,.slice qa ql qc]) (by simp[results,Tryz.results138,go_sem,r0,r1,r2,r3,r4,r5,r6,r7]) rfl
    ⟨_,rfl,by rw[HX.out];exact bW.lay (R:=w.heap.size+1) HA.out (HD5.out.mono fun k _ hb=>⟨Or.inl hb.1,by omega⟩) (Tn.of_below HBw.out) hTz (by omega) hp⟩
theorem Qh:DI fq:=fun p B d f fv tv rv kv nv sv w=>Nv p B d f fv tv rv kv nv sv w
end Go.Proofs.YtafmbokfkbccaaaGreatDoor
