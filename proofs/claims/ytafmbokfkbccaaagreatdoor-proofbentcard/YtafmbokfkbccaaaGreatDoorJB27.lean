import Derived.Test.YtafmbokfkbccaaaGreatDoorJB26
import Derived.Test.YtafmbokfkbccaaaGreatDoorJB12
namespace Go.Proofs.YtafmbokfkbccaaaGreatDoor
open Go.RowKit Go.Sort
def gq (p:List aA) (told:List aj):Int:=if(aS p).2.1≠0 then(aS p).2.1 else if(fG p told).1≠0 then(fG p told).1 else(bg p (aS p).1 (countP (aS p).1) 0 told).1
theorem iC (p:List aA) (told:List aj):(kS p told).1=gq p told∧(gq p told=0→kS p told=(0,aX told (bg p (aS p).1 (countP (aS p).1) 0 told).2)):=by
 unfold kS gq
 by_cases h0:(aS p).2.1=0
 ·have h0':¬(aS p).2.1≠0:=fun h=>h h0;simp only[if_neg h0']
  by_cases h1:(fG p told).1=0
  ·have h1':¬(fG p told).1≠0:=fun h=>h h1;simp only[if_neg h1'];exact pJ p _ _ 0 told
  ·have h1':(fG p told).1≠0:=h1;simp only[if_pos h1'];exact⟨trivial,fun h=>absurd h h1⟩
 ·have h0':(aS p).2.1≠0:=h0;simp only[if_pos h0'];exact⟨trivial,fun h=>absurd h h0⟩
theorem wE {p:List aA} {ss:List Nat} {n:Int}:∀(k:Nat) (L:List aj),(aP p ss n k L).2.length≤k
 |0,_=>by simp[aP]
 |k+1,L=>by
  unfold aP;split
  ·simp
  ·split
   ·simp
   ·have:=wE (p:=p) (ss:=ss) (n:=n) k (bV p ss n L).2;simp only[List.length_cons];omega
theorem AL {p:List aA} {ss:List Nat}:∀(c n:Nat) (L:List aj),(bg p ss c n L).2.length≤c*201
 |0,_,_=>by simp[bg]
 |c+1,n,L=>by
  unfold bg;split
  ·simp
  ·have h1:=wE (p:=p) (ss:=ss) (n:=(n:Int)) 201 L;have h2:=AL (p:=p) (ss:=ss) c (n+1) (aX L (aP p ss n 201 L).2);simp only[List.length_append];omega
set_option maxRecDepth 100000 in
set_option maxHeartbeats 16000000 in
theorem Li (p:List aA) (told:List aj) (P mb:Nat) (pv tv:Value) (w0 w:World) (hB:PrB w P pv tv (.slice none 0 0) 0 0 (.slice none 0 0) mb) (hB0:Below w0.heap.size w0 w) (hw0:w0.heap.size≤P) (hpv:eD.sl bJ w0 pv p) (ht:Facts w0 tv told):
  Calls Tryz.prog 58 #[.pointer (some ⟨P,0,none⟩)] w fun e w'=>e=.returned (.int .i64 (gq p told))∧(gq p told=0→PrS w' P w.heap.size pv tv 0 0 mb (aX told (bg p (aS p).1 (countP (aS p).1) 0 told).2) (told::(bg p (aS p).1 (countP (aS p).1) 0 told).2))∧Kp P w.heap.size w w':=by
 have hPl:=hB.cells.2.2.2.2.2.2.2;have hpw:=Kind.aR hpv hB0;have htw:=ht.below hB0;obtain⟨pa,pc,rfl⟩:=Kind.slice hpv;obtain⟨ta,tc,rfl⟩:=aD ht;have HSt:=hide (FK p (.slice pa p.length pc) w hpw);have HPr:=hide hB;have HV0:=hide hpv;have HT0:=hide ht;have HB0:=hide hB0;obtain⟨p0,p1,p2,p3,p4,p5,p6,_⟩:=hB.cells;obtain⟨FE,hFE⟩:∃FE,FE=gq p told:=⟨_,rfl⟩;rw[←hFE];obtain⟨RP,hRP⟩:∃RP,RP=(bg p (aS p).1 (countP (aS p).1) 0 told):=⟨_,rfl⟩;rw[←hRP];unfold gq at hFE;rw[←hRP] at hFE;obtain⟨ss,ex,ea,hse⟩:∃ss ex ea,aS p=(ss,ex,ea):=⟨_,_,_,rfl⟩;rw[hse] at HSt hFE hRP;dsimp only at hFE hRP;have HSE:=hide hse;have HFE:=hide hFE;have Ri:=hide hRP;clear hse hFE hRP hpv ht hB hB0 hpw htw
 go_enter Tryz.func58,Tryz.ntmps58
 go_wp2_with fail
 refine HSt.out.mono ?_;rintro e w1 ⟨u,rfl,hu,hB1⟩;dsimp only at hu⊢;have HU:=hide hu;obtain⟨ua,uc,rfl⟩:=Kind.slice hu;have HB1:=hide hB1;clear hu hB1 HSt p0 p1 p2 p3 p4 p5 p6
 by_cases h0:ex=0
 ·subst h0;obtain⟨Rj,m,hms,hdm,hlm,hsm⟩:=kV HSE.out;have hp:=kX.1 Rj;have KT:∀s∈ss,s<16:=fun s hs=>by
   rw[hms] at hs;obtain⟨r,hr,rfl⟩:=List.mem_map.1 hs;have:=rD hlm hsm r hr;have:=hp.few;omega
  have hcs:countP ss≤16:=countP_le KT;have HMS:Hid (ss=p.map fun r=>numOf m r.head.name):=hms;have HRP:=hide hp;have HSm:=hide KT;have hFE:=HFE.out;rw[if_neg (by simp)] at hFE;obtain⟨w2,hw2⟩:∃w2,w2=w1.alloc (.cells #[.int .i64 0,.int .i64 (ea:Nat)] 75):=⟨_,rfl⟩;have hL2:Later w1 w2:=by rw[hw2];exact(Later.refl _).alloc _
  have hB2:Below w.heap.size w w2:=ak HB1.out hL2.below HB1.out.size;have HU2:=hide (Kind.aT HU.out hL2.size fun k hk _=>hL2.block hk);have hr2:w2.heap[w1.heap.size]?=some (.cells #[.int .i64 0,.int .i64 (ea:Nat)] 75 (0,0)):=by rw[hw2];exact heap_alloc_new w1 _
  have hc0:w2.cell? ⟨w1.heap.size,0,none⟩=some (.int .i64 0):=by rw[cell_of_row _ _ _ _ _ _ hr2];rfl
  have HCe:Hid (∀w',Below w2.heap.size w2 w'→w'.cell? ⟨P,0,none⟩=some (.slice pa p.length pc)∧w'.cell? ⟨P,1,none⟩=some (.slice ta told.length tc)):=fun w' h=>by
   have:=((HPr.out.below hB2).below h).cells;exact⟨this.1,this.2.1⟩
  obtain⟨fx,fe,hfe⟩:∃fx fe,fG p told=(fx,fe):=⟨_,_,rfl⟩;have HFc:Hid (∀w',Below w2.heap.size w2 w'→Calls Tryz.prog 66 #[.slice pa p.length pc,.slice ta told.length tc] w' fun e w''=>e=.returned (.agg #[.int .i64 fx,.int .i64 fe])∧Below w2.heap.size w2 w''∧Below w'.heap.size w' w''):=fun w' h=>by
   have hh:=ak HB0.out (ak hB2 h hB2.size) HB0.out.size;have:=rC p HRP.out (.slice pa p.length pc) (.slice ta told.length tc) told w' (Kind.aR HV0.out hh) (HT0.out.below hh);rw[hfe] at this;exact this.mono fun e w'' ⟨h1,h2⟩=>⟨h1,ak h h2 h.size,h2⟩
  rw[hfe] at hFE;dsimp only at hFE;have Ot:=hide hFE;have HFx:=hide hfe;have HB2:=hide hB2;have HW2:=hide hw2;have TI:=hB2.size;clear Rj hms hdm hlm hsm hp KT hL2 hB2 hw2 hr2 hfe hFE HFE HU
  go_wp2_with (rw[←HW2.out])
  refine wp_region_held_drew (S:=fun w'=>Below w2.heap.size w2 w') (by kernel_rfl) (Below.refl _ _).drew (fun hHeld=> ?_);refine au (i:=0) (d:=some 22) (v:= ?_) rfl rfl hHeld ?_ ?_;rotate_left;focus intro w hSw;(try dsimp only at hSw);go_simp;try with_reducible rfl
  simp only[bP,bQ,aze,asu];refine au (i:=1) (d:=some 23) (v:= ?_) rfl rfl hHeld ?_ ?_;rotate_left;focus intro w hSw;(try dsimp only at hSw);go_simp;try with_reducible rfl
  simp only[bP,bQ,aze,asu];refine au (i:=2) (d:=some 24) (v:= ?_) rfl rfl hHeld ?_ ?_;rotate_left;focus intro w hSw;(try dsimp only at hSw);go_simp;try with_reducible rfl
  simp only[bP,bQ,aze,asu];refine au (i:=3) (d:=some 25) (v:= ?_) rfl rfl hHeld ?_ ?_;rotate_left;focus intro w hSw;(try dsimp only at hSw);go_simp;try with_reducible rfl
  simp only[bP,bQ,aze,asu];refine au (i:=4) (d:=some 26) (v:= ?_) rfl rfl hHeld ?_ ?_;rotate_left;focus intro w hSw;(try dsimp only at hSw);obtain⟨q0,q1⟩:=HCe.out _ hSw;go_simp;try with_reducible rfl
  simp only[bP,bQ,aze,asu];refine au (i:=5) (d:=some 27) (v:= ?_) rfl rfl hHeld ?_ ?_;rotate_left;focus intro w hSw;(try dsimp only at hSw);go_simp;try with_reducible rfl
  simp only[bP,bQ,aze,asu];refine au (i:=6) (d:=some 28) (v:= ?_) rfl rfl hHeld ?_ ?_;rotate_left;focus intro w hSw;(try dsimp only at hSw);go_simp;try with_reducible rfl
  simp only[bP,bQ,aze,asu];refine au (i:=7) (d:=some 29) (v:= ?_) rfl rfl hHeld ?_ ?_;rotate_left;focus intro w hSw;(try dsimp only at hSw);go_simp;try with_reducible rfl
  simp only[bP,bQ,aze,asu];refine au (i:=8) (d:=some 30) (v:= ?_) rfl rfl hHeld ?_ ?_;rotate_left;focus intro w hSw;(try dsimp only at hSw);go_simp;try with_reducible rfl
  simp only[bP,bQ,aze,asu];refine au (i:=9) (d:=some 31) (v:= ?_) rfl rfl hHeld ?_ ?_;rotate_left;focus intro w hSw;(try dsimp only at hSw);obtain⟨q0,q1⟩:=HCe.out _ hSw;go_simp;try with_reducible rfl
  simp only[bP,bQ,aze,asu];have hBe:Below w2.heap.size w2 w2.drew:=(Below.refl _ _).drew;refine wpAnyH_ready (rs:=[10,11]) (by kernel_rfl) (by simp) ?_;refine AllReadyH.cons rfl (fun K' hK=> ?ga) (AllReadyH.cons rfl (fun K' hK=> ?gb) AllReadyH.nil)
  case' ga=>
   go_simp;refine(HFc.out _ hBe).mono ?_;rintro e wx ⟨rfl,hB1,_⟩;refine hK.out _ _ hB1 (fun hHeld=> ?_);clear hK K' hBe;have hBe:=hB1;refine wpAnyH_ready (rs:=[11]) (by kernel_rfl) (by simp) ?_;refine AllReadyH.cons rfl (fun K' hK=> ?_) AllReadyH.nil;go_simp;have hzN:=heap_alloc_new wx (.cells #[.int .i64 0,.int .i64 0] 75);have wG:=ak hBe ((Later.refl wx).alloc (.cells #[.int .i64 0,.int .i64 0] 75)).below hBe.size;have hbx:w2.heap.size≤wx.heap.size:=hBe.size;refine hK.out _ _ wG (fun hHeld=> ?_);clear hK K' hBe hHeld hB1;generalize wx.heap.size=bx at*;generalize wx.alloc (.cells #[.int .i64 0,.int .i64 0] 75)=wf at*;have hBe:=wG;have hHeld:=wG;clear wG
  case' gb=>
   go_simp;have hzN:((w2.alloc (.cells #[.int .i64 0,.int .i64 0] 75)).drew).heap[w2.heap.size]?=some (.cells #[.int .i64 0,.int .i64 0] 75 (0,0)):=heap_alloc_new w2 _;have wG:Below w2.heap.size w2 ((w2.alloc (.cells #[.int .i64 0,.int .i64 0] 75)).drew):=((Later.refl w2).alloc (.cells #[.int .i64 0,.int .i64 0] 75)).drew.below;have hbl:w2.heap.size<((w2.alloc (.cells #[.int .i64 0,.int .i64 0] 75)).drew).heap.size:=by simp
   obtain⟨bx,NA⟩:∃bx,w2.heap.size=bx:=⟨_,rfl⟩;rw[NA] at hzN hbl;have hbx:w2.heap.size≤bx:=by omega
   refine hK.out _ _ wG (fun hHeld=> ?_);clear hK K' hBe hHeld;generalize((w2.alloc (.cells #[.int .i64 0,.int .i64 0] 75)).drew)=wz at*;have hBe:=wG;have hHeld:=wG;clear wG;refine wpAnyH_ready (rs:=[10]) (by kernel_rfl) (by simp) ?_;refine AllReadyH.cons rfl (fun K' hK=> ?_) AllReadyH.nil;go_simp;refine(HFc.out _ hBe).mono ?_;rintro e wf ⟨rfl,hB1,Lj⟩;have hzN:=(Lj.block _ hbl).trans hzN;refine hK.out _ _ hB1 (fun hHeld=> ?_);clear hK K' hBe Lj hbl NA;have hBe:=hB1;clear hB1
  all_goals
   refine wpAnyH_ready (rs:=[12]) (by kernel_rfl) (by simp) ?_;refine AllReadyH.cons rfl (fun K' hK=> ?_) AllReadyH.nil;obtain⟨b0,b1,g0,g1,_⟩:=lH hzN;go_simp;have BU:Below w2.heap.size w2 ((wf.setCell ⟨bx,0,none⟩ (.int .i64 fx)).setCell ⟨bx,1,none⟩ (.int .i64 fe)):=Below.setCell (Below.setCell hBe hbx _) hbx _;refine hK.out _ _ BU (fun hHeld=> ?_);clear hK K' hHeld;refine wpAnyH_done (by kernel_rfl) ?_ _;obtain⟨w3,hw3⟩:∃w3,w3=(wf.setCell ⟨bx,0,none⟩ (.int .i64 fx)).setCell ⟨bx,1,none⟩ (.int .i64 fe):=⟨_,rfl⟩;have hR3:w3.heap[bx]?=some (.cells #[.int .i64 fx,.int .i64 fe] 75 (0,0)):=by rw[hw3,dY (j:=1) (dY (j:=0) hzN _) _];rfl
   rw[←hw3] at BU⊢;have c0:w3.cell? ⟨bx,0,none⟩=some (.int .i64 fx):=by rw[cell_of_row _ _ _ _ _ _ hR3];rfl
   have HB3:=hide (ak HB2.out BU HB2.out.size);have Rk:=hide BU;clear hzN hBe hbx b0 b1 g0 g1 hw3 hR3 BU HW2 hc0 HFc HCe
   by_cases h1:fx=0
   ·subst h1;have hgood:GoodS p told:=ou (by rw[HFx.out]);have Rl:Hid (FE=RP.1):=by show _=_;rw[Ot.out,if_neg (by simp)]
    have hszz:=HB3.out.size;have PY:=HPr.out.below HB3.out;have hS3:PrS w3 P w3.heap.size (.slice pa p.length pc) (.slice ta told.length tc) 0 0 mb [] []:=⟨_,_,[],PY,Or.inl ⟨rfl,rfl⟩,yB w3,rfl,fun i u l h=>by simp at h⟩;have Ou:=ak HB0.out HB3.out HB0.out.size;have HKe:=hide (Ny P w3.heap.size (.slice pa p.length pc) (.slice ta told.length tc) (.slice ta told.length tc) 0 0 mb [] told [] w3 hS3 (by omega) (Nat.le_refl _) ⟨_,_,_,rfl⟩ ⟨_,_,_,rfl⟩ (HT0.out.below Ou) (by simp));have q1:=PY.cells.2.1;have HG:=hide hgood;have HU3:=hide (Kind.aT HU2.out Rk.out.size fun k hk _=>Rk.out.block k hk);have hu3:r9.sl (fun k=>k<w3.heap.size∧k≠P) w3 (.slice ua ss.length uc) ss:=Kind.aW HU3.out fun k hk hB=>⟨hk,by have:w.heap.size≤k:=hB;omega⟩;have HUS:=hide hu3;have hp3:eD.sl (fun k=>k<P) w3 (.slice pa p.length pc) p:=Kind.aT (Kind.aW HV0.out fun k hk _=>by omega) Ou.size fun k hk _=>Ou.block k hk;have HPS:=hide hp3;clear hgood PY hS3 Ou hu3 hp3 Ot HFx;generalize hlo:w3.heap.size=lo at*
    go_wp2_with fail
    refine HKe.out.mono ?_;rintro e w4 ⟨rfl,hS4,hK4⟩;rw[List.nil_append] at hS4;have HS4:=hide hS4;have HK4:=hide hK4;have Np:=hK4.size;have hu4:r9.sl bJ w4 (.slice ua ss.length uc) ss:=Kind.dN (Kind.aT HUS.out (by omega) fun k _ hB=>hK4.block k hB.1 hB.2);have HCn:=hide (JQ ss (.slice ua ss.length uc) w4 hu4 (fun s hs=>by have:=HSm.out s hs;omega));clear hS4 hK4 hu4 HKe q1 c0
    go_wp2_with fail
    refine HCn.out.mono ?_;rintro e w5 ⟨rfl,hL5⟩;have HS5:=hide (HS4.out.below hL5.below);have HK5:=hide (HK4.out.trans (Kp.of_below hL5.below (by omega)));have TJ:RP.2.length≤16*201:=by
     rw[Ri.out];exact Nat.le_trans (AL _ _ _) (Nat.mul_le_mul_right _ hcs)
    clear hL5 HCn HS4 HK4 Np;obtain⟨cc,hcc⟩:∃cc,cc=countP ss:=⟨_,rfl⟩;have HX:Hid (RP=bg p ss cc 0 told):=by show _=_;rw[Ri.out,hcc]
    rw[←hcc] at hcs⊢;clear hcc;go_wp2
    go_loopg [47] cc (fun g i wr=>∃(j k:Nat) (L:List aj) (Q:List (List aj)),k=g∧j+k=cc∧i=.int .i64 j∧Hid (PrS wr P lo (.slice pa p.length pc) (.slice ta told.length tc) 0 0 mb L (told::Q))∧Hid (GoodS p L)∧Hid (L=aX told Q)∧Q.length≤j*201∧Hid (RP.1=(bg p ss k j L).1∧((bg p ss k j L).1=0→RP.2=Q++(bg p ss k j L).2))∧Hid (Kp P lo w3 wr))
    case atStart=>exact⟨0,cc,told,[],rfl,by omega,rfl,HS5,HG,(rfl:_=_),by simp,⟨by rw[HX.out],fun _=>by rw[HX.out];rfl⟩,HK5⟩
    case round=>
     clear HS5 HG HX HK5;obtain⟨j,k,L,Q,hkg,hj,rfl,HS,HG,HLl,hQl,HX,HK⟩:=hrel;have TG:=HK.out.size
     by_cases hlt:j<cc
     ·obtain⟨k',rfl⟩:∃k',k=k'+1:=⟨k-1,by omega⟩;have hltz:(j:Int)<(cc:Int):=by omega
      have hOC:=Nz p HRP.out (fun r=>numOf m r.head.name) j P lo (.slice pa p.length pc) (.slice ta told.length tc) (.slice ua ss.length uc) 0 0 mb L (told::Q) wr HS.out (by omega) (by omega) (Kind.aT HPS.out HK.out.size fun i _ hB=>HK.out.block i (by omega) (by omega)) (by rw[←HMS.out];exact Kind.aT HUS.out HK.out.size fun i _ hB=>HK.out.block i hB.1 hB.2) ⟨_,_,_,rfl⟩ HG.out (by simp only[List.length_cons];have:=Nat.mul_le_mul_right 201 (show j≤16 by omega);omega);rw[←HMS.out] at hOC;have HOC:=hide hOC;obtain⟨er,S,hSo⟩:∃er S,aP p ss (j:Int) 201 L=(er,S):=⟨_,_,rfl⟩;rw[hSo] at HOC;have hst:bg p ss (k'+1) j L=if er≠0 then(er,[]) else((bg p ss k' (j+1) (aX L S)).1,S++(bg p ss k' (j+1) (aX L S)).2):=by
       conv=>lhs;unfold bg
       rw[hSo]
      have hSl:S.length≤201:=by have:=wE (p:=p) (ss:=ss) (n:=(j:Int)) 201 L;rw[hSo] at this;exact this
      have hgS:er=0→GoodS p (aX L S):=fun h=>by
       have hS2:=hSo;rw[HMS.out,h] at hS2;exact(jR HRP.out _ 201 HG.out hS2 (by omega)).1
      have HST:=hide hst;have HGS:=hide hgS;clear hOC hst hgS hSo
      go_wp2_with fail
      refine HOC.out.mono ?_;rintro e w7 ⟨rfl,hS7,hK7⟩;dsimp only at hS7⊢;have HK7:=hide (HK.out.trans hK7)
      by_cases he:er=0
      ·subst he;have HS7:Hid (PrS w7 P lo (.slice pa p.length pc) (.slice ta told.length tc) 0 0 mb (aX L S) (told::(Q++S))):=hS7 rfl;have HG7:=hide (HGS.out rfl);have HL7:Hid (aX L S=aX told (Q++S)):=by show _=_;rw[fQ,←HLl.out]
       have HX7:Hid (RP.1=(bg p ss k' (j+1) (aX L S)).1∧((bg p ss k' (j+1) (aX L S)).1=0→RP.2=(Q++S)++(bg p ss k' (j+1) (aX L S)).2)):=by
        have h1:=HX.out;rw[HST.out,if_neg (by simp)] at h1;exact⟨h1.1,fun h=>by rw[h1.2 h,List.append_assoc]⟩
       have hQ7:(Q++S).length≤(j+1)*201:=by rw[List.length_append,Nat.add_mul];omega
       clear hS7 hK7 HOC HST HGS;go_wp2
       go_roundg k'
       case measure=>omega
       case rel=>exact⟨j+1,k',aX L S,Q++S,rfl,by omega,by go_num,HS7,HG7,HL7,hQ7,HX7,HK7⟩
      ·have hne:(er != 0)=true:=by simpa using he
       have HR:Hid (FE=er):=by show _=_;rw[Rl.out,HX.out.1,HST.out,if_pos he]
       have HN:Hid (FE=0→PrS w7 P w.heap.size (.slice pa p.length pc) (.slice ta told.length tc) 0 0 mb (aX told RP.2) (told::RP.2)):=fun h=>absurd (HR.out.symm.trans h) he;have HKK:=hide ((Kp.of_below (P:=P) HB3.out (Nat.le_refl _)).trans (HK7.out.less (by omega)));clear hS7 hK7 HOC HST HGS he;go_wp2;go_ret;exact⟨by rw[HR.out];rfl,HN.out,HKK.out⟩
     ·have hk0:k=0:=by omega
      have HR:Hid (FE=0∧PrS wr P w.heap.size (.slice pa p.length pc) (.slice ta told.length tc) 0 0 mb (aX told RP.2) (told::RP.2)):=by
       have h1:=HX.out;rw[hk0] at h1;have h2:RP.2=Q++[]:=h1.2 rfl;rw[List.append_nil] at h2;refine⟨by rw[Rl.out,h1.1];rfl,?_⟩;rw[h2,←HLl.out];exact HS.out.fewer (by omega)
      have HKK:=hide ((Kp.of_below (P:=P) HB3.out (Nat.le_refl _)).trans (HK.out.less (by omega)));clear hk0 HX;go_wp2;go_ret;exact⟨by rw[HR.out.1];rfl,fun _=>HR.out.2,HKK.out⟩
   ·have hne:(fx != 0)=true:=by simpa using h1
    have HR:Hid (FE=fx):=by show _=_;rw[Ot.out,if_pos h1]
    have HN:Hid (FE=0→PrS w3 P w.heap.size (.slice pa p.length pc) (.slice ta told.length tc) 0 0 mb (aX told RP.2) (told::RP.2)):=fun h=>absurd (HR.out.symm.trans h) h1;have HKK:=hide (Kp.of_below (P:=P) HB3.out (Nat.le_refl _));clear Ot h1;go_wp2;go_ret;exact⟨by rw[HR.out];rfl,HN.out,HKK.out⟩
 ·have hne:(ex != 0)=true:=by simpa using h0
  have HR:Hid (FE=ex):=by show _=_;rw[HFE.out,if_pos h0]
  have HN:Hid (∀w',FE=0→PrS w' P w.heap.size (.slice pa p.length pc) (.slice ta told.length tc) 0 0 mb (aX told RP.2) (told::RP.2)):=fun w' h=>absurd (HR.out.symm.trans h) h0;have HKK:Hid (Kp P w.heap.size w (w1.alloc (.cells #[.int .i64 ex,.int .i64 (ea:Nat)] 75))):=Kp.of_below (ak HB1.out ((Later.refl _).alloc _).below HB1.out.size) (Nat.le_refl _);clear HFE h0;go_wp2;go_ret;exact⟨by rw[HR.out];rfl,HN.out _,HKK.out⟩
end Go.Proofs.YtafmbokfkbccaaaGreatDoor
namespace Go.Proofs.YtafmbokfkbccaaaGreatDoor
open Go.RowKit Go.Sort
set_option maxRecDepth 100000 in
set_option maxHeartbeats 1000000 in
theorem Ll (A:Nat) (l:List aj) (f:aj) (lv:Value) (s:Value) (w:World) (hc0:w.cell? ⟨A,0,none⟩=some (.string f.1)) (hc1:w.cell? ⟨A,0+1,none⟩=some s) (hs:Strs w s f.2) (hl:Facts w lv l) (hr:fI l):
  Calls Tryz.prog 290 #[lv,.pointer (some ⟨A,0,none⟩)] w fun e w'=>e=.returned (.bool (inB l f))∧Later w w':=by
 have hin:=inC lv (.agg #[.string f.1,s]) l f w hl ⟨_,rfl,hs⟩ hr;rw[sN] at hin;have HIn:=hide hin;obtain⟨sa,sc,rfl⟩:=aZ hs;obtain⟨la,lc,rfl⟩:=aD hl;obtain⟨fn,aH⟩:=f;dsimp only at*;clear hin hs hl;generalize inB l (fn,aH)=b at*
 go_enter Tryz.func290,Tryz.ntmps290
 go_wp2_with fail
 refine HIn.out.mono ?_;rintro e w2 ⟨rfl,hL2⟩;have HL2:=hide hL2;clear hL2 HIn;go_wp2;go_ret;exact⟨rfl,HL2.out⟩
theorem Ja {PS:List (List aj)} {f:aj} {j:Nat} {l:List aj} (hj:PS[j]?=some l) (hl:inB l f=true) (hn:∀t q,t<j→PS[t]?=some q→inB q f=false):gN PS f=j:=by
 unfold gN;obtain⟨hi,e⟩:=List.getElem?_eq_some_iff.1 hj;rw[List.findIdx_eq hi];refine⟨by rw[e];exact hl,fun t ht=> ?_⟩;exact hn t _ ht (List.getElem?_eq_getElem (by omega))
set_option maxRecDepth 100000 in
set_option maxHeartbeats 2000000 in
theorem Gn (A lo:Nat) (PS:List (List aj)) (xs:List Value) (f:aj) (sv s:Value) (w:World) (hR:rT lo w sv xs) (hxl:xs.length=PS.length) (hx:∀(i:Nat) u l,xs[i]?=some u→PS[i]?=some l→Facts w u l) (hr:∀l∈PS,fI l)
  (hc0:w.cell? ⟨A,0,none⟩=some (.string f.1)) (hc1:w.cell? ⟨A,0+1,none⟩=some s) (hs:Strs w s f.2) (hf:gN PS f<PS.length) (hsm:PS.length≤1000000):
  Calls Tryz.prog 289 #[sv,.func (.func 290) #[] #[.pointer (some ⟨A,0,none⟩)]] w fun e w'=>e=.returned (.int .i64 (gN PS f:Nat))∧Later w w':=by
 have hAl:A<w.heap.size:=World.block_lt_of_cell? w _ hc0;have HBe:Hid (∀(l:List aj) (lv:Value) (w':World),Later w w'→Facts w lv l→fI l→Calls Tryz.prog 290 #[lv,.pointer (some ⟨A,0,none⟩)] w' fun e w''=>e=.returned (.bool (inB l f))∧Later w' w''):=fun l lv w' h hl hrl=>
  Ll A l f lv s w' (by rw[h.cell (p:=⟨A,0,none⟩) hAl];exact hc0) (by rw[h.cell (p:=⟨A,0+1,none⟩) hAl];exact hc1) (hs.later h) (hl.later h) hrl
 have HX:=hide hx;have HR:=hide hr;have TK:=hide hR.owns;obtain⟨g,cap,cur,rfl,hlo,hg,hnc,_⟩:=hR;have hgl:g<w.heap.size:=(Array.getElem?_eq_some_iff.1 hg).1;have Rm:Hid (∀j l,PS[j]?=some l→inB l f=true→(∀t q,t<j→PS[t]?=some q→inB q f=false)→gN PS f=j):=fun j l h1 h2 h3=>Ja h1 h2 h3;have NC:Hid (∃l,PS[gN PS f]?=some l∧inB l f=true):=by
  refine⟨_,List.getElem?_eq_getElem hf,?_⟩;exact List.findIdx_getElem (w:=hf)
 obtain⟨oi,hoi⟩:∃oi,oi=gN PS f:=⟨_,rfl⟩;rw[←hoi] at hf Rm NC⊢;have HXL:=hide hxl;rw[hxl] at hnc⊢;clear hx hr hc0 hc1 hs hg hoi hxl
 go_enter Tryz.func289,Tryz.ntmps289
 go_wp2
 go_loopg [8] PS.length (fun g' i wr=>∃j:Nat,j+g'=PS.length∧i=.int .i64 j∧Hid (∀t q,t<j→PS[t]?=some q→inB q f=false)∧Hid (Later w wr))
 case atStart=>exact⟨0,by omega,rfl,(fun t q h=>absurd h (Nat.not_lt_zero _)),Later.refl _⟩
 case round=>
  obtain⟨j,hj,rfl,HN,HW⟩:=hrel
  by_cases hlt:j<PS.length
  ·obtain⟨l,hl⟩:∃l,PS[j]?=some l:=⟨_,List.getElem?_eq_getElem hlt⟩;obtain⟨u,hu⟩:∃u,xs[j]?=some u:=⟨_,List.getElem?_eq_getElem (by have:=HXL.out;omega)⟩;have hF:=HX.out j u l hu hl;have hcell:=TK.out.cells (g:=g) rfl j u hu;rw[Addr.add_lit] at hcell;have d0:wr.cell? ⟨g,j,none⟩=some u:=by rw[HW.out.cell (p:=⟨g,j,none⟩) hgl];simpa using hcell
   have HC:=hide (HBe.out l u wr HW.out hF (HR.out l (List.mem_of_getElem? hl)));obtain⟨ua,uc,rfl⟩:=aD hF;cases hin:inB l f with
   |true=>
    have HE:Hid (oi=j):=Rm.out j l hl hin HN.out;rw[hin] at HC;clear hl hu hF hcell hin
    go_wp2_with fail
    refine HC.out.mono ?_;rintro e w2 ⟨rfl,hL2⟩;have HL2:=hide (HW.out.trans hL2);clear hL2 HC;go_wp2;go_ret;exact⟨by rw[HE.out];rfl,HL2.out⟩
   |false=>
    have HN2:Hid (∀t q,t<j+1→PS[t]?=some q→inB q f=false):=fun t q ht hq=>by
     by_cases e:t=j
     ·subst e;rw[hl] at hq;cases hq;exact hin
     ·exact HN.out t q (by omega) hq
    rw[hin] at HC;clear hl hu hF hcell hin
    go_wp2_with fail
    refine HC.out.mono ?_;rintro e w2 ⟨rfl,hL2⟩;have HL2:=hide (HW.out.trans hL2);clear hL2 HC;go_wp2
    go_roundg (PS.length- (j+1))
    case measure=>omega
    case rel=>exact⟨j+1,by omega,by go_num,HN2,HL2⟩
  ·exfalso
   obtain⟨l,h1,h2⟩:=NC.out;have:=HN.out oi l (by omega) h1;rw[h2] at this;cases this
set_option maxRecDepth 100000 in
set_option maxHeartbeats 1000000 in
theorem Lm (P lo:Nat) (pv tv fv:Value) (c d:Int) (mb:Nat) (all:List aj) (PS:List (List aj)) (f:aj) (w:World) (hS:PrS w P lo pv tv c d mb all PS) (hr:∀l∈PS,fI l) (hf:bW w fv f) (ho:gN PS f<PS.length) (ho1:1≤gN PS f) (hsm:PS.length≤1000000):
  Calls Tryz.prog 242 #[.pointer (some ⟨P,0,none⟩),fv] w fun e w'=>∃v',e=.returned v'∧Facts w' v' (PS.getD (gN PS f-1) [])∧Later w w':=by
 obtain⟨av,sv,xs,hB,hRp,hF,hxl,hx⟩:=hS.has;have hR:rT lo w sv xs:=by
  rcases hRp with⟨e,_⟩|h
  ·rw[e] at hxl;simp at hxl;omega
  ·exact h
 obtain⟨s,rfl,hs⟩:=hf;obtain⟨sa,sc,rfl⟩:=aZ hs;obtain⟨w1,hw1⟩:∃w1,w1=w.alloc (.cells #[.string f.1,.slice sa f.2.length sc] 27):=⟨_,rfl⟩;have hL1:Later w w1:=by rw[hw1];exact(Later.refl w).alloc _
 have hr1:w1.heap[w.heap.size]?=some (.cells #[.string f.1,.slice sa f.2.length sc] 27 (0,0)):=by rw[hw1];exact heap_alloc_new w _
 have hR1:rT lo w1 sv xs:=hR.block fun k hk _=>hL1.block hk;have HIx:=hide (Gn w.heap.size lo PS xs f sv (.slice sa f.2.length sc) w1 hR1 hxl (fun i u l hu hl=>(hx i u l hu hl).later hL1) hr (by rw[cell_of_row _ _ _ _ _ _ hr1];rfl) (by rw[cell_of_row _ _ _ _ _ _ hr1];rfl) (hs.later hL1) ho hsm);obtain⟨oi,hoi⟩:∃oi,oi=gN PS f:=⟨_,rfl⟩;rw[←hoi] at HIx ho ho1⊢;obtain⟨k,hko⟩:∃k,oi=k+1:=⟨oi-1,by omega⟩;obtain⟨l,hl⟩:∃l,PS[k]?=some l:=⟨_,List.getElem?_eq_getElem (by omega)⟩;obtain⟨u,hu⟩:∃u,xs[k]?=some u:=⟨_,List.getElem?_eq_getElem (by omega)⟩;have hgd:PS.getD (oi-1) []=l:=by rw[hko,Nat.add_sub_cancel,List.getD_eq_getElem?_getD,hl];rfl
 rw[hgd];have hFu:=hx k u l hu hl;have p5:w1.cell? ⟨P,5,none⟩=some sv:=((hB.below hL1.below).cells).2.2.2.2.2.1;have HP5:Hid (∀w',Later w1 w'→w'.cell? ⟨P,5,none⟩=some sv):=fun w' h=>(((hB.below hL1.below).below h.below).cells).2.2.2.2.2.1;have hown:=hR1.owns;obtain⟨g,cap,cur,rfl,hlo,hg,hnc,_⟩:=hR1;have hgl:g<w1.heap.size:=(Array.getElem?_eq_some_iff.1 hg).1;have hcell:=hown.cells (g:=g) rfl k u hu;rw[Addr.add_lit] at hcell;have HC:Hid (∀w',Later w1 w'→w'.cell? ⟨g,k,none⟩=some u):=fun w' h=>by rw[h.cell (p:=⟨g,k,none⟩) hgl];simpa using hcell
 obtain⟨ua,uc,rfl⟩:=aD hFu;have HFu:Hid (Facts w1 (.slice ua l.length uc) l):=hFu.later hL1;have HL1:=hide hL1;have HW1:=hide hw1;have hmf:∀(fn:Fn) (first cap:Array Value) (w:World),(Instr.makeFunc fn first cap).run Tryz.prog w=.ok (.func fn first cap) w:=fun _ _ _ _=>rfl;have hsub:IntKind.i64.wrap ((oi:Int)-1)=(k:Int):=by rw[IntKind.wrap_i64];omega
 rw[hxl] at HIx HP5 p5;obtain⟨np,hnp⟩:∃np,np=PS.length:=⟨_,rfl⟩;have hkx:(k:Int)<(np:Int):=by omega
 have UA:k<np:=by omega
 rw[←hnp] at HIx HP5 p5;obtain⟨fn,aH⟩:=f;dsimp only at*;clear hS hB hRp hF hx hR hs hr1 hl hu hgd hFu hown hg hcell hoi hw1 hL1 hko hxl hnp ho ho1 hsm hnc hr
 go_enter Tryz.func242,Tryz.ntmps242
 go_wp2_with (first|(rw[←HW1.out])|fail)
 refine HIx.out.mono ?_;rintro e w2 ⟨rfl,hL2⟩;have q5:=HP5.out w2 hL2;have qk:=HC.out w2 hL2;have HF2:=hide (HFu.out.later hL2);have HL2:=hide (HL1.out.trans hL2);clear hL2 HIx p5;go_wp2;go_ret;exact⟨_,rfl,HF2.out,HL2.out⟩
end Go.Proofs.YtafmbokfkbccaaaGreatDoor
namespace Go.Proofs.YtafmbokfkbccaaaGreatDoor
open Go.RowKit Go.Sort
theorem y7 {g:aA→Option (List aj)} {p:List aA} {j:Nat} {r:aA} (h:p[j]?=some r):jh g j (p.drop j)=match g r with|some of=>((j:Int),of)|none=>jh g (j+1) (p.drop (j+1)):=by
 obtain⟨hi,e⟩:=List.getElem?_eq_some_iff.1 h;rw[List.drop_eq_getElem_cons hi,e]
 rfl
theorem DI {w:World} {b:Nat} {x:Int} {a:Option Addr} {n c:Nat} {t:TypeId} {fr:Nat×Nat} (h:w.heap[b]?=some (.cells #[.int .i64 x,.slice a n c] t fr)):oW w b:=fun off s e=>by
 rw[cell_of_row _ _ _ _ _ _ h] at e;rcases off with _|_|off <;> simp at e
theorem AO {w:World} {b:Nat} {x:Int} {a:Option Addr} {n c:Nat} (h:w.heap[b]?=some (.cells #[.int .i64 x,.slice a n c] 182 (0,0))) (y:Int) (a':Option Addr) (n' c':Nat):
  ((w.setCell ⟨b,0,none⟩ (.int .i64 y)).setCell ⟨b,1,none⟩ (.slice a' n' c')).heap[b]?=some (.cells #[.int .i64 y,.slice a' n' c'] 182 (0,0))∧Tn b w ((w.setCell ⟨b,0,none⟩ (.int .i64 y)).setCell ⟨b,1,none⟩ (.slice a' n' c')):=by
 refine⟨by rw[dY (j:=1) (dY (j:=0) h _) _];rfl,?_⟩;exact Tn.setCell (p:=b) (Tn.setCell (p:=b) (Tn.refl _ _) (x:=⟨b,0,none⟩) (Or.inl rfl) _) (x:=⟨b,1,none⟩) (Or.inl rfl) _
set_option maxRecDepth 100000 in
set_option maxHeartbeats 4000000 in
theorem PZ (p:List aA) (told all:List aj) (PS:List (List aj)) (f:aj) (P lo:Nat) (pv tv fv:Value) (c d:Int) (mb:Nat) (w:World) (hS:PrS w P lo pv tv c d mb all PS) (hpv:eD.sl bJ w pv p) (ht:Facts w tv told) (hrt:fI told) (hr:∀l∈PS,fI l) (hf:bW w fv f)
  (ho:inB told f=false→1≤gN PS f∧gN PS f<PS.length) (hsm:PS.length≤1000000) (hsh:∀r∈p,r.head.terms.length≤4∧r.body.length≤5∧∀a∈r.body,a.terms.length≤4) (hpl:p.length≤16):
  Calls Tryz.prog 180 #[.pointer (some ⟨P,0,none⟩),fv] w fun e w'=>∃v,e=.returned (.agg #[.int .i64 (mX (lu all) p told all PS f).1,v])∧dU (From w.heap.size) w' v (mX (lu all) p told all PS f).2∧Below w.heap.size w w':=by
 obtain⟨s,rfl,hs⟩:=hf;obtain⟨sa,sc,rfl⟩:=aZ hs;obtain⟨pa,pc,rfl⟩:=Kind.slice hpv;obtain⟨ta,tc,rfl⟩:=aD ht;obtain⟨w1,hw1⟩:∃w1,w1=(w.alloc (.cells #[.string f.1,.slice sa f.2.length sc] 27)).alloc (.cells #[.int .i64 0,.slice none 0 0] 182):=⟨_,rfl⟩;have hL1:Later w w1:=by rw[hw1];exact((Later.refl w).alloc _).alloc _
 have hs1:w1.heap.size=w.heap.size+2:=by rw[hw1];simp
 have hr0:w1.heap[w.heap.size]?=some (.cells #[.string f.1,.slice sa f.2.length sc] 27 (0,0)):=by
  rw[hw1];simp only[bO,World.size_alloc]
  repeat (first|rw[if_pos trivial]|rw[if_pos (by omega)]|rw[if_neg (by omega)])
 have hr1:w1.heap[w.heap.size+1]?=some (.cells #[.int .i64 0,.slice none 0 0] 182 (0,0)):=by
  rw[hw1];simp only[bO,World.size_alloc]
  repeat (first|rw[if_pos trivial]|rw[if_pos (by omega)]|rw[if_neg (by omega)])
 have HFV:Hid (∀w',Below w.heap.size w w'→bW w' (.agg #[.string f.1,.slice sa f.2.length sc]) f):=fun w' h=>⟨_,rfl,hs.below h⟩;have HS:=hide hS;have HPv:=hide hpv;have HTo:=hide ht;have HRt:=hide hrt;have HRs:=hide hr;have HSh:=hide hsh;have HL1:=hide hL1;have HR0:=hide hr0;have HR1:=hide hr1;have HW1:=hide hw1;have HCe:Hid (∀w',Below w1.heap.size w1 w'→(w'.cell? ⟨P,0,none⟩=some (.slice pa p.length pc)∧w'.cell? ⟨P,1,none⟩=some (.slice ta told.length tc))∧w'.cell? ⟨w.heap.size,0,none⟩=some (.string f.1)∧w'.cell? ⟨w.heap.size,0+1,none⟩=some (.slice sa f.2.length sc)):=fun w' h=>by
  obtain⟨av,sv,xs,hB,_⟩:=((hS.below hL1.below).below h).has;have h0:=(h.block _ (by omega)).trans hr0;exact⟨⟨hB.cells.1,hB.cells.2.1⟩,by rw[cell_of_row _ _ _ _ _ _ h0];rfl,by rw[cell_of_row _ _ _ _ _ _ h0];rfl⟩
 have HIn:Hid (∀w',Below w1.heap.size w1 w'→Calls Tryz.prog 23 #[.slice ta told.length tc,.agg #[.string f.1,.slice sa f.2.length sc]] w' fun e w''=>e=.returned (.bool (inB told f))∧Hid (Later w' w'')):=fun w' h=>by
  have hh:=ak hL1.below h hL1.size;have:=inC (.slice ta told.length tc) (.agg #[.string f.1,.slice sa f.2.length sc]) told f w' (ht.below hh) ⟨_,rfl,hs.below hh⟩ hrt;rw[sN] at this;exact this
 obtain⟨W,hW⟩:∃W,W=mX (lu all) p told all PS f:=⟨_,rfl⟩;rw[←hW];unfold mX at hW;have HWy:=hide hW;have HOo:=hide ho;clear hS hpv ht hrt hr hs ho hsh hL1 hr0 hr1 hw1 hW;have fin:∀(y:Int) (a':Option Addr) (n' c':Nat) (of:List aj) (wr:World),Below w1.heap.size w1 wr→dU (From w1.heap.size) wr (.slice a' n' c') of→(((wr.setCell ⟨w.heap.size+1,0,none⟩ (.int .i64 y)).setCell ⟨w.heap.size+1,1,none⟩ (.slice a' n' c')).cell? ⟨w.heap.size+1,0,none⟩=some (.int .i64 y)∧((wr.setCell ⟨w.heap.size+1,0,none⟩ (.int .i64 y)).setCell ⟨w.heap.size+1,1,none⟩ (.slice a' n' c')).cell? ⟨w.heap.size+1,1,none⟩=some (.slice a' n' c'))∧dU (From w.heap.size) ((wr.setCell ⟨w.heap.size+1,0,none⟩ (.int .i64 y)).setCell ⟨w.heap.size+1,1,none⟩ (.slice a' n' c')) (.slice a' n' c') of∧Below w.heap.size w ((wr.setCell ⟨w.heap.size+1,0,none⟩ (.int .i64 y)).setCell ⟨w.heap.size+1,1,none⟩ (.slice a' n' c')):=fun y a' n' c' of wr h hF=>by
  have hrr:=(h.block _ (by omega)).trans HR1.out;obtain⟨k1,k2⟩:=AO hrr y a' n' c';refine⟨⟨by rw[cell_of_row _ _ _ _ _ _ k1];rfl,by rw[cell_of_row _ _ _ _ _ _ k1];rfl⟩,(hF.kept k2.size fun k hk (hB:w1.heap.size≤k)=>k2.block k hk (by omega)).mono fun k _ (hB:w1.heap.size≤k)=>(by show w.heap.size≤k;omega),ak (ak HL1.out.below h HL1.out.size) (k2.below (n:=w.heap.size) (by omega) (by have:=h.size;omega)) (Nat.le_refl _)⟩
 have HFin:=hide fin;clear fin;obtain⟨fn,aH⟩:=f;dsimp only at*
 go_enter Tryz.func180,Tryz.ntmps180
 go_wp2_with (first|(rw[←HW1.out])|fail)
 refine wp_region_held_drew (S:=fun w'=>Below w1.heap.size w1 w') (by kernel_rfl) (Below.refl _ _).drew (fun hHeld=> ?_);refine au (i:=0) (d:=some 10) (v:= ?_) rfl rfl hHeld ?_ ?_;rotate_left;focus intro w hSw;(try dsimp only at hSw);go_simp;try with_reducible rfl
 simp only[bP,bQ,aze,asu];refine au (i:=1) (d:=some 11) (v:= ?_) rfl rfl hHeld ?_ ?_;rotate_left;focus intro w hSw;(try dsimp only at hSw);go_simp;try with_reducible rfl
 simp only[bP,bQ,aze,asu];refine au (i:=2) (d:=some 12) (v:= ?_) rfl rfl hHeld ?_ ?_;rotate_left;focus intro w hSw;(try dsimp only at hSw);go_simp;try with_reducible rfl
 simp only[bP,bQ,aze,asu];refine au (i:=3) (d:=some 13) (v:= ?_) rfl rfl hHeld ?_ ?_;rotate_left;focus intro w hSw;(try dsimp only at hSw);go_simp;try with_reducible rfl
 simp only[bP,bQ,aze,asu];refine au (i:=4) (d:=some 14) (v:= ?_) rfl rfl hHeld ?_ ?_;rotate_left;focus intro w hSw;(try dsimp only at hSw);obtain⟨⟨p0,p1⟩,p3,p4⟩:=HCe.out _ hSw;go_simp;try with_reducible rfl
 simp only[bP,bQ,aze,asu];refine au (i:=5) (d:=some 15) (v:= ?_) rfl rfl hHeld ?_ ?_;rotate_left;focus intro w hSw;(try dsimp only at hSw);obtain⟨⟨p0,p1⟩,p3,p4⟩:=HCe.out _ hSw;go_simp;try with_reducible rfl
 simp only[bP,bQ,aze,asu];refine wpAnyH_ready (rs:=[6]) (by kernel_rfl) (by simp) ?_;refine AllReadyH.cons rfl (fun K hK=> ?_) AllReadyH.nil;go_simp;refine(HIn.out _ hHeld).mono ?_;rintro e w2 ⟨rfl,hL2⟩;have hB2:=ak hHeld hL2.out.below hHeld.size;refine hK.out _ _ hB2 (fun hHeld=> ?_);clear hK K;refine au (i:=7) (d:=some 17) (v:= ?_) rfl rfl hHeld ?_ ?_;rotate_left;focus intro w hSw;(try dsimp only at hSw);go_simp;try with_reducible rfl
 simp only[bP,bQ,aze,asu];refine wpAnyH_done (by kernel_rfl) ?_ _;clear hHeld hL2;have HB2:=hide hB2;cases hin:inB told (fn,aH) with
 |true=>
  have HE:Hid (W=(-1,[])):=by show _=_;rw[HWy.out,if_pos hin]
  obtain⟨⟨z0,z1⟩,z2,z3⟩:=HFin.out (-1) none 0 0 [] w2 hB2 (dU.nil _ _);have hrr:=(hB2.block _ (by omega:w.heap.size+1<w1.heap.size)).trans HR1.out;obtain⟨t0,t1,t2,t3,_⟩:=lH hrr;have HZ:=hide (And.intro z0 (And.intro z1 (And.intro z2 z3)));clear hin hB2 HWy HOo HFin z0 z1 z2 z3 hrr HIn;go_wp2;obtain⟨z0,z1,z2,z3⟩:=HZ.out;refine bodyPost_ret (v:=.agg #[.int .i64 (-1),.slice none 0 0]) (by simp[results,Tryz.results180,go_sem,z0,z1]) rfl ⟨.slice none 0 0,by rw[HE.out],by rw[HE.out];exact z2,z3⟩
 |false=>
  obtain⟨o1,o2⟩:=HOo.out hin;have hWy:=HWy.out;rw[if_neg (by rw[hin];simp)] at hWy;have hBw2:=ak HL1.out.below hB2 HL1.out.size;have HBf:=hide (Lm P lo (.slice pa p.length pc) (.slice ta told.length tc) (.agg #[.string fn,.slice sa aH.length sc]) c d mb all PS (fn,aH) w2 (HS.out.below hBw2) HRs.out (HFV.out w2 hBw2) o2 o1 hsm);obtain⟨OL,hOL⟩:∃OL,OL=PS.getD (gN PS (fn,aH)-1) []:=⟨_,rfl⟩;have hOr:fI OL:=by
   rw[hOL,List.getD_eq_getElem?_getD,List.getElem?_eq_getElem (by omega)];exact HRs.out _ (List.getElem_mem _)
  rw[←hOL] at HBf hWy;have HOr:=hide hOr;have HW2:=hide hWy;obtain⟨⟨y0,y1⟩,y3,y4⟩:=HCe.out w2 hB2;clear hin hB2 hWy HWy HOo hOr hOL o1 o2 hBw2 HIn
  go_wp2_with fail
  refine HBf.out.mono ?_;rintro e w3 ⟨v3,rfl,hF3,hL3⟩;have HF3:=hide hF3;obtain⟨a3,c3,rfl⟩:=aD hF3;have hB3:=ak HB2.out hL3.below HB2.out.size;have HB3:=hide hB3;obtain⟨⟨x0,x1⟩,_,_⟩:=HCe.out w3 hB3;clear hF3 hL3 HBf y0 y1 y3 y4 hB3 HB2;obtain⟨G,hGd⟩:∃G,G=fun r=>byP (lu all) all OL r (fn,aH):=⟨_,rfl⟩;rw[←hGd] at HW2;have HGd:=hide hGd;clear hGd;go_wp2;clear x0 x1
  go_loopg [27] p.length (fun g i wr=>∃j:Nat,j+g=p.length∧i=.int .i64 j∧Hid (W=jh G j (p.drop j))∧Hid (Below w1.heap.size w1 wr)∧Hid (Below w3.heap.size w3 wr))
  case atStart=>exact⟨0,by omega,rfl,HW2,HB3,Below.refl _ _⟩
  case round=>
   clear HW2;obtain⟨j,hj,rfl,HW2,HB,HBr⟩:=hrel
   by_cases hlt:j<p.length
   ·obtain⟨r,hr⟩:∃r,p[j]?=some r:=⟨_,List.getElem?_eq_getElem hlt⟩;have G8:=ak HL1.out.below HB.out HL1.out.size;obtain⟨b1,o1,_,e1,hb1,hri,hc⟩:=Kind.fP (Kind.aR HPv.out G8) hr;subst e1;obtain⟨hv,bv,hce,hhv,hbv⟩:=hri;subst hce;obtain⟨ha',hc',rfl⟩:=Kind.slice hhv;obtain⟨ba,bc,rfl⟩:=Kind.slice hbv;have d0:wr.cell? ⟨b1,o1+j*4,none⟩=some (.bool r.head.no):=by simpa[eD] using hc 0 _ rfl
    have d1:wr.cell? ⟨b1,o1+j*4+1,none⟩=some (.string (bs r.head.name)):=by simpa[eD] using hc 1 _ rfl
    have d2:wr.cell? ⟨b1,o1+j*4+2,none⟩=some (.slice ha' r.head.terms.length hc'):=by simpa[eD] using hc 2 _ rfl
    have d3:wr.cell? ⟨b1,o1+j*4+3,none⟩=some (.slice ba r.body.length bc):=by simpa[eD] using hc 3 _ rfl
    obtain⟨wa,hwa⟩:∃wa,wa=wr.alloc (.cells #[.bool r.head.no,.string (bs r.head.name),.slice ha' r.head.terms.length hc',.slice ba r.body.length bc] 87):=⟨_,rfl⟩;have hLa:Later wr wa:=by rw[hwa];exact(Later.refl wr).alloc _
    have hRa:wa.heap[wr.heap.size]?=some (.cells #[.bool r.head.no,.string (bs r.head.name),.slice ha' r.head.terms.length hc',.slice ba r.body.length bc] 87 (0,0)):=by rw[hwa];exact heap_alloc_new wr _
    have q0:wa.cell? ⟨wr.heap.size,0,none⟩=some (.bool r.head.no):=by rw[cell_of_row _ _ _ _ _ _ hRa];rfl
    have q1:wa.cell? ⟨wr.heap.size,0+1,none⟩=some (.string (bs r.head.name)):=by rw[cell_of_row _ _ _ _ _ _ hRa];rfl
    have q2:wa.cell? ⟨wr.heap.size,0+2,none⟩=some (.slice ha' r.head.terms.length hc'):=by rw[cell_of_row _ _ _ _ _ _ hRa];rfl
    have q3:wa.cell? ⟨wr.heap.size,0+3,none⟩=some (.slice ba r.body.length bc):=by rw[cell_of_row _ _ _ _ _ _ hRa];rfl
    have hBa:=ak HB.out hLa.below HB.out.size;have P5:=ak G8 hLa.below G8.size;obtain⟨av,sv,xs,hPB,_,hFa,_⟩:=(HS.out.below P5).has;obtain⟨s1,s2,s3⟩:=HSh.out r (List.mem_of_getElem? hr);have HBy:=hide (byC all OL r (fn,aH) P _ (.slice ta told.length tc) av (.slice ha' r.head.terms.length hc') (.slice ba r.body.length bc) (.agg #[.string fn,.slice sa aH.length sc]) (.slice a3 OL.length c3) sv c d mb wa hPB (Kind.aI hhv hLa) (Kind.aI hbv hLa) (HFV.out wa P5) ((HF3.out.below HBr.out).later hLa) hFa HOr.out s1 s2 s3);have hfb:=y7 (g:=G) hr;have hGr:G r=byP (lu all) all OL r (fn,aH):=by rw[HGd.out]
    rw[←hGr] at HBy;obtain⟨gr,hgr⟩:∃gr,gr=G r:=⟨_,rfl⟩;rw[←hgr] at HBy hfb;have HFb:=hide hfb;obtain⟨⟨_,_⟩,z3,z4⟩:=HCe.out wa hBa;have HBa:=hide hBa;have Rn:=hide (ak HBr.out hLa.below HBr.out.size);have HWa:=hide hwa;clear hr hc hhv hbv hwa hLa hRa hBa P5 G8 hPB hFa hfb hGr hgr s1 s2 s3;generalize bs r.head.name=nm at*;generalize r.head.no=no at*
    go_wp2_with (first|(rw[←HWa.out])|fail)
    refine HBy.out.mono ?_;rintro e w5 ⟨v5,rfl,hV5,hB5⟩;have ND:=ak HBa.out hB5 HBa.out.size;have TL:=hide ND;have NG:=hide (ak Rn.out hB5 Rn.out.size);clear HBy d0 d1 d2 d3 q0 q1 q2 q3 z3 z4 hB5;cases gr with
    |none=>
     obtain rfl:v5=.slice none 0 0:=hV5;have HW5:Hid (W=jh G (j+1) (p.drop (j+1))):=by show _=_;rw[HW2.out,HFb.out]
     simp only[Option.isSome_none];clear ND HFb HW2;go_wp2
     go_roundg (p.length- (j+1))
     case measure=>omega
     case rel=>exact⟨j+1,by omega,by go_num,HW5,TL,NG⟩
    |some of=>
     have Ro:dU (From wa.heap.size) w5 v5 of:=hV5;have hF5:dU (From w1.heap.size) w5 v5 of:=Ro.mono fun k _ (h:wa.heap.size≤k)=>(by show w1.heap.size≤k;have:=HBa.out.size;omega);obtain⟨a5,c5,rfl⟩:=aD hF5.facts;have HE:Hid (W=((j:Int),of)):=by show _=_;rw[HW2.out,HFb.out]
     obtain⟨⟨z0,z1⟩,z2,z3⟩:=HFin.out (j:Int) a5 of.length c5 of w5 ND hF5;have hrr:=(ND.block _ (by omega:w.heap.size+1<w1.heap.size)).trans HR1.out;obtain⟨t0,t1,t2,t3,_⟩:=lH hrr;have HZ:=hide (And.intro z0 (And.intro z1 (And.intro z2 z3)));simp only[Option.isSome_some];clear hV5 Ro hF5 ND HFb HW2 z0 z1 z2 z3 hrr;go_wp2;obtain⟨z0,z1,z2,z3⟩:=HZ.out;refine bodyPost_ret (v:=.agg #[.int .i64 (j:Int),.slice a5 of.length c5]) (by simp[results,Tryz.results180,go_sem,z0,z1]) rfl ⟨.slice a5 of.length c5,by rw[HE.out],by rw[HE.out];exact z2,z3⟩
   ·have HE:Hid (W=(-1,[])):=by show _=_;rw[HW2.out,List.drop_eq_nil_of_le (by omega)];rfl
    obtain⟨⟨z0,z1⟩,z2,z3⟩:=HFin.out (-1) none 0 0 [] wr HB.out (dU.nil _ _);have hrr:=(HB.out.block _ (by omega:w.heap.size+1<w1.heap.size)).trans HR1.out;obtain⟨t0,t1,t2,t3,_⟩:=lH hrr;have HZ:=hide (And.intro z0 (And.intro z1 (And.intro z2 z3)));clear HW2 z0 z1 z2 z3 hrr;go_wp2;obtain⟨z0,z1,z2,z3⟩:=HZ.out;refine bodyPost_ret (v:=.agg #[.int .i64 (-1),.slice none 0 0]) (by simp[results,Tryz.results180,go_sem,z0,z1]) rfl ⟨.slice none 0 0,by rw[HE.out],by rw[HE.out];exact z2,z3⟩
end Go.Proofs.YtafmbokfkbccaaaGreatDoor
namespace Go.Proofs.YtafmbokfkbccaaaGreatDoor
open Go.RowKit Go.Sort
set_option maxHeartbeats 1000000 in
theorem Lp (v t:Value) (l:List aG) (g:aG) (w:World) (hf:Facts w v l) (ht:bW w t g) (hr:fI l):
  Calls Tryz.prog 127 #[v,t,.func (.func 128) #[] #[]] w fun e w'=>∃n:Nat,e=.returned (.tuple #[.int .i64 (n:Int),.bool (dA l g 0)])∧(n≤l.length∧(∀t,t<n→fM (l.getD t aB) g<0)∧∀t,n≤t→t<l.length→0≤fM (l.getD t aB) g)∧Later w w':=by
 have mx:=mixed;have HF:=hide hf;have HT:=hide ht;have HR:=hide hr;obtain⟨a,cap,rfl,hn,hz⟩:=hf.addr;obtain⟨s2,rfl,l2,a2,c2,rfl,_⟩:=ht;clear hf hr
 go_enter Tryz.func127,Tryz.ntmps127
 go_wp2
 go_loopw [9,10] (fun i j wr=>∃lo hi:Nat,lo≤hi∧hi≤l.length∧i=.int .i64 lo∧j=.int .i64 hi∧Later (w.alloc (.cells #[.string g.1,.slice a2 g.2.length c2] 27)) wr∧Hid (∀t,t<lo→fM (l.getD t aB) g<0)∧Hid (∀t,hi≤t→t<l.length→0≤fM (l.getD t aB) g)) (fun i j _=>(intOf j).toNat- (intOf i).toNat)
 case atStart=>exact⟨0,l.length,by omega,by omega,rfl,rfl,Later.refl _,fun t ht=>absurd ht (Nat.not_lt_zero _),fun t h1 h2=>by omega⟩
 case round=>
  obtain⟨lo,hi,hlh,hin,rfl,rfl,hL,HA,HB⟩:=hrel;have hL0:Later w wr:=((Later.refl _).alloc _).trans hL;have z0:=cell_later hL (p:=⟨w.heap.size,0,none⟩) (v:=.string g.1) (by simp) (by simp);have z1:=cell_later hL (p:=⟨w.heap.size,1,none⟩) (v:=.slice a2 g.2.length c2) (by simp) (by simp)
  by_cases hlt:lo<hi
  ·rcases hz with rfl|⟨b,off,rfl⟩
   ·simp at hin;omega
   obtain⟨m,hm⟩:∃m,m=(lo+hi)/2:=⟨_,rfl⟩;have hml:m<l.length:=by omega
   have hlm:lo≤m:=by omega
   have hmh:m<hi:=by omega
   have em:((lo:Int)+(hi:Int))/2=(m:Int):=by omega
   clear hm;have hltz:(lo:Int)<(hi:Int):=by omega
   have hmz:(m:Int)<(l.length:Int):=by omega
   obtain⟨ax,lx,cx,g1,g2,fx⟩:=(HF.out.later hL0).grown hml;have hC:∀q os,Calls Tryz.prog 128 #[.agg #[.string (l.getD m aB).1,.slice ax lx cx],.agg #[.string g.1,.slice a2 g.2.length c2]] (grow (wr.drewN q) os) fun e w''=>e=.returned (.int .i64 (fM (l.getD m aB) g))∧Later (grow (wr.drewN q) os) w'':=
    fun q os=>jZ _ _ _ _ _ (fx.later ⟨q,os,rfl⟩) ((HT.out.later hL0).later ⟨q,os,rfl⟩)
   have HC:=hide hC;clear hC fx;have hlow:=HR.out;have xW:fM (l.getD m aB) g<0→∀t,t<m+1→fM (l.getD t aB) g<0:=fun h t ht=>by
    by_cases e:t=m
    ·rw[e];exact h
    ·have h3:=List.pairwise_iff_getElem.1 hlow t m (by omega) hml (by omega);refine aM.trans _ (l.getD m aB) _ ?_ h;rw[List.getD_eq_getElem?_getD,List.getElem?_eq_getElem (by omega),List.getD_eq_getElem?_getD,List.getElem?_eq_getElem hml];exact h3
   have hstep2:0≤fM (l.getD m aB) g→∀t,m≤t→t<l.length→0≤fM (l.getD t aB) g:=fun h t h1 h2=>by
    by_cases e:t=m
    ·rw[e];exact h
    ·have h3:=List.pairwise_iff_getElem.1 hlow m t (by omega) h2 (by omega);refine Int.not_lt.1 fun n=> ?_;have h4:=aM.trans (l.getD m aB) (l.getD t aB) g (by
      rw[List.getD_eq_getElem?_getD,List.getElem?_eq_getElem (by omega),List.getD_eq_getElem?_getD,List.getElem?_eq_getElem h2];exact h3) n
     omega
   have H1:=hide xW;have H2:=hide hstep2;clear xW hstep2 hlow;generalize hcm:fM (l.getD m aB) g=cm at*;have HCM:=hide hcm;clear hcm;generalize(l.getD m aB).1=nm at*
   by_cases hneg:cm<0
   ·go_wp2
    go_quiet_grown ((go_at_call 128;exact Calls.grown_of (HC.out _ _)))
    go_wp2
    go_roundw
    case rel=>exact⟨m+1,hi,by omega,hin,by go_num,rfl,hL.trans ⟨_,_,rfl⟩,H1.out hneg,HB⟩
    case measure=>simp[intOf];omega
   ·go_wp2
    go_quiet_grown ((go_at_call 128;exact Calls.grown_of (HC.out _ _)))
    go_wp2
    go_roundw
    case rel=>exact⟨lo,m,by omega,by omega,rfl,rfl,hL.trans ⟨_,_,rfl⟩,HA,H2.out (by omega)⟩
    case measure=>simp[intOf];omega
  ·obtain rfl:lo=hi:=by omega
   have hfin:=meet HR.out hin HA.out HB.out
   by_cases hll:lo<l.length
   ·rcases hz with rfl|⟨b,off,rfl⟩
    ·simp at hll
    have hmz:(lo:Int)<(l.length:Int):=by omega
    obtain⟨ax,lx,cx,g1,g2,fx⟩:=(HF.out.later hL0).grown hll;have hC:∀q os,Calls Tryz.prog 128 #[.agg #[.string (l.getD lo aB).1,.slice ax lx cx],.agg #[.string g.1,.slice a2 g.2.length c2]] (grow (wr.drewN q) os) fun e w''=>e=.returned (.int .i64 (fM (l.getD lo aB) g))∧Later (grow (wr.drewN q) os) w'':=
     fun q os=>jZ _ _ _ _ _ (fx.later ⟨q,os,rfl⟩) ((HT.out.later hL0).later ⟨q,os,rfl⟩)
    have HC:=hide hC;rw[decide_eq_true hll] at hfin;have HFN:=hide hfin;clear hC fx hfin;generalize hcm:fM (l.getD lo aB) g=cm at*;generalize(l.getD lo aB).1=nm at*;have HCM:=hide hcm;clear hcm;go_wp2
    go_quiet_grown ((go_at_call 128;exact Calls.grown_of (HC.out _ _)))
    go_wp2
    go_ret2
    exact⟨lo,vO (by rw[HFN.out,Bool.true_and,Bool.eq_iff_iff];simp),⟨hin,HA.out,HB.out⟩,hL0.trans ⟨_,_,rfl⟩⟩
   ·rw[decide_eq_false hll] at hfin;have HFN:=hide hfin;clear hfin;have hd:decide ((lo:Int)<(l.length:Int))=false:=by rw[decide_eq_false_iff_not];omega
    go_wp2
    go_quiet (fail)
    go_wp2
    go_ret2
    exact⟨lo,vO (by rw[HFN.out];rfl),⟨hin,HA.out,HB.out⟩,hL0.drewN _⟩
end Go.Proofs.YtafmbokfkbccaaaGreatDoor
