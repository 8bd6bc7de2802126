import Derived.Test.YthngiikhgplldaaGreatDoorJR28
import Derived.Test.YthngiikhgplldaaGreatDoorJR26
import Derived.Test.YthngiikhgplldaaGreatDoorJR23
import Derived.BigQuiet
open Go.RowKit Go.Sort Go.Maps
set_option maxHeartbeats 16000000
set_option maxRecDepth 100000
namespace Go.Proofs.YthngiikhgplldaaGreatDoor
theorem qw (p:List aD) (r:gM) (pv kv nv:Value) (w:World) (hv:iy.sl bT w pv p) (hk:Facts w kv r.known) (hn:Facts w nv r.fresh) (hlg:∀r∈p,wD r) (hok:∀k,okF (r.known.getD k aA)) (hon:∀k,okF (r.fresh.getD k aA)):
  Calls Tryz.prog 8 #[pv,.agg #[kv,nv,.int .i64 r.level,.int .i64 r.rounds,.bool r.done]] w fun e w'=>e=.returned (.int .i64 (aX p r))∧Below w.heap.size w w':=by
 obtain⟨K,N,lev,rn,dn⟩:=r;dsimp only at*;obtain⟨pa,pc,rfl⟩:=aB.slice hv;obtain⟨ka,kc,rfl⟩:=aC hk;obtain⟨na,nc,rfl⟩:=aC hn;obtain⟨wb,hwb⟩:∃wb,wb=w.alloc (.cells #[.slice ka K.length kc,.slice na N.length nc,.int .i64 lev,.int .i64 rn,.bool dn] 26):=⟨_,rfl⟩;have hLb:aj w wb:=by rw[hwb];exact(aj.refl w).alloc _
 have hzb:wb.heap.size=w.heap.size+1:=by rw[hwb];simp
 have hrb:wb.heap[w.heap.size]?=some (.cells #[.slice ka K.length kc,.slice na N.length nc,.int .i64 lev,.int .i64 rn,.bool dn] 26 (0,0)):=by rw[hwb];exact heap_alloc_new w _
 have mO:Hid (∀w',Below wb.heap.size wb w'→w'.heap[w.heap.size]?=some (.cells #[.slice ka K.length kc,.slice na N.length nc,.int .i64 lev,.int .i64 rn,.bool dn] 26 (0,0))):=fun w' h=>(h.block _ (by omega)).trans hrb;have HSt:=au (xX p (.slice pa p.length pc) wb (aB.aS hv hLb) hlg);have HV:=au (aB.aS hv hLb);have HK:=au (hk.later hLb);have HN:=au (hn.later hLb);have HOk:=au hok;have HOn:=au hon;have HLb:=au hLb;have HWb:=au hwb;obtain⟨ss,ex,ea,hse⟩:∃ss ex ea,aK p=(ss,ex,ea):=⟨_,_,_,rfl⟩;rw[hse] at HSt;have HSE:=au hse;have HX:Hid (aX p ⟨K,N,lev,rn,dn⟩=if j5 p K≠0 then j5 p K else if(aR N).1≠0 then(aR N).1 else if okN (countP (aK p).1) ⟨K,N,lev,rn,dn⟩=false then 3 else if(N.filter fun f=> !inB K f)≠[] then 8 else 0):=(rfl:_=_);clear hv hk hn hLb hrb hwb hse hok hon hlg;generalize aX p ⟨K,N,lev,rn,dn⟩=R at*
 go_enter Tryz.func8,Tryz.ntmps8
 go_wp2_with fail
 rw[←HWb.out];refine HSt.out.mono ?_;rintro e w1 ⟨u,rfl,hu,hB1⟩;dsimp only at hu⊢;have HU:Hid (jL.sl bT w1 u ss):=aB.dO hu;obtain⟨ua,uc,rfl⟩:=aB.slice hu;have HB1:=au hB1;clear hu hB1 HSt HWb
 by_cases h0:ex=0
 ·subst h0;obtain⟨hw0,m,hms,hdm,hlm,hsm⟩:=ko HSE.out;have hp:=kC.1 hw0;have IU:∀s∈ss,s<1000:=fun s hs=>by
   rw[hms] at hs;obtain⟨r,hr,rfl⟩:=List.mem_map.1 hs;have:=qh hlm hsm r hr;have:=hp.few;omega
  obtain⟨w2,hw2⟩:∃w2,w2=w1.alloc (.cells #[.int .i64 0,.int .i64 (ea:Nat)] 41):=⟨_,rfl⟩;have hL2:aj w1 w2:=by rw[hw2];exact(aj.refl _).alloc _
  have hB2:Below wb.heap.size wb w2:=ak HB1.out hL2.below HB1.out.size;have HFC:=au (EJ p K (.slice pa p.length pc) (.slice ka K.length kc) w2 (aB.aO HV.out hB2) (HK.out.below hB2) hp HOk.out);obtain⟨fx,fe,hfe⟩:∃fx fe,dP p K=(fx,fe):=⟨_,_,rfl⟩;rw[hfe] at HFC;have HX0:Hid (R=if fx≠0 then fx else if(aR N).1≠0 then(aR N).1 else if okN (countP ss) ⟨K,N,lev,rn,dn⟩=false then 3 else if(N.filter fun f=> !inB K f)≠[] then 8 else 0):=by
   show _=_;have e:j5 p K=fx:=by unfold j5;rw[HSE.out,hfe];simp
   rw[HX.out,e,HSE.out]
  have HB2:=au hB2;have HU2:=au (aB.aS HU.out hL2);have HW2:=au hw2;have HSm:=au IU;obtain⟨b0,b1,b2,b3,b4,_,_⟩:=dQ (mO.out _ hB2);rw[hw2] at b0 b1 b2 b3 b4;clear hw0 hms hdm hlm hsm hp hL2 hB2 hfe hw2 HB1 HU HSE IU HX
  go_wp2_with fail
  rw[←HW2.out];refine HFC.out.mono ?_;rintro e w3 ⟨rfl,hB3⟩;dsimp only;clear b0 b1 b2 b3 b4;obtain⟨w4,hw4⟩:∃w4,w4=w3.alloc (.cells #[.int .i64 fx,.int .i64 fe] 41):=⟨_,rfl⟩;have hL4:aj w3 w4:=by rw[hw4];exact(aj.refl _).alloc _
  have hB4:Below wb.heap.size wb w4:=ak (ak HB2.out hB3 HB2.out.size) hL4.below (Nat.le_trans HB2.out.size hB3.size);have HB4:=au hB4;have HU4:=au (aB.aS (aB.aO HU2.out hB3) hL4);have Kl:Hid (Below w.heap.size w w4):=ak HLb.out.below hB4 (by omega);clear HFC HW2 HB2 HU2
  by_cases h1:fx=0
  ·subst h1;have HX1:Hid (R=if(aR N).1≠0 then(aR N).1 else if okN (countP ss) ⟨K,N,lev,rn,dn⟩=false then 3 else if(N.filter fun f=> !inB K f)≠[] then 8 else 0):=by show _=_;rw[HX0.out];simp
   have BQ:=au (Iz (.slice na N.length nc) N w4 (HN.out.below hB4) HOn.out);obtain⟨sx,sy,hse⟩:∃sx sy,aR N=(sx,sy):=⟨_,_,rfl⟩;rw[hse] at BQ HX1;obtain⟨b0,b1,b2,b3,b4,_,_⟩:=dQ (mO.out _ hB4);rw[hw4] at b0 b1 b2 b3 b4;have HW4:=au hw4;clear hse HX0 hL4 hB3 hB4 hw4
   go_wp2_with fail
   rw[←HW4.out];refine BQ.out.mono ?_;rintro e w5 ⟨rfl,hL5⟩;dsimp only at HX1⊢;clear b0 b1 b2 b3 b4 BQ HW4;obtain⟨w6,hw6⟩:∃w6,w6=w5.alloc (.cells #[.int .i64 sx,.int .i64 sy] 41):=⟨_,rfl⟩;have hL6:aj w5 w6:=by rw[hw6];exact(aj.refl _).alloc _
   have hB6:Below wb.heap.size wb w6:=ak (ak HB4.out hL5.below HB4.out.size) hL6.below (Nat.le_trans HB4.out.size hL5.size);have HU6:=au (aB.aS (aB.aS HU4.out hL5) hL6);have uK:Hid (Below w.heap.size w w6):=ak HLb.out.below hB6 (by omega)
   by_cases h2:sx=0
   ·subst h2;have hX2:R=if okN (countP ss) ⟨K,N,lev,rn,dn⟩=false then 3 else if(N.filter fun f=> !inB K f)≠[] then 8 else 0:=by rw[HX1.out];simp
    unfold okN at hX2;dsimp only at hX2;have HX2:=au hX2;have HS:Hid (∀w',Below w6.heap.size w6 w'→w'.cell? ⟨w.heap.size,0,none⟩=some (.slice ka K.length kc)∧w'.cell? ⟨w.heap.size,1,none⟩=some (.slice na N.length nc)∧w'.cell? ⟨w.heap.size,2,none⟩=some (.int .i64 lev)∧w'.cell? ⟨w.heap.size,3,none⟩=some (.int .i64 rn)∧w'.cell? ⟨w.heap.size,4,none⟩=some (.bool dn)):=fun w' h=>by obtain⟨a0,a1,a2,a3,a4,_,_⟩:=dQ (mO.out _ (ak hB6 h hB6.size));exact⟨a0,a1,a2,a3,a4⟩
    have HCn:Hid (∀w',Below w6.heap.size w6 w'→Calls Tryz.prog 18 #[.slice ua ss.length uc] w' fun e w''=>e=.returned (.int .i64 (countP ss:Nat))∧Below w6.heap.size w6 w''):=fun w' h=>
     (BX ss (.slice ua ss.length uc) w' (aB.aO HU6.out h) HSm.out).mono fun e w'' ⟨he,hw⟩=>⟨he,by rw[hw];exact h⟩
    have HK6:=au (HK.out.below hB6);have HN6:=au (HN.out.below hB6);have HW6:=au hw6;have hcs:countP ss≤1000:=countP_le HSm.out;clear hX2 HX1 hL5 hL6 hB6 hw6 HB4 HU4 Kl mO HV HK HN HOk HOn HLb HSm
    by_cases c1:rn<0
    ·have d1:decide (rn<0)=true:=by simpa using c1
     have HX3:Hid (R=3):=by show _=_;rw[HX2.out,if_pos (by simp;omega)]
     clear HX2;go_wp2;rw[←HW6.out];clear HW6;refine wp_region_held_drew (S:=fun w'=>Below w6.heap.size w6 w') (by kernel_rfl) (Below.refl _ _).drew (fun hHeld=>?_);refine tkY 0 38 hHeld ?_;refine tkY 1 39 hHeld ?_ rfl fun w hSw=>by obtain⟨p0,p1,p2,p3,p4⟩:=HS.out _ hSw;go_simp;try with_reducible rfl
     refine tkY 2 40 hHeld ?_;refine tkY 3 41 hHeld ?_;refine tkN 4 42 hHeld ?_;refine tkN 5 43 hHeld ?_;refine tkN 6 44 hHeld ?_;refine tkY 7 45 hHeld ?_;refine tkY 8 46 hHeld ?_;refine tkN 9 47 hHeld ?_;refine tkN 10 48 hHeld ?_;refine tkN 11 49 hHeld ?_;refine tkY 12 50 hHeld ?_;refine tkY 13 51 hHeld ?_;refine tkN 14 52 hHeld ?_;refine tkN 15 53 hHeld ?_;refine tkN 16 54 hHeld ?_;refine tkN 17 55 hHeld ?_;refine tkN 18 56 hHeld ?_;refine tkY 19 57 hHeld ?_;refine tkY 20 58 hHeld ?_;refine tkN 21 59 hHeld ?_;refine tkN 22 60 hHeld ?_;refine tkN 23 61 hHeld ?_;refine tkN 24 62 hHeld ?_;refine tkN 25 63 hHeld ?_;refine tkN 26 64 hHeld ?_;refine tkN 27 65 hHeld ?_;refine tkN 28 66 hHeld ?_;refine tkY 29 67 hHeld ?_;refine wpAnyH_done (by kernel_rfl) ?_ _;have HBx:Hid (Below w.heap.size w _):=ak uK.out hHeld uK.out.size;clear hHeld;go_wp2;go_ret;exact⟨by rw[HX3.out];rfl,HBx.out⟩
    have d1:decide (rn<0)=false:=by simpa using c1
    by_cases c2:1000<rn
    ·have d2:decide (1000<rn)=true:=by simpa using c2
     have HX3:Hid (R=3):=by show _=_;rw[HX2.out,if_pos (by simp;omega)]
     clear HX2;go_wp2;rw[←HW6.out];clear HW6;refine wp_region_held_drew (S:=fun w'=>Below w6.heap.size w6 w') (by kernel_rfl) (Below.refl _ _).drew (fun hHeld=>?_);refine tkY 0 38 hHeld ?_;refine tkY 1 39 hHeld ?_ rfl fun w hSw=>by obtain⟨p0,p1,p2,p3,p4⟩:=HS.out _ hSw;go_simp;try with_reducible rfl
     refine tkY 2 40 hHeld ?_;refine tkY 3 41 hHeld ?_;refine tkY 4 42 hHeld ?_;refine tkY 5 43 hHeld ?_ rfl fun w hSw=>by obtain⟨p0,p1,p2,p3,p4⟩:=HS.out _ hSw;go_simp;try with_reducible rfl
     refine tkY 6 44 hHeld ?_;refine tkY 7 45 hHeld ?_;refine tkY 8 46 hHeld ?_;refine tkN 9 47 hHeld ?_;refine tkN 10 48 hHeld ?_;refine tkN 11 49 hHeld ?_;refine tkY 12 50 hHeld ?_;refine tkY 13 51 hHeld ?_;refine tkN 14 52 hHeld ?_;refine tkN 15 53 hHeld ?_;refine tkN 16 54 hHeld ?_;refine tkN 17 55 hHeld ?_;refine tkN 18 56 hHeld ?_;refine tkY 19 57 hHeld ?_;refine tkY 20 58 hHeld ?_;refine tkN 21 59 hHeld ?_;refine tkN 22 60 hHeld ?_;refine tkN 23 61 hHeld ?_;refine tkN 24 62 hHeld ?_;refine tkN 25 63 hHeld ?_;refine tkN 26 64 hHeld ?_;refine tkN 27 65 hHeld ?_;refine tkN 28 66 hHeld ?_;refine tkY 29 67 hHeld ?_;refine wpAnyH_done (by kernel_rfl) ?_ _;have HBx:Hid (Below w.heap.size w _):=ak uK.out hHeld uK.out.size;clear hHeld;go_wp2;go_ret;exact⟨by rw[HX3.out];rfl,HBx.out⟩
    have d2:decide (1000<rn)=false:=by simpa using c2
    by_cases c3:lev<0
    ·have d3:decide (lev<0)=true:=by simpa using c3
     have HX3:Hid (R=3):=by show _=_;rw[HX2.out,if_pos (by simp;omega)]
     clear HX2;go_wp2;rw[←HW6.out];clear HW6;refine wp_region_held_drew (S:=fun w'=>Below w6.heap.size w6 w') (by kernel_rfl) (Below.refl _ _).drew (fun hHeld=>?_);refine tkY 0 38 hHeld ?_;refine tkY 1 39 hHeld ?_ rfl fun w hSw=>by obtain⟨p0,p1,p2,p3,p4⟩:=HS.out _ hSw;go_simp;try with_reducible rfl
     refine tkY 2 40 hHeld ?_;refine tkY 3 41 hHeld ?_;refine tkY 4 42 hHeld ?_;refine tkY 5 43 hHeld ?_ rfl fun w hSw=>by obtain⟨p0,p1,p2,p3,p4⟩:=HS.out _ hSw;go_simp;try with_reducible rfl
     refine tkY 6 44 hHeld ?_;refine tkY 7 45 hHeld ?_;refine tkY 8 46 hHeld ?_;refine tkY 9 47 hHeld ?_;refine tkY 10 48 hHeld ?_ rfl fun w hSw=>by obtain⟨p0,p1,p2,p3,p4⟩:=HS.out _ hSw;go_simp;try with_reducible rfl
     refine tkY 11 49 hHeld ?_;refine tkY 12 50 hHeld ?_;refine tkY 13 51 hHeld ?_;refine tkN 14 52 hHeld ?_;refine tkN 15 53 hHeld ?_;refine tkN 16 54 hHeld ?_;refine tkN 17 55 hHeld ?_;refine tkN 18 56 hHeld ?_;refine tkY 19 57 hHeld ?_;refine tkY 20 58 hHeld ?_;refine tkN 21 59 hHeld ?_;refine tkN 22 60 hHeld ?_;refine tkN 23 61 hHeld ?_;refine tkN 24 62 hHeld ?_;refine tkN 25 63 hHeld ?_;refine tkN 26 64 hHeld ?_;refine tkN 27 65 hHeld ?_;refine tkN 28 66 hHeld ?_;refine tkY 29 67 hHeld ?_;refine wpAnyH_done (by kernel_rfl) ?_ _;have HBx:Hid (Below w.heap.size w _):=ak uK.out hHeld uK.out.size;clear hHeld;go_wp2;go_ret;exact⟨by rw[HX3.out];rfl,HBx.out⟩
    have d3:decide (lev<0)=false:=by simpa using c3
    generalize hcc:countP ss=cc at*;clear hcc
    by_cases c4:(cc:Int)<lev
    ·have d4:decide ((cc:Int)<lev)=true:=by simpa using c4
     have HX3:Hid (R=3):=by show _=_;rw[HX2.out,if_pos (by simp;omega)]
     clear HX2;go_wp2;rw[←HW6.out];clear HW6;refine wp_region_held_drew (S:=fun w'=>Below w6.heap.size w6 w') (by kernel_rfl) (Below.refl _ _).drew (fun hHeld=>?_);refine tkY 0 38 hHeld ?_;refine tkY 1 39 hHeld ?_ rfl fun w hSw=>by obtain⟨p0,p1,p2,p3,p4⟩:=HS.out _ hSw;go_simp;try with_reducible rfl
     refine tkY 2 40 hHeld ?_;refine tkY 3 41 hHeld ?_;refine tkY 4 42 hHeld ?_;refine tkY 5 43 hHeld ?_ rfl fun w hSw=>by obtain⟨p0,p1,p2,p3,p4⟩:=HS.out _ hSw;go_simp;try with_reducible rfl
     refine tkY 6 44 hHeld ?_;refine tkY 7 45 hHeld ?_;refine tkY 8 46 hHeld ?_;refine tkY 9 47 hHeld ?_;refine tkY 10 48 hHeld ?_ rfl fun w hSw=>by obtain⟨p0,p1,p2,p3,p4⟩:=HS.out _ hSw;go_simp;try with_reducible rfl
     refine tkY 11 49 hHeld ?_;refine tkY 12 50 hHeld ?_;refine tkY 13 51 hHeld ?_;refine tkY 14 52 hHeld ?_;refine tkY 15 53 hHeld ?_ rfl fun w hSw=>by obtain⟨p0,p1,p2,p3,p4⟩:=HS.out _ hSw;go_simp;try with_reducible rfl
     refine tkY 16 54 hHeld ?_;refine tkC 17 fun K hK=>?_;go_simp;refine(HCn.out _ hHeld).mono ?_;rintro e wc ⟨rfl,hBc⟩;refine hK.out _ _ hBc (fun hHeld=>?_);clear hK K;clear hHeld;have hHeld:=hBc;clear hBc;refine tkY 18 56 hHeld ?_;refine tkY 19 57 hHeld ?_;refine tkY 20 58 hHeld ?_;refine tkN 21 59 hHeld ?_;refine tkN 22 60 hHeld ?_;refine tkN 23 61 hHeld ?_;refine tkN 24 62 hHeld ?_;refine tkN 25 63 hHeld ?_;refine tkN 26 64 hHeld ?_;refine tkN 27 65 hHeld ?_;refine tkN 28 66 hHeld ?_;refine tkY 29 67 hHeld ?_;refine wpAnyH_done (by kernel_rfl) ?_ _;have HBx:Hid (Below w.heap.size w _):=ak uK.out hHeld uK.out.size;clear hHeld;go_wp2;go_ret;exact⟨by rw[HX3.out];rfl,HBx.out⟩
    have d4:decide ((cc:Int)<lev)=false:=by simpa using c4
    have HX4:Hid (R=if(dn != (lev==(cc:Int)))=true then 3 else if(N.filter fun f=> !inB K f)≠[] then 8 else 0):=by
     show _=_;rw[HX2.out];have e1:(decide (0≤rn)&&decide (rn≤1000))=true:=by simp;omega
     have e2:(decide (0≤lev)&&decide (lev≤(cc:Int)))=true:=by simp;omega
     rw[e1,e2];cases(dn != (lev==(cc:Int))) <;> rfl
    clear HX2;generalize hC:(dn != (lev==(cc:Int)))=C at*;have hC2:(!(dn==(lev==(cc:Int))))=C:=hC;clear hC;cases C with
    |true=>
     have HX3:Hid (R=3):=by show _=_;rw[HX4.out];rfl
     clear HX4;go_wp2;rw[←HW6.out];clear HW6;refine wp_region_held_drew (S:=fun w'=>Below w6.heap.size w6 w') (by kernel_rfl) (Below.refl _ _).drew (fun hHeld=>?_);refine tkY 0 38 hHeld ?_;refine tkY 1 39 hHeld ?_ rfl fun w hSw=>by obtain⟨p0,p1,p2,p3,p4⟩:=HS.out _ hSw;go_simp;try with_reducible rfl
     refine tkY 2 40 hHeld ?_;refine tkY 3 41 hHeld ?_;refine tkY 4 42 hHeld ?_;refine tkY 5 43 hHeld ?_ rfl fun w hSw=>by obtain⟨p0,p1,p2,p3,p4⟩:=HS.out _ hSw;go_simp;try with_reducible rfl
     refine tkY 6 44 hHeld ?_;refine tkY 7 45 hHeld ?_;refine tkY 8 46 hHeld ?_;refine tkY 9 47 hHeld ?_;refine tkY 10 48 hHeld ?_ rfl fun w hSw=>by obtain⟨p0,p1,p2,p3,p4⟩:=HS.out _ hSw;go_simp;try with_reducible rfl
     refine tkY 11 49 hHeld ?_;refine tkY 12 50 hHeld ?_;refine tkY 13 51 hHeld ?_;refine tkY 14 52 hHeld ?_;refine tkY 15 53 hHeld ?_ rfl fun w hSw=>by obtain⟨p0,p1,p2,p3,p4⟩:=HS.out _ hSw;go_simp;try with_reducible rfl
     refine tkY 16 54 hHeld ?_;refine tkC 17 fun K hK=>?_;go_simp;refine(HCn.out _ hHeld).mono ?_;rintro e wc ⟨rfl,hBc⟩;refine hK.out _ _ hBc (fun hHeld=>?_);clear hK K;clear hHeld;have hHeld:=hBc;clear hBc;refine tkY 18 56 hHeld ?_;refine tkY 19 57 hHeld ?_;refine tkY 20 58 hHeld ?_;refine tkY 21 59 hHeld ?_;refine tkY 22 60 hHeld ?_ rfl fun w hSw=>by obtain⟨p0,p1,p2,p3,p4⟩:=HS.out _ hSw;go_simp;try with_reducible rfl
     refine tkY 23 61 hHeld ?_;refine tkY 24 62 hHeld ?_ rfl fun w hSw=>by obtain⟨p0,p1,p2,p3,p4⟩:=HS.out _ hSw;go_simp;try with_reducible rfl
     refine tkY 25 63 hHeld ?_;refine tkC 26 fun K hK=>?_;go_simp;refine(HCn.out _ hHeld).mono ?_;rintro e wc ⟨rfl,hBc⟩;refine hK.out _ _ hBc (fun hHeld=>?_);clear hK K;clear hHeld;have hHeld:=hBc;clear hBc;refine tkY 27 65 hHeld ?_;refine tkY 28 66 hHeld ?_;refine tkY 29 67 hHeld ?_;refine wpAnyH_done (by kernel_rfl) ?_ _;have HBx:Hid (Below w.heap.size w _):=ak uK.out hHeld uK.out.size;clear hHeld;go_wp2;go_ret;exact⟨by rw[HX3.out];rfl,HBx.out⟩
    |false=>
     have HX5:Hid (R=if(N.filter fun f=> !inB K f)≠[] then 8 else 0):=by show _=_;rw[HX4.out];rfl
     clear HX4;go_wp2;rw[←HW6.out];clear HW6;refine wp_region_held_drew (S:=fun w'=>Below w6.heap.size w6 w') (by kernel_rfl) (Below.refl _ _).drew (fun hHeld=>?_);refine tkY 0 38 hHeld ?_;refine tkY 1 39 hHeld ?_ rfl fun w hSw=>by obtain⟨p0,p1,p2,p3,p4⟩:=HS.out _ hSw;go_simp;try with_reducible rfl
     refine tkY 2 40 hHeld ?_;refine tkY 3 41 hHeld ?_;refine tkY 4 42 hHeld ?_;refine tkY 5 43 hHeld ?_ rfl fun w hSw=>by obtain⟨p0,p1,p2,p3,p4⟩:=HS.out _ hSw;go_simp;try with_reducible rfl
     refine tkY 6 44 hHeld ?_;refine tkY 7 45 hHeld ?_;refine tkY 8 46 hHeld ?_;refine tkY 9 47 hHeld ?_;refine tkY 10 48 hHeld ?_ rfl fun w hSw=>by obtain⟨p0,p1,p2,p3,p4⟩:=HS.out _ hSw;go_simp;try with_reducible rfl
     refine tkY 11 49 hHeld ?_;refine tkY 12 50 hHeld ?_;refine tkY 13 51 hHeld ?_;refine tkY 14 52 hHeld ?_;refine tkY 15 53 hHeld ?_ rfl fun w hSw=>by obtain⟨p0,p1,p2,p3,p4⟩:=HS.out _ hSw;go_simp;try with_reducible rfl
     refine tkY 16 54 hHeld ?_;refine tkC 17 fun K hK=>?_;go_simp;refine(HCn.out _ hHeld).mono ?_;rintro e wc ⟨rfl,hBc⟩;refine hK.out _ _ hBc (fun hHeld=>?_);clear hK K;clear hHeld;have hHeld:=hBc;clear hBc;refine tkY 18 56 hHeld ?_;refine tkY 19 57 hHeld ?_;refine tkY 20 58 hHeld ?_;refine tkY 21 59 hHeld ?_;refine tkY 22 60 hHeld ?_ rfl fun w hSw=>by obtain⟨p0,p1,p2,p3,p4⟩:=HS.out _ hSw;go_simp;try with_reducible rfl
     refine tkY 23 61 hHeld ?_;refine tkY 24 62 hHeld ?_ rfl fun w hSw=>by obtain⟨p0,p1,p2,p3,p4⟩:=HS.out _ hSw;go_simp;try with_reducible rfl
     refine tkY 25 63 hHeld ?_;refine tkC 26 fun K hK=>?_;go_simp;refine(HCn.out _ hHeld).mono ?_;rintro e wc ⟨rfl,hBc⟩;refine hK.out _ _ hBc (fun hHeld=>?_);clear hK K;clear hHeld;have hHeld:=hBc;clear hBc;refine tkY 27 65 hHeld ?_;refine tkY 28 66 hHeld ?_;refine tkY 29 67 hHeld ?_;refine wpAnyH_done (by kernel_rfl) ?_ _;have HBx:Hid (Below w.heap.size w _):=ak uK.out hHeld uK.out.size;have HH:=au hHeld;obtain⟨p0,p1,p2,p3,p4⟩:=HS.out _ hHeld;obtain⟨na',nc',e1,hNl,hz⟩:=HN6.out.addr;simp only[Value.slice.injEq] at e1;obtain⟨rfl,_,rfl⟩:=e1;clear hHeld HCn HBx;go_wp2
     go_loopg [71] N.length (fun g i wr=>∃j:Nat,j+g=N.length∧i=.int .i64 j∧Hid (Below w6.heap.size w6 wr)∧Hid ((N.filter fun f=> !inB K f)=(N.drop j).filter fun f=> !inB K f))
     case atStart=>exact⟨0,by omega,rfl,HH,(rfl:_=_)⟩
     clear HH p0 p1 p2 p3 p4;obtain⟨j,hj,rfl,HB,HF⟩:=hrel;obtain⟨p0,p1,p2,p3,p4⟩:=HS.out _ HB.out;have HBx:Hid (Below w.heap.size w wr):=ak uK.out HB.out uK.out.size
     by_cases hlt:j<N.length
     ·rcases hz with rfl|⟨b,off,rfl⟩;·simp at hlt
      have hltz:(j:Int)<(N.length:Int):=by omega
      obtain⟨hb,ax,lx,cx,g1,g2,fx⟩:=(HN6.out.below HB.out).at hlt;have hgd:N[j]?=some (N.getD j aA):=by rw[List.getD_eq_getElem?_getD,List.getElem?_eq_getElem hlt];rfl
      have hdr:(N.drop j).filter (fun f=> !inB K f)=if inB K (N.getD j aA) then(N.drop (j+1)).filter (fun f=> !inB K f) else N.getD j aA::(N.drop (j+1)).filter (fun f=> !inB K f):=by obtain⟨h1,e1⟩:=List.getElem?_eq_some_iff.1 hgd;rw[List.drop_eq_getElem_cons h1,e1,List.filter_cons];cases inB K (N.getD j aA) <;> rfl
      obtain⟨w8,hw8⟩:∃w8,w8=wr.alloc (.cells #[.string (N.getD j aA).1,.slice ax lx cx] 50):=⟨_,rfl⟩;have hL8:aj wr w8:=by rw[hw8];exact(aj.refl _).alloc _
      have hB8:Below w6.heap.size w6 w8:=ak HB.out hL8.below HB.out.size;have hIn:=rIn _ _ K (N.getD j aA) w8 (HK6.out.below hB8) (fx.later hL8);rw[Fx] at hIn;have HIn:=au hIn;have HB8:=au hB8;have HW8:=au hw8;obtain⟨s0,_,_,_,_⟩:=HS.out _ hB8;rw[hw8] at s0;cases hib:inB K (N.getD j aA) with
      |true=>
       rw[hib] at HIn;have HF':Hid ((N.filter fun f=> !inB K f)=(N.drop (j+1)).filter fun f=> !inB K f):=by show _=_;rw[HF.out,hdr,hib];rfl
       clear hib hdr hgd fx hIn hB8 hL8 hw8;generalize(N.getD j aA).1=nm at*
       go_wp2_with fail
       rw[←HW8.out];refine HIn.out.mono ?_;rintro e w9 ⟨rfl,hL9⟩;have HB9:Hid (Below w6.heap.size w6 w9):=ak HB8.out hL9.below HB8.out.size;clear hL9 HIn HW8;go_wp2
       go_roundg (N.length- (j+1))
       case measure=>omega
       case rel=>exact⟨j+1,by omega,by go_num,HB9,HF'⟩
      |false=>
       rw[hib] at HIn;have HX3:Hid (R=8):=by show _=_;rw[HX5.out,HF.out,hdr,hib];rfl
       clear hib hdr hgd fx hIn hB8 hL8 hw8;generalize(N.getD j aA).1=nm at*
       go_wp2_with fail
       rw[←HW8.out];refine HIn.out.mono ?_;rintro e w9 ⟨rfl,hL9⟩;have HB9:Hid (Below w.heap.size w w9):=ak uK.out (ak HB8.out hL9.below HB8.out.size) uK.out.size;clear hL9 HIn HW8;go_wp2;go_ret;exact⟨by rw[HX3.out];rfl,HB9.out⟩
     have HX3:Hid (R=0):=by show _=_;rw[HX5.out,HF.out,List.drop_eq_nil_of_le (by omega)];rfl
     go_wp2;go_ret;exact⟨by rw[HX3.out];rfl,HBx.out⟩
   have HX2:Hid (R=sx):=by show _=_;rw[HX1.out,if_pos h2]
   have hne:(sx != 0)=true:=by simpa using h2
   rw[hw6] at uK;clear h2 hw6 hL6 hL5 hB6;go_wp2;go_ret;exact⟨by rw[HX2.out];rfl,uK.out⟩
  have HX1:Hid (R=fx):=by show _=_;rw[HX0.out,if_pos h1]
  have hne:(fx != 0)=true:=by simpa using h1
  rw[hw4] at Kl;clear h1 hw4 hL4 hB4;go_wp2;go_ret;exact⟨by rw[HX1.out];rfl,Kl.out⟩
 have HX1:Hid (R=ex):=by
  show _=_;have e:j5 p K=ex:=by unfold j5;rw[HSE.out];simp[h0]
  rw[HX.out,e,if_pos h0]
 have hne:(ex != 0)=true:=by simpa using h0
 have HBw:Hid (Below w.heap.size w (w1.alloc (.cells #[.int .i64 ex,.int .i64 (ea:Nat)] 41))):=ak HLb.out.below (ak HB1.out ((aj.refl _).alloc _).below HB1.out.size) (by omega);clear h0 HX HSE;go_wp2;go_ret;exact⟨by rw[HX1.out];rfl,HBw.out⟩
theorem Ah {r:aD} {pick:Nat→List aF} {ms:List (List aI)} (hm:eu pick 0 r.body [[]]=some ms):
  ∃R,mK pick r.body=some R∧∀f,f∈R.filterMap (fun e=>bf r.head e)↔f∈(ms.filter fun l=> !barredB pick 0 r.body l).filterMap fun l=>bf r.head l:=by
 have hk:∀l∈ms,(bU l).Nodup:=fun l hl=>by rw[((mU pick r.body 0 [[]] ms [] (fun x hx=>by simp at hx;subst hx;rfl) hm l).1 hl).2.1];exact ig r.body
 refine⟨_,by unfold mK;rw[hm],fun f=>?_⟩;rw[List.mem_filterMap,List.mem_filterMap]
 constructor
 ·rintro⟨a,ha,hf⟩;obtain⟨l,hl,rfl⟩:=List.mem_map.1 ((bF _).mem_iff.1 ha);refine⟨l,hl,?_⟩;rw[jd (bF (c:=uZ) l).symm (hk l (List.mem_filter.1 hl).1)];exact hf
 rintro⟨l,hl,hf⟩;refine⟨jg l,(bF _).mem_iff.2 (List.mem_map.2 ⟨l,hl,rfl⟩),?_⟩;rw[←jd (bF (c:=uZ) l).symm (hk l (List.mem_filter.1 hl).1)];exact hf
theorem Cw {K N:List aF} {x:aD} {q:Nat} {a:aJ} {acc:List aF} (hx:x.body[q]?=some a):jK K N x q (x.body.drop q) acc=if a.no then jK K N x (q+1) (x.body.drop (q+1)) acc else match mK (bW K (q:Nat) N) x.body with|none=>none|some R=>jK K N x (q+1) (x.body.drop (q+1)) (acc++R.filterMap fun e=>bf x.head e):=by
 obtain⟨h1,e1⟩:=List.getElem?_eq_some_iff.1 hx;rw[List.drop_eq_getElem_cons h1,e1,jK]
 all_goals rfl
def eZ (a b:Option (List aF)):Prop:=match a,b with
 |none,none=>True
 |some x,some y=>∀f,f∈x↔f∈y
 |_,_=>False
theorem mI {K N:List aF} {x:aD}:∀(l:List aJ) (q:Nat) {a b:List aF},(∀f,f∈a↔f∈b)→eZ (jK K N x q l a) (jK K N x q l b)
 |[],_,_,_,h=>h
 |c::l,q,a,b,h=>by
  unfold jK;split;·exact mI l (q+1) h
  cases mK (bW K q N) x.body with
  |none=>trivial
  |some R=>exact mI l (q+1) fun f=>by rw[List.mem_append,List.mem_append,h f]
theorem Cx {K N:List aF} {x:aD} {a b:List aF} (h:∀f,f∈a↔f∈b):eZ (nE K N x a) (nE K N x b):=by
 unfold nE;split
 ·cases gY x K with
  |none=>trivial
  |some y=>exact fun f=>by rw[List.mem_append,List.mem_append,h f]
 exact mI _ 0 h
theorem kg {K N:List aF} {st:Int}:∀(p:List aD) (ss:List Nat) {a b:List aF},(∀f,f∈a↔f∈b)→eZ (bq K N st p ss a) (bq K N st p ss b)
 |[],_,_,_,h=>by simp only[bq];exact h
 |_::_,[],_,_,h=>by simp only[bq];exact h
 |r::p,s::ss,a,b,h=>by
  simp only[bq];split
  ·have hs:=Cx (K:=K) (N:=N) (x:=r) h;cases ea:nE K N r a with
   |none=>
    rw[ea] at hs;cases eb:nE K N r b with
    |none=>trivial
    |some y=>rw[eb] at hs;exact hs.elim
   |some x=>
    rw[ea] at hs;cases eb:nE K N r b with
    |none=>rw[eb] at hs;exact hs.elim
    |some y=>rw[eb] at hs;exact kg p ss hs
  exact kg p ss h
theorem eZ.refl:∀a,eZ a a
 |none=>trivial
 |some _=>fun _=>Iff.rfl
theorem eZ.trans:∀{a b c},eZ a b→eZ b c→eZ a c
 |none,none,none,_,_=>trivial
 |some _,some _,some _,h,k=>fun f=>(h f).trans (k f)
 |none,some _,_,h,_=>h.elim
 |some _,none,_,h,_=>h.elim
 |none,none,some _,_,k=>k.elim
 |some _,some _,none,_,k=>k.elim
theorem eZ.none {a:Option (List aF)} (h:eZ a none):a=none:=by
 cases a with
 |none=>rfl
 |some _=>exact h.elim
theorem eZ.some {a:Option (List aF)} {y:List aF} (h:eZ a (some y)):∃x,a=some x∧∀f,f∈x↔f∈y:=by
 cases a with
 |none=>exact h.elim
 |some x=>exact⟨x,rfl,h⟩
theorem Ai {p:List aD} {ss:List Nat} {K N M:List aF} {lev rn:Int} (hrn:rn≠1000) (h:eZ (bq K N lev p ss []) (some M)):
  fB p ss ⟨K,N,lev,rn,false⟩=if 200<(bY (K++M)).length then(5,cK) else
   if gB K M=[] then(0,⟨bY (K++M),bY (K++M),lev+1,rn+1,decide (lev+1=countP ss)⟩) else(0,⟨bY (K++M),gB K M,lev,rn+1,false⟩):=by
 obtain⟨x,hx,hm⟩:=h.some;have e1:bY (K++x)=bY (K++M):=jh fun f=>by rw[List.mem_append,List.mem_append,hm f]
 have e2:gB K x=gB K M:=jh fun f=>by rw[List.mem_filter,List.mem_filter,hm f]
 unfold fB;rw[if_neg hrn,hx];dsimp only;rw[e1,e2]
theorem rY {p:List aD} {ss:List Nat} {K N:List aF} {lev rn:Int} (hrn:rn≠1000) (h:bq K N lev p ss []=none):fB p ss ⟨K,N,lev,rn,false⟩=(4,cK):=by unfold fB;rw[if_neg hrn,h]
theorem wK {p:List aD} {ss:List Nat} {r:gM} (hd:r.done=false):cZ p ss 1 r=fB p ss r:=by
 rw[show(1:Nat)=0+1 from rfl,nH hd];rcases yQ (p:=p) (ss:=ss) (r:=r) with h|h|h
 ·rw[if_neg (by simp[h])];exact Prod.ext h.symm rfl
 ·rw[h];rfl
 rw[h];rfl
theorem Cy {K N:List aF} {x:aD} {M:List aF} (h:∃b∈x.body,b.no=false):nE K N x M=jK K N x 0 x.body M:=by obtain⟨b,hb,hn⟩:=h;unfold nE;rw[if_neg];intro hall;have:=List.all_eq_true.1 hall b hb;rw[hn] at this;cases this
theorem Cz {K N:List aF} {x:aD} {M:List aF} (h:∀b∈x.body,b.no=true):nE K N x M=match gY x K with|none=>none|some y=>some (M++y):=by unfold nE;rw[if_pos (List.all_eq_true.2 fun b hb=>h b hb)];cases gY x K <;> rfl
theorem CB {K N:List aF} {st:Int} {p:List aD} {ss:List Nat} {a:Option (List aF)} {T:Option (List aF)} {y:List aF} (h:eZ T (match a with|none=>none|some z=>bq K N st p ss z)) (hy:eZ a (some y)):eZ T (bq K N st p ss y):=by obtain⟨z,rfl,hz⟩:=hy.some;exact h.trans (kg p ss hz)
theorem wL {K N:List aF} {st:Int} {p:List aD} {ss:List Nat} {a:Option (List aF)} {T:Option (List aF)} (h:eZ T (match a with|none=>none|some z=>bq K N st p ss z)) (hy:a=none):T=none:=by subst hy;exact h.none
theorem qx {w:World} {v:Value} {l:List aG} (h:Facts w v l) (q:Nat):Facts (w.drewN q) v l:=h.below ⟨rfl,rfl,rfl,Nat.le_refl _,fun _ _=>rfl⟩
theorem IV (p:List aD) (r:gM) (pv kv nv:Value) (w:World) (hv:iy.sl bT w pv p) (hk:Facts w kv r.known) (hn:Facts w nv r.fresh) (hlg:∀r∈p,wD r) (hok:∀k,okF (r.known.getD k aA)) (hon:∀k,okF (r.fresh.getD k aA)):
  Calls Tryz.prog 10 #[pv,.agg #[kv,nv,.int .i64 r.level,.int .i64 r.rounds,.bool r.done]] w fun e w'=>∃v' er,e=.returned (.tuple #[v',.int .i64 er])∧Kk w' v' er (dB p r 1)∧Below w.heap.size w w':=by
 obtain⟨K,N,lev,rn,dn⟩:=r;dsimp only at*;obtain⟨pa,pc,rfl⟩:=aB.slice hv;obtain⟨ka,kc,rfl⟩:=aC hk;obtain⟨na,nc,rfl⟩:=aC hn;obtain⟨w2,hw2⟩:∃w2,w2=(w.alloc (.cells #[.slice ka K.length kc,.slice na N.length nc,.int .i64 lev,.int .i64 rn,.bool dn] 26)).alloc (.cells #[.slice none 0 0,.slice none 0 0,.int .i64 0,.int .i64 0,.bool false] 26):=⟨_,rfl⟩;have hL2:aj w w2:=by rw[hw2];exact((aj.refl w).alloc _).alloc _
 have hz2:w2.heap.size=w.heap.size+2:=by rw[hw2];simp
 have hrb:w2.heap[w.heap.size]?=some (.cells #[.slice ka K.length kc,.slice na N.length nc,.int .i64 lev,.int .i64 rn,.bool dn] 26 (0,0)):=by rw[hw2,Below.heap_alloc _ _ _ (by simp)];exact heap_alloc_new w _
 have hrs:w2.heap[w.heap.size+1]?=some (.cells #[.slice none 0 0,.slice none 0 0,.int .i64 0,.int .i64 0,.bool false] 26 (0,0)):=by have:=heap_alloc_new (w.alloc (.cells #[.slice ka K.length kc,.slice na N.length nc,.int .i64 lev,.int .i64 rn,.bool dn] 26)) (.cells #[.slice none 0 0,.slice none 0 0,.int .i64 0,.int .i64 0,.bool false] 26);rw[hw2];simpa using this
 have HWr:=au (qw p ⟨K,N,lev,rn,dn⟩ (.slice pa p.length pc) (.slice ka K.length kc) (.slice na N.length nc) w2 (aB.aS hv hL2) (hk.later hL2) (hn.later hL2) hlg hok hon);have HV:=au hv;have HK:=au hk;have HN:=au hn;have HLg:=au hlg;have HL2:=au hL2;have HRb:=au hrb;have HRs:=au hrs;have HW2:=au hw2;have HX:Hid (dB p ⟨K,N,lev,rn,dn⟩ 1=if aX p ⟨K,N,lev,rn,dn⟩≠0 then(aX p ⟨K,N,lev,rn,dn⟩,cK) else cZ p (aK p).1 1 ⟨K,N,lev,rn,dn⟩):=(rfl:_=_);have HGo:Hid (aX p ⟨K,N,lev,rn,dn⟩=0→fG p∧jG p (countP (aK p).1) ⟨K,N,lev,rn,dn⟩∧(aK p).1.length=p.length∧∀s∈(aK p).1,s<1000):=fun h=>by obtain⟨h1,h2⟩:=gu h;obtain⟨hp,_,τ,_,hs,ht⟩:=iF h1;refine⟨hp,h2,by rw[hs];simp,fun s hs'=>?_⟩;rw[hs] at hs';obtain⟨q,hq,rfl⟩:=List.mem_map.1 hs';have:=ht q hq;omega
 generalize dB p ⟨K,N,lev,rn,dn⟩ 1=SF at*;generalize aX p ⟨K,N,lev,rn,dn⟩=R at*;clear hv hk hn hL2 hrb hrs hw2 hlg hok hon
 go_enter Tryz.func10,Tryz.ntmps10
 go_wp2_with fail
 rw[←HW2.out];refine HWr.out.mono ?_;rintro e w3 ⟨rfl,hB3⟩;have HB3:Hid (Below w.heap.size w w3):=ak HL2.out.below hB3 HL2.out.size;have xP:Hid (w3.heap[w.heap.size]?=some (.cells #[.slice ka K.length kc,.slice na N.length nc,.int .i64 lev,.int .i64 rn,.bool dn] 26 (0,0))):=by show _=_;rw[hB3.block _ (by omega)];exact HRb.out
 have nY:Hid (w3.heap[w.heap.size+1]?=some (.cells #[.slice none 0 0,.slice none 0 0,.int .i64 0,.int .i64 0,.bool false] 26 (0,0))):=by show _=_;rw[hB3.block _ (by omega)];exact HRs.out
 have hz3:w.heap.size+2≤w3.heap.size:=by have:=hB3.size;omega
 clear hB3 HWr HW2 HRb HRs HL2 hz2 w2;obtain⟨b0,b1,b2,b3,b4,_,_⟩:=dQ xP.out;obtain⟨q0,q1,q2,q3,q4,⟨f0,f1,f2,f3,f4⟩,_⟩:=dQ nY.out
 by_cases h0:R=0
 ·subst h0;obtain⟨hp,hRN,hsl,hsm⟩:=HGo.out rfl;have HX1:Hid (SF=cZ p (aK p).1 1 ⟨K,N,lev,rn,dn⟩):=by show _=_;rw[HX.out];simp
  have hrnd:=hRN.rnd;have Ja:=hRN.lev;dsimp only at hrnd Ja;have hcs:countP (aK p).1≤1000:=countP_le hsm;cases dn with
  |true=>
   have HX2:Hid (SF=(0,⟨K,N,lev,rn,true⟩)):=by show _=_;rw[HX1.out];exact nG rfl 1
   have HKp:=au (bD (aZ nY.out) (bA w3 (w.heap.size+1) (.slice ka K.length kc) (.slice na N.length nc) (.int .i64 lev) (.int .i64 rn) (.bool true)) (HK.out.below HB3.out));have HNp:=au (bD (aZ nY.out) (bA w3 (w.heap.size+1) (.slice ka K.length kc) (.slice na N.length nc) (.int .i64 lev) (.int .i64 rn) (.bool true)) (HN.out.below HB3.out));clear HX HX1 HGo hp hRN hsm hsl;go_wp2;obtain⟨r0,r1,r2,r3,r4⟩:=lI nY.out (.slice ka K.length kc) (.slice na N.length nc) (.int .i64 lev) (.int .i64 rn) (.bool true);exact bodyPost_ret (v:=.tuple #[.agg #[.slice ka K.length kc,.slice na N.length nc,.int .i64 lev,.int .i64 rn,.bool true],.int .i64 0]) (by simp[results,Tryz.results10,go_sem,r0,r1,r2,r3,r4]) rfl ⟨_,0,rfl,by rw[HX2.out];exact⟨rfl,_,_,rfl,HKp.out,HNp.out⟩,Below.cO HB3.out (Nat.le_succ _)⟩
  |false=>
   have HX2:Hid (SF=fB p (aK p).1 ⟨K,N,lev,rn,false⟩):=by show _=_;rw[HX1.out];exact wK rfl
   by_cases h1:1000≤rn
   ·have HX3:Hid (SF=(5,cK)):=by
     show _=_;rw[HX2.out];unfold fB;rw[if_pos (by dsimp only;omega)]
    clear HX HX1 HX2 HGo hp hRN hsm hsl;go_wp2;obtain⟨r0,r1,r2,r3,r4⟩:=lI nY.out (.slice none 0 0) (.slice none 0 0) (.int .i64 0) (.int .i64 0) (.bool false);exact bodyPost_ret (v:=.tuple #[.agg #[.slice none 0 0,.slice none 0 0,.int .i64 0,.int .i64 0,.bool false],.int .i64 5]) (by simp[results,Tryz.results10,go_sem,r0,r1,r2,r3,r4]) rfl ⟨_,5,rfl,by rw[HX3.out];exact⟨rfl,qL.none _⟩,Below.cO HB3.out (Nat.le_succ _)⟩
   have HSt:=au (xX p (.slice pa p.length pc) w3 (aB.aO HV.out HB3.out) HLg.out);have hrn:rn≠1000:=by omega
   have HRn:=au hrn;have HRP:=au hp;have HRN:=au hRN;have HSm:=au hsm;obtain⟨ss,ex,ea,hse⟩:∃ss ex ea,aK p=(ss,ex,ea):=⟨_,_,_,rfl⟩;rw[hse] at HSt HX2 HSm hcs Ja hsl;have HSL:=au hsl;have HKs:Hid ((aR K).1=0):=by show _=_;rw[fI hRN.good.up hRN.good.right hRN.good.few]
   have HNs:Hid ((aR N).1=0):=by show _=_;rw[fI hRN.up (fun f hf=>hRN.good.right f (hRN.sub f hf)) (Nat.le_trans (vo hRN.up hRN.sub) hRN.good.few)]
   have hWB:aM=aM:=rfl;have h16:=hp.few;clear HX HX1 HGo hp hRN hsm hrn hse hsl hWB
   go_wp2_with fail
   refine HSt.out.mono ?_;rintro e w4 ⟨u,rfl,hu,hB4⟩;dsimp only at hu⊢;obtain⟨ua,uc,rfl⟩:=aB.slice hu;obtain⟨w5,hw5⟩:∃w5,w5=w4.alloc (.cells #[.int .i64 ex,.int .i64 (ea:Nat)] 41):=⟨_,rfl⟩;have hL5:aj w4 w5:=by rw[hw5];exact(aj.refl _).alloc _
   have Gd:Below w3.heap.size w3 w5:=ak hB4 hL5.below hB4.size;have HB5:Hid (Below w.heap.size w w5):=ak HB3.out Gd HB3.out.size;have HU5:=au (aB.aS (aB.dO hu) hL5);have HV5:=au (aB.aO HV.out HB5.out);have HK5:=au (HK.out.below HB5.out);have HN5:=au (HN.out.below HB5.out);have mO:Hid (∀w',Below w5.heap.size w5 w'→w'.heap[w.heap.size]?=some (.cells #[.slice ka K.length kc,.slice na N.length nc,.int .i64 lev,.int .i64 rn,.bool false] 26 (0,0))∧w'.heap[w.heap.size+1]?=some (.cells #[.slice none 0 0,.slice none 0 0,.int .i64 0,.int .i64 0,.bool false] 26 (0,0))):=fun w' h=>
    ⟨by rw[(ak Gd h Gd.size).block _ (by omega)];exact xP.out,by rw[(ak Gd h Gd.size).block _ (by omega)];exact nY.out⟩
   have hz5:w.heap.size+2≤w5.heap.size:=by have:=Gd.size;omega
   have HW5:=au hw5;clear hu hB4 hL5 Gd hw5 HSt xP nY HB3 HV HK HN b0 b1 b2 b3 b4 q0 q1 q2 q3 q4 f0 f1 f2 f3 f4;go_wp2;rw[←HW5.out];clear HW5
   go_loopg [9,41] p.length (fun g v i wr=>∃j:Nat,j+g=p.length∧i=.int .i64 j∧∃M:List aF,Hid (fM wr v M)∧Hid (Up M)∧M.length≤200000*j∧Hid (Below w5.heap.size w5 wr)∧Hid (eZ (bq K N lev p ss []) (bq K N lev (p.drop j) (ss.drop j) M)))
   case atStart=>exact⟨0,by omega,rfl,[],⟨jm _,Or.inl ⟨rfl,rfl⟩⟩,List.Pairwise.nil,by simp,Below.refl _ _,eZ.refl _⟩
   obtain⟨j,hj,rfl,M,HM,HU,hMl,HB,HS⟩:=hrel;have hMs:∃a n c,u9=.slice a n c:=by obtain⟨a,c,e⟩:=aC HM.out.1;exact⟨a,_,c,e⟩
   have HRr:=au (mO.out _ HB.out);have HBw:Hid (Below w.heap.size w wr):=ak HB5.out HB.out HB5.out.size;have hzr:=HB.out.size
   by_cases hlt:j<p.length
   ·obtain⟨x,hx⟩:∃y,p[j]?=some y:=⟨_,List.getElem?_eq_getElem hlt⟩;have hxm:x∈p:=List.mem_of_getElem? hx;obtain⟨b1,o1,_,rfl,hb1,⟨tv,bv,rfl,htv,hbv⟩,hc⟩:=aB.bR HV5.out hx;have d0:wr.cell? ⟨b1,o1+j*4,none⟩=some (.bool x.head.no):=by rw[HB.out.cell (p:=⟨b1,o1+j*4,none⟩) hb1];exact hc 0 _ rfl
    have d1:wr.cell? ⟨b1,o1+j*4+1,none⟩=some (.string (bs x.head.name)):=by rw[HB.out.cell (p:=⟨b1,o1+j*4+1,none⟩) hb1];exact hc 1 _ rfl
    have d2:wr.cell? ⟨b1,o1+j*4+2,none⟩=some tv:=by rw[HB.out.cell (p:=⟨b1,o1+j*4+2,none⟩) hb1];exact hc 2 _ rfl
    have d3:wr.cell? ⟨b1,o1+j*4+3,none⟩=some bv:=by rw[HB.out.cell (p:=⟨b1,o1+j*4+3,none⟩) hb1];exact hc 3 _ rfl
    have hpd:p.drop j=x::p.drop (j+1):=by obtain⟨h1,e1⟩:=List.getElem?_eq_some_iff.1 hx;rw[List.drop_eq_getElem_cons h1,e1]
    obtain⟨ta,tc,rfl⟩:=aB.slice htv;obtain⟨ba,bc,rfl⟩:=aB.slice hbv;obtain⟨s,hs⟩:∃y,ss[j]?=some y:=⟨_,List.getElem?_eq_getElem (by have:=HSL.out;omega)⟩;obtain⟨b2,o2,_,rfl,hb2,rfl,hc2⟩:=aB.bR HU5.out hs;have hsd:ss.drop j=s::ss.drop (j+1):=by obtain⟨h1,e1⟩:=List.getElem?_eq_some_iff.1 hs;rw[List.drop_eq_getElem_cons h1,e1]
    have hstep:bq K N lev (p.drop j) (ss.drop j) M=if(s:Int)=lev then(match nE K N x M with
      |none=>none
      |some acc'=>bq K N lev (p.drop (j+1)) (ss.drop (j+1)) acc') else bq K N lev (p.drop (j+1)) (ss.drop (j+1)) M:=by
     rw[hpd,hsd];rfl
    have Mq:(j:Int)<(ss.length:Int):=by have:=HSL.out;omega
    obtain⟨wb,hwb⟩:∃wb,wb=wr.alloc (.cells #[.bool x.head.no,.string (bs x.head.name),.slice ta x.head.terms.length tc,.slice ba x.body.length bc] 57):=⟨_,rfl⟩;have hLb:aj wr wb:=by rw[hwb];exact(aj.refl _).alloc _
    have hrb:wb.heap[wr.heap.size]?=some (.cells #[.bool x.head.no,.string (bs x.head.name),.slice ta x.head.terms.length tc,.slice ba x.body.length bc] 57 (0,0)):=by rw[hwb];exact heap_alloc_new _ _
    have hBb:Below w5.heap.size w5 wb:=ak HB.out hLb.below HB.out.size;have e0:wb.cell? ⟨b2,o2+j,none⟩=some (.int .i64 s):=by rw[hBb.cell (p:=⟨b2,o2+j,none⟩) hb2];simpa[jL] using hc2 0 _ rfl
    have l0:wb.cell? ⟨w.heap.size,2,none⟩=some (.int .i64 lev):=(dQ (mO.out _ hBb).1).2.2.1;have HWb:=au hwb;have HM':=au (HM.out.later hLb);have HBb:=au hBb;have hzb:wb.heap.size=wr.heap.size+1:=by rw[hwb];simp
    obtain⟨Ma,Mn,Mc,rfl⟩:=hMs
    by_cases hsn:(s:Int)=lev
    ·rw[if_pos hsn] at hstep;have hneq:((s:Int) != lev)=false:=by simp[hsn]
     have Lc:=au (HS.out.trans (by rw[hstep];exact eZ.refl _));have hR:=HRP.out.rules x hxm;obtain⟨Km,hts⟩:=xQ HRP.out x hxm;have h5:=(jl Km).1;have HTv:=au htv;have HBv:=au hbv;have HWB:=au Km;have HTS:=au hts;have HRB:=au hrb;have r3:wb.cell? ⟨wr.heap.size,3,none⟩=some (.slice ba x.body.length bc):=by rw[cell_of_row _ _ _ _ _ _ hrb];rfl
     clear hc hc2 hx hs htv hbv hpd hsd hLb hwb hrb hBb hstep HS HM hR Km hts;subst hsn;go_wp2;rw[←HWb.out]
     go_quiet (fail)
     go_wp2;obtain⟨w7,hw7⟩:∃w7,w7=wb.drewN nq:=⟨_,rfl⟩;rw[←hw7];have HB7:Hid (Below w5.heap.size w5 w7):=by show Below _ _ _;rw[hw7];exact pO HBb.out _
     have HM7:Hid (fM w7 (.slice Ma Mn Mc) M):=by show fM _ _ _;rw[hw7];exact⟨qx HM'.out.1 _,HM'.out.2⟩
     have IW:Hid (w7.heap[wr.heap.size]?=some (.cells #[.bool x.head.no,.string (bs x.head.name),.slice ta x.head.terms.length tc,.slice ba x.body.length bc] 57 (0,0))):=by show _=_;rw[hw7];exact HRB.out
     have hz7:wr.heap.size<w7.heap.size:=(Array.getElem?_eq_some_iff.1 IW.out).1;have HX0:Hid (eZ (bq K N s p ss []) (match nE K N x M with
      |none=>none
      |some acc'=>bq K N s (p.drop (j+1)) (ss.drop (j+1)) acc')):=Lc.out
     clear hw7 HM' HBb HWb HRB Lc e0 l0 r3 d0 d1 d2 d3 HB HBw HRr hzr hzb;generalize wr.heap.size=rbk at*
     go_loopg [9,12,56] x.body.length (fun g v so i wq=>∃q:Nat,q+g=x.body.length∧i=.int .i64 q∧∃(M1:List aF) (c:Nat),so=.int .i64 c∧c≤q∧Hid (c=0→M1=M∧∀a∈x.body.take q,a.no=true)∧Hid (c≠0→∃a∈x.body,a.no=false)∧Hid (fM wq v M1)∧Hid (Up M1)∧M1.length≤200000*j+20000*q∧Hid (Below w7.heap.size w7 wq)∧
      Hid (eZ (jK K N x 0 x.body M) (jK K N x q (x.body.drop q) M1)))
     case atStart=>exact⟨0,by omega,rfl,M,0,rfl,by omega,(fun _=>⟨rfl,fun a ha=>by simp at ha⟩),(fun h=>absurd rfl h),HM7,HU,by omega,Below.refl _ _,eZ.refl _⟩
     clear HM7;obtain⟨q,hq,rfl,M1,c,rfl,hcq,HC0,HC1,HM1,HU1,Nw,HBq,HAt⟩:=hrel;have ME:∃a n c,u9=.slice a n c:=by obtain⟨a,c,e⟩:=aC HM1.out.1;exact⟨a,_,c,e⟩
     obtain⟨Na,Nn,Nc,rfl⟩:=ME;have CF:Below w5.heap.size w5 wr:=ak HB7.out HBq.out HB7.out.size;have Kn:=au CF
     by_cases hlq:q<x.body.length
     ·obtain⟨a,ha⟩:∃y,x.body[q]?=some y:=⟨_,List.getElem?_eq_getElem hlq⟩;have ham:a∈x.body:=List.mem_of_getElem? ha;obtain⟨b3,o3,_,rfl,hb3,⟨av,rfl,hav⟩,hca⟩:=aB.bR HBv.out ha;obtain⟨aa,ac,rfl⟩:=aB.slice hav;have d0:wr.cell? ⟨b3,o3+q*3,none⟩=some (.bool a.no):=by rw[CF.cell (p:=⟨b3,o3+q*3,none⟩) hb3];exact hca 0 _ rfl
      have d1:wr.cell? ⟨b3,o3+q*3+1,none⟩=some (.string (bs a.name)):=by rw[CF.cell (p:=⟨b3,o3+q*3+1,none⟩) hb3];exact hca 1 _ rfl
      have d2:wr.cell? ⟨b3,o3+q*3+2,none⟩=some (.slice aa a.terms.length ac):=by rw[CF.cell (p:=⟨b3,o3+q*3+2,none⟩) hb3];exact hca 2 _ rfl
      have hst:=Cw (K:=K) (N:=N) (acc:=M1) ha;have HTk:Hid (x.body.take (q+1)=x.body.take q++[a]):=by show _=_;rw[List.take_add_one,ha];rfl
      obtain⟨w8,hw8⟩:∃w8,w8=wr.alloc (.cells #[.bool a.no,.string (bs a.name),.slice aa a.terms.length ac] 54):=⟨_,rfl⟩;have hL8:aj wr w8:=by rw[hw8];exact(aj.refl _).alloc _
      have HB8:Hid (Below w7.heap.size w7 w8):=ak HBq.out hL8.below HBq.out.size;have HM8:=au (HM1.out.later hL8);have HW8:=au hw8;cases hno:a.no with
      |true=>
       rw[hno] at d0 HW8;have MF:Hid (eZ (jK K N x 0 x.body M) (jK K N x (q+1) (x.body.drop (q+1)) M1)):=by show eZ _ _;rw[hst,hno] at HAt;exact HAt.out
       have MG:Hid (c=0→M1=M∧∀b∈x.body.take (q+1),b.no=true):=fun h=>⟨(HC0.out h).1,fun b hb=>by
        rw[HTk.out] at hb;rcases List.mem_append.1 hb with hb|hb
        ·exact(HC0.out h).2 b hb
        simp at hb;rw[hb];exact hno⟩
       clear hno hst hca ha ham hav hL8 hw8 HTk HC0 HAt;generalize bs a.name=anm at*;go_wp2;rw[←HW8.out]
       go_roundg (x.body.length- (q+1))
       case measure=>omega
       case rel=>exact⟨q+1,by omega,by go_num,M1,c,rfl,by omega,MG,HC1,HM8,HU1,by omega,HB8,MF⟩
      |false=>
       rw[hno] at d0 HW8;have Ld:jK K N x q (x.body.drop q) M1=match mK (bW K (q:Nat) N) x.body with|none=>none|some R=>jK K N x (q+1) (x.body.drop (q+1)) (M1++R.filterMap fun e=>bf x.head e):=by rw[hst,hno];rfl
       have HSp:=au Ld;have IL:Hid (∃b∈x.body,b.no=false):=⟨a,ham,hno⟩;have Gr:Below w5.heap.size w5 w8:=ak HB7.out HB8.out HB7.out.size;have Ko:=au Gr;have HEn:=au (H7 x.body K N (q:Nat) (.slice (some ⟨b3,o3,none⟩) x.body.length bc) (.slice ka K.length kc) (.slice na N.length nc) w8 (aB.aO HBv.out Gr) (HK5.out.below Gr) (HN5.out.below Gr) HWB.out HKs.out HNs.out);have HPk:=au (fun ms h=>Ah (r:=x) (pick:=bW K (q:Nat) N) (ms:=ms) h);have ER:Hid (∀ms,eu (bW K (q:Nat) N) 0 x.body [[]]=some ms→ms.length≤20000):=fun ms h=>fZ _ x.body 0 [[]] ms (by simp) h;have IX:Hid (eu (bW K (q:Nat) N) 0 x.body [[]]=none→mK (bW K (q:Nat) N) x.body=none):=fun h=>by unfold mK;rw[h]
       obtain⟨y0,y1,y2,y3,y4,_,_⟩:=dQ (mO.out _ Gr).1;have z3:w8.cell? ⟨rbk,3,none⟩=some (.slice (some ⟨b3,o3,none⟩) x.body.length bc):=by rw[HB8.out.cell (p:=⟨rbk,3,none⟩) hz7,cell_of_row _ _ _ _ _ _ IW.out];rfl
       rw[hw8,hno] at y0 y1 y2 y3 y4 z3;clear hno hst Ld hca ha ham hav hL8 hw8 HTk HC0 Gr;generalize bs a.name=anm at*
       go_wp2_with fail
       rw[←HW8.out];refine HEn.out.mono ?_;rintro e w9 ⟨ev,er,rfl,hE,hB9⟩;have HB9:Hid (Below w7.heap.size w7 w9):=ak HB8.out hB9 HB8.out.size;have CG:Below w5.heap.size w5 w9:=ak Ko.out hB9 Ko.out.size;have IY:=au (mO.out _ CG).2;have Kq:Hid (Below w.heap.size w w9):=ak HB5.out CG HB5.out.size;have hR9:w9.heap[rbk]?=some (.cells #[.bool x.head.no,.string (bs x.head.name),.slice ta x.head.terms.length tc,.slice (some ⟨b3,o3,none⟩) x.body.length bc] 57 (0,0)):=by rw[HB9.out.block _ hz7];exact IW.out
       have HM9:=au (HM8.out.1.below hB9);have Ny:=HM8.out.2;clear y0 y1 y2 y3 y4 z3 HEn HW8 Ko HM8;cases hm:eu (bW K (q:Nat) N) 0 x.body [[]] with
       |none=>
        rw[hm] at hE;obtain⟨rfl,rfl⟩:=hE;have hno:bq K N s p ss []=none:=wL HX0.out (by
         rw[Cy IL.out];refine eZ.none (HAt.out.trans ?_);rw[HSp.out,IX.out hm]
         trivial)
        have HX3:Hid (SF=(4,cK)):=by show _=_;rw[HX2.out];exact rY HRn.out hno
        obtain⟨q0,q1,q2,q3,q4,⟨f0,f1,f2,f3,f4⟩,_⟩:=dQ IY.out;clear hm hno hB9 CG hR9;go_wp2;obtain⟨r0,r1,r2,r3,r4⟩:=lI IY.out (.slice none 0 0) (.slice none 0 0) (.int .i64 0) (.int .i64 0) (.bool false);exact bodyPost_ret (v:=.tuple #[.agg #[.slice none 0 0,.slice none 0 0,.int .i64 0,.int .i64 0,.bool false],.int .i64 4]) (by simp[results,Tryz.results10,go_sem,r0,r1,r2,r3,r4]) rfl ⟨_,4,rfl,by rw[HX3.out];exact⟨rfl,qL.none _⟩,Below.cO Kq.out (Nat.le_succ _)⟩
       |some ms=>
        rw[hm] at hE;obtain⟨rfl,hEv⟩:=hE;obtain⟨R,hRa,hRm⟩:=HPk.out ms hm;have hms:=ER.out ms hm;have hfl:=Nat.le_trans (List.length_filter_le (fun l=> !barredB (bW K (q:Nat) N) 0 x.body l) ms) hms;obtain⟨ea',ec',rfl⟩:=aB.slice hEv;have HMd:=au (Iq x (.slice ta x.head.terms.length tc) (.slice (some ⟨b3,o3,none⟩) x.body.length bc) _ _ 20 w9 (aB.aO HTv.out CG) ⟨_,_,_,rfl⟩ hEv HTS.out hfl);have hxl:(bY ((ms.filter fun l=> !barredB (bW K (q:Nat) N) 0 x.body l).filterMap fun l=>bf x.head l)).length≤20000:=Nat.le_trans (iN _) (Nat.le_trans (List.length_filterMap_le _ _) hfl);have Le:Hid (eZ (jK K N x 0 x.body M) (jK K N x (q+1) (x.body.drop (q+1)) (M1++R.filterMap fun e=>bf x.head e))):=by show eZ _ _;have h:=HAt.out;rw[HSp.out,hRa] at h;exact h
        have HRm:Hid (∀f,f∈R.filterMap (fun e=>bf x.head e)↔f∈bY ((ms.filter fun l=> !barredB (bW K (q:Nat) N) 0 x.body l).filterMap fun l=>bf x.head l)):=fun f=>by rw[dA];exact hRm f
        have c0:w9.cell? ⟨rbk,0,none⟩=some (.bool x.head.no):=by rw[cell_of_row _ _ _ _ _ _ hR9];rfl
        have c1:w9.cell? ⟨rbk,0+1,none⟩=some (.string (bs x.head.name)):=by rw[cell_of_row _ _ _ _ _ _ hR9];rfl
        have c2:w9.cell? ⟨rbk,0+2,none⟩=some (.slice ta x.head.terms.length tc):=by rw[cell_of_row _ _ _ _ _ _ hR9];rfl
        have c3:w9.cell? ⟨rbk,0+3,none⟩=some (.slice (some ⟨b3,o3,none⟩) x.body.length bc):=by rw[cell_of_row _ _ _ _ _ _ hR9];rfl
        clear hm hEv hRa hRm hms CG hR9 HPk ER IX HAt HSp;generalize bY ((ms.filter fun l=> !barredB (bW K (q:Nat) N) 0 x.body l).filterMap fun l=>bf x.head l)=X at*;generalize(ms.filter fun l=> !barredB (bW K (q:Nat) N) 0 x.body l)=L at*;generalize bs x.head.name=hnm at*;generalize x.head.no=hno at*
        go_wp2_with fail
        refine HMd.out.mono ?_;rintro e w10 ⟨v10,rfl,Gf,C8⟩;have hMX:M1.length≤4194304:=by omega
        have HBo:=au (FJ (.slice Na Nn Nc) v10 M1 X w10 (HM9.out.later C8) Gf.1 hMX (by omega));have Kr:∃a n c,v10=.slice a n c:=by obtain⟨a,c,e⟩:=aC Gf.1;exact⟨a,_,c,e⟩
        obtain⟨va,vn,vc,rfl⟩:=Kr;have F5:Hid (Below w7.heap.size w7 w10):=ak HB9.out C8.below HB9.out.size;clear c0 c1 c2 c3 Gf C8 HMd hB9
        go_wp2_with fail
        refine HBo.out.mono ?_;rintro e w11 ⟨v11,r,rfl,Gg,Ea,IZ⟩;have Kt:Hid (Below w7.heap.size w7 w11):=ak F5.out IZ.below F5.out.size;have Ku:=au Gg;have Kv:Hid (Up r):=Ea.1;have hrl:r.length≤M1.length+X.length:=by have:=Ea.2.2;rw[List.length_append] at this;exact this
        have MH:Hid (eZ (jK K N x 0 x.body M) (jK K N x (q+1) (x.body.drop (q+1)) r)):=Le.out.trans (mI _ _ fun f=>by rw[Ea.2.1 f,List.mem_append,List.mem_append,HRm.out f]);have Kw:∃a n c,v11=.slice a n c:=by obtain⟨a,c,e⟩:=aC Gg.1;exact⟨a,_,c,e⟩
        obtain⟨ya,yn,yc,rfl⟩:=Kw;clear Gg Ea IZ HBo Le HRm;go_wp2
        go_roundg (x.body.length- (q+1))
        case measure=>omega
        case rel=>exact⟨q+1,by omega,by go_num,r,c+1,by go_num,by omega,(fun h=>absurd h (by omega)),(fun _=>IL.out),Ku,Kv,by omega,Kt,MH⟩
     have hAt:=HAt.out;rw[List.drop_eq_nil_of_le (by omega),jK] at hAt
     by_cases hc0:c=0
     ·obtain⟨hMM,hall⟩:=HC0.out hc0;rw[List.take_of_length_le (by omega)] at hall;subst hc0;have Es:=au hall;have hE0:=H7 x.body K [] (-1) (.slice ba x.body.length bc) (.slice ka K.length kc) (.slice none 0 0) wr (aB.aO HBv.out CF) (HK5.out.below CF) (jm wr) HWB.out HKs.out rfl;rw[vX] at hE0;have HEn:=au hE0;obtain⟨y0,y1,y2,y3,y4,_,_⟩:=dQ (mO.out _ CF).1;have z3:wr.cell? ⟨rbk,3,none⟩=some (.slice ba x.body.length bc):=by
       rw[HBq.out.cell (p:=⟨rbk,3,none⟩) hz7,cell_of_row _ _ _ _ _ _ IW.out];rfl
      have HMM:=au hMM;clear hAt hall hE0 hMM HC0 HC1 HAt
      go_wp2_with fail
      refine HEn.out.mono ?_;rintro e w9 ⟨ev,er,rfl,hE,hB9⟩;have HB9:Hid (Below w7.heap.size w7 w9):=ak HBq.out hB9 HBq.out.size;have CG:Below w5.heap.size w5 w9:=ak Kn.out hB9 Kn.out.size;have IY:=au (mO.out _ CG).2;have Kq:Hid (Below w.heap.size w w9):=ak HB5.out CG HB5.out.size;have hR9:w9.heap[rbk]?=some (.cells #[.bool x.head.no,.string (bs x.head.name),.slice ta x.head.terms.length tc,.slice ba x.body.length bc] 57 (0,0)):=by rw[HB9.out.block _ hz7];exact IW.out
      have HM9:=au (HM1.out.1.below hB9);clear y0 y1 y2 y3 y4 z3 HEn;cases hm:eu (fun _=>K) 0 x.body [[]] with
      |none=>
       rw[hm] at hE;obtain⟨rfl,rfl⟩:=hE;have hno:bq K N s p ss []=none:=wL HX0.out (by rw[Cz Es.out];unfold gY mK;rw[hm])
       have HX3:Hid (SF=(4,cK)):=by show _=_;rw[HX2.out];exact rY HRn.out hno
       obtain⟨q0,q1,q2,q3,q4,⟨f0,f1,f2,f3,f4⟩,_⟩:=dQ IY.out;clear hm hno hB9 CG hR9;go_wp2;obtain⟨r0,r1,r2,r3,r4⟩:=lI IY.out (.slice none 0 0) (.slice none 0 0) (.int .i64 0) (.int .i64 0) (.bool false);exact bodyPost_ret (v:=.tuple #[.agg #[.slice none 0 0,.slice none 0 0,.int .i64 0,.int .i64 0,.bool false],.int .i64 4]) (by simp[results,Tryz.results10,go_sem,r0,r1,r2,r3,r4]) rfl ⟨_,4,rfl,by rw[HX3.out];exact⟨rfl,qL.none _⟩,Below.cO Kq.out (Nat.le_succ _)⟩
      |some ms=>
       rw[hm] at hE;obtain⟨rfl,hEv⟩:=hE;have hho:=DW (r:=x) (fs:=K) hm;have hms:=fZ (fun _=>K) x.body 0 [[]] ms (by simp) hm;have hfl:=Nat.le_trans (List.length_filter_le (fun l=> !barredB (fun _=>K) 0 x.body l) ms) hms;obtain⟨ea',ec',rfl⟩:=aB.slice hEv;have HMd:=au (Iq x (.slice ta x.head.terms.length tc) (.slice ba x.body.length bc) _ _ 20 w9 (aB.aO HTv.out CG) ⟨_,_,_,rfl⟩ hEv HTS.out hfl);have hxl:(bY ((ms.filter fun l=> !barredB (fun _=>K) 0 x.body l).filterMap fun l=>bf x.head l)).length≤20000:=Nat.le_trans (iN _) (Nat.le_trans (List.length_filterMap_le _ _) hfl);have Io:Hid (nE K N x M=some (M++bY ((ms.filter fun l=> !barredB (fun _=>K) 0 x.body l).filterMap fun l=>bf x.head l))):=by show _=_;rw[Cz Es.out,hho]
       have c0:w9.cell? ⟨rbk,0,none⟩=some (.bool x.head.no):=by rw[cell_of_row _ _ _ _ _ _ hR9];rfl
       have c1:w9.cell? ⟨rbk,0+1,none⟩=some (.string (bs x.head.name)):=by rw[cell_of_row _ _ _ _ _ _ hR9];rfl
       have c2:w9.cell? ⟨rbk,0+2,none⟩=some (.slice ta x.head.terms.length tc):=by rw[cell_of_row _ _ _ _ _ _ hR9];rfl
       have c3:w9.cell? ⟨rbk,0+3,none⟩=some (.slice ba x.body.length bc):=by rw[cell_of_row _ _ _ _ _ _ hR9];rfl
       clear hm hEv hho hms CG hR9;generalize bY ((ms.filter fun l=> !barredB (fun _=>K) 0 x.body l).filterMap fun l=>bf x.head l)=X at*;generalize(ms.filter fun l=> !barredB (fun _=>K) 0 x.body l)=L at*;generalize bs x.head.name=hnm at*;generalize x.head.no=hno at*
       go_wp2_with fail
       refine HMd.out.mono ?_;rintro e w10 ⟨v10,rfl,Gf,C8⟩;have hMX:M1.length≤4194304:=by omega
       have HBo:=au (FJ (.slice Na Nn Nc) v10 M1 X w10 (HM9.out.later C8) Gf.1 hMX (by omega));have Kr:∃a n c,v10=.slice a n c:=by obtain⟨a,c,e⟩:=aC Gf.1;exact⟨a,_,c,e⟩
       obtain⟨va,vn,vc,rfl⟩:=Kr;have F5:Hid (Below w7.heap.size w7 w10):=ak HB9.out C8.below HB9.out.size;clear c0 c1 c2 c3 Gf C8 HMd hB9
       go_wp2_with fail
       refine HBo.out.mono ?_;rintro e w11 ⟨v11,r,rfl,Gg,Ea,IZ⟩;have Kt:Hid (Below w5.heap.size w5 w11):=ak HB7.out (ak F5.out IZ.below F5.out.size) HB7.out.size;have Ku:=au Gg;have Kv:Hid (Up r):=Ea.1;have hrl:r.length≤M1.length+X.length:=by have:=Ea.2.2;rw[List.length_append] at this;exact this
       have HS3:Hid (eZ (bq K N s p ss []) (bq K N s (p.drop (j+1)) (ss.drop (j+1)) r)):=CB HX0.out (by rw[Io.out];exact fun f=>by rw[Ea.2.1 f,HMM.out])
       have Kw:∃a n c,v11=.slice a n c:=by obtain⟨a,c,e⟩:=aC Gg.1;exact⟨a,_,c,e⟩
       obtain⟨ya,yn,yc,rfl⟩:=Kw;clear Gg Ea IZ HBo Io;go_wp2
       go_roundg (p.length- (j+1))
       case measure=>omega
       case rel=>exact⟨j+1,by omega,by go_num,r,Ku,Kv,by omega,Kt,HS3⟩
     have HS3:Hid (eZ (bq K N s p ss []) (bq K N s (p.drop (j+1)) (ss.drop (j+1)) M1)):=CB HX0.out (by rw[Cy (HC1.out hc0)];exact hAt);have hcz:¬((c:Int)=0):=by omega
     clear hAt HC0 HC1 HAt hc0;go_wp2
     go_roundg (p.length- (j+1))
     case measure=>omega
     case rel=>exact⟨j+1,by omega,by go_num,M1,HM1,HU1,by omega,Kn,HS3⟩
    rw[if_neg hsn] at hstep;have hneq:((s:Int) != lev)=true:=by simp[hsn]
    have HS':Hid (eZ (bq K N lev p ss []) (bq K N lev (p.drop (j+1)) (ss.drop (j+1)) M)):=by show eZ _ _;rw[←hstep];exact HS.out
    clear hc hc2 hx hs htv hbv hpd hsd hLb hwb hrb hBb hstep HS HM;generalize bs x.head.name=nm at*;generalize x.head.no=no at*;go_wp2;rw[←HWb.out]
    go_quiet (fail)
    go_wp2
    go_roundg (p.length- (j+1))
    case measure=>omega
    case rel=>exact⟨j+1,by omega,by go_num,M,⟨qx HM'.out.1 _,HM'.out.2⟩,HU,by omega,pO HBb.out _,HS'⟩
   have hS:=HS.out;rw[List.drop_eq_nil_of_le (by omega)] at hS;have hS2:eZ (bq K N lev p ss []) (some M):=by simpa[bq] using hS
   have hNx:=Ai HRn.out hS2;rw[←HX2.out] at hNx;have hfil:(M.filter fun f=> !bV K f 0)=gB K M:=by rw[pQ];unfold gB;rw[vk (HU.out.filter _)]
   have HNx:=au hNx;have hKf:=HRN.out.good.few;dsimp only at hKf;have HSc:Hid (∀w',Below wr.heap.size wr w'→w'.cell? ⟨w.heap.size,0,none⟩=some (.slice ka K.length kc)∧w'.cell? ⟨w.heap.size,2,none⟩=some (.int .i64 lev)∧w'.cell? ⟨w.heap.size,3,none⟩=some (.int .i64 rn)):=fun w' h=>by obtain⟨y0,y1,y2,y3,y4,_,_⟩:=dQ (mO.out _ (ak HB.out h HB.out.size)).1;exact⟨y0,y2,y3⟩
   obtain⟨Ma,Mn,Mc,rfl⟩:=hMs;have HBo:Hid (∀w',Below wr.heap.size wr w'→Calls Tryz.prog 24 #[.slice ka K.length kc,.slice Ma Mn Mc] w' fun e w''=>∃v',e=.returned v'∧Facts w'' v' (bY (K++M))∧Below wr.heap.size wr w''∧aj w' w''):=fun w' h=>
    (FJ _ _ K M w' ((HK5.out.below HB.out).below h) (HM.out.1.below h) (by omega) (by omega)).mono fun e w'' ⟨v',r,he,hF,hSt,hL⟩=>⟨v',he,by rw[←jT hSt.1 hSt.2.1];exact hF.1,ak h hL.below h.size,hL⟩
   have HMi:Hid (∀w',Below wr.heap.size wr w'→Calls Tryz.prog 26 #[.slice Ma Mn Mc,.slice ka K.length kc] w' fun e w''=>∃v',e=.returned v'∧Facts w'' v' (gB K M)∧Below wr.heap.size wr w''∧aj w' w''):=fun w' h=>by have hm:=Ih _ _ M K w' (HM.out.1.below h) ((HK5.out.below HB.out).below h);rw[hfil] at hm;exact hm.mono fun e w'' ⟨v',he,hF,hL⟩=>⟨v',he,hF,ak h hL.below h.size,hL⟩
   clear hS hS2 hNx hfil HS HU;have Nz:IntKind.i64.wrap (rn+1)=rn+1:=by rw[IntKind.wrap_i64];omega
   go_wp2;refine wp_region_held_drew (S:=fun w'=>Below wr.heap.size wr w') (by kernel_rfl) (Below.refl _ _).drew (fun hHeld=>?_);refine tkY 0 106 hHeld ?_;refine tkY 1 107 hHeld ?_ rfl fun w hSw=>by obtain⟨p0,p2,p3⟩:=HSc.out _ hSw;go_simp;try with_reducible rfl
   refine tkY 2 108 hHeld ?_;refine tkY 4 110 hHeld ?_;refine tkY 5 111 hHeld ?_;refine tkY 6 112 hHeld ?_ rfl fun w hSw=>by obtain⟨p0,p2,p3⟩:=HSc.out _ hSw;go_simp;try with_reducible rfl
   refine tkY 8 114 hHeld ?_;refine tkY 9 115 hHeld ?_ rfl fun w hSw=>by obtain⟨p0,p2,p3⟩:=HSc.out _ hSw;go_simp;try with_reducible rfl
   refine tkY 10 116 hHeld ?_;refine tkY 11 117 hHeld ?_ rfl fun w hSw=>by obtain⟨p0,p2,p3⟩:=HSc.out _ hSw;go_simp;try with_reducible rfl
   refine tkY 12 118 hHeld ?_;have hBe:Below wr.heap.size wr wr.drew:=(Below.refl _ _).drew;refine wpAnyH_ready (rs:=[3,14]) (by kernel_rfl) (by simp) ?_;refine AllReadyH.cons rfl (fun K' hK=> ?ga) (AllReadyH.cons rfl (fun K' hK=> ?gb) AllReadyH.nil)
   case' ga=>
    go_simp;refine(HBo.out _ hBe).mono ?_;rintro e wx ⟨v1,rfl,hF1,hB1,hL1⟩;obtain⟨a1,c1,rfl⟩:=aC hF1;refine hK.out _ _ hB1 (fun hHeld=>?_);clear hK K' hBe hL1;have hBe:=hB1;refine wpAnyH_ready (rs:=[7,14]) (by kernel_rfl) (by simp) ?_;refine AllReadyH.cons rfl (fun K' hK=> ?gaa) (AllReadyH.cons rfl (fun K' hK=> ?gab) AllReadyH.nil)
    case' gaa=>
     go_simp;refine(HMi.out _ hBe).mono ?_;rintro e wy ⟨v2,rfl,hF2,hB2,hL2⟩;obtain⟨a2,c2,rfl⟩:=aC hF2;have hF1:=hF1.later hL2;refine hK.out _ _ hB2 (fun hHeld=>?_);clear hK K' hL2 hBe;have hBe:=hB2;refine tkY 13 119 hHeld ?_;refine tkC 14 fun K' hK=>?_;go_simp;have hzN:=heap_alloc_new (wy) (.cells #[.slice none 0 0,.slice none 0 0,.int .i64 0,.int .i64 0,.bool false] 26);have y9:=ak hBe ((aj.refl (wy)).alloc (.cells #[.slice none 0 0,.slice none 0 0,.int .i64 0,.int .i64 0,.bool false] 26)).below hBe.size;have hF1:=hF1.later ((aj.refl (wy)).alloc (.cells #[.slice none 0 0,.slice none 0 0,.int .i64 0,.int .i64 0,.bool false] 26));have hF2:=hF2.later ((aj.refl (wy)).alloc (.cells #[.slice none 0 0,.slice none 0 0,.int .i64 0,.int .i64 0,.bool false] 26));have hbx:wr.heap.size≤(wy).heap.size:=hBe.size;have hbl:(wy).heap.size<((wy).alloc (.cells #[.slice none 0 0,.slice none 0 0,.int .i64 0,.int .i64 0,.bool false] 26)).heap.size:=by simp
     refine hK.out _ _ y9 (fun hHeld=>?_);clear hK K' hBe hHeld;generalize(wy).heap.size=bx at*;generalize(wy).alloc (.cells #[.slice none 0 0,.slice none 0 0,.int .i64 0,.int .i64 0,.bool false] 26)=wf at*;have hBe:=y9;have hHeld:=y9;clear y9
    case' gab=>
     go_simp;have hzN:=heap_alloc_new (wx) (.cells #[.slice none 0 0,.slice none 0 0,.int .i64 0,.int .i64 0,.bool false] 26);have y9:=ak hBe ((aj.refl (wx)).alloc (.cells #[.slice none 0 0,.slice none 0 0,.int .i64 0,.int .i64 0,.bool false] 26)).below hBe.size;have hF1:=hF1.later ((aj.refl (wx)).alloc (.cells #[.slice none 0 0,.slice none 0 0,.int .i64 0,.int .i64 0,.bool false] 26));have hbx:wr.heap.size≤(wx).heap.size:=hBe.size;have hbl:(wx).heap.size<((wx).alloc (.cells #[.slice none 0 0,.slice none 0 0,.int .i64 0,.int .i64 0,.bool false] 26)).heap.size:=by simp
     refine hK.out _ _ y9 (fun hHeld=>?_);clear hK K' hBe hHeld;generalize(wx).heap.size=bx at*;generalize(wx).alloc (.cells #[.slice none 0 0,.slice none 0 0,.int .i64 0,.int .i64 0,.bool false] 26)=wz at*;have hBe:=y9;have hHeld:=y9;clear y9;refine tkC 7 fun K' hK=>?_;go_simp;refine(HMi.out _ hBe).mono ?_;rintro e wf ⟨v2,rfl,hF2,hB2,hL2⟩;have hzN:=(hL2.block hbl).trans hzN;have hbl:bx<wf.heap.size:=Nat.lt_of_lt_of_le hbl hL2.size;obtain⟨a2,c2,rfl⟩:=aC hF2;have hF1:=hF1.later hL2;refine hK.out _ _ hB2 (fun hHeld=>?_);clear hK K' hL2 hBe;have hBe:=hB2;refine tkY 13 119 hHeld ?_
   case' gb=>
    go_simp;have hzN:((wr.alloc (.cells #[.slice none 0 0,.slice none 0 0,.int .i64 0,.int .i64 0,.bool false] 26)).drew).heap[wr.heap.size]?=some (.cells #[.slice none 0 0,.slice none 0 0,.int .i64 0,.int .i64 0,.bool false] 26 (0,0)):=heap_alloc_new wr (.cells #[.slice none 0 0,.slice none 0 0,.int .i64 0,.int .i64 0,.bool false] 26);have y9:Below wr.heap.size wr ((wr.alloc (.cells #[.slice none 0 0,.slice none 0 0,.int .i64 0,.int .i64 0,.bool false] 26)).drew):=((aj.refl wr).alloc (.cells #[.slice none 0 0,.slice none 0 0,.int .i64 0,.int .i64 0,.bool false] 26)).drew.below;have hbx:wr.heap.size≤wr.heap.size:=Nat.le_refl _;have hbl:wr.heap.size<((wr.alloc (.cells #[.slice none 0 0,.slice none 0 0,.int .i64 0,.int .i64 0,.bool false] 26)).drew).heap.size:=by simp
    obtain⟨bx,MI⟩:∃bx,wr.heap.size=bx:=⟨_,rfl⟩;rw[MI] at hzN hbl;have hbx:wr.heap.size≤bx:=by omega
    refine hK.out _ _ y9 (fun hHeld=>?_);clear hK K' hBe hHeld;generalize((wr.alloc (.cells #[.slice none 0 0,.slice none 0 0,.int .i64 0,.int .i64 0,.bool false] 26)).drew)=wz at*;have hBe:=y9;have hHeld:=y9;clear y9;refine tkC 3 fun K' hK=>?_;go_simp;refine(HBo.out _ hBe).mono ?_;rintro e wx ⟨v1,rfl,hF1,hB1,hL1⟩;have hzN:=(hL1.block hbl).trans hzN;have hbl:bx<wx.heap.size:=Nat.lt_of_lt_of_le hbl hL1.size;obtain⟨a1,c1,rfl⟩:=aC hF1;refine hK.out _ _ hB1 (fun hHeld=>?_);clear hK K' hBe hL1;have hBe:=hB1;refine tkC 7 fun K' hK=>?_;go_simp;refine(HMi.out _ hBe).mono ?_;rintro e wf ⟨v2,rfl,hF2,hB2,hL2⟩;have hzN:=(hL2.block hbl).trans hzN;have hbl:bx<wf.heap.size:=Nat.lt_of_lt_of_le hbl hL2.size;obtain⟨a2,c2,rfl⟩:=aC hF2;have hF1:=hF1.later hL2;refine hK.out _ _ hB2 (fun hHeld=>?_);clear hK K' hL2 hBe;have hBe:=hB2;refine tkY 13 119 hHeld ?_
   all_goals
    refine tkC 15 fun K' hK=>?_;obtain⟨b0,b1,b2,b3,b4,⟨g0,g1,g2,g3,g4⟩,_⟩:=dQ hzN;go_simp;refine hK.out _ _ (Below.cO hBe hbx) (fun hHeld=>?_);clear hK K';refine wpAnyH_done (by kernel_rfl) ?_ _;obtain⟨wp,hwp⟩:∃wp,wp=cO wf bx (.slice a1 (bY (K++M)).length c1) (.slice a2 (gB K M).length c2) (.int .i64 lev) (.int .i64 (rn+1)) (.bool false):=⟨_,rfl⟩;have hRp:wp.heap[bx]?=some (.cells #[.slice a1 (bY (K++M)).length c1,.slice a2 (gB K M).length c2,.int .i64 lev,.int .i64 (rn+1),.bool false] 26 (0,0)):=by rw[hwp];exact gq hzN _ _ _ _ _
    have Lf:Facts wp (.slice a1 (bY (K++M)).length c1) (bY (K++M)):=by rw[hwp];exact bD (aZ hzN) (bA _ _ _ _ _ _ _) hF1
    have Lg:Facts wp (.slice a2 (gB K M).length c2) (gB K M):=by rw[hwp];exact bD (aZ hzN) (bA _ _ _ _ _ _ _) hF2
    have hBp:Below wr.heap.size wr wp:=by rw[hwp];exact Below.cO hBe hbx
    have Jg:Below w5.heap.size w5 wp:=ak HB.out hBp HB.out.size;have Lh:=au Jg;have hRs:=(mO.out _ Jg).2;have Li:Hid (Below w.heap.size w wp):=ak HB5.out Jg HB5.out.size;have NA:w.heap.size+2≤bx:=by omega
    have MJ:w5.heap.size≤bx:=by omega
    unfold cO at hwp;have HWp:=au hwp;have HRp:=au hRp;have HRs:=au hRs;have HF1:=au Lf;have HF2:=au Lg;have NC:(bY (K++M)).length≤4000000:=by have:=iN (K++M);rw[List.length_append] at this;omega
    have ND:(gB K M).length≤4000000:=by have h1:=iN (M.filter fun f=> !inB K f);have h2:=List.length_filter_le (fun f=> !inB K f) M;unfold gB;omega
    obtain⟨r0,r1,r2,r3,r4,⟨s0,s1,s2,s3,s4⟩,_⟩:=dQ hRp;obtain⟨q0,q1,q2,q3,q4,⟨f0,f1,f2,f3,f4⟩,_⟩:=dQ hRs;rw[←HWp.out];clear hwp hRp hRs Lf Lg hBp Jg hzN hF1 hF2 hBe hbl b0 b1 b2 b3 b4 g0 g1 g2 g3 g4 HWp HBo HMi HSc hHeld HM;have Gs:Hid (SF=if 200<(bY (K++M)).length then(5,cK) else if gB K M=[] then(0,⟨bY (K++M),bY (K++M),lev+1,rn+1,decide (lev+1=countP ss)⟩) else(0,⟨bY (K++M),gB K M,lev,rn+1,false⟩)):=HNx.out;generalize bY (K++M)=Z1 at*;generalize gB K M=N1 at*
    by_cases hbig:200<Z1.length
    ·have HX3:Hid (SF=(5,cK)):=by show _=_;rw[Gs.out,if_pos hbig]
     have hbz:(200:Int)<(Z1.length:Int):=by omega
     clear HNx Gs;go_wp2;obtain⟨r0,r1,r2,r3,r4⟩:=lI HRs.out (.slice none 0 0) (.slice none 0 0) (.int .i64 0) (.int .i64 0) (.bool false);exact bodyPost_ret (v:=.tuple #[.agg #[.slice none 0 0,.slice none 0 0,.int .i64 0,.int .i64 0,.bool false],.int .i64 5]) (by simp[results,Tryz.results10,go_sem,r0,r1,r2,r3,r4]) rfl ⟨_,5,rfl,by rw[HX3.out];exact⟨rfl,qL.none _⟩,Below.cO Li.out (Nat.le_succ _)⟩
    ·have hbz:¬(200:Int)<(Z1.length:Int):=by omega
     by_cases hnew:N1=[]
     ·have HX3:Hid (SF=(0,⟨Z1,Z1,lev+1,rn+1,lev+1==((countP ss:Nat):Int)⟩)):=by show _=_;rw[Gs.out,if_neg hbig,if_pos hnew];rfl
      have hd0:((N1.length:Int)=0):=by rw[hnew];rfl
      obtain⟨wq,hwq⟩:∃wq,wq=((wp.setCell ⟨bx,1,none⟩ (.slice a1 Z1.length c1)).setCell ⟨bx,2,none⟩ (.int .i64 (lev+1))):=⟨_,rfl⟩;have htq:Tn bx wp wq:=by rw[hwq];exact Tn.setCell (p:=bx) (Tn.setCell (p:=bx) (Tn.refl bx wp) (x:=⟨bx,1,none⟩) (Or.inl rfl) _) (x:=⟨bx,2,none⟩) (Or.inl rfl) _
      have hRq:wq.heap[bx]?=some (.cells #[.slice a1 Z1.length c1,.slice a1 Z1.length c1,.int .i64 (lev+1),.int .i64 (rn+1),.bool false] 26 (0,0)):=by rw[hwq,dW (j:=2) (dW (j:=1) HRp.out _) _];rfl
      have Ky:wq.heap[w.heap.size+1]?=some (.cells #[.slice none 0 0,.slice none 0 0,.int .i64 0,.int .i64 0,.bool false] 26 (0,0)):=by rw[htq.block _ (by have:=(Array.getElem?_eq_some_iff.1 HRs.out).1;omega) (by omega)];exact HRs.out
      have CF:Below w5.heap.size w5 wq:=ak Lh.out (htq.below (n:=w5.heap.size) MJ Lh.out.size) (Nat.le_refl _);have Lj:Facts wq (.slice a1 Z1.length c1) Z1:=bD (aZ HRp.out) htq HF1.out;have MK:Hid (Below w.heap.size w wq):=ak HB5.out CF HB5.out.size;have hCn:=BX ss (.slice ua ss.length uc) wq.drew (aB.aO HU5.out CF.drew) HSm.out;have HCn:=au hCn;have HRq:=au hRq;have ML:=au Ky;have MN:=au Lj;have HWq:=au hwq;obtain⟨x0,x1,x2,x3,x4,⟨t0,t1,t2,t3,t4⟩,_⟩:=dQ hRq;obtain⟨k0,k1,k2,k3,k4,⟨l0,l1,l2,l3,l4⟩,_⟩:=dQ Ky;have HLn:=au hd0;clear hwq htq hRq Ky CF Lj hCn HNx Gs hnew HF1 HF2;go_wp2;rw[←HWq.out];clear HWq r0 r1 r2 r3 r4 s0 s1 s2 s3 s4;refine wp_region_held_drew (S:=fun w'=>w'.cell? ⟨bx,2,none⟩=some (.int .i64 (lev+1))∧Tn bx wq w') (by kernel_rfl) ⟨x2,(Tn.refl _ _).drew⟩ (fun hHeld=>?_);refine tkY 0 136 hHeld ?_;refine tkY 1 137 hHeld ?_ rfl fun w hSw=>by have qq:=hSw.1;go_simp;try with_reducible rfl
      refine tkY 2 138 hHeld ?_;refine tkC 3 fun K hK=>?_;go_simp;refine HCn.out.mono ?_;rintro e wv ⟨rfl,hwv⟩;obtain rfl:wq.drew=wv:=hwv.symm;clear hwv;refine hK.out _ _ ⟨x2,(Tn.refl _ _).drew⟩ (fun hHeld=>?_);clear hK K;refine tkY 4 140 hHeld ?_;refine tkY 5 141 hHeld ?_;refine tkC 6 fun K' hK=>?_;go_simp;refine hK.out _ _ ⟨by show(World.setCell _ _ _).cell? _=_;rw[World.cell?_setCell_other _ _ _ _ (by simp)];exact x2,(Tn.setCell (p:=bx) (Tn.refl bx wq) (x:=⟨bx,4,none⟩) (Or.inl rfl) _).drew⟩ (fun hHeld=>?_);clear hK K' hHeld;refine wpAnyH_done (by kernel_rfl) ?_ _;have ht4:Tn bx wq (wq.setCell ⟨bx,4,none⟩ (.bool (lev+1==((countP ss:Nat):Int)))):=Tn.setCell (p:=bx) (Tn.refl bx wq) (x:=⟨bx,4,none⟩) (Or.inl rfl) _;have Kz:(wq.setCell ⟨bx,4,none⟩ (.bool (lev+1==((countP ss:Nat):Int)))).heap[w.heap.size+1]?=some (.cells #[.slice none 0 0,.slice none 0 0,.int .i64 0,.int .i64 0,.bool false] 26 (0,0)):=by rw[heap_setCell_other _ _ _ (by show w.heap.size+1≠bx;omega)];exact ML.out
      have HFp:=au (bD (aZ Kz) (bA (wq.setCell ⟨bx,4,none⟩ (.bool (lev+1==((countP ss:Nat):Int)))) (w.heap.size+1) (.slice a1 Z1.length c1) (.slice a1 Z1.length c1) (.int .i64 (lev+1)) (.int .i64 (rn+1)) (.bool (lev+1==((countP ss:Nat):Int)))) (bD (aZ HRq.out) ht4 MN.out));have HB4:Hid (Below w.heap.size w (wq.setCell ⟨bx,4,none⟩ (.bool (lev+1==((countP ss:Nat):Int))))):=Below.put MK.out (by omega);have F4:=au Kz;clear ht4 Kz HCn;go_wp2;obtain⟨r0,r1,r2,r3,r4⟩:=lI F4.out (.slice a1 Z1.length c1) (.slice a1 Z1.length c1) (.int .i64 (lev+1)) (.int .i64 (rn+1)) (.bool (lev+1==((countP ss:Nat):Int)));exact bodyPost_ret (v:=.tuple #[.agg #[.slice a1 Z1.length c1,.slice a1 Z1.length c1,.int .i64 (lev+1),.int .i64 (rn+1),.bool (lev+1==((countP ss:Nat):Int))],.int .i64 0]) (by simp[results,Tryz.results10,go_sem,r0,r1,r2,r3,r4]) rfl ⟨_,0,rfl,by rw[HX3.out];exact⟨rfl,_,_,rfl,HFp.out.below (Below.refl _ _).drew,HFp.out.below (Below.refl _ _).drew⟩,(Below.cO HB4.out (Nat.le_succ _)).drew⟩
     have HX3:Hid (SF=(0,⟨Z1,N1,lev,rn+1,false⟩)):=by show _=_;rw[Gs.out,if_neg hbig,if_neg hnew]
     have hd0:¬((N1.length:Int)=0):=by
      cases N1;·exact absurd rfl hnew
      simp;omega
     have HFp:=au (bD (aZ HRs.out) (bA wp (w.heap.size+1) (.slice a1 Z1.length c1) (.slice a2 N1.length c2) (.int .i64 lev) (.int .i64 (rn+1)) (.bool false)) HF1.out);have HGp:=au (bD (aZ HRs.out) (bA wp (w.heap.size+1) (.slice a1 Z1.length c1) (.slice a2 N1.length c2) (.int .i64 lev) (.int .i64 (rn+1)) (.bool false)) HF2.out);clear HNx Gs hnew;go_wp2;obtain⟨r0,r1,r2,r3,r4⟩:=lI HRs.out (.slice a1 Z1.length c1) (.slice a2 N1.length c2) (.int .i64 lev) (.int .i64 (rn+1)) (.bool false);exact bodyPost_ret (v:=.tuple #[.agg #[.slice a1 Z1.length c1,.slice a2 N1.length c2,.int .i64 lev,.int .i64 (rn+1),.bool false],.int .i64 0]) (by simp[results,Tryz.results10,go_sem,r0,r1,r2,r3,r4]) rfl ⟨_,0,rfl,by rw[HX3.out];exact⟨rfl,_,_,rfl,HFp.out,HGp.out⟩,Below.cO Li.out (Nat.le_succ _)⟩
 have HX1:Hid (SF=(R,cK)):=by show _=_;rw[HX.out,if_pos h0]
 have hne:(R != 0)=true:=by simpa using h0
 clear HX HGo h0;go_wp2;obtain⟨r0,r1,r2,r3,r4⟩:=lI nY.out (.slice none 0 0) (.slice none 0 0) (.int .i64 0) (.int .i64 0) (.bool false);exact bodyPost_ret (v:=.tuple #[.agg #[.slice none 0 0,.slice none 0 0,.int .i64 0,.int .i64 0,.bool false],.int .i64 R]) (by simp[results,Tryz.results10,go_sem,r0,r1,r2,r3,r4]) rfl ⟨_,R,rfl,by rw[HX1.out];exact⟨rfl,qL.none _⟩,Below.cO HB3.out (Nat.le_succ _)⟩
theorem Aj {p:List aD} {r:gM} {n:Int} (h:(dB p r n).1=0):aX p r=0∧0≤n∧n≤1000∧dB p r n=cZ p (aK p).1 n.toNat r:=by
 unfold dB at h⊢;split at h;·rename_i h1;exact absurd h h1
 rename_i h1;split at h;·simp at h
 rename_i h2;have h2:(decide (0≤n)&&decide (n≤1000))=true:=by simpa using h2
 rw[if_neg h1,if_neg (by simp[h2])];simp only[Bool.and_eq_true,decide_eq_true_eq] at h2;exact⟨Classical.byContradiction h1,h2.1,h2.2,rfl⟩
theorem nZ {p:List aD} {r x:gM} {n:Int} (h:dB p r n=(0,x)):aX p x=0:=by
 obtain⟨h1,_,_,h2⟩:=Aj (p:=p) (r:=r) (n:=n) (by rw[h]);obtain⟨h3,h4⟩:=gu h1;obtain⟨hp,_,τ,_,hs,_⟩:=iF h3;have e:(aK p).1=p.map fun r=>τ r.head.name:=by rw[hs]
 rw[h2] at h;have hr:jG p (countP (aK p).1) x:=by rw[e] at h h4⊢;exact pK hp _ _ h4 h
 refine qO ?_ hr;unfold j5;rw[if_neg (by rw[hs];simp),z8 hr.good]
theorem xY {p:List aD} {r:gM} (hw:aX p r=0) (hd:r.done=false) (k:Nat):cZ p (aK p).1 (k+1) r=if(dB p r 1).1≠0 then((dB p r 1).1,cK) else cZ p (aK p).1 k (dB p r 1).2:=by
 have e:dB p r 1=fB p (aK p).1 r:=by unfold dB;rw[if_neg (by simp[hw]),if_neg (by simp)];exact wK hd
 rw[e,nH hd]
theorem ze {l:List aF} (h:∀f∈l,jF f):∀k,okF (l.getD k aA):=fun k=>by
 rw[List.getD_eq_getElem?_getD];cases e:l[k]? with
 |none=>exact⟨by simp[aA],fun s hs=>by simp[aA] at hs⟩
 |some f=>
  have hf:=h f (List.mem_of_getElem? e);exact⟨by have:=jC hf.1;simp only[Option.getD_some];omega,fun s hs=>by have:=jC (hf.2.2 s hs);omega⟩
theorem I4 {p:List aD} {r:gM} (h:aX p r=0):(∀k,okF (r.known.getD k aA))∧∀k,okF (r.fresh.getD k aA):=by have h2:=(gu h).2;exact⟨ze h2.good.right,ze fun f hf=>h2.good.right f (h2.sub f hf)⟩
theorem qL.slices {w:World} {v:Value} {r:gM} (h:qL w v r):∃ka kc na nc,v=.agg #[.slice ka r.known.length kc,.slice na r.fresh.length nc,.int .i64 r.level,.int .i64 r.rounds,.bool r.done]∧Facts w (.slice ka r.known.length kc) r.known∧Facts w (.slice na r.fresh.length nc) r.fresh:=by obtain⟨kv,nv,h1,h2,h3⟩:=h;obtain⟨ka,kc,rfl⟩:=aC h2;obtain⟨na,nc,rfl⟩:=aC h3;exact⟨ka,kc,na,nc,h1,h2,h3⟩
theorem I5 (p:List aD) (r:gM) (n:Int) (pv kv nv:Value) (w:World) (hv:iy.sl bT w pv p) (hk:Facts w kv r.known) (hn:Facts w nv r.fresh) (hlg:∀r∈p,wD r) (hok:∀k,okF (r.known.getD k aA)) (hon:∀k,okF (r.fresh.getD k aA)):
  Calls Tryz.prog 12 #[pv,.agg #[kv,nv,.int .i64 r.level,.int .i64 r.rounds,.bool r.done],.int .i64 n] w fun e w'=>∃v' er,e=.returned (.tuple #[v',.int .i64 er])∧Kk w' v' er (dB p r n)∧Below w.heap.size w w':=by
 obtain⟨K,N,lev,rn,dn⟩:=r;dsimp only at*;obtain⟨pa,pc,rfl⟩:=aB.slice hv;obtain⟨ka,kc,rfl⟩:=aC hk;obtain⟨na,nc,rfl⟩:=aC hn;obtain⟨w2,hw2⟩:∃w2,w2=(w.alloc (.cells #[.slice ka K.length kc,.slice na N.length nc,.int .i64 lev,.int .i64 rn,.bool dn] 26)).alloc (.cells #[.slice none 0 0,.slice none 0 0,.int .i64 0,.int .i64 0,.bool false] 26):=⟨_,rfl⟩;have hL2:aj w w2:=by rw[hw2];exact((aj.refl w).alloc _).alloc _
 have hz2:w2.heap.size=w.heap.size+2:=by rw[hw2];simp
 have hrb:w2.heap[w.heap.size]?=some (.cells #[.slice ka K.length kc,.slice na N.length nc,.int .i64 lev,.int .i64 rn,.bool dn] 26 (0,0)):=by rw[hw2,Below.heap_alloc _ _ _ (by simp)];exact heap_alloc_new w _
 have hrs:w2.heap[w.heap.size+1]?=some (.cells #[.slice none 0 0,.slice none 0 0,.int .i64 0,.int .i64 0,.bool false] 26 (0,0)):=by have:=heap_alloc_new (w.alloc (.cells #[.slice ka K.length kc,.slice na N.length nc,.int .i64 lev,.int .i64 rn,.bool dn] 26)) (.cells #[.slice none 0 0,.slice none 0 0,.int .i64 0,.int .i64 0,.bool false] 26);rw[hw2];simpa using this
 have HWr:=au (qw p ⟨K,N,lev,rn,dn⟩ (.slice pa p.length pc) (.slice ka K.length kc) (.slice na N.length nc) w2 (aB.aS hv hL2) (hk.later hL2) (hn.later hL2) hlg hok hon);have HV:=au hv;have HK:=au hk;have HN:=au hn;have HLg:=au hlg;have HL2:=au hL2;have HRb:=au hrb;have HRs:=au hrs;have HW2:=au hw2;have HX:Hid (dB p ⟨K,N,lev,rn,dn⟩ n=if aX p ⟨K,N,lev,rn,dn⟩≠0 then(aX p ⟨K,N,lev,rn,dn⟩,cK) else if(decide (0≤n)&&decide (n≤1000))=false then(3,cK) else cZ p (aK p).1 n.toNat ⟨K,N,lev,rn,dn⟩):=(rfl:_=_);have HGo:Hid (aX p ⟨K,N,lev,rn,dn⟩=0→aX p ⟨K,N,lev,rn,dn⟩=0):=id;generalize dB p ⟨K,N,lev,rn,dn⟩ n=SF at*;obtain⟨R,hR⟩:∃R,aX p ⟨K,N,lev,rn,dn⟩=R:=⟨_,rfl⟩;rw[hR] at HWr HX;clear HGo;have HGo:=au hR;clear hv hk hn hL2 hrb hrs hw2 hlg hok hon hR
 go_enter Tryz.func12,Tryz.ntmps12
 go_wp2_with fail
 rw[←HW2.out];refine HWr.out.mono ?_;rintro e w3 ⟨rfl,hB3⟩;have HB3:Hid (Below w.heap.size w w3):=ak HL2.out.below hB3 HL2.out.size;have xP:Hid (w3.heap[w.heap.size]?=some (.cells #[.slice ka K.length kc,.slice na N.length nc,.int .i64 lev,.int .i64 rn,.bool dn] 26 (0,0))):=by show _=_;rw[hB3.block _ (by omega)];exact HRb.out
 have nY:Hid (w3.heap[w.heap.size+1]?=some (.cells #[.slice none 0 0,.slice none 0 0,.int .i64 0,.int .i64 0,.bool false] 26 (0,0))):=by show _=_;rw[hB3.block _ (by omega)];exact HRs.out
 have hz3:w.heap.size+2≤w3.heap.size:=by have:=hB3.size;omega
 clear hB3 HWr HW2 HRb HRs HL2 hz2 w2;obtain⟨b0,b1,b2,b3,b4,_,_⟩:=dQ xP.out;obtain⟨q0,q1,q2,q3,q4,⟨f0,f1,f2,f3,f4⟩,_⟩:=dQ nY.out
 by_cases h0:R=0
 ·subst h0;have HX1:Hid (SF=if(decide (0≤n)&&decide (n≤1000))=false then(3,cK) else cZ p (aK p).1 n.toNat ⟨K,N,lev,rn,dn⟩):=by show _=_;rw[HX.out];simp
  clear HX
  by_cases hlo:n<0
  ·have HX2:Hid (SF=(3,cK)):=by show _=_;rw[HX1.out,if_pos (by simp;omega)]
   clear HX1;go_wp2;obtain⟨r0,r1,r2,r3,r4⟩:=lI nY.out (.slice none 0 0) (.slice none 0 0) (.int .i64 0) (.int .i64 0) (.bool false);exact bodyPost_ret (v:=.tuple #[.agg #[.slice none 0 0,.slice none 0 0,.int .i64 0,.int .i64 0,.bool false],.int .i64 3]) (by simp[results,Tryz.results12,go_sem,r0,r1,r2,r3,r4]) rfl ⟨_,3,rfl,by rw[HX2.out];exact⟨rfl,qL.none _⟩,Below.cO HB3.out (Nat.le_succ _)⟩
  by_cases hhi:1000<n
  ·have HX2:Hid (SF=(3,cK)):=by show _=_;rw[HX1.out,if_pos (by simp;omega)]
   clear HX1;go_wp2;obtain⟨r0,r1,r2,r3,r4⟩:=lI nY.out (.slice none 0 0) (.slice none 0 0) (.int .i64 0) (.int .i64 0) (.bool false);exact bodyPost_ret (v:=.tuple #[.agg #[.slice none 0 0,.slice none 0 0,.int .i64 0,.int .i64 0,.bool false],.int .i64 3]) (by simp[results,Tryz.results12,go_sem,r0,r1,r2,r3,r4]) rfl ⟨_,3,rfl,by rw[HX2.out];exact⟨rfl,qL.none _⟩,Below.cO HB3.out (Nat.le_succ _)⟩
  obtain⟨m,rfl⟩:∃m:Nat,n=(m:Int):=⟨n.toNat,by omega⟩;have HX2:Hid (SF=cZ p (aK p).1 m ⟨K,N,lev,rn,dn⟩):=by show _=_;rw[HX1.out,if_neg (by simp;omega)];rfl
  have HKr:=au (HK.out.below HB3.out);have HNr:=au (HN.out.below HB3.out);clear HX1 HK HN hlo;have NG:Hid (m≤1000):=by show _≤_;omega
  go_wp2
  go_loopg [9] m (fun g i wr=>∃j:Nat,j+g=m∧i=.int .i64 j∧∃(X:gM) (xa ya:Option Addr) (xc yc:Nat),Hid (aX p X=0)∧Hid (wr.heap[w.heap.size]?=some (.cells #[.slice xa X.known.length xc,.slice ya X.fresh.length yc,.int .i64 X.level,.int .i64 X.rounds,.bool X.done] 26 (0,0)))∧
   Hid (Facts wr (.slice xa X.known.length xc) X.known)∧Hid (Facts wr (.slice ya X.fresh.length yc) X.fresh)∧Hid (wr.heap[w.heap.size+1]?=some (.cells #[.slice none 0 0,.slice none 0 0,.int .i64 0,.int .i64 0,.bool false] 26 (0,0)))∧Hid (Below w.heap.size w wr)∧w.heap.size+2≤wr.heap.size∧Hid (SF=cZ p (aK p).1 g X))
  case atStart=>exact⟨0,by omega,rfl,⟨K,N,lev,rn,dn⟩,ka,na,kc,nc,HGo,xP,HKr,HNr,nY,HB3,hz3,HX2⟩
  clear HGo xP HKr HNr nY HB3 hz3 HX2 b0 b1 b2 b3 b4 q0 q1 q2 q3 q4 f0 f1 f2 f3 f4;obtain⟨j,hj,rfl,X,xa,ya,xc,yc,HW,HRb,HF,HG,HRs,HB,hz,HX⟩:=hrel;obtain⟨q0,q1,q2,q3,q4,⟨f0,f1,f2,f3,f4⟩,_⟩:=dQ HRs.out
  by_cases hk0:gk=0
  ·have hkz:¬((j:Int)<(m:Int)):=by omega
   have HT:Hid (SF=(0,X)):=by show _=_;rw[HX.out,hk0];rfl
   have HFp:=au (bD (aZ HRs.out) (bA wr (w.heap.size+1) (.slice xa X.known.length xc) (.slice ya X.fresh.length yc) (.int .i64 X.level) (.int .i64 X.rounds) (.bool X.done)) HF.out);have HGp:=au (bD (aZ HRs.out) (bA wr (w.heap.size+1) (.slice xa X.known.length xc) (.slice ya X.fresh.length yc) (.int .i64 X.level) (.int .i64 X.rounds) (.bool X.done)) HG.out);clear hk0;obtain⟨b0,b1,b2,b3,b4,_,_⟩:=dQ HRb.out;go_wp2;obtain⟨r0,r1,r2,r3,r4⟩:=lI HRs.out (.slice xa X.known.length xc) (.slice ya X.fresh.length yc) (.int .i64 X.level) (.int .i64 X.rounds) (.bool X.done);exact bodyPost_ret (v:=.tuple #[.agg #[.slice xa X.known.length xc,.slice ya X.fresh.length yc,.int .i64 X.level,.int .i64 X.rounds,.bool X.done],.int .i64 0]) (by simp[results,Tryz.results12,go_sem,r0,r1,r2,r3,r4]) rfl
    ⟨_,0,rfl,by rw[HT.out];exact⟨rfl,_,_,rfl,HFp.out,HGp.out⟩,Below.cO HB.out (Nat.le_succ _)⟩
  obtain⟨k,rfl⟩:∃k',gk=k'+1:=⟨gk-1,by omega⟩;have hkp:(j:Int)<(m:Int):=by omega
  cases hdn:X.done with
  |true=>
   have HT:Hid (SF=(0,X)):=by show _=_;rw[HX.out];exact nG hdn _
   have HFp:=au (bD (aZ HRs.out) (bA wr (w.heap.size+1) (.slice xa X.known.length xc) (.slice ya X.fresh.length yc) (.int .i64 X.level) (.int .i64 X.rounds) (.bool true)) HF.out);have HGp:=au (bD (aZ HRs.out) (bA wr (w.heap.size+1) (.slice xa X.known.length xc) (.slice ya X.fresh.length yc) (.int .i64 X.level) (.int .i64 X.rounds) (.bool true)) HG.out);obtain⟨b0,b1,b2,b3,b4,_,_⟩:=dQ HRb.out;rw[hdn] at b4;have HDn:=au hdn;clear hdn;go_wp2;obtain⟨r0,r1,r2,r3,r4⟩:=lI HRs.out (.slice xa X.known.length xc) (.slice ya X.fresh.length yc) (.int .i64 X.level) (.int .i64 X.rounds) (.bool true);exact bodyPost_ret (v:=.tuple #[.agg #[.slice xa X.known.length xc,.slice ya X.fresh.length yc,.int .i64 X.level,.int .i64 X.rounds,.bool true],.int .i64 0]) (by simp[results,Tryz.results12,go_sem,r0,r1,r2,r3,r4]) rfl
    ⟨_,0,rfl,by rw[HT.out];exact⟨rfl,_,_,by rw[HDn.out],HFp.out,HGp.out⟩,Below.cO HB.out (Nat.le_succ _)⟩
  |false=>
   have hX1:=HX.out;rw[xY HW.out hdn] at hX1;have HX1:=au hX1;obtain⟨hok,hon⟩:=I4 HW.out;have hNx:=IV p X (.slice pa p.length pc) (.slice xa X.known.length xc) (.slice ya X.fresh.length yc) wr (aB.aO HV.out HB.out) HF.out HG.out HLg.out hok hon;obtain⟨er,Y,hY⟩:∃er Y,dB p X 1=(er,Y):=⟨_,_,rfl⟩;have HRY:Hid (er=0→aX p Y=0):=fun h=>nZ (h▸hY);rw[hY,hdn] at hNx;rw[hY] at HX1;have HNx:=au hNx;have D9:=HRb;rw[hdn] at D9;obtain⟨b0,b1,b2,b3,b4,_,_⟩:=dQ D9.out;clear hNx hY hX1 hdn HX hok hon
   go_wp2_with fail
   refine HNx.out.mono ?_;rintro e w5 ⟨v5,er',rfl,⟨her,hR5⟩,hB5⟩;dsimp only at her hR5;obtain rfl:er=er':=her.symm;clear her;obtain⟨za,zc,ua,uc,rfl,hO5,hN5⟩:=hR5.slices;obtain⟨w6,hw6⟩:∃w6,w6=w5.alloc (.cells #[.slice za Y.known.length zc,.slice ua Y.fresh.length uc,.int .i64 Y.level,.int .i64 Y.rounds,.bool Y.done] 26):=⟨_,rfl⟩;have hL6:aj w5 w6:=by rw[hw6];exact(aj.refl w5).alloc _
   have hz6:w6.heap.size=w5.heap.size+1:=by rw[hw6];simp
   have hz5:w.heap.size+2≤w5.heap.size:=by have:=hB5.size;omega
   have hx6:w6.heap[w5.heap.size]?=some (.cells #[.slice za Y.known.length zc,.slice ua Y.fresh.length uc,.int .i64 Y.level,.int .i64 Y.rounds,.bool Y.done] 26 (0,0)):=by rw[hw6];exact heap_alloc_new w5 _
   have hr6:w6.heap[w.heap.size]?=some (.cells #[.slice xa X.known.length xc,.slice ya X.fresh.length yc,.int .i64 X.level,.int .i64 X.rounds,.bool false] 26 (0,0)):=by rw[hL6.block (by omega),hB5.block _ (by omega)];exact D9.out
   have hs6:w6.heap[w.heap.size+1]?=some (.cells #[.slice none 0 0,.slice none 0 0,.int .i64 0,.int .i64 0,.bool false] 26 (0,0)):=by rw[hL6.block (by omega),hB5.block _ (by omega)];exact HRs.out
   have MO:=au (gq hr6 (.slice za Y.known.length zc) (.slice ua Y.fresh.length uc) (.int .i64 Y.level) (.int .i64 Y.rounds) (.bool Y.done));have MP:Hid ((cO w6 w.heap.size (.slice za Y.known.length zc) (.slice ua Y.fresh.length uc) (.int .i64 Y.level) (.int .i64 Y.rounds) (.bool Y.done)).heap[w.heap.size+1]?=some (.cells #[.slice none 0 0,.slice none 0 0,.int .i64 0,.int .i64 0,.bool false] 26 (0,0))):=by show _=_;rw[(bA w6 w.heap.size _ _ _ _ _).block _ (by omega) (by omega)];exact hs6
   have HB6:Hid (Below w.heap.size w w6):=ak (ak HB.out hB5 HB.out.size) hL6.below (by have:=HB.out.size;have:=hB5.size;omega);have HF6:=au (bD (aZ hr6) (bA w6 w.heap.size (.slice za Y.known.length zc) (.slice ua Y.fresh.length uc) (.int .i64 Y.level) (.int .i64 Y.rounds) (.bool Y.done)) (hO5.later hL6));have HG6:=au (bD (aZ hr6) (bA w6 w.heap.size (.slice za Y.known.length zc) (.slice ua Y.fresh.length uc) (.int .i64 Y.level) (.int .i64 Y.rounds) (.bool Y.done)) (hN5.later hL6));have HW6:=au hw6;have HS6:=au hs6;clear b0 b1 b2 b3 b4 q0 q1 q2 q3 q4 f0 f1 f2 f3 f4;obtain⟨b0,b1,b2,b3,b4,⟨g0,g1,g2,g3,g4⟩,_⟩:=dQ hr6;obtain⟨q0,q1,q2,q3,q4,⟨f0,f1,f2,f3,f4⟩,_⟩:=dQ hs6;obtain⟨x0,x1,x2,x3,x4,_,_⟩:=dQ hx6;have MQ:w.heap.size+2≤w6.heap.size:=by omega
   clear hR5 hB5 hO5 hN5 hr6 hs6 hx6 hL6 hw6 hz6 HNx HRb D9 HF HG HRs HB hz HW
   by_cases he:er=0
   ·subst he;have HX5:Hid (SF=cZ p (aK p).1 k Y):=by show _=_;rw[HX1.out];simp
    have Kj:=au (HRY.out rfl);clear HX1 HRY
    go_wp2_with (rw[←HW6.out])
    go_roundg k
    case measure=>omega
    case rel=>exact⟨j+1,by omega,by go_num,Y,za,ua,zc,uc,Kj,MO,HF6,HG6,MP,Below.cO HB6.out (Nat.le_refl _),by simp only[size_setCell];exact MQ,HX5⟩
   have HX5:Hid (SF=(er,cK)):=by show _=_;rw[HX1.out,if_pos he]
   have hne:(er != 0)=true:=by simpa using he
   clear HX1 HRY he
   go_wp2_with (rw[←HW6.out])
   obtain⟨r0,r1,r2,r3,r4⟩:=lI HS6.out (.slice none 0 0) (.slice none 0 0) (.int .i64 0) (.int .i64 0) (.bool false);exact bodyPost_ret (v:=.tuple #[.agg #[.slice none 0 0,.slice none 0 0,.int .i64 0,.int .i64 0,.bool false],.int .i64 er]) (by simp[results,Tryz.results12,go_sem,r0,r1,r2,r3,r4]) rfl ⟨_,er,rfl,by rw[HX5.out];exact⟨rfl,qL.none _⟩,Below.cO HB6.out (Nat.le_succ _)⟩
 have HX1:Hid (SF=(R,cK)):=by show _=_;rw[HX.out,if_pos h0]
 have hne:(R != 0)=true:=by simpa using h0
 clear HX HGo h0;go_wp2;obtain⟨r0,r1,r2,r3,r4⟩:=lI nY.out (.slice none 0 0) (.slice none 0 0) (.int .i64 0) (.int .i64 0) (.bool false);exact bodyPost_ret (v:=.tuple #[.agg #[.slice none 0 0,.slice none 0 0,.int .i64 0,.int .i64 0,.bool false],.int .i64 R]) (by simp[results,Tryz.results12,go_sem,r0,r1,r2,r3,r4]) rfl ⟨_,R,rfl,by rw[HX1.out];exact⟨rfl,qL.none _⟩,Below.cO HB3.out (Nat.le_succ _)⟩
end Go.Proofs.YthngiikhgplldaaGreatDoor
