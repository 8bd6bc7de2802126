import Derived.Test.YthngiikhgplldaaGreatDoorJR29
import Derived.Test.YthngiikhgplldaaGreatDoorJR22
import Derived.BigQuiet
import Derived.Test.YthngiikhgplldaaGreatDoorJR5
import Derived.ProofKit
import Derived.SliceStrings
import Derived.Deep.Slices
import Derived.Deep.Strs
import Derived.Lib.SmallJoins
import Derived.SizedLaws
import Derived.Test.YthngiikhgplldaaGreatDoorJR9
import Derived.Shelf.LaysM
import Derived.Test.YthngiikhgplldaaGreatDoorProg
open Go.RowKit Go.Sort Go.Maps Go.ChangeShapes Go.WideShapes Go.ChangeAt Go.Deep
set_option maxHeartbeats 2000000
set_option maxRecDepth 100000
namespace Go.Proofs.YthngiikhgplldaaGreatDoor
theorem wM {p:List aD} {r:gM} {n:Int} (h:(dB p r n).1≠0):(dB p r n).2=cK:=by
 unfold dB at h⊢;split;·rfl
 rename_i h1;rw[if_neg h1] at h;split;·rfl
 rename_i h2;rw[if_neg h2] at h;rcases vY (p:=p) (ss:=(aK p).1) n.toNat r with h3|h3|h3
 ·exact absurd h3 h
 ·rw[h3]
 rw[h3]
theorem rZ {p:List aD} {r:gM} {n:Int}:(dB p r n).2.known.length≤200∧(dB p r n).2.fresh.length≤200:=by
 by_cases h:(dB p r n).1=0
 ·have hw:=nZ (p:=p) (r:=r) (n:=n) (x:=(dB p r n).2) (Prod.ext h rfl);obtain⟨_,hr⟩:=gu hw;exact⟨hr.good.few,Nat.le_trans (vo hr.up hr.sub) hr.good.few⟩
 rw[wM h];exact⟨by simp[cK],by simp[cK]⟩
theorem Ak {p:List aD} {l:List aF}:(iT p l).2.known.length≤200∧(iT p l).2.fresh.length≤200:=by
 unfold iT;split;·exact⟨by simp[cK],by simp[cK]⟩
 rename_i h;obtain⟨_,hg,_⟩:=iF (Classical.byContradiction h);exact⟨hg.few,hg.few⟩
theorem uD (r:gM) (v1 v2:Value) (w:World) (h1:qL w v1 r) (h2:qL w v2 r):
  Calls Tryz.prog 6 #[v1,v2] w fun e w'=>e=.returned (.bool true)∧aj w w':=by
 obtain⟨kv,nv,rfl,hk1,hn1⟩:=h1;obtain⟨kv',nv',rfl,hk2,hn2⟩:=h2;obtain⟨ka,kc,rfl⟩:=aC hk1;obtain⟨na,nc,rfl⟩:=aC hn1;obtain⟨xa,xc,rfl⟩:=aC hk2;obtain⟨ya,yc,rfl⟩:=aC hn2;obtain⟨wb,hwb⟩:∃wb,wb=(w.alloc (.cells #[.slice ka r.known.length kc,.slice na r.fresh.length nc,.int .i64 r.level,.int .i64 r.rounds,.bool r.done] 26)).alloc (.cells #[.slice xa r.known.length xc,.slice ya r.fresh.length yc,.int .i64 r.level,.int .i64 r.rounds,.bool r.done] 26):=⟨_,rfl⟩;have hLb:aj w wb:=by rw[hwb];exact((aj.refl w).alloc _).alloc _
 have hzb:wb.heap.size=w.heap.size+2:=by rw[hwb];simp
 have hr1:wb.heap[w.heap.size]?=some (.cells #[.slice ka r.known.length kc,.slice na r.fresh.length nc,.int .i64 r.level,.int .i64 r.rounds,.bool r.done] 26 (0,0)):=by rw[hwb,Below.heap_alloc _ _ _ (by simp)];exact heap_alloc_new w _
 have hr2:wb.heap[w.heap.size+1]?=some (.cells #[.slice xa r.known.length xc,.slice ya r.fresh.length yc,.int .i64 r.level,.int .i64 r.rounds,.bool r.done] 26 (0,0)):=by have:=heap_alloc_new (w.alloc (.cells #[.slice ka r.known.length kc,.slice na r.fresh.length nc,.int .i64 r.level,.int .i64 r.rounds,.bool r.done] 26)) (.cells #[.slice xa r.known.length xc,.slice ya r.fresh.length yc,.int .i64 r.level,.int .i64 r.rounds,.bool r.done] 26);rw[hwb];simpa using this
 have HS1:=au (Ic _ _ r.known wb (hk1.later hLb) (hk2.later hLb));have HN1:=au (hn1.later hLb);have HN2:=au (hn2.later hLb);have HR1:=au hr1;have HR2:=au hr2;have HL:=au hLb;have HW:=au hwb;clear hk1 hn1 hk2 hn2 hLb hr1 hr2 hwb
 go_enter Tryz.func6,Tryz.ntmps6
 go_wp2_with fail
 rw[←HW.out];refine HS1.out.mono ?_;rintro e w1 ⟨rfl,hL1⟩;have hr1:w1.heap[w.heap.size]?=some (.cells #[.slice ka r.known.length kc,.slice na r.fresh.length nc,.int .i64 r.level,.int .i64 r.rounds,.bool r.done] 26 (0,0)):=by rw[hL1.block (by omega)];exact HR1.out
 have hr2:w1.heap[w.heap.size+1]?=some (.cells #[.slice xa r.known.length xc,.slice ya r.fresh.length yc,.int .i64 r.level,.int .i64 r.rounds,.bool r.done] 26 (0,0)):=by rw[hL1.block (by omega)];exact HR2.out
 obtain⟨b0,b1,b2,b3,b4,_,_⟩:=dQ hr1;obtain⟨q0,q1,q2,q3,q4,_,_⟩:=dQ hr2;have HS2:=au (Ic _ _ r.fresh w1 (HN1.out.later hL1) (HN2.out.later hL1));have Ll:=au hr1;have Lm:=au hr2;have HL1:=au (HL.out.trans hL1);have hz1:=hL1.size;clear hL1 hr1 hr2 HS1 HR1 HR2 HN1 HN2 HW
 go_wp2_with fail
 refine HS2.out.mono ?_;rintro e w2 ⟨rfl,hL2⟩;clear b0 b1 b2 b3 b4 q0 q1 q2 q3 q4;have hr1:w2.heap[w.heap.size]?=some (.cells #[.slice ka r.known.length kc,.slice na r.fresh.length nc,.int .i64 r.level,.int .i64 r.rounds,.bool r.done] 26 (0,0)):=by rw[hL2.block (by omega)];exact Ll.out
 have hr2:w2.heap[w.heap.size+1]?=some (.cells #[.slice xa r.known.length xc,.slice ya r.fresh.length yc,.int .i64 r.level,.int .i64 r.rounds,.bool r.done] 26 (0,0)):=by rw[hL2.block (by omega)];exact Lm.out
 obtain⟨b0,b1,b2,b3,b4,_,_⟩:=dQ hr1;obtain⟨q0,q1,q2,q3,q4,_,_⟩:=dQ hr2;have HL2:=au (HL1.out.trans hL2);clear hr1 hr2 hL2 HS2 Ll Lm;go_wp2;go_ret;exact⟨by simp,HL2.out⟩
theorem xZ (pv fv kv nv:Value) (n:Int) (p:List aD) (l:List aF) (r:gM) (w:World) (hv:iy.sl bT w pv p) (hf:Facts w fv l) (hk:Facts w kv r.known) (hn:Facts w nv r.fresh) (hlg:∀r∈p,wD r) (hol:∀k,okF (l.getD k aA)) (hok:∀k,okF (r.known.getD k aA)) (hon:∀k,okF (r.fresh.getD k aA)):
  Calls Tryz.prog 3 #[pv,fv,.agg #[kv,nv,.int .i64 r.level,.int .i64 r.rounds,.bool r.done],.int .i64 n] w fun e w'=>e=.returned (.bool true)∧Below w.heap.size w w':=by
 obtain⟨K,N,lev,rn,dn⟩:=r;dsimp only at*;obtain⟨pa,pc,rfl⟩:=aB.slice hv;obtain⟨fa,fc,rfl⟩:=aC hf;obtain⟨ka,kc,rfl⟩:=aC hk;obtain⟨na,nc,rfl⟩:=aC hn;obtain⟨w0,hw0⟩:∃w0,w0=w.alloc (.cells #[.slice ka K.length kc,.slice na N.length nc,.int .i64 lev,.int .i64 rn,.bool dn] 26):=⟨_,rfl⟩;have hL0:aj w w0:=by rw[hw0];exact(aj.refl w).alloc _
 have hz0:w0.heap.size=w.heap.size+1:=by rw[hw0];simp
 have hr0:w0.heap[w.heap.size]?=some (.cells #[.slice ka K.length kc,.slice na N.length nc,.int .i64 lev,.int .i64 rn,.bool dn] 26 (0,0)):=by rw[hw0];exact heap_alloc_new w _
 have HBg:=au (Ad p l (.slice pa p.length pc) (.slice fa l.length fc) w0 (aB.aS hv hL0) (hf.later hL0));have hfb:= @Ak p l;obtain⟨er,A,hbg⟩:∃er A,iT p l=(er,A):=⟨_,_,rfl⟩;rw[hbg] at HBg hfb;have HBE:=au hbg;have HV:=au hv;have HF:=au hf;have HK:=au hk;have HN:=au hn;have HLg:=au hlg;have HOl:=au hol;have HOk:=au hok;have HOn:=au hon;have HR0:=au hr0;have HW0:=au hw0;have HL0:=au hL0;clear hv hf hk hn hlg hol hok hon hr0 hw0 hL0 hbg
 go_enter Tryz.func3,Tryz.ntmps3
 go_wp2_with fail
 rw[←HW0.out];refine HBg.out.mono ?_;rintro e w1 ⟨v1,er',rfl,⟨her,hR1⟩,hB1⟩;dsimp only at her hR1 hfb;obtain rfl:er=er':=her.symm;clear her;obtain⟨xa,xc,ya,yc,rfl,hO1,hN1⟩:=hR1.slices;obtain⟨w2,hw2⟩:∃w2,w2=w1.alloc (.cells #[.slice xa A.known.length xc,.slice ya A.fresh.length yc,.int .i64 A.level,.int .i64 A.rounds,.bool A.done] 26):=⟨_,rfl⟩;have hL2:aj w1 w2:=by rw[hw2];exact(aj.refl w1).alloc _
 have hz1:=hB1.size;have hz2:w2.heap.size=w1.heap.size+1:=by rw[hw2];simp
 have hx2:w2.heap[w1.heap.size]?=some (.cells #[.slice xa A.known.length xc,.slice ya A.fresh.length yc,.int .i64 A.level,.int .i64 A.rounds,.bool A.done] 26 (0,0)):=by rw[hw2];exact heap_alloc_new w1 _
 have hr2:w2.heap[w.heap.size]?=some (.cells #[.slice ka K.length kc,.slice na N.length nc,.int .i64 lev,.int .i64 rn,.bool dn] 26 (0,0)):=by rw[hL2.block (by omega),hB1.block _ (by omega)];exact HR0.out
 have hB2:Below w.heap.size w w2:=ak (ak HL0.out.below hB1 HL0.out.size) hL2.below (by omega);have hRg:=IQ p l (.slice pa p.length pc) (.slice fa l.length fc) w2 (aB.aO HV.out hB2) (HF.out.below hB2) HLg.out HOl.out;rw[HBE.out] at hRg;have HRg:=au hRg;have HX2:=au hx2;have HR2:=au hr2;have HA2:=au ((hO1.facts (by omega)).later hL2);have HC2:=au ((hN1.facts (by omega)).later hL2);have HW2:=au hw2;have HB2:=au hB2;clear hR1 hB1 hO1 hN1 hL2 hx2 hr2 hw2 hB2 hRg HBg HW0 HR0 HL0
 go_wp2_with fail
 rw[←HW2.out];refine HRg.out.mono ?_;rintro e w3 ⟨v3,er',rfl,⟨her,hR3⟩,hB3⟩;dsimp only at her hR3;obtain rfl:er=er':=her.symm;clear her;obtain⟨za,zc,ua,uc,rfl,hO3,hN3⟩:=hR3.slices;obtain⟨w4,hw4⟩:∃w4,w4=w3.alloc (.cells #[.slice za A.known.length zc,.slice ua A.fresh.length uc,.int .i64 A.level,.int .i64 A.rounds,.bool A.done] 26):=⟨_,rfl⟩;have hL4:aj w3 w4:=by rw[hw4];exact(aj.refl w3).alloc _
 have hz3:=hB3.size;have hz4:w4.heap.size=w3.heap.size+1:=by rw[hw4];simp
 have hy4:w4.heap[w3.heap.size]?=some (.cells #[.slice za A.known.length zc,.slice ua A.fresh.length uc,.int .i64 A.level,.int .i64 A.rounds,.bool A.done] 26 (0,0)):=by rw[hw4];exact heap_alloc_new w3 _
 have hx4:w4.heap[w1.heap.size]?=some (.cells #[.slice xa A.known.length xc,.slice ya A.fresh.length yc,.int .i64 A.level,.int .i64 A.rounds,.bool A.done] 26 (0,0)):=by rw[hL4.block (by omega),hB3.block _ (by omega)];exact HX2.out
 have hr4:w4.heap[w.heap.size]?=some (.cells #[.slice ka K.length kc,.slice na N.length nc,.int .i64 lev,.int .i64 rn,.bool dn] 26 (0,0)):=by rw[hL4.block (by omega),hB3.block _ (by omega)];exact HR2.out
 have HB4:Hid (Below w.heap.size w w4):=ak (ak HB2.out hB3 HB2.out.size) hL4.below (by omega);have HA4:=au ((HA2.out.below hB3).later hL4);have HC4:=au ((HC2.out.below hB3).later hL4);have HD4:=au (hO3.later hL4);have HE4:=au (hN3.later hL4);have HY4:=au hy4;have HX4:=au hx4;have HR4:=au hr4;have HW4:=au hw4;obtain⟨b0,b1,b2,b3,b4,⟨g0,g1,g2,g3,g4⟩,_⟩:=dQ hr4;obtain⟨c0,c1,c2,c3,c4,⟨f0,f1,f2,f3,f4⟩,_⟩:=dQ hx4;obtain⟨d0,d1,d2,d3,d4,⟨e0,e1,e2,e3,e4⟩,_⟩:=dQ hy4;clear hR3 hB3 hO3 hN3 hL4 hy4 hx4 hr4 hw4 HRg HW2 HB2 HA2 HC2 HX2 HR2
 go_wp2_with (rw[←HW4.out])
 have HSr:Hid (∀w',Below w4.heap.size w4 w'→w'.cell? ⟨w.heap.size,0,none⟩=some (.slice ka K.length kc)∧w'.cell? ⟨w.heap.size,1,none⟩=some (.slice na N.length nc)∧w'.cell? ⟨w.heap.size,2,none⟩=some (.int .i64 lev)∧w'.cell? ⟨w.heap.size,3,none⟩=some (.int .i64 rn)∧w'.cell? ⟨w.heap.size,4,none⟩=some (.bool dn)):=fun w' h=>by obtain⟨p0,p1,p2,p3,p4,_,_⟩:=dQ ((h.block _ (by omega)).trans HR4.out);exact⟨p0,p1,p2,p3,p4⟩
 have HSx:Hid (∀w',Below w4.heap.size w4 w'→w'.cell? ⟨w1.heap.size,0,none⟩=some (.slice xa A.known.length xc)∧w'.cell? ⟨w1.heap.size,1,none⟩=some (.slice ya A.fresh.length yc)∧w'.cell? ⟨w1.heap.size,2,none⟩=some (.int .i64 A.level)∧w'.cell? ⟨w1.heap.size,3,none⟩=some (.int .i64 A.rounds)∧w'.cell? ⟨w1.heap.size,4,none⟩=some (.bool A.done)):=fun w' h=>by obtain⟨p0,p1,p2,p3,p4,_,_⟩:=dQ ((h.block _ (by omega)).trans HX4.out);exact⟨p0,p1,p2,p3,p4⟩
 have HSy:Hid (∀w',Below w4.heap.size w4 w'→w'.cell? ⟨w3.heap.size,0,none⟩=some (.slice za A.known.length zc)∧w'.cell? ⟨w3.heap.size,1,none⟩=some (.slice ua A.fresh.length uc)∧w'.cell? ⟨w3.heap.size,2,none⟩=some (.int .i64 A.level)∧w'.cell? ⟨w3.heap.size,3,none⟩=some (.int .i64 A.rounds)∧w'.cell? ⟨w3.heap.size,4,none⟩=some (.bool A.done)):=fun w' h=>by obtain⟨p0,p1,p2,p3,p4,_,_⟩:=dQ ((h.block _ (by omega)).trans HY4.out);exact⟨p0,p1,p2,p3,p4⟩
 have HSm:Hid (∀w',Below w4.heap.size w4 w'→Calls Tryz.prog 6 #[.agg #[.slice xa A.known.length xc,.slice ya A.fresh.length yc,.int .i64 A.level,.int .i64 A.rounds,.bool A.done],.agg #[.slice za A.known.length zc,.slice ua A.fresh.length uc,.int .i64 A.level,.int .i64 A.rounds,.bool A.done]] w' fun e w''=>e=.returned (.bool true)∧Below w4.heap.size w4 w''):=fun w' h=>by refine(uD A _ _ w' ⟨_,_,rfl,HA4.out.below h,HC4.out.below h⟩ ⟨_,_,rfl,HD4.out.below h,HE4.out.below h⟩).mono ?_;rintro e w'' ⟨he,hL⟩;exact⟨he,ak h hL.below h.size⟩
 obtain⟨R,hR⟩:∃R,aX p ⟨K,N,lev,rn,dn⟩=R:=⟨_,rfl⟩;have HWa:Hid (∀w',Below w4.heap.size w4 w'→Calls Tryz.prog 7 #[.slice pa p.length pc,.agg #[.slice ka K.length kc,.slice na N.length nc,.int .i64 lev,.int .i64 rn,.bool dn]] w' fun e w''=>e=.returned (.int .i64 R)∧Below w4.heap.size w4 w''):=fun w' h=>by have h':=ak HB4.out h HB4.out.size;have:=Cm p ⟨K,N,lev,rn,dn⟩ (.slice pa p.length pc) _ _ w' (aB.aO HV.out h') (HK.out.below h') (HN.out.below h');rw[hR] at this;refine this.mono ?_;rintro e w'' ⟨he,hL⟩;exact⟨he,ak h hL h.size⟩
 have HWb:Hid (∀w',Below w4.heap.size w4 w'→Calls Tryz.prog 8 #[.slice pa p.length pc,.agg #[.slice ka K.length kc,.slice na N.length nc,.int .i64 lev,.int .i64 rn,.bool dn]] w' fun e w''=>e=.returned (.int .i64 R)∧Below w4.heap.size w4 w''):=fun w' h=>by have h':=ak HB4.out h HB4.out.size;have:=qw p ⟨K,N,lev,rn,dn⟩ (.slice pa p.length pc) _ _ w' (aB.aO HV.out h') (HK.out.below h') (HN.out.below h') HLg.out HOk.out HOn.out;rw[hR] at this;refine this.mono ?_;rintro e w'' ⟨he,hL⟩;exact⟨he,ak h hL h.size⟩
 clear hR b0 b1 b2 b3 b4 g0 g1 g2 g3 g4 c0 c1 c2 c3 c4 f0 f1 f2 f3 f4 d0 d1 d2 d3 d4 e0 e1 e2 e3 e4;refine wp_region_held_drew (S:=fun w'=>Below w4.heap.size w4 w') (by kernel_rfl) (Below.refl _ _).drew (fun hHeld=>?_);refine tkY 0 25 hHeld ?_;refine tkY 1 26 hHeld ?_;refine tkY 2 27 hHeld ?_;refine tkY 3 28 hHeld ?_;refine tkY 4 29 hHeld ?_ rfl fun w hSw=>by obtain⟨p0,p1,p2,p3,p4⟩:=HSx.out _ hSw;go_simp;try with_reducible rfl
 refine tkY 5 30 hHeld ?_ rfl fun w hSw=>by obtain⟨p0,p1,p2,p3,p4⟩:=HSy.out _ hSw;go_simp;try with_reducible rfl
 refine tkC 6 fun K hK=>?_;go_simp;refine(HSm.out _ hHeld).mono ?_;rintro e wc ⟨rfl,hBc⟩;refine hK.out _ _ hBc (fun hHeld=>?_);clear hK K;clear hHeld;have hHeld:=hBc;refine tkY 7 32 hHeld ?_;refine tkY 8 33 hHeld ?_;refine tkY 9 34 hHeld ?_;refine tkY 10 35 hHeld ?_;refine tkY 11 36 hHeld ?_ rfl fun w hSw=>by obtain⟨p0,p1,p2,p3,p4⟩:=HSr.out _ hSw;go_simp;try with_reducible rfl
 refine tkY 13 38 hHeld ?_;refine tkY 14 39 hHeld ?_ rfl fun w hSw=>by obtain⟨p0,p1,p2,p3,p4⟩:=HSr.out _ hSw;go_simp;try with_reducible rfl
 refine tkC 12 fun K hK=>?_;go_simp;refine(HWa.out _ hHeld).mono ?_;rintro e wd ⟨rfl,hBd⟩;refine hK.out _ _ hBd (fun hHeld=>?_);clear hK K;clear hHeld;have hHeld:=hBd;refine tkC 15 fun K hK=>?_;go_simp;refine(HWb.out _ hHeld).mono ?_;rintro e w5 ⟨rfl,hB5⟩;refine hK.out _ _ hB5 (fun hHeld=>?_);clear hK K;clear hHeld;have hHeld:=hB5;refine tkY 16 41 hHeld ?_;refine tkY 17 42 hHeld ?_;refine wpAnyH_done (by kernel_rfl) ?_ _;have HBW:Hid (Below w.heap.size w w5):=ak HB4.out hB5 HB4.out.size;have hz5:=hB5.size;have HRW:=au ((hB5.block w.heap.size (by omega)).trans HR4.out);have HXW:=au ((hB5.block w1.heap.size (by omega)).trans HX4.out);have HYW:=au ((hB5.block w3.heap.size (by omega)).trans HY4.out);clear hHeld hB5 hBc hBd HWa HWb HSm HSx HSy HSr HA4 HC4 HD4 HE4 HX4 HY4 HR4 HB4 HW4 HBE hfb;obtain⟨er2,A2,hst⟩:∃er2 A2,dB p ⟨K,N,lev,rn,dn⟩ 1=(er2,A2):=⟨_,_,rfl⟩;have hfs:= @rZ p ⟨K,N,lev,rn,dn⟩ 1;have hSt:=Cn p ⟨K,N,lev,rn,dn⟩ (.slice pa p.length pc) (.slice ka K.length kc) (.slice na N.length nc) w5 (aB.aO HV.out HBW.out) (HK.out.below HBW.out) (HN.out.below HBW.out);rw[hst] at hfs hSt;have HSt:=au hSt;have HTE:=au hst;obtain⟨b0,b1,b2,b3,b4,_,_⟩:=dQ HRW.out;clear hSt hst
 go_wp2_with fail
 refine HSt.out.mono ?_;rintro e wa2 ⟨NH,er',rfl,⟨her,hRa⟩,hBa⟩;dsimp only at her hRa hfs;obtain rfl:er2=er':=her.symm;clear her;obtain⟨xa2,xc2,ya2,yc2,rfl,hOa,hNa⟩:=hRa.slices;have hza:=hBa.size;have hxa:=(hBa.block w1.heap.size (by omega)).trans HXW.out;have hya:=(hBa.block w3.heap.size (by omega)).trans HYW.out;have hra:=(hBa.block w.heap.size (by omega)).trans HRW.out;obtain⟨wb2,hwb⟩:∃wb2,wb2=cO wa2 w1.heap.size (.slice xa2 A2.known.length xc2) (.slice ya2 A2.fresh.length yc2) (.int .i64 A2.level) (.int .i64 A2.rounds) (.bool A2.done):=⟨_,rfl⟩;have hxb:wb2.heap[w1.heap.size]?=some (.cells #[.slice xa2 A2.known.length xc2,.slice ya2 A2.fresh.length yc2,.int .i64 A2.level,.int .i64 A2.rounds,.bool A2.done] 26 (0,0)):=by rw[hwb];exact gq hxa _ _ _ _ _
 have hyb:wb2.heap[w3.heap.size]?=some (.cells #[.slice za A.known.length zc,.slice ua A.fresh.length uc,.int .i64 A.level,.int .i64 A.rounds,.bool A.done] 26 (0,0)):=by rw[hwb,(bA wa2 w1.heap.size _ _ _ _ _).block _ (by omega) (by omega)];exact hya
 have hrb:wb2.heap[w.heap.size]?=some (.cells #[.slice ka K.length kc,.slice na N.length nc,.int .i64 lev,.int .i64 rn,.bool dn] 26 (0,0)):=by rw[hwb,(bA wa2 w1.heap.size _ _ _ _ _).block _ (by omega) (by omega)];exact hra
 have hzb:wa2.heap.size≤wb2.heap.size:=by rw[hwb];exact(bA _ _ _ _ _ _ _).size
 have hFb:Facts wb2 (.slice xa2 A2.known.length xc2) A2.known:=by rw[hwb];exact bD (aZ hxa) (bA _ _ _ _ _ _ _) (hOa.facts (by omega))
 have hGb:Facts wb2 (.slice ya2 A2.fresh.length yc2) A2.fresh:=by rw[hwb];exact bD (aZ hxa) (bA _ _ _ _ _ _ _) (hNa.facts (by omega))
 have hBb:Below w.heap.size w wb2:=by rw[hwb];exact Below.cO (ak HBW.out hBa HBW.out.size) (by omega)
 have hRt:=IV p ⟨K,N,lev,rn,dn⟩ (.slice pa p.length pc) (.slice ka K.length kc) (.slice na N.length nc) wb2 (aB.aO HV.out hBb) (HK.out.below hBb) (HN.out.below hBb) HLg.out HOk.out HOn.out;rw[HTE.out] at hRt;have HRt:=au hRt;clear b0 b1 b2 b3 b4;obtain⟨c0,c1,c2,c3,c4,⟨f0,f1,f2,f3,f4⟩,_⟩:=dQ hxa;obtain⟨b0,b1,b2,b3,b4,_,_⟩:=dQ hrb;have HXB:=au hxb;have HYB:=au hyb;have HRB:=au hrb;have HFB:=au hFb;have HGB:=au hGb;have HBB:=au hBb;unfold cO at hwb;have HWB:=au hwb;clear hRt hxa hya hra hxb hyb hrb hFb hGb hBb hwb hRa hBa hOa hNa HSt HXW HYW HRW HBW
 go_wp2_with (rw[←HWB.out])
 refine HRt.out.mono ?_;rintro e wc2 ⟨NI,er',rfl,⟨her,hRc⟩,hBc⟩;dsimp only at her hRc;obtain rfl:er2=er':=her.symm;clear her;obtain⟨za2,zc2,ua2,uc2,rfl,hOc,hNc⟩:=hRc.slices;have hzc:=hBc.size;have hxc:=(hBc.block w1.heap.size (by omega)).trans HXB.out;have hyc:=(hBc.block w3.heap.size (by omega)).trans HYB.out;have hrc:=(hBc.block w.heap.size (by omega)).trans HRB.out;obtain⟨wd2,hwd⟩:∃wd2,wd2=cO wc2 w3.heap.size (.slice za2 A2.known.length zc2) (.slice ua2 A2.fresh.length uc2) (.int .i64 A2.level) (.int .i64 A2.rounds) (.bool A2.done):=⟨_,rfl⟩;have hyd:wd2.heap[w3.heap.size]?=some (.cells #[.slice za2 A2.known.length zc2,.slice ua2 A2.fresh.length uc2,.int .i64 A2.level,.int .i64 A2.rounds,.bool A2.done] 26 (0,0)):=by rw[hwd];exact gq hyc _ _ _ _ _
 have hxd:wd2.heap[w1.heap.size]?=some (.cells #[.slice xa2 A2.known.length xc2,.slice ya2 A2.fresh.length yc2,.int .i64 A2.level,.int .i64 A2.rounds,.bool A2.done] 26 (0,0)):=by rw[hwd,(bA wc2 w3.heap.size _ _ _ _ _).block _ (by omega) (by omega)];exact hxc
 have hrd:wd2.heap[w.heap.size]?=some (.cells #[.slice ka K.length kc,.slice na N.length nc,.int .i64 lev,.int .i64 rn,.bool dn] 26 (0,0)):=by rw[hwd,(bA wc2 w3.heap.size _ _ _ _ _).block _ (by omega) (by omega)];exact hrc
 have hzd:wc2.heap.size≤wd2.heap.size:=by rw[hwd];exact(bA _ _ _ _ _ _ _).size
 have hSm:=uD A2 (.agg #[.slice xa2 A2.known.length xc2,.slice ya2 A2.fresh.length yc2,.int .i64 A2.level,.int .i64 A2.rounds,.bool A2.done]) (.agg #[.slice za2 A2.known.length zc2,.slice ua2 A2.fresh.length uc2,.int .i64 A2.level,.int .i64 A2.rounds,.bool A2.done]) wd2 ⟨_,_,rfl,by rw[hwd];exact bD (aZ hyc) (bA _ _ _ _ _ _ _) (HFB.out.below hBc),by rw[hwd];exact bD (aZ hyc) (bA _ _ _ _ _ _ _) (HGB.out.below hBc)⟩ ⟨_,_,rfl,by rw[hwd];exact bD (aZ hyc) (bA _ _ _ _ _ _ _) hOc,by rw[hwd];exact bD (aZ hyc) (bA _ _ _ _ _ _ _) hNc⟩;have HSm:=au hSm;have hBd:Below w.heap.size w wd2:=by rw[hwd];exact Below.cO (ak HBB.out hBc HBB.out.size) (by omega)
 clear b0 b1 b2 b3 b4 c0 c1 c2 c3 c4 f0 f1 f2 f3 f4;obtain⟨q0,q1,q2,q3,q4,⟨f0,f1,f2,f3,f4⟩,_⟩:=dQ hyc;obtain⟨c0,c1,c2,c3,c4,_,_⟩:=dQ hxd;obtain⟨d0,d1,d2,d3,d4,_,_⟩:=dQ hyd;have HXD:=au hxd;have HYD:=au hyd;have HRD:=au hrd;have HBD:=au hBd;unfold cO at hwd;have HWD:=au hwd;clear hSm hxc hyc hrc hxd hyd hrd hBd hwd hRc hBc hOc hNc HRt HXB HYB HRB HFB HGB HBB HWB HTE
 go_wp2_with (rw[←HWD.out])
 refine HSm.out.mono ?_;rintro e we2 ⟨rfl,hLe⟩;have hze:=hLe.size;have HXW:=au ((hLe.block (by omega:w1.heap.size<wd2.heap.size)).trans HXD.out);have HYW:=au ((hLe.block (by omega:w3.heap.size<wd2.heap.size)).trans HYD.out);have HRW:=au ((hLe.block (by omega:w.heap.size<wd2.heap.size)).trans HRD.out);have HBW:Hid (Below w.heap.size w we2):=ak HBD.out hLe.below HBD.out.size;clear hLe HSm HXD HYD HRD HBD HWD q0 q1 q2 q3 q4 f0 f1 f2 f3 f4 c0 c1 c2 c3 c4 d0 d1 d2 d3 d4 hfs;obtain⟨er3,A3,hst⟩:∃er3 A3,dB p ⟨K,N,lev,rn,dn⟩ n=(er3,A3):=⟨_,_,rfl⟩;have hfs:= @rZ p ⟨K,N,lev,rn,dn⟩ n;have hSt:=rW p ⟨K,N,lev,rn,dn⟩ n (.slice pa p.length pc) (.slice ka K.length kc) (.slice na N.length nc) we2 (aB.aO HV.out HBW.out) (HK.out.below HBW.out) (HN.out.below HBW.out);rw[hst] at hfs hSt;have HSt:=au hSt;have HTE:=au hst;obtain⟨b0,b1,b2,b3,b4,_,_⟩:=dQ HRW.out;clear hSt hst
 go_wp2_with fail
 refine HSt.out.mono ?_;rintro e wa3 ⟨NJ,er',rfl,⟨her,hRa⟩,hBa⟩;dsimp only at her hRa hfs;obtain rfl:er3=er':=her.symm;clear her;obtain⟨xa3,xc3,ya3,yc3,rfl,hOa,hNa⟩:=hRa.slices;have hza:=hBa.size;have hxa:=(hBa.block w1.heap.size (by omega)).trans HXW.out;have hya:=(hBa.block w3.heap.size (by omega)).trans HYW.out;have hra:=(hBa.block w.heap.size (by omega)).trans HRW.out;obtain⟨wb3,hwb⟩:∃wb3,wb3=cO wa3 w1.heap.size (.slice xa3 A3.known.length xc3) (.slice ya3 A3.fresh.length yc3) (.int .i64 A3.level) (.int .i64 A3.rounds) (.bool A3.done):=⟨_,rfl⟩;have hxb:wb3.heap[w1.heap.size]?=some (.cells #[.slice xa3 A3.known.length xc3,.slice ya3 A3.fresh.length yc3,.int .i64 A3.level,.int .i64 A3.rounds,.bool A3.done] 26 (0,0)):=by rw[hwb];exact gq hxa _ _ _ _ _
 have hyb:wb3.heap[w3.heap.size]?=some (.cells #[.slice za2 A2.known.length zc2,.slice ua2 A2.fresh.length uc2,.int .i64 A2.level,.int .i64 A2.rounds,.bool A2.done] 26 (0,0)):=by rw[hwb,(bA wa3 w1.heap.size _ _ _ _ _).block _ (by omega) (by omega)];exact hya
 have hrb:wb3.heap[w.heap.size]?=some (.cells #[.slice ka K.length kc,.slice na N.length nc,.int .i64 lev,.int .i64 rn,.bool dn] 26 (0,0)):=by rw[hwb,(bA wa3 w1.heap.size _ _ _ _ _).block _ (by omega) (by omega)];exact hra
 have hzb:wa3.heap.size≤wb3.heap.size:=by rw[hwb];exact(bA _ _ _ _ _ _ _).size
 have hFb:Facts wb3 (.slice xa3 A3.known.length xc3) A3.known:=by rw[hwb];exact bD (aZ hxa) (bA _ _ _ _ _ _ _) (hOa.facts (by omega))
 have hGb:Facts wb3 (.slice ya3 A3.fresh.length yc3) A3.fresh:=by rw[hwb];exact bD (aZ hxa) (bA _ _ _ _ _ _ _) (hNa.facts (by omega))
 have hBb:Below w.heap.size w wb3:=by rw[hwb];exact Below.cO (ak HBW.out hBa HBW.out.size) (by omega)
 have hRt:=I5 p ⟨K,N,lev,rn,dn⟩ n (.slice pa p.length pc) (.slice ka K.length kc) (.slice na N.length nc) wb3 (aB.aO HV.out hBb) (HK.out.below hBb) (HN.out.below hBb) HLg.out HOk.out HOn.out;rw[HTE.out] at hRt;have HRt:=au hRt;clear b0 b1 b2 b3 b4;obtain⟨c0,c1,c2,c3,c4,⟨f0,f1,f2,f3,f4⟩,_⟩:=dQ hxa;obtain⟨b0,b1,b2,b3,b4,_,_⟩:=dQ hrb;have HXB:=au hxb;have HYB:=au hyb;have HRB:=au hrb;have HFB:=au hFb;have HGB:=au hGb;have HBB:=au hBb;unfold cO at hwb;have HWB:=au hwb;clear hRt hxa hya hra hxb hyb hrb hFb hGb hBb hwb hRa hBa hOa hNa HSt HXW HYW HRW HBW
 go_wp2_with (rw[←HWB.out])
 refine HRt.out.mono ?_;rintro e wc3 ⟨NK,er',rfl,⟨her,hRc⟩,hBc⟩;dsimp only at her hRc;obtain rfl:er3=er':=her.symm;clear her;obtain⟨za3,zc3,ua3,uc3,rfl,hOc,hNc⟩:=hRc.slices;have hzc:=hBc.size;have hxc:=(hBc.block w1.heap.size (by omega)).trans HXB.out;have hyc:=(hBc.block w3.heap.size (by omega)).trans HYB.out;have hrc:=(hBc.block w.heap.size (by omega)).trans HRB.out;obtain⟨wd3,hwd⟩:∃wd3,wd3=cO wc3 w3.heap.size (.slice za3 A3.known.length zc3) (.slice ua3 A3.fresh.length uc3) (.int .i64 A3.level) (.int .i64 A3.rounds) (.bool A3.done):=⟨_,rfl⟩;have hyd:wd3.heap[w3.heap.size]?=some (.cells #[.slice za3 A3.known.length zc3,.slice ua3 A3.fresh.length uc3,.int .i64 A3.level,.int .i64 A3.rounds,.bool A3.done] 26 (0,0)):=by rw[hwd];exact gq hyc _ _ _ _ _
 have hxd:wd3.heap[w1.heap.size]?=some (.cells #[.slice xa3 A3.known.length xc3,.slice ya3 A3.fresh.length yc3,.int .i64 A3.level,.int .i64 A3.rounds,.bool A3.done] 26 (0,0)):=by rw[hwd,(bA wc3 w3.heap.size _ _ _ _ _).block _ (by omega) (by omega)];exact hxc
 have hrd:wd3.heap[w.heap.size]?=some (.cells #[.slice ka K.length kc,.slice na N.length nc,.int .i64 lev,.int .i64 rn,.bool dn] 26 (0,0)):=by rw[hwd,(bA wc3 w3.heap.size _ _ _ _ _).block _ (by omega) (by omega)];exact hrc
 have hzd:wc3.heap.size≤wd3.heap.size:=by rw[hwd];exact(bA _ _ _ _ _ _ _).size
 have hSm:=uD A3 (.agg #[.slice xa3 A3.known.length xc3,.slice ya3 A3.fresh.length yc3,.int .i64 A3.level,.int .i64 A3.rounds,.bool A3.done]) (.agg #[.slice za3 A3.known.length zc3,.slice ua3 A3.fresh.length uc3,.int .i64 A3.level,.int .i64 A3.rounds,.bool A3.done]) wd3 ⟨_,_,rfl,by rw[hwd];exact bD (aZ hyc) (bA _ _ _ _ _ _ _) (HFB.out.below hBc),by rw[hwd];exact bD (aZ hyc) (bA _ _ _ _ _ _ _) (HGB.out.below hBc)⟩ ⟨_,_,rfl,by rw[hwd];exact bD (aZ hyc) (bA _ _ _ _ _ _ _) hOc,by rw[hwd];exact bD (aZ hyc) (bA _ _ _ _ _ _ _) hNc⟩;have HSm:=au hSm;have hBd:Below w.heap.size w wd3:=by rw[hwd];exact Below.cO (ak HBB.out hBc HBB.out.size) (by omega)
 clear b0 b1 b2 b3 b4 c0 c1 c2 c3 c4 f0 f1 f2 f3 f4;obtain⟨q0,q1,q2,q3,q4,⟨f0,f1,f2,f3,f4⟩,_⟩:=dQ hyc;obtain⟨c0,c1,c2,c3,c4,_,_⟩:=dQ hxd;obtain⟨d0,d1,d2,d3,d4,_,_⟩:=dQ hyd;have HXD:=au hxd;have HYD:=au hyd;have HRD:=au hrd;have HBD:=au hBd;unfold cO at hwd;have HWD:=au hwd;clear hSm hxc hyc hrc hxd hyd hrd hBd hwd hRc hBc hOc hNc HRt HXB HYB HRB HFB HGB HBB HWB HTE
 go_wp2_with (rw[←HWD.out])
 refine HSm.out.mono ?_;rintro e we3 ⟨rfl,hLe⟩;have hze:=hLe.size;have HXW:=au ((hLe.block (by omega:w1.heap.size<wd3.heap.size)).trans HXD.out);have HYW:=au ((hLe.block (by omega:w3.heap.size<wd3.heap.size)).trans HYD.out);have HRW:=au ((hLe.block (by omega:w.heap.size<wd3.heap.size)).trans HRD.out);have HBW:Hid (Below w.heap.size w we3):=ak HBD.out hLe.below HBD.out.size;clear hLe HSm HXD HYD HRD HBD HWD q0 q1 q2 q3 q4 f0 f1 f2 f3 f4 c0 c1 c2 c3 c4 d0 d1 d2 d3 d4 hfs;go_wp2;go_ret;exact⟨by simp,HBW.out⟩
section
variable {H:Type} {enc:TypeId×Value→H} {W:World}
theorem MR:ownKnob Tryz.prog.godebug=none:=by kernel_rfl
theorem uE:laidOutB Tryz.prog=true:=by kernel_rfl
theorem mJ:Tryz.prog.cellsOf 9=1:=by kernel_rfl
theorem x9 {a:Addr} {v:Value} (h:W.cell? (a.add 0)=some v):∃b off,a=⟨b,off,none⟩:=by
 obtain⟨b,off,spot⟩:=a;have hspot:spot=none:=by simpa[Addr.add] using World.cell?_spot h
 subst hspot;exact⟨b,off,rfl⟩
def jo (t:TypeId) (d:DataW H):Prop:=(d.weights Tryz.prog t).all (· ≤reachBytes)=true
def Opens {α:Type} (enc:TypeId×Value→H) (W:World) (ty:TypeId) (K:aB α) (ok:α→Prop):Prop:=
 ∀n cs x,DataW.trod enc Tryz.prog W 0 (fun _=>true) true n ty cs=some x→jo ty x.1→∃a,K.is bT W cs a∧ok a
theorem CJ {e:TypeId} {l:List (DataW H)} (h:(DataW.weightsAll Tryz.prog e l).all (· ≤reachBytes)=true):∀d∈l,jo e d:=by
 induction l with
 |nil=>intro d hd;cases hd
 |cons x r ih=>
  simp only[DataW.weightsAll,List.all_append,Bool.and_eq_true] at h;intro d hd;rcases List.mem_cons.1 hd with rfl|hd
  ·exact h.1
  exact ih h.2 d hd
theorem yg {α:Type} {K:aB α} {T ty:TypeId} {ok:α→Prop} (hT:Tryz.prog.underlying T=some (.slice ty)) (hc:Tryz.prog.cellsOf ty=K.size) (hby:16≤Tryz.prog.bytesOf ty) (hsz:0<K.size) (E:Opens enc W ty K ok)
  {n:Nat} {v:Value} {x:DataW H×List MemPlace} (hf:DataW.trod enc Tryz.prog W 0 (fun _=>true) true n T [v]=some x) (hw:jo T x.1):∃l,K.sl bT W v l∧(∀a∈l,ok a)∧l.length*Tryz.prog.bytesOf ty≤reachBytes:=by
 rcases open_slice hT hf with⟨hcs,_⟩|⟨a,len,cap,m,k,D,Pl,hcs,_,hl,hm,hmm,hx,hel⟩;·simp only[List.cons.injEq,and_true] at hcs;exact⟨[],by rw[hcs];exact K.jE _ _ _ _,fun a ha=>(by cases ha),by simp⟩
 simp only[List.cons.injEq,and_true] at hcs;simp only[if_true] at hmm;subst hmm;rw[hc] at hel;have hd:x.1=.slice ((List.range len).map D) ((List.range (m-len)).map fun j=>D (len+j)):=by rw[hx]
 have hw2:(decide ((len+(m-len))*Tryz.prog.bytesOf ty≤reachBytes)&&((DataW.weightsAll Tryz.prog ty ((List.range len).map D)).all (· ≤reachBytes)&&(DataW.weightsAll Tryz.prog ty ((List.range (m-len)).map fun j=>D (len+j))).all (· ≤reachBytes)))=true:=by have:=hw;unfold jo at this;rw[hd,DataW.weights,hT] at this;simpa using this
 simp only[Bool.and_eq_true] at hw2;have hlen:len≤8796093022208:=by have h1:(len+(m-len))*Tryz.prog.bytesOf ty≤reachBytes:=of_decide_eq_true hw2.1;have h2:len*16≤(len+(m-len))*Tryz.prog.bytesOf ty:=Nat.mul_le_mul (by omega) hby;unfold reachBytes at h1;omega
 have each:∀i:Fin len,∃z:α,∃cs',W.cells? 0 (a.add (i.1*K.size)) K.size=some cs'∧K.is bT W cs' z∧ok z:=fun i=>by obtain⟨cs',k1,k2⟩:=hel i.1 (by omega);obtain⟨z,hz,hk⟩:=E _ _ _ k2 (CJ hw2.2.1 _ (List.mem_map.2 ⟨i.1,List.mem_range.2 i.2,rfl⟩));exact⟨z,cs',k1,hz,hk⟩
 refine⟨List.ofFn fun i=>Classical.choose (each i),⟨⟨by simpa using hlen,?_⟩,some a,m,by rw[hcs];simp,fun hne=>?_⟩,fun z hz=>?_,?_⟩
 ·rw[hcs];show len≤m;omega
 rotate_left
 rotate_left
 ·have h1:(len+(m-len))*Tryz.prog.bytesOf ty≤reachBytes:=of_decide_eq_true hw2.1;rw[List.length_ofFn];exact Nat.le_trans (Nat.mul_le_mul_right _ (by omega)) h1
 rotate_left
 ·rw[List.mem_ofFn] at hz;obtain⟨i,rfl⟩:=hz;obtain⟨_,_,_,hok⟩:=Classical.choose_spec (each i);exact hok
 have h0:0<len:=by refine Nat.pos_of_ne_zero fun e=>hne ?_;subst e;rfl
 have first:∀i:Fin len,∀cs',W.cells? 0 (a.add (i.1*K.size)) K.size=some cs'→∀j u,cs'[j]?=some u→W.cell? ((a.add (i.1*K.size)).add j)=some u:=fun i cs' k1 j u hu=>by obtain⟨h1,_,hcell⟩:=World.cells?_some k1;have hj:j<cs'.length:=(List.getElem?_eq_some_iff.1 hu).1;have:=hcell j (by omega);rw[this];exact hu
 have hplain:∃b off,a=⟨b,off,none⟩:=by
  obtain⟨cs',k0,k1,_⟩:=Classical.choose_spec (each ⟨0,h0⟩);have hl:=K.len k1;have hu:cs'[0]?=some (cs'[0]'(by omega)):=List.getElem?_eq_getElem (by omega);have:=first ⟨0,h0⟩ cs' k0 0 _ hu
  exact x9 (W:=W) (v:=cs'[0]'(by omega)) (by simpa[Addr.add] using this)
 obtain⟨b,off,rfl⟩:=hplain;have hlt:b<W.heap.size:=by
  obtain⟨cs',k0,k1,_⟩:=Classical.choose_spec (each ⟨0,h0⟩);have hl:=K.len k1;have hu:cs'[0]?=some (cs'[0]'(by omega)):=List.getElem?_eq_getElem (by omega);have:=first ⟨0,h0⟩ cs' k0 0 _ hu
  rw[Addr.add_lit,Addr.add_lit] at this;exact World.block_lt_of_cell? W _ this
 refine⟨b,off,rfl,trivial,hlt,fun i z hi=>?_⟩;have hi':i<len:=by simpa using(List.getElem?_eq_some_iff.1 hi).1
 rw[List.getElem?_ofFn,dif_pos hi'] at hi
 injection hi with hi
 subst hi;obtain⟨cs',k0,k1,_⟩:=Classical.choose_spec (each ⟨i,hi'⟩);refine⟨cs',k1,fun j u hu=>?_⟩;have:=first ⟨i,hi'⟩ cs' k0 j u hu
 rw[Addr.add_lit,Addr.add_lit] at this;exact this
theorem zf {α:Type} {K:aB α} {T ty:TypeId} {ok:α→Prop} (hT:Tryz.prog.underlying T=some (.slice ty)) (hc:Tryz.prog.cellsOf ty=K.size) (hby:16≤Tryz.prog.bytesOf ty) (hsz:0<K.size) (E:Opens enc W ty K ok)
  {n:Nat} {v:Value} {x:DataW H×List MemPlace} (hf:DataW.trod enc Tryz.prog W 0 (fun _=>true) true n T [v]=some x) (hw:jo T x.1):∃l,K.sl bT W v l∧∀a∈l,ok a:=by
 obtain⟨l,h1,h2,_⟩:=yg hT hc hby hsz E hf hw;exact⟨l,h1,h2⟩
def okT (t:dM):Prop:=t.2.length≤maxLen
def okA (a:aJ):Prop:=a.name.length≤maxLen∧∀t∈a.terms,okT t
def okR (r:aD):Prop:=okA r.head∧∀a∈r.body,okA a
theorem wN:Tryz.prog.cellsOf 98=2:=by kernel_rfl
theorem Al:Tryz.prog.cellsOf 52=1:=by kernel_rfl
theorem qy:Tryz.prog.cellsOf 54=3:=by kernel_rfl
theorem Am:Tryz.prog.cellsOf 55=1:=by kernel_rfl
theorem qA:Tryz.prog.cellsOf 4=1:=by kernel_rfl
theorem CK:Tryz.prog.bytesOf 98=24:=by kernel_rfl
theorem CO:Tryz.prog.bytesOf 54=48:=by kernel_rfl
theorem wO:Tryz.prog.cellsOf 57=4:=by kernel_rfl
theorem CP:Tryz.prog.bytesOf 57=72:=by kernel_rfl
theorem CQ:Opens enc W 98 gJ okT:=by
 intro n cs x h _;obtain⟨y0,y1,m,hx,hl,h0,h1⟩:=trod_struct2 Tryz.underlying98 h;rw[wN] at hl
 match cs,hl with
 |[c0,c1],_=>
  have e0:Tryz.prog.cellsOf 4=1:=qA;have e1:Tryz.prog.cellsOf 9=1:=mJ;simp only[e0,e1,List.drop_zero,List.drop_succ_cons,List.take_succ_cons,List.take_zero] at h0 h1;obtain⟨b,hb,_⟩:=DataW.trod_bool Tryz.underlying4 h0;obtain⟨s,hs,_,hsz⟩:=DataW.trod_string Tryz.underlying9 h1;simp only[List.cons.injEq,and_true] at hb hs;exact⟨(b,raw s),by show[c0,c1]=_;rw[hb,hs,kJ],by show(raw s).length≤_;rw[bK];exact hsz⟩
theorem wP:Opens enc W 54 dY okA:=by
 intro n cs x h hw;obtain⟨y0,y1,y2,m,hx,hl,h0,h1,h2⟩:=trod_struct3 Tryz.underlying54 h;rw[qy] at hl
 match cs,hl with
 |[c0,c1,c2],_=>
  have e0:Tryz.prog.cellsOf 4=1:=qA;have e1:Tryz.prog.cellsOf 9=1:=mJ;have e2:Tryz.prog.cellsOf 52=1:=Al;simp only[e0,e1,e2,List.drop_zero,List.drop_succ_cons,List.take_succ_cons,List.take_zero] at h0 h1 h2;obtain⟨b,hb,_⟩:=DataW.trod_bool Tryz.underlying4 h0;obtain⟨s,hs,_,hsz⟩:=DataW.trod_string Tryz.underlying9 h1;simp only[List.cons.injEq,and_true] at hb hs;have hw2:jo 52 y2.1:=by unfold jo at hw⊢;rw[hx,DataW.weights,Tryz.underlying54] at hw;simp only[List.map_cons,List.map_nil,DataW.weightsEach,List.all_append,Bool.and_eq_true] at hw;exact hw.2.2.1
  obtain⟨l,hl,hlk⟩:=zf Tryz.underlying52 wN (by rw[CK];decide) (by decide) CQ h2 hw2;exact⟨⟨b,raw s,l⟩,⟨c2,by show[c0,c1,c2]=_;rw[hb,hs,kJ],hl⟩,by show(raw s).length≤_;rw[bK];exact hsz,hlk⟩
theorem CR:Opens enc W 57 iy okR:=by
 intro n cs x h hw;obtain⟨y0,y1,m,hx,hl,h0,h1⟩:=trod_struct2 Tryz.underlying57 h;rw[wO] at hl
 match cs,hl with
 |[c0,c1,c2,c3],_=>
  have e0:Tryz.prog.cellsOf 54=3:=qy;have e1:Tryz.prog.cellsOf 55=1:=Am;simp only[e0,e1,List.drop_zero,List.drop_succ_cons,List.take_succ_cons,List.take_zero] at h0 h1;have hws:jo 54 y0.1∧jo 55 y1.1:=by unfold jo at hw⊢;rw[hx,DataW.weights,Tryz.underlying57] at hw;simp only[List.map_cons,List.map_nil,DataW.weightsEach,List.all_append,Bool.and_eq_true] at hw;exact⟨hw.1,hw.2.1⟩
  obtain⟨a,⟨v,ev,hv⟩,hak⟩:=wP _ _ _ h0 hws.1;obtain⟨l,hl,hlk⟩:=zf Tryz.underlying55 qy (by rw[CO];decide) (by decide) wP h1 hws.2;simp only[List.cons.injEq,and_true] at ev;exact⟨⟨a,l⟩,⟨v,c3,by show[c0,c1,c2,c3]=_;rw[ev.1,ev.2.1,ev.2.2],hv,hl⟩,hak,hlk⟩
theorem CS {b0:Nat} {v:Value} {d:DataW H} {p:List MemPlace} (hv:Value.okWide Tryz.prog W .any b0 23 v) (h:DataW.Trod enc Tryz.prog W 0 (fun _=>true) true 23 v d p) (hw:jo 23 d):∃l,iy.sl bT W v l∧∀r∈l,okR r:=by obtain⟨a0,MS,cap0,rfl⟩:=okWide_slice Tryz.underlying23 hv;obtain⟨fuel,hf⟩:=h;exact zf Tryz.underlying23 wO (by rw[CP];decide) (by decide) CR (x:=(d,p)) (by simpa[Value.cells] using hf) hw
theorem uF {ts:List TypeId} {ds:List (DataW H)} (h:(DataW.weightsEach Tryz.prog ts ds).all (· ≤reachBytes)=true) {j:Nat} {t:TypeId} {d:DataW H} (ht:ts[j]?=some t) (hd:ds[j]?=some d):jo t d:=
 List.all_eq_true.2 fun k hk=>List.all_eq_true.1 h _ (DataW.weights_mem_each ht hd k hk)
end
section
variable {H:Type} {enc:TypeId×Value→H} {W:World}
def Eb:aB aG where
 size:=2
 is:=fun B w c f=>∃s,c=[.string f.1,s]∧bsK.sl B w s f.2
 len:=fun⟨s,h,_⟩=>by subst h;rfl
 one:=fun⟨s,h,hs⟩ u hu=>by subst h;obtain⟨a,cap,rfl⟩:=aB.slice hs;simp at hu;rcases hu with rfl|rfl <;> rfl
 kept:=fun⟨v,h,hs⟩ h1 h2=>⟨v,h,aB.fE hs h1 h2⟩
 mono:=fun⟨v,h,hs⟩ h1=>⟨v,h,aB.dX hs h1⟩
theorem Gh {B:Nat→Prop} {w:World} {v:Value} {l:List ByteArray} (h:bsK.sl B w v l):Strs w v l:=by obtain⟨⟨h0,_⟩,a,cap,rfl,h1⟩:=h;refine⟨h0,a,cap,rfl,fun hne=>?_⟩;obtain⟨b,off,rfl,_,hb,hc⟩:=h1 hne;refine⟨b,off,rfl,hb,fun i hi=>?_⟩;obtain⟨c,rfl,c2⟩:=hc i _ (List.getElem?_eq_getElem hi);have:=c2 0 _ rfl;rw[List.getD_eq_getElem?_getD,List.getElem?_eq_getElem hi];simpa[bsK] using this
theorem zh {B:Nat→Prop} {w:World} {v:Value} {l:List aG} (h:Eb.sl B w v l) (hl:l.length≤3518437208883):Facts w v l:=by obtain⟨_,a,cap,rfl,h1⟩:=h;refine⟨hl,a,cap,rfl,fun hne=>?_⟩;obtain⟨b,off,rfl,_,hb,hc⟩:=h1 hne;refine⟨b,off,rfl,hb,fun i hi=>?_⟩;obtain⟨c,⟨s,rfl,hs⟩,c2⟩:=hc i _ (List.getElem?_eq_getElem hi);rw[List.getD_eq_getElem?_getD,List.getElem?_eq_getElem hi];exact⟨by simpa[Eb] using c2 0 _ rfl,s,by simpa[Eb] using c2 1 _ rfl,Gh hs⟩
def okS (s:ByteArray):Prop:=s.size≤maxLen
def Gt (f:aG):Prop:=okS f.1∧∀s∈f.2,okS s
theorem nL:Tryz.prog.cellsOf 50=2:=by kernel_rfl
theorem Ao:Tryz.prog.cellsOf 48=1:=by kernel_rfl
theorem kH:Tryz.prog.bytesOf 50=40:=by kernel_rfl
theorem CU:Tryz.prog.bytesOf 9=16:=by kernel_rfl
theorem Ec:Opens enc W 9 bsK okS:=by intro n cs x h _;obtain⟨s,hs,_,hsz⟩:=DataW.trod_string Tryz.underlying9 h;exact⟨s,hs,hsz⟩
theorem wQ:Opens enc W 50 Eb Gt:=by
 intro n cs x h hw;obtain⟨y0,y1,m,hx,hl,h0,h1⟩:=trod_struct2 Tryz.underlying50 h;rw[nL] at hl
 match cs,hl with
 |[c0,c1],_=>
  have e0:Tryz.prog.cellsOf 9=1:=mJ;have e1:Tryz.prog.cellsOf 48=1:=Ao;simp only[e0,e1,List.drop_zero,List.drop_succ_cons,List.take_succ_cons,List.take_zero] at h0 h1;obtain⟨s,hs,_,hsz⟩:=DataW.trod_string Tryz.underlying9 h0;simp only[List.cons.injEq,and_true] at hs;have hw2:jo 48 y1.1:=by unfold jo at hw⊢;rw[hx,DataW.weights,Tryz.underlying50] at hw;simp only[List.map_cons,List.map_nil,DataW.weightsEach,List.all_append,Bool.and_eq_true] at hw;exact hw.2.1
  obtain⟨l,hl,hlk⟩:=zf Tryz.underlying48 mJ (by rw[CU];decide) (by decide) Ec h1 hw2;exact⟨(s,l),⟨c1,by show[c0,c1]=_;rw[hs],hl⟩,hsz,hlk⟩
theorem Ap {b0:Nat} {v:Value} {d:DataW H} {p:List MemPlace} (hv:Value.okWide Tryz.prog W .any b0 24 v) (h:DataW.Trod enc Tryz.prog W 0 (fun _=>true) true 24 v d p) (hw:jo 24 d):∃l,Facts W v l∧∀f∈l,Gt f:=by obtain⟨a0,MS,cap0,rfl⟩:=okWide_slice Tryz.underlying24 hv;obtain⟨fuel,hf⟩:=h;obtain⟨l,h1,h2,h3⟩:=yg Tryz.underlying24 nL (by rw[kH];decide) (by decide) wQ (x:=(d,p)) (by simpa[Value.cells] using hf) hw;rw[kH] at h3;exact⟨l,zh h1 (by unfold reachBytes at h3;omega),h2⟩
end
end Go.Proofs.YthngiikhgplldaaGreatDoor
section
namespace Go.Proofs
open Go.Shelf
end Go.Proofs
end
