import Derived.Test.YtafmbokfkbccaaaGreatDoorJA31
import Derived.Test.YtafmbokfkbccaaaGreatDoorJA28
import Derived.Test.YtafmbokfkbccaaaGreatDoorJA29
import Derived.Test.YtafmbokfkbccaaaGreatDoorJA30
namespace Go.Proofs.YtafmbokfkbccaaaGreatDoor
open Go.RowKit Go.Sort
end Go.Proofs.YtafmbokfkbccaaaGreatDoor
namespace Go.Proofs.YtafmbokfkbccaaaGreatDoor
open Go.RowKit Go.Sort
end Go.Proofs.YtafmbokfkbccaaaGreatDoor
namespace Go.Proofs.YtafmbokfkbccaaaGreatDoor
open Go.RowKit Go.Sort
theorem E8.slices {B:Nat→Prop} {w:World} {v:Value} {d:dH} (h:E8 B w v d):∃a1 c1 a2 c2 a3 c3 a4 c4 a5 c5,v=.agg #[.slice a1 d.told.length c1,.slice a2 d.rules.length c2,.bool d.running,.slice a3 d.run.known.length c3,.slice a4 d.run.fresh.length c4,.int .i64 d.run.level,.int .i64 d.run.rounds,.bool d.run.done,.slice a5 d.saved.length c5]∧
  bC B w (.slice a1 d.told.length c1) d.told∧dX.sl B w (.slice a2 d.rules.length c2) d.rules∧bC B w (.slice a3 d.run.known.length c3) d.run.known∧bC B w (.slice a4 d.run.fresh.length c4) d.run.fresh∧kS.sl B w (.slice a5 d.saved.length c5) d.saved:=by
 obtain⟨tv,rv,kv,nv,sv,rfl,q1,q2,q3,q4,q5⟩:=h;obtain⟨xa1,xc1,rfl⟩:=q1.slice;obtain⟨xa2,xc2,rfl⟩:=Kind.slice q2;obtain⟨xa3,xc3,rfl⟩:=q3.slice;obtain⟨xa4,xc4,rfl⟩:=q4.slice;obtain⟨xa5,xc5,rfl⟩:=Kind.slice q5;exact⟨_,_,_,_,_,_,_,_,_,_,rfl,q1,q2,q3,q4,q5⟩
theorem E8.below {B:Nat→Prop} {w w':World} {v:Value} {d:dH} (h:E8 B w v d) (k:Below w.heap.size w w'):E8 B w' v d:=by
 obtain⟨tv,rv,kv,nv,sv,e,q1,q2,q3,q4,q5⟩:=h;exact⟨tv,rv,kv,nv,sv,e,q1.below k,Kind.aM q2 k.size fun i hi _=>k.block i hi,q3.below k,q4.below k,Kind.aM q5 k.size fun i hi _=>k.block i hi⟩
end Go.Proofs.YtafmbokfkbccaaaGreatDoor
namespace Go.Proofs.YtafmbokfkbccaaaGreatDoor
open Go.RowKit Go.Sort
def Ke (s:ByteArray):DoD:=⟨5,0,(⟨#[]⟩,[]),s⟩
theorem Kg {body:List aF} {fs:List au} (h:(j4 body fs).1≠0):(j4 body fs).2=[]:=by
 unfold j4 at h⊢;split
 ·rfl
 ·rename_i h1;rw[if_neg h1] at h;split
  ·rfl
  ·rename_i h2;rw[h2] at h;exact absurd rfl h
theorem yM.made (w:World):yM w (w.alloc (.cells #[] 72)) (.slice (some ⟨w.heap.size,0,none⟩) 0 0) []:=by
 refine⟨⟨[],World.ownsRow_made w #[] 0 (Nat.zero_le _) (by simp[maxLen]) (by simp),fun i x h=>by simp at h⟩,fun k e=> ?_,((Later.refl w).alloc _).below⟩;simp only[Value.ownBlock,Option.some.injEq] at e;omega
theorem M7 {w w':World} {v u:Value} {l:List DoD} (hl:doK.sl bU w v l) (hB:Below w.heap.size w w') (hu:∀k,u.ownBlock=some k→w.heap.size≤k):doK.sl (fun k=>u.ownBlock≠some k) w' v l:=by
 have h1:doK.sl (fun k=>k<w.heap.size) w v l:=Kind.aH hl fun k hk _=>hk;exact Kind.aH (Kind.aM h1 hB.size fun k hk _=>hB.block k hk) fun k _ hk e=>by have:=hu k e;omega
set_option maxRecDepth 100000 in
set_option maxHeartbeats 8000000 in
theorem Ij (φ:Prover) (hφ:Dw φ) (l:List DoD) (s:ByteArray) (lv:Value) (w:World) (hl:doK.sl bU w lv l) (m:Int) (hm:w.cell? ⟨1,0,none⟩=some (.int .i64 m)) (hmw:1<w.heap.size):
  Calls Tryz.prog 8 #[lv,.string s] w fun e w'=>e=.returned (.bool true)∧Below w.heap.size w w':=by
 have HA:=hide (Px w m hm hmw);have HM:Hid (∀w',Below w.heap.size w w'→w'.cell? ⟨1,0,none⟩=some (.int .i64 m)∧1<w'.heap.size):=fun w' h=>⟨by rw[h.cell (p:=⟨1,0,none⟩) hmw];exact hm,Nat.lt_of_lt_of_le hmw h.size⟩;obtain⟨la,lc,rfl⟩:=Kind.slice hl;have HV:=hide hl;have HΦ:=hide hφ;clear hm hmw hl hφ
 go_enter Tryz.func8,Tryz.ntmps8
 go_wp2_with fail
 refine HA.out.mono ?_;rintro e w1 ⟨rfl,hB1⟩;have HB1:=hide hB1;clear HA hB1
 by_cases h60:60≤(l.length:Int)
 ·go_wp2;go_ret;exact⟨rfl,HB1.out⟩
 have V6:l.length<60:=by omega
 obtain⟨hp1,hp2,hp3⟩:=Kc φ V6 0 (⟨#[]⟩,[]) s;obtain⟨D,A,er,hPl⟩:∃D A er,ku φ l=(D,A,er):=⟨_,_,_,rfl⟩;rw[hPl] at hp1 hp2 hp3;dsimp only at hp1 hp2 hp3;subst hp2;have hpc:=MU φ l _ w1 (Kind.aX HV.out HB1.out) m (HM.out w1 HB1.out).1 (HM.out w1 HB1.out).2 (fun _ _ _=>HΦ.out);rw[hPl] at hpc;have HPc:=hide hpc;have HP1:Hid (ku φ (l++[Ke s])=(D,A++[vo D s],0)):=hp1;have HP3:=hide hp3;clear hpc hPl hp1 hp3
 go_wp2_with fail
 refine HPc.out.mono ?_;rintro e w2 ⟨dv,ov,rfl,hDV,hAV,hB2⟩;obtain⟨xa1,xc1,xa2,xc2,xa3,xc3,xa4,xc4,xa5,xc5,rfl,_,_,q3,_,_⟩:=hDV.slices;obtain⟨oa,on,oc,rfl⟩:∃a n c,ov=.slice a n c:=by obtain⟨a,c,e⟩:=Kind.slice hAV;exact⟨a,_,c,e⟩
 obtain⟨w3,hw3⟩:∃w3,w3=w2.alloc (.cells #[.slice xa1 D.told.length xc1,.slice xa2 D.rules.length xc2,.bool D.running,.slice xa3 D.run.known.length xc3,.slice xa4 D.run.fresh.length xc4,.int .i64 D.run.level,.int .i64 D.run.rounds,.bool D.run.done,.slice xa5 D.saved.length xc5] 56):=⟨_,rfl⟩;have hL3:Later w2 w3:=by rw[hw3];exact(Later.refl _).alloc _
 have hr3:w3.heap[w2.heap.size]?=some (.cells #[.slice xa1 D.told.length xc1,.slice xa2 D.rules.length xc2,.bool D.running,.slice xa3 D.run.known.length xc3,.slice xa4 D.run.fresh.length xc4,.int .i64 D.run.level,.int .i64 D.run.rounds,.bool D.run.done,.slice xa5 D.saved.length xc5] 56 (0,0)):=by rw[hw3];exact heap_alloc_new _ _
 have Ik:Below w.heap.size w w3:=aj (aj HB1.out hB2 HB1.out.size) hL3.below (Nat.le_trans HB1.out.size hB2.size);have hK3:Facts w3 (.slice xa3 D.run.known.length xc3) D.run.known:=q3.facts.later hL3;obtain⟨w4,hw4⟩:∃w4,w4=w3.alloc (.cells #[] 72):=⟨_,rfl⟩;have hD4:yM w3 w4 (.slice (some ⟨w3.heap.size,0,none⟩) 0 0) []:=by rw[hw4];exact yM.made w3
 have Uh:=aj Ik hD4.below Ik.size;obtain⟨a5,n5,c5,w5,Pz,hD5⟩:=hD4.many (M7 HV.out Uh fun k e=>Nat.le_trans Ik.size (hD4.far k e)) (by simp;omega);rw[List.nil_append] at hD5;obtain⟨a6,n6,c6,w6,PD,hD6⟩:=hD5.more (x:=Ke s) (s:=.slice none 0 0) (by omega) ⟨⟨by simp[Ke],none,0,rfl,fun h=>absurd rfl h⟩,fun k h=>absurd rfl h⟩;have Qu:=aj Ik hD6.below Ik.size;have Sd:=MU φ (l++[Ke s]) _ w6 (hD6.sl (by simp;omega)) m (HM.out w6 Qu).1 (HM.out w6 Qu).2 (fun _ _ _=>HΦ.out);rw[HP1.out] at Sd;have HW3:=hide hw3;have HW4:=hide hw4;have HR5:=hide Pz;have HR6:=hide PD;have HP6:=hide Sd;have HB6:=hide Qu;have Qv:=hide hD6.below;have Bo:=hide hr3;have HK3:=hide hK3;clear hDV hAV hB2 q3 hw3 hL3 hr3 Ik hK3 hw4 hD4 Uh Pz hD5 PD hD6 Qu Sd HPc HP1 HΦ HV HB1
 go_wp2_with (first|(rw[←HW3.out])|(rw[←HW4.out])|(at_builtin;refine wpList_append_run rfl (.tmp 27) (.tmp 28) 49 rfl _ _ _ _ rfl rfl HR5.out ?_)|(at_builtin;refine wpList_append_run rfl (.tmp 29) (.tmp 32) 49 rfl _ _ _ _ rfl rfl HR6.out ?_)|fail)
 refine HP6.out.mono ?_;rintro e w7 ⟨dv,ov,rfl,hDV,hAV,hB7⟩;obtain⟨ya1,yc1,ya2,yc2,ya3,yc3,ya4,yc4,ya5,yc5,rfl,_⟩:=hDV.slices;obtain⟨pa,pc,rfl⟩:=Kind.slice hAV;have hal:(A++[vo D s])[l.length]?=some (vo D s):=by rw[←HP3.out,List.getElem?_append_right (Nat.le_refl _)];simp
 obtain⟨ob,oo,_,e10,hob,⟨bv,sv,kv,rfl,hbv,hsv,hkv⟩,hc⟩:=Kind.eT hAV hal;subst e10;obtain⟨ba,bc,rfl⟩:=Kind.slice hbv;obtain⟨sa,sc,rfl⟩:=Kind.slice hsv;obtain⟨ka,kc,rfl⟩:=Kind.slice hkv;obtain⟨w8,hw8⟩:∃w8,w8=w7.alloc (.cells #[.slice ya1 D.told.length yc1,.slice ya2 D.rules.length yc2,.bool D.running,.slice ya3 D.run.known.length yc3,.slice ya4 D.run.fresh.length yc4,.int .i64 D.run.level,.int .i64 D.run.rounds,.bool D.run.done,.slice ya5 D.saved.length yc5] 56):=⟨_,rfl⟩;have hL8:Later w7 w8:=by rw[hw8];exact(Later.refl _).alloc _
 obtain⟨Z,hZ⟩:∃Z,Z=vo D s:=⟨_,rfl⟩;rw[←hZ] at hc hbv hal;have dc:∀i u,[.int .i64 Z.err,.int .i64 Z.place,.int .i64 Z.n,.slice ba Z.binds.length bc,.string Z.prf.fact.1,.slice sa Z.prf.fact.2.length sc,.int .i64 Z.prf.rule,.slice ka Z.prf.kids.length kc][i]?=some u→w8.cell? ⟨ob,oo+l.length*8+i,none⟩=some u:=fun i u hu=>by
  rw[hL8.cell (p:=⟨ob,oo+l.length*8+i,none⟩) hob];exact hc i u hu
 have d0:=dc 0 _ rfl;have d1:=dc 1 _ rfl;have d2:=dc 2 _ rfl;have d3:=dc 3 _ rfl;have d4:=dc 4 _ rfl;have d5:=dc 5 _ rfl;have d6:=dc 6 _ rfl;have d7:=dc 7 _ rfl;rw[Nat.add_zero] at d0;obtain⟨w9,hw9⟩:∃w9,w9=w8.alloc (.cells #[.int .i64 Z.err,.int .i64 Z.place,.int .i64 Z.n,.slice ba Z.binds.length bc,.string Z.prf.fact.1,.slice sa Z.prf.fact.2.length sc,.int .i64 Z.prf.rule,.slice ka Z.prf.kids.length kc] 64):=⟨_,rfl⟩;have hL9:Later w8 w9:=by rw[hw9];exact(Later.refl _).alloc _
 have hr9:w9.heap[w8.heap.size]?=some (.cells #[.int .i64 Z.err,.int .i64 Z.place,.int .i64 Z.n,.slice ba Z.binds.length bc,.string Z.prf.fact.1,.slice sa Z.prf.fact.2.length sc,.int .i64 Z.prf.rule,.slice ka Z.prf.kids.length kc] 64 (0,0)):=by rw[hw9];exact heap_alloc_new _ _
 have Qw:=hL8.trans hL9;have Sg:Below w.heap.size w w9:=aj (aj HB6.out hB7 HB6.out.size) Qw.below (Nat.le_trans HB6.out.size hB7.size);have Si:Below w3.heap.size w3 w9:=aj (aj Qv.out hB7 Qv.out.size) Qw.below (Nat.le_trans Qv.out.size hB7.size);have HBd:=hide (K7 s w9 m (HM.out w9 Sg).1);have M8:Hid (w9.heap[w2.heap.size]?=_):=(Si.block _ (Array.getElem?_eq_some_iff.1 Bo.out).1).trans Bo.out;have HK9:=hide (HK3.out.below Si);have HBv:Hid (jL.sl bU w9 (.slice ba Z.binds.length bc) Z.binds):=Kind.aO (Kind.bW hbv) Qw;have HR9:=hide hr9;have HB9:=hide Sg;have HW8:=hide hw8;have HW9:=hide hw9;have HZ:=hide hZ;have hA1:(l.length:Int)<((A++[vo D s]).length:Int):=by rw[List.length_append,HP3.out];simp;omega
 generalize(A++[vo D s]).length=nA at*;clear hDV hAV hB7 hal hob hbv hsv hkv hc hw8 hL8 hZ dc hw9 hL9 hr9 Qw Sg Si HP6 HR5 HR6 HW3 HW4 Qv Bo HK3 HB6 HP3
 go_wp2_with (first|(rw[←HW8.out])|(rw[←HW9.out])|fail)
 refine HBd.out.mono ?_;rintro e wa ⟨va,rfl,hva,hBa⟩;have HZ1:Hid (Z=if(aY (raw s)).2.1≠0 then Bp (aY (raw s)).2.1 (aY (raw s)).2.2 else
  if(!D.running|| !D.run.done)=true then kD 11 else if(j4 (aY (raw s)).1 D.run.known).1≠0 then kD (j4 (aY (raw s)).1 D.run.known).1 else
  ⟨0,0,(j4 (aY (raw s)).1 D.run.known).2.length,(j4 (aY (raw s)).1 D.run.known).2,ng⟩):=HZ.out
 obtain⟨rs,e1,a1,htr⟩:∃rs e1 a1,aY (raw s)=(rs,e1,a1):=⟨_,_,_,rfl⟩;rw[htr] at hva HZ1;dsimp only at hva HZ1;rw[htr];obtain⟨ra,rn,rc,rfl⟩:∃a n c,va=.slice a n c:=by obtain⟨a,c,e⟩:=Kind.slice hva;exact⟨a,_,c,e⟩
 obtain⟨wb,hwb⟩:∃wb,wb=wa.alloc (.cells #[.int .i64 e1,.int .i64 a1] 75):=⟨_,rfl⟩;have hLb:Later wa wb:=by rw[hwb];exact(Later.refl _).alloc _
 have hrb:wb.heap[wa.heap.size]?=some (.cells #[.int .i64 e1,.int .i64 a1] 75 (0,0)):=by rw[hwb];exact heap_alloc_new _ _
 have NJ:Below w9.heap.size w9 wb:=aj hBa hLb.below hBa.size;have hRb:wb.heap[w2.heap.size]?=_:=(NJ.block _ (Array.getElem?_eq_some_iff.1 M8.out).1).trans M8.out;have hAb:wb.heap[w8.heap.size]?=_:=(NJ.block _ (Array.getElem?_eq_some_iff.1 HR9.out).1).trans HR9.out;have HBb:Hid (Below w.heap.size w wb):=aj HB9.out NJ HB9.out.size;have HKb:=hide (HK9.out.below NJ);have HVb:=hide (Kind.aO (Kind.bW hva) hLb);have V7:Hid (jL.sl bU wb (.slice ba Z.binds.length bc) Z.binds):=Kind.aX HBv.out NJ;obtain⟨b0,b1,_,_,_⟩:=jM hrb;have b1':wb.cell? ⟨wa.heap.size,0+1,none⟩=some (.int .i64 a1):=b1;obtain⟨⟨c0,c1,c2,c3,c4,c5,c6,c7,c8⟩,_,_⟩:=jN hRb;obtain⟨⟨g0,g1,g2,g3,g4,g5,g6,g7⟩,_,_⟩:=gD hAb;have HWb:=hide hwb;clear hwb hLb hrb NJ hRb hAb hva hBa htr M8 HR9 HBv HK9 HBd HW8 HW9 HB9 HZ d0 d1 d2 d3 d4 d5 d6 d7 hA1
 by_cases h0:e1=0
 ·subst h0;have HZ2:Hid (Z=if(!D.running|| !D.run.done)=true then kD 11 else if(j4 rs D.run.known).1≠0 then kD (j4 rs D.run.known).1 else⟨0,0,(j4 rs D.run.known).2.length,(j4 rs D.run.known).2,ng⟩):=by show _=_;rw[HZ1.out];simp
  clear HZ1
  by_cases hgo:D.running=true∧D.run.done=true
  ·obtain⟨hgr,hgd⟩:=hgo;have HZ3:Hid (Z=if(j4 rs D.run.known).1≠0 then kD (j4 rs D.run.known).1 else⟨0,0,(j4 rs D.run.known).2.length,(j4 rs D.run.known).2,ng⟩):=by show _=_;rw[HZ2.out,if_neg (by rw[hgr,hgd];simp)]
   rw[hgr] at c2;rw[hgd] at c7;have HC:=hide (Q8 rs (.slice ra rn rc) (.slice xa3 D.run.known.length xc3) D.run.known wb HVb.out HKb.out);have HAb:=hide (And.intro g0 (And.intro g2 g3));clear HZ2
   go_wp2_with (first|(rw[←HWb.out])|fail)
   refine HC.out.mono ?_;rintro e wc ⟨v4,er,rfl,hW4,hB4⟩;obtain⟨her,hl4⟩:=hW4.j4;obtain⟨ee,LL,hll⟩:∃ee LL,j4 rs D.run.known=(ee,LL):=⟨_,_,rfl⟩;rw[hll] at her hl4 HZ3;dsimp only at her hl4 HZ3;subst her;obtain⟨la',lc',rfl⟩:=Kind.slice hl4;obtain⟨f0,f2,f3⟩:=HAb.out;have hzb:=World.block_lt_of_cell? wb _ f0;have g0:wc.cell? ⟨w8.heap.size,0,none⟩=some (.int .i64 Z.err):=by rw[hB4.cell (p:=⟨w8.heap.size,0,none⟩) hzb];exact f0
   have g2:wc.cell? ⟨w8.heap.size,2,none⟩=some (.int .i64 Z.n):=by rw[hB4.cell (p:=⟨w8.heap.size,2,none⟩) hzb];exact f2
   have g3:wc.cell? ⟨w8.heap.size,3,none⟩=some (.slice ba Z.binds.length bc):=by rw[hB4.cell (p:=⟨w8.heap.size,3,none⟩) hzb];exact f3
   have HBc:Hid (Below w.heap.size w wc):=aj HBb.out hB4 HBb.out.size;have Qx:=Kind.aX V7.out hB4
   by_cases h2:er=0
   ·subst h2;have hZe:Z=⟨0,0,LL.length,LL,ng⟩:=by rw[HZ3.out];simp
    subst hZe;have HSm:=hide (zZ _ _ LL wc Qx (Kind.bW hl4));dsimp only at g0 g2 g3;clear Qx hl4 hW4 hB4 hll HC HWb HAb f0 f2 f3 hzb HZ3
    go_wp2_with fail
    refine HSm.out.mono ?_;rintro e wd ⟨rfl,hLd⟩;have hzc:=World.block_lt_of_cell? wc _ g2;have g2':wd.cell? ⟨w8.heap.size,2,none⟩=some (.int .i64 LL.length):=by rw[hLd.cell (p:=⟨w8.heap.size,2,none⟩) hzc];exact g2
    have HBd:=hide (aj HBc.out hLd.below HBc.out.size);clear g0 g2 g3 hLd HSm;go_wp2;go_ret;exact⟨rfl,HBd.out⟩
   ·have hZe:Z=kD er:=by rw[HZ3.out,if_pos h2]
    obtain rfl:LL=[]:=by have:=Kg (body:=rs) (fs:=D.run.known) (by rw[hll];exact h2);rw[hll] at this;exact this
    subst hZe;have HSm:=hide (zZ _ _ [] wc Qx (Kind.bW hl4));simp only[kD,Bp] at g0 g2 g3;clear Qx hl4 hW4 hB4 hll HC HWb HAb f0 f2 f3 hzb HZ3
    go_wp2_with fail
    refine HSm.out.mono ?_;rintro e wd ⟨rfl,hLd⟩;have hzc:=World.block_lt_of_cell? wc _ g2;have g2':wd.cell? ⟨w8.heap.size,2,none⟩=some (.int .i64 0):=by rw[hLd.cell (p:=⟨w8.heap.size,2,none⟩) hzc];exact g2
    have HBd:=hide (aj HBc.out hLd.below HBc.out.size);clear g0 g2 g3 hLd HSm;go_wp2;go_ret;exact⟨rfl,HBd.out⟩
  ·have HZ3:Z=kD 11:=by
    rw[HZ2.out,if_pos];cases h1:D.running <;> cases h2:D.run.done <;> simp_all
   subst HZ3;simp only[kD,Bp] at g0 g3;clear HZ2;cases h1:D.running
   ·rw[h1] at c2
    go_wp2_with (first|(rw[←HWb.out])|fail)
    go_ret;exact⟨rfl,HBb.out⟩
   ·rw[h1] at c2;have h2:D.run.done=false:=by
     cases h2:D.run.done
     ·rfl
     ·exact absurd ⟨h1,h2⟩ hgo
    rw[h2] at c7
    go_wp2_with (first|(rw[←HWb.out])|fail)
    go_ret;exact⟨rfl,HBb.out⟩
 ·have hZe:Z=Bp e1 a1:=by rw[HZ1.out,if_pos h0]
  subst hZe;simp only[Bp] at g0 g1;have hne:(e1==0)=false:=beq_eq_false_iff_ne.2 h0
  go_wp2_with (first|(rw[←HWb.out])|fail)
  go_ret;exact⟨rfl,HBb.out⟩
end Go.Proofs.YtafmbokfkbccaaaGreatDoor
