import Derived.Test.YtafmbokfkbccaaaGreatDoorJB30
import Derived.Test.YtafmbokfkbccaaaGreatDoorJB24
namespace Go.Proofs.YtafmbokfkbccaaaGreatDoor
open Go.RowKit Go.Sort Go.Maps
def iM (p:List aA) (told:List aj) (f:aj):Int×Option bf:=
 if gq p told≠0 then(gq p told,none) else if gD f≠0 then(gD f,none) else if inB (aX told (dP p told)) f=false then(6,none)
 else match(bq (mX (lu (aX told (dP p told))) p told (aX told (dP p told)) (told::dP p told)) 61 f 1 (0,0)).1 with
  |none=>(4,none)
  |some x=>(0,some x)
def RV (lo:Nat) (w:World) (v:Value):Option bf→Prop
 |none=>v=j6
 |some x=>sI 60 (From lo) w v x
def Qi (lo:Nat) (w:World) (v:Value):Option bf→Prop
 |none=>v=j6
 |some x=>JX 60 (From lo) w v x
theorem Qi.opt {lo:Nat} {w:World} {v:Value}:∀{o:Option bf},Qi lo w v o→RV lo w v o
 |none,h=>h
 |some _,h=>JX.prf h
set_option maxRecDepth 100000 in
set_option maxHeartbeats 8000000 in
theorem J2 (p:List aA) (told:List aj) (f:aj) (pv tv fv:Value) (w:World) (hpv:eD.sl bJ w pv p) (ht:Facts w tv told) (hf:bW w fv f):
  Calls Tryz.prog 18 #[pv,tv,fv] w fun e w'=>∃v,e=.returned (.tuple #[v,.int .i64 (iM p told f).1])∧Qi w.heap.size w' v (iM p told f).2∧Below w.heap.size w w':=by
 obtain⟨s,rfl,hs⟩:=hf;obtain⟨sa,sc,rfl⟩:=aZ hs;obtain⟨pa,pc,rfl⟩:=Kind.slice hpv;obtain⟨ta,tc,rfl⟩:=aD ht;obtain⟨w1,hw1⟩:∃w1,w1=(((w.alloc (.cells #[.string f.1,.slice sa f.2.length sc] 27)).alloc (.cells #[.string ⟨#[]⟩,.slice none 0 0,.int .i64 0,.slice none 0 0] 30)).alloc (.map #[] 0)).alloc (.cells #[.slice pa p.length pc,.slice ta told.length tc,.slice none 0 0,.int .i64 0,.int .i64 0,.slice none 0 0,.map (some (w.heap.size+2))] 115):=⟨_,rfl⟩;have hL1:Later w w1:=by rw[hw1];exact((((Later.refl w).alloc _).alloc _).alloc _).alloc _
 have hs1:w1.heap.size=w.heap.size+4:=by rw[hw1];simp
 have hr0:w1.heap[w.heap.size]?=some (.cells #[.string f.1,.slice sa f.2.length sc] 27 (0,0)):=by
  rw[hw1];simp only[bO,World.size_alloc]
  repeat (first|rw[if_pos trivial]|rw[if_pos (by omega)]|rw[if_neg (by omega)])
 have hr1:w1.heap[w.heap.size+1]?=some (.cells #[.string ⟨#[]⟩,.slice none 0 0,.int .i64 0,.slice none 0 0] 30 (0,0)):=by
  rw[hw1];simp only[bO,World.size_alloc]
  repeat (first|rw[if_pos trivial]|rw[if_pos (by omega)]|rw[if_neg (by omega)])
 have hr2:w1.heap[w.heap.size+2]?=some (.map #[] 0):=by
  rw[hw1];simp only[bO,World.size_alloc]
  repeat (first|rw[if_pos trivial]|rw[if_pos (by omega)]|rw[if_neg (by omega)])
 have hr3:w1.heap[w.heap.size+3]?=some (.cells #[.slice pa p.length pc,.slice ta told.length tc,.slice none 0 0,.int .i64 0,.int .i64 0,.slice none 0 0,.map (some (w.heap.size+2))] 115 (0,0)):=by
  rw[hw1];simp only[bO,World.size_alloc]
  repeat (first|rw[if_pos trivial]|rw[if_pos (by omega)]|rw[if_neg (by omega)])
 have HFo:=hide (Li p told (w.heap.size+3) (w.heap.size+2) (.slice pa p.length pc) (.slice ta told.length tc) w w1 ⟨hr3⟩ hL1.below (by omega) hpv ht);obtain⟨PP,hPP⟩:∃PP,PP=iM p told f:=⟨_,rfl⟩;rw[←hPP];unfold iM at hPP;have HPP:=hide hPP;have HW1:=hide hw1;have HL1:=hide hL1;have HR0:=hide hr0;have HR1:=hide hr1;have HR2:=hide hr2;have HR3:=hide hr3;have HPv:=hide hpv;have HTv:=hide ht;have HSt:=hide hs;have hsz1:w.heap.size+4≤w1.heap.size:=by omega
 have HS1:=hide hs1;have HBx:Hid (∀(x0 x1 x2 x3:Value) (wr:World),Below w.heap.size w wr→Below w.heap.size w (uJ wr (w.heap.size+1) x0 x1 x2 x3)):=fun x0 x1 x2 x3 wr h=>
  ak h ((oD wr (w.heap.size+1) x0 x1 x2 x3).below (n:=w.heap.size) (by omega) h.size) (Nat.le_refl _)
 clear hw1 hPP hL1 hr0 hr1 hr2 hr3 hpv ht hs hs1;obtain⟨fn,aH⟩:=f;dsimp only at*;have hmm:= @run_makeMap Tryz.prog
 go_enter Tryz.func18,Tryz.ntmps18
 go_wp2_with (first|(rw[←HW1.out])|fail)
 clear hmm;refine HFo.out.mono ?_;rintro e w2 ⟨rfl,hS2,hK2⟩;have hsz2:=hK2.size;have hBw2:Below w.heap.size w w2:=ak HL1.out.below (hK2.below (n:=w1.heap.size-1) (by have:=HS1.out;omega) (by have:=HS1.out;omega)) (by omega);have RX:=(hK2.block w.heap.size (by omega) (by omega)).trans HR0.out;have NM:=(hK2.block (w.heap.size+1) (by omega) (by omega)).trans HR1.out;have RY:=(hK2.block (w.heap.size+2) (by omega) (by omega)).trans HR2.out;have Qj:=hide RX;have Uc:=hide NM;have Ud:=hide RY;have HB2:=hide hBw2;have HK2:=hide hK2;have HS2:=hide hS2;obtain⟨FE,hFE⟩:∃FE,FE=gq p told:=⟨_,rfl⟩;rw[←hFE];rw[←hFE] at HPP HS2;have HFE:=hide hFE;clear hFE RX RY hBw2 hK2 hS2 HFo
 by_cases h0:FE=0
 ·subst h0;obtain⟨g1,g2,g3,g4,g5,g6,g7,g8,g9,g10⟩:=nJ HFE.out.symm;obtain⟨av,sv,xs,k1,k2,k3,k4,k5⟩:=(HS2.out rfl).has;rw[show(bg p (aS p).1 (countP (aS p).1) 0 told).2=dP p told from rfl] at k3 k4 k5;obtain⟨PS,hPS⟩:∃PS,PS=told::dP p told:=⟨_,rfl⟩;obtain⟨all,hal⟩:∃all,all=aX told (dP p told):=⟨_,rfl⟩;have OC:=HPP.out;rw[if_neg (by simp)] at OC;rw[←hPS,←hal] at g5 g8 g10 OC;rw[←hal] at g3 k3;rw[←hPS] at g6 g7 k4 k5;have NN:=hide OC;have RZ:bW w2 (.agg #[.string fn,.slice sa aH.length sc]) (fn,aH):=⟨_,rfl,HSt.out.below HB2.out⟩;have HWr:=hide (wrong (.agg #[.string fn,.slice sa aH.length sc]) (fn,aH) w2 RZ);obtain⟨q0,q1,_,_,_⟩:=lH Qj.out;have q1':w2.cell? ⟨w.heap.size,0+1,none⟩=some (.slice sa aH.length sc):=q1;obtain⟨WF,hWF⟩:∃WF,WF=gD (fn,aH):=⟨_,rfl⟩;rw[←hWF] at HWr NN;have HK1:=hide k1;have R4:=hide k2;have HK3:=hide k3;have HK4:=hide k4;have HK5:=hide k5;have hav:∃a n c,av=.slice a n c:=by obtain⟨a,c,e⟩:=aD k3;exact⟨a,_,c,e⟩
  obtain⟨aa,an,ac,rfl⟩:=hav;have HGr:Hid (Grd w (w.heap.size+3) p told all PS (.slice pa p.length pc) (.slice ta told.length tc)):=⟨by omega,HPv.out,HTv.out,g2.up,g3.up,g6,g7,g8,g9,g1.few,g3.few⟩;have HCl:Hid (∀f∈all,(∀g∈(mX (lu all) p told all PS f).2,g∈all)∧(mX (lu all) p told all PS f).2.length≤1000):=g10;have HAg:Hid (∀f∈all,f.2.length≤1000):=fun f hf=>by have:=(g3.right f hf).2.1;omega
  have hup:=g3.up;have HUp:=hide hup;have p2:=k1.cells.2.2.1;clear g1 g2 g3 g4 g5 g6 g7 g8 g9 g10 k1 k2 k3 k4 k5 OC HPP HS2 hWF hPS hal RZ q1 hup HFE p2
  go_wp2_with fail
  refine HWr.out.mono ?_;rintro e w3 ⟨rfl,hL3⟩;have hB3:=ak HB2.out hL3.below HB2.out.size;have MU:=hL3.size;have y8:=(hL3.block (by omega:w.heap.size+1<w2.heap.size)).trans Uc.out;have HL3:=hide hL3;have HB3:=hide hB3;have Lu:=hide y8;clear HWr q0 q1' hL3 hB3 NM
  by_cases h1:WF=0
  ·subst h1;have Qk:=NN.out;rw[if_neg (by simp)] at Qk;have OD:=hide Qk;have JY:=(HL3.out.block (by omega:w.heap.size<w2.heap.size)).trans Qj.out;obtain⟨q0,q1,_,_,_⟩:=lH JY;have q1':w3.cell? ⟨w.heap.size,0+1,none⟩=some (.slice sa aH.length sc):=q1;have R5:=HK1.out.below HL3.out.below;have p2:=R5.cells.2.2.1;have hin:=inC (.slice aa an ac) (.agg #[.string fn,.slice sa aH.length sc]) all (fn,aH) w3 (HK3.out.later HL3.out) ⟨_,rfl,HSt.out.below HB3.out⟩ HUp.out;rw[sN] at hin;have HIn:=hide hin;clear Qk NN JY q1 R5 hin y8
   go_wp2_with fail
   refine HIn.out.mono ?_;rintro e w4 ⟨rfl,hL4⟩;have hB4:=ak HB3.out hL4.below HB3.out.size;have Np:=hL4.size;have Hg:=(hL4.block (by omega:w.heap.size+1<w3.heap.size)).trans Lu.out;cases hib:inB all (fn,aH) with
   |false=>
    have HX:Hid (PP=(6,none)):=by show _=_;rw[OD.out,if_pos hib]
    have HZ:=hide (iQ (iZ Hg (.string ⟨#[]⟩) (.slice none 0 0) (.int .i64 0) (.slice none 0 0))).1;have HBf:=hide (HBx.out (.string ⟨#[]⟩) (.slice none 0 0) (.int .i64 0) (.slice none 0 0) w4 hB4);obtain⟨_,_,⟨t0,t1,t2,t3⟩,_⟩:=iQ Hg;clear OD Hg hib HIn q0 q1' p2 hL4 hB4;go_wp2;obtain⟨z0,z1,z2,z3⟩:=HZ.out;unfold uJ at z0 z1 z2 z3;refine bodyPost_ret (v:=.tuple #[j6,.int .i64 6]) (by simp[results,Tryz.results18,go_sem,z0,z1,z2,z3];rfl) rfl ⟨j6,?_,?_,HBf.out⟩
    ·rw[HX.out]
    ·rw[HX.out];exact rfl
   |true=>
    have OG:=OD.out;rw[if_neg (by rw[hib];simp)] at OG;have LB:=HL3.out.trans hL4;have Ql:=HK1.out.below LB.below;have Qm:w4.heap[w.heap.size+2]?=some (.map #[] 0):=(LB.block (by omega)).trans Ud.out;have hGp:Gp w4 (w.heap.size+3) w1.heap.size (w.heap.size+2) (.slice aa an ac) sv xs all PS:=by
     refine⟨?_,HK3.out.later LB,HK4.out,fun i u l hu hl=>(HK5.out i u l hu hl).later LB,Ql.uI ⟨_,_,_,rfl⟩ ⟨_,_,_,rfl⟩ ⟨_,_,_,rfl⟩ R4.out.mo,⟨_,_,Qm⟩,by omega,by omega,by omega,by omega⟩;rcases R4.out with e|h
     ·exact Or.inl e
     ·exact Or.inr (h.block fun i hi _=>LB.block hi)
    have hGq:Gq w w4 (w.heap.size+3) w1.heap.size (w.heap.size+2) p told all PS (.slice pa p.length pc) (.slice ta told.length tc) (.slice aa an ac) sv xs:=⟨hGp,HGr.out,by omega,hB4,HCl.out,HAg.out,⟨_,_,_,rfl⟩,⟨_,_,_,rfl⟩⟩;have hPv:PvS (fun k=>k≠w.heap.size+2∧k≠w.heap.size+3) w4 w4 (w.heap.size+3) (w.heap.size+2) (.slice pa p.length pc) (.slice ta told.length tc) (.slice aa an ac) sv ((0:Nat):Int) ((0:Nat):Int) 0 all (mX (lu all) p told all PS):=by
     refine⟨Ql,Kq.refl _ _ _,⟨.map [],?_,fun k h=>by simp[Maps.has] at h⟩⟩;have hw:((w.alloc (.cells #[] 0)).alloc (.cells #[] 0)).heap.size=w.heap.size+2:=by simp
     have hmd:=World.ownsMap_made (P:=Tryz.prog) ((w.alloc (.cells #[] 0)).alloc (.cells #[] 0)) 3 rV;rw[hw] at hmd;refine eU hmd ?_;rw[Qm];have:=heap_alloc_new ((w.alloc (.cells #[] 0)).alloc (.cells #[] 0)) (.map #[] 0);rw[hw] at this;exact this.symm
    have hPr:=BZ w w4 (w.heap.size+3) w1.heap.size (w.heap.size+2) p told all PS _ _ _ sv xs hGq 60 (fun k=>k≠w.heap.size+2∧k≠w.heap.size+3) (fn,aH) (.agg #[.string fn,.slice sa aH.length sc]) 1 0 0 0 w4 rfl (fun k h=>h) (fun k hk=>⟨by omega,by omega⟩) hPv (Nat.le_refl _) (by omega) (by omega) (aO.1 hib) ⟨_,rfl,HSt.out.below hB4⟩;rw[show(((1:Nat):Int))=1 from rfl] at hPr;obtain⟨PX,hPX⟩:∃PX,PX=bq (mX (lu all) p told all PS) (60+1) (fn,aH) 1 (0,0):=⟨_,rfl⟩;rw[←hPX] at hPr;rw[show(61:Nat)=60+1 from rfl,←hPX] at OG;have HPr:=hide hPr;have OH:=hide OG;have NK:=(LB.block (by omega:w.heap.size<w2.heap.size)).trans Qj.out;obtain⟨y0,y1,_,_,_⟩:=lH NK;have y1':w4.cell? ⟨w.heap.size,0+1,none⟩=some (.slice sa aH.length sc):=y1;have HB4:=hide hB4;have Md:=hide Hg;clear OG OD Ql Qm hGp hGq hPv hPr hPX hib HIn q0 q1' p2 hL4 hB4 LB NK y1 Hg
    go_wp2_with fail
    refine HPr.out.mono ?_;rintro e w5 ⟨v5,er5,n5,rfl,hV5,_,_,hK5⟩;have hsz5:=hK5.size;have hB5:Below w.heap.size w w5:=ak HB4.out (hK5.below (n:=w.heap.size) (by omega) (by omega) (by omega)) (Nat.le_refl _);have zx:=(hK5.block (w.heap.size+1) (by omega) (by omega) (by omega)).trans Md.out;obtain⟨PX1,PX2⟩:=PX;dsimp only at hV5;obtain⟨_,_,⟨t0,t1,t2,t3⟩,_⟩:=iQ zx;cases PX1 with
    |none=>
     obtain⟨rfl,rfl⟩:=hV5;have HX:Hid (PP=(4,none)):=OH.out;have HZ:=hide (iQ (iZ zx (.string ⟨#[]⟩) (.slice none 0 0) (.int .i64 0) (.slice none 0 0))).1;have HBf:=hide (HBx.out (.string ⟨#[]⟩) (.slice none 0 0) (.int .i64 0) (.slice none 0 0) w5 hB5);rw[show j6=.agg #[.string ⟨#[]⟩,.slice none 0 0,.int .i64 0,.slice none 0 0] from rfl];clear OH zx hB5 hK5 HPr y0 y1';go_wp2;obtain⟨z0,z1,z2,z3⟩:=HZ.out;unfold uJ at z0 z1 z2 z3;refine bodyPost_ret (v:=.tuple #[j6,.int .i64 4]) (by simp[results,Tryz.results18,go_sem,z0,z1,z2,z3];rfl) rfl ⟨j6,?_,?_,HBf.out⟩
     ·rw[HX.out]
     ·rw[HX.out];exact rfl
    |some x=>
     obtain⟨rfl,s9,k9,rfl,hs9,hk9,hz9⟩:=hV5;have hk9:(Ed 60).sl (From w4.heap.size) w5 k9 x.kids:=hk9;obtain⟨sa9,sc9,rfl⟩:=Kind.slice hs9;obtain⟨ka9,kc9,rfl⟩:=Kind.slice hk9;have HX:Hid (PP=(0,some x)):=OH.out;have hT:=oD w5 (w.heap.size+1) (.string x.fact.1) (.slice sa9 x.fact.2.length sc9) (.int .i64 x.rule) (.slice ka9 x.kids.length kc9);have HZ:=hide (iQ (iZ zx (.string x.fact.1) (.slice sa9 x.fact.2.length sc9) (.int .i64 x.rule) (.slice ka9 x.kids.length kc9))).1;have HBf:=hide (HBx.out (.string x.fact.1) (.slice sa9 x.fact.2.length sc9) (.int .i64 x.rule) (.slice ka9 x.kids.length kc9) w5 hB5);have HVf:Hid (JX 60 (From w.heap.size) (uJ w5 (w.heap.size+1) (.string x.fact.1) (.slice sa9 x.fact.2.length sc9) (.int .i64 x.rule) (.slice ka9 x.kids.length kc9)) (.agg #[.string x.fact.1,.slice sa9 x.fact.2.length sc9,.int .i64 x.rule,.slice ka9 x.kids.length kc9]) x):=
      ⟨_,_,rfl,Kind.aW (Kind.aT hs9 hT.size fun k hk (hb:w4.heap.size≤k)=>hT.block k hk (by omega)) fun k _ (hb:w4.heap.size≤k)=>(by show w.heap.size≤k;omega),Kind.aW (Kind.aT hk9 hT.size fun k hk (hb:w4.heap.size≤k)=>hT.block k hk (by omega)) fun k _ (hb:w4.heap.size≤k)=>(by show w.heap.size≤k;omega),hz9.kept hk9 fun k hk (hb:w4.heap.size≤k)=>hT.block k hk (by omega)⟩
     clear OH zx hB5 hK5 HPr y0 y1' hT hs9 hk9 hz9;go_wp2;obtain⟨z0,z1,z2,z3⟩:=HZ.out;unfold uJ at z0 z1 z2 z3;refine bodyPost_ret (v:=.tuple #[.agg #[.string x.fact.1,.slice sa9 x.fact.2.length sc9,.int .i64 x.rule,.slice ka9 x.kids.length kc9],.int .i64 0]) (by simp[results,Tryz.results18,go_sem,z0,z1,z2,z3]) rfl ⟨.agg #[.string x.fact.1,.slice sa9 x.fact.2.length sc9,.int .i64 x.rule,.slice ka9 x.kids.length kc9],?_,?_,HBf.out⟩
     ·rw[HX.out]
     ·rw[HX.out];exact HVf.out
  ·have hne:(WF != 0)=true:=by simpa using h1
   have HX:Hid (PP=(WF,none)):=by show _=_;rw[NN.out,if_pos h1]
   have HZ:=hide (iQ (iZ y8 (.string ⟨#[]⟩) (.slice none 0 0) (.int .i64 0) (.slice none 0 0))).1;have HBf:=hide (HBx.out (.string ⟨#[]⟩) (.slice none 0 0) (.int .i64 0) (.slice none 0 0) w3 HB3.out);obtain⟨_,_,⟨t0,t1,t2,t3⟩,_⟩:=iQ y8;clear h1 NN y8;go_wp2;obtain⟨z0,z1,z2,z3⟩:=HZ.out;unfold uJ at z0 z1 z2 z3;refine bodyPost_ret (v:=.tuple #[j6,.int .i64 WF]) (by simp[results,Tryz.results18,go_sem,z0,z1,z2,z3];rfl) rfl ⟨j6,?_,?_,HBf.out⟩
   ·rw[HX.out]
   ·rw[HX.out];exact rfl
 ·have hne:(FE != 0)=true:=by simpa using h0
  have HX:Hid (PP=(FE,none)):=by show _=_;rw[HPP.out,if_pos h0]
  have HZ:=hide (iQ (iZ NM (.string ⟨#[]⟩) (.slice none 0 0) (.int .i64 0) (.slice none 0 0))).1;have HBf:=hide (HBx.out (.string ⟨#[]⟩) (.slice none 0 0) (.int .i64 0) (.slice none 0 0) w2 HB2.out);obtain⟨_,_,⟨t0,t1,t2,t3⟩,_⟩:=iQ NM;clear h0 HPP NM HS2;go_wp2;obtain⟨z0,z1,z2,z3⟩:=HZ.out;unfold uJ at z0 z1 z2 z3;refine bodyPost_ret (v:=.tuple #[j6,.int .i64 FE]) (by simp[results,Tryz.results18,go_sem,z0,z1,z2,z3];rfl) rfl ⟨j6,?_,?_,HBf.out⟩
  ·rw[HX.out]
  ·rw[HX.out];exact rfl
theorem NP (p:List aA) (told:List aj) (f:aj) (pv tv fv:Value) (w:World) (hpv:eD.sl bJ w pv p) (ht:Facts w tv told) (hf:bW w fv f):
  Calls Tryz.prog 18 #[pv,tv,fv] w fun e w'=>∃v,e=.returned (.tuple #[v,.int .i64 (iM p told f).1])∧RV w.heap.size w' v (iM p told f).2∧Below w.heap.size w w':=
 (J2 p told f pv tv fv w hpv ht hf).mono fun _ _ ⟨v,he,hO,hB⟩=>⟨v,he,hO.opt,hB⟩
end Go.Proofs.YtafmbokfkbccaaaGreatDoor
namespace Go.Proofs.YtafmbokfkbccaaaGreatDoor
open Go.RowKit Go.Sort Go.Maps
def iR:List aA:=[⟨⟨false,[98],[(true,[88])]⟩,[⟨false,[97],[(true,[88])]⟩]⟩]
def iT:List aj:=[(kb [97],[kb [113]])]
def LC:List aj:=[(kb [97],[kb [113]]),(kb [98],[kb [113]])]
def R6:Bs:=[98,40,88,41,32,58,45,32,97,40,88,41,46]
theorem Gt:dZ R6=(iR,0,0):=by kernel_rfl
theorem Gu:aS iR=([0],0,0):=by kernel_rfl
theorem Ue:M9 iR [0] 1 0 iT=(0,LC):=by decide+kernel
theorem Jl:Up iT:=by show List.Pairwise _ _;rw[M8];decide+kernel
theorem AV:∀f∈iT,gD f=0:=by decide+kernel
theorem Gv:∀f∈iT,sD iR f=true:=by decide+kernel
theorem DV:GoodS iR iT:=⟨Jl,fun f hf=>iJ.1 (AV f hf),by decide,Gv⟩
theorem NQ:countP [0]=1:=by decide
theorem NR:kS iR iT=(0,LC):=by
 have e1:(aS iR).2.1=0:=by rw[Gu]
 have e2:(aS iR).1=[0]:=by rw[Gu]
 have e3:(fG iR iT).1=0:=by rw[Dm DV]
 unfold kS;rw[if_neg (fun h=>h e1),if_neg (fun h=>h e3),e2,NQ,FQ];exact Ue
end Go.Proofs.YtafmbokfkbccaaaGreatDoor
namespace Go.Proofs.YtafmbokfkbccaaaGreatDoor
open Go.RowKit Go.Sort Go.Maps
def f7:aj:=(kb [98],[kb [113]])
def x7:bf:=.mk f7 0 [.mk (kb [97],[kb [113]]) (-1) []]
theorem AX:gq iR iT=0:=by rw[←(iC iR iT).1,NR]
theorem Jm {a:aF} (hn:a.no=false) (k l:aj) (ls:List aj) (b:List aC):(dW [a] (k::l::ls) b).1≠0:=by
 unfold dW;rw[if_neg (by rw[hn];simp)];dsimp only;cases dL a k b with
 |none=>simp
 |some b'=>simp[dW]
theorem Qn:∀of:List aj,(∀k∈of,k∈LC)→jO LC ⟨⟨false,[98],[(true,[88])]⟩,[⟨false,[97],[(true,[88])]⟩]⟩ f7 of=0→of=[(kb [97],[kb [113]])]
 |[],_,h=>by exact absurd h (by decide+kernel)
 |[k],hk,h=>by
  have:=hk k (by simp);simp only[LC,List.mem_cons,List.not_mem_nil,or_false] at this;rcases this with rfl|rfl
  ·rfl
  ·exact absurd h (by decide+kernel)
 |k::l::ls,_,h=>by
  exfalso
  unfold jO at h;dsimp only at h;split at h
  ·cases h
  ·rename_i b _;have hk:=Jm (a:=⟨false,[97],[(true,[88])]⟩) rfl k l ls b;rw[if_pos hk] at h;exact hk h
theorem Qo:aX iT (dP iR iT)=LC:=by
 have h:=(iC iR iT).2 AX;rw[NR] at h;exact(Prod.ext_iff.1 h).2.symm
theorem Gw:iM iR iT f7=(0,some x7):=by
 obtain⟨_,_,_,_,hho,_⟩:=nJ AX;unfold iM;rw[if_neg (by rw[AX];simp),if_neg (by decide+kernel)];obtain⟨how,hh⟩:∃how,how=mX (lu (aX iT (dP iR iT))) iR iT (aX iT (dP iR iT)) (iT::dP iR iT):=⟨_,rfl⟩;rw[←hh] at hho⊢;rw[Qo] at hho⊢;rw[if_neg (by decide+kernel)];have h1:how (kb [97],[kb [113]])=(-1,[]):=by
  rw[hh];unfold mX;rw[if_pos (by decide+kernel)]
 have h2:how f7=(0,[(kb [97],[kb [113]])]):=by
  rcases hho.ok f7 (by simp[LC,f7]) with⟨h,_⟩|⟨i,r,of,hr,he,hs,hk⟩
  ·exact absurd h (by decide+kernel)
  ·have hi:i=0:=by
    have:=(List.getElem?_eq_some_iff.1 hr).1;simp[iR] at this;exact this
   subst hi;simp only[iR,List.getElem?_cons_zero,Option.some.injEq] at hr;subst hr;rw[he,Qn of hk hs]
   rfl
 have h3:∀n s,kr (s.1+1,max s.2 2)=false→bq how (n+1) (kb [97],[kb [113]]) 2 s=(some (.mk (kb [97],[kb [113]]) (-1) []),(s.1+1,max s.2 2)):=fun n s hm=>by
  unfold bq;rw[if_neg (by rw[hm];simp),h1]
  rfl
 have h4:bq how 61 f7 1 (0,0)=(some x7,(2,2)):=by
  show bq how (59+1+1) f7 1 (0,0)=_;unfold bq;rw[if_neg (by decide),h2];have h5:=h3 59 (1,1) (by decide);have e:iP (fun g s=>bq how (59+1) g (1+1) s) [(kb [97],[kb [113]])] (0+1,max 0 1)=(some [.mk (kb [97],[kb [113]]) (-1) []],(2,2)):=by
   unfold iP;have h6:bq how (59+1) (kb [97],[kb [113]]) (1+1) (0+1,max 0 1)=(some (.mk (kb [97],[kb [113]]) (-1) []),(2,2)):=h5;rw[h6]
   rfl
  dsimp only;rw[e]
  rfl
 rw[h4]
theorem Qp (n:Nat):fE (fun _=>false) (n+3) [x7] (0,0)=(2,2):=by
 rw[show n+3=n+1+1+1 from rfl];simp[fE,x7,bf.kids]
end Go.Proofs.YtafmbokfkbccaaaGreatDoor
namespace Go.Proofs.YtafmbokfkbccaaaGreatDoor
open Go.RowKit Go.Sort Go.Maps
theorem Ca:∀(n:Nat) (x:bf),Deep n x→cnt (n+1) x=cnt n x
 |0,x,h=>h.elim
 |n+1,x,h=>by
  show 1+(x.kids.map (cnt (n+1))).sum=1+(x.kids.map (cnt n)).sum;have e:x.kids.map (cnt (n+1))=x.kids.map (cnt n):=List.map_congr_left fun k hk=>Ca n k (h k hk);rw[e]
theorem mq {p:List aA} {told:List aj} {f:aj} {x:bf} (h:iM p told f=(0,some x)):x.fact=f∧nI p told 60 x=0∧cnt 61 x≤400∧Deep 60 x∧gq p told=0:=by
 unfold iM at h;split at h
 ·simp at h
 ·rename_i h0;have h0:gq p told=0:=Classical.byContradiction h0;obtain⟨_,_,_,hall,hho,_⟩:=nJ h0;split at h
  ·simp at h
  ·split at h
   ·simp at h
   ·rename_i hin;have hin:f∈aX told (dP p told):=by
     refine aO.1 ?_;cases e:inB (aX told (dP p told)) f with
     |true=>rfl
     |false=>exact absurd e hin
    split at h
    ·simp at h
    ·rename_i y hy;simp only[Prod.mk.injEq,Option.some.injEq,true_and] at h;subst h;obtain⟨s',hs⟩:∃s',bq (mX (lu (aX told (dP p told))) p told (aX told (dP p told)) (told::dP p told)) 61 f 1 (0,0)=(some y,s'):=⟨_,Prod.ext hy rfl⟩;obtain⟨a1,a2,a3,a4⟩:=BI hho 60 f 1 (0,0) y s' rfl hin hs;obtain⟨b1,_⟩:=oF 61 f 1 (0,0) y s' hs;have e1:(kS p told).1=0:=by rw[hall]
     have e2:(kS p told).2=aX told (dP p told):=by rw[hall]
     have hc:cnt 61 y=cnt 60 y:=Ca 60 y a3;have a1:s'.1=0+cnt 60 y:=a1;have hm:=Fy (en:=kr) 60 (60+2) [y] (0,0) (fun z hz=>by simp at hz;subst hz;exact a3);simp only[List.map_cons,List.map_nil,List.sum_cons,List.sum_nil,Nat.zero_add,Nat.add_zero] at hm;refine⟨a2,?_,by omega,a3,h0⟩;unfold nI;rw[if_neg (fun h=>h e1),if_neg,e2]
     ·exact a4 61 (by omega)
     ·unfold kr at hm⊢;simp only[Bool.or_eq_true,decide_eq_true_eq,not_or];omega
theorem Gx {w:World} {c:Nat} {n0:ByteArray} {s0:Value} {l0:List ByteArray} {t:TypeId} {fr:Nat×Nat} (h:w.heap[c]?=some (.cells #[.string n0,s0] t fr)) (h0:Strs w s0 l0):Facts w (.slice (some ⟨c,0,none⟩) 1 1) [(n0,l0)]:=by
 refine⟨by simp,_,1,rfl,fun _=>⟨c,0,rfl,(Array.getElem?_eq_some_iff.1 h).1,fun i hi=> ?_⟩⟩;rw[cell_of_row _ _ _ _ _ _ h,cell_of_row _ _ _ _ _ _ h];simp at hi;subst hi;exact⟨rfl,s0,rfl,h0⟩
theorem NS:nI iR iT 60 x7=0:=(mq Gw).2.1
set_option maxRecDepth 100000 in
set_option maxHeartbeats 4000000 in
theorem NT (w:World) (m:Int) (hm:w.cell? ⟨1,0,none⟩=some (.int .i64 m)):Calls Tryz.prog 21 #[] w fun e w'=>e=.returned (.bool true)∧Below w.heap.size w w':=by
 have HP:=hide (Ns (bs R6) w m hm);rw[iw,Gt] at HP;clear hm
 go_enter Tryz.func21,Tryz.ntmps21
 go_wp2_with fail
 refine HP.out.mono ?_;rintro e w1 ⟨v1,rfl,hV1,hB1⟩;dsimp only at hV1⊢;have HV1:=hide (Kind.dN hV1);have HB1:=hide hB1;obtain⟨va,vc,rfl⟩:=Kind.slice hV1;clear HP hV1 hB1;obtain⟨w2,hw2⟩:∃w2,w2=(((w1.alloc (.cells #[.int .i64 0,.int .i64 0] 75)).alloc (.cells #[.string {data:=#[113]}] 9)).alloc (.cells #[.string {data:=#[97]},.slice (some ⟨w1.heap.size+1,0,none⟩) 1 1] 27)).alloc (.cells #[.string {data:=#[113]}] 9):=⟨_,rfl⟩;have hL2:Later w1 w2:=by rw[hw2];exact(by repeat (first|exact Later.refl _|assumption|refine Later.drewN ?_ _|refine Later.drew ?_|refine Later.alloc ?_ _|refine Later.grow ?_ _))
 have r1:w2.heap[w1.heap.size+1]?=some (.cells #[.string {data:=#[113]}] 9 (0,0)):=by
  rw[hw2];simp only[bO,World.size_alloc]
  repeat (first|rw[if_pos trivial]|rw[if_pos (by omega)]|rw[if_neg (by omega)])
 have r2:w2.heap[w1.heap.size+1+1]?=some (.cells #[.string {data:=#[97]},.slice (some ⟨w1.heap.size+1,0,none⟩) 1 1] 27 (0,0)):=by
  rw[hw2];simp only[bO,World.size_alloc]
  repeat (first|rw[if_pos trivial]|rw[if_pos (by omega)]|rw[if_neg (by omega)])
 have r3:w2.heap[w1.heap.size+1+1+1]?=some (.cells #[.string {data:=#[113]}] 9 (0,0)):=by
  rw[hw2];simp only[bO,World.size_alloc]
  repeat (first|rw[if_pos trivial]|rw[if_pos (by omega)]|rw[if_neg (by omega)])
 have hF:Facts w2 (.slice (some ⟨w1.heap.size+1+1,0,none⟩) 1 1) iT:=Gx r2 (Le r1);have hFV:bW w2 (.agg #[.string {data:=#[98]},.slice (some ⟨w1.heap.size+1+1+1,0,none⟩) 1 1]) f7:=⟨_,rfl,Le r3⟩;have HPr:=hide (NP iR iT f7 (.slice va iR.length vc) _ _ w2 (Kind.aI HV1.out hL2) hF hFV);rw[Gw] at HPr;have HB2:=hide (ak HB1.out hL2.below HB1.out.size);have HV2:=hide (Kind.aI HV1.out hL2);have HW2:=hide hw2;clear hL2 r1 r2 r3 hF hFV hw2 HB1 HV1
 go_wp2_with (first|(rw[←HW2.out])|fail)
 refine HPr.out.mono ?_;rintro e w3 ⟨v3,rfl,hO3,hB3⟩;obtain⟨s3,k3,rfl,hs3,hk3⟩:=(hO3:sI 60 (From w2.heap.size) w3 v3 x7);obtain⟨sa,sc,rfl⟩:=Kind.slice hs3;obtain⟨ka,kc,rfl⟩:=Kind.slice hk3;have hP3:sI 60 bJ w3 (.agg #[.string (kb [98]),.slice sa 1 sc,.int .i64 0,.slice ka 1 kc]) x7:=⟨_,_,rfl,Kind.dN hs3,Kind.dN hk3⟩;obtain⟨w4,hw4⟩:∃w4,w4=w3.alloc (.cells #[.string (kb [98]),.slice sa 1 sc,.int .i64 0,.slice ka 1 kc] 30):=⟨_,rfl⟩;have hL4:Later w3 w4:=by rw[hw4];exact(Later.refl w3).alloc _
 have hR4:w4.heap[w3.heap.size]?=some (.cells #[.string (kb [98]),.slice sa 1 sc,.int .i64 0,.slice ka 1 kc] 30 (0,0)):=by rw[hw4];exact heap_alloc_new w3 _
 have hB4:=ak (ak HB2.out hB3 HB2.out.size) hL4.below (ak HB2.out hB3 HB2.out.size).size;have hP4:=hP3.below hL4.below;have hc7:cnt 61 x7≤4000000:=by have:=(mq Gw).2.2.1;omega
 have hSz:=PN 60 x7 (.agg #[.string (kb [98]),.slice sa 1 sc,.int .i64 0,.slice ka 1 kc]) w4 hP4 hc7 (by omega);rw[show 60+2=59+3 from rfl,Qp 59] at hSz;have HSz:=hide hSz;have HV4:=hide (Kind.aR HV2.out (ak hB3 hL4.below hB3.size));have HP4:=hide hP4;have HB4:=hide hB4;have HW4:=hide hw4;have HR4:=hide hR4;obtain⟨⟨l0,l1,l2,l3⟩,⟨l4,l5,l6⟩,_,_⟩:=iQ hR4;rw[show(Value.agg #[.string x7.fact.1,.slice sa x7.fact.2.length sc,.int .i64 x7.rule,.slice ka x7.kids.length kc])=.agg #[.string (kb [98]),.slice sa 1 sc,.int .i64 0,.slice ka 1 kc] from rfl];clear hs3 hk3 hP3 hL4 hR4 hB4 hP4 hSz hw4 hB3 HPr HW2 HB2 HV2
 go_wp2_with (first|(rw[←HW4.out])|fail)
 refine HSz.out.mono ?_;rintro e w5 ⟨rfl,hB5⟩;have hr5:=(hB5.block _ (Array.getElem?_eq_some_iff.1 HR4.out).1).trans HR4.out;obtain⟨w6,hw6⟩:∃w6,w6=(w5.alloc (.cells #[.string {data:=#[113]}] 9)).alloc (.cells #[.string {data:=#[97]},.slice (some ⟨w5.heap.size,0,none⟩) 1 1] 27):=⟨_,rfl⟩;have hL6:Later w5 w6:=by rw[hw6];exact(by repeat (first|exact Later.refl _|assumption|refine Later.drewN ?_ _|refine Later.drew ?_|refine Later.alloc ?_ _|refine Later.grow ?_ _))
 have r1:w6.heap[w5.heap.size]?=some (.cells #[.string {data:=#[113]}] 9 (0,0)):=by
  rw[hw6];simp only[bO,World.size_alloc]
  repeat (first|rw[if_pos trivial]|rw[if_pos (by omega)]|rw[if_neg (by omega)])
 have r2:w6.heap[w5.heap.size+1]?=some (.cells #[.string {data:=#[97]},.slice (some ⟨w5.heap.size,0,none⟩) 1 1] 27 (0,0)):=by
  rw[hw6];simp only[bO,World.size_alloc]
  repeat (first|rw[if_pos trivial]|rw[if_pos (by omega)]|rw[if_neg (by omega)])
 have hF:Facts w6 (.slice (some ⟨w5.heap.size+1,0,none⟩) 1 1) iT:=Gx r2 (Le r1);have hr6:=(hL6.block (Array.getElem?_eq_some_iff.1 hr5).1).trans hr5;have OI:=ak hB5 hL6.below hB5.size;have hCk:=JR iR iT 60 x7 (.slice va iR.length vc) _ _ w6 (Kind.aR HV4.out OI) hF (HP4.out.below OI) hc7 (by omega);rw[NS] at hCk;have HCk:=hide hCk;have HB6:=hide (ak HB4.out OI HB4.out.size);have HW6:=hide hw6;obtain⟨⟨_,_,m2,_⟩,_,_,_⟩:=iQ hr5;obtain⟨⟨n0,n1,n2,n3⟩,⟨n4,n5,n6⟩,_,_⟩:=iQ hr6;clear hL6 r1 r2 hF hr6 hr5 OI hCk hw6 hB5 HSz HP4 HV4 HB4 HW4 HR4 l0 l1 l2 l3 l4 l5 l6
 go_wp2_with (first|(rw[←HW6.out])|fail)
 refine HCk.out.mono ?_;rintro e w7 ⟨rfl,hB7⟩;have HB7:=hide (ak HB6.out hB7 HB6.out.size);clear hB7 HCk HB6 HW6;go_wp2;go_ret;exact⟨rfl,HB7.out⟩
end Go.Proofs.YtafmbokfkbccaaaGreatDoor
