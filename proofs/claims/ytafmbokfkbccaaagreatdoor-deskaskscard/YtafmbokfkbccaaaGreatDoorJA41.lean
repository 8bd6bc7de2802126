import Derived.Test.YtafmbokfkbccaaaGreatDoorJA40
import Derived.Test.YtafmbokfkbccaaaGreatDoorJA35
import Derived.Test.YtafmbokfkbccaaaGreatDoorJA28
import Derived.Test.YtafmbokfkbccaaaGreatDoorJA23
namespace Go.Proofs.YtafmbokfkbccaaaGreatDoor
open Go.RowKit Go.Sort Go.Maps
def iq (p:List aA) (told:List au):List (List au):=(bF p (aG p).1 (countP (aG p).1) 0 told).2
theorem Bd {p:List aA} {all:List au}:∀{ps:List (List au)} {L:List au},Steps (Came p all) L ps→GoodS p (bE L ps)→∀l∈L::ps,GoodS p l
 |[],L,_,hg,l,hl=>by
  simp at hl;subst hl;exact hg
 |M::ps,L,hs,hg,l,hl=>by
  rw[gT] at hg;rcases List.mem_cons.1 hl with rfl|hl
  ·exact hs.1.1
  ·exact Bd hs.2 hg l hl
theorem KA {p:List aA} {all:List au} (h:GoodS p all) (b:List aF):nP all b=0↔aP b=0:=by
 show pI b all []=0↔_;unfold pI;rw[iY h.up h.right h.few];have e:(bA []).1=0:=rfl
 by_cases hb:aP b=0
 ·rw[if_neg (by simpa using hb),if_neg (by simp),e];simp[hb]
 ·rw[if_pos hb]
theorem uR {g:aA→Option (List au)} {n:Nat}:∀(p:List aA) (i:Nat),(∀r∈p,∀of,g r=some of→of.length≤n)→(jP g i p).2.length≤n
 |[],i,_=>by simp[jP]
 |r::p,i,h=>by
  unfold jP;cases e:g r with
  |none=>exact uR p (i+1) fun q hq=>h q (by simp[hq])
  |some of=>exact h r (by simp) of e
theorem Np {err:List aF→Int} {all old:List au} {r:aA} {f:au} {of:List au} (h:byP err all old r f=some of):of.length≤r.body.length:=by
 unfold byP at h;cases hm:fK r.head f [] with
 |none=>rw[hm] at h;cases h
 |some b=>
  rw[hm] at h;have:=List.mem_of_find?_eq_some h;obtain⟨l,_,rfl⟩:=List.mem_map.1 this;have:=ow (eH b r.body) l;unfold eH at this;rw[List.length_map] at this;exact this
theorem IV {p:List aA} {told:List au} (h:jy p told=0):
  dB p∧GoodS p told∧GoodS p (bE told (iq p told))∧G6 p told=(0,bE told (iq p told))∧PI p told (bE told (iq p told)) (qX (nP (bE told (iq p told))) p told (bE told (iq p told)) (told::iq p told))∧
  (∀l∈told::iq p told,gW l)∧(told::iq p told).length≤1000000∧(∀f∈bE told (iq p told),inB told f=false→1≤iB (told::iq p told) f∧iB (told::iq p told) f<(told::iq p told).length)∧
  (∀r∈p,r.head.terms.length≤4∧r.body.length≤5∧∀a∈r.body,a.terms.length≤4)∧(∀f∈bE told (iq p told),(∀g∈(qX (nP (bE told (iq p told))) p told (bE told (iq p told)) (told::iq p told) f).2,g∈bE told (iq p told))∧(qX (nP (bE told (iq p told))) p told (bE told (iq p told)) (told::iq p told) f).2.length≤1000):=by
 have hall:G6 p told=(0,bE told (iq p told)):=(Fg p told).2 h;obtain⟨hp,hl,τ,hτ,hst,hr⟩:=Iw hall;obtain⟨_,_,hgM,_,_⟩:=Iy hall;have hrun:bF p (p.map fun r=>τ r.head.name) (countP (p.map fun r=>τ r.head.name)) 0 told=(0,iq p told):=by
  have h1:=yO p (p.map fun r=>τ r.head.name) (countP (p.map fun r=>τ r.head.name)) 0 told;rw[hr] at h1;refine Prod.ext h1.1.symm ?_;unfold iq;rw[hst]
 have hsteps:=Dz hp hτ _ 0 hl hrun;have Iu:∀r∈p,fG (fun _=>bE told (iq p told)) 0 r.body [[]]≠none:=fun r hr'=>DC hp hτ _ 0 hl hrun r hr' (Nat.zero_le _) (by rw[Nat.zero_add];exact oO (List.mem_map.2 ⟨r,hr',rfl⟩));have Jd:=PK hp (err:=nP (bE told (iq p told))) (KA hgM) hsteps Iu;have hsh:∀r∈p,r.head.terms.length≤4∧r.body.length≤5∧∀a∈r.body,a.terms.length≤4:=fun r hr'=>by
  have hR:=hp.rules r hr';obtain⟨b1,b2⟩:=ko hR.body;exact⟨(dD hR.head).2.1,b1,fun a ha=>(dD (b2 a ha)).2.1⟩
 refine⟨hp,hl,hgM,hall,Jd,fun l hl'=>(Bd hsteps hgM l hl').up,?_,fun f hf hn=> ?_,hsh,fun f hf=>⟨?_,?_⟩⟩
 ·have h1:=CJ (p:=p) (ss:=p.map fun r=>τ r.head.name) (countP (p.map fun r=>τ r.head.name)) 0 told;rw[hrun] at h1;have h2:countP (p.map fun r=>τ r.head.name)≤16:=by
   rw[←hst];obtain⟨ss,ex,ea,hse⟩:∃ss ex ea,aG p=(ss,ex,ea):=⟨_,_,_,rfl⟩;have hx:ex=0:=by
    refine Classical.byContradiction fun hne=> ?_;unfold jy at h;rw[hse] at h;dsimp only at h;rw[if_pos hne] at h;exact hne h
   subst hx;rw[hse];obtain⟨_,m,hms,_,hlm,hsm⟩:=kI hse;refine countP_le fun s hs=> ?_;rw[hms] at hs;obtain⟨r,hr',rfl⟩:=List.mem_map.1 hs;have:=uj hlm hsm r hr';have:=hp.few;omega
  have h3:=Nat.mul_le_mul_right 201 h2;dsimp only at h1;simp only[List.length_cons];omega
 ·have hn':f∉told:=fun hc=>by rw[bH.2 hc] at hn;cases hn
  obtain⟨_,_,_,_,_,_,h5,h6⟩:=CB hsteps hf hn';exact⟨h5,h6⟩
 ·rcases Jd.ok f hf with⟨_,e⟩|⟨i,r,of,_,e,_,hk⟩
  ·rw[e];intro k hk;cases hk
  ·rw[e];exact hk
 ·unfold qX;split
  ·simp
  ·refine uR p 0 fun r hr' of hof=> ?_;have:=Np hof;have:=(hsh r hr').2.1;omega
theorem DR (w0 wF:World) (P lo mb:Nat) (p:List aA) (told all:List au) (PS:List (List au)) (pv tv av sv:Value) (xs:List Value) (hG:Gq w0 wF P lo mb p told all PS pv tv av sv xs):∀N,IU all P mb pv tv av sv wF (qX (nP all) p told all PS) (N+1)
 |0=>xk w0 wF P lo mb p told all PS pv tv av sv xs hG 0 (fun h=>absurd h (by omega))
 |N+1=>xk w0 wF P lo mb p told all PS pv tv av sv xs hG (N+1) fun _=>DR w0 wF P lo mb p told all PS pv tv av sv xs hG N
end Go.Proofs.YtafmbokfkbccaaaGreatDoor
namespace Go.Proofs.YtafmbokfkbccaaaGreatDoor
open Go.RowKit Go.Sort Go.Maps
def eZ (p:List aA) (told:List au) (f:au):Int×Option iR:=
 if jy p told≠0 then(jy p told,none) else if fu f≠0 then(fu f,none) else if inB (bE told (iq p told)) f=false then(6,none)
 else match(cO (qX (nP (bE told (iq p told))) p told (bE told (iq p told)) (told::iq p told)) 61 f 1 (0,0)).1 with
  |none=>(4,none)
  |some x=>(0,some x)
def P9 (lo:Nat) (w:World) (v:Value):Option iR→Prop
 |none=>v=ny
 |some x=>ES 60 (From lo) w v x
set_option maxRecDepth 100000 in
set_option maxHeartbeats 8000000 in
theorem Qa (p:List aA) (told:List au) (f:au) (pv tv fv:Value) (w:World) (hpv:dX.sl bU w pv p) (ht:Facts w tv told) (hf:dz w fv f):
  Calls Tryz.prog 18 #[pv,tv,fv] w fun e w'=>∃v,e=.returned (.tuple #[v,.int .i64 (eZ p told f).1])∧P9 w.heap.size w' v (eZ p told f).2∧Below w.heap.size w w':=by
 obtain⟨s,rfl,hs⟩:=hf;obtain⟨sa,sc,rfl⟩:=aW hs;obtain⟨pa,pc,rfl⟩:=Kind.slice hpv;obtain⟨ta,tc,rfl⟩:=aB ht;obtain⟨w1,hw1⟩:∃w1,w1=(((w.alloc (.cells #[.string f.1,.slice sa f.2.length sc] 27)).alloc (.cells #[.string ⟨#[]⟩,.slice none 0 0,.int .i64 0,.slice none 0 0] 30)).alloc (.map #[] 0)).alloc (.cells #[.slice pa p.length pc,.slice ta told.length tc,.slice none 0 0,.int .i64 0,.int .i64 0,.slice none 0 0,.map (some (w.heap.size+2))] 115):=⟨_,rfl⟩;have hL1:Later w w1:=by rw[hw1];exact((((Later.refl w).alloc _).alloc _).alloc _).alloc _
 have hs1:w1.heap.size=w.heap.size+4:=by rw[hw1];simp
 have hr0:w1.heap[w.heap.size]?=some (.cells #[.string f.1,.slice sa f.2.length sc] 27 (0,0)):=by
  rw[hw1];simp only[iA,World.size_alloc]
  repeat (first|rw[if_pos trivial]|rw[if_pos (by omega)]|rw[if_neg (by omega)])
 have hr1:w1.heap[w.heap.size+1]?=some (.cells #[.string ⟨#[]⟩,.slice none 0 0,.int .i64 0,.slice none 0 0] 30 (0,0)):=by
  rw[hw1];simp only[iA,World.size_alloc]
  repeat (first|rw[if_pos trivial]|rw[if_pos (by omega)]|rw[if_neg (by omega)])
 have hr2:w1.heap[w.heap.size+2]?=some (.map #[] 0):=by
  rw[hw1];simp only[iA,World.size_alloc]
  repeat (first|rw[if_pos trivial]|rw[if_pos (by omega)]|rw[if_neg (by omega)])
 have hr3:w1.heap[w.heap.size+3]?=some (.cells #[.slice pa p.length pc,.slice ta told.length tc,.slice none 0 0,.int .i64 0,.int .i64 0,.slice none 0 0,.map (some (w.heap.size+2))] 115 (0,0)):=by
  rw[hw1];simp only[iA,World.size_alloc]
  repeat (first|rw[if_pos trivial]|rw[if_pos (by omega)]|rw[if_neg (by omega)])
 have HFo:=hide (Nf p told (w.heap.size+3) (w.heap.size+2) (.slice pa p.length pc) (.slice ta told.length tc) w w1 ⟨hr3⟩ hL1.below (by omega) hpv ht);obtain⟨PP,hPP⟩:∃PP,PP=eZ p told f:=⟨_,rfl⟩;rw[←hPP];unfold eZ at hPP;have HPP:=hide hPP;have HW1:=hide hw1;have HL1:=hide hL1;have HR0:=hide hr0;have HR1:=hide hr1;have HR2:=hide hr2;have HR3:=hide hr3;have HPv:=hide hpv;have HTv:=hide ht;have HSt:=hide hs;have hsz1:w.heap.size+4≤w1.heap.size:=by omega
 have HS1:=hide hs1;have HBx:Hid (∀(x0 x1 x2 x3:Value) (wr:World),Below w.heap.size w wr→Below w.heap.size w (rU wr (w.heap.size+1) x0 x1 x2 x3)):=fun x0 x1 x2 x3 wr h=>
  aj h ((mO wr (w.heap.size+1) x0 x1 x2 x3).below (n:=w.heap.size) (by omega) h.size) (Nat.le_refl _)
 clear hw1 hPP hL1 hr0 hr1 hr2 hr3 hpv ht hs hs1;obtain⟨fn,aJ⟩:=f;dsimp only at*;have hmm:= @run_makeMap Tryz.prog
 go_enter Tryz.func18,Tryz.ntmps18
 go_wp2_with (first|(rw[←HW1.out])|fail)
 clear hmm;refine HFo.out.mono ?_;rintro e w2 ⟨rfl,hS2,hK2⟩;have hsz2:=hK2.size;have hBw2:Below w.heap.size w w2:=aj HL1.out.below (hK2.below (n:=w1.heap.size-1) (by have:=HS1.out;omega) (by have:=HS1.out;omega)) (by omega);have U8:=(hK2.block w.heap.size (by omega) (by omega)).trans HR0.out;have Qb:=(hK2.block (w.heap.size+1) (by omega) (by omega)).trans HR1.out;have U9:=(hK2.block (w.heap.size+2) (by omega) (by omega)).trans HR2.out;have SV:=hide U8;have Rs:=hide Qb;have WO:=hide U9;have HB2:=hide hBw2;have HK2:=hide hK2;have HS2:=hide hS2;obtain⟨FE,hFE⟩:∃FE,FE=jy p told:=⟨_,rfl⟩;rw[←hFE];rw[←hFE] at HPP HS2;have HFE:=hide hFE;clear hFE U8 U9 hBw2 hK2 hS2 HFo
 by_cases h0:FE=0
 ·subst h0;obtain⟨g1,g2,g3,g4,g5,g6,g7,g8,g9,g10⟩:=IV HFE.out.symm;obtain⟨av,sv,xs,k1,k2,k3,k4,k5⟩:=(HS2.out rfl).has;rw[show(bF p (aG p).1 (countP (aG p).1) 0 told).2=iq p told from rfl] at k3 k4 k5;obtain⟨PS,hPS⟩:∃PS,PS=told::iq p told:=⟨_,rfl⟩;obtain⟨all,hal⟩:∃all,all=bE told (iq p told):=⟨_,rfl⟩;have QG:=HPP.out;rw[if_neg (by simp)] at QG;rw[←hPS,←hal] at g5 g8 g10 QG;rw[←hal] at g3 k3;rw[←hPS] at g6 g7 k4 k5;have Qc:=hide QG;have Va:dz w2 (.agg #[.string fn,.slice sa aJ.length sc]) (fn,aJ):=⟨_,rfl,HSt.out.below HB2.out⟩;have HWr:=hide (wrong (.agg #[.string fn,.slice sa aJ.length sc]) (fn,aJ) w2 Va);obtain⟨q0,q1,_,_,_⟩:=jM SV.out;have q1':w2.cell? ⟨w.heap.size,0+1,none⟩=some (.slice sa aJ.length sc):=q1;obtain⟨WF,hWF⟩:∃WF,WF=fu (fn,aJ):=⟨_,rfl⟩;rw[←hWF] at HWr Qc;have HK1:=hide k1;have Vb:=hide k2;have HK3:=hide k3;have HK4:=hide k4;have HK5:=hide k5;have hav:∃a n c,av=.slice a n c:=by obtain⟨a,c,e⟩:=aB k3;exact⟨a,_,c,e⟩
  obtain⟨aa,an,ac,rfl⟩:=hav;have HGr:Hid (Grd w (w.heap.size+3) p told all PS (.slice pa p.length pc) (.slice ta told.length tc)):=⟨by omega,HPv.out,HTv.out,g2.up,g3.up,g6,g7,g8,g9,g1.few,g3.few⟩;have HCl:Hid (∀f∈all,(∀g∈(qX (nP all) p told all PS f).2,g∈all)∧(qX (nP all) p told all PS f).2.length≤1000):=g10;have HAg:Hid (∀f∈all,f.2.length≤1000):=fun f hf=>by have:=(g3.right f hf).2.1;omega
  have hup:=g3.up;have HUp:=hide hup;have p2:=k1.cells.2.2.1;clear g1 g2 g3 g4 g5 g6 g7 g8 g9 g10 k1 k2 k3 k4 k5 QG HPP HS2 hWF hPS hal Va q1 hup HFE p2
  go_wp2_with fail
  refine HWr.out.mono ?_;rintro e w3 ⟨rfl,hL3⟩;have hB3:=aj HB2.out hL3.below HB2.out.size;have TU:=hL3.size;have DL:=(hL3.block (by omega:w.heap.size+1<w2.heap.size)).trans Rs.out;have HL3:=hide hL3;have HB3:=hide hB3;have SC:=hide DL;clear HWr q0 q1' hL3 hB3 Qb
  by_cases h1:WF=0
  ·subst h1;have SX:=Qc.out;rw[if_neg (by simp)] at SX;have QH:=hide SX;have P7:=(HL3.out.block (by omega:w.heap.size<w2.heap.size)).trans SV.out;obtain⟨q0,q1,_,_,_⟩:=jM P7;have q1':w3.cell? ⟨w.heap.size,0+1,none⟩=some (.slice sa aJ.length sc):=q1;have Vd:=HK1.out.below HL3.out.below;have p2:=Vd.cells.2.2.1;have hin:=inC (.slice aa an ac) (.agg #[.string fn,.slice sa aJ.length sc]) all (fn,aJ) w3 (HK3.out.later HL3.out) ⟨_,rfl,HSt.out.below HB3.out⟩ HUp.out;rw[BZ] at hin;have HIn:=hide hin;clear SX Qc P7 q1 Vd hin DL
   go_wp2_with fail
   refine HIn.out.mono ?_;rintro e w4 ⟨rfl,hL4⟩;have hB4:=aj HB3.out hL4.below HB3.out.size;have Pg:=hL4.size;have Jf:=(hL4.block (by omega:w.heap.size+1<w3.heap.size)).trans SC.out;cases hib:inB all (fn,aJ) with
   |false=>
    have HX:Hid (PP=(6,none)):=by show _=_;rw[QH.out,if_pos hib]
    have HZ:=hide (jA (iP Jf (.string ⟨#[]⟩) (.slice none 0 0) (.int .i64 0) (.slice none 0 0))).1;have HBf:=hide (HBx.out (.string ⟨#[]⟩) (.slice none 0 0) (.int .i64 0) (.slice none 0 0) w4 hB4);obtain⟨_,_,⟨t0,t1,t2,t3⟩,_⟩:=jA Jf;clear QH Jf hib HIn q0 q1' p2 hL4 hB4;go_wp2;obtain⟨z0,z1,z2,z3⟩:=HZ.out;unfold rU at z0 z1 z2 z3;refine bodyPost_ret (v:=.tuple #[ny,.int .i64 6]) (by simp[results,Tryz.results18,go_sem,z0,z1,z2,z3];rfl) rfl ⟨ny,?_,?_,HBf.out⟩
    ·rw[HX.out]
    ·rw[HX.out];exact rfl
   |true=>
    have QI:=QH.out;rw[if_neg (by rw[hib];simp)] at QI;have Nq:=HL3.out.trans hL4;have SY:=HK1.out.below Nq.below;have S9:w4.heap[w.heap.size+2]?=some (.map #[] 0):=(Nq.block (by omega)).trans WO.out;have hGp:Gp w4 (w.heap.size+3) w1.heap.size (w.heap.size+2) (.slice aa an ac) sv xs all PS:=by
     refine⟨?_,HK3.out.later Nq,HK4.out,fun i u l hu hl=>(HK5.out i u l hu hl).later Nq,SY.wZ ⟨_,_,_,rfl⟩ ⟨_,_,_,rfl⟩ ⟨_,_,_,rfl⟩ Vb.out.oC,⟨_,_,S9⟩,by omega,by omega,by omega,by omega⟩;rcases Vb.out with e|h
     ·exact Or.inl e
     ·exact Or.inr (h.block fun i hi _=>Nq.block hi)
    have hGq:Gq w w4 (w.heap.size+3) w1.heap.size (w.heap.size+2) p told all PS (.slice pa p.length pc) (.slice ta told.length tc) (.slice aa an ac) sv xs:=⟨hGp,HGr.out,by omega,hB4,HCl.out,HAg.out,⟨_,_,_,rfl⟩,⟨_,_,_,rfl⟩⟩;have hPv:PvS (fun k=>k≠w.heap.size+2∧k≠w.heap.size+3) w4 w4 (w.heap.size+3) (w.heap.size+2) (.slice pa p.length pc) (.slice ta told.length tc) (.slice aa an ac) sv ((0:Nat):Int) ((0:Nat):Int) 0 all (qX (nP all) p told all PS):=by
     refine⟨SY,Kq.refl _ _ _,⟨.map [],?_,fun k h=>by simp[Maps.has] at h⟩⟩;have hw:((w.alloc (.cells #[] 0)).alloc (.cells #[] 0)).heap.size=w.heap.size+2:=by simp
     have hmd:=World.ownsMap_made (P:=Tryz.prog) ((w.alloc (.cells #[] 0)).alloc (.cells #[] 0)) 3 uQ;rw[hw] at hmd;refine fD hmd ?_;rw[S9];have:=heap_alloc_new ((w.alloc (.cells #[] 0)).alloc (.cells #[] 0)) (.map #[] 0);rw[hw] at this;exact this.symm
    have hPr:=DR w w4 (w.heap.size+3) w1.heap.size (w.heap.size+2) p told all PS _ _ _ sv xs hGq 60 (fun k=>k≠w.heap.size+2∧k≠w.heap.size+3) (fn,aJ) (.agg #[.string fn,.slice sa aJ.length sc]) 1 0 0 0 w4 rfl (fun k h=>h) (fun k hk=>⟨by omega,by omega⟩) hPv (Nat.le_refl _) (by omega) (by omega) (bH.1 hib) ⟨_,rfl,HSt.out.below hB4⟩;rw[show(((1:Nat):Int))=1 from rfl] at hPr;obtain⟨PX,hPX⟩:∃PX,PX=cO (qX (nP all) p told all PS) (60+1) (fn,aJ) 1 (0,0):=⟨_,rfl⟩;rw[←hPX] at hPr;rw[show(61:Nat)=60+1 from rfl,←hPX] at QI;have HPr:=hide hPr;have QJ:=hide QI;have P8:=(Nq.block (by omega:w.heap.size<w2.heap.size)).trans SV.out;obtain⟨y0,y1,_,_,_⟩:=jM P8;have y1':w4.cell? ⟨w.heap.size,0+1,none⟩=some (.slice sa aJ.length sc):=y1;have HB4:=hide hB4;have NQ:=hide Jf;clear QI QH SY S9 hGp hGq hPv hPr hPX hib HIn q0 q1' p2 hL4 hB4 Nq P8 y1 Jf
    go_wp2_with fail
    refine HPr.out.mono ?_;rintro e w5 ⟨v5,er5,n5,rfl,hV5,_,_,hK5⟩;have hsz5:=hK5.size;have hB5:Below w.heap.size w w5:=aj HB4.out (hK5.below (n:=w.heap.size) (by omega) (by omega) (by omega)) (Nat.le_refl _);have FP:=(hK5.block (w.heap.size+1) (by omega) (by omega) (by omega)).trans NQ.out;obtain⟨PX1,PX2⟩:=PX;dsimp only at hV5;obtain⟨_,_,⟨t0,t1,t2,t3⟩,_⟩:=jA FP;cases PX1 with
    |none=>
     obtain⟨rfl,rfl⟩:=hV5;have HX:Hid (PP=(4,none)):=QJ.out;have HZ:=hide (jA (iP FP (.string ⟨#[]⟩) (.slice none 0 0) (.int .i64 0) (.slice none 0 0))).1;have HBf:=hide (HBx.out (.string ⟨#[]⟩) (.slice none 0 0) (.int .i64 0) (.slice none 0 0) w5 hB5);rw[show ny=.agg #[.string ⟨#[]⟩,.slice none 0 0,.int .i64 0,.slice none 0 0] from rfl];clear QJ FP hB5 hK5 HPr y0 y1';go_wp2;obtain⟨z0,z1,z2,z3⟩:=HZ.out;unfold rU at z0 z1 z2 z3;refine bodyPost_ret (v:=.tuple #[ny,.int .i64 4]) (by simp[results,Tryz.results18,go_sem,z0,z1,z2,z3];rfl) rfl ⟨ny,?_,?_,HBf.out⟩
     ·rw[HX.out]
     ·rw[HX.out];exact rfl
    |some x=>
     obtain⟨rfl,s9,k9,rfl,hs9,hk9⟩:=hV5;have hk9:(FK 60).sl (From w4.heap.size) w5 k9 x.kids:=hk9;obtain⟨sa9,sc9,rfl⟩:=Kind.slice hs9;obtain⟨ka9,kc9,rfl⟩:=Kind.slice hk9;have HX:Hid (PP=(0,some x)):=QJ.out;have hT:=mO w5 (w.heap.size+1) (.string x.fact.1) (.slice sa9 x.fact.2.length sc9) (.int .i64 x.rule) (.slice ka9 x.kids.length kc9);have HZ:=hide (jA (iP FP (.string x.fact.1) (.slice sa9 x.fact.2.length sc9) (.int .i64 x.rule) (.slice ka9 x.kids.length kc9))).1;have HBf:=hide (HBx.out (.string x.fact.1) (.slice sa9 x.fact.2.length sc9) (.int .i64 x.rule) (.slice ka9 x.kids.length kc9) w5 hB5);have HVf:Hid (ES 60 (From w.heap.size) (rU w5 (w.heap.size+1) (.string x.fact.1) (.slice sa9 x.fact.2.length sc9) (.int .i64 x.rule) (.slice ka9 x.kids.length kc9)) (.agg #[.string x.fact.1,.slice sa9 x.fact.2.length sc9,.int .i64 x.rule,.slice ka9 x.kids.length kc9]) x):=
      ⟨_,_,rfl,Kind.aH (Kind.aM hs9 hT.size fun k hk (hb:w4.heap.size≤k)=>hT.block k hk (by omega)) fun k _ (hb:w4.heap.size≤k)=>(by show w.heap.size≤k;omega),Kind.aH (Kind.aM hk9 hT.size fun k hk (hb:w4.heap.size≤k)=>hT.block k hk (by omega)) fun k _ (hb:w4.heap.size≤k)=>(by show w.heap.size≤k;omega)⟩
     clear QJ FP hB5 hK5 HPr y0 y1' hT hs9 hk9;go_wp2;obtain⟨z0,z1,z2,z3⟩:=HZ.out;unfold rU at z0 z1 z2 z3;refine bodyPost_ret (v:=.tuple #[.agg #[.string x.fact.1,.slice sa9 x.fact.2.length sc9,.int .i64 x.rule,.slice ka9 x.kids.length kc9],.int .i64 0]) (by simp[results,Tryz.results18,go_sem,z0,z1,z2,z3]) rfl ⟨.agg #[.string x.fact.1,.slice sa9 x.fact.2.length sc9,.int .i64 x.rule,.slice ka9 x.kids.length kc9],?_,?_,HBf.out⟩
     ·rw[HX.out]
     ·rw[HX.out];exact HVf.out
  ·have hne:(WF != 0)=true:=by simpa using h1
   have HX:Hid (PP=(WF,none)):=by show _=_;rw[Qc.out,if_pos h1]
   have HZ:=hide (jA (iP DL (.string ⟨#[]⟩) (.slice none 0 0) (.int .i64 0) (.slice none 0 0))).1;have HBf:=hide (HBx.out (.string ⟨#[]⟩) (.slice none 0 0) (.int .i64 0) (.slice none 0 0) w3 HB3.out);obtain⟨_,_,⟨t0,t1,t2,t3⟩,_⟩:=jA DL;clear h1 Qc DL;go_wp2;obtain⟨z0,z1,z2,z3⟩:=HZ.out;unfold rU at z0 z1 z2 z3;refine bodyPost_ret (v:=.tuple #[ny,.int .i64 WF]) (by simp[results,Tryz.results18,go_sem,z0,z1,z2,z3];rfl) rfl ⟨ny,?_,?_,HBf.out⟩
   ·rw[HX.out]
   ·rw[HX.out];exact rfl
 ·have hne:(FE != 0)=true:=by simpa using h0
  have HX:Hid (PP=(FE,none)):=by show _=_;rw[HPP.out,if_pos h0]
  have HZ:=hide (jA (iP Qb (.string ⟨#[]⟩) (.slice none 0 0) (.int .i64 0) (.slice none 0 0))).1;have HBf:=hide (HBx.out (.string ⟨#[]⟩) (.slice none 0 0) (.int .i64 0) (.slice none 0 0) w2 HB2.out);obtain⟨_,_,⟨t0,t1,t2,t3⟩,_⟩:=jA Qb;clear h0 HPP Qb HS2;go_wp2;obtain⟨z0,z1,z2,z3⟩:=HZ.out;unfold rU at z0 z1 z2 z3;refine bodyPost_ret (v:=.tuple #[ny,.int .i64 FE]) (by simp[results,Tryz.results18,go_sem,z0,z1,z2,z3];rfl) rfl ⟨ny,?_,?_,HBf.out⟩
  ·rw[HX.out]
  ·rw[HX.out];exact rfl
end Go.Proofs.YtafmbokfkbccaaaGreatDoor
namespace Go.Proofs.YtafmbokfkbccaaaGreatDoor
open Go.RowKit Go.Sort
theorem uS {p:List aA} {t:List au} {f:au}:((eZ p t f).2=none→(eZ p t f).1≠0)∧(∀x,(eZ p t f).2=some x→(eZ p t f).1=0):=by
 unfold eZ;split
 ·exact⟨fun _=> ‹_›,fun x h=>by simp at h⟩
 ·split
  ·exact⟨fun _=> ‹_›,fun x h=>by simp at h⟩
  ·split
   ·exact⟨fun _=>by simp,fun x h=>by simp at h⟩
   ·split
    ·exact⟨fun _=>by simp,fun x h=>by simp at h⟩
    ·exact⟨fun h=>by simp at h,fun x _=>rfl⟩
def Ve (lo X:Nat) (w:World) (v:Value):Option iR→Prop
 |none=>True
 |some x=>ES 60 (fun k=>lo≤k∧k≠X) w v x
theorem P9.four {lo:Nat} {w:World} {v:Value} {o:Option iR} (h:P9 lo w v o):∃pn pa pl pc pr qa ql qc,v=.agg #[.string pn,.slice pa pl pc,.int .i64 pr,.slice qa ql qc]:=by
 cases o with
 |none=>exact⟨_,_,_,_,_,_,_,_,h⟩
 |some x=>
  obtain⟨s,kv,rfl,h1,h2⟩:=h;obtain⟨a,c,rfl⟩:=Kind.slice h1;obtain⟨a',c',rfl⟩:=Kind.slice h2;exact⟨_,_,_,_,_,_,_,_,rfl⟩
set_option maxRecDepth 100000 in
set_option maxHeartbeats 4000000 in
theorem Nr (p:Nat) (B:Nat→Prop) (d:dH) (f:au) (fv tv rv kv nv sv:Value) (w:World) (hD:fH p B w d tv rv kv nv sv) (hB:¬B p) (hf:dz w fv f):
  Calls Tryz.prog 138 #[.pointer (some ⟨p,0,none⟩),fv] w fun e w'=>∃v,e=.returned v∧bY p B w w' v (d,kT eZ d f):=by
 have hp:=hD.lt;obtain⟨fs,rfl,hfs⟩:=hf;obtain⟨fa,fc,rfl⟩:=aW hfs;obtain⟨w1,hw1⟩:∃w1,w1=w.alloc (.cells #[.string f.1,.slice fa f.2.length fc] 27):=⟨_,rfl⟩;obtain⟨w2,hw2⟩:∃w2,w2=w1.alloc (.cells #[.int .i64 0,.int .i64 0,.int .i64 0,.slice none 0 0,.string ⟨#[]⟩,.slice none 0 0,.int .i64 0,.slice none 0 0] 64):=⟨_,rfl⟩;have hz1:w1.heap.size=w.heap.size+1:=by rw[hw1];simp
 have hz2:w2.heap.size=w.heap.size+2:=by rw[hw2];simp;omega
 have hL1:Later w w1:=by rw[hw1];exact(Later.refl w).alloc _
 have Dr:Later w1 w2:=by rw[hw2];exact(Later.refl w1).alloc _
 have hL2:Later w w2:=hL1.trans Dr;have hr2:w2.heap[w.heap.size+1]?=some (.cells #[.int .i64 0,.int .i64 0,.int .i64 0,.slice none 0 0,.string ⟨#[]⟩,.slice none 0 0,.int .i64 0,.slice none 0 0] 64 (0,0)):=by rw[hw2,←hz1];exact H6 w1
 have hb2:w2.heap[w.heap.size]?=some (.cells #[.string f.1,.slice fa f.2.length fc] 27 (0,0)):=(Dr.block (by omega)).trans (by rw[hw1];exact heap_alloc_new w _);have hD2:=hD.below hL2.below;have hf2:dz w2 (.agg #[.string f.1,.slice fa f.2.length fc]) f:=⟨_,rfl,hfs.later hL2⟩;obtain⟨⟨ta,tc,rfl⟩,⟨ra,rc,rfl⟩,⟨xka,xkc,rfl⟩,⟨xna,xnc,rfl⟩,⟨xsa,xsc,rfl⟩⟩:=hD.slices;have HC:Hid (∀w',Later w2 w'→Calls Tryz.prog 18 #[.slice ra d.rules.length rc,.slice ta d.told.length tc,.agg #[.string f.1,.slice fa f.2.length fc]] w' fun e w''=>∃v,e=.returned (.tuple #[v,.int .i64 (eZ d.rules d.told f).1])∧P9 w'.heap.size w'' v (eZ d.rules d.told f).2∧Below w'.heap.size w' w''):=fun w' h=>
  Qa d.rules d.told f _ _ _ w' (Kind.aO (Kind.bW hD2.rules) h) (hD2.told.facts.later h) (hf2.later h)
 have HPn:Hid ((eZ d.rules d.told f).2=none→kT eZ d f=kD (eZ d.rules d.told f).1):=fun h=>by unfold kT;rw[h]
 have HPs:Hid (∀x,(eZ d.rules d.told f).2=some x→kT eZ d f=⟨0,0,0,[],x⟩):=fun x h=>by unfold kT;rw[h]
 have HPe:Hid ((eZ d.rules d.told f).2=none→(eZ d.rules d.told f).1≠0):=uS.1;have HPz:Hid (∀x,(eZ d.rules d.told f).2=some x→(eZ d.rules d.told f).1=0):=uS.2;have HSp:Hid (∀w':World,(w'.heap[p]?=w2.heap[p]?∧w'.heap[w.heap.size]?=w2.heap[w.heap.size]?)→(w'.heap[p]?=some (.cells #[.slice ta d.told.length tc,.slice ra d.rules.length rc,.bool d.running,.slice xka d.run.known.length xkc,.slice xna d.run.fresh.length xnc,.int .i64 d.run.level,.int .i64 d.run.rounds,.bool d.run.done,.slice xsa d.saved.length xsc] 140 (0,0))∧w'.heap[w.heap.size]?=some (.cells #[.string f.1,.slice fa f.2.length fc] 27 (0,0)))):=fun w' h=>⟨h.1.trans hD2.row,h.2.trans hb2⟩;have HW1:=hide hw1;have HW2:=hide hw2;have HL2:=hide hL2;have HR:=hide hr2;have HD:=hide hD;have HB:=hide hB;clear hw1 hw2 hL1 Dr hL2 hr2 hb2 hD hB hD2 hf2 hfs;obtain⟨er,ox,hpp⟩:∃er ox,eZ d.rules d.told f=(er,ox):=⟨_,_,rfl⟩;rw[hpp] at HC HPn HPs HPe HPz;clear hpp;dsimp only at HC HPn HPs HPe HPz
 go_enter Tryz.func138,Tryz.ntmps138
 go_wp2_with (first|(rw[←HW1.out])|(rw[←HW2.out])|fail)
 clear HW1 HW2;refine wp_region_held_drew (S:=fun w'=>w'.heap[p]?=w2.heap[p]?∧w'.heap[w.heap.size]?=w2.heap[w.heap.size]?) (by kernel_rfl) ⟨rfl,rfl⟩ (fun hHeld=> ?_);refine ak (i:=0) (d:=some 8) (v:= ?_) rfl rfl hHeld ?_ ?_;rotate_left;focus intro w hSw;(try dsimp only at hSw);obtain⟨s1,s2⟩:=HSp.out _ hSw;obtain⟨⟨c0,c1,c2,c3,c4,c5,c6,c7,c8⟩,_,_⟩:=jN s1;obtain⟨b0,b1,_,_,_⟩:=jM s2;have b1':w.cell? ⟨_,0+1,none⟩=some (.slice fa f.2.length fc):=b1;go_simp;try with_reducible rfl
 simp only[aK,aL,aze,asu];refine ak (i:=1) (d:=some 9) (v:= ?_) rfl rfl hHeld ?_ ?_;rotate_left;focus intro w hSw;(try dsimp only at hSw);obtain⟨s1,s2⟩:=HSp.out _ hSw;obtain⟨⟨c0,c1,c2,c3,c4,c5,c6,c7,c8⟩,_,_⟩:=jN s1;obtain⟨b0,b1,_,_,_⟩:=jM s2;have b1':w.cell? ⟨_,0+1,none⟩=some (.slice fa f.2.length fc):=b1;go_simp;try with_reducible rfl
 simp only[aK,aL,aze,asu];refine ak (i:=2) (d:=some 10) (v:= ?_) rfl rfl hHeld ?_ ?_;rotate_left;focus intro w hSw;(try dsimp only at hSw);obtain⟨s1,s2⟩:=HSp.out _ hSw;obtain⟨⟨c0,c1,c2,c3,c4,c5,c6,c7,c8⟩,_,_⟩:=jN s1;obtain⟨b0,b1,_,_,_⟩:=jM s2;have b1':w.cell? ⟨_,0+1,none⟩=some (.slice fa f.2.length fc):=b1;go_simp;try with_reducible rfl
 simp only[aK,aL,aze,asu];refine ak (i:=3) (d:=some 11) (v:= ?_) rfl rfl hHeld ?_ ?_;rotate_left;focus intro w hSw;(try dsimp only at hSw);obtain⟨s1,s2⟩:=HSp.out _ hSw;obtain⟨⟨c0,c1,c2,c3,c4,c5,c6,c7,c8⟩,_,_⟩:=jN s1;obtain⟨b0,b1,_,_,_⟩:=jM s2;have b1':w.cell? ⟨_,0+1,none⟩=some (.slice fa f.2.length fc):=b1;go_simp;try with_reducible rfl
 simp only[aK,aL,aze,asu];refine ak (i:=4) (d:=some 12) (v:= ?_) rfl rfl hHeld ?_ ?_;rotate_left;focus intro w hSw;(try dsimp only at hSw);obtain⟨s1,s2⟩:=HSp.out _ hSw;obtain⟨⟨c0,c1,c2,c3,c4,c5,c6,c7,c8⟩,_,_⟩:=jN s1;obtain⟨b0,b1,_,_,_⟩:=jM s2;have b1':w.cell? ⟨_,0+1,none⟩=some (.slice fa f.2.length fc):=b1;go_simp;try with_reducible rfl
 simp only[aK,aL,aze,asu];refine ak (i:=5) (d:=some 13) (v:= ?_) rfl rfl hHeld ?_ ?_;rotate_left;focus intro w hSw;(try dsimp only at hSw);obtain⟨s1,s2⟩:=HSp.out _ hSw;obtain⟨⟨c0,c1,c2,c3,c4,c5,c6,c7,c8⟩,_,_⟩:=jN s1;obtain⟨b0,b1,_,_,_⟩:=jM s2;have b1':w.cell? ⟨_,0+1,none⟩=some (.slice fa f.2.length fc):=b1;go_simp;try with_reducible rfl
 simp only[aK,aL,aze,asu];refine ak (i:=6) (d:=some 14) (v:= ?_) rfl rfl hHeld ?_ ?_;rotate_left;focus intro w hSw;(try dsimp only at hSw);obtain⟨s1,s2⟩:=HSp.out _ hSw;obtain⟨⟨c0,c1,c2,c3,c4,c5,c6,c7,c8⟩,_,_⟩:=jN s1;obtain⟨b0,b1,_,_,_⟩:=jM s2;have b1':w.cell? ⟨_,0+1,none⟩=some (.slice fa f.2.length fc):=b1;go_simp;try with_reducible rfl
 simp only[aK,aL,aze,asu];refine ak (i:=7) (d:=some 15) (v:= ?_) rfl rfl hHeld ?_ ?_;rotate_left;focus intro w hSw;(try dsimp only at hSw);obtain⟨s1,s2⟩:=HSp.out _ hSw;obtain⟨⟨c0,c1,c2,c3,c4,c5,c6,c7,c8⟩,_,_⟩:=jN s1;obtain⟨b0,b1,_,_,_⟩:=jM s2;have b1':w.cell? ⟨_,0+1,none⟩=some (.slice fa f.2.length fc):=b1;go_simp;try with_reducible rfl
 simp only[aK,aL,aze,asu];refine ak (i:=8) (d:=some 16) (v:= ?_) rfl rfl hHeld ?_ ?_;rotate_left;focus intro w hSw;(try dsimp only at hSw);obtain⟨s1,s2⟩:=HSp.out _ hSw;obtain⟨⟨c0,c1,c2,c3,c4,c5,c6,c7,c8⟩,_,_⟩:=jN s1;obtain⟨b0,b1,_,_,_⟩:=jM s2;have b1':w.cell? ⟨_,0+1,none⟩=some (.slice fa f.2.length fc):=b1;go_simp;try with_reducible rfl
 simp only[aK,aL,aze,asu];refine ak (i:=9) (d:=some 17) (v:= ?_) rfl rfl hHeld ?_ ?_;rotate_left;focus intro w hSw;(try dsimp only at hSw);obtain⟨s1,s2⟩:=HSp.out _ hSw;obtain⟨⟨c0,c1,c2,c3,c4,c5,c6,c7,c8⟩,_,_⟩:=jN s1;obtain⟨b0,b1,_,_,_⟩:=jM s2;have b1':w.cell? ⟨_,0+1,none⟩=some (.slice fa f.2.length fc):=b1;go_simp;try with_reducible rfl
 simp only[aK,aL,aze,asu];refine ak (i:=10) (d:=some 18) (v:= ?_) rfl rfl hHeld ?_ ?_;rotate_left;focus intro w hSw;(try dsimp only at hSw);obtain⟨s1,s2⟩:=HSp.out _ hSw;obtain⟨⟨c0,c1,c2,c3,c4,c5,c6,c7,c8⟩,_,_⟩:=jN s1;obtain⟨b0,b1,_,_,_⟩:=jM s2;have b1':w.cell? ⟨_,0+1,none⟩=some (.slice fa f.2.length fc):=b1;go_simp;try with_reducible rfl
 simp only[aK,aL,aze,asu];refine wpAnyH_ready (rs:=[11,15]) (by kernel_rfl) (by simp) ?_;refine AllReadyH.cons rfl (fun K' hK=> ?_) (AllReadyH.cons rfl (fun K' hK=> ?_) AllReadyH.nil)
 ·go_simp;refine(HC.out _ (Later.refl w2).drew).mono ?_;rintro e w3 ⟨v3,rfl,hO3,hB3⟩;have hB3:Below w2.heap.size w2 w3:=(Below.refl w2.heap.size w2).drew.trans hB3;have hO3:P9 w2.heap.size w3 v3 ox:=hO3;have hz3:=hB3.size;refine hK.out _ _ ⟨hB3.block p (by omega),hB3.block _ (by omega)⟩ (fun hHeld=> ?_);clear hK K' HC;obtain⟨pn,pa,pl,pc,pr,qa,ql,qc,rfl⟩:=hO3.four;refine ak (i:=12) (d:=some 7) (v:= ?_) rfl rfl hHeld ?_ ?_;rotate_left;focus intro w hSw;(try dsimp only at hSw);go_simp;try with_reducible rfl
  simp only[aK,aL,aze,asu];refine ak (i:=13) (d:=some 20) (v:= ?_) rfl rfl hHeld ?_ ?_;rotate_left;focus intro w hSw;(try dsimp only at hSw);go_simp;try with_reducible rfl
  simp only[aK,aL,aze,asu];refine ak (i:=14) (d:=some 21) (v:= ?_) rfl rfl hHeld ?_ ?_;rotate_left;focus intro w hSw;(try dsimp only at hSw);go_simp;try with_reducible rfl
  simp only[aK,aL,aze,asu];refine wpAnyH_ready (rs:=[15]) (by kernel_rfl) (by simp) ?_;refine AllReadyH.cons rfl (fun K' hK=> ?_) AllReadyH.nil;go_simp;obtain⟨w4,hw4⟩:∃w4,w4=w3.alloc (.cells #[.string ⟨#[]⟩,.slice none 0 0,.int .i64 0,.slice none 0 0] 30):=⟨_,rfl⟩;have hL4:Later w3 w4:=by rw[hw4];exact(Later.refl w3).alloc _
  have hx4:w4.heap[w3.heap.size]?=some (.cells #[.string ⟨#[]⟩,.slice none 0 0,.int .i64 0,.slice none 0 0] 30 (0,0)):=by rw[hw4];exact heap_alloc_new w3 _
  rw[←hw4];clear hw4;have IW:Below w2.heap.size w2 w4:=aj hB3 hL4.below hB3.size;have hS4:w4.heap[p]?=w2.heap[p]?∧w4.heap[w.heap.size]?=w2.heap[w.heap.size]?:=⟨IW.block p (by omega),IW.block _ (by omega)⟩;have hB4:Below w.heap.size w w4:=aj HL2.out.below IW HL2.out.size;have hR4:=(IW.block (w.heap.size+1) (by omega)).trans HR.out;have hz4:=hL4.size;have hO4:Ve (w.heap.size+2) w3.heap.size w4 (.agg #[.string pn,.slice pa pl pc,.int .i64 pr,.slice qa ql qc]) ox:=by
   cases ox with
   |none=>trivial
   |some x=>
    obtain⟨s,kv,e,h1,h2⟩:=hO3;exact⟨s,kv,e,Kind.aM (Kind.aH h1 fun k hk hB=>⟨by have:w2.heap.size≤k:=hB;omega,by omega⟩) hL4.size fun k hk _=>hL4.block hk,Kind.aM (Kind.aH h2 fun k hk hB=>⟨by have:w2.heap.size≤k:=hB;omega,by omega⟩) hL4.size fun k hk _=>hL4.block hk⟩
  obtain⟨⟨l0,l1,l2,l3⟩,⟨l4,l5,l6⟩,⟨l7,l8,l9,l10⟩,l11⟩:=jA hx4;refine hK.out _ _ hS4 (fun hHeld=> ?_);clear hK K' hO3 hB3 hL4 IW;refine wpAnyH_ready (rs:=[16]) (by kernel_rfl) (by simp) ?_;refine AllReadyH.cons rfl (fun K' hK=> ?_) AllReadyH.nil;go_simp;clear l0 l1 l2 l3 l4 l5 l6 l7 l8 l9 l10;have hXr:=iP hx4 (.string pn) (.slice pa pl pc) (.int .i64 pr) (.slice qa ql qc);obtain⟨w5,hw5⟩:∃w5,w5=rU w4 w3.heap.size (.string pn) (.slice pa pl pc) (.int .i64 pr) (.slice qa ql qc):=⟨_,rfl⟩;have hT5:=mO w4 w3.heap.size (.string pn) (.slice pa pl pc) (.int .i64 pr) (.slice qa ql qc);rw[←hw5] at hXr hT5;have Ns:=hw5;unfold rU at Ns;rw[←Ns];clear hw5 Ns;refine hK.out _ _ ⟨(hT5.block _ (by omega) (by omega)).trans hS4.1,(hT5.block _ (by omega) (by omega)).trans hS4.2⟩ (fun hHeld=> ?_);clear hK K';refine wpAnyH_ready (rs:=[17]) (by kernel_rfl) (by simp) ?_;refine AllReadyH.cons rfl (fun K' hK=> ?_) AllReadyH.nil;go_simp;refine hK.out _ _ hHeld (fun hHeld=> ?_);clear hK K' hHeld;refine wpAnyH_done (by kernel_rfl) ?_ _;have HBw:Hid (Below w.heap.size w w5):=hB4.trans (hT5.below (by omega) (by have:=hB4.size;omega));have ni:Hid (w5.heap[w.heap.size+1]?=_):=(hT5.block _ (by omega) (by omega)).trans hR4;obtain⟨⟨n0,n1,n2,n3⟩,⟨n4,n5,n6⟩,_,hX5⟩:=jA hXr;have hz5:=hT5.size;cases ox with
  |none=>
   have HX:Hid (kT eZ d f=kD er):=HPn.out rfl;have hne:(er != 0)=true:=by have:=HPe.out rfl;simpa using this
   clear hO4 hT5 hXr hS4 hB4 hR4 hx4 HPn HPs HPe HPz;have HCr:=hide (gN er w5);unfold jO at HCr
   go_wp2_with fail
   refine HCr.out.mono ?_;rintro e w6 ⟨rfl,hBr⟩;have HRz:Hid (w6.heap[(w.heap.size+1)]?=_):=(hBr.block _ (by omega)).trans ni.out;obtain⟨⟨z0,z1,z2,z3,z4,z5,z6,z7⟩,zfz,zlt⟩:=gD HRz.out;have HBn:=hide (aj HBw.out hBr HBw.out.size);clear hBr HCr;go_wp2;have hD2:=(HD.out.mono (B':=fun k=>B k∧k<w.heap.size) fun _ hk hb=>⟨hb,hk⟩).below HBn.out;have hrow:=bg HRz.out (.int .i64 er) (.int .i64 0) (.int .i64 0) (.slice none 0 0) (.string ⟨#[]⟩) (.slice none 0 0) (.int .i64 0) (.slice none 0 0);obtain⟨⟨r0,r1,r2,r3,r4,r5,r6,r7⟩,_,_⟩:=gD hrow;unfold kW at r0 r1 r2 r3 r4 r5 r6 r7;have hTz:=bM w6 (w.heap.size+1) (.int .i64 er) (.int .i64 0) (.int .i64 0) (.slice none 0 0) (.string ⟨#[]⟩) (.slice none 0 0) (.int .i64 0) (.slice none 0 0);exact bodyPost_ret (v:=.agg #[.int .i64 er,.int .i64 0,.int .i64 0,.slice none 0 0,.string ⟨#[]⟩,.slice none 0 0,.int .i64 0,.slice none 0 0]) (by simp[results,Tryz.results138,go_sem,r0,r1,r2,r3,r4,r5,r6,r7]) rfl
    ⟨_,rfl,by rw[HX.out];exact bY.lay (R:=(w.heap.size+1)) (om.plain _ _ _ _ _) (hD2.mono fun k _ hb=>⟨Or.inl hb.1,by omega⟩) (Tn.of_below HBn.out) hTz (by omega) hp⟩
  |some x=>
   have HX:Hid (kT eZ d f=⟨0,0,0,[],x⟩):=HPs.out x rfl;obtain rfl:er=0:=HPz.out x rfl;obtain⟨sv',kv',ev,hsl,hkl⟩:=hO4;simp only[Value.agg.injEq,Array.mk.injEq,List.cons.injEq,Value.string.injEq,Value.int.injEq,true_and,and_true] at ev;obtain⟨rfl,rfl,rfl,rfl⟩:=ev;have hm:∀k,k<w4.heap.size→w.heap.size+2≤k→k≠w3.heap.size→w5.heap[k]?=w4.heap[k]?:=fun k hk _ hne=>hT5.block k hk hne;have HA:Hid (om (fun k=>w.heap.size≤k∧k≠w.heap.size+1) w5 (.agg #[.int .i64 0,.int .i64 0,.int .i64 0,.slice none 0 0,.string x.fact.1,.slice pa pl pc,.int .i64 x.rule,.slice qa ql qc]) ⟨0,0,0,[],x⟩):=
    ⟨_,_,_,rfl,jL.cZ _ _ _ _,Kind.aH (Kind.aM hsl hT5.size fun k hk hB=>hT5.block k hk hB.2) fun k _ hB=>⟨by have:=hB.1;omega,by have:=hB.1;omega⟩,Kind.aH (Kind.aM hkl hT5.size fun k hk hB=>hT5.block k hk hB.2) fun k _ hB=>⟨by have:=hB.1;omega,by have:=hB.1;omega⟩⟩
   have HRz:=ni;obtain⟨⟨z0,z1,z2,z3,z4,z5,z6,z7⟩,zfz,zlt⟩:=gD HRz.out;have hD5:=(HD.out.mono (B':=fun k=>B k∧k<w.heap.size) fun _ hk hb=>⟨hb,hk⟩).below HBw.out;have HD5:=hide hD5;clear hD5 hsl hkl hm hT5 hXr hS4 hB4 hR4 hx4 HPn HPs HPe HPz ni;generalize x.fact.1=pn at*;generalize x.rule=pr at*;go_wp2;have hrow:=bg HRz.out (.int .i64 0) (.int .i64 0) (.int .i64 0) (.slice none 0 0) (.string pn) (.slice pa pl pc) (.int .i64 pr) (.slice qa ql qc);obtain⟨⟨r0,r1,r2,r3,r4,r5,r6,r7⟩,_,_⟩:=gD hrow;unfold kW at r0 r1 r2 r3 r4 r5 r6 r7;have hTz:=bM w5 (w.heap.size+1) (.int .i64 0) (.int .i64 0) (.int .i64 0) (.slice none 0 0) (.string pn) (.slice pa pl pc) (.int .i64 pr) (.slice qa ql qc);exact bodyPost_ret (v:=.agg #[.int .i64 0,.int .i64 0,.int .i64 0,.slice none 0 0,.string pn,.slice pa pl pc,.int .i64 pr,.slice qa ql qc]) (by simp[results,Tryz.results138,go_sem,r0,r1,r2,r3,r4,r5,r6,r7]) rfl
    ⟨_,rfl,by rw[HX.out];exact bY.lay (R:=w.heap.size+1) HA.out (HD5.out.mono fun k _ hb=>⟨Or.inl hb.1,by omega⟩) (Tn.of_below HBw.out) hTz (by omega) hp⟩
 ·go_simp;obtain⟨w3,hw3⟩:∃w3,w3=(w2.alloc (.cells #[.string ⟨#[]⟩,.slice none 0 0,.int .i64 0,.slice none 0 0] 30)).drew:=⟨_,rfl⟩;have hL3:Later w2 w3:=by rw[hw3];exact((Later.refl w2).alloc _).drew
  have hx3:w3.heap[w.heap.size+2]?=some (.cells #[.string ⟨#[]⟩,.slice none 0 0,.int .i64 0,.slice none 0 0] 30 (0,0)):=by rw[hw3,←hz2];exact heap_alloc_new w2 _
  have hlt3:=(Array.getElem?_eq_some_iff.1 hx3).1;rw[←hw3];clear hw3;refine hK.out _ _ ⟨hL3.block (by omega),hL3.block (by omega)⟩ (fun hHeld=> ?_);clear hK K';refine wpAnyH_ready (rs:=[11]) (by kernel_rfl) (by simp) ?_;refine AllReadyH.cons rfl (fun K' hK=> ?_) AllReadyH.nil;go_simp;refine(HC.out _ hL3).mono ?_;rintro e w4 ⟨v4,rfl,hO3,QK⟩;have IW:Below w2.heap.size w2 w4:=aj hL3.below QK hL3.size;have hz4:=QK.size;have hS4:w4.heap[p]?=w2.heap[p]?∧w4.heap[w.heap.size]?=w2.heap[w.heap.size]?:=⟨IW.block p (by omega),IW.block _ (by omega)⟩;refine hK.out _ _ hS4 (fun hHeld=> ?_);clear hK K' HC;obtain⟨pn,pa,pl,pc,pr,qa,ql,qc,rfl⟩:=hO3.four;refine ak (i:=12) (d:=some 7) (v:= ?_) rfl rfl hHeld ?_ ?_;rotate_left;focus intro w hSw;(try dsimp only at hSw);go_simp;try with_reducible rfl
  simp only[aK,aL,aze,asu];refine ak (i:=13) (d:=some 20) (v:= ?_) rfl rfl hHeld ?_ ?_;rotate_left;focus intro w hSw;(try dsimp only at hSw);go_simp;try with_reducible rfl
  simp only[aK,aL,aze,asu];refine ak (i:=14) (d:=some 21) (v:= ?_) rfl rfl hHeld ?_ ?_;rotate_left;focus intro w hSw;(try dsimp only at hSw);go_simp;try with_reducible rfl
  simp only[aK,aL,aze,asu];have hx4:=(QK.block _ hlt3).trans hx3;have hB4:Below w.heap.size w w4:=aj HL2.out.below IW HL2.out.size;have hR4:=(IW.block (w.heap.size+1) (by omega)).trans HR.out;have hO4:Ve (w.heap.size+2) (w.heap.size+2) w4 (.agg #[.string pn,.slice pa pl pc,.int .i64 pr,.slice qa ql qc]) ox:=by
   cases ox with
   |none=>trivial
   |some x=>
    obtain⟨s,kv,e,h1,h2⟩:=hO3;exact⟨s,kv,e,Kind.aH h1 fun k hk hB=>⟨by have:w3.heap.size≤k:=hB;omega,by have:w3.heap.size≤k:=hB;omega⟩,Kind.aH h2 fun k hk hB=>⟨by have:w3.heap.size≤k:=hB;omega,by have:w3.heap.size≤k:=hB;omega⟩⟩
  obtain⟨⟨l0,l1,l2,l3⟩,⟨l4,l5,l6⟩,⟨l7,l8,l9,l10⟩,l11⟩:=jA hx4;clear hO3 hL3 IW QK hx3;refine wpAnyH_ready (rs:=[16]) (by kernel_rfl) (by simp) ?_;refine AllReadyH.cons rfl (fun K' hK=> ?_) AllReadyH.nil;go_simp;clear l0 l1 l2 l3 l4 l5 l6 l7 l8 l9 l10;have hXr:=iP hx4 (.string pn) (.slice pa pl pc) (.int .i64 pr) (.slice qa ql qc);obtain⟨w5,hw5⟩:∃w5,w5=rU w4 (w.heap.size+2) (.string pn) (.slice pa pl pc) (.int .i64 pr) (.slice qa ql qc):=⟨_,rfl⟩;have hT5:=mO w4 (w.heap.size+2) (.string pn) (.slice pa pl pc) (.int .i64 pr) (.slice qa ql qc);rw[←hw5] at hXr hT5;have Ns:=hw5;unfold rU at Ns;rw[←Ns];clear hw5 Ns;refine hK.out _ _ ⟨(hT5.block _ (by omega) (by omega)).trans hS4.1,(hT5.block _ (by omega) (by omega)).trans hS4.2⟩ (fun hHeld=> ?_);clear hK K';refine wpAnyH_ready (rs:=[17]) (by kernel_rfl) (by simp) ?_;refine AllReadyH.cons rfl (fun K' hK=> ?_) AllReadyH.nil;go_simp;refine hK.out _ _ hHeld (fun hHeld=> ?_);clear hK K' hHeld;refine wpAnyH_done (by kernel_rfl) ?_ _;have HBw:Hid (Below w.heap.size w w5):=hB4.trans (hT5.below (by omega) (by have:=hB4.size;omega));have ni:Hid (w5.heap[w.heap.size+1]?=_):=(hT5.block _ (by omega) (by omega)).trans hR4;obtain⟨⟨n0,n1,n2,n3⟩,⟨n4,n5,n6⟩,_,hX5⟩:=jA hXr;have hz5:=hT5.size;cases ox with
  |none=>
   have HX:Hid (kT eZ d f=kD er):=HPn.out rfl;have hne:(er != 0)=true:=by have:=HPe.out rfl;simpa using this
   clear hO4 hT5 hXr hS4 hB4 hR4 hx4 HPn HPs HPe HPz;have HCr:=hide (gN er w5);unfold jO at HCr
   go_wp2_with fail
   refine HCr.out.mono ?_;rintro e w6 ⟨rfl,hBr⟩;have HRz:Hid (w6.heap[(w.heap.size+1)]?=_):=(hBr.block _ (by omega)).trans ni.out;obtain⟨⟨z0,z1,z2,z3,z4,z5,z6,z7⟩,zfz,zlt⟩:=gD HRz.out;have HBn:=hide (aj HBw.out hBr HBw.out.size);clear hBr HCr;go_wp2;have hD2:=(HD.out.mono (B':=fun k=>B k∧k<w.heap.size) fun _ hk hb=>⟨hb,hk⟩).below HBn.out;have hrow:=bg HRz.out (.int .i64 er) (.int .i64 0) (.int .i64 0) (.slice none 0 0) (.string ⟨#[]⟩) (.slice none 0 0) (.int .i64 0) (.slice none 0 0);obtain⟨⟨r0,r1,r2,r3,r4,r5,r6,r7⟩,_,_⟩:=gD hrow;unfold kW at r0 r1 r2 r3 r4 r5 r6 r7;have hTz:=bM w6 (w.heap.size+1) (.int .i64 er) (.int .i64 0) (.int .i64 0) (.slice none 0 0) (.string ⟨#[]⟩) (.slice none 0 0) (.int .i64 0) (.slice none 0 0);exact bodyPost_ret (v:=.agg #[.int .i64 er,.int .i64 0,.int .i64 0,.slice none 0 0,.string ⟨#[]⟩,.slice none 0 0,.int .i64 0,.slice none 0 0]) (by simp[results,Tryz.results138,go_sem,r0,r1,r2,r3,r4,r5,r6,r7]) rfl
    ⟨_,rfl,by rw[HX.out];exact bY.lay (R:=(w.heap.size+1)) (om.plain _ _ _ _ _) (hD2.mono fun k _ hb=>⟨Or.inl hb.1,by omega⟩) (Tn.of_below HBn.out) hTz (by omega) hp⟩
  |some x=>
   have HX:Hid (kT eZ d f=⟨0,0,0,[],x⟩):=HPs.out x rfl;obtain rfl:er=0:=HPz.out x rfl;obtain⟨sv',kv',ev,hsl,hkl⟩:=hO4;simp only[Value.agg.injEq,Array.mk.injEq,List.cons.injEq,Value.string.injEq,Value.int.injEq,true_and,and_true] at ev;obtain⟨rfl,rfl,rfl,rfl⟩:=ev;have hm:∀k,k<w4.heap.size→w.heap.size+2≤k→k≠(w.heap.size+2)→w5.heap[k]?=w4.heap[k]?:=fun k hk _ hne=>hT5.block k hk hne;have HA:Hid (om (fun k=>w.heap.size≤k∧k≠w.heap.size+1) w5 (.agg #[.int .i64 0,.int .i64 0,.int .i64 0,.slice none 0 0,.string x.fact.1,.slice pa pl pc,.int .i64 x.rule,.slice qa ql qc]) ⟨0,0,0,[],x⟩):=
    ⟨_,_,_,rfl,jL.cZ _ _ _ _,Kind.aH (Kind.aM hsl hT5.size fun k hk hB=>hT5.block k hk hB.2) fun k _ hB=>⟨by have:=hB.1;omega,by have:=hB.1;omega⟩,Kind.aH (Kind.aM hkl hT5.size fun k hk hB=>hT5.block k hk hB.2) fun k _ hB=>⟨by have:=hB.1;omega,by have:=hB.1;omega⟩⟩
   have HRz:=ni;obtain⟨⟨z0,z1,z2,z3,z4,z5,z6,z7⟩,zfz,zlt⟩:=gD HRz.out;have hD5:=(HD.out.mono (B':=fun k=>B k∧k<w.heap.size) fun _ hk hb=>⟨hb,hk⟩).below HBw.out;have HD5:=hide hD5;clear hD5 hsl hkl hm hT5 hXr hS4 hB4 hR4 hx4 HPn HPs HPe HPz ni;generalize x.fact.1=pn at*;generalize x.rule=pr at*;go_wp2;have hrow:=bg HRz.out (.int .i64 0) (.int .i64 0) (.int .i64 0) (.slice none 0 0) (.string pn) (.slice pa pl pc) (.int .i64 pr) (.slice qa ql qc);obtain⟨⟨r0,r1,r2,r3,r4,r5,r6,r7⟩,_,_⟩:=gD hrow;unfold kW at r0 r1 r2 r3 r4 r5 r6 r7;have hTz:=bM w5 (w.heap.size+1) (.int .i64 0) (.int .i64 0) (.int .i64 0) (.slice none 0 0) (.string pn) (.slice pa pl pc) (.int .i64 pr) (.slice qa ql qc);exact bodyPost_ret (v:=.agg #[.int .i64 0,.int .i64 0,.int .i64 0,.slice none 0 0,.string pn,.slice pa pl pc,.int .i64 pr,.slice qa ql qc]) (by simp[results,Tryz.results138,go_sem,r0,r1,r2,r3,r4,r5,r6,r7]) rfl
    ⟨_,rfl,by rw[HX.out];exact bY.lay (R:=w.heap.size+1) HA.out (HD5.out.mono fun k _ hb=>⟨Or.inl hb.1,by omega⟩) (Tn.of_below HBw.out) hTz (by omega) hp⟩
theorem Qd:Dw eZ:=fun p B d f fv tv rv kv nv sv w=>Nr p B d f fv tv rv kv nv sv w
end Go.Proofs.YtafmbokfkbccaaaGreatDoor
namespace Go.Proofs.YtafmbokfkbccaaaGreatDoor
open Go.ChangeShapes Go.WideShapes Go.RowKit Go.Sort
theorem DT:Tryz.prog.cellsOf 72=5:=by kernel_rfl
theorem KC:16≤Tryz.prog.bytesOf 72:=of_decide_eq_true (by kernel_rfl)
theorem mY:Tryz.prog.cellsOf 3=1:=by kernel_rfl
section
variable {H:Type} {enc:TypeId×Value→H} {W:World}
set_option maxRecDepth 100000 in
theorem Nt:Opens enc W 72 doK (fun _=>True):=by
 intro n cs x h hw;obtain⟨xs,n,_,hx,hl,hlen,hp⟩:=DataW.trod_struct Tryz.underlying72 h;rw[DT] at hl
 match cs,hl with
 |[c0,c1,c2,c3,c4],_=>
  match xs,hlen with
  |[y0,y1,y2,y3],_=>
   have hp0:DataW.trod enc Tryz.prog W 0 (fun _=>true) true n 3 [c0]=some y0:=by
    have:=hp 0 _ rfl;simpa[mY] using this
   have hp1:DataW.trod enc Tryz.prog W 0 (fun _=>true) true n 3 [c1]=some y1:=by
    have:=hp 1 _ rfl;simpa[mY] using this
   have hp2:DataW.trod enc Tryz.prog W 0 (fun _=>true) true n 27 [c2,c3]=some y2:=by
    have:=hp 2 _ rfl;simpa[mY,wR] using this
   have hp3:DataW.trod enc Tryz.prog W 0 (fun _=>true) true n 9 [c4]=some y3:=by
    have:=hp 3 _ rfl;simpa[mY,wR,uw] using this
   have hws:vk 27 y2.1:=by
    have hd:x.1=.agg [y0.1,y1.1,y2.1,y3.1]:=by simpa using congrArg Prod.fst hx
    unfold vk at hw⊢;rw[hd,DataW.weights,Tryz.underlying72] at hw;simp only[List.map_cons,List.map_nil,DataW.weightsEach,List.all_append,Bool.and_eq_true] at hw;exact hw.2.2.1
   obtain⟨k,h0,_,_⟩:=DataW.trod_int Tryz.underlying3 hp0;obtain⟨j,h1,_,_⟩:=DataW.trod_int Tryz.underlying3 hp1;obtain⟨t,h3,_,_⟩:=DataW.trod_string Tryz.underlying9 hp3;obtain⟨z0,z1,m,hx2,hl2,g0,g1⟩:=trod_struct2 Tryz.underlying27 hp2;have e0:Tryz.prog.cellsOf 9=1:=uw;have e1:Tryz.prog.cellsOf 25=1:=ER;simp only[e0,e1,List.drop_zero,List.drop_succ_cons,List.take_succ_cons,List.take_zero] at g0 g1;obtain⟨s,hs,_,_⟩:=DataW.trod_string Tryz.underlying9 g0;have hw2:vk 25 z1.1:=by
    unfold vk at hws⊢;rw[hx2,DataW.weights,Tryz.underlying27] at hws;simp only[List.map_cons,List.map_nil,DataW.weightsEach,List.all_append,Bool.and_eq_true] at hws;exact hws.2.1
   obtain⟨l,q1,_,_⟩:=G8 Tryz.underlying25 uw (by rw[G9];decide) (by decide) JQ g1 hw2;simp only[List.cons.injEq,and_true] at h0 h1 h3 hs;exact⟨⟨k,j,(s,l),t⟩,⟨c3,by rw[h0,h1,h3,hs],AP q1⟩,trivial⟩
set_option maxRecDepth 100000 in
theorem Nu {b0:Nat} {v:Value} {d:DataW H} {p:List MemPlace} (hv:Value.okWide Tryz.prog W .any b0 49 v) (h:DataW.Trod enc Tryz.prog W 0 (fun _=>true) true 49 v d p) (hw:vk 49 d):∃l,doK.sl bU W v l:=by
 obtain⟨a0,XA,cap0,rfl⟩:=okWide_slice Tryz.underlying49 hv;obtain⟨fuel,hf⟩:=h;obtain⟨l,h1,_,_⟩:=G8 Tryz.underlying49 DT KC (by decide) Nt (x:=(d,p)) (by simpa[Value.cells] using hf) hw;exact⟨l,h1⟩
end
end Go.Proofs.YtafmbokfkbccaaaGreatDoor
