import Derived.Test.YtafmbokfkbccaaaGreatDoorJW31
import Derived.Test.YtafmbokfkbccaaaGreatDoorJW25
namespace Go.Proofs.YtafmbokfkbccaaaGreatDoor
open Go.RowKit Go.Sort Go.Maps
def eO (p:List aA) (told:List aj):List (List aj):=(bA p (aK p).1 (countP (aK p).1) 0 told).2
theorem zx {p:List aA} {all:List aj}:∀{ps:List (List aj)} {L:List aj},Steps (Came p all) L ps→GoodS p (aY L ps)→∀l∈L::ps,GoodS p l
 |[],L,_,hg,l,hl=>by
  simp at hl;subst hl;exact hg
 |M::ps,L,hs,hg,l,hl=>by
  rw[gB] at hg;rcases List.mem_cons.1 hl with rfl|hl
  ·exact hs.1.1
  ·exact zx hs.2 hg l hl
theorem Cm {p:List aA} {all:List aj} (h:GoodS p all) (b:List aF):lF all b=0↔aM b=0:=by
 show pX b all []=0↔_;unfold pX;rw[mh h.up h.right h.few];have e:(bB []).1=0:=rfl
 by_cases hb:aM b=0
 ·rw[if_neg (by simpa using hb),if_neg (by simp),e];simp[hb]
 ·rw[if_pos hb]
theorem r9 {g:aA→Option (List aj)} {n:Nat}:∀(p:List aA) (i:Nat),(∀r∈p,∀of,g r=some of→of.length≤n)→(iC g i p).2.length≤n
 |[],i,_=>by simp[iC]
 |r::p,i,h=>by
  unfold iC;cases e:g r with
  |none=>exact r9 p (i+1) fun q hq=>h q (by simp[hq])
  |some of=>exact h r (by simp) of e
theorem KY {err:List aF→Int} {all old:List aj} {r:aA} {f:aj} {of:List aj} (h:byP err all old r f=some of):of.length≤r.body.length:=by
 unfold byP at h;cases hm:dH r.head f [] with
 |none=>rw[hm] at h;cases h
 |some b=>
  rw[hm] at h;have:=List.mem_of_find?_eq_some h;obtain⟨l,_,rfl⟩:=List.mem_map.1 this;have:=mD (dR b r.body) l;unfold dR at this;rw[List.length_map] at this;exact this
theorem nH {p:List aA} {told:List aj} (h:gG p told=0):
  bZ p∧GoodS p told∧GoodS p (aY told (eO p told))∧lD p told=(0,aY told (eO p told))∧H9 p told (aY told (eO p told)) (lK (lF (aY told (eO p told))) p told (aY told (eO p told)) (told::eO p told))∧
  (∀l∈told::eO p told,fO l)∧(told::eO p told).length≤1000000∧(∀f∈aY told (eO p told),inB told f=false→1≤fK (told::eO p told) f∧fK (told::eO p told) f<(told::eO p told).length)∧
  (∀r∈p,r.head.terms.length≤4∧r.body.length≤5∧∀a∈r.body,a.terms.length≤4)∧(∀f∈aY told (eO p told),(∀g∈(lK (lF (aY told (eO p told))) p told (aY told (eO p told)) (told::eO p told) f).2,g∈aY told (eO p told))∧(lK (lF (aY told (eO p told))) p told (aY told (eO p told)) (told::eO p told) f).2.length≤1000):=by
 have hall:lD p told=(0,aY told (eO p told)):=(oF p told).2 h;obtain⟨hp,hl,τ,hτ,hst,hr⟩:=F3 hall;obtain⟨_,_,hgM,_,_⟩:=zk hall;have hrun:bA p (p.map fun r=>τ r.head.name) (countP (p.map fun r=>τ r.head.name)) 0 told=(0,eO p told):=by
  have h1:=wE p (p.map fun r=>τ r.head.name) (countP (p.map fun r=>τ r.head.name)) 0 told;rw[hr] at h1;refine Prod.ext h1.1.symm ?_;unfold eO;rw[hst]
 have hsteps:=BR hp hτ _ 0 hl hrun;have Fg:∀r∈p,eH (fun _=>aY told (eO p told)) 0 r.body [[]]≠none:=fun r hr'=>BS hp hτ _ 0 hl hrun r hr' (Nat.zero_le _) (by rw[Nat.zero_add];exact mV (List.mem_map.2 ⟨r,hr',rfl⟩));have GR:=Mj hp (err:=lF (aY told (eO p told))) (Cm hgM) hsteps Fg;have hsh:∀r∈p,r.head.terms.length≤4∧r.body.length≤5∧∀a∈r.body,a.terms.length≤4:=fun r hr'=>by
  have hR:=hp.rules r hr';obtain⟨b1,b2⟩:=jE hR.body;exact⟨(bN hR.head).2.1,b1,fun a ha=>(bN (b2 a ha)).2.1⟩
 refine⟨hp,hl,hgM,hall,GR,fun l hl'=>(zx hsteps hgM l hl').up,?_,fun f hf hn=> ?_,hsh,fun f hf=>⟨?_,?_⟩⟩
 ·have h1:=Ba (p:=p) (ss:=p.map fun r=>τ r.head.name) (countP (p.map fun r=>τ r.head.name)) 0 told;rw[hrun] at h1;have h2:countP (p.map fun r=>τ r.head.name)≤16:=by
   rw[←hst];obtain⟨ss,ex,ea,hse⟩:∃ss ex ea,aK p=(ss,ex,ea):=⟨_,_,_,rfl⟩;have hx:ex=0:=by
    refine Classical.byContradiction fun hne=> ?_;unfold gG at h;rw[hse] at h;dsimp only at h;rw[if_pos hne] at h;exact hne h
   subst hx;rw[hse];obtain⟨_,m,hms,_,hlm,hsm⟩:=kZ hse;refine countP_le fun s hs=> ?_;rw[hms] at hs;obtain⟨r,hr',rfl⟩:=List.mem_map.1 hs;have:=rU hlm hsm r hr';have:=hp.few;omega
  have h3:=Nat.mul_le_mul_right 201 h2;dsimp only at h1;simp only[List.length_cons];omega
 ·have hn':f∉told:=fun hc=>by rw[aN.2 hc] at hn;cases hn
  obtain⟨_,_,_,_,_,_,h5,h6⟩:=Av hsteps hf hn';exact⟨h5,h6⟩
 ·rcases GR.ok f hf with⟨_,e⟩|⟨i,r,of,_,e,_,hk⟩
  ·rw[e];intro k hk;cases hk
  ·rw[e];exact hk
 ·unfold lK;split
  ·simp
  ·refine r9 p 0 fun r hr' of hof=> ?_;have:=KY hof;have:=(hsh r hr').2.1;omega
theorem Cn (w0 wF:World) (P lo mb:Nat) (p:List aA) (told all:List aj) (PS:List (List aj)) (pv tv av sv:Value) (xs:List Value) (hG:Gq w0 wF P lo mb p told all PS pv tv av sv xs):∀N,Gf all P mb pv tv av sv wF (lK (lF all) p told all PS) (N+1)
 |0=>uU w0 wF P lo mb p told all PS pv tv av sv xs hG 0 (fun h=>absurd h (by omega))
 |N+1=>uU w0 wF P lo mb p told all PS pv tv av sv xs hG (N+1) fun _=>Cn w0 wF P lo mb p told all PS pv tv av sv xs hG N
end Go.Proofs.YtafmbokfkbccaaaGreatDoor
namespace Go.Proofs.YtafmbokfkbccaaaGreatDoor
open Go.RowKit Go.Sort Go.Maps
def kC (p:List aA) (told:List aj) (f:aj):Int×Option bE:=
 if gG p told≠0 then(gG p told,none) else if gI f≠0 then(gI f,none) else if inB (aY told (eO p told)) f=false then(6,none)
 else match(bC (lK (lF (aY told (eO p told))) p told (aY told (eO p told)) (told::eO p told)) 61 f 1 (0,0)).1 with
  |none=>(4,none)
  |some x=>(0,some x)
def TT (lo:Nat) (w:World) (v:Value):Option bE→Prop
 |none=>v=kD
 |some x=>sN 60 (From lo) w v x
set_option maxRecDepth 100000 in
set_option maxHeartbeats 8000000 in
theorem Ng (p:List aA) (told:List aj) (f:aj) (pv tv fv:Value) (w:World) (hpv:fB.sl bU w pv p) (ht:Facts w tv told) (hf:bW w fv f):
  Calls Tryz.prog 18 #[pv,tv,fv] w fun e w'=>∃v,e=.returned (.tuple #[v,.int .i64 (kC p told f).1])∧TT w.heap.size w' v (kC p told f).2∧Below w.heap.size w w':=by
 obtain⟨s,rfl,hs⟩:=hf;obtain⟨sa,sc,rfl⟩:=aW hs;obtain⟨pa,pc,rfl⟩:=Kind.slice hpv;obtain⟨ta,tc,rfl⟩:=aD ht;obtain⟨w1,hw1⟩:∃w1,w1=(((w.alloc (.cells #[.string f.1,.slice sa f.2.length sc] 27)).alloc (.cells #[.string ⟨#[]⟩,.slice none 0 0,.int .i64 0,.slice none 0 0] 30)).alloc (.map #[] 0)).alloc (.cells #[.slice pa p.length pc,.slice ta told.length tc,.slice none 0 0,.int .i64 0,.int .i64 0,.slice none 0 0,.map (some (w.heap.size+2))] 115):=⟨_,rfl⟩;have hL1:Later w w1:=by rw[hw1];exact((((Later.refl w).alloc _).alloc _).alloc _).alloc _
 have hs1:w1.heap.size=w.heap.size+4:=by rw[hw1];simp
 have hr0:w1.heap[w.heap.size]?=some (.cells #[.string f.1,.slice sa f.2.length sc] 27 (0,0)):=by
  rw[hw1];simp only[bI,World.size_alloc]
  repeat (first|rw[if_pos trivial]|rw[if_pos (by omega)]|rw[if_neg (by omega)])
 have hr1:w1.heap[w.heap.size+1]?=some (.cells #[.string ⟨#[]⟩,.slice none 0 0,.int .i64 0,.slice none 0 0] 30 (0,0)):=by
  rw[hw1];simp only[bI,World.size_alloc]
  repeat (first|rw[if_pos trivial]|rw[if_pos (by omega)]|rw[if_neg (by omega)])
 have hr2:w1.heap[w.heap.size+2]?=some (.map #[] 0):=by
  rw[hw1];simp only[bI,World.size_alloc]
  repeat (first|rw[if_pos trivial]|rw[if_pos (by omega)]|rw[if_neg (by omega)])
 have hr3:w1.heap[w.heap.size+3]?=some (.cells #[.slice pa p.length pc,.slice ta told.length tc,.slice none 0 0,.int .i64 0,.int .i64 0,.slice none 0 0,.map (some (w.heap.size+2))] 115 (0,0)):=by
  rw[hw1];simp only[bI,World.size_alloc]
  repeat (first|rw[if_pos trivial]|rw[if_pos (by omega)]|rw[if_neg (by omega)])
 have HFo:=hide (KQ p told (w.heap.size+3) (w.heap.size+2) (.slice pa p.length pc) (.slice ta told.length tc) w w1 ⟨hr3⟩ hL1.below (by omega) hpv ht);obtain⟨PP,hPP⟩:∃PP,PP=kC p told f:=⟨_,rfl⟩;rw[←hPP];unfold kC at hPP;have HPP:=hide hPP;have HW1:=hide hw1;have HL1:=hide hL1;have HR0:=hide hr0;have HR1:=hide hr1;have HR2:=hide hr2;have HR3:=hide hr3;have HPv:=hide hpv;have HTv:=hide ht;have HSt:=hide hs;have hsz1:w.heap.size+4≤w1.heap.size:=by omega
 have HS1:=hide hs1;have HBx:Hid (∀(x0 x1 x2 x3:Value) (wr:World),Below w.heap.size w wr→Below w.heap.size w (uT wr (w.heap.size+1) x0 x1 x2 x3)):=fun x0 x1 x2 x3 wr h=>
  ak h ((oG wr (w.heap.size+1) x0 x1 x2 x3).below (n:=w.heap.size) (by omega) h.size) (Nat.le_refl _)
 clear hw1 hPP hL1 hr0 hr1 hr2 hr3 hpv ht hs hs1;obtain⟨fn,aI⟩:=f;dsimp only at*;have hmm:= @run_makeMap Tryz.prog
 go_enter Tryz.func18,Tryz.ntmps18
 go_wp2_with (first|(rw[←HW1.out])|fail)
 clear hmm;refine HFo.out.mono ?_;rintro e w2 ⟨rfl,hS2,hK2⟩;have hsz2:=hK2.size;have hBw2:Below w.heap.size w w2:=ak HL1.out.below (hK2.below (n:=w1.heap.size-1) (by have:=HS1.out;omega) (by have:=HS1.out;omega)) (by omega);have RB:=(hK2.block w.heap.size (by omega) (by omega)).trans HR0.out;have Nh:=(hK2.block (w.heap.size+1) (by omega) (by omega)).trans HR1.out;have RD:=(hK2.block (w.heap.size+2) (by omega) (by omega)).trans HR2.out;have PL:=hide RB;have TU:=hide Nh;have TV:=hide RD;have HB2:=hide hBw2;have HK2:=hide hK2;have HS2:=hide hS2;obtain⟨FE,hFE⟩:∃FE,FE=gG p told:=⟨_,rfl⟩;rw[←hFE];rw[←hFE] at HPP HS2;have HFE:=hide hFE;clear hFE RB RD hBw2 hK2 hS2 HFo
 by_cases h0:FE=0
 ·subst h0;obtain⟨g1,g2,g3,g4,g5,g6,g7,g8,g9,g10⟩:=nH HFE.out.symm;obtain⟨av,sv,xs,k1,k2,k3,k4,k5⟩:=(HS2.out rfl).has;rw[show(bA p (aK p).1 (countP (aK p).1) 0 told).2=eO p told from rfl] at k3 k4 k5;obtain⟨PS,hPS⟩:∃PS,PS=told::eO p told:=⟨_,rfl⟩;obtain⟨all,hal⟩:∃all,all=aY told (eO p told):=⟨_,rfl⟩;have Oc:=HPP.out;rw[if_neg (by simp)] at Oc;rw[←hPS,←hal] at g5 g8 g10 Oc;rw[←hal] at g3 k3;rw[←hPS] at g6 g7 k4 k5;have Ni:=hide Oc;have RF:bW w2 (.agg #[.string fn,.slice sa aI.length sc]) (fn,aI):=⟨_,rfl,HSt.out.below HB2.out⟩;have HWr:=hide (wrong (.agg #[.string fn,.slice sa aI.length sc]) (fn,aI) w2 RF);obtain⟨q0,q1,_,_,_⟩:=jR PL.out;have q1':w2.cell? ⟨w.heap.size,0+1,none⟩=some (.slice sa aI.length sc):=q1;obtain⟨WF,hWF⟩:∃WF,WF=gI (fn,aI):=⟨_,rfl⟩;rw[←hWF] at HWr Ni;have HK1:=hide k1;have RG:=hide k2;have HK3:=hide k3;have HK4:=hide k4;have HK5:=hide k5;have hav:∃a n c,av=.slice a n c:=by obtain⟨a,c,e⟩:=aD k3;exact⟨a,_,c,e⟩
  obtain⟨aa,an,ac,rfl⟩:=hav;have HGr:Hid (Grd w (w.heap.size+3) p told all PS (.slice pa p.length pc) (.slice ta told.length tc)):=⟨by omega,HPv.out,HTv.out,g2.up,g3.up,g6,g7,g8,g9,g1.few,g3.few⟩;have HCl:Hid (∀f∈all,(∀g∈(lK (lF all) p told all PS f).2,g∈all)∧(lK (lF all) p told all PS f).2.length≤1000):=g10;have HAg:Hid (∀f∈all,f.2.length≤1000):=fun f hf=>by have:=(g3.right f hf).2.1;omega
  have hup:=g3.up;have HUp:=hide hup;have p2:=k1.cells.2.2.1;clear g1 g2 g3 g4 g5 g6 g7 g8 g9 g10 k1 k2 k3 k4 k5 Oc HPP HS2 hWF hPS hal RF q1 hup HFE p2
  go_wp2_with fail
  refine HWr.out.mono ?_;rintro e w3 ⟨rfl,hL3⟩;have hB3:=ak HB2.out hL3.below HB2.out.size;have Mk:=hL3.size;have Cj:=(hL3.block (by omega:w.heap.size+1<w2.heap.size)).trans TU.out;have HL3:=hide hL3;have HB3:=hide hB3;have Pq:=hide Cj;clear HWr q0 q1' hL3 hB3 Nh
  by_cases h1:WF=0
  ·subst h1;have PN:=Ni.out;rw[if_neg (by simp)] at PN;have Od:=hide PN;have Nc:=(HL3.out.block (by omega:w.heap.size<w2.heap.size)).trans PL.out;obtain⟨q0,q1,_,_,_⟩:=jR Nc;have q1':w3.cell? ⟨w.heap.size,0+1,none⟩=some (.slice sa aI.length sc):=q1;have RH:=HK1.out.below HL3.out.below;have p2:=RH.cells.2.2.1;have hin:=inC (.slice aa an ac) (.agg #[.string fn,.slice sa aI.length sc]) all (fn,aI) w3 (HK3.out.later HL3.out) ⟨_,rfl,HSt.out.below HB3.out⟩ HUp.out;rw[tu] at hin;have HIn:=hide hin;clear PN Ni Nc q1 RH hin Cj
   go_wp2_with fail
   refine HIn.out.mono ?_;rintro e w4 ⟨rfl,hL4⟩;have hB4:=ak HB3.out hL4.below HB3.out.size;have MG:=hL4.size;have GV:=(hL4.block (by omega:w.heap.size+1<w3.heap.size)).trans Pq.out;cases hib:inB all (fn,aI) with
   |false=>
    have HX:Hid (PP=(6,none)):=by show _=_;rw[Od.out,if_pos hib]
    have HZ:=hide (iV (jd GV (.string ⟨#[]⟩) (.slice none 0 0) (.int .i64 0) (.slice none 0 0))).1;have HBf:=hide (HBx.out (.string ⟨#[]⟩) (.slice none 0 0) (.int .i64 0) (.slice none 0 0) w4 hB4);obtain⟨_,_,⟨t0,t1,t2,t3⟩,_⟩:=iV GV;clear Od GV hib HIn q0 q1' p2 hL4 hB4;go_wp2;obtain⟨z0,z1,z2,z3⟩:=HZ.out;unfold uT at z0 z1 z2 z3;refine bodyPost_ret (v:=.tuple #[kD,.int .i64 6]) (by simp[results,Tryz.results18,go_sem,z0,z1,z2,z3];rfl) rfl ⟨kD,?_,?_,HBf.out⟩
    ·rw[HX.out]
    ·rw[HX.out];exact rfl
   |true=>
    have Oe:=Od.out;rw[if_neg (by rw[hib];simp)] at Oe;have KZ:=HL3.out.trans hL4;have PO:=HK1.out.below KZ.below;have PU:w4.heap[w.heap.size+2]?=some (.map #[] 0):=(KZ.block (by omega)).trans TV.out;have hGp:Gp w4 (w.heap.size+3) w1.heap.size (w.heap.size+2) (.slice aa an ac) sv xs all PS:=by
     refine⟨?_,HK3.out.later KZ,HK4.out,fun i u l hu hl=>(HK5.out i u l hu hl).later KZ,PO.uS ⟨_,_,_,rfl⟩ ⟨_,_,_,rfl⟩ ⟨_,_,_,rfl⟩ RG.out.mG,⟨_,_,PU⟩,by omega,by omega,by omega,by omega⟩;rcases RG.out with e|h
     ·exact Or.inl e
     ·exact Or.inr (h.block fun i hi _=>KZ.block hi)
    have hGq:Gq w w4 (w.heap.size+3) w1.heap.size (w.heap.size+2) p told all PS (.slice pa p.length pc) (.slice ta told.length tc) (.slice aa an ac) sv xs:=⟨hGp,HGr.out,by omega,hB4,HCl.out,HAg.out,⟨_,_,_,rfl⟩,⟨_,_,_,rfl⟩⟩;have hPv:PvS (fun k=>k≠w.heap.size+2∧k≠w.heap.size+3) w4 w4 (w.heap.size+3) (w.heap.size+2) (.slice pa p.length pc) (.slice ta told.length tc) (.slice aa an ac) sv ((0:Nat):Int) ((0:Nat):Int) 0 all (lK (lF all) p told all PS):=by
     refine⟨PO,Kq.refl _ _ _,⟨.map [],?_,fun k h=>by simp[Maps.has] at h⟩⟩;have hw:((w.alloc (.cells #[] 0)).alloc (.cells #[] 0)).heap.size=w.heap.size+2:=by simp
     have hmd:=World.ownsMap_made (P:=Tryz.prog) ((w.alloc (.cells #[] 0)).alloc (.cells #[] 0)) 3 rZ;rw[hw] at hmd;refine eT hmd ?_;rw[PU];have:=heap_alloc_new ((w.alloc (.cells #[] 0)).alloc (.cells #[] 0)) (.map #[] 0);rw[hw] at this;exact this.symm
    have hPr:=Cn w w4 (w.heap.size+3) w1.heap.size (w.heap.size+2) p told all PS _ _ _ sv xs hGq 60 (fun k=>k≠w.heap.size+2∧k≠w.heap.size+3) (fn,aI) (.agg #[.string fn,.slice sa aI.length sc]) 1 0 0 0 w4 rfl (fun k h=>h) (fun k hk=>⟨by omega,by omega⟩) hPv (Nat.le_refl _) (by omega) (by omega) (aN.1 hib) ⟨_,rfl,HSt.out.below hB4⟩;rw[show(((1:Nat):Int))=1 from rfl] at hPr;obtain⟨PX,hPX⟩:∃PX,PX=bC (lK (lF all) p told all PS) (60+1) (fn,aI) 1 (0,0):=⟨_,rfl⟩;rw[←hPX] at hPr;rw[show(61:Nat)=60+1 from rfl,←hPX] at Oe;have HPr:=hide hPr;have Og:=hide Oe;have Nf:=(KZ.block (by omega:w.heap.size<w2.heap.size)).trans PL.out;obtain⟨y0,y1,_,_,_⟩:=jR Nf;have y1':w4.cell? ⟨w.heap.size,0+1,none⟩=some (.slice sa aI.length sc):=y1;have HB4:=hide hB4;have LG:=hide GV;clear Oe Od PO PU hGp hGq hPv hPr hPX hib HIn q0 q1' p2 hL4 hB4 KZ Nf y1 GV
    go_wp2_with fail
    refine HPr.out.mono ?_;rintro e w5 ⟨v5,er5,n5,rfl,hV5,_,_,hK5⟩;have hsz5:=hK5.size;have hB5:Below w.heap.size w w5:=ak HB4.out (hK5.below (n:=w.heap.size) (by omega) (by omega) (by omega)) (Nat.le_refl _);have Bf:=(hK5.block (w.heap.size+1) (by omega) (by omega) (by omega)).trans LG.out;obtain⟨PX1,PX2⟩:=PX;dsimp only at hV5;obtain⟨_,_,⟨t0,t1,t2,t3⟩,_⟩:=iV Bf;cases PX1 with
    |none=>
     obtain⟨rfl,rfl⟩:=hV5;have HX:Hid (PP=(4,none)):=Og.out;have HZ:=hide (iV (jd Bf (.string ⟨#[]⟩) (.slice none 0 0) (.int .i64 0) (.slice none 0 0))).1;have HBf:=hide (HBx.out (.string ⟨#[]⟩) (.slice none 0 0) (.int .i64 0) (.slice none 0 0) w5 hB5);rw[show kD=.agg #[.string ⟨#[]⟩,.slice none 0 0,.int .i64 0,.slice none 0 0] from rfl];clear Og Bf hB5 hK5 HPr y0 y1';go_wp2;obtain⟨z0,z1,z2,z3⟩:=HZ.out;unfold uT at z0 z1 z2 z3;refine bodyPost_ret (v:=.tuple #[kD,.int .i64 4]) (by simp[results,Tryz.results18,go_sem,z0,z1,z2,z3];rfl) rfl ⟨kD,?_,?_,HBf.out⟩
     ·rw[HX.out]
     ·rw[HX.out];exact rfl
    |some x=>
     obtain⟨rfl,s9,k9,rfl,hs9,hk9⟩:=hV5;have hk9:(ru 60).sl (From w4.heap.size) w5 k9 x.kids:=hk9;obtain⟨sa9,sc9,rfl⟩:=Kind.slice hs9;obtain⟨ka9,kc9,rfl⟩:=Kind.slice hk9;have HX:Hid (PP=(0,some x)):=Og.out;have hT:=oG w5 (w.heap.size+1) (.string x.fact.1) (.slice sa9 x.fact.2.length sc9) (.int .i64 x.rule) (.slice ka9 x.kids.length kc9);have HZ:=hide (iV (jd Bf (.string x.fact.1) (.slice sa9 x.fact.2.length sc9) (.int .i64 x.rule) (.slice ka9 x.kids.length kc9))).1;have HBf:=hide (HBx.out (.string x.fact.1) (.slice sa9 x.fact.2.length sc9) (.int .i64 x.rule) (.slice ka9 x.kids.length kc9) w5 hB5);have HVf:Hid (sN 60 (From w.heap.size) (uT w5 (w.heap.size+1) (.string x.fact.1) (.slice sa9 x.fact.2.length sc9) (.int .i64 x.rule) (.slice ka9 x.kids.length kc9)) (.agg #[.string x.fact.1,.slice sa9 x.fact.2.length sc9,.int .i64 x.rule,.slice ka9 x.kids.length kc9]) x):=
      ⟨_,_,rfl,Kind.aX (Kind.aT hs9 hT.size fun k hk (hb:w4.heap.size≤k)=>hT.block k hk (by omega)) fun k _ (hb:w4.heap.size≤k)=>(by show w.heap.size≤k;omega),Kind.aX (Kind.aT hk9 hT.size fun k hk (hb:w4.heap.size≤k)=>hT.block k hk (by omega)) fun k _ (hb:w4.heap.size≤k)=>(by show w.heap.size≤k;omega)⟩
     clear Og Bf hB5 hK5 HPr y0 y1' hT hs9 hk9;go_wp2;obtain⟨z0,z1,z2,z3⟩:=HZ.out;unfold uT at z0 z1 z2 z3;refine bodyPost_ret (v:=.tuple #[.agg #[.string x.fact.1,.slice sa9 x.fact.2.length sc9,.int .i64 x.rule,.slice ka9 x.kids.length kc9],.int .i64 0]) (by simp[results,Tryz.results18,go_sem,z0,z1,z2,z3]) rfl ⟨.agg #[.string x.fact.1,.slice sa9 x.fact.2.length sc9,.int .i64 x.rule,.slice ka9 x.kids.length kc9],?_,?_,HBf.out⟩
     ·rw[HX.out]
     ·rw[HX.out];exact HVf.out
  ·have hne:(WF != 0)=true:=by simpa using h1
   have HX:Hid (PP=(WF,none)):=by show _=_;rw[Ni.out,if_pos h1]
   have HZ:=hide (iV (jd Cj (.string ⟨#[]⟩) (.slice none 0 0) (.int .i64 0) (.slice none 0 0))).1;have HBf:=hide (HBx.out (.string ⟨#[]⟩) (.slice none 0 0) (.int .i64 0) (.slice none 0 0) w3 HB3.out);obtain⟨_,_,⟨t0,t1,t2,t3⟩,_⟩:=iV Cj;clear h1 Ni Cj;go_wp2;obtain⟨z0,z1,z2,z3⟩:=HZ.out;unfold uT at z0 z1 z2 z3;refine bodyPost_ret (v:=.tuple #[kD,.int .i64 WF]) (by simp[results,Tryz.results18,go_sem,z0,z1,z2,z3];rfl) rfl ⟨kD,?_,?_,HBf.out⟩
   ·rw[HX.out]
   ·rw[HX.out];exact rfl
 ·have hne:(FE != 0)=true:=by simpa using h0
  have HX:Hid (PP=(FE,none)):=by show _=_;rw[HPP.out,if_pos h0]
  have HZ:=hide (iV (jd Nh (.string ⟨#[]⟩) (.slice none 0 0) (.int .i64 0) (.slice none 0 0))).1;have HBf:=hide (HBx.out (.string ⟨#[]⟩) (.slice none 0 0) (.int .i64 0) (.slice none 0 0) w2 HB2.out);obtain⟨_,_,⟨t0,t1,t2,t3⟩,_⟩:=iV Nh;clear h0 HPP Nh HS2;go_wp2;obtain⟨z0,z1,z2,z3⟩:=HZ.out;unfold uT at z0 z1 z2 z3;refine bodyPost_ret (v:=.tuple #[kD,.int .i64 FE]) (by simp[results,Tryz.results18,go_sem,z0,z1,z2,z3];rfl) rfl ⟨kD,?_,?_,HBf.out⟩
  ·rw[HX.out]
  ·rw[HX.out];exact rfl
end Go.Proofs.YtafmbokfkbccaaaGreatDoor
namespace Go.Proofs.YtafmbokfkbccaaaGreatDoor
open Go.RowKit Go.Sort Go.Maps
def TW:List aA:=[⟨⟨false,[98],[(true,[88])]⟩,[⟨false,[97],[(true,[88])]⟩]⟩]
def TY:List aj:=[(kb [97],[kb [113]])]
def UF:List aj:=[(kb [97],[kb [113]]),(kb [98],[kb [113]])]
def UG:Bs:=[98,40,88,41,32,58,45,32,97,40,88,41,46]
end Go.Proofs.YtafmbokfkbccaaaGreatDoor
namespace Go.Proofs.YtafmbokfkbccaaaGreatDoor
open Go.RowKit Go.Sort Go.Maps
def f7:aj:=(kb [98],[kb [113]])
def x7:bE:=.mk f7 0 [.mk (kb [97],[kb [113]]) (-1) []]
end Go.Proofs.YtafmbokfkbccaaaGreatDoor
