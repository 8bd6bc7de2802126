/- Texts of this claim, one behind the other. -/
import Derived.Test.YtafmbokfkbccaaaGreatDoorJA40
import Derived.Test.YtafmbokfkbccaaaGreatDoorJA35
import Derived.Test.YtafmbokfkbccaaaGreatDoorJA28
import Derived.Test.YtafmbokfkbccaaaGreatDoorJA23
namespace Go.Proofs.YtafmbokfkbccaaaGreatDoor
open Go.RowKit Go.Sort Go.Maps
def pastP (p:List RuleD) (told:List FactB):List (List FactB):=(runPast p (strataP p).1 (countP (strataP p).1) 0 told).2
theorem steps_all {p:List RuleD} {all:List FactB}:∀{ps:List (List FactB)} {L:List FactB},Steps (Came p all) L ps→GoodS p (lastL L ps)→∀l∈L::ps,GoodS p l
 |[],L,_,hg,l,hl=>by
  simp at hl
  subst hl
  exact hg
 |M::ps,L,hs,hg,l,hl=>by
  rw[lastL_cons] at hg
  rcases List.mem_cons.1 hl with rfl|hl
  ·exact hs.1.1
  ·exact steps_all hs.2 hg l hl
theorem errA_iff {p:List RuleD} {all:List FactB} (h:GoodS p all) (b:List AtomD):errA all b=0↔wrongBody b=0:=by
 show errW b all []=0↔_
 unfold errW
 rw[fault_right h.up h.right h.few]
 have e:(setFault []).1=0:=rfl
 by_cases hb:wrongBody b=0
 ·rw[if_neg (by simpa using hb),if_neg (by simp),e]
  simp[hb]
 ·rw[if_pos hb]
theorem firstBy_len {g:RuleD→Option (List FactB)} {n:Nat}:∀(p:List RuleD) (i:Nat),(∀r∈p,∀of,g r=some of→of.length≤n)→(firstBy g i p).2.length≤n
 |[],i,_=>by simp[firstBy]
 |r::p,i,h=>by
  unfold firstBy
  cases e:g r with
  |none=>exact firstBy_len p (i+1) fun q hq=>h q (by simp[hq])
  |some of=>exact h r (by simp) of e
theorem byP_len {err:List AtomD→Int} {all old:List FactB} {r:RuleD} {f:FactB} {of:List FactB} (h:byP err all old r f=some of):of.length≤r.body.length:=by
 unfold byP at h
 cases hm:meetB r.head f [] with
 |none=>rw[hm] at h;cases h
 |some b=>
  rw[hm] at h
  have:=List.mem_of_find?_eq_some h
  obtain⟨l,_,rfl⟩:=List.mem_map.1 this
  have:=filledL_len (boundB b r.body) l
  unfold boundB at this
  rw[List.length_map] at this
  exact this
theorem ground_of {p:List RuleD} {told:List FactB} (h:followE p told=0):
  RightP p∧GoodS p told∧GoodS p (lastL told (pastP p told))∧allP p told=(0,lastL told (pastP p told))∧HowOk p told (lastL told (pastP p told)) (wayP (errA (lastL told (pastP p told))) p told (lastL told (pastP p told)) (told::pastP p told))∧
  (∀l∈told::pastP p told,Rises l)∧(told::pastP p told).length≤1000000∧(∀f∈lastL told (pastP p told),inB told f=false→1≤oldOf (told::pastP p told) f∧oldOf (told::pastP p told) f<(told::pastP p told).length)∧
  (∀r∈p,r.head.terms.length≤4∧r.body.length≤5∧∀a∈r.body,a.terms.length≤4)∧(∀f∈lastL told (pastP p told),(∀g∈(wayP (errA (lastL told (pastP p told))) p told (lastL told (pastP p told)) (told::pastP p told) f).2,g∈lastL told (pastP p told))∧(wayP (errA (lastL told (pastP p told))) p told (lastL told (pastP p told)) (told::pastP p told) f).2.length≤1000):=by
 have hall:allP p told=(0,lastL told (pastP p told)):=(follow_all p told).2 h
 obtain⟨hp,hl,τ,hτ,hst,hr⟩:=allP_ok hall
 obtain⟨_,_,hgM,_,_⟩:=all_model hall
 have hrun:runPast p (p.map fun r=>τ r.head.name) (countP (p.map fun r=>τ r.head.name)) 0 told=(0,pastP p told):=by
  have h1:=run_past p (p.map fun r=>τ r.head.name) (countP (p.map fun r=>τ r.head.name)) 0 told
  rw[hr] at h1
  refine Prod.ext h1.1.symm ?_
  unfold pastP
  rw[hst]
 have hsteps:=run_came hp hτ _ 0 hl hrun
 have hways:∀r∈p,metGo (fun _=>lastL told (pastP p told)) 0 r.body [[]]≠none:=fun r hr'=>run_ways hp hτ _ 0 hl hrun r hr' (Nat.zero_le _) (by rw[Nat.zero_add];exact lt_countP (List.mem_map.2 ⟨r,hr',rfl⟩))
 have hhow:=how_ok hp (err:=errA (lastL told (pastP p told))) (errA_iff hgM) hsteps hways
 have hsh:∀r∈p,r.head.terms.length≤4∧r.body.length≤5∧∀a∈r.body,a.terms.length≤4:=fun r hr'=>by
  have hR:=hp.rules r hr'
  obtain⟨b1,b2⟩:=wrongBody_zero hR.body
  exact⟨(wrongAtom_zero hR.head).2.1,b1,fun a ha=>(wrongAtom_zero (b2 a ha)).2.1⟩
 refine⟨hp,hl,hgM,hall,hhow,fun l hl'=>(steps_all hsteps hgM l hl').up,?_,fun f hf hn=> ?_,hsh,fun f hf=>⟨?_,?_⟩⟩
 ·have h1:=run_len (p:=p) (ss:=p.map fun r=>τ r.head.name) (countP (p.map fun r=>τ r.head.name)) 0 told
  rw[hrun] at h1
  have h2:countP (p.map fun r=>τ r.head.name)≤16:=by
   rw[←hst]
   obtain⟨ss,ex,ea,hse⟩:∃ss ex ea,strataP p=(ss,ex,ea):=⟨_,_,_,rfl⟩
   have hx:ex=0:=by
    refine Classical.byContradiction fun hne=> ?_
    unfold followE at h
    rw[hse] at h
    dsimp only at h
    rw[if_pos hne] at h
    exact hne h
   subst hx
   rw[hse]
   obtain⟨_,m,hms,_,hlm,hsm⟩:=strataP_ok hse
   refine countP_le fun s hs=> ?_
   rw[hms] at hs
   obtain⟨r,hr',rfl⟩:=List.mem_map.1 hs
   have:=lev_small hlm hsm r hr'
   have:=hp.few
   omega
  have h3:=Nat.mul_le_mul_right 201 h2
  dsimp only at h1
  simp only[List.length_cons]
  omega
 ·have hn':f∉told:=fun hc=>by rw[inB_iff.2 hc] at hn;cases hn
  obtain⟨_,_,_,_,_,_,h5,h6⟩:=came_at hsteps hf hn'
  exact⟨h5,h6⟩
 ·rcases hhow.ok f hf with⟨_,e⟩|⟨i,r,of,_,e,_,hk⟩
  ·rw[e];intro k hk;cases hk
  ·rw[e];exact hk
 ·unfold wayP
  split
  ·simp
  ·refine firstBy_len p 0 fun r hr' of hof=> ?_
   have:=byP_len hof
   have:=(hsh r hr').2.1
   omega
theorem proveAll (w0 wF:World) (P lo mb:Nat) (p:List RuleD) (told all:List FactB) (PS:List (List FactB)) (pv tv av sv:Value) (xs:List Value) (hG:Gq w0 wF P lo mb p told all PS pv tv av sv xs):∀N,ProveS all P mb pv tv av sv wF (wayP (errA all) p told all PS) (N+1)
 |0=>prove_step w0 wF P lo mb p told all PS pv tv av sv xs hG 0 (fun h=>absurd h (by omega))
 |N+1=>prove_step w0 wF P lo mb p told all PS pv tv av sv xs hG (N+1) fun _=>proveAll w0 wF P lo mb p told all PS pv tv av sv xs hG N
end Go.Proofs.YtafmbokfkbccaaaGreatDoor
namespace Go.Proofs.YtafmbokfkbccaaaGreatDoor
open Go.RowKit Go.Sort Go.Maps
def proveP (p:List RuleD) (told:List FactB) (f:FactB):Int×Option PrfD:=
 if followE p told≠0 then(followE p told,none) else if wrongF f≠0 then(wrongF f,none) else if inB (lastL told (pastP p told)) f=false then(6,none)
 else match(proveGo (wayP (errA (lastL told (pastP p told))) p told (lastL told (pastP p told)) (told::pastP p told)) 61 f 1 (0,0)).1 with
  |none=>(4,none)
  |some x=>(0,some x)
def OptV (lo:Nat) (w:World) (v:Value):Option PrfD→Prop
 |none=>v=zeroP
 |some x=>PrfV 60 (From lo) w v x
set_option maxRecDepth 100000 in
set_option maxHeartbeats 8000000 in
theorem proveC (p:List RuleD) (told:List FactB) (f:FactB) (pv tv fv:Value) (w:World) (hpv:ruleK.sl Anyw w pv p) (ht:Facts w tv told) (hf:FactV w fv f):
  Calls Tryz.prog 18 #[pv,tv,fv] w fun e w'=>∃v,e=.returned (.tuple #[v,.int .i64 (proveP p told f).1])∧OptV w.heap.size w' v (proveP p told f).2∧Below w.heap.size w w':=by
 obtain⟨s,rfl,hs⟩:=hf
 obtain⟨sa,sc,rfl⟩:=sliceStr hs
 obtain⟨pa,pc,rfl⟩:=Kind.slice hpv
 obtain⟨ta,tc,rfl⟩:=sliceFacts ht
 obtain⟨w1,hw1⟩:∃w1,w1=(((w.alloc (.cells #[.string f.1,.slice sa f.2.length sc] 27)).alloc (.cells #[.string ⟨#[]⟩,.slice none 0 0,.int .i64 0,.slice none 0 0] 30)).alloc (.map #[] 0)).alloc (.cells #[.slice pa p.length pc,.slice ta told.length tc,.slice none 0 0,.int .i64 0,.int .i64 0,.slice none 0 0,.map (some (w.heap.size+2))] 115):=⟨_,rfl⟩
 have hL1:Later w w1:=by rw[hw1];exact((((Later.refl w).alloc _).alloc _).alloc _).alloc _
 have hs1:w1.heap.size=w.heap.size+4:=by rw[hw1];simp
 have hr0:w1.heap[w.heap.size]?=some (.cells #[.string f.1,.slice sa f.2.length sc] 27 (0,0)):=by
  rw[hw1];simp only[heap_at,World.size_alloc]
  repeat (first|rw[if_pos trivial]|rw[if_pos (by omega)]|rw[if_neg (by omega)])
 have hr1:w1.heap[w.heap.size+1]?=some (.cells #[.string ⟨#[]⟩,.slice none 0 0,.int .i64 0,.slice none 0 0] 30 (0,0)):=by
  rw[hw1];simp only[heap_at,World.size_alloc]
  repeat (first|rw[if_pos trivial]|rw[if_pos (by omega)]|rw[if_neg (by omega)])
 have hr2:w1.heap[w.heap.size+2]?=some (.map #[] 0):=by
  rw[hw1];simp only[heap_at,World.size_alloc]
  repeat (first|rw[if_pos trivial]|rw[if_pos (by omega)]|rw[if_neg (by omega)])
 have hr3:w1.heap[w.heap.size+3]?=some (.cells #[.slice pa p.length pc,.slice ta told.length tc,.slice none 0 0,.int .i64 0,.int .i64 0,.slice none 0 0,.map (some (w.heap.size+2))] 115 (0,0)):=by
  rw[hw1];simp only[heap_at,World.size_alloc]
  repeat (first|rw[if_pos trivial]|rw[if_pos (by omega)]|rw[if_neg (by omega)])
 have HFo:=hide (followC p told (w.heap.size+3) (w.heap.size+2) (.slice pa p.length pc) (.slice ta told.length tc) w w1 ⟨hr3⟩ hL1.below (by omega) hpv ht)
 obtain⟨PP,hPP⟩:∃PP,PP=proveP p told f:=⟨_,rfl⟩
 rw[←hPP]
 unfold proveP at hPP
 have HPP:=hide hPP
 have HW1:=hide hw1
 have HL1:=hide hL1
 have HR0:=hide hr0
 have HR1:=hide hr1
 have HR2:=hide hr2
 have HR3:=hide hr3
 have HPv:=hide hpv
 have HTv:=hide ht
 have HSt:=hide hs
 have hsz1:w.heap.size+4≤w1.heap.size:=by omega
 have HS1:=hide hs1
 have HBx:Hid (∀(x0 x1 x2 x3:Value) (wr:World),Below w.heap.size w wr→Below w.heap.size w (put4 wr (w.heap.size+1) x0 x1 x2 x3)):=fun x0 x1 x2 x3 wr h=>
  below_trans h ((put4_tn wr (w.heap.size+1) x0 x1 x2 x3).below (n:=w.heap.size) (by omega) h.size) (Nat.le_refl _)
 clear hw1 hPP hL1 hr0 hr1 hr2 hr3 hpv ht hs hs1
 obtain⟨fn,fargs⟩:=f
 dsimp only at*
 have hmm:= @run_makeMap Tryz.prog
 go_enter Tryz.func18,Tryz.ntmps18
 go_wp2_with (first|(rw[←HW1.out])|fail)
 clear hmm
 refine HFo.out.mono ?_
 rintro e w2 ⟨rfl,hS2,hK2⟩
 have hsz2:=hK2.size
 have hBw2:Below w.heap.size w w2:=below_trans HL1.out.below (hK2.below (n:=w1.heap.size-1) (by have:=HS1.out;omega) (by have:=HS1.out;omega)) (by omega)
 have hr02:=(hK2.block w.heap.size (by omega) (by omega)).trans HR0.out
 have hr12:=(hK2.block (w.heap.size+1) (by omega) (by omega)).trans HR1.out
 have hr22:=(hK2.block (w.heap.size+2) (by omega) (by omega)).trans HR2.out
 have HR02:=hide hr02
 have HR12:=hide hr12
 have HR22:=hide hr22
 have HB2:=hide hBw2
 have HK2:=hide hK2
 have HS2:=hide hS2
 obtain⟨FE,hFE⟩:∃FE,FE=followE p told:=⟨_,rfl⟩
 rw[←hFE]
 rw[←hFE] at HPP HS2
 have HFE:=hide hFE
 clear hFE hr02 hr22 hBw2 hK2 hS2 HFo
 by_cases h0:FE=0
 ·subst h0
  obtain⟨g1,g2,g3,g4,g5,g6,g7,g8,g9,g10⟩:=ground_of HFE.out.symm
  obtain⟨av,sv,xs,k1,k2,k3,k4,k5⟩:=(HS2.out rfl).has
  rw[show(runPast p (strataP p).1 (countP (strataP p).1) 0 told).2=pastP p told from rfl] at k3 k4 k5
  obtain⟨PS,hPS⟩:∃PS,PS=told::pastP p told:=⟨_,rfl⟩
  obtain⟨all,hal⟩:∃all,all=lastL told (pastP p told):=⟨_,rfl⟩
  have hPP2:=HPP.out
  rw[if_neg (by simp)] at hPP2
  rw[←hPS,←hal] at g5 g8 g10 hPP2
  rw[←hal] at g3 k3
  rw[←hPS] at g6 g7 k4 k5
  have HPP2:=hide hPP2
  have hFV2:FactV w2 (.agg #[.string fn,.slice sa fargs.length sc]) (fn,fargs):=⟨_,rfl,HSt.out.below HB2.out⟩
  have HWr:=hide (wrong (.agg #[.string fn,.slice sa fargs.length sc]) (fn,fargs) w2 hFV2)
  obtain⟨q0,q1,_,_,_⟩:=row2 HR02.out
  have q1':w2.cell? ⟨w.heap.size,0+1,none⟩=some (.slice sa fargs.length sc):=q1
  obtain⟨WF,hWF⟩:∃WF,WF=wrongF (fn,fargs):=⟨_,rfl⟩
  rw[←hWF] at HWr HPP2
  have HK1:=hide k1
  have HK2':=hide k2
  have HK3:=hide k3
  have HK4:=hide k4
  have HK5:=hide k5
  have hav:∃a n c,av=.slice a n c:=by obtain⟨a,c,e⟩:=sliceFacts k3;exact⟨a,_,c,e⟩
  obtain⟨aa,an,ac,rfl⟩:=hav
  have HGr:Hid (Grd w (w.heap.size+3) p told all PS (.slice pa p.length pc) (.slice ta told.length tc)):=⟨by omega,HPv.out,HTv.out,g2.up,g3.up,g6,g7,g8,g9,g1.few,g3.few⟩
  have HCl:Hid (∀f∈all,(∀g∈(wayP (errA all) p told all PS f).2,g∈all)∧(wayP (errA all) p told all PS f).2.length≤1000):=g10
  have HAg:Hid (∀f∈all,f.2.length≤1000):=fun f hf=>by have:=(g3.right f hf).2.1;omega
  have hup:=g3.up
  have HUp:=hide hup
  have p2:=k1.cells.2.2.1
  clear g1 g2 g3 g4 g5 g6 g7 g8 g9 g10 k1 k2 k3 k4 k5 hPP2 HPP HS2 hWF hPS hal hFV2 q1 hup HFE p2
  go_wp2_with fail
  refine HWr.out.mono ?_
  rintro e w3 ⟨rfl,hL3⟩
  have hB3:=below_trans HB2.out hL3.below HB2.out.size
  have hsz3:=hL3.size
  have hr13:=(hL3.block (by omega:w.heap.size+1<w2.heap.size)).trans HR12.out
  have HL3:=hide hL3
  have HB3:=hide hB3
  have HR13:=hide hr13
  clear HWr q0 q1' hL3 hB3 hr12
  by_cases h1:WF=0
  ·subst h1
   have hPP3:=HPP2.out
   rw[if_neg (by simp)] at hPP3
   have HPP3:=hide hPP3
   have hr03:=(HL3.out.block (by omega:w.heap.size<w2.heap.size)).trans HR02.out
   obtain⟨q0,q1,_,_,_⟩:=row2 hr03
   have q1':w3.cell? ⟨w.heap.size,0+1,none⟩=some (.slice sa fargs.length sc):=q1
   have hk13:=HK1.out.below HL3.out.below
   have p2:=hk13.cells.2.2.1
   have hin:=inC (.slice aa an ac) (.agg #[.string fn,.slice sa fargs.length sc]) all (fn,fargs) w3 (HK3.out.later HL3.out) ⟨_,rfl,HSt.out.below HB3.out⟩ HUp.out
   rw[in_eq] at hin
   have HIn:=hide hin
   clear hPP3 HPP2 hr03 q1 hk13 hin hr13
   go_wp2_with fail
   refine HIn.out.mono ?_
   rintro e w4 ⟨rfl,hL4⟩
   have hB4:=below_trans HB3.out hL4.below HB3.out.size
   have hsz4:=hL4.size
   have hr14:=(hL4.block (by omega:w.heap.size+1<w3.heap.size)).trans HR13.out
   cases hib:inB all (fn,fargs) with
   |false=>
    have HX:Hid (PP=(6,none)):=by show _=_;rw[HPP3.out,if_pos hib]
    have HZ:=hide (rowP4 (put4_row hr14 (.string ⟨#[]⟩) (.slice none 0 0) (.int .i64 0) (.slice none 0 0))).1
    have HBf:=hide (HBx.out (.string ⟨#[]⟩) (.slice none 0 0) (.int .i64 0) (.slice none 0 0) w4 hB4)
    obtain⟨_,_,⟨t0,t1,t2,t3⟩,_⟩:=rowP4 hr14
    clear HPP3 hr14 hib HIn q0 q1' p2 hL4 hB4
    go_wp2
    obtain⟨z0,z1,z2,z3⟩:=HZ.out
    unfold put4 at z0 z1 z2 z3
    refine bodyPost_ret (v:=.tuple #[zeroP,.int .i64 6]) (by simp[results,Tryz.results18,go_sem,z0,z1,z2,z3];rfl) rfl ⟨zeroP,?_,?_,HBf.out⟩
    ·rw[HX.out]
    ·rw[HX.out];exact rfl
   |true=>
    have hPP4:=HPP3.out
    rw[if_neg (by rw[hib];simp)] at hPP4
    have hL24:=HL3.out.trans hL4
    have hk14:=HK1.out.below hL24.below
    have hr24:w4.heap[w.heap.size+2]?=some (.map #[] 0):=(hL24.block (by omega)).trans HR22.out
    have hGp:Gp w4 (w.heap.size+3) w1.heap.size (w.heap.size+2) (.slice aa an ac) sv xs all PS:=by
     refine⟨?_,HK3.out.later hL24,HK4.out,fun i u l hu hl=>(HK5.out i u l hu hl).later hL24,hk14.noText ⟨_,_,_,rfl⟩ ⟨_,_,_,rfl⟩ ⟨_,_,_,rfl⟩ HK2'.out.isSl,⟨_,_,hr24⟩,by omega,by omega,by omega,by omega⟩
     rcases HK2'.out with e|h
     ·exact Or.inl e
     ·exact Or.inr (h.block fun i hi _=>hL24.block hi)
    have hGq:Gq w w4 (w.heap.size+3) w1.heap.size (w.heap.size+2) p told all PS (.slice pa p.length pc) (.slice ta told.length tc) (.slice aa an ac) sv xs:=⟨hGp,HGr.out,by omega,hB4,HCl.out,HAg.out,⟨_,_,_,rfl⟩,⟨_,_,_,rfl⟩⟩
    have hPv:PvS (fun k=>k≠w.heap.size+2∧k≠w.heap.size+3) w4 w4 (w.heap.size+3) (w.heap.size+2) (.slice pa p.length pc) (.slice ta told.length tc) (.slice aa an ac) sv ((0:Nat):Int) ((0:Nat):Int) 0 all (wayP (errA all) p told all PS):=by
     refine⟨hk14,Kq.refl _ _ _,⟨.map [],?_,fun k h=>by simp[Maps.has] at h⟩⟩
     have hw:((w.alloc (.cells #[] 0)).alloc (.cells #[] 0)).heap.size=w.heap.size+2:=by simp
     have hmd:=World.ownsMap_made (P:=Tryz.prog) ((w.alloc (.cells #[] 0)).alloc (.cells #[] 0)) 3 wayElem
     rw[hw] at hmd
     refine owns_block hmd ?_
     rw[hr24]
     have:=heap_alloc_new ((w.alloc (.cells #[] 0)).alloc (.cells #[] 0)) (.map #[] 0)
     rw[hw] at this
     exact this.symm
    have hPr:=proveAll w w4 (w.heap.size+3) w1.heap.size (w.heap.size+2) p told all PS _ _ _ sv xs hGq 60 (fun k=>k≠w.heap.size+2∧k≠w.heap.size+3) (fn,fargs) (.agg #[.string fn,.slice sa fargs.length sc]) 1 0 0 0 w4 rfl (fun k h=>h) (fun k hk=>⟨by omega,by omega⟩) hPv (Nat.le_refl _) (by omega) (by omega) (inB_iff.1 hib) ⟨_,rfl,HSt.out.below hB4⟩
    rw[show(((1:Nat):Int))=1 from rfl] at hPr
    obtain⟨PX,hPX⟩:∃PX,PX=proveGo (wayP (errA all) p told all PS) (60+1) (fn,fargs) 1 (0,0):=⟨_,rfl⟩
    rw[←hPX] at hPr
    rw[show(61:Nat)=60+1 from rfl,←hPX] at hPP4
    have HPr:=hide hPr
    have HPP4:=hide hPP4
    have hr04:=(hL24.block (by omega:w.heap.size<w2.heap.size)).trans HR02.out
    obtain⟨y0,y1,_,_,_⟩:=row2 hr04
    have y1':w4.cell? ⟨w.heap.size,0+1,none⟩=some (.slice sa fargs.length sc):=y1
    have HB4:=hide hB4
    have HR14:=hide hr14
    clear hPP4 HPP3 hk14 hr24 hGp hGq hPv hPr hPX hib HIn q0 q1' p2 hL4 hB4 hL24 hr04 y1 hr14
    go_wp2_with fail
    refine HPr.out.mono ?_
    rintro e w5 ⟨v5,er5,n5,rfl,hV5,_,_,hK5⟩
    have hsz5:=hK5.size
    have hB5:Below w.heap.size w w5:=below_trans HB4.out (hK5.below (n:=w.heap.size) (by omega) (by omega) (by omega)) (Nat.le_refl _)
    have hr15:=(hK5.block (w.heap.size+1) (by omega) (by omega) (by omega)).trans HR14.out
    obtain⟨PX1,PX2⟩:=PX
    dsimp only at hV5
    obtain⟨_,_,⟨t0,t1,t2,t3⟩,_⟩:=rowP4 hr15
    cases PX1 with
    |none=>
     obtain⟨rfl,rfl⟩:=hV5
     have HX:Hid (PP=(4,none)):=HPP4.out
     have HZ:=hide (rowP4 (put4_row hr15 (.string ⟨#[]⟩) (.slice none 0 0) (.int .i64 0) (.slice none 0 0))).1
     have HBf:=hide (HBx.out (.string ⟨#[]⟩) (.slice none 0 0) (.int .i64 0) (.slice none 0 0) w5 hB5)
     rw[show zeroP=.agg #[.string ⟨#[]⟩,.slice none 0 0,.int .i64 0,.slice none 0 0] from rfl]
     clear HPP4 hr15 hB5 hK5 HPr y0 y1'
     go_wp2
     obtain⟨z0,z1,z2,z3⟩:=HZ.out
     unfold put4 at z0 z1 z2 z3
     refine bodyPost_ret (v:=.tuple #[zeroP,.int .i64 4]) (by simp[results,Tryz.results18,go_sem,z0,z1,z2,z3];rfl) rfl ⟨zeroP,?_,?_,HBf.out⟩
     ·rw[HX.out]
     ·rw[HX.out];exact rfl
    |some x=>
     obtain⟨rfl,s9,k9,rfl,hs9,hk9⟩:=hV5
     have hk9:(prfK 60).sl (From w4.heap.size) w5 k9 x.kids:=hk9
     obtain⟨sa9,sc9,rfl⟩:=Kind.slice hs9
     obtain⟨ka9,kc9,rfl⟩:=Kind.slice hk9
     have HX:Hid (PP=(0,some x)):=HPP4.out
     have hT:=put4_tn w5 (w.heap.size+1) (.string x.fact.1) (.slice sa9 x.fact.2.length sc9) (.int .i64 x.rule) (.slice ka9 x.kids.length kc9)
     have HZ:=hide (rowP4 (put4_row hr15 (.string x.fact.1) (.slice sa9 x.fact.2.length sc9) (.int .i64 x.rule) (.slice ka9 x.kids.length kc9))).1
     have HBf:=hide (HBx.out (.string x.fact.1) (.slice sa9 x.fact.2.length sc9) (.int .i64 x.rule) (.slice ka9 x.kids.length kc9) w5 hB5)
     have HVf:Hid (PrfV 60 (From w.heap.size) (put4 w5 (w.heap.size+1) (.string x.fact.1) (.slice sa9 x.fact.2.length sc9) (.int .i64 x.rule) (.slice ka9 x.kids.length kc9)) (.agg #[.string x.fact.1,.slice sa9 x.fact.2.length sc9,.int .i64 x.rule,.slice ka9 x.kids.length kc9]) x):=
      ⟨_,_,rfl,Kind.sl_mono (Kind.sl_kept hs9 hT.size fun k hk (hb:w4.heap.size≤k)=>hT.block k hk (by omega)) fun k _ (hb:w4.heap.size≤k)=>(by show w.heap.size≤k;omega),Kind.sl_mono (Kind.sl_kept hk9 hT.size fun k hk (hb:w4.heap.size≤k)=>hT.block k hk (by omega)) fun k _ (hb:w4.heap.size≤k)=>(by show w.heap.size≤k;omega)⟩
     clear HPP4 hr15 hB5 hK5 HPr y0 y1' hT hs9 hk9
     go_wp2
     obtain⟨z0,z1,z2,z3⟩:=HZ.out
     unfold put4 at z0 z1 z2 z3
     refine bodyPost_ret (v:=.tuple #[.agg #[.string x.fact.1,.slice sa9 x.fact.2.length sc9,.int .i64 x.rule,.slice ka9 x.kids.length kc9],.int .i64 0]) (by simp[results,Tryz.results18,go_sem,z0,z1,z2,z3]) rfl ⟨.agg #[.string x.fact.1,.slice sa9 x.fact.2.length sc9,.int .i64 x.rule,.slice ka9 x.kids.length kc9],?_,?_,HBf.out⟩
     ·rw[HX.out]
     ·rw[HX.out];exact HVf.out
  ·have hne:(WF != 0)=true:=by simpa using h1
   have HX:Hid (PP=(WF,none)):=by show _=_;rw[HPP2.out,if_pos h1]
   have HZ:=hide (rowP4 (put4_row hr13 (.string ⟨#[]⟩) (.slice none 0 0) (.int .i64 0) (.slice none 0 0))).1
   have HBf:=hide (HBx.out (.string ⟨#[]⟩) (.slice none 0 0) (.int .i64 0) (.slice none 0 0) w3 HB3.out)
   obtain⟨_,_,⟨t0,t1,t2,t3⟩,_⟩:=rowP4 hr13
   clear h1 HPP2 hr13
   go_wp2
   obtain⟨z0,z1,z2,z3⟩:=HZ.out
   unfold put4 at z0 z1 z2 z3
   refine bodyPost_ret (v:=.tuple #[zeroP,.int .i64 WF]) (by simp[results,Tryz.results18,go_sem,z0,z1,z2,z3];rfl) rfl ⟨zeroP,?_,?_,HBf.out⟩
   ·rw[HX.out]
   ·rw[HX.out];exact rfl
 ·have hne:(FE != 0)=true:=by simpa using h0
  have HX:Hid (PP=(FE,none)):=by show _=_;rw[HPP.out,if_pos h0]
  have HZ:=hide (rowP4 (put4_row hr12 (.string ⟨#[]⟩) (.slice none 0 0) (.int .i64 0) (.slice none 0 0))).1
  have HBf:=hide (HBx.out (.string ⟨#[]⟩) (.slice none 0 0) (.int .i64 0) (.slice none 0 0) w2 HB2.out)
  obtain⟨_,_,⟨t0,t1,t2,t3⟩,_⟩:=rowP4 hr12
  clear h0 HPP hr12 HS2
  go_wp2
  obtain⟨z0,z1,z2,z3⟩:=HZ.out
  unfold put4 at z0 z1 z2 z3
  refine bodyPost_ret (v:=.tuple #[zeroP,.int .i64 FE]) (by simp[results,Tryz.results18,go_sem,z0,z1,z2,z3];rfl) rfl ⟨zeroP,?_,?_,HBf.out⟩
  ·rw[HX.out]
  ·rw[HX.out];exact rfl
end Go.Proofs.YtafmbokfkbccaaaGreatDoor
namespace Go.Proofs.YtafmbokfkbccaaaGreatDoor
open Go.RowKit Go.Sort
theorem proveP_some {p:List RuleD} {t:List FactB} {f:FactB}:((proveP p t f).2=none→(proveP p t f).1≠0)∧(∀x,(proveP p t f).2=some x→(proveP p t f).1=0):=by
 unfold proveP
 split
 ·exact⟨fun _=> ‹_›,fun x h=>by simp at h⟩
 ·split
  ·exact⟨fun _=> ‹_›,fun x h=>by simp at h⟩
  ·split
   ·exact⟨fun _=>by simp,fun x h=>by simp at h⟩
   ·split
    ·exact⟨fun _=>by simp,fun x h=>by simp at h⟩
    ·exact⟨fun h=>by simp at h,fun x _=>rfl⟩
def OptW (lo X:Nat) (w:World) (v:Value):Option PrfD→Prop
 |none=>True
 |some x=>PrfV 60 (fun k=>lo≤k∧k≠X) w v x
theorem OptV.four {lo:Nat} {w:World} {v:Value} {o:Option PrfD} (h:OptV lo w v o):∃pn pa pl pc pr qa ql qc,v=.agg #[.string pn,.slice pa pl pc,.int .i64 pr,.slice qa ql qc]:=by
 cases o with
 |none=>exact⟨_,_,_,_,_,_,_,_,h⟩
 |some x=>
  obtain⟨s,kv,rfl,h1,h2⟩:=h
  obtain⟨a,c,rfl⟩:=Kind.slice h1
  obtain⟨a',c',rfl⟩:=Kind.slice h2
  exact⟨_,_,_,_,_,_,_,_,rfl⟩
set_option maxRecDepth 100000 in
set_option maxHeartbeats 4000000 in
theorem proveDC (p:Nat) (B:Nat→Prop) (d:DeskD) (f:FactB) (fv tv rv kv nv sv:Value) (w:World) (hD:DeskW p B w d tv rv kv nv sv) (hB:¬B p) (hf:FactV w fv f):
  Calls Tryz.prog 138 #[.pointer (some ⟨p,0,none⟩),fv] w fun e w'=>∃v,e=.returned v∧DoneV p B w w' v (d,proveD proveP d f):=by
 have hp:=hD.lt
 obtain⟨fs,rfl,hfs⟩:=hf
 obtain⟨fa,fc,rfl⟩:=sliceStr hfs
 obtain⟨w1,hw1⟩:∃w1,w1=w.alloc (.cells #[.string f.1,.slice fa f.2.length fc] 27):=⟨_,rfl⟩
 obtain⟨w2,hw2⟩:∃w2,w2=w1.alloc (.cells #[.int .i64 0,.int .i64 0,.int .i64 0,.slice none 0 0,.string ⟨#[]⟩,.slice none 0 0,.int .i64 0,.slice none 0 0] 64):=⟨_,rfl⟩
 have hz1:w1.heap.size=w.heap.size+1:=by rw[hw1];simp
 have hz2:w2.heap.size=w.heap.size+2:=by rw[hw2];simp;omega
 have hL1:Later w w1:=by rw[hw1];exact(Later.refl w).alloc _
 have hL12:Later w1 w2:=by rw[hw2];exact(Later.refl w1).alloc _
 have hL2:Later w w2:=hL1.trans hL12
 have hr2:w2.heap[w.heap.size+1]?=some (.cells #[.int .i64 0,.int .i64 0,.int .i64 0,.slice none 0 0,.string ⟨#[]⟩,.slice none 0 0,.int .i64 0,.slice none 0 0] 64 (0,0)):=by rw[hw2,←hz1];exact zrow w1
 have hb2:w2.heap[w.heap.size]?=some (.cells #[.string f.1,.slice fa f.2.length fc] 27 (0,0)):=(hL12.block (by omega)).trans (by rw[hw1];exact heap_alloc_new w _)
 have hD2:=hD.below hL2.below
 have hf2:FactV w2 (.agg #[.string f.1,.slice fa f.2.length fc]) f:=⟨_,rfl,hfs.later hL2⟩
 obtain⟨⟨ta,tc,rfl⟩,⟨ra,rc,rfl⟩,⟨xka,xkc,rfl⟩,⟨xna,xnc,rfl⟩,⟨xsa,xsc,rfl⟩⟩:=hD.slices
 have HC:Hid (∀w',Later w2 w'→Calls Tryz.prog 18 #[.slice ra d.rules.length rc,.slice ta d.told.length tc,.agg #[.string f.1,.slice fa f.2.length fc]] w' fun e w''=>∃v,e=.returned (.tuple #[v,.int .i64 (proveP d.rules d.told f).1])∧OptV w'.heap.size w'' v (proveP d.rules d.told f).2∧Below w'.heap.size w' w''):=fun w' h=>
  proveC d.rules d.told f _ _ _ w' (Kind.sl_later (Kind.sl_any hD2.rules) h) (hD2.told.facts.later h) (hf2.later h)
 have HPn:Hid ((proveP d.rules d.told f).2=none→proveD proveP d f=ansE (proveP d.rules d.told f).1):=fun h=>by unfold proveD;rw[h]
 have HPs:Hid (∀x,(proveP d.rules d.told f).2=some x→proveD proveP d f=⟨0,0,0,[],x⟩):=fun x h=>by unfold proveD;rw[h]
 have HPe:Hid ((proveP d.rules d.told f).2=none→(proveP d.rules d.told f).1≠0):=proveP_some.1
 have HPz:Hid (∀x,(proveP d.rules d.told f).2=some x→(proveP d.rules d.told f).1=0):=proveP_some.2
 have HSp:Hid (∀w':World,(w'.heap[p]?=w2.heap[p]?∧w'.heap[w.heap.size]?=w2.heap[w.heap.size]?)→(w'.heap[p]?=some (.cells #[.slice ta d.told.length tc,.slice ra d.rules.length rc,.bool d.running,.slice xka d.run.known.length xkc,.slice xna d.run.fresh.length xnc,.int .i64 d.run.level,.int .i64 d.run.rounds,.bool d.run.done,.slice xsa d.saved.length xsc] 140 (0,0))∧w'.heap[w.heap.size]?=some (.cells #[.string f.1,.slice fa f.2.length fc] 27 (0,0)))):=fun w' h=>⟨h.1.trans hD2.row,h.2.trans hb2⟩
 have HW1:=hide hw1
 have HW2:=hide hw2
 have HL2:=hide hL2
 have HR:=hide hr2
 have HD:=hide hD
 have HB:=hide hB
 clear hw1 hw2 hL1 hL12 hL2 hr2 hb2 hD hB hD2 hf2 hfs
 obtain⟨er,ox,hpp⟩:∃er ox,proveP d.rules d.told f=(er,ox):=⟨_,_,rfl⟩
 rw[hpp] at HC HPn HPs HPe HPz
 clear hpp
 dsimp only at HC HPn HPs HPe HPz
 go_enter Tryz.func138,Tryz.ntmps138
 go_wp2_with (first|(rw[←HW1.out])|(rw[←HW2.out])|fail)
 clear HW1 HW2
 refine wp_region_held_drew (S:=fun w'=>w'.heap[p]?=w2.heap[p]?∧w'.heap[w.heap.size]?=w2.heap[w.heap.size]?) (by kernel_rfl) ⟨rfl,rfl⟩ (fun hHeld=> ?_)
 refine take_yes (i:=0) (d:=some 8) (v:= ?_) rfl rfl hHeld ?_ ?_;rotate_left;focus intro w hSw;(try dsimp only at hSw);obtain⟨s1,s2⟩:=HSp.out _ hSw;obtain⟨⟨c0,c1,c2,c3,c4,c5,c6,c7,c8⟩,_,_⟩:=row9 s1;obtain⟨b0,b1,_,_,_⟩:=row2 s2;have b1':w.cell? ⟨_,0+1,none⟩=some (.slice fa f.2.length fc):=b1;go_simp;try with_reducible rfl
 simp only[aput,aset,aze,asu]
 refine take_yes (i:=1) (d:=some 9) (v:= ?_) rfl rfl hHeld ?_ ?_;rotate_left;focus intro w hSw;(try dsimp only at hSw);obtain⟨s1,s2⟩:=HSp.out _ hSw;obtain⟨⟨c0,c1,c2,c3,c4,c5,c6,c7,c8⟩,_,_⟩:=row9 s1;obtain⟨b0,b1,_,_,_⟩:=row2 s2;have b1':w.cell? ⟨_,0+1,none⟩=some (.slice fa f.2.length fc):=b1;go_simp;try with_reducible rfl
 simp only[aput,aset,aze,asu]
 refine take_yes (i:=2) (d:=some 10) (v:= ?_) rfl rfl hHeld ?_ ?_;rotate_left;focus intro w hSw;(try dsimp only at hSw);obtain⟨s1,s2⟩:=HSp.out _ hSw;obtain⟨⟨c0,c1,c2,c3,c4,c5,c6,c7,c8⟩,_,_⟩:=row9 s1;obtain⟨b0,b1,_,_,_⟩:=row2 s2;have b1':w.cell? ⟨_,0+1,none⟩=some (.slice fa f.2.length fc):=b1;go_simp;try with_reducible rfl
 simp only[aput,aset,aze,asu]
 refine take_yes (i:=3) (d:=some 11) (v:= ?_) rfl rfl hHeld ?_ ?_;rotate_left;focus intro w hSw;(try dsimp only at hSw);obtain⟨s1,s2⟩:=HSp.out _ hSw;obtain⟨⟨c0,c1,c2,c3,c4,c5,c6,c7,c8⟩,_,_⟩:=row9 s1;obtain⟨b0,b1,_,_,_⟩:=row2 s2;have b1':w.cell? ⟨_,0+1,none⟩=some (.slice fa f.2.length fc):=b1;go_simp;try with_reducible rfl
 simp only[aput,aset,aze,asu]
 refine take_yes (i:=4) (d:=some 12) (v:= ?_) rfl rfl hHeld ?_ ?_;rotate_left;focus intro w hSw;(try dsimp only at hSw);obtain⟨s1,s2⟩:=HSp.out _ hSw;obtain⟨⟨c0,c1,c2,c3,c4,c5,c6,c7,c8⟩,_,_⟩:=row9 s1;obtain⟨b0,b1,_,_,_⟩:=row2 s2;have b1':w.cell? ⟨_,0+1,none⟩=some (.slice fa f.2.length fc):=b1;go_simp;try with_reducible rfl
 simp only[aput,aset,aze,asu]
 refine take_yes (i:=5) (d:=some 13) (v:= ?_) rfl rfl hHeld ?_ ?_;rotate_left;focus intro w hSw;(try dsimp only at hSw);obtain⟨s1,s2⟩:=HSp.out _ hSw;obtain⟨⟨c0,c1,c2,c3,c4,c5,c6,c7,c8⟩,_,_⟩:=row9 s1;obtain⟨b0,b1,_,_,_⟩:=row2 s2;have b1':w.cell? ⟨_,0+1,none⟩=some (.slice fa f.2.length fc):=b1;go_simp;try with_reducible rfl
 simp only[aput,aset,aze,asu]
 refine take_yes (i:=6) (d:=some 14) (v:= ?_) rfl rfl hHeld ?_ ?_;rotate_left;focus intro w hSw;(try dsimp only at hSw);obtain⟨s1,s2⟩:=HSp.out _ hSw;obtain⟨⟨c0,c1,c2,c3,c4,c5,c6,c7,c8⟩,_,_⟩:=row9 s1;obtain⟨b0,b1,_,_,_⟩:=row2 s2;have b1':w.cell? ⟨_,0+1,none⟩=some (.slice fa f.2.length fc):=b1;go_simp;try with_reducible rfl
 simp only[aput,aset,aze,asu]
 refine take_yes (i:=7) (d:=some 15) (v:= ?_) rfl rfl hHeld ?_ ?_;rotate_left;focus intro w hSw;(try dsimp only at hSw);obtain⟨s1,s2⟩:=HSp.out _ hSw;obtain⟨⟨c0,c1,c2,c3,c4,c5,c6,c7,c8⟩,_,_⟩:=row9 s1;obtain⟨b0,b1,_,_,_⟩:=row2 s2;have b1':w.cell? ⟨_,0+1,none⟩=some (.slice fa f.2.length fc):=b1;go_simp;try with_reducible rfl
 simp only[aput,aset,aze,asu]
 refine take_yes (i:=8) (d:=some 16) (v:= ?_) rfl rfl hHeld ?_ ?_;rotate_left;focus intro w hSw;(try dsimp only at hSw);obtain⟨s1,s2⟩:=HSp.out _ hSw;obtain⟨⟨c0,c1,c2,c3,c4,c5,c6,c7,c8⟩,_,_⟩:=row9 s1;obtain⟨b0,b1,_,_,_⟩:=row2 s2;have b1':w.cell? ⟨_,0+1,none⟩=some (.slice fa f.2.length fc):=b1;go_simp;try with_reducible rfl
 simp only[aput,aset,aze,asu]
 refine take_yes (i:=9) (d:=some 17) (v:= ?_) rfl rfl hHeld ?_ ?_;rotate_left;focus intro w hSw;(try dsimp only at hSw);obtain⟨s1,s2⟩:=HSp.out _ hSw;obtain⟨⟨c0,c1,c2,c3,c4,c5,c6,c7,c8⟩,_,_⟩:=row9 s1;obtain⟨b0,b1,_,_,_⟩:=row2 s2;have b1':w.cell? ⟨_,0+1,none⟩=some (.slice fa f.2.length fc):=b1;go_simp;try with_reducible rfl
 simp only[aput,aset,aze,asu]
 refine take_yes (i:=10) (d:=some 18) (v:= ?_) rfl rfl hHeld ?_ ?_;rotate_left;focus intro w hSw;(try dsimp only at hSw);obtain⟨s1,s2⟩:=HSp.out _ hSw;obtain⟨⟨c0,c1,c2,c3,c4,c5,c6,c7,c8⟩,_,_⟩:=row9 s1;obtain⟨b0,b1,_,_,_⟩:=row2 s2;have b1':w.cell? ⟨_,0+1,none⟩=some (.slice fa f.2.length fc):=b1;go_simp;try with_reducible rfl
 simp only[aput,aset,aze,asu]
 refine wpAnyH_ready (rs:=[11,15]) (by kernel_rfl) (by simp) ?_
 refine AllReadyH.cons rfl (fun K' hK=> ?_) (AllReadyH.cons rfl (fun K' hK=> ?_) AllReadyH.nil)
 ·go_simp
  refine(HC.out _ (Later.refl w2).drew).mono ?_
  rintro e w3 ⟨v3,rfl,hO3,hB3⟩
  have hB3:Below w2.heap.size w2 w3:=(Below.refl w2.heap.size w2).drew.trans hB3
  have hO3:OptV w2.heap.size w3 v3 ox:=hO3
  have hz3:=hB3.size
  refine hK.out _ _ ⟨hB3.block p (by omega),hB3.block _ (by omega)⟩ (fun hHeld=> ?_)
  clear hK K' HC
  obtain⟨pn,pa,pl,pc,pr,qa,ql,qc,rfl⟩:=hO3.four
  refine take_yes (i:=12) (d:=some 7) (v:= ?_) rfl rfl hHeld ?_ ?_;rotate_left;focus intro w hSw;(try dsimp only at hSw);go_simp;try with_reducible rfl
  simp only[aput,aset,aze,asu]
  refine take_yes (i:=13) (d:=some 20) (v:= ?_) rfl rfl hHeld ?_ ?_;rotate_left;focus intro w hSw;(try dsimp only at hSw);go_simp;try with_reducible rfl
  simp only[aput,aset,aze,asu]
  refine take_yes (i:=14) (d:=some 21) (v:= ?_) rfl rfl hHeld ?_ ?_;rotate_left;focus intro w hSw;(try dsimp only at hSw);go_simp;try with_reducible rfl
  simp only[aput,aset,aze,asu]
  refine wpAnyH_ready (rs:=[15]) (by kernel_rfl) (by simp) ?_
  refine AllReadyH.cons rfl (fun K' hK=> ?_) AllReadyH.nil
  go_simp
  obtain⟨w4,hw4⟩:∃w4,w4=w3.alloc (.cells #[.string ⟨#[]⟩,.slice none 0 0,.int .i64 0,.slice none 0 0] 30):=⟨_,rfl⟩
  have hL4:Later w3 w4:=by rw[hw4];exact(Later.refl w3).alloc _
  have hx4:w4.heap[w3.heap.size]?=some (.cells #[.string ⟨#[]⟩,.slice none 0 0,.int .i64 0,.slice none 0 0] 30 (0,0)):=by rw[hw4];exact heap_alloc_new w3 _
  rw[←hw4]
  clear hw4
  have hB24:Below w2.heap.size w2 w4:=below_trans hB3 hL4.below hB3.size
  have hS4:w4.heap[p]?=w2.heap[p]?∧w4.heap[w.heap.size]?=w2.heap[w.heap.size]?:=⟨hB24.block p (by omega),hB24.block _ (by omega)⟩
  have hB4:Below w.heap.size w w4:=below_trans HL2.out.below hB24 HL2.out.size
  have hR4:=(hB24.block (w.heap.size+1) (by omega)).trans HR.out
  have hz4:=hL4.size
  have hO4:OptW (w.heap.size+2) w3.heap.size w4 (.agg #[.string pn,.slice pa pl pc,.int .i64 pr,.slice qa ql qc]) ox:=by
   cases ox with
   |none=>trivial
   |some x=>
    obtain⟨s,kv,e,h1,h2⟩:=hO3
    exact⟨s,kv,e,Kind.sl_kept (Kind.sl_mono h1 fun k hk hB=>⟨by have:w2.heap.size≤k:=hB;omega,by omega⟩) hL4.size fun k hk _=>hL4.block hk,Kind.sl_kept (Kind.sl_mono h2 fun k hk hB=>⟨by have:w2.heap.size≤k:=hB;omega,by omega⟩) hL4.size fun k hk _=>hL4.block hk⟩
  obtain⟨⟨l0,l1,l2,l3⟩,⟨l4,l5,l6⟩,⟨l7,l8,l9,l10⟩,l11⟩:=rowP4 hx4
  refine hK.out _ _ hS4 (fun hHeld=> ?_)
  clear hK K' hO3 hB3 hL4 hB24
  refine wpAnyH_ready (rs:=[16]) (by kernel_rfl) (by simp) ?_
  refine AllReadyH.cons rfl (fun K' hK=> ?_) AllReadyH.nil
  go_simp
  clear l0 l1 l2 l3 l4 l5 l6 l7 l8 l9 l10
  have hXr:=put4_row hx4 (.string pn) (.slice pa pl pc) (.int .i64 pr) (.slice qa ql qc)
  obtain⟨w5,hw5⟩:∃w5,w5=put4 w4 w3.heap.size (.string pn) (.slice pa pl pc) (.int .i64 pr) (.slice qa ql qc):=⟨_,rfl⟩
  have hT5:=put4_tn w4 w3.heap.size (.string pn) (.slice pa pl pc) (.int .i64 pr) (.slice qa ql qc)
  rw[←hw5] at hXr hT5
  have hw5':=hw5
  unfold put4 at hw5'
  rw[←hw5']
  clear hw5 hw5'
  refine hK.out _ _ ⟨(hT5.block _ (by omega) (by omega)).trans hS4.1,(hT5.block _ (by omega) (by omega)).trans hS4.2⟩ (fun hHeld=> ?_)
  clear hK K'
  refine wpAnyH_ready (rs:=[17]) (by kernel_rfl) (by simp) ?_
  refine AllReadyH.cons rfl (fun K' hK=> ?_) AllReadyH.nil
  go_simp
  refine hK.out _ _ hHeld (fun hHeld=> ?_)
  clear hK K' hHeld
  refine wpAnyH_done (by kernel_rfl) ?_ _
  have HBw:Hid (Below w.heap.size w w5):=hB4.trans (hT5.below (by omega) (by have:=hB4.size;omega))
  have HRz0:Hid (w5.heap[w.heap.size+1]?=_):=(hT5.block _ (by omega) (by omega)).trans hR4
  obtain⟨⟨n0,n1,n2,n3⟩,⟨n4,n5,n6⟩,_,hX5⟩:=rowP4 hXr
  have hz5:=hT5.size
  cases ox with
  |none=>
   have HX:Hid (proveD proveP d f=ansE er):=HPn.out rfl
   have hne:(er != 0)=true:=by have:=HPe.out rfl;simpa using this
   clear hO4 hT5 hXr hS4 hB4 hR4 hx4 HPn HPs HPe HPz
   have HCr:=hide (refusedC er w5)
   unfold zansV at HCr
   go_wp2_with fail
   refine HCr.out.mono ?_
   rintro e w6 ⟨rfl,hBr⟩
   have HRz:Hid (w6.heap[(w.heap.size+1)]?=_):=(hBr.block _ (by omega)).trans HRz0.out
   obtain⟨⟨z0,z1,z2,z3,z4,z5,z6,z7⟩,zfz,zlt⟩:=row8 HRz.out
   have HBn:=hide (below_trans HBw.out hBr HBw.out.size)
   clear hBr HCr
   go_wp2
   have hD2:=(HD.out.mono (B':=fun k=>B k∧k<w.heap.size) fun _ hk hb=>⟨hb,hk⟩).below HBn.out
   have hrow:=put8_row HRz.out (.int .i64 er) (.int .i64 0) (.int .i64 0) (.slice none 0 0) (.string ⟨#[]⟩) (.slice none 0 0) (.int .i64 0) (.slice none 0 0)
   obtain⟨⟨r0,r1,r2,r3,r4,r5,r6,r7⟩,_,_⟩:=row8 hrow
   unfold put8 at r0 r1 r2 r3 r4 r5 r6 r7
   have hTz:=put8_tn w6 (w.heap.size+1) (.int .i64 er) (.int .i64 0) (.int .i64 0) (.slice none 0 0) (.string ⟨#[]⟩) (.slice none 0 0) (.int .i64 0) (.slice none 0 0)
   exact bodyPost_ret (v:=.agg #[.int .i64 er,.int .i64 0,.int .i64 0,.slice none 0 0,.string ⟨#[]⟩,.slice none 0 0,.int .i64 0,.slice none 0 0]) (by simp[results,Tryz.results138,go_sem,r0,r1,r2,r3,r4,r5,r6,r7]) rfl
    ⟨_,rfl,by rw[HX.out];exact DoneV.lay (R:=(w.heap.size+1)) (AnsV.plain _ _ _ _ _) (hD2.mono fun k _ hb=>⟨Or.inl hb.1,by omega⟩) (Tn.of_below HBn.out) hTz (by omega) hp⟩
  |some x=>
   have HX:Hid (proveD proveP d f=⟨0,0,0,[],x⟩):=HPs.out x rfl
   obtain rfl:er=0:=HPz.out x rfl
   obtain⟨sv',kv',ev,hsl,hkl⟩:=hO4
   simp only[Value.agg.injEq,Array.mk.injEq,List.cons.injEq,Value.string.injEq,Value.int.injEq,true_and,and_true] at ev
   obtain⟨rfl,rfl,rfl,rfl⟩:=ev
   have hm:∀k,k<w4.heap.size→w.heap.size+2≤k→k≠w3.heap.size→w5.heap[k]?=w4.heap[k]?:=fun k hk _ hne=>hT5.block k hk hne
   have HA:Hid (AnsV (fun k=>w.heap.size≤k∧k≠w.heap.size+1) w5 (.agg #[.int .i64 0,.int .i64 0,.int .i64 0,.slice none 0 0,.string x.fact.1,.slice pa pl pc,.int .i64 x.rule,.slice qa ql qc]) ⟨0,0,0,[],x⟩):=
    ⟨_,_,_,rfl,listK.sl_nil _ _ _ _,Kind.sl_mono (Kind.sl_kept hsl hT5.size fun k hk hB=>hT5.block k hk hB.2) fun k _ hB=>⟨by have:=hB.1;omega,by have:=hB.1;omega⟩,Kind.sl_mono (Kind.sl_kept hkl hT5.size fun k hk hB=>hT5.block k hk hB.2) fun k _ hB=>⟨by have:=hB.1;omega,by have:=hB.1;omega⟩⟩
   have HRz:=HRz0
   obtain⟨⟨z0,z1,z2,z3,z4,z5,z6,z7⟩,zfz,zlt⟩:=row8 HRz.out
   have hD5:=(HD.out.mono (B':=fun k=>B k∧k<w.heap.size) fun _ hk hb=>⟨hb,hk⟩).below HBw.out
   have HD5:=hide hD5
   clear hD5 hsl hkl hm hT5 hXr hS4 hB4 hR4 hx4 HPn HPs HPe HPz HRz0
   generalize x.fact.1=pn at*
   generalize x.rule=pr at*
   go_wp2
   have hrow:=put8_row HRz.out (.int .i64 0) (.int .i64 0) (.int .i64 0) (.slice none 0 0) (.string pn) (.slice pa pl pc) (.int .i64 pr) (.slice qa ql qc)
   obtain⟨⟨r0,r1,r2,r3,r4,r5,r6,r7⟩,_,_⟩:=row8 hrow
   unfold put8 at r0 r1 r2 r3 r4 r5 r6 r7
   have hTz:=put8_tn w5 (w.heap.size+1) (.int .i64 0) (.int .i64 0) (.int .i64 0) (.slice none 0 0) (.string pn) (.slice pa pl pc) (.int .i64 pr) (.slice qa ql qc)
   exact bodyPost_ret (v:=.agg #[.int .i64 0,.int .i64 0,.int .i64 0,.slice none 0 0,.string pn,.slice pa pl pc,.int .i64 pr,.slice qa ql qc]) (by simp[results,Tryz.results138,go_sem,r0,r1,r2,r3,r4,r5,r6,r7]) rfl
    ⟨_,rfl,by rw[HX.out];exact DoneV.lay (R:=w.heap.size+1) HA.out (HD5.out.mono fun k _ hb=>⟨Or.inl hb.1,by omega⟩) (Tn.of_below HBw.out) hTz (by omega) hp⟩
 ·go_simp
  obtain⟨w3,hw3⟩:∃w3,w3=(w2.alloc (.cells #[.string ⟨#[]⟩,.slice none 0 0,.int .i64 0,.slice none 0 0] 30)).drew:=⟨_,rfl⟩
  have hL3:Later w2 w3:=by rw[hw3];exact((Later.refl w2).alloc _).drew
  have hx3:w3.heap[w.heap.size+2]?=some (.cells #[.string ⟨#[]⟩,.slice none 0 0,.int .i64 0,.slice none 0 0] 30 (0,0)):=by rw[hw3,←hz2];exact heap_alloc_new w2 _
  have hlt3:=(Array.getElem?_eq_some_iff.1 hx3).1
  rw[←hw3]
  clear hw3
  refine hK.out _ _ ⟨hL3.block (by omega),hL3.block (by omega)⟩ (fun hHeld=> ?_)
  clear hK K'
  refine wpAnyH_ready (rs:=[11]) (by kernel_rfl) (by simp) ?_
  refine AllReadyH.cons rfl (fun K' hK=> ?_) AllReadyH.nil
  go_simp
  refine(HC.out _ hL3).mono ?_
  rintro e w4 ⟨v4,rfl,hO3,hB34⟩
  have hB24:Below w2.heap.size w2 w4:=below_trans hL3.below hB34 hL3.size
  have hz4:=hB34.size
  have hS4:w4.heap[p]?=w2.heap[p]?∧w4.heap[w.heap.size]?=w2.heap[w.heap.size]?:=⟨hB24.block p (by omega),hB24.block _ (by omega)⟩
  refine hK.out _ _ hS4 (fun hHeld=> ?_)
  clear hK K' HC
  obtain⟨pn,pa,pl,pc,pr,qa,ql,qc,rfl⟩:=hO3.four
  refine take_yes (i:=12) (d:=some 7) (v:= ?_) rfl rfl hHeld ?_ ?_;rotate_left;focus intro w hSw;(try dsimp only at hSw);go_simp;try with_reducible rfl
  simp only[aput,aset,aze,asu]
  refine take_yes (i:=13) (d:=some 20) (v:= ?_) rfl rfl hHeld ?_ ?_;rotate_left;focus intro w hSw;(try dsimp only at hSw);go_simp;try with_reducible rfl
  simp only[aput,aset,aze,asu]
  refine take_yes (i:=14) (d:=some 21) (v:= ?_) rfl rfl hHeld ?_ ?_;rotate_left;focus intro w hSw;(try dsimp only at hSw);go_simp;try with_reducible rfl
  simp only[aput,aset,aze,asu]
  have hx4:=(hB34.block _ hlt3).trans hx3
  have hB4:Below w.heap.size w w4:=below_trans HL2.out.below hB24 HL2.out.size
  have hR4:=(hB24.block (w.heap.size+1) (by omega)).trans HR.out
  have hO4:OptW (w.heap.size+2) (w.heap.size+2) w4 (.agg #[.string pn,.slice pa pl pc,.int .i64 pr,.slice qa ql qc]) ox:=by
   cases ox with
   |none=>trivial
   |some x=>
    obtain⟨s,kv,e,h1,h2⟩:=hO3
    exact⟨s,kv,e,Kind.sl_mono h1 fun k hk hB=>⟨by have:w3.heap.size≤k:=hB;omega,by have:w3.heap.size≤k:=hB;omega⟩,Kind.sl_mono h2 fun k hk hB=>⟨by have:w3.heap.size≤k:=hB;omega,by have:w3.heap.size≤k:=hB;omega⟩⟩
  obtain⟨⟨l0,l1,l2,l3⟩,⟨l4,l5,l6⟩,⟨l7,l8,l9,l10⟩,l11⟩:=rowP4 hx4
  clear hO3 hL3 hB24 hB34 hx3
  refine wpAnyH_ready (rs:=[16]) (by kernel_rfl) (by simp) ?_
  refine AllReadyH.cons rfl (fun K' hK=> ?_) AllReadyH.nil
  go_simp
  clear l0 l1 l2 l3 l4 l5 l6 l7 l8 l9 l10
  have hXr:=put4_row hx4 (.string pn) (.slice pa pl pc) (.int .i64 pr) (.slice qa ql qc)
  obtain⟨w5,hw5⟩:∃w5,w5=put4 w4 (w.heap.size+2) (.string pn) (.slice pa pl pc) (.int .i64 pr) (.slice qa ql qc):=⟨_,rfl⟩
  have hT5:=put4_tn w4 (w.heap.size+2) (.string pn) (.slice pa pl pc) (.int .i64 pr) (.slice qa ql qc)
  rw[←hw5] at hXr hT5
  have hw5':=hw5
  unfold put4 at hw5'
  rw[←hw5']
  clear hw5 hw5'
  refine hK.out _ _ ⟨(hT5.block _ (by omega) (by omega)).trans hS4.1,(hT5.block _ (by omega) (by omega)).trans hS4.2⟩ (fun hHeld=> ?_)
  clear hK K'
  refine wpAnyH_ready (rs:=[17]) (by kernel_rfl) (by simp) ?_
  refine AllReadyH.cons rfl (fun K' hK=> ?_) AllReadyH.nil
  go_simp
  refine hK.out _ _ hHeld (fun hHeld=> ?_)
  clear hK K' hHeld
  refine wpAnyH_done (by kernel_rfl) ?_ _
  have HBw:Hid (Below w.heap.size w w5):=hB4.trans (hT5.below (by omega) (by have:=hB4.size;omega))
  have HRz0:Hid (w5.heap[w.heap.size+1]?=_):=(hT5.block _ (by omega) (by omega)).trans hR4
  obtain⟨⟨n0,n1,n2,n3⟩,⟨n4,n5,n6⟩,_,hX5⟩:=rowP4 hXr
  have hz5:=hT5.size
  cases ox with
  |none=>
   have HX:Hid (proveD proveP d f=ansE er):=HPn.out rfl
   have hne:(er != 0)=true:=by have:=HPe.out rfl;simpa using this
   clear hO4 hT5 hXr hS4 hB4 hR4 hx4 HPn HPs HPe HPz
   have HCr:=hide (refusedC er w5)
   unfold zansV at HCr
   go_wp2_with fail
   refine HCr.out.mono ?_
   rintro e w6 ⟨rfl,hBr⟩
   have HRz:Hid (w6.heap[(w.heap.size+1)]?=_):=(hBr.block _ (by omega)).trans HRz0.out
   obtain⟨⟨z0,z1,z2,z3,z4,z5,z6,z7⟩,zfz,zlt⟩:=row8 HRz.out
   have HBn:=hide (below_trans HBw.out hBr HBw.out.size)
   clear hBr HCr
   go_wp2
   have hD2:=(HD.out.mono (B':=fun k=>B k∧k<w.heap.size) fun _ hk hb=>⟨hb,hk⟩).below HBn.out
   have hrow:=put8_row HRz.out (.int .i64 er) (.int .i64 0) (.int .i64 0) (.slice none 0 0) (.string ⟨#[]⟩) (.slice none 0 0) (.int .i64 0) (.slice none 0 0)
   obtain⟨⟨r0,r1,r2,r3,r4,r5,r6,r7⟩,_,_⟩:=row8 hrow
   unfold put8 at r0 r1 r2 r3 r4 r5 r6 r7
   have hTz:=put8_tn w6 (w.heap.size+1) (.int .i64 er) (.int .i64 0) (.int .i64 0) (.slice none 0 0) (.string ⟨#[]⟩) (.slice none 0 0) (.int .i64 0) (.slice none 0 0)
   exact bodyPost_ret (v:=.agg #[.int .i64 er,.int .i64 0,.int .i64 0,.slice none 0 0,.string ⟨#[]⟩,.slice none 0 0,.int .i64 0,.slice none 0 0]) (by simp[results,Tryz.results138,go_sem,r0,r1,r2,r3,r4,r5,r6,r7]) rfl
    ⟨_,rfl,by rw[HX.out];exact DoneV.lay (R:=(w.heap.size+1)) (AnsV.plain _ _ _ _ _) (hD2.mono fun k _ hb=>⟨Or.inl hb.1,by omega⟩) (Tn.of_below HBn.out) hTz (by omega) hp⟩
  |some x=>
   have HX:Hid (proveD proveP d f=⟨0,0,0,[],x⟩):=HPs.out x rfl
   obtain rfl:er=0:=HPz.out x rfl
   obtain⟨sv',kv',ev,hsl,hkl⟩:=hO4
   simp only[Value.agg.injEq,Array.mk.injEq,List.cons.injEq,Value.string.injEq,Value.int.injEq,true_and,and_true] at ev
   obtain⟨rfl,rfl,rfl,rfl⟩:=ev
   have hm:∀k,k<w4.heap.size→w.heap.size+2≤k→k≠(w.heap.size+2)→w5.heap[k]?=w4.heap[k]?:=fun k hk _ hne=>hT5.block k hk hne
   have HA:Hid (AnsV (fun k=>w.heap.size≤k∧k≠w.heap.size+1) w5 (.agg #[.int .i64 0,.int .i64 0,.int .i64 0,.slice none 0 0,.string x.fact.1,.slice pa pl pc,.int .i64 x.rule,.slice qa ql qc]) ⟨0,0,0,[],x⟩):=
    ⟨_,_,_,rfl,listK.sl_nil _ _ _ _,Kind.sl_mono (Kind.sl_kept hsl hT5.size fun k hk hB=>hT5.block k hk hB.2) fun k _ hB=>⟨by have:=hB.1;omega,by have:=hB.1;omega⟩,Kind.sl_mono (Kind.sl_kept hkl hT5.size fun k hk hB=>hT5.block k hk hB.2) fun k _ hB=>⟨by have:=hB.1;omega,by have:=hB.1;omega⟩⟩
   have HRz:=HRz0
   obtain⟨⟨z0,z1,z2,z3,z4,z5,z6,z7⟩,zfz,zlt⟩:=row8 HRz.out
   have hD5:=(HD.out.mono (B':=fun k=>B k∧k<w.heap.size) fun _ hk hb=>⟨hb,hk⟩).below HBw.out
   have HD5:=hide hD5
   clear hD5 hsl hkl hm hT5 hXr hS4 hB4 hR4 hx4 HPn HPs HPe HPz HRz0
   generalize x.fact.1=pn at*
   generalize x.rule=pr at*
   go_wp2
   have hrow:=put8_row HRz.out (.int .i64 0) (.int .i64 0) (.int .i64 0) (.slice none 0 0) (.string pn) (.slice pa pl pc) (.int .i64 pr) (.slice qa ql qc)
   obtain⟨⟨r0,r1,r2,r3,r4,r5,r6,r7⟩,_,_⟩:=row8 hrow
   unfold put8 at r0 r1 r2 r3 r4 r5 r6 r7
   have hTz:=put8_tn w5 (w.heap.size+1) (.int .i64 0) (.int .i64 0) (.int .i64 0) (.slice none 0 0) (.string pn) (.slice pa pl pc) (.int .i64 pr) (.slice qa ql qc)
   exact bodyPost_ret (v:=.agg #[.int .i64 0,.int .i64 0,.int .i64 0,.slice none 0 0,.string pn,.slice pa pl pc,.int .i64 pr,.slice qa ql qc]) (by simp[results,Tryz.results138,go_sem,r0,r1,r2,r3,r4,r5,r6,r7]) rfl
    ⟨_,rfl,by rw[HX.out];exact DoneV.lay (R:=w.heap.size+1) HA.out (HD5.out.mono fun k _ hb=>⟨Or.inl hb.1,by omega⟩) (Tn.of_below HBw.out) hTz (by omega) hp⟩
theorem proveH:ProveH proveP:=fun p B d f fv tv rv kv nv sv w=>proveDC p B d f fv tv rv kv nv sv w
end Go.Proofs.YtafmbokfkbccaaaGreatDoor
namespace Go.Proofs.YtafmbokfkbccaaaGreatDoor
open Go.ChangeShapes Go.WideShapes Go.RowKit Go.Sort
theorem cellsDoP:Tryz.prog.cellsOf 72=5:=by kernel_rfl
theorem bytesDoP:16≤Tryz.prog.bytesOf 72:=of_decide_eq_true (by kernel_rfl)
theorem cellsIntP8:Tryz.prog.cellsOf 3=1:=by kernel_rfl
section
variable {H:Type} {enc:TypeId×Value→H} {W:World}
set_option maxRecDepth 100000 in
theorem opensDo:Opens enc W 72 doK (fun _=>True):=by
 intro n cs x h hw
 obtain⟨xs,n,_,hx,hl,hlen,hp⟩:=DataW.trod_struct Tryz.underlying72 h
 rw[cellsDoP] at hl
 match cs,hl with
 |[c0,c1,c2,c3,c4],_=>
  match xs,hlen with
  |[y0,y1,y2,y3],_=>
   have hp0:DataW.trod enc Tryz.prog W 0 (fun _=>true) true n 3 [c0]=some y0:=by
    have:=hp 0 _ rfl
    simpa[cellsIntP8] using this
   have hp1:DataW.trod enc Tryz.prog W 0 (fun _=>true) true n 3 [c1]=some y1:=by
    have:=hp 1 _ rfl
    simpa[cellsIntP8] using this
   have hp2:DataW.trod enc Tryz.prog W 0 (fun _=>true) true n 27 [c2,c3]=some y2:=by
    have:=hp 2 _ rfl
    simpa[cellsIntP8,cellsFactP] using this
   have hp3:DataW.trod enc Tryz.prog W 0 (fun _=>true) true n 9 [c4]=some y3:=by
    have:=hp 3 _ rfl
    simpa[cellsIntP8,cellsFactP,cellsStrP] using this
   have hws:Sized 27 y2.1:=by
    have hd:x.1=.agg [y0.1,y1.1,y2.1,y3.1]:=by simpa using congrArg Prod.fst hx
    unfold Sized at hw⊢
    rw[hd,DataW.weights,Tryz.underlying72] at hw
    simp only[List.map_cons,List.map_nil,DataW.weightsEach,List.all_append,Bool.and_eq_true] at hw
    exact hw.2.2.1
   obtain⟨k,h0,_,_⟩:=DataW.trod_int Tryz.underlying3 hp0
   obtain⟨j,h1,_,_⟩:=DataW.trod_int Tryz.underlying3 hp1
   obtain⟨t,h3,_,_⟩:=DataW.trod_string Tryz.underlying9 hp3
   obtain⟨z0,z1,m,hx2,hl2,g0,g1⟩:=trod_struct2 Tryz.underlying27 hp2
   have e0:Tryz.prog.cellsOf 9=1:=cellsStrP
   have e1:Tryz.prog.cellsOf 25=1:=cellsStrsP
   simp only[e0,e1,List.drop_zero,List.drop_succ_cons,List.take_succ_cons,List.take_zero] at g0 g1
   obtain⟨s,hs,_,_⟩:=DataW.trod_string Tryz.underlying9 g0
   have hw2:Sized 25 z1.1:=by
    unfold Sized at hws⊢
    rw[hx2,DataW.weights,Tryz.underlying27] at hws
    simp only[List.map_cons,List.map_nil,DataW.weightsEach,List.all_append,Bool.and_eq_true] at hws
    exact hws.2.1
   obtain⟨l,q1,_,_⟩:=openSlB Tryz.underlying25 cellsStrP (by rw[bytesStrP];decide) (by decide) opensStr g1 hw2
   simp only[List.cons.injEq,and_true] at h0 h1 h3 hs
   exact⟨⟨k,j,(s,l),t⟩,⟨c3,by rw[h0,h1,h3,hs],bsK_strsB q1⟩,trivial⟩
set_option maxRecDepth 100000 in
theorem openDos {b0:Nat} {v:Value} {d:DataW H} {p:List MemPlace} (hv:Value.okWide Tryz.prog W .any b0 49 v) (h:DataW.Trod enc Tryz.prog W 0 (fun _=>true) true 49 v d p) (hw:Sized 49 d):∃l,doK.sl Anyw W v l:=by
 obtain⟨a0,len0,cap0,rfl⟩:=okWide_slice Tryz.underlying49 hv
 obtain⟨fuel,hf⟩:=h
 obtain⟨l,h1,_,_⟩:=openSlB Tryz.underlying49 cellsDoP bytesDoP (by decide) opensDo (x:=(d,p)) (by simpa[Value.cells] using hf) hw
 exact⟨l,h1⟩
end
end Go.Proofs.YtafmbokfkbccaaaGreatDoor
