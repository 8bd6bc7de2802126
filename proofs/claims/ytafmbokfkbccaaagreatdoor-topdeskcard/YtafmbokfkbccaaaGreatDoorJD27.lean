import Derived.Test.YtafmbokfkbccaaaGreatDoorJD26
import Derived.Test.YtafmbokfkbccaaaGreatDoorJD25
import Derived.Test.YtafmbokfkbccaaaGreatDoorJD23
namespace Go.Proofs.YtafmbokfkbccaaaGreatDoor
open Go.RowKit Go.Sort Go.Maps
def okN (c:Nat) (r:RunD):Bool:=(decide (0≤r.rounds)&&decide (r.rounds≤1000))&&((decide (0≤r.level)&&decide (r.level≤c))&& !(r.done != (r.level==(c:Int))))
def wrongRunP (p:List RuleD) (r:RunD):Int:=if forE p r.known≠0 then forE p r.known else if(setFault r.fresh).1≠0 then(setFault r.fresh).1 else
 if okN (countP (strataP p).1) r=false then 3 else if(r.fresh.filter fun f=> !inB r.known f)≠[] then 8 else 0
theorem wrongRun_zero {p:List RuleD} {r:RunD} (h:wrongRunP p r=0):forE p r.known=0∧RightN p (countP (strataP p).1) r:=by
 unfold wrongRunP at h;split at h
 ·rename_i h1;exact absurd h h1
 ·rename_i h1;have h1:=Classical.byContradiction h1;split at h
  ·rename_i h2;exact absurd h h2
  ·rename_i h2;have h2:=Classical.byContradiction h2;split at h
   ·simp at h
   ·rename_i h3;split at h
    ·simp at h
    ·rename_i h4;obtain⟨hp,hg,_⟩:=forE_zero h1;have h3:okN (countP (strataP p).1) r=true:=by simpa using h3
     unfold okN at h3;simp only[Bool.and_eq_true,decide_eq_true_eq,Bool.not_eq_true',bne_eq_false_iff_eq] at h3;obtain⟨⟨a1,a2⟩,⟨a3,a4⟩,a5⟩:=h3;have h4:=Classical.byContradiction h4;refine⟨h1,hg,(set_right h2).2.1,fun f hf=>Classical.byContradiction fun hn=> ?_,⟨a3,a4⟩,⟨a1,a2⟩,a5⟩;have hm:f∈r.fresh.filter fun f=> !inB r.known f:=List.mem_filter.2 ⟨hf,by
      cases e:inB r.known f
      ·rfl
      ·exact absurd (inB_iff.1 e) hn⟩
     rw[h4] at hm;cases hm
theorem wrongRun_right {p:List RuleD} {r:RunD} (h:forE p r.known=0) (hr:RightN p (countP (strataP p).1) r):wrongRunP p r=0:=by
 unfold wrongRunP;rw[if_neg (by rw[h];simp),if_neg (by rw[fault_right hr.up (fun f hf=>hr.good.right f (hr.sub f hf)) (Nat.le_trans (up_le hr.up hr.sub) hr.good.few)];simp)];have h3:okN (countP (strataP p).1) r=true:=by
  unfold okN;simp only[Bool.and_eq_true,decide_eq_true_eq,Bool.not_eq_true',bne_eq_false_iff_eq];exact⟨⟨hr.rnd.1,hr.rnd.2⟩,⟨hr.lev.1,hr.lev.2⟩,hr.done⟩
 rw[if_neg (by simp[h3]),if_neg];intro hn;refine hn (List.eq_nil_iff_forall_not_mem.2 fun f hf=> ?_);obtain⟨h1,h2⟩:=List.mem_filter.1 hf;rw[inB_iff.2 (hr.sub f h1)] at h2;cases h2
def OfT (b:Nat) (w:World) (v:Value) (p:List RuleD) (r:RunD):Prop:=(∃a n c,v=.slice a n c)∧(wrongRunP p r=0→intK.sl (From b) w v (strataP p).1)
set_option maxRecDepth 100000 in
set_option maxHeartbeats 4000000 in
theorem strataOfC (p:List RuleD) (r:RunD) (pv kv nv:Value) (w:World) (hv:ruleK.sl Anyw w pv p) (hk:Facts w kv r.known) (hn:Facts w nv r.fresh):
  Calls Tryz.prog 82 #[pv,.agg #[kv,nv,.int .i64 r.level,.int .i64 r.rounds,.bool r.done]] w fun e w'=>∃v',e=.returned (.tuple #[v',.int .i64 (wrongRunP p r)])∧OfT w.heap.size w' v' p r∧Below w.heap.size w w':=by
 obtain⟨K,N,lev,rn,dn⟩:=r;dsimp only at*;obtain⟨pa,pc,rfl⟩:=Kind.slice hv;obtain⟨ka,kc,rfl⟩:=sliceFacts hk;obtain⟨na,nc,rfl⟩:=sliceFacts hn;obtain⟨wb,hwb⟩:∃wb,wb=w.alloc (.cells #[.slice ka K.length kc,.slice na N.length nc,.int .i64 lev,.int .i64 rn,.bool dn] 47):=⟨_,rfl⟩;have hLb:Later w wb:=by rw[hwb];exact(Later.refl w).alloc _
 have hzb:wb.heap.size=w.heap.size+1:=by rw[hwb];simp
 have hrb:wb.heap[w.heap.size]?=some (.cells #[.slice ka K.length kc,.slice na N.length nc,.int .i64 lev,.int .i64 rn,.bool dn] 47 (0,0)):=by rw[hwb];exact heap_alloc_new w _
 have HRow:Hid (∀w',Below wb.heap.size wb w'→w'.heap[w.heap.size]?=some (.cells #[.slice ka K.length kc,.slice na N.length nc,.int .i64 lev,.int .i64 rn,.bool dn] 47 (0,0))):=fun w' h=>(h.block _ (by omega)).trans hrb;have HFo:=hide (strataForC p K (.slice pa p.length pc) (.slice ka K.length kc) wb (Kind.sl_later hv hLb) (hk.later hLb));have HK:=hide (hk.later hLb);have HN:=hide (hn.later hLb);have HLb:=hide hLb;have HWb:=hide hwb;have HX:Hid (wrongRunP p ⟨K,N,lev,rn,dn⟩=if forE p K≠0 then forE p K else if(setFault N).1≠0 then(setFault N).1 else if okN (countP (strataP p).1) ⟨K,N,lev,rn,dn⟩=false then 3 else if(N.filter fun f=> !inB K f)≠[] then 8 else 0):=(rfl:_=_);have HGo:Hid (forE p K=0→GoodS p K∧∀s∈(strataP p).1,s<1000):=fun h=>by
  obtain⟨_,hg,τ,_,hs,ht⟩:=forE_zero h;refine⟨hg,fun s hs'=> ?_⟩;rw[hs] at hs';obtain⟨q,hq,rfl⟩:=List.mem_map.1 hs';have:=ht q hq;omega
 unfold OfT;unfold ForT at HFo;generalize wrongRunP p ⟨K,N,lev,rn,dn⟩=R at*;generalize forE p K=fo at*;generalize(strataP p).1=ss at*;clear hv hk hn hLb hrb hwb
 go_enter Tryz.func82,Tryz.ntmps82
 go_wp2_with fail
 rw[←HWb.out];refine HFo.out.mono ?_;rintro e w1 ⟨v1,rfl,⟨⟨a1,n1,c1,rfl⟩,hs1⟩,hB1⟩;have HB1:Hid (Below wb.heap.size wb w1):=hB1;have HS1:=hide hs1;clear hB1 hs1 HFo HWb
 by_cases h0:fo=0
 ·subst h0;obtain⟨hg,hsm⟩:=HGo.out rfl;have HU:=hide hg.up;have hKf:=hg.few;have HSm:=hide hsm;have HV1:=hide (HS1.out rfl);have hn1:n1=ss.length:=by obtain⟨_,_,e⟩:=Kind.slice HV1.out;simp only[Value.slice.injEq] at e;exact e.2.1
  subst hn1;have HSet:=hide (setC (.slice na N.length nc) N w1 (HN.out.below HB1.out));obtain⟨sx,sy,hse⟩:∃sx sy,setFault N=(sx,sy):=⟨_,_,rfl⟩;rw[hse] at HSet;have HX1:Hid (R=if sx≠0 then sx else if okN (countP ss) ⟨K,N,lev,rn,dn⟩=false then 3 else if(N.filter fun f=> !inB K f)≠[] then 8 else 0):=by show _=_;rw[HX.out,hse];simp
  obtain⟨b0,b1,b2,b3,b4,_,_⟩:=row5 (HRow.out _ HB1.out);clear hse HX hg hsm HGo HS1
  go_wp2_with fail
  refine HSet.out.mono ?_;rintro e w2 ⟨rfl,hL2⟩;dsimp only;have HB2:Hid (Below wb.heap.size wb w2):=below_trans HB1.out hL2.below HB1.out.size;have HV2:=hide (Kind.sl_far HV1.out hL2.below);clear hL2 HSet b0 b1 b2 b3 b4 HB1 HV1;obtain⟨w3,hw3⟩:∃w3,w3=w2.alloc (.cells #[.int .i64 sx,.int .i64 sy] 75):=⟨_,rfl⟩;have hL3:Later w2 w3:=by rw[hw3];exact(Later.refl _).alloc _
  have HB3:Hid (Below wb.heap.size wb w3):=below_trans HB2.out hL3.below HB2.out.size;have HV3:=hide (Kind.sl_far HV2.out hL3.below);have HW3:=hide hw3
  by_cases h1:sx=0
  ·subst h1;have HX2:Hid (R=if okN (countP ss) ⟨K,N,lev,rn,dn⟩=false then 3 else if(N.filter fun f=> !inB K f)≠[] then 8 else 0):=by show _=_;rw[HX1.out];simp
   have HCn:=hide (countC ss (.slice a1 ss.length c1) w3 (Kind.sl_any HV3.out) HSm.out);clear hw3 hL3 HX1 HB2 HV2
   go_wp2_with fail
   rw[←HW3.out];refine HCn.out.mono ?_;rintro e w4 ⟨rfl,hL4⟩;have HB4:Hid (Below wb.heap.size wb w4):=below_trans HB3.out hL4.below HB3.out.size;have HV4:=hide (Kind.sl_far HV3.out hL4.below);have hcs:countP ss≤1000:=countP_le HSm.out;clear hL4 HCn HW3 HB3 HV3;obtain⟨b0,b1,b2,b3,b4,_,_⟩:=row5 (HRow.out _ HB4.out);have HW1:=hide (withinC rn 1000 w4);have HW2:=hide (withinC lev (countP ss:Nat) w4);unfold okN at HX2;dsimp only at HX2;generalize(decide (0≤rn)&&decide (rn≤1000))=A at*;generalize(decide (0≤lev)&&decide (lev≤((countP ss:Nat):Int)))=B at*;generalize hC:(dn != (lev==((countP ss:Nat):Int)))=C at*;have hC2:(!(dn==(lev==((countP ss:Nat):Int))))=C:=hC;clear hC;have HBw:Hid (Below w.heap.size w w4):=below_trans HLb.out.below HB4.out (by omega);cases A with
   |false=>
    have HX3:Hid (R=3):=by show _=_;rw[HX2.out];rfl
    go_wp2_with fail
    refine HW1.out.mono ?_;rintro e w5 ⟨rfl,h5⟩;obtain rfl:w4=w5:=h5.symm;clear h5;go_wp2;exact bodyPost_ret (v:=.tuple #[.slice none 0 0,.int .i64 3]) (by simp[results,Tryz.results82,go_sem]) rfl ⟨_,by rw[HX3.out],⟨⟨_,_,_,rfl⟩,fun h=>by rw[HX3.out] at h;simp at h⟩,HBw.out⟩
   |true=>
    cases B with
    |false=>
     have HX3:Hid (R=3):=by show _=_;rw[HX2.out];rfl
     go_wp2_with fail
     refine HW1.out.mono ?_;rintro e w5 ⟨rfl,h5⟩;obtain rfl:w4=w5:=h5.symm;clear h5
     go_wp2_with fail
     refine HW2.out.mono ?_;rintro e w6 ⟨rfl,h6⟩;obtain rfl:w4=w6:=h6.symm;clear h6;go_wp2;exact bodyPost_ret (v:=.tuple #[.slice none 0 0,.int .i64 3]) (by simp[results,Tryz.results82,go_sem]) rfl ⟨_,by rw[HX3.out],⟨⟨_,_,_,rfl⟩,fun h=>by rw[HX3.out] at h;simp at h⟩,HBw.out⟩
    |true=>
     cases C with
     |true=>
      have HX3:Hid (R=3):=by show _=_;rw[HX2.out];rfl
      go_wp2_with fail
      refine HW1.out.mono ?_;rintro e w5 ⟨rfl,h5⟩;obtain rfl:w4=w5:=h5.symm;clear h5
      go_wp2_with fail
      refine HW2.out.mono ?_;rintro e w6 ⟨rfl,h6⟩;obtain rfl:w4=w6:=h6.symm;clear h6;go_wp2;exact bodyPost_ret (v:=.tuple #[.slice none 0 0,.int .i64 3]) (by simp[results,Tryz.results82,go_sem]) rfl ⟨_,by rw[HX3.out],⟨⟨_,_,_,rfl⟩,fun h=>by rw[HX3.out] at h;simp at h⟩,HBw.out⟩
     |false=>
      have HX4:Hid (R=if(N.filter fun f=> !inB K f)≠[] then 8 else 0):=by show _=_;rw[HX2.out];rfl
      have HLs:=hide (lessC (.slice na N.length nc) (.slice ka K.length kc) N K w4 (HN.out.below HB4.out) (HK.out.below HB4.out) HU.out);rw[filter_in] at HLs;have hFl:=List.length_filter_le (fun f=> !inB K f) N;have hNl:=HN.out.1;generalize(N.filter fun f=> !inB K f)=F at*;clear HX2
      go_wp2_with fail
      refine HW1.out.mono ?_;rintro e w5 ⟨rfl,h5⟩;obtain rfl:w4=w5:=h5.symm;clear h5
      go_wp2_with fail
      refine HW2.out.mono ?_;rintro e w6 ⟨rfl,h6⟩;obtain rfl:w4=w6:=h6.symm;clear h6
      go_wp2_with fail
      refine HLs.out.mono ?_;rintro e w7 ⟨v7,rfl,hO7,hL7⟩;obtain⟨a7,c7,rfl⟩:=hO7.slice;have HB7:Hid (Below w.heap.size w w7):=below_trans HBw.out hL7.below HBw.out.size;have HV7:=hide (Kind.sl_far HV4.out hL7.below);clear hO7 hL7 HLs HW1 HW2;cases F with
      |nil=>
       have HX3:Hid (R=0):=by show _=_;rw[HX4.out];rfl
       go_wp2;exact bodyPost_ret (v:=.tuple #[.slice a1 ss.length c1,.int .i64 0]) (by simp[results,Tryz.results82,go_sem]) rfl ⟨_,by rw[HX3.out],⟨⟨_,_,_,rfl⟩,fun _=>Kind.sl_mono HV7.out fun k _ h=>Nat.le_trans (by omega) h⟩,HB7.out⟩
      |cons f F=>
       have HX3:Hid (R=8):=by show _=_;rw[HX4.out];rfl
       have hpos:(0:Int)<(((f::F).length:Nat):Int):=by simp
       go_wp2;exact bodyPost_ret (v:=.tuple #[.slice none 0 0,.int .i64 8]) (by simp[results,Tryz.results82,go_sem]) rfl ⟨_,by rw[HX3.out],⟨⟨_,_,_,rfl⟩,fun h=>by rw[HX3.out] at h;simp at h⟩,HB7.out⟩
  ·have HX3:Hid (R=sx):=by show _=_;rw[HX1.out,if_pos h1]
   have hne:(sx != 0)=true:=by simpa using h1
   have HH:Hid (R≠0):=by show _≠_;rw[HX3.out];exact h1
   have HB3w:Hid (Below w.heap.size w w3):=below_trans HLb.out.below HB3.out (by omega);rw[hw3] at HB3w;clear hw3 hL3 HX1 HB2 HV2 HW3 HB3 HV3 h1;go_wp2
   go_quiet (fail)
   go_wp2;exact bodyPost_ret (v:=.tuple #[.slice none 0 0,.int .i64 sx]) (by simp[results,Tryz.results82,go_sem]) rfl ⟨_,by rw[HX3.out],⟨⟨_,_,_,rfl⟩,fun h=>absurd h HH.out⟩,belowN HB3w.out _⟩
 ·have HX3:Hid (R=fo):=by show _=_;rw[HX.out,if_pos h0]
  have hne:(fo != 0)=true:=by simpa using h0
  have HH:Hid (R≠0):=by show _≠_;rw[HX3.out];exact h0
  have HB1w:Hid (Below w.heap.size w w1):=below_trans HLb.out.below HB1.out (by omega);clear HX HGo HS1 HB1 h0;go_wp2;exact bodyPost_ret (v:=.tuple #[.slice none 0 0,.int .i64 fo]) (by simp[results,Tryz.results82,go_sem]) rfl ⟨_,by rw[HX3.out],⟨⟨_,_,_,rfl⟩,fun h=>absurd h HH.out⟩,HB1w.out⟩
set_option maxRecDepth 100000 in
set_option maxHeartbeats 1000000 in
theorem wrongRunC (p:List RuleD) (r:RunD) (pv kv nv:Value) (w:World) (hv:ruleK.sl Anyw w pv p) (hk:Facts w kv r.known) (hn:Facts w nv r.fresh):
  Calls Tryz.prog 71 #[pv,.agg #[kv,nv,.int .i64 r.level,.int .i64 r.rounds,.bool r.done]] w fun e w'=>e=.returned (.int .i64 (wrongRunP p r))∧Below w.heap.size w w':=by
 obtain⟨pa,pc,rfl⟩:=Kind.slice hv;obtain⟨ka,kc,rfl⟩:=sliceFacts hk;obtain⟨na,nc,rfl⟩:=sliceFacts hn;obtain⟨wb,hwb⟩:∃wb,wb=w.alloc (.cells #[.slice ka r.known.length kc,.slice na r.fresh.length nc,.int .i64 r.level,.int .i64 r.rounds,.bool r.done] 47):=⟨_,rfl⟩;have hLb:Later w wb:=by rw[hwb];exact(Later.refl w).alloc _
 have HOf:=hide (strataOfC p r (.slice pa p.length pc) _ _ wb (Kind.sl_later hv hLb) (hk.later hLb) (hn.later hLb));have HLb:=hide hLb;have HWb:=hide hwb;generalize wrongRunP p r=R at*;clear hv hk hn hLb hwb
 go_enter Tryz.func71,Tryz.ntmps71
 go_wp2_with fail
 rw[←HWb.out];refine HOf.out.mono ?_;rintro e w1 ⟨v1,rfl,⟨⟨a1,n1,c1,rfl⟩,_⟩,hB1⟩;have HB1:Hid (Below w.heap.size w w1):=below_trans HLb.out.below hB1 HLb.out.size;clear hB1 HOf HWb;go_wp2;go_ret;exact⟨rfl,HB1.out⟩
end Go.Proofs.YtafmbokfkbccaaaGreatDoor
namespace Go.Proofs.YtafmbokfkbccaaaGreatDoor
open Go.RowKit Go.Sort
theorem named_len {s:ByteArray} (h:isNamed (raw s)=true):s.size<256:=by
 unfold isNamed at h;simp only[Bool.and_eq_true,decide_eq_true_eq] at h;have:=h.1.1;rw[length_raw] at this;omega
theorem byteF_of {f:FactB} (h:RightF f):ByteF f:=⟨named_len h.1,by have:=h.2.1;omega,fun t ht=>named_len (h.2.2 t ht)⟩
theorem fresh_of {K N:List FactB} (hK:Up K) (hN:Up N) (hs:∀f∈N,f∈K):N=K.filter (inB N):=
 up_ext hN (List.Pairwise.filter _ hK) fun f=>by
  rw[List.mem_filter,inB_iff];exact⟨fun h=>⟨hs f h,h⟩,fun h=>h.2⟩
theorem strata_few {p:List RuleD} {l:List FactB} (h:forE p l=0):countP (strataP p).1≤16:=by
 obtain⟨_,_,τ,_,hs,ht⟩:=forE_zero h;have e:(strataP p).1=p.map fun r=>τ r.head.name:=by rw[hs]
 rw[e];refine countP_le' fun s hs'=> ?_;obtain⟨r,hr,rfl⟩:=List.mem_map.1 hs';exact ht r hr
theorem byteR_of {p:List RuleD} {r:RunD} (h:wrongRunP p r=0):ByteR r∧Up r.fresh:=by
 obtain⟨h1,hR⟩:=wrongRun_zero h;have hc:=strata_few h1;have:=hR.lev;have:=hR.rnd;have:=hR.good.few;exact⟨⟨hR.lev.1,by omega,hR.rnd.1,by omega,by omega,fun f hf=>byteF_of (hR.good.right f hf),fresh_of hR.good.up hR.up hR.sub⟩,hR.up⟩
def saveP (p:List RuleD) (r:RunD):Int×Bs:=if wrongRunP p r≠0 then(wrongRunP p r,[]) else(0,wRun r)
def loadP (p:List RuleD) (b:Bs):Int×RunD:=if(readP b).2=false then(2,noRun) else if wrongRunP p (readP b).1≠0 then(wrongRunP p (readP b).1,noRun) else(0,(readP b).1)
theorem BytO.nil (lo:Nat) (w:World):BytO lo w (.slice none 0 0) []:=World.ownsRow_nil w lo _ 1
theorem BytO.sl {lo:Nat} {w:World} {v:Value} {l:Bs} (h:BytO lo w v l) (hl:l.length≤8796093022208):byteK.sl (From lo) w v l:=by
 rcases h.2 with⟨rfl,e⟩|⟨g,cap,cur,rfl,hbg,hg,hnc,_⟩
 ·have:l=[]:=List.eq_nil_of_length_eq_zero e;subst this;exact byteK.sl_nil _ _ _ _
 ·refine⟨⟨hl,hnc⟩,_,cap,rfl,fun _=>⟨g,0,rfl,hbg,(Array.getElem?_eq_some_iff.1 hg).1,fun i x hi=>⟨_,rfl,fun j u hu=> ?_⟩⟩⟩;have hj:j=0:=by have:=(List.getElem?_eq_some_iff.1 hu).1;simp at this;exact this
  subst hj;simp at hu;subst hu;have:=World.ownsRow.cells h (g:=g) rfl i (.int .u8 (x.toNat:Int)) (by simp[cellsY,hi]);rw[Addr.add_lit] at this;simpa[byteK] using this
set_option maxRecDepth 100000 in
set_option maxHeartbeats 2000000 in
theorem saveC (p:List RuleD) (r:RunD) (pv kv nv:Value) (w:World) (hv:ruleK.sl Anyw w pv p) (hk:Facts w kv r.known) (hn:Facts w nv r.fresh):
  Calls Tryz.prog 25 #[pv,.agg #[kv,nv,.int .i64 r.level,.int .i64 r.rounds,.bool r.done]] w fun e w'=>∃v,e=.returned (.tuple #[v,.int .i64 (saveP p r).1])∧BytO w.heap.size w' v (saveP p r).2∧Below w.heap.size w w':=by
 obtain⟨pa,pc,rfl⟩:=Kind.slice hv;obtain⟨ka,kc,rfl⟩:=sliceFacts hk;obtain⟨na,nc,rfl⟩:=sliceFacts hn;obtain⟨w1,hw1⟩:∃w1,w1=w.alloc (.cells #[.slice ka r.known.length kc,.slice na r.fresh.length nc,.int .i64 r.level,.int .i64 r.rounds,.bool r.done] 47):=⟨_,rfl⟩;have hL1:Later w w1:=by rw[hw1];exact(Later.refl w).alloc _
 have hr1:w1.heap[w.heap.size]?=some (.cells #[.slice ka r.known.length kc,.slice na r.fresh.length nc,.int .i64 r.level,.int .i64 r.rounds,.bool r.done] 47 (0,0)):=by rw[hw1];exact heap_alloc_new w _
 have hlt1:=(Array.getElem?_eq_some_iff.1 hr1).1;have HWr:=hide (wrongRunC p r (.slice pa p.length pc) _ _ w1 (Kind.sl_later hv hL1) (hk.later hL1) (hn.later hL1));have HX:Hid (saveP p r=if wrongRunP p r≠0 then(wrongRunP p r,[]) else(0,wRun r)):=(rfl:_=_);have HBy:Hid (wrongRunP p r=0→ByteR r∧Up r.fresh):=byteR_of;have HK:=hide (hk.later hL1);have HN:=hide (hn.later hL1);have HW1:=hide hw1;have HR1:=hide hr1;have HL1:=hide hL1;obtain⟨q0,q1,q2,q3,q4,_,_⟩:=row5 hr1;clear hv hk hn hL1 hw1 hr1;generalize wrongRunP p r=we at*
 go_enter Tryz.func25,Tryz.ntmps25
 go_wp2_with (first|(rw[←HW1.out])|fail)
 refine HWr.out.mono ?_;rintro e w2 ⟨rfl,hB2⟩;have hr2:=(hB2.block _ hlt1).trans HR1.out;have HB2:=hide (below_trans HL1.out.below hB2 HL1.out.size);have hsz:=HL1.out.size
 by_cases h0:we=0
 ·subst h0;obtain⟨hby,hup⟩:=HBy.out rfl;have HX1:Hid (saveP p r=(0,wRun r)):=by show _=_;rw[HX.out];simp
  obtain⟨K,N,lv,ro,dn⟩:=r;dsimp only at*;obtain⟨lv,rfl⟩:∃n:Nat,lv=(n:Int):=⟨lv.toNat,by have:=hby.lev0;simp only at this;omega⟩;obtain⟨ro,rfl⟩:∃n:Nat,ro=(n:Int):=⟨ro.toNat,by have:=hby.rou0;simp only at this;omega⟩;have HC:=hide (writtenC K N lv ro dn (.slice ka K.length kc) (.slice na N.length nc) w2 (HK.out.below hB2) (HN.out.below hB2) hby hup);obtain⟨q0,q1,q2,q3,q4,_,_⟩:=row5 hr2;clear HX HBy hby hup hr2 hB2 HK HN HWr HW1 HR1
  go_wp2_with fail
  refine HC.out.mono ?_;rintro e w3 ⟨v3,rfl,hO3,hB3⟩;obtain⟨a3,n3,c3,rfl⟩:=hO3.slice3;have HO3:=hide hO3;have HB3:=hide (below_trans HB2.out hB3 HB2.out.size);have hz2:=HB2.out.size;clear hO3 hB3 HC;go_wp2
  go_ret2
  exact⟨.slice a3 n3 c3,by rw[HX1.out];rfl,by rw[HX1.out];exact HO3.out.low hz2,HB3.out⟩
 ·have HX1:Hid (saveP p r=(we,[])):=by show _=_;rw[HX.out,if_pos h0]
  have hne:(we != 0)=true:=by simpa using h0
  clear HX HBy hr2 hB2 HK HN HWr HW1 HR1 h0;go_wp2
  go_ret2
  exact⟨.slice none 0 0,by rw[HX1.out];rfl,by rw[HX1.out];exact BytO.nil _ _,HB2.out⟩
set_option maxRecDepth 100000 in
set_option maxHeartbeats 2000000 in
theorem readC (b:Bs) (bv:Value) (w:World) (hb:LongB Anyw w bv b):
  Calls Tryz.prog 74 #[bv] w fun e w'=>∃v,e=.returned (.tuple #[v,.bool (readP b).2])∧RunO w.heap.size w' v (readP b).1∧Below w.heap.size w w':=by
 obtain⟨ba,bn,bc,rfl⟩:∃a n c,bv=.slice a n c:=by obtain⟨a,c,e⟩:=LongB.slice hb;exact⟨a,_,c,e⟩
 obtain⟨w1,hw1⟩:∃w1,w1=w.alloc (.cells #[.slice none 0 0,.slice none 0 0,.int .i64 0,.int .i64 0,.bool false] 47):=⟨_,rfl⟩;obtain⟨w2,hw2⟩:∃w2,w2=w1.alloc (.cells #[.slice ba bn bc,.bool false] 206):=⟨_,rfl⟩;have hz1:w1.heap.size=w.heap.size+1:=by rw[hw1];simp
 have hz2:w2.heap.size=w.heap.size+2:=by rw[hw2];simp;omega
 have hL2:Later w w2:=by rw[hw2,hw1];exact((Later.refl w).alloc _).alloc _
 have hL12:Later w1 w2:=by rw[hw2];exact(Later.refl w1).alloc _
 have hr1:w1.heap[w.heap.size]?=some (.cells #[.slice none 0 0,.slice none 0 0,.int .i64 0,.int .i64 0,.bool false] 47 (0,0)):=by rw[hw1];exact heap_alloc_new w _
 have hr2:w2.heap[w.heap.size]?=some (.cells #[.slice none 0 0,.slice none 0 0,.int .i64 0,.int .i64 0,.bool false] 47 (0,0)):=(hL12.block (by omega)).trans hr1;have hp2:w2.heap[w.heap.size+1]?=some (.cells #[.slice ba bn bc,.bool false] 206 (0,0)):=by
  have:=heap_alloc_new w1 (.cells #[.slice ba bn bc,.bool false] 206);rw[hw2,←hz1];exact this
 have hR2:RdB w2 (w.heap.size+1) (w.heap.size+2) (b,false):=⟨_,hp2,LongB.kept (LongB.mono hb fun k hk _=>⟨by omega,by omega⟩) hL2.size fun k hk _=>hL2.block hk⟩;have HRun:=hide (runRC (w.heap.size+1) (w.heap.size+2) (b,false) w2 hR2 (by omega) (by omega));have HX:Hid (readP b=((rRun (b,false)).1,!(rRun (b,false)).2.2&&decide ((rRun (b,false)).2.1=[]))):=(rfl:_=_);have HW1:=hide hw1;have HW2:=hide hw2;have HR2:=hide hr2;have HL2:=hide hL2;clear hb hw1 hw2 hL2 hL12 hr1 hr2 hp2 hR2
 go_enter Tryz.func74,Tryz.ntmps74
 go_wp2_with (first|(rw[←HW1.out])|(rw[←HW2.out])|fail)
 refine HRun.out.mono ?_;rintro e w3 ⟨v3,rfl,hO3,hR3,hT3⟩;obtain⟨⟨K,N,lv,ro,dn⟩,l3,am,hrr⟩:∃r l a,rRun (b,false)=(r,(l,a)):=⟨_,_,_,rfl⟩;rw[hrr] at hO3 hR3;obtain⟨kv,nv,rfl,hk3,hn3⟩:=hO3;obtain⟨ka,kc,rfl⟩:=hk3.slice;obtain⟨na,nc,rfl⟩:=hn3.slice;dsimp only at*;obtain⟨w4,hw4⟩:∃w4,w4=w3.alloc (.cells #[.slice ka K.length kc,.slice na N.length nc,.int .i64 lv,.int .i64 ro,.bool dn] 47):=⟨_,rfl⟩;have hL4:Later w3 w4:=by rw[hw4];exact(Later.refl w3).alloc _
 have hr4:w4.heap[w3.heap.size]?=some (.cells #[.slice ka K.length kc,.slice na N.length nc,.int .i64 lv,.int .i64 ro,.bool dn] 47 (0,0)):=by rw[hw4];exact heap_alloc_new w3 _
 have hlt4:=(Array.getElem?_eq_some_iff.1 hr4).1;have hz3:=hT3.size;have hz4:=hL4.size;obtain⟨xv,hx3,hxs⟩:=hR3;obtain⟨xa,xc,rfl⟩:=LongB.slice hxs;have hxl:=hxs.1.1;have hx4:=(hL4.block (Array.getElem?_eq_some_iff.1 hx3).1).trans hx3;have hres4:=(hL4.block (by omega)).trans ((hT3.block w.heap.size (by omega) (by omega)).trans HR2.out);have HX1:Hid (readP b=(⟨K,N,lv,ro,dn⟩,!am&&decide (l3=[]))):=by show _=_;rw[HX.out,hrr]
 have HK4:Hid (OwnF w4 (w.heap.size+2) (.slice ka K.length kc) K):=(hk3.base (by omega)).later hL4;have HN4:Hid (OwnF w4 (w.heap.size+2) (.slice na N.length nc) N):=(hn3.base (by omega)).later hL4;have HB4:Hid (Below w.heap.size w w4):=(HL2.out.below.trans ⟨hT3.os,hT3.tape,hT3.output,hT3.size,fun k hk=>hT3.block k (by omega) (by omega)⟩).trans (hL4.below.mono (by omega));have HS:Hid (∀w':World,w'.heap[w.heap.size+1]?=w4.heap[w.heap.size+1]?∧w'.heap[w3.heap.size]?=w4.heap[w3.heap.size]?→w'.cell? ⟨w.heap.size+1,0,none⟩=some (.slice xa l3.length xc)∧w'.cell? ⟨w.heap.size+1,1,none⟩=some (.bool am)∧w'.heap[w3.heap.size]?=some (.cells #[.slice ka K.length kc,.slice na N.length nc,.int .i64 lv,.int .i64 ro,.bool dn] 47 (0,0))):=fun w' h=>by
  have h1:=rowB (h.1.trans hx4);exact⟨h1.1,h1.2.1,h.2.trans hr4⟩
 have HRs:=hide hres4;have HW4:=hide hw4;have hltr:w.heap.size<w4.heap.size:=by omega
 clear hrr hk3 hn3 hw4 hL4 hr4 hx3 hxs hx4 hres4 HX HR2 HL2 HRun HW1 HW2 hT3;have hd:(((l3.length:Nat):Int)==0)=decide (l3=[]):=by
  cases l3 with
  |nil=>rfl
  |cons c l=>simp;omega
 have HD:=hide hd;clear hd;generalize l3.length=ln at*
 go_wp2_with (first|(rw[←HW4.out])|fail)
 refine wp_region_held_drew (S:=fun w'=>w'.heap[w.heap.size+1]?=w4.heap[w.heap.size+1]?∧w'.heap[w3.heap.size]?=w4.heap[w3.heap.size]?) (by kernel_rfl) ⟨rfl,rfl⟩ (fun hHeld=> ?_);cases am with
 |true=>
  refine take_yes (i:=0) (d:=some 9) (v:= ?_) rfl rfl hHeld ?_ ?_;rotate_left;focus intro w hSw;(try dsimp only at hSw);obtain⟨s0,s1,s2⟩:=HS.out _ hSw;obtain⟨p0,p1,p2,p3,p4,_,_⟩:=row5 s2;go_simp;try with_reducible rfl
  simp only[aput,aset,aze,asu];refine take_yes (i:=1) (d:=some 10) (v:= ?_) rfl rfl hHeld ?_ ?_;rotate_left;focus intro w hSw;(try dsimp only at hSw);obtain⟨s0,s1,s2⟩:=HS.out _ hSw;obtain⟨p0,p1,p2,p3,p4,_,_⟩:=row5 s2;go_simp;try with_reducible rfl
  simp only[aput,aset,aze,asu];refine take_yes (i:=2) (d:=some 11) (v:= ?_) rfl rfl hHeld ?_ ?_;rotate_left;focus intro w hSw;(try dsimp only at hSw);obtain⟨s0,s1,s2⟩:=HS.out _ hSw;obtain⟨p0,p1,p2,p3,p4,_,_⟩:=row5 s2;go_simp;try with_reducible rfl
  simp only[aput,aset,aze,asu];refine take_yes (i:=3) (d:=some 12) (v:= ?_) rfl rfl hHeld ?_ ?_;rotate_left;focus intro w hSw;(try dsimp only at hSw);obtain⟨s0,s1,s2⟩:=HS.out _ hSw;obtain⟨p0,p1,p2,p3,p4,_,_⟩:=row5 s2;go_simp;try with_reducible rfl
  simp only[aput,aset,aze,asu];refine take_yes (i:=4) (d:=some 13) (v:= ?_) rfl rfl hHeld ?_ ?_;rotate_left;focus intro w hSw;(try dsimp only at hSw);obtain⟨s0,s1,s2⟩:=HS.out _ hSw;obtain⟨p0,p1,p2,p3,p4,_,_⟩:=row5 s2;go_simp;try with_reducible rfl
  simp only[aput,aset,aze,asu];refine take_no (i:=5) (d:=some 14) rfl rfl hHeld ?_;simp only[aput,aset,aze,asu];refine take_no (i:=6) (d:=some 15) rfl rfl hHeld ?_;simp only[aput,aset,aze,asu];refine take_no (i:=7) (d:=some 16) rfl rfl hHeld ?_;simp only[aput,aset,aze,asu];refine take_no (i:=8) (d:=some 17) rfl rfl hHeld ?_;simp only[aput,aset,aze,asu];refine take_yes (i:=9) (d:=some 18) (v:= ?_) rfl rfl hHeld ?_ ?_;rotate_left;focus intro w hSw;(try dsimp only at hSw);go_simp;try with_reducible rfl
  simp only[aput,aset,aze,asu];refine wpAnyH_ready (rs:=[10]) (by kernel_rfl) (by simp) ?_;refine AllReadyH.cons rfl (fun K' hK=> ?_) AllReadyH.nil;obtain⟨g0,g1,g2,g3,g4,⟨f0,f1,f2,f3,f4⟩,_⟩:=row5 HRs.out;go_simp;have hTp:=put5_tn w4 w.heap.size (.slice ka K.length kc) (.slice na N.length nc) (.int .i64 lv) (.int .i64 ro) (.bool dn);obtain⟨w6,hw6⟩:∃w6,w6=put5 w4 w.heap.size (.slice ka K.length kc) (.slice na N.length nc) (.int .i64 lv) (.int .i64 ro) (.bool dn):=⟨_,rfl⟩;have hw6':=hw6;unfold put5 at hw6';rw[←hw6'];rw[←hw6] at hTp;have hrow6:w6.heap[w.heap.size]?=some (.cells #[.slice ka K.length kc,.slice na N.length nc,.int .i64 lv,.int .i64 ro,.bool dn] 47 (0,0)):=by rw[hw6];exact set_five HRs.out _ _ _ _ _
  have HK6:Hid (OwnF w6 (w.heap.size+2) (.slice ka K.length kc) K):=by show OwnF _ _ _ _;rw[hw6];exact HK4.out.put5 (by omega)
  have HN6:Hid (OwnF w6 (w.heap.size+2) (.slice na N.length nc) N):=by show OwnF _ _ _ _;rw[hw6];exact HN4.out.put5 (by omega)
  have HB6:Hid (Below w.heap.size w w6):=by show Below _ _ _;rw[hw6];exact Below.put5 HB4.out (Nat.le_refl _)
  obtain⟨r0,r1,r2,r3,r4,_,_⟩:=row5 hrow6;clear hw6 hw6' hrow6;refine hK.out _ _ ⟨hTp.block _ (by omega) (by omega),hTp.block _ (by omega) (by omega)⟩ (fun hHeld=> ?_);clear hTp;clear hK K';refine wpAnyH_ready (rs:=[11]) (by kernel_rfl) (by simp) ?_;refine AllReadyH.cons rfl (fun K' hK=> ?_) AllReadyH.nil;go_simp;refine hK.out _ _ hHeld (fun hHeld=> ?_);clear hK K' hHeld;refine wpAnyH_done (by kernel_rfl) ?_ _;clear g0 g1 g2 g3 g4 f0 f1 f2 f3 f4;go_wp2;exact bodyPost_ret (v:=.tuple #[.agg #[.slice ka K.length kc,.slice na N.length nc,.int .i64 lv,.int .i64 ro,.bool dn],.bool false]) (by simp[results,Tryz.results74,go_sem,r0,r1,r2,r3,r4]) rfl
   ⟨_,by rw[HX1.out];rfl,by rw[HX1.out];exact⟨_,_,rfl,(HK6.out.later (Later.refl _).drew).base (by omega),(HN6.out.later (Later.refl _).drew).base (by omega)⟩,HB6.out.trans (Below.refl _ _).drew⟩
 |false=>
  refine take_yes (i:=0) (d:=some 9) (v:= ?_) rfl rfl hHeld ?_ ?_;rotate_left;focus intro w hSw;(try dsimp only at hSw);obtain⟨s0,s1,s2⟩:=HS.out _ hSw;obtain⟨p0,p1,p2,p3,p4,_,_⟩:=row5 s2;go_simp;try with_reducible rfl
  simp only[aput,aset,aze,asu];refine take_yes (i:=1) (d:=some 10) (v:= ?_) rfl rfl hHeld ?_ ?_;rotate_left;focus intro w hSw;(try dsimp only at hSw);obtain⟨s0,s1,s2⟩:=HS.out _ hSw;obtain⟨p0,p1,p2,p3,p4,_,_⟩:=row5 s2;go_simp;try with_reducible rfl
  simp only[aput,aset,aze,asu];refine take_yes (i:=2) (d:=some 11) (v:= ?_) rfl rfl hHeld ?_ ?_;rotate_left;focus intro w hSw;(try dsimp only at hSw);obtain⟨s0,s1,s2⟩:=HS.out _ hSw;obtain⟨p0,p1,p2,p3,p4,_,_⟩:=row5 s2;go_simp;try with_reducible rfl
  simp only[aput,aset,aze,asu];refine take_yes (i:=3) (d:=some 12) (v:= ?_) rfl rfl hHeld ?_ ?_;rotate_left;focus intro w hSw;(try dsimp only at hSw);obtain⟨s0,s1,s2⟩:=HS.out _ hSw;obtain⟨p0,p1,p2,p3,p4,_,_⟩:=row5 s2;go_simp;try with_reducible rfl
  simp only[aput,aset,aze,asu];refine take_yes (i:=4) (d:=some 13) (v:= ?_) rfl rfl hHeld ?_ ?_;rotate_left;focus intro w hSw;(try dsimp only at hSw);obtain⟨s0,s1,s2⟩:=HS.out _ hSw;obtain⟨p0,p1,p2,p3,p4,_,_⟩:=row5 s2;go_simp;try with_reducible rfl
  simp only[aput,aset,aze,asu];refine take_yes (i:=5) (d:=some 14) (v:= ?_) rfl rfl hHeld ?_ ?_;rotate_left;focus intro w hSw;(try dsimp only at hSw);obtain⟨s0,s1,s2⟩:=HS.out _ hSw;obtain⟨p0,p1,p2,p3,p4,_,_⟩:=row5 s2;go_simp;try with_reducible rfl
  simp only[aput,aset,aze,asu];refine take_yes (i:=6) (d:=some 15) (v:= ?_) rfl rfl hHeld ?_ ?_;rotate_left;focus intro w hSw;(try dsimp only at hSw);obtain⟨s0,s1,s2⟩:=HS.out _ hSw;obtain⟨p0,p1,p2,p3,p4,_,_⟩:=row5 s2;go_simp;try with_reducible rfl
  simp only[aput,aset,aze,asu];refine take_yes (i:=7) (d:=some 16) (v:= ?_) rfl rfl hHeld ?_ ?_;rotate_left;focus intro w hSw;(try dsimp only at hSw);obtain⟨s0,s1,s2⟩:=HS.out _ hSw;obtain⟨p0,p1,p2,p3,p4,_,_⟩:=row5 s2;go_simp;try with_reducible rfl
  simp only[aput,aset,aze,asu];refine take_yes (i:=8) (d:=some 17) (v:= ?_) rfl rfl hHeld ?_ ?_;rotate_left;focus intro w hSw;(try dsimp only at hSw);obtain⟨s0,s1,s2⟩:=HS.out _ hSw;obtain⟨p0,p1,p2,p3,p4,_,_⟩:=row5 s2;go_simp;try with_reducible rfl
  simp only[aput,aset,aze,asu];refine take_yes (i:=9) (d:=some 18) (v:= ?_) rfl rfl hHeld ?_ ?_;rotate_left;focus intro w hSw;(try dsimp only at hSw);go_simp;try with_reducible rfl
  simp only[aput,aset,aze,asu];refine wpAnyH_ready (rs:=[10]) (by kernel_rfl) (by simp) ?_;refine AllReadyH.cons rfl (fun K' hK=> ?_) AllReadyH.nil;obtain⟨g0,g1,g2,g3,g4,⟨f0,f1,f2,f3,f4⟩,_⟩:=row5 HRs.out;go_simp;have hTp:=put5_tn w4 w.heap.size (.slice ka K.length kc) (.slice na N.length nc) (.int .i64 lv) (.int .i64 ro) (.bool dn);obtain⟨w6,hw6⟩:∃w6,w6=put5 w4 w.heap.size (.slice ka K.length kc) (.slice na N.length nc) (.int .i64 lv) (.int .i64 ro) (.bool dn):=⟨_,rfl⟩;have hw6':=hw6;unfold put5 at hw6';rw[←hw6'];rw[←hw6] at hTp;have hrow6:w6.heap[w.heap.size]?=some (.cells #[.slice ka K.length kc,.slice na N.length nc,.int .i64 lv,.int .i64 ro,.bool dn] 47 (0,0)):=by rw[hw6];exact set_five HRs.out _ _ _ _ _
  have HK6:Hid (OwnF w6 (w.heap.size+2) (.slice ka K.length kc) K):=by show OwnF _ _ _ _;rw[hw6];exact HK4.out.put5 (by omega)
  have HN6:Hid (OwnF w6 (w.heap.size+2) (.slice na N.length nc) N):=by show OwnF _ _ _ _;rw[hw6];exact HN4.out.put5 (by omega)
  have HB6:Hid (Below w.heap.size w w6):=by show Below _ _ _;rw[hw6];exact Below.put5 HB4.out (Nat.le_refl _)
  obtain⟨r0,r1,r2,r3,r4,_,_⟩:=row5 hrow6;clear hw6 hw6' hrow6;refine hK.out _ _ ⟨hTp.block _ (by omega) (by omega),hTp.block _ (by omega) (by omega)⟩ (fun hHeld=> ?_);clear hTp;clear hK K';refine wpAnyH_ready (rs:=[11]) (by kernel_rfl) (by simp) ?_;refine AllReadyH.cons rfl (fun K' hK=> ?_) AllReadyH.nil;go_simp;refine hK.out _ _ hHeld (fun hHeld=> ?_);clear hK K' hHeld;refine wpAnyH_done (by kernel_rfl) ?_ _;clear g0 g1 g2 g3 g4 f0 f1 f2 f3 f4;go_wp2;exact bodyPost_ret (v:=.tuple #[.agg #[.slice ka K.length kc,.slice na N.length nc,.int .i64 lv,.int .i64 ro,.bool dn],.bool ((ln:Int)==0)]) (by simp[results,Tryz.results74,go_sem,r0,r1,r2,r3,r4]) rfl
   ⟨_,by rw[HX1.out,HD.out];rfl,by rw[HX1.out];exact⟨_,_,rfl,(HK6.out.later (Later.refl _).drew).base (by omega),(HN6.out.later (Later.refl _).drew).base (by omega)⟩,HB6.out.trans (Below.refl _ _).drew⟩
end Go.Proofs.YtafmbokfkbccaaaGreatDoor
namespace Go.Proofs.YtafmbokfkbccaaaGreatDoor
open Go.RowKit Go.Sort
theorem read_few (b:Bs):(readP b).1.known.length<256∧(readP b).1.fresh.length<256:=by
 unfold readP rRun;dsimp only;have h1:(rFacts (rHead (b,false)).1.2.2.2.2 (rHead (b,false)).2).1.length<256:=by
  rw[rFacts_len];unfold rHead;dsimp only;exact rNum_le _
 exact⟨h1,Nat.lt_of_le_of_lt (rNews_len _ _) h1⟩
set_option maxRecDepth 100000 in
set_option maxHeartbeats 2000000 in
theorem loadC (p:List RuleD) (b:Bs) (pv bv:Value) (w:World) (hv:ruleK.sl Anyw w pv p) (hb:LongB Anyw w bv b):
  Calls Tryz.prog 27 #[pv,bv] w fun e w'=>∃v,e=.returned (.tuple #[v,.int .i64 (loadP p b).1])∧RunO (w.heap.size+1) w' v (loadP p b).2∧Below w.heap.size w w':=by
 obtain⟨pa,pc,rfl⟩:=Kind.slice hv;obtain⟨ba,bc,rfl⟩:=LongB.slice hb;obtain⟨w1,hw1⟩:∃w1,w1=w.alloc (.cells #[.slice none 0 0,.slice none 0 0,.int .i64 0,.int .i64 0,.bool false] 47):=⟨_,rfl⟩;have hz1:w1.heap.size=w.heap.size+1:=by rw[hw1];simp
 have hL1:Later w w1:=by rw[hw1];exact(Later.refl w).alloc _
 have hr1:w1.heap[w.heap.size]?=some (.cells #[.slice none 0 0,.slice none 0 0,.int .i64 0,.int .i64 0,.bool false] 47 (0,0)):=by rw[hw1];exact heap_alloc_new w _
 have HRd:=hide (readC b (.slice ba b.length bc) w1 (LongB.later hb hL1));have HX:Hid (loadP p b=if(readP b).2=false then(2,noRun) else if wrongRunP p (readP b).1≠0 then(wrongRunP p (readP b).1,noRun) else(0,(readP b).1)):=(rfl:_=_);obtain⟨r,ok,hrb⟩:∃r ok,readP b=(r,ok):=⟨_,_,rfl⟩;have HFw:Hid (r.known.length<256∧r.fresh.length<256):=by have:=read_few b;rw[hrb] at this;exact this
 rw[hrb] at HX HRd;have HW1:=hide hw1;have HR1:=hide hr1;have HL1:=hide hL1;have HV:=hide (Kind.sl_later hv hL1);clear hv hb hw1 hL1 hr1 hrb;dsimp only at HX HRd;generalize b.length=bn at*
 go_enter Tryz.func27,Tryz.ntmps27
 go_wp2_with (first|(rw[←HW1.out])|fail)
 refine HRd.out.mono ?_;rintro e w2 ⟨v2,rfl,⟨kv,nv,rfl,hk2,hn2⟩,hB2⟩;obtain⟨ka,kc,rfl⟩:=hk2.slice;obtain⟨na,nc,rfl⟩:=hn2.slice;obtain⟨w3,hw3⟩:∃w3,w3=w2.alloc (.cells #[.slice ka r.known.length kc,.slice na r.fresh.length nc,.int .i64 r.level,.int .i64 r.rounds,.bool r.done] 47):=⟨_,rfl⟩;have hL3:Later w2 w3:=by rw[hw3];exact(Later.refl w2).alloc _
 have hr3:w3.heap[w2.heap.size]?=some (.cells #[.slice ka r.known.length kc,.slice na r.fresh.length nc,.int .i64 r.level,.int .i64 r.rounds,.bool r.done] 47 (0,0)):=by rw[hw3];exact heap_alloc_new w2 _
 have hlt3:=(Array.getElem?_eq_some_iff.1 hr3).1;have hB13:Below w1.heap.size w1 w3:=below_trans hB2 hL3.below hB2.size;have hres3:=(hB13.block w.heap.size (by omega)).trans HR1.out;have hz2:=hB2.size;have hkl:r.known.length≤3518437208883:=by have:=HFw.out.1;omega
 have hnl:r.fresh.length≤3518437208883:=by have:=HFw.out.2;omega
 have HK3:Hid (OwnF w3 (w.heap.size+1) (.slice ka r.known.length kc) r.known):=(hk2.base (by omega)).later hL3;have HN3:Hid (OwnF w3 (w.heap.size+1) (.slice na r.fresh.length nc) r.fresh):=(hn2.base (by omega)).later hL3;have HB3:Hid (Below w.heap.size w w3):=below_trans HL1.out.below hB13 HL1.out.size;have HWr:=hide (wrongRunC p r (.slice pa p.length pc) _ _ w3 (Kind.sl_below HV.out hB13) (HK3.out.facts hkl) (HN3.out.facts hnl));have HR3:=hide hr3;have HS3:=hide hres3;have HW3:=hide hw3;obtain⟨q0,q1,q2,q3,q4,_,_⟩:=row5 hr3;obtain⟨e0,e1,e2,e3,e4,⟨f0,f1,f2,f3,f4⟩,hltr⟩:=row5 hres3;clear hk2 hn2 hw3 hL3 hr3 hres3 hB2 hB13 HRd HR1 HW1;cases ok with
 |false=>
  have HX1:Hid (loadP p b=(2,noRun)):=by show _=_;rw[HX.out];rfl
  clear HX HWr
  go_wp2_with (first|(rw[←HW3.out])|fail)
  obtain⟨r0,r1,r2,r3,r4⟩:=set5 HS3.out (.slice none 0 0) (.slice none 0 0) (.int .i64 0) (.int .i64 0) (.bool false);exact bodyPost_ret (v:=.tuple #[.agg #[.slice none 0 0,.slice none 0 0,.int .i64 0,.int .i64 0,.bool false],.int .i64 2]) (by simp[results,Tryz.results27,go_sem,r0,r1,r2,r3,r4]) rfl
   ⟨_,by rw[HX1.out],by rw[HX1.out];exact RunO.none _ _,Below.put5 HB3.out (Nat.le_refl _)⟩
 |true=>
  generalize wrongRunP p r=we at*
  go_wp2_with (first|(rw[←HW3.out])|fail)
  refine HWr.out.mono ?_;rintro e w4 ⟨rfl,hB4⟩;have hr4:=(hB4.block _ hlt3).trans HR3.out;have hres4:=(hB4.block _ hltr).trans HS3.out;have HB4:=hide (below_trans HB3.out hB4 HB3.out.size);clear q0 q1 q2 q3 q4 e0 e1 e2 e3 e4 f0 f1 f2 f3 f4;obtain⟨q0,q1,q2,q3,q4,_,_⟩:=row5 hr4;obtain⟨e0,e1,e2,e3,e4,⟨f0,f1,f2,f3,f4⟩,_⟩:=row5 hres4;have HS4:=hide hres4;have HK4:Hid (OwnF w4 (w.heap.size+1) (.slice ka r.known.length kc) r.known):=HK3.out.stay hB4.size fun k hk _=>hB4.block k hk;have HN4:Hid (OwnF w4 (w.heap.size+1) (.slice na r.fresh.length nc) r.fresh):=HN3.out.stay hB4.size fun k hk _=>hB4.block k hk;clear hr4 hres4 hB4 HWr HW3 HR3 HS3 HK3 HN3 HB3
  by_cases h0:we=0
  ·subst h0;have HX1:Hid (loadP p b=(0,r)):=by show _=_;rw[HX.out];simp
   clear HX;go_wp2;obtain⟨r0,r1,r2,r3,r4⟩:=set5 HS4.out (.slice ka r.known.length kc) (.slice na r.fresh.length nc) (.int .i64 r.level) (.int .i64 r.rounds) (.bool r.done);exact bodyPost_ret (v:=.tuple #[.agg #[.slice ka r.known.length kc,.slice na r.fresh.length nc,.int .i64 r.level,.int .i64 r.rounds,.bool r.done],.int .i64 0]) (by simp[results,Tryz.results27,go_sem,r0,r1,r2,r3,r4]) rfl
    ⟨_,by rw[HX1.out],by rw[HX1.out];exact⟨_,_,rfl,HK4.out.put5 (by omega),HN4.out.put5 (by omega)⟩,Below.put5 HB4.out (Nat.le_refl _)⟩
  ·have HX1:Hid (loadP p b=(we,noRun)):=by show _=_;rw[HX.out];simp[h0]
   have hne:(we != 0)=true:=by simpa using h0
   clear HX h0;go_wp2;obtain⟨r0,r1,r2,r3,r4⟩:=set5 HS4.out (.slice none 0 0) (.slice none 0 0) (.int .i64 0) (.int .i64 0) (.bool false);exact bodyPost_ret (v:=.tuple #[.agg #[.slice none 0 0,.slice none 0 0,.int .i64 0,.int .i64 0,.bool false],.int .i64 we]) (by simp[results,Tryz.results27,go_sem,r0,r1,r2,r3,r4]) rfl
    ⟨_,by rw[HX1.out],by rw[HX1.out];exact RunO.none _ _,Below.put5 HB4.out (Nat.le_refl _)⟩
end Go.Proofs.YtafmbokfkbccaaaGreatDoor
namespace Go.Proofs.YtafmbokfkbccaaaGreatDoor
open Go.RowKit Go.Sort Go.Maps
def stepsF (p:List RuleD) (r:RunD) (n:Int):Int×RunD:=if wrongRunP p r≠0 then(wrongRunP p r,noRun) else if(decide (0≤n)&&decide (n≤1000))=false then(3,noRun) else stepsP p (strataP p).1 n.toNat r
theorem RunO.slices {b:Nat} {w:World} {v:Value} {r:RunD} (h:RunO b w v r):∃ka kc na nc,v=.agg #[.slice ka r.known.length kc,.slice na r.fresh.length nc,.int .i64 r.level,.int .i64 r.rounds,.bool r.done]∧OwnF w b (.slice ka r.known.length kc) r.known∧OwnF w b (.slice na r.fresh.length nc) r.fresh:=by
 obtain⟨kv,nv,h1,h2,h3⟩:=h;obtain⟨ka,kc,rfl⟩:=h2.slice;obtain⟨na,nc,rfl⟩:=h3.slice;exact⟨ka,kc,na,nc,h1,h2,h3⟩
set_option maxRecDepth 100000 in
set_option maxHeartbeats 4000000 in
theorem roundSteps (p:List RuleD) (r:RunD) (n:Int) (pv kv nv:Value) (w:World) (hv:ruleK.sl Anyw w pv p) (hk:Facts w kv r.known) (hn:Facts w nv r.fresh):
  Calls Tryz.prog 36 #[pv,.agg #[kv,nv,.int .i64 r.level,.int .i64 r.rounds,.bool r.done],.int .i64 n] w fun e w'=>∃v' er,e=.returned (.tuple #[v',.int .i64 er])∧NextT (w.heap.size+2) w' v' er (stepsF p r n)∧Below w.heap.size w w':=by
 obtain⟨K,N,lev,rn,dn⟩:=r;dsimp only at*;obtain⟨pa,pc,rfl⟩:=Kind.slice hv;obtain⟨ka,kc,rfl⟩:=sliceFacts hk;obtain⟨na,nc,rfl⟩:=sliceFacts hn;obtain⟨w2,hw2⟩:∃w2,w2=(w.alloc (.cells #[.slice ka K.length kc,.slice na N.length nc,.int .i64 lev,.int .i64 rn,.bool dn] 47)).alloc (.cells #[.slice none 0 0,.slice none 0 0,.int .i64 0,.int .i64 0,.bool false] 47):=⟨_,rfl⟩;have hL2:Later w w2:=by rw[hw2];exact((Later.refl w).alloc _).alloc _
 have hz2:w2.heap.size=w.heap.size+2:=by rw[hw2];simp
 have hrb:w2.heap[w.heap.size]?=some (.cells #[.slice ka K.length kc,.slice na N.length nc,.int .i64 lev,.int .i64 rn,.bool dn] 47 (0,0)):=by
  rw[hw2,Below.heap_alloc _ _ _ (by simp)];exact heap_alloc_new w _
 have hrs:w2.heap[w.heap.size+1]?=some (.cells #[.slice none 0 0,.slice none 0 0,.int .i64 0,.int .i64 0,.bool false] 47 (0,0)):=by
  have:=heap_alloc_new (w.alloc (.cells #[.slice ka K.length kc,.slice na N.length nc,.int .i64 lev,.int .i64 rn,.bool dn] 47)) (.cells #[.slice none 0 0,.slice none 0 0,.int .i64 0,.int .i64 0,.bool false] 47);rw[hw2];simpa using this
 have HOf:=hide (strataOfC p ⟨K,N,lev,rn,dn⟩ (.slice pa p.length pc) (.slice ka K.length kc) (.slice na N.length nc) w2 (Kind.sl_later hv hL2) (hk.later hL2) (hn.later hL2));have HV:=hide hv;have HK:=hide hk;have HN:=hide hn;have HL2:=hide hL2;have HRb:=hide hrb;have HRs:=hide hrs;have HW2:=hide hw2;have HX:Hid (stepsF p ⟨K,N,lev,rn,dn⟩ n=if wrongRunP p ⟨K,N,lev,rn,dn⟩≠0 then(wrongRunP p ⟨K,N,lev,rn,dn⟩,noRun) else if(decide (0≤n)&&decide (n≤1000))=false then(3,noRun) else stepsP p (strataP p).1 n.toNat ⟨K,N,lev,rn,dn⟩):=(rfl:_=_);have HGo:Hid (wrongRunP p ⟨K,N,lev,rn,dn⟩=0→RightP p∧∃σ:RuleD→Nat,(strataP p).1=p.map σ∧RightN p (countP (p.map σ)) ⟨K,N,lev,rn,dn⟩∧∀s∈p.map σ,s<1000):=fun h=>by
  obtain⟨h1,h2⟩:=wrongRun_zero h;obtain⟨hp,_,τ,_,hs,ht⟩:=forE_zero h1;have e:(strataP p).1=p.map fun r=>τ r.head.name:=by rw[hs]
  refine⟨hp,_,e,e▸h2,fun s hs'=> ?_⟩;obtain⟨q,hq,rfl⟩:=List.mem_map.1 hs';have:=ht q hq;omega
 unfold OfT at HOf;generalize stepsF p ⟨K,N,lev,rn,dn⟩ n=SF at*;generalize wrongRunP p ⟨K,N,lev,rn,dn⟩=R at*;generalize(strataP p).1=ss at*;clear hv hk hn hL2 hrb hrs hw2
 go_enter Tryz.func36,Tryz.ntmps36
 go_wp2_with fail
 rw[←HW2.out];refine HOf.out.mono ?_;rintro e w3 ⟨v1,rfl,⟨⟨a1,n1,c1,rfl⟩,hs1⟩,hB3⟩;have HB3:Hid (Below w.heap.size w w3):=below_trans HL2.out.below hB3 HL2.out.size;have HRb3:Hid (w3.heap[w.heap.size]?=some (.cells #[.slice ka K.length kc,.slice na N.length nc,.int .i64 lev,.int .i64 rn,.bool dn] 47 (0,0))):=by show _=_;rw[hB3.block _ (by omega)];exact HRb.out
 have HRs3:Hid (w3.heap[w.heap.size+1]?=some (.cells #[.slice none 0 0,.slice none 0 0,.int .i64 0,.int .i64 0,.bool false] 47 (0,0))):=by show _=_;rw[hB3.block _ (by omega)];exact HRs.out
 have HS1:Hid (R=0→intK.sl (From (w.heap.size+2)) w3 (.slice a1 n1 c1) ss):=fun h=>Kind.sl_mono (hs1 h) fun k _ h=>Nat.le_trans (by omega) h;have hz3:w.heap.size+2≤w3.heap.size:=by have:=hB3.size;omega
 clear hB3 hs1 HOf HW2 HRb HRs HL2 hz2 w2;obtain⟨b0,b1,b2,b3,b4,_,_⟩:=row5 HRb3.out;obtain⟨q0,q1,q2,q3,q4,⟨f0,f1,f2,f3,f4⟩,_⟩:=row5 HRs3.out
 by_cases h0:R=0
 ·subst h0;obtain⟨hp,σ,hss,hRN,hsm⟩:=HGo.out rfl;have HV1:=hide (HS1.out rfl);have hn1:n1=ss.length:=by obtain⟨_,_,e⟩:=Kind.slice HV1.out;simp only[Value.slice.injEq] at e;exact e.2.1
  subst hn1;have HW1:=hide (withinC n 1000 w3);have HX1:Hid (SF=if(decide (0≤n)&&decide (n≤1000))=false then(3,noRun) else stepsP p ss n.toNat ⟨K,N,lev,rn,dn⟩):=by show _=_;rw[HX.out];simp
  have hA:(decide (0≤n)&&decide (n≤1000))=true→0≤n∧n≤1000:=fun h=>by simpa using h
  have HA:=hide hA;have HRP:=hide hp;have HRN:=hide hRN;have HSm:=hide hsm;have HSS:=hide hss;clear HX HGo HS1 hp hss hRN hsm hA;generalize(decide (0≤n)&&decide (n≤1000))=A at*;cases A with
  |false=>
   have HX2:Hid (SF=(3,noRun)):=by show _=_;rw[HX1.out];rfl
   go_wp2_with fail
   refine HW1.out.mono ?_;rintro e w4 ⟨rfl,h4⟩;obtain rfl:w3=w4:=h4.symm;clear h4;go_wp2;obtain⟨r0,r1,r2,r3,r4⟩:=set5 HRs3.out (.slice none 0 0) (.slice none 0 0) (.int .i64 0) (.int .i64 0) (.bool false);exact bodyPost_ret (v:=.tuple #[.agg #[.slice none 0 0,.slice none 0 0,.int .i64 0,.int .i64 0,.bool false],.int .i64 3]) (by simp[results,Tryz.results36,go_sem,r0,r1,r2,r3,r4]) rfl ⟨_,3,rfl,by rw[HX2.out];exact⟨rfl,RunO.none _ _⟩,Below.put5 HB3.out (Nat.le_succ _)⟩
  |true=>
   obtain⟨hn0,hn1⟩:=HA.out rfl;obtain⟨m,rfl⟩:∃m:Nat,n=(m:Int):=⟨n.toNat,by omega⟩;have HX2:Hid (SF=stepsP p ss m ⟨K,N,lev,rn,dn⟩):=by show _=_;rw[HX1.out];simp
   have HOw:=hide (ownedC ⟨K,N,lev,rn,dn⟩ (.slice ka K.length kc) (.slice na N.length nc) w3 (HK.out.below HB3.out) (HN.out.below HB3.out));clear HX1 HA
   go_wp2_with fail
   refine HW1.out.mono ?_;rintro e w4 ⟨rfl,h4⟩;obtain rfl:w3=w4:=h4.symm;clear h4 HW1
   go_wp2_with fail
   refine HOw.out.mono ?_;rintro e w4 ⟨v4,rfl,hR4,hB4⟩;obtain⟨xa,xc,ya,yc,rfl,hO4,hN4⟩:=hR4.slices;dsimp only at hO4 hN4⊢;have HB4:Hid (Below w.heap.size w w4):=below_trans HB3.out hB4 HB3.out.size;have hr4:w4.heap[w.heap.size]?=some (.cells #[.slice ka K.length kc,.slice na N.length nc,.int .i64 lev,.int .i64 rn,.bool dn] 47 (0,0)):=by rw[hB4.block _ (by omega)];exact HRb3.out
   have hs4:w4.heap[w.heap.size+1]?=some (.cells #[.slice none 0 0,.slice none 0 0,.int .i64 0,.int .i64 0,.bool false] 47 (0,0)):=by rw[hB4.block _ (by omega)];exact HRs3.out
   have hz4:w.heap.size+2≤w4.heap.size:=by have:=hB4.size;omega
   clear b0 b1 b2 b3 b4 q0 q1 q2 q3 q4 f0 f1 f2 f3 f4;have HO5:Hid (OwnF (put5 w4 w.heap.size (.slice xa K.length xc) (.slice ya N.length yc) (.int .i64 lev) (.int .i64 rn) (.bool dn)) (w.heap.size+2) (.slice xa K.length xc) K):=(hO4.base (by omega)).put5 (by omega);have HN5:Hid (OwnF (put5 w4 w.heap.size (.slice xa K.length xc) (.slice ya N.length yc) (.int .i64 lev) (.int .i64 rn) (.bool dn)) (w.heap.size+2) (.slice ya N.length yc) N):=(hN4.base (by omega)).put5 (by omega);have HRb5:=hide (set_five hr4 (.slice xa K.length xc) (.slice ya N.length yc) (.int .i64 lev) (.int .i64 rn) (.bool dn));have HRs5:Hid ((put5 w4 w.heap.size (.slice xa K.length xc) (.slice ya N.length yc) (.int .i64 lev) (.int .i64 rn) (.bool dn)).heap[w.heap.size+1]?=some (.cells #[.slice none 0 0,.slice none 0 0,.int .i64 0,.int .i64 0,.bool false] 47 (0,0))):=by show _=_;rw[(put5_tn w4 w.heap.size _ _ _ _ _).block _ (by omega) (by omega)];exact hs4
   have HB5:Hid (Below w.heap.size w (put5 w4 w.heap.size (.slice xa K.length xc) (.slice ya N.length yc) (.int .i64 lev) (.int .i64 rn) (.bool dn))):=Below.put5 HB4.out (Nat.le_refl _);have HV5:Hid (intK.sl (From (w.heap.size+2)) (put5 w4 w.heap.size (.slice xa K.length xc) (.slice ya N.length yc) (.int .i64 lev) (.int .i64 rn) (.bool dn)) (.slice a1 ss.length c1) ss):=Kind.sl_kept (Kind.sl_far HV1.out hB4) (put5_tn _ _ _ _ _ _ _).size fun k hk hb=>(put5_tn w4 w.heap.size _ _ _ _ _).block k hk (by have:w.heap.size+2≤k:=hb;omega);obtain⟨b0,b1,b2,b3,b4,⟨g0,g1,g2,g3,g4⟩,_⟩:=row5 hr4;clear hr4 hs4 hO4 hN4 hR4 hB4 HOw HRb3 HRs3;go_wp2
   go_loopg [2,9] m (fun g nn ee wr=>∃k:Nat,k=g∧nn=.int .i64 k∧ee=.int .i64 0∧k≤1000∧∃(X:RunD) (xa ya:Option Addr) (xc yc:Nat),Hid (RightN p (countP (p.map σ)) X)∧Hid (wr.heap[w.heap.size]?=some (.cells #[.slice xa X.known.length xc,.slice ya X.fresh.length yc,.int .i64 X.level,.int .i64 X.rounds,.bool X.done] 47 (0,0)))∧
    Hid (OwnF wr (w.heap.size+2) (.slice xa X.known.length xc) X.known)∧Hid (OwnF wr (w.heap.size+2) (.slice ya X.fresh.length yc) X.fresh)∧Hid (wr.heap[w.heap.size+1]?=some (.cells #[.slice none 0 0,.slice none 0 0,.int .i64 0,.int .i64 0,.bool false] 47 (0,0)))∧Hid (Below w.heap.size w wr)∧w.heap.size+2≤wr.heap.size∧Hid (intK.sl (From (w.heap.size+2)) wr (.slice a1 ss.length c1) ss)∧Hid (SF=stepsP p ss k X))
   case atStart=>exact⟨m,rfl,rfl,rfl,by omega,⟨K,N,lev,rn,dn⟩,xa,ya,xc,yc,HRN,HRb5,HO5,HN5,HRs5,HB5,by simp only[size_setCell];exact hz4,HV5,HX2⟩
   case round=>
    clear HRN HRb5 HO5 HN5 HRs5 HB5 HX2 HV5 HV1 b0 b1 b2 b3 b4 g0 g1 g2 g3 g4 HB4 hz4 HB3 hz3 HK HN;obtain⟨k,hkg,rfl,rfl,hk1,X,xa,ya,xc,yc,HRN,HRb,HO,HN',HRs,HB,hz,HVr,HX⟩:=hrel
    by_cases hk0:k=0
    ·have hkz:¬((0:Int)<(k:Int)):=by omega
     have HT:Hid (SF=(0,X)):=by show _=_;rw[HX.out,hk0];rfl
     clear hk0;obtain⟨b0,b1,b2,b3,b4,_,_⟩:=row5 HRb.out;obtain⟨q0,q1,q2,q3,q4,⟨f0,f1,f2,f3,f4⟩,_⟩:=row5 HRs.out;go_wp2;obtain⟨r0,r1,r2,r3,r4⟩:=set5 HRs.out (.slice xa X.known.length xc) (.slice ya X.fresh.length yc) (.int .i64 X.level) (.int .i64 X.rounds) (.bool X.done);exact bodyPost_ret (v:=.tuple #[.agg #[.slice xa X.known.length xc,.slice ya X.fresh.length yc,.int .i64 X.level,.int .i64 X.rounds,.bool X.done],.int .i64 0]) (by simp[results,Tryz.results36,go_sem,r0,r1,r2,r3,r4]) rfl
      ⟨_,0,rfl,by rw[HT.out];exact⟨rfl,_,_,rfl,HO.out.put5 (by omega),HN'.out.put5 (by omega)⟩,Below.put5 HB.out (Nat.le_succ _)⟩
    ·obtain⟨k,rfl⟩:∃k',k=k'+1:=⟨k-1,by omega⟩;cases hdn:X.done with
     |true=>
      have HT:Hid (SF=(0,X)):=by show _=_;rw[HX.out];exact steps_done hdn _
      obtain⟨b0,b1,b2,b3,b4,_,_⟩:=row5 HRb.out;obtain⟨q0,q1,q2,q3,q4,⟨f0,f1,f2,f3,f4⟩,_⟩:=row5 HRs.out;rw[hdn] at b4;have HDn:=hide hdn;clear hdn;go_wp2;obtain⟨r0,r1,r2,r3,r4⟩:=set5 HRs.out (.slice xa X.known.length xc) (.slice ya X.fresh.length yc) (.int .i64 X.level) (.int .i64 X.rounds) (.bool true);exact bodyPost_ret (v:=.tuple #[.agg #[.slice xa X.known.length xc,.slice ya X.fresh.length yc,.int .i64 X.level,.int .i64 X.rounds,.bool true],.int .i64 0]) (by simp[results,Tryz.results36,go_sem,r0,r1,r2,r3,r4]) rfl
       ⟨_,0,rfl,by rw[HT.out];exact⟨rfl,_,_,by rw[HDn.out],HO.out.put5 (by omega),HN'.out.put5 (by omega)⟩,Below.put5 HB.out (Nat.le_succ _)⟩
     |false=>
      have hX1:=HX.out;rw[steps_next hdn] at hX1;have HX1:=hide hX1;have hNx:=nextC p HRP.out σ X HRN.out hdn HSm.out (.slice pa p.length pc) (.slice a1 ss.length c1) (.slice xa X.known.length xc) (.slice ya X.fresh.length yc) wr (Kind.sl_below HV.out HB.out) (by rw[←HSS.out];exact Kind.sl_any HVr.out) (HO.out.facts (by have:=HRN.out.good.few;omega)) (HN'.out.facts (by have:=Nat.le_trans (up_le HRN.out.up HRN.out.sub) HRN.out.good.few;omega));rw[←HSS.out] at hNx;obtain⟨er,Y,hY⟩:∃er Y,nextP p ss X=(er,Y):=⟨_,_,rfl⟩;have HRY:Hid (er=0→RightN p (countP (p.map σ)) Y):=fun h=>(next_right HRP.out σ HRN.out hdn (by rw[←HSS.out,hY,h])).1;rw[hY,hdn] at hNx;rw[hY] at HX1;have HNx:=hide hNx;have HRb':=HRb;rw[hdn] at HRb';obtain⟨b0,b1,b2,b3,b4,_,_⟩:=row5 HRb'.out;have hkp:(0:Int)<((k+1:Nat):Int):=by omega
      clear hNx hY hX1 hdn HX
      go_wp2_with fail
      refine HNx.out.mono ?_;rintro e w5 ⟨v5,er',rfl,⟨her,hR5⟩,hB5⟩;dsimp only at her hR5;obtain rfl:er=er':=her.symm;clear her;obtain⟨za,zc,ua,uc,rfl,hO5,hN5⟩:=hR5.slices;have hr5:w5.heap[w.heap.size]?=some (.cells #[.slice xa X.known.length xc,.slice ya X.fresh.length yc,.int .i64 X.level,.int .i64 X.rounds,.bool false] 47 (0,0)):=by rw[hB5.block _ (by omega)];exact HRb'.out
      have hs5:w5.heap[w.heap.size+1]?=some (.cells #[.slice none 0 0,.slice none 0 0,.int .i64 0,.int .i64 0,.bool false] 47 (0,0)):=by rw[hB5.block _ (by omega)];exact HRs.out
      have hz5:w.heap.size+2≤w5.heap.size:=by have:=hB5.size;omega
      have HRb5:=hide (set_five hr5 (.slice za Y.known.length zc) (.slice ua Y.fresh.length uc) (.int .i64 Y.level) (.int .i64 Y.rounds) (.bool Y.done));have HRs5:Hid ((put5 w5 w.heap.size (.slice za Y.known.length zc) (.slice ua Y.fresh.length uc) (.int .i64 Y.level) (.int .i64 Y.rounds) (.bool Y.done)).heap[w.heap.size+1]?=some (.cells #[.slice none 0 0,.slice none 0 0,.int .i64 0,.int .i64 0,.bool false] 47 (0,0))):=by show _=_;rw[(put5_tn w5 w.heap.size _ _ _ _ _).block _ (by omega) (by omega)];exact hs5
      have HB5:Hid (Below w.heap.size w (put5 w5 w.heap.size (.slice za Y.known.length zc) (.slice ua Y.fresh.length uc) (.int .i64 Y.level) (.int .i64 Y.rounds) (.bool Y.done))):=Below.put5 (below_trans HB.out hB5 HB.out.size) (Nat.le_refl _);have HO5:Hid (OwnF (put5 w5 w.heap.size (.slice za Y.known.length zc) (.slice ua Y.fresh.length uc) (.int .i64 Y.level) (.int .i64 Y.rounds) (.bool Y.done)) (w.heap.size+2) (.slice za Y.known.length zc) Y.known):=(hO5.base (by omega)).put5 (by omega);have HN5:Hid (OwnF (put5 w5 w.heap.size (.slice za Y.known.length zc) (.slice ua Y.fresh.length uc) (.int .i64 Y.level) (.int .i64 Y.rounds) (.bool Y.done)) (w.heap.size+2) (.slice ua Y.fresh.length uc) Y.fresh):=(hN5.base (by omega)).put5 (by omega);have HV5:Hid (intK.sl (From (w.heap.size+2)) (put5 w5 w.heap.size (.slice za Y.known.length zc) (.slice ua Y.fresh.length uc) (.int .i64 Y.level) (.int .i64 Y.rounds) (.bool Y.done)) (.slice a1 ss.length c1) ss):=Kind.sl_kept (Kind.sl_far HVr.out hB5) (put5_tn _ _ _ _ _ _ _).size fun k hk hb=>(put5_tn w5 w.heap.size _ _ _ _ _).block k hk (by have:w.heap.size+2≤k:=hb;omega);clear b0 b1 b2 b3 b4;obtain⟨b0,b1,b2,b3,b4,⟨g0,g1,g2,g3,g4⟩,_⟩:=row5 hr5;obtain⟨q0,q1,q2,q3,q4,⟨f0,f1,f2,f3,f4⟩,_⟩:=row5 hs5;clear hR5 hB5 hO5 hN5 hr5 hs5 HNx HRb HRb' HO HN' HRs HB hz HVr HRN
      by_cases he:er=0
      ·subst he;have HX5:Hid (SF=stepsP p ss k Y):=by show _=_;rw[HX1.out];simp
       have HRY':=hide (HRY.out rfl);clear HX1 HRY;go_wp2
       go_roundg k
       case measure=>omega
       case rel=>exact⟨k,rfl,by go_num,rfl,by omega,Y,za,ua,zc,uc,HRY',HRb5,HO5,HN5,HRs5,HB5,by simp only[size_setCell];exact hz5,HV5,HX5⟩
      ·have HX5:Hid (SF=(er,noRun)):=by show _=_;rw[HX1.out,if_pos he]
       have hne:(er != 0)=true:=by simpa using he
       clear HX1 HRY he;go_wp2;obtain⟨r0,r1,r2,r3,r4⟩:=set5 HRs5.out (.slice none 0 0) (.slice none 0 0) (.int .i64 0) (.int .i64 0) (.bool false);unfold put5 at r0 r1 r2 r3 r4;exact bodyPost_ret (v:=.tuple #[.agg #[.slice none 0 0,.slice none 0 0,.int .i64 0,.int .i64 0,.bool false],.int .i64 er]) (by simp[results,Tryz.results36,go_sem,r0,r1,r2,r3,r4]) rfl ⟨_,er,rfl,by rw[HX5.out];exact⟨rfl,RunO.none _ _⟩,Below.put5 HB5.out (Nat.le_succ _)⟩
 ·have HX1:Hid (SF=(R,noRun)):=by show _=_;rw[HX.out,if_pos h0]
  have hne:(R != 0)=true:=by simpa using h0
  clear HX HGo HS1 h0;go_wp2;obtain⟨r0,r1,r2,r3,r4⟩:=set5 HRs3.out (.slice none 0 0) (.slice none 0 0) (.int .i64 0) (.int .i64 0) (.bool false);exact bodyPost_ret (v:=.tuple #[.agg #[.slice none 0 0,.slice none 0 0,.int .i64 0,.int .i64 0,.bool false],.int .i64 R]) (by simp[results,Tryz.results36,go_sem,r0,r1,r2,r3,r4]) rfl ⟨_,R,rfl,by rw[HX1.out];exact⟨rfl,RunO.none _ _⟩,Below.put5 HB3.out (Nat.le_succ _)⟩
end Go.Proofs.YtafmbokfkbccaaaGreatDoor
