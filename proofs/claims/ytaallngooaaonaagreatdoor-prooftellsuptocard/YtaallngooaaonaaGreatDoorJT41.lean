import Derived.Test.YtaallngooaaonaaGreatDoorJT15
import Derived.Test.YtaallngooaaonaaGreatDoorJT29
import Derived.Test.YtaallngooaaonaaGreatDoorJT2
import Derived.Test.YtaallngooaaonaaGreatDoorJT38
import Derived.Test.YtaallngooaaonaaGreatDoorJT9
import Derived.Test.YtaallngooaaonaaGreatDoorJT24
open Go.RowKit Go.Sort Go.Maps
set_option maxHeartbeats 8000000
set_option maxRecDepth 100000
namespace Go.Proofs.YtaallngooaaonaaGreatDoor
def okX:Nat→bG→Prop
 |0,_=>True
 |n+1,x=>Pe x.fact∧∀k∈x.kids,okX n k
def Vo (p:List aG) (told all:List aA) (n:Nat):Prop:=∀(x:bG) (pv tv av xv:Value) (w:World),eP.sl bf w pv p→Facts w tv told→Facts w av all→lV n bf w xv x→okX (n+1) x→
 Calls Tryz.prog 17 #[pv,tv,av,xv] w fun e w'=>e=.returned (.int .i64 (dQ p told all (n+1) x))∧Below w.heap.size w w'
theorem Er (p:List aG) (told all:List aA) (hsh:∀r∈p,r.head.terms.length≤4∧r.body.length≤5∧∀a∈r.body,a.terms.length≤4) (hts:∀r∈p,(∀t∈r.head.terms,t.2.length≤maxLen)∧∀a∈r.body,∀t∈a.terms,t.2.length≤maxLen) (n:Nat) (ih:∀m,n=m+1→Vo p told all m):Vo p told all n:=by
  intro x pv tv av xv w hp ht ha hx hk;have IH:∀m,n=m+1→∀(k:bG) (kv:Value) (w':World),Below w.heap.size w w'→lV m bf w' kv k→okX n k→Calls Tryz.prog 17 #[pv,tv,av,kv] w' fun e w''=>e=.returned (.int .i64 (dQ p told all n k))∧Below w'.heap.size w' w'':=fun m hm k kv w' hB hk ho=>by have:=ih m hm k pv tv av kv w' (aB.aJ hp hB) (ht.below hB) (ha.below hB) hk (by rw[←hm];exact ho);rw[hm];exact this
  obtain⟨s,kv,rfl,hs,hkv⟩:=hx;obtain⟨pa,pc,rfl⟩:=aB.slice hp;obtain⟨ta,tc,rfl⟩:=aF ht;obtain⟨aa,ac,rfl⟩:=aF ha;obtain⟨sa,sc,rfl⟩:=aB.slice hs;obtain⟨ka,kc,rfl⟩:=aB.slice hkv;have hkl:=hkv.1.1;obtain⟨w1,hw1⟩:∃w1,w1=w.alloc (.cells #[.string x.fact.1,.slice sa x.fact.2.length sc,.int .i64 x.rule,.slice ka x.kids.length kc] 30):=⟨_,rfl⟩;have hL1:ak w w1:=by rw[hw1];exact(ak.refl w).alloc _
  have hr1:w1.heap[w.heap.size]?=some (.cells #[.string x.fact.1,.slice sa x.fact.2.length sc,.int .i64 x.rule,.slice ka x.kids.length kc] 30 (0,0)):=by rw[hw1];exact heap_alloc_new w _
  have hlt1:=(Array.getElem?_eq_some_iff.1 hr1).1;have hin:=rIn (.slice ta told.length tc) (.agg #[.string x.fact.1,.slice sa x.fact.2.length sc]) told x.fact w1 (ht.later hL1) ⟨_,rfl,(iX hs).later hL1⟩;rw[qL] at hin;have HIn:=au hin;have HIH:=au IH;have HP:=au (aB.aK hp hL1);have HA:=au (ha.later hL1);have HS:=au (aB.aK hs hL1);have HKv:=au (aB.aK hkv hL1);have HFo:=au hk.1.2;have HKo:=au hk.2;have HL1:=au hL1;have HR1:=au hr1;have HW1:=au hw1;obtain⟨RR,hRR⟩:∃RR:Int,RR=dQ p told all (n+1) x:=⟨_,rfl⟩;rw[←hRR];obtain⟨⟨x0,x1,x2,x3⟩,⟨x4,x5,x6⟩,_,_⟩:=dG hr1;clear hp ht ha hs hkv hL1 hr1 hw1 IH hin hk;obtain⟨⟨fn,aH⟩,rl,kids⟩:=x;dsimp only[bG.fact,bG.rule,bG.kids] at*
  by_cases hneg:rl<0
  ·by_cases h1:rl= -1
   ·by_cases h2:kids=[]
    ·have hz:((kids.length:Int)==0)=true:=by rw[h2];rfl
     cases hi:inB told (fn,aH) with
     |true=>
      rw[uj h1 h2 hi] at hRR;rw[hi] at HIn;have HE:=au hRR;subst h1;clear hRR hi h2 HIH HKv HKo HP HA HS HR1
      go_enter Tryz.func17,Tryz.ntmps17
      go_wp2_with (first|(rw[←HW1.out])|fail)
      refine HIn.out.mono ?_;rintro e w2 ⟨rfl,hL2⟩;have HL2:=au (HL1.out.trans hL2);clear hL2 HIn;go_wp2;go_ret;exact⟨by rw[HE.out];rfl,HL2.out.below⟩
     |false=>
      rw[jF hneg (by rw[hi];simp)] at hRR;rw[hi] at HIn;have HE:=au hRR;subst h1;clear hRR hi h2 HIH HKv HKo HP HA HS HR1
      go_enter Tryz.func17,Tryz.ntmps17
      go_wp2_with (first|(rw[←HW1.out])|fail)
      refine HIn.out.mono ?_;rintro e w2 ⟨rfl,hL2⟩;have HL2:=au (HL1.out.trans hL2);clear hL2 HIn;go_wp2;go_ret;exact⟨by rw[HE.out];rfl,HL2.out.below⟩
    have hz:((kids.length:Int)==0)=false:=by have:=List.length_pos_iff.2 h2;simp;omega
    rw[jF hneg (fun h=>h2 h.2.1)] at hRR;have HE:=au hRR;subst h1;clear hRR h2 HIH HIn HKv HKo HP HA HS HR1
    go_enter Tryz.func17,Tryz.ntmps17
    go_wp2_with (first|(rw[←HW1.out])|fail)
    go_ret;exact⟨by rw[HE.out];rfl,HL1.out.below⟩
   have hq:(rl== -1)=false:=by simpa using h1
   rw[jF hneg (fun h=>h1 h.1)] at hRR;have HE:=au hRR;clear hRR h1 HIH HIn HKv HKo HP HA HS HR1
   go_enter Tryz.func17,Tryz.ntmps17
   go_wp2_with (first|(rw[←HW1.out])|fail)
   go_ret;exact⟨by rw[HE.out];rfl,HL1.out.below⟩
  obtain⟨i,hi⟩:∃i:Nat,rl=(i:Int):=⟨rl.toNat,by omega⟩;subst hi;clear HIn
  by_cases hge:p.length≤i
  ·have hgi:((p.length:Int)≤(i:Int)):=by omega
   rw[uo (List.getElem?_eq_none hge)] at hRR;have HE:=au hRR;clear hRR HIH hge HKv HKo HP HA HS HR1
   go_enter Tryz.func17,Tryz.ntmps17
   go_wp2_with (first|(rw[←HW1.out])|fail)
   go_ret;exact⟨by rw[HE.out];rfl,HL1.out.below⟩
  have hgi:¬((p.length:Int)≤(i:Int)):=by omega
  obtain⟨r,hr⟩:∃r,p[i]?=some r:=⟨_,List.getElem?_eq_getElem (by omega)⟩;rw[uq hr] at hRR;obtain⟨s4,s5,sbt⟩:=hsh r (List.mem_of_getElem? hr);obtain⟨t4,tbt⟩:=hts r (List.mem_of_getElem? hr);obtain⟨b1,o1,_,e1,hb1,hri,hc⟩:=aB.bO HP.out hr;subst e1;obtain⟨hv,bv,hce,hhv,hbv⟩:=hri;subst hce;obtain⟨ha',hc',rfl⟩:=aB.slice hhv;obtain⟨ba,bc,rfl⟩:=aB.slice hbv;have d0:w1.cell? ⟨b1,o1+i*4,none⟩=some (.bool r.head.no):=by simpa[eP] using hc 0 _ rfl
  have d1:w1.cell? ⟨b1,o1+i*4+1,none⟩=some (.string (bs r.head.name)):=by simpa[eP] using hc 1 _ rfl
  have d2:w1.cell? ⟨b1,o1+i*4+2,none⟩=some (.slice ha' r.head.terms.length hc'):=by simpa[eP] using hc 2 _ rfl
  have d3:w1.cell? ⟨b1,o1+i*4+3,none⟩=some (.slice ba r.body.length bc):=by simpa[eP] using hc 3 _ rfl
  obtain⟨w2,hw2⟩:∃w2,w2=w1.alloc (.cells #[.bool r.head.no,.string (bs r.head.name),.slice ha' r.head.terms.length hc',.slice ba r.body.length bc] 82):=⟨_,rfl⟩;have hL2:ak w1 w2:=by rw[hw2];exact(ak.refl w1).alloc _
  have hr2:w2.heap[w1.heap.size]?=some (.cells #[.bool r.head.no,.string (bs r.head.name),.slice ha' r.head.terms.length hc',.slice ba r.body.length bc] 82 (0,0)):=by rw[hw2];exact heap_alloc_new w1 _
  have hlt2:=(Array.getElem?_eq_some_iff.1 hr2).1;obtain⟨w3,hw3⟩:∃w3,w3=w2.alloc (.map #[] 0):=⟨_,rfl⟩;have hL3:ak w2 w3:=by rw[hw3];exact(ak.refl w2).alloc _
  have hE3:jR w3 w2.heap.size 0 []:=by rw[hw3];exact jR.made w2
  have HTr:=au (Sn r.head (fn,aH) [] w2.heap.size 0 4 (.slice ha' r.head.terms.length hc') (.agg #[.string fn,.slice sa aH.length sc]) w3 (aB.aK hhv (hL2.trans hL3)) ⟨_,rfl,(iX HS.out).later (hL2.trans hL3)⟩ hE3 s4 (by omega) t4 HFo.out);obtain⟨⟨z0,z1,z2,z3⟩,⟨z4,z5,z6⟩,_,_⟩:=dG hr2;have vI:=(hL2.block hlt1).trans HR1.out;obtain⟨⟨y0,y1,y2,y3⟩,⟨y4,y5,y6⟩,_,_⟩:=dG vI;have HBd:=au hbv;have HL3:=au (hL2.trans hL3);have HW2:=au hw2;have HW3:=au hw3;have HR2:=au ((hL3.block hlt2).trans hr2);have Lf:=au ((hL3.block (Nat.lt_of_lt_of_le hlt1 hL2.size)).trans vI);have HBT:=au sbt;have HTB:=au tbt;have hlt3:w1.heap.size<w3.heap.size:=Nat.lt_of_lt_of_le hlt2 hL3.size;have hbl:=HBd.out.1.1;have Yp:i<p.length:=by omega
  have hil:(i:Int)<(p.length:Int):=by omega
  have h0i:(0:Int)≤(i:Int):=by omega
  have hmm:= @run_makeMap Tryz.prog;have HRR:=au hRR;clear hRR hr hc hhv hbv hL2 hL3 hw2 hw3 hr2 vI hE3 hlt2 HP HS HR1 HFo sbt tbt t4;obtain⟨hd,body⟩:=r;dsimp only at*;generalize bs hd.name=nm at*;obtain⟨o,ho⟩:∃o,o=cZ hd (fn,aH) []:=⟨_,rfl⟩;rw[←ho] at HTr;have HO:=au ho;clear ho;obtain⟨SE,hSE⟩:∃SE,SE=lQ all ⟨hd,body⟩ (fn,aH) (kids.map bG.fact):=⟨_,rfl⟩;rw[←hSE] at HRR;have HSE:=au hSE;clear hSE;generalize hd.no=no at*
  go_enter Tryz.func17,Tryz.ntmps17
  go_wp2_with (first|(rw[←HW1.out])|(rw[←HW2.out])|(rw[←HW3.out])|fail)
  refine HTr.out.mono ?_;rintro e w4 ⟨hT4,hB4⟩;obtain⟨e4,rfl,hn4,hs4⟩:=vw hT4;have K7:Below w1.heap.size w1 w4:=aj HL3.out.below hB4 HL3.out.size;have HBw:Hid (Below w.heap.size w w4):=aj HL1.out.below K7 HL1.out.size;have vN:=(hB4.block _ (by omega)).trans Lf.out;have M8:=(hB4.block _ hlt3).trans HR2.out;have Pq:w1.heap.size<w4.heap.size:=(Array.getElem?_eq_some_iff.1 M8).1;have OU:=au (aB.aJ HBd.out K7);have Vp:=au (aB.aJ HKv.out K7);have HA4:=au (HA.out.below K7);have Lh:=au vN;have XJ:=au M8;have k3:w4.cell? ⟨w.heap.size,3,none⟩=some (.slice ka kids.length kc):=(dG vN).1.2.2.2;have k4:w4.cell? ⟨w1.heap.size,3,none⟩=some (.slice ba body.length bc):=(dG M8).1.2.2.2;clear hT4 hB4 K7 vN M8 HTr HW1 HW2 HW3 Lf HR2 HBd HKv HA HL3 HL1 x0 x1 x2 x3 x4 x5 x6 y0 y1 y2 y3 y4 y5 y6 z0 z1 z2 z3 z4 z5 z6 d0 d1 d2 d3 hlt3 hb1;cases o with
  |none=>
   have he4:=hn4 rfl;subst he4;have HE:Hid (RR=8):=by
    have h8:SE=8:=by rw[HSE.out];unfold lQ;rw[←HO.out]
    show _=_;rw[HRR.out,h8];rfl
   have hnq:∀w:World,(binOp .eql 84 (.map none) (.map none)).run Tryz.prog w=.ok (.bool true) w:=fun w=>run_eql_map_nil w 84 9 9 none Tryz.underlying84;clear hn4 hs4 HRR HSE HO;go_wp2;go_ret;exact⟨by rw[HE.out];rfl,HBw.out⟩
  |some b0=>
   obtain⟨eb4,he4,_,hE4⟩:=hs4 b0 rfl;subst he4;obtain⟨KG,hKG⟩:∃KG,KG=fH body (kids.map bG.fact) b0:=⟨_,rfl⟩;have PD:Hid (SE=if KG.1≠0 then KG.1 else Kc all body KG.2):=by show _=_;rw[HSE.out,hKG];unfold lQ;rw[←HO.out]
   have HKG:=au hKG;have HE4:=au hE4;have hnq:∀w:World,(binOp .eql 84 (.map (some eb4)) (.map none)).run Tryz.prog w=.ok (.bool false) w:=fun w=>run_eql_map_nil w 84 9 9 (some eb4) Tryz.underlying84;clear hn4 hs4 hKG hE4 HSE HO;go_wp2;clear k3 k4 hnq
   go_loopg [10,11,62] body.length (fun g ev lv i wr=>∃(j eb:Nat) (b:List aD) (ks:List bG),j+g=body.length∧i=.int .i64 j∧ev=.map (some eb)∧Hid (jR wr eb (4+4*j) b)∧Hid ((kZ n).sl bf w4 lv ks)∧Hid (∀k∈ks,okX n k)∧Hid (KG=fH (body.drop j) (ks.map bG.fact) b)∧Hid (Below w4.heap.size w4 wr))
   case atStart=>exact⟨0,eb4,b0,kids,by omega,rfl,rfl,HE4.out.mono (by omega),Vp,HKo,(by rw[List.drop_zero];exact HKG.out:_=_),Below.refl _ _⟩
   clear HE4;obtain⟨j,eb,b,ks,hj,rfl,rfl,HE,HK,HKs,HG,HB⟩:=hrel;obtain⟨qa,qc,hkv⟩:=aB.slice HK.out;subst hkv
   by_cases hlt:j<body.length
   ·obtain⟨a,ha⟩:∃a,body[j]?=some a:=⟨_,List.getElem?_eq_getElem hlt⟩;obtain⟨b1',o1',_,e1,hb1,⟨xv,hce,htv⟩,hc⟩:=aB.bO OU.out ha;subst e1;subst hce;have d0:wr.cell? ⟨b1',o1'+j*3,none⟩=some (.bool a.no):=by rw[HB.out.cell (p:=⟨b1',o1'+j*3,none⟩) hb1];simpa[bN] using hc 0 _ rfl
    have d1:wr.cell? ⟨b1',o1'+j*3+1,none⟩=some (.string (bs a.name)):=by rw[HB.out.cell (p:=⟨b1',o1'+j*3+1,none⟩) hb1];simpa[bN] using hc 1 _ rfl
    have d2:wr.cell? ⟨b1',o1'+j*3+2,none⟩=some xv:=by rw[HB.out.cell (p:=⟨b1',o1'+j*3+2,none⟩) hb1];simpa[bN] using hc 2 _ rfl
    obtain⟨xa,xc,rfl⟩:=aB.slice htv;have hdr:body.drop j=a::body.drop (j+1):=by obtain⟨hi,e⟩:=List.getElem?_eq_some_iff.1 ha;rw[List.drop_eq_getElem_cons hi,e]
    have hat:=HBT.out a (List.mem_of_getElem? ha);have HTl:=au (HTB.out a (List.mem_of_getElem? ha));have hg:=HG.out;rw[hdr] at hg;obtain⟨wa,hwa⟩:∃wa,wa=wr.alloc (.cells #[.bool a.no,.string (bs a.name),.slice xa a.terms.length xc] 79):=⟨_,rfl⟩;have hLa:ak wr wa:=by rw[hwa];exact(ak.refl wr).alloc _
    have hRa:wa.heap[wr.heap.size]?=some (.cells #[.bool a.no,.string (bs a.name),.slice xa a.terms.length xc] 79 (0,0)):=by rw[hwa];exact heap_alloc_new wr _
    obtain⟨c0,c1,c2,hla⟩:=Cb hRa;have hBa:Below w4.heap.size w4 wa:=aj HB.out hLa.below HB.out.size;have HTa:=au (aB.aJ htv hBa);have HBa:=au hBa;have HWa:=au hwa;have HRa:=au hRa;have HEa:=au (HE.out.later hLa);clear hc ha htv hwa hLa hRa hBa HB HE HG hdr;cases hno:a.no with
    |true=>
     rw[Au hno] at hg;rw[hno] at d0 HWa c0;have HG2:=au hg;have HE2:=au (HEa.out.mono (m:=4+4*(j+1)) (by omega));clear hno hg;generalize bs a.name=nm2 at*
     go_wp2_with (rw[←HWa.out])
     go_roundg (body.length- (j+1))
     case measure=>omega
     case rel=>exact⟨j+1,eb,b,ks,by omega,by go_num,rfl,HE2,HK,HKs,HG2,HBa⟩
    |false=>
     rw[hno] at d0 HWa c0 HRa;cases ks with
     |nil=>
      rw[List.map_nil,xw hno] at hg;have HR5:Hid (RR=5):=by
       have h5:SE=5:=by rw[PD.out,hg];rfl
       show _=_;rw[HRR.out,h5];rfl
      have HBf:=au (aj HBw.out HBa.out HBw.out.size);clear hno hg;generalize bs a.name=nm2 at*
      go_wp2_with (rw[←HWa.out])
      go_ret;exact⟨by rw[HR5.out];rfl,HBf.out⟩
     |cons k ks=>
      rw[List.map_cons] at hg;cases n with
      |zero=>
       obtain⟨c,hc⟩:=Ad HK.out (x:=k) (by simp);exact hc.elim
      |succ m=>
      have hKa:=aB.aJ HK.out HBa.out;obtain⟨b2,o2,s2,kv2,e2,hb2,_,q0,q1,_,_,hs2,_⟩:=pE hKa (i:=0) (x:=k) rfl;simp only[Value.slice.injEq] at e2;obtain⟨rfl,_,_⟩:=e2;simp only[Nat.zero_mul,Nat.add_zero] at q0 q1;obtain⟨sa2,sc2,rfl⟩:=aB.slice hs2;have XK:=au (Ir HK.out);have hqc:(k::ks).length≤qc:=HK.out.1.2;simp only[List.length_cons] at hqc;have hkf:=(HKs.out k (by simp)).1.2;have ZH:Hid (∀k∈ks,okX (m+1) k):=fun k' hk'=>HKs.out k' (by simp[hk']);have HMe:Hid (∀w',Below wa.heap.size wa w'→Calls Tryz.prog 33 #[.agg #[.bool false,.string (bs a.name),.slice xa a.terms.length xc],.agg #[.string k.fact.1,.slice sa2 k.fact.2.length sc2],.map (some eb)] w' fun e w''=>Ur w'' w'.heap.size (4+4*j+4) e (cZ a k.fact b)∧Hid (Below w'.heap.size w' w'')):=fun w' h=>by have:=Sn a k.fact b eb (4+4*j) 4 (.slice xa a.terms.length xc) (.agg #[.string k.fact.1,.slice sa2 k.fact.2.length sc2]) w' (aB.aJ HTa.out h) ⟨_,rfl,(iX hs2).below h⟩ (HEa.out.below h) hat (by omega) HTl.out hkf;rw[hno] at this;exact this
      have HSc:Hid (∀w',Below wa.heap.size wa w'→(w'.cell? ⟨wr.heap.size,0,none⟩=some (.bool false)∧w'.cell? ⟨wr.heap.size,0+1,none⟩=some (.string (bs a.name))∧w'.cell? ⟨wr.heap.size,0+2,none⟩=some (.slice xa a.terms.length xc))∧w'.cell? ⟨b2,o2,none⟩=some (.string k.fact.1)∧w'.cell? ⟨b2,o2+1,none⟩=some (.slice sa2 k.fact.2.length sc2)):=fun w' h=>by
       have hra:=(h.block _ hla).trans HRa.out;refine⟨⟨?_,?_,?_⟩,?_,?_⟩;·rw[cell_of_row _ _ _ _ _ _ hra];rfl
       ·rw[cell_of_row _ _ _ _ _ _ hra];rfl
       ·rw[cell_of_row _ _ _ _ _ _ hra];rfl
       ·rw[h.cell (p:=⟨b2,o2,none⟩) hb2];exact q0
       rw[h.cell (p:=⟨b2,o2+1,none⟩) hb2];exact q1
      obtain⟨o,ho⟩:∃o,o=cZ a k.fact b:=⟨_,rfl⟩;rw[←ho] at HMe;have HO:=au ho;have HNo:=au hno;have HGk:=au hg;obtain⟨⟨kn,Iu⟩,krl,kk⟩:=k;dsimp only[bG.fact,bG.rule,bG.kids] at*;clear hno hg ho hs2 q0 q1 hKa hkf HK HKs;generalize bs a.name=nm2 at*;have hlp:(0:Int)<((ks.length+1:Nat):Int):=by omega
      have hl1:(1:Int)≤((ks.length+1:Nat):Int):=by omega
      have hle:(((ks.length+1:Nat):Int)==0)=false:=by simp;omega
      go_wp2_with (rw[←HWa.out])
      refine wp_region_held_drew (S:=fun w'=>Below wa.heap.size wa w') (by kernel_rfl) (Below.refl _ _).drew (fun hHeld=>?_);refine tkY 0 71 hHeld ?_ rfl fun w hSw=>by obtain⟨⟨p0,p1,p2⟩,p3,p4⟩:=HSc.out _ hSw;go_simp;try with_reducible rfl
      refine tkY 1 72 hHeld ?_;refine tkY 2 73 hHeld ?_;refine tkY 3 74 hHeld ?_;refine tkY 4 75 hHeld ?_ rfl fun w hSw=>by obtain⟨⟨p0,p1,p2⟩,p3,p4⟩:=HSc.out _ hSw;go_simp;try with_reducible rfl
      refine tkY 5 76 hHeld ?_;refine tkC 6 fun K hK=>?_;go_simp;refine(HMe.out _ hHeld).mono ?_;rintro e w5 ⟨hT5,hB5⟩;obtain⟨e5,rfl,hn5,hs5⟩:=vw hT5;have M9:=aj hHeld hB5.out hHeld.size;refine hK.out _ _ M9 (fun hHeld=>?_);clear hK K;refine tkY 7 10 hHeld ?_;refine wpAnyH_done (by kernel_rfl) ?_ _;clear hHeld hT5 hB5;have HB5:=au (aj HBa.out M9 HBa.out.size);clear M9 HMe HSc;cases o with
      |none=>
       have he5:=hn5 rfl;subst he5;have HR8:Hid (RR=8):=by
        have h8:=HGk.out;rw[xA HNo.out HO.out.symm] at h8;have h9:SE=8:=by rw[PD.out,h8];rfl
        show _=_;rw[HRR.out,h9];rfl
       have HBf:=au (aj HBw.out HB5.out HBw.out.size);have hnq:∀w:World,(binOp .eql 84 (.map none) (.map none)).run Tryz.prog w=.ok (.bool true) w:=fun w=>run_eql_map_nil w 84 9 9 none Tryz.underlying84;clear hn5 hs5 HGk HO HRR PD;go_wp2;go_ret;exact⟨by rw[HR8.out];rfl,HBf.out⟩
      |some b5=>
       obtain⟨eb5,he5,_,hE5⟩:=hs5 b5 rfl;subst he5;have HG5:Hid (KG=fH (body.drop (j+1)) (ks.map bG.fact) b5):=by show _=_;have:=HGk.out;rw[xB HNo.out HO.out.symm] at this;exact this
       have HE5:=au (hE5.mono (m:=4+4*(j+1)) (by omega));obtain⟨ta4,Tx⟩:∃z,(if qc=1 then some (⟨b2,o2,none⟩:Addr) else some ⟨b2,o2+4,none⟩)=z:=⟨_,rfl⟩;have HT4:Hid ((kZ (m+1)).sl bf w4 (.slice ta4 ks.length (qc-1)) ks):=by show aB.sl _ _ _ _ _;rw[←Tx];exact XK.out
       have hnq:∀w:World,(binOp .eql 84 (.map (some eb5)) (.map none)).run Tryz.prog w=.ok (.bool false) w:=fun w=>run_eql_map_nil w 84 9 9 (some eb5) Tryz.underlying84;clear hn5 hs5 hE5 HGk HO XK;go_wp2
       go_roundg (body.length- (j+1))
       case measure=>omega
       case rel=>exact⟨j+1,eb5,b5,ks,by omega,by go_num,rfl,HE5,HT4,ZH,HG5,HB5⟩
   have hg:=HG.out;rw[List.drop_eq_nil_of_le (by omega)] at hg;have HBf:=au (aj HBw.out HB.out HBw.out.size);cases ks with
   |cons k ks=>
    have HR5:Hid (RR=5):=by
     have h5:SE=5:=by rw[PD.out,hg];rfl
     show _=_;rw[HRR.out,h5];rfl
    have hlp:(0:Int)<((ks.length+1:Nat):Int):=by omega
    clear hg HG HB HK;simp only[List.length_cons] at*;go_wp2;go_ret;exact⟨by rw[HR5.out];rfl,HBf.out⟩
   |nil=>
    have XL:Hid (SE=Kc all body b):=by show _=_;rw[PD.out,hg];rfl
    have FB:=(HB.out.block _ (by omega)).trans Lh.out;have XM:=(HB.out.block _ Pq).trans XJ.out;have k4:wr.cell? ⟨w1.heap.size,3,none⟩=some (.slice ba body.length bc):=(dG XM).1.2.2.2;have Rx:=au (aB.aJ OU.out HB.out);have XO:=au (aB.aJ Vp.out HB.out);have HA5:=au (HA4.out.below HB.out);have Py:=au FB;have HE5:=HE;have U1:w.heap.size<wr.heap.size:=(Array.getElem?_eq_some_iff.1 FB).1;clear hg HG HK HKs FB XM HB HE OU Vp HA4 Lh XJ HBw PD HKG;generalize 4+4*j=ne at*;generalize wr=w5 at*;obtain⟨P,hP⟩:∃P,P=KT all b:=⟨_,rfl⟩;have SV:Hid (SE=if body.any P then 10 else 0):=by show _=_;rw[XL.out,Iq,hP]
    have HPD:=au hP;clear hP XL;go_wp2;clear k4
    go_loopg [89] body.length (fun g i wr=>∃j:Nat,j+g=body.length∧i=.int .i64 j∧Hid ((body.take j).any P=false)∧Hid (Below w5.heap.size w5 wr))
    case atStart=>exact⟨0,by omega,rfl,(by simp:_=_),Below.refl _ _⟩
    obtain⟨j,hj,rfl,HN,HB⟩:=hrel
    by_cases hlt:j<body.length
    ·obtain⟨a,ha⟩:∃a,body[j]?=some a:=⟨_,List.getElem?_eq_getElem hlt⟩;obtain⟨b1',o1',_,e1,hb1,⟨xv,hce,htv⟩,hc⟩:=aB.bO Rx.out ha;subst e1;subst hce;have d0:wr.cell? ⟨b1',o1'+j*3,none⟩=some (.bool a.no):=by rw[HB.out.cell (p:=⟨b1',o1'+j*3,none⟩) hb1];simpa[bN] using hc 0 _ rfl
     have d1:wr.cell? ⟨b1',o1'+j*3+1,none⟩=some (.string (bs a.name)):=by rw[HB.out.cell (p:=⟨b1',o1'+j*3+1,none⟩) hb1];simpa[bN] using hc 1 _ rfl
     have d2:wr.cell? ⟨b1',o1'+j*3+2,none⟩=some xv:=by rw[HB.out.cell (p:=⟨b1',o1'+j*3+2,none⟩) hb1];simpa[bN] using hc 2 _ rfl
     obtain⟨xa,xc,rfl⟩:=aB.slice htv;have htk:(body.take (j+1)).any P=((body.take j).any P||P a):=by rw[List.take_add_one,ha];simp
     have hmem:a∈body:=List.mem_of_getElem? ha;have hTl:=HTB.out a hmem;obtain⟨wa,hwa⟩:∃wa,wa=wr.alloc (.cells #[.bool a.no,.string (bs a.name),.slice xa a.terms.length xc] 79):=⟨_,rfl⟩;have hLa:ak wr wa:=by rw[hwa];exact(ak.refl wr).alloc _
     have hRa:wa.heap[wr.heap.size]?=some (.cells #[.bool a.no,.string (bs a.name),.slice xa a.terms.length xc] 79 (0,0)):=by rw[hwa];exact heap_alloc_new wr _
     obtain⟨c0,c1,c2,_⟩:=Cb hRa;have hBa:Below w5.heap.size w5 wa:=aj HB.out hLa.below HB.out.size;have HFi:=au (Je a (.slice xa a.terms.length xc) b eb ne wa (aB.aJ htv hBa) (HE5.out.below hBa) hTl);have HBa:=au hBa;have HWa:=au hwa;clear hc ha htv hwa hLa hRa hBa hTl;cases hno:a.no with
     |false=>
      have HN2:Hid ((body.take (j+1)).any P=false):=by show _=_;rw[htk,HN.out,HPD.out];unfold KT;rw[hno];rfl
      rw[hno] at d0 HWa c0;clear hno htk HN HFi;generalize bs a.name=nm2 at*
      go_wp2_with (rw[←HWa.out])
      go_roundg (body.length- (j+1))
      case measure=>omega
      case rel=>exact⟨j+1,by omega,by go_num,HN2,HBa⟩
     |true=>
      rw[hno] at d0 HWa c0 HFi;have c1':wa.cell? ⟨wr.heap.size,0+1,none⟩=some (.string (bs a.name)):=c1;have c2':wa.cell? ⟨wr.heap.size,0+2,none⟩=some (.slice xa a.terms.length xc):=c2;cases hf:bg a b with
      |none=>
       have Vq:Hid (RR=10):=by
        have hy:body.any P=true:=List.any_eq_true.2 ⟨a,hmem,by rw[HPD.out];unfold KT;rw[hno,hf];rfl⟩;have h10:SE=10:=by rw[SV.out,if_pos hy]
        show _=_;rw[HRR.out,h10];rfl
       rw[hf] at HFi;simp only[Option.isSome_none] at HFi;clear hno htk HN hf;generalize bs a.name=nm2 at*
       go_wp2_with (first|(rw[←HWa.out])|fail)
       refine HFi.out.mono ?_;rintro e w6 ⟨v6,rfl,⟨s6,rfl,hs6⟩,hL6⟩;obtain⟨ya,yc,rfl⟩:=bA hs6;have HL6:=au (aj HBf.out (aj HBa.out hL6.below HBa.out.size) HBf.out.size);have hz6:=HL6.out.size;clear hs6 hL6 HFi;go_wp2;go_ret;exact⟨by rw[Vq.out];rfl,HL6.out.alloc hz6 _⟩
      |some f=>
       rw[hf] at HFi;have hfl:filled a b=f:=by unfold filled;rw[hf];rfl
       rw[hfl] at HFi;simp only[Option.isSome_some] at HFi;have HPa:Hid (P a=inB all f):=by show _=_;rw[HPD.out];unfold KT;rw[hno,hf];rfl
       clear hno hf hfl;generalize bs a.name=nm2 at*
       go_wp2_with (first|(rw[←HWa.out])|fail)
       refine HFi.out.mono ?_;rintro e w6 ⟨v6,rfl,hfv,hL6⟩;obtain⟨s6,rfl,hs6⟩:=hfv;obtain⟨ya,yc,rfl⟩:=bA hs6;obtain⟨wf,hwf⟩:∃wf,wf=w6.alloc (.cells #[.string f.1,.slice ya f.2.length yc] 27):=⟨_,rfl⟩;have hLf:ak w6 wf:=by rw[hwf];exact(ak.refl w6).alloc _
       have hRf:wf.heap[w6.heap.size]?=some (.cells #[.string f.1,.slice ya f.2.length yc] 27 (0,0)):=by rw[hwf];exact heap_alloc_new w6 _
       have hBF:Below w5.heap.size w5 wf:=aj HBa.out (hL6.trans hLf).below HBa.out.size;have f0:wf.cell? ⟨w6.heap.size,0,none⟩=some (.string f.1):=by rw[cell_of_row _ _ _ _ _ _ hRf];rfl
       have f1:wf.cell? ⟨w6.heap.size,0+1,none⟩=some (.slice ya f.2.length yc):=by rw[cell_of_row _ _ _ _ _ _ hRf];rfl
       have hin:=rIn (.slice aa all.length ac) (.agg #[.string f.1,.slice ya f.2.length yc]) all f wf (HA5.out.below hBF) ⟨_,rfl,hs6.later hLf⟩;rw[qL] at hin;have HIn:=au hin;have HBF:=au hBF;have HWf:=au hwf;obtain⟨fn2,RO⟩:=f;dsimp only at*;clear hs6 hL6 hwf hLf hRf hBF hin HFi HBa HWa
       go_wp2_with (first|(rw[←HWf.out])|fail)
       refine HIn.out.mono ?_;rintro e w7 ⟨rfl,hL7⟩;have HB7:=au (aj HBF.out hL7.below HBF.out.size);clear hL7 HIn HWf HBF f0 f1;cases hi:inB all (fn2,RO) with
       |true=>
        have Vq:Hid (RR=10):=by
         have hy:body.any P=true:=List.any_eq_true.2 ⟨a,hmem,by rw[HPa.out,hi]⟩;have h10:SE=10:=by rw[SV.out,if_pos hy]
         show _=_;rw[HRR.out,h10];rfl
        have HBg:=au (aj HBf.out HB7.out HBf.out.size);clear hi HPa htk HN;go_wp2;go_ret;exact⟨by rw[Vq.out];rfl,HBg.out⟩
       |false=>
        have HN2:Hid ((body.take (j+1)).any P=false):=by show _=_;rw[htk,HN.out,HPa.out,hi];rfl
        clear hi HPa htk HN;go_wp2
        go_roundg (body.length- (j+1))
        case measure=>omega
        case rel=>exact⟨j+1,by omega,by go_num,HN2,HB7⟩
    have HE:Hid (RR=lG (dQ p told all n) kids):=by
     have h0:=HN.out;rw[List.take_of_length_le (by omega)] at h0;have h1:SE=0:=by rw[SV.out,h0];rfl
     show _=_;rw[HRR.out,h1];rfl
    have FB:=(HB.out.block _ U1).trans Py.out;have k3:wr.cell? ⟨w.heap.size,3,none⟩=some (.slice ka kids.length kc):=(dG FB).1.2.2.2;have XP:=au (aB.aJ XO.out HB.out);have K4:=au (aj HBf.out HB.out HBf.out.size);clear FB HN HB SV HPD HRR HBf HE5 Rx XO HA5 Py;generalize wr=w6 at*;go_wp2;clear k3
    go_loopg [113] kids.length (fun g i wr=>∃j:Nat,j+g=kids.length∧i=.int .i64 j∧Hid (RR=lG (dQ p told all n) (kids.drop j))∧Hid (Below w6.heap.size w6 wr))
    case atStart=>exact⟨0,by omega,rfl,HE,Below.refl _ _⟩
    clear HE;obtain⟨j,hj,rfl,HE,HL⟩:=hrel
    by_cases hlt:j<kids.length
    ·obtain⟨k,hk⟩:∃k,kids[j]?=some k:=⟨_,List.getElem?_eq_getElem hlt⟩;obtain⟨m,hm⟩:=pK XP.out (by intro e;rw[e] at hlt;simp at hlt);have hKv:=XP.out;rw[hm] at hKv;obtain⟨b2,o2,s2,kv2,e2,hb2,_,q0,q1,q2,q3,hs2,hk2⟩:=pE hKv hk;simp only[Value.slice.injEq] at e2;obtain⟨rfl,_,_⟩:=e2;obtain⟨sa2,sc2,rfl⟩:=aB.slice hs2;obtain⟨ka2,kc2,rfl⟩:=aB.slice hk2;have d0:wr.cell? ⟨b2,o2+j*4,none⟩=some (.string k.fact.1):=by rw[HL.out.cell (p:=⟨b2,o2+j*4,none⟩) hb2];exact q0
     have d1:wr.cell? ⟨b2,o2+j*4+1,none⟩=some (.slice sa2 k.fact.2.length sc2):=by rw[HL.out.cell (p:=⟨b2,o2+j*4+1,none⟩) hb2];exact q1
     have d2:wr.cell? ⟨b2,o2+j*4+2,none⟩=some (.int .i64 k.rule):=by rw[HL.out.cell (p:=⟨b2,o2+j*4+2,none⟩) hb2];exact q2
     have d3:wr.cell? ⟨b2,o2+j*4+3,none⟩=some (.slice ka2 k.kids.length kc2):=by rw[HL.out.cell (p:=⟨b2,o2+j*4+3,none⟩) hb2];exact q3
     obtain⟨wk,hwk⟩:∃wk,wk=wr.alloc (.cells #[.string k.fact.1,.slice sa2 k.fact.2.length sc2,.int .i64 k.rule,.slice ka2 k.kids.length kc2] 30):=⟨_,rfl⟩;have hLk:ak wr wk:=by rw[hwk];exact(ak.refl wr).alloc _
     have hRk:wk.heap[wr.heap.size]?=some (.cells #[.string k.fact.1,.slice sa2 k.fact.2.length sc2,.int .i64 k.rule,.slice ka2 k.kids.length kc2] 30 (0,0)):=by rw[hwk];exact heap_alloc_new wr _
     have hBK:Below w6.heap.size w6 wk:=aj HL.out hLk.below HL.out.size;obtain⟨⟨k0,k1,k2,k3⟩,⟨k4,k5,k6⟩,_,_⟩:=dG hRk;have HCl:=au (HIH.out m hm k (.agg #[.string k.fact.1,.slice sa2 k.fact.2.length sc2,.int .i64 k.rule,.slice ka2 k.kids.length kc2]) wk (aj K4.out hBK K4.out.size) ⟨_,_,rfl,aB.aJ hs2 hBK,aB.aJ hk2 hBK⟩ (HKo.out k (List.mem_of_getElem? hk)));have hfd:=uh (g:=dQ p told all n) hk;have HBK:=au hBK;have HWk:=au hwk;obtain⟨G,hG⟩:∃G,G=dQ p told all n k:=⟨_,rfl⟩;rw[←hG] at HCl hfd;have HFd:=au hfd;obtain⟨⟨kn,Iu⟩,krl,kk⟩:=k;dsimp only[bG.fact,bG.rule,bG.kids] at*;clear hk hKv q0 q1 q2 q3 hs2 hk2 hwk hLk hRk hBK hfd hG hm
     go_wp2_with (first|(rw[←HWk.out])|fail)
     refine HCl.out.mono ?_;rintro e w7 ⟨rfl,hB7⟩;have HB7:=au (aj HBK.out hB7 HBK.out.size);clear hB7 HCl d0 d1 d2 d3 k0 k1 k2 k3 k4 k5 k6
     by_cases hG0:G=0
     ·have HE2:Hid (RR=lG (dQ p told all n) (kids.drop (j+1))):=by show _=_;rw[HE.out,HFd.out,if_neg (by rw[hG0];simp)]
      subst hG0;clear HFd HE;go_wp2
      go_roundg (kids.length- (j+1))
      case measure=>omega
      case rel=>exact⟨j+1,by omega,by go_num,HE2,HB7⟩
     have hq:(G != 0)=true:=by simpa using hG0
     have HE2:Hid (RR=G):=by show _=_;rw[HE.out,HFd.out,if_pos hG0]
     have HBg:=au (aj K4.out HB7.out K4.out.size);clear HFd HE hG0;go_wp2;go_ret;exact⟨by rw[HE2.out];rfl,HBg.out⟩
    have HE2:Hid (RR=0):=by show _=_;rw[HE.out,List.drop_eq_nil_of_le (by omega)];rfl
    have HBg:=au (aj K4.out HL.out K4.out.size);clear HE;go_wp2;go_ret;exact⟨by rw[HE2.out];rfl,HBg.out⟩
theorem XQ (p:List aG) (told all:List aA) (hsh:∀r∈p,r.head.terms.length≤4∧r.body.length≤5∧∀a∈r.body,a.terms.length≤4) (hts:∀r∈p,(∀t∈r.head.terms,t.2.length≤maxLen)∧∀a∈r.body,∀t∈a.terms,t.2.length≤maxLen):∀n,Vo p told all n
 |0=>Er p told all hsh hts 0 fun m h=>by omega
 |n+1=>Er p told all hsh hts (n+1) fun m h=>by
  obtain rfl:n=m:=by omega
  exact XQ p told all hsh hts n
def ql (l:List Nat):Nat:=l.foldr max 0
def dpt:Nat→bG→Nat
 |0,_=>0
 |n+1,x=>1+ql (x.kids.map (dpt n))
theorem vJ (l m:List Nat):ql (l++m)=max (ql l) (ql m):=by
 induction l with
 |nil=>simp[ql]
 |cons a l ih=>
  show max a (ql (l++m))=max (max a (ql l)) (ql m);rw[ih];omega
theorem zC {m:Nat}:∀(L:List bG),L≠[]→ql (L.map (dpt (m+1)))=1+ql ((L.flatMap bG.kids).map (dpt m))
 |[],h=>absurd rfl h
 |x::L,_=>by
  rw[List.flatMap_cons,List.map_append,vJ];show max (1+ql (x.kids.map (dpt m))) (ql (L.map (dpt (m+1))))=_
  by_cases hL:L=[]
  ·subst hL;simp[ql]
  rw[zC L hL];omega
theorem JO:∀(m k:Nat) (L:List bG) (s:Nat×Nat),m≤k→(∀x∈L,Deep m x)→fT (fun _=>false) k L s=(s.1+(L.map (cnt m)).sum,s.2+ql (L.map (dpt m)))
 |0,k,L,s,_,h=>by
  have e:L=[]:=by
   cases L with
   |nil=>rfl
   |cons x L=>exact(h x (by simp)).elim
  subst e;cases k <;> simp[fT,ql]
 |m+1,0,L,s,hk,_=>by omega
 |m+1,k+1,L,s,hk,h=>by
  unfold fT
  by_cases hL:L=[]
  ·subst hL;simp[ql]
  rw[if_neg (by simp[hL]),JO m k _ _ (by omega) fun x hx=>by obtain⟨y,hy,hxy⟩:=List.mem_flatMap.1 hx;exact h y hy x hxy]
  rw[zC L hL,←sw L];refine Prod.ext ?_ ?_;·show s.1+L.length+_=s.1+(L.length+_);omega
  show s.2+1+_=s.2+(1+_);omega
theorem JQ {a b c d:Nat} (h1:a≤c) (h2:b≤d) (h:ig (a,b)=true):ig (c,d)=true:=by unfold ig at h⊢;simp only[Bool.or_eq_true,decide_eq_true_eq] at h⊢;omega
theorem Bu:∀(m k:Nat) (L:List bG) (s:Nat×Nat),m≤k→(∀x∈L,Deep m x)→ig (fT ig k L s)=ig (s.1+(L.map (cnt m)).sum,s.2+ql (L.map (dpt m)))
 |0,k,L,s,_,h=>by
  have e:L=[]:=by
   cases L with
   |nil=>rfl
   |cons x L=>exact(h x (by simp)).elim
  subst e;cases k <;> simp[fT,ql]
 |m+1,0,L,s,hk,_=>by omega
 |m+1,k+1,L,s,hk,h=>by
  unfold fT
  by_cases hL:L=[]
  ·subst hL;simp[ql]
  by_cases hs:ig s=true
  ·rw[if_pos (Or.inr hs),hs];exact(JQ (Nat.le_add_right _ _) (Nat.le_add_right _ _) hs).symm
  rw[if_neg (by simp[hL,hs]),Bu m k _ _ (by omega) fun x hx=>by obtain⟨y,hy,hxy⟩:=List.mem_flatMap.1 hx;exact h y hy x hxy]
  rw[zC L hL,←sw L]
  congr 1
  refine Prod.ext ?_ ?_;·show s.1+L.length+_=s.1+(L.length+_);omega
  show s.2+1+_=s.2+(1+_);omega
theorem JR:∀(n:Nat) (x:bG),dpt n x≤n
 |0,_=>Nat.le_refl _
 |n+1,x=>by
  have:∀l:List bG,ql (l.map (dpt n))≤n:=fun l=>by
   induction l with
   |nil=>exact Nat.zero_le _
   |cons a l ih=>
    show max (dpt n a) (ql (l.map (dpt n)))≤n;have:=JR n a;omega
  have:=this x.kids;show 1+_≤n+1;omega
theorem Mf {l:List bG} {j n:Nat} {k:bG} (hk:l[j]?=some k):((l.take (j+1)).map (cnt n)).sum=((l.take j).map (cnt n)).sum+cnt n k∧((l.take (j+1)).map (cnt n)).sum≤(l.map (cnt n)).sum∧ql ((l.take (j+1)).map (dpt n))=max (ql ((l.take j).map (dpt n))) (dpt n k):=by
 have h1:l.take (j+1)=l.take j++[k]:=by rw[List.take_add_one,hk];rfl
 refine⟨?_,?_,?_⟩;·rw[h1,List.map_append,List.sum_append];simp
 ·have h2:l.map (cnt n)=(l.take (j+1)).map (cnt n)++(l.drop (j+1)).map (cnt n):=by rw[←List.map_append,List.take_append_drop]
  rw[h2,List.sum_append];omega
 rw[h1,List.map_append,vJ];simp[ql]
theorem CX:∀(n:Nat) (x:bG) (v:Value) (w:World),lV n bf w v x→n≤4000000→cnt (n+1) x≤4000000→
  Calls Tryz.prog 5 #[v] w fun e w'=>e=.returned (.tuple #[.int .i64 (cnt (n+1) x:Nat),.int .i64 (dpt (n+1) x:Nat)])∧ak w w'
 |n,x,v,w,hx,hn,hc=>by
  have IH:∀m,n=m+1→∀(k:bG) (kv:Value) (w':World),lV m bf w' kv k→cnt n k≤4000000→Calls Tryz.prog 5 #[kv] w' fun e w''=>e=.returned (.tuple #[.int .i64 (cnt n k:Nat),.int .i64 (dpt n k:Nat)])∧ak w' w'':=fun m hm k kv w' hk hl=>by have:=CX m k kv w' hk (by omega) (by rw[←hm];exact hl);rw[←hm] at this;exact this
  obtain⟨s,kv,rfl,hs,hkv⟩:=hx;obtain⟨sa,sc,rfl⟩:=aB.slice hs;obtain⟨ka,kc,rfl⟩:=aB.slice hkv;have hkl:=hkv.1.1;obtain⟨w1,hw1⟩:∃w1,w1=w.alloc (.cells #[.string x.fact.1,.slice sa x.fact.2.length sc,.int .i64 x.rule,.slice ka x.kids.length kc] 30):=⟨_,rfl⟩;have hL1:ak w w1:=by rw[hw1];exact(ak.refl w).alloc _
  have hr1:w1.heap[w.heap.size]?=some (.cells #[.string x.fact.1,.slice sa x.fact.2.length sc,.int .i64 x.rule,.slice ka x.kids.length kc] 30 (0,0)):=by rw[hw1];exact heap_alloc_new w _
  obtain⟨⟨x0,x1,x2,x3⟩,⟨x4,x5,x6⟩,_,_⟩:=dG hr1;have HKv:=au (aB.aK hkv hL1);have HIH:=au IH;have HL1:=au hL1;have HW1:=au hw1;have hcn:1+(x.kids.map (cnt n)).sum≤4000000:=hc;clear hs hkv hL1 hr1 hw1 IH hc;have HE:Hid (cnt (n+1) x=1+(x.kids.map (cnt n)).sum∧dpt (n+1) x=1+ql (x.kids.map (dpt n))):=⟨rfl,rfl⟩;obtain⟨C,hC⟩:∃C,C=cnt (n+1) x:=⟨_,rfl⟩;obtain⟨D,hD⟩:∃D,D=dpt (n+1) x:=⟨_,rfl⟩;rw[←hC,←hD] at HE⊢;clear hC hD;obtain⟨⟨fn,aH⟩,rl,kids⟩:=x;dsimp only[bG.fact,bG.rule,bG.kids] at*
  go_enter Tryz.func5,Tryz.ntmps5
  go_wp2_with (first|(rw[←HW1.out])|fail)
  go_loopg [4,5,13] kids.length (fun g c d i wr=>∃(j cc dd:Nat),j+g=kids.length∧i=.int .i64 j∧c=.int .i64 cc∧d=.int .i64 dd∧Hid (cc=1+((kids.take j).map (cnt n)).sum∧dd=1+ql ((kids.take j).map (dpt n)))∧cc≤4000000∧dd≤4000002∧Hid (ak w1 wr))
  case atStart=>exact⟨0,1,1,by omega,rfl,rfl,rfl,⟨rfl,rfl⟩,by omega,by omega,ak.refl _⟩
  obtain⟨j,cc,dd,hj,rfl,rfl,rfl,HCD,hcc,hdd,HL⟩:=hrel
  by_cases hlt:j<kids.length
  ·obtain⟨k,hk⟩:∃k,kids[j]?=some k:=⟨_,List.getElem?_eq_getElem hlt⟩;obtain⟨m,hm⟩:=pK HKv.out (by intro e;rw[e] at hlt;simp at hlt);have hKv:=HKv.out;rw[hm] at hKv;obtain⟨b2,o2,s2,kv2,e2,hb2,_,q0,q1,q2,q3,hs2,hk2⟩:=pE hKv hk;simp only[Value.slice.injEq] at e2;obtain⟨rfl,_,_⟩:=e2;obtain⟨sa2,sc2,rfl⟩:=aB.slice hs2;obtain⟨ka2,kc2,rfl⟩:=aB.slice hk2;have d0:wr.cell? ⟨b2,o2+j*4,none⟩=some (.string k.fact.1):=by rw[HL.out.cell (p:=⟨b2,o2+j*4,none⟩) hb2];exact q0
   have d1:wr.cell? ⟨b2,o2+j*4+1,none⟩=some (.slice sa2 k.fact.2.length sc2):=by rw[HL.out.cell (p:=⟨b2,o2+j*4+1,none⟩) hb2];exact q1
   have d2:wr.cell? ⟨b2,o2+j*4+2,none⟩=some (.int .i64 k.rule):=by rw[HL.out.cell (p:=⟨b2,o2+j*4+2,none⟩) hb2];exact q2
   have d3:wr.cell? ⟨b2,o2+j*4+3,none⟩=some (.slice ka2 k.kids.length kc2):=by rw[HL.out.cell (p:=⟨b2,o2+j*4+3,none⟩) hb2];exact q3
   obtain⟨wk,hwk⟩:∃wk,wk=wr.alloc (.cells #[.string k.fact.1,.slice sa2 k.fact.2.length sc2,.int .i64 k.rule,.slice ka2 k.kids.length kc2] 30):=⟨_,rfl⟩;have hLk:ak wr wk:=by rw[hwk];exact(ak.refl wr).alloc _
   have hRk:wk.heap[wr.heap.size]?=some (.cells #[.string k.fact.1,.slice sa2 k.fact.2.length sc2,.int .i64 k.rule,.slice ka2 k.kids.length kc2] 30 (0,0)):=by rw[hwk];exact heap_alloc_new wr _
   have hLK:=HL.out.trans hLk;obtain⟨⟨k0,k1,k2,k3⟩,⟨k4,k5,k6⟩,_,_⟩:=dG hRk;obtain⟨p1,p2,p3⟩:=Mf (n:=n) hk;have hd:=JR n k;have hcd:=HCD.out;have HCl:=au (HIH.out m hm k (.agg #[.string k.fact.1,.slice sa2 k.fact.2.length sc2,.int .i64 k.rule,.slice ka2 k.kids.length kc2]) wk ⟨_,_,rfl,aB.aK hs2 hLK,aB.aK hk2 hLK⟩ (by omega));obtain⟨C2,hC2⟩:∃C2,C2=cnt n k:=⟨_,rfl⟩;obtain⟨D2,hD2⟩:∃D2,D2=dpt n k:=⟨_,rfl⟩;rw[←hC2] at HCl p1;rw[←hD2] at HCl p3 hd;have HP:=au (⟨p1,p3⟩:_∧_);have aaM:cc+C2≤4000000:=by omega
   have HLK:=au hLK;have HWk:=au hwk;obtain⟨⟨kn,Iu⟩,krl,kk⟩:=k;dsimp only[bG.fact,bG.rule,bG.kids] at*;clear hk hKv q0 q1 q2 q3 hs2 hk2 hwk hLk hRk hLK hm p1 p2 p3 hC2 hD2 hcd HL
   go_wp2_with (first|(rw[←HWk.out])|fail)
   refine HCl.out.mono ?_;rintro e w3 ⟨rfl,hL3⟩;have HL3:=au (HLK.out.trans hL3);clear hL3 HCl HLK HWk d0 d1 d2 d3 k0 k1 k2 k3 k4 k5 k6
   by_cases hgt:dd<D2+1
   ·have hgi:(dd:Int)<(D2:Int)+1:=by omega
    go_wp2
    go_roundg (kids.length- (j+1))
    case measure=>omega
    case rel=>exact⟨j+1,cc+C2,D2+1,by omega,by go_num,by go_num,by go_num,⟨by rw[HP.out.1,HCD.out.1];omega,by rw[HP.out.2];have:=HCD.out.2;omega⟩,by omega,by omega,HL3⟩
   have hgi:¬(dd:Int)<(D2:Int)+1:=by omega
   go_wp2
   go_roundg (kids.length- (j+1))
   case measure=>omega
   case rel=>exact⟨j+1,cc+C2,dd,by omega,by go_num,by go_num,rfl,⟨by rw[HP.out.1,HCD.out.1];omega,by rw[HP.out.2];have:=HCD.out.2;omega⟩,by omega,by omega,HL3⟩
  have HF:Hid (cc=C∧dd=D):=by have:=HCD.out;rw[List.take_of_length_le (by omega)] at this;exact⟨this.1.trans HE.out.1.symm,this.2.trans HE.out.2.symm⟩
  go_wp2;refine bodyPost_ret (v:=.tuple #[.int .i64 (cc:Nat),.int .i64 (dd:Nat)]) (by simp[results,Tryz.results5,go_sem]) rfl ⟨by rw[HF.out.1,HF.out.2],HL1.out.trans HL.out⟩
theorem Gd {n:Nat} {x:bG} (h:Deep (n+1) x):ig (fT ig (n+2) [x] (0,0))=ig (cnt (n+1) x,dpt (n+1) x):=by rw[Bu (n+1) (n+2) [x] (0,0) (by omega) (fun y hy=>by simp at hy;subst hy;exact h)];simp[ql]
theorem O8 (p:List aG) (told:List aA) (n:Nat) (x:bG) (pv tv xv:Value) (w:World) (hp:eP.sl bf w pv p) (ht:Facts w tv told) (hx:lV n bf w xv x) (hn:cnt (n+1) x≤4000000) (hnn:n≤4000000) (hox:okX (n+1) x) (hlg:∀r∈p,Bg r) (hok:∀k,okF (told.getD k aC)):
  Calls Tryz.prog 7 #[pv,tv,xv] w fun e w'=>e=.returned (.int .i64 (pV p told n x))∧Below w.heap.size w w':=by
 have hxv:=hx;have JU:=hx.deep;obtain⟨s,kv,rfl,hs,hkv⟩:=hx;obtain⟨pa,pc,rfl⟩:=aB.slice hp;obtain⟨ta,tc,rfl⟩:=aF ht;obtain⟨sa,sc,rfl⟩:=aB.slice hs;obtain⟨ka,kc,rfl⟩:=aB.slice hkv;obtain⟨w1,hw1⟩:∃w1,w1=w.alloc (.cells #[.string x.fact.1,.slice sa x.fact.2.length sc,.int .i64 x.rule,.slice ka x.kids.length kc] 30):=⟨_,rfl⟩;have hL1:ak w w1:=by rw[hw1];exact(ak.refl w).alloc _
 have hr1:w1.heap[w.heap.size]?=some (.cells #[.string x.fact.1,.slice sa x.fact.2.length sc,.int .i64 x.rule,.slice ka x.kids.length kc] 30 (0,0)):=by rw[hw1];exact heap_alloc_new w _
 have hlt1:w.heap.size<w1.heap.size:=(Array.getElem?_eq_some_iff.1 hr1).1;have HAl:=au (Zf p told (.slice pa p.length pc) (.slice ta told.length tc) w1 (aB.aK hp hL1) (ht.later hL1) hlg hok);have HCo:Hid (∀w',Below w.heap.size w w'→Calls Tryz.prog 5 #[.agg #[.string x.fact.1,.slice sa x.fact.2.length sc,.int .i64 x.rule,.slice ka x.kids.length kc]] w' fun e w''=>e=.returned (.tuple #[.int .i64 (cnt (n+1) x:Nat),.int .i64 (dpt (n+1) x:Nat)])∧ak w' w''):=fun w' h=>CX n x _ w' (hxv.below h) hnn hn;have HWr:Hid (∀(M:List aA) (av:Value) (w':World),jG p told=(0,M)→Below w.heap.size w w'→Facts w' av M→Calls Tryz.prog 17 #[.slice pa p.length pc,.slice ta told.length tc,av,.agg #[.string x.fact.1,.slice sa x.fact.2.length sc,.int .i64 x.rule,.slice ka x.kids.length kc]] w' fun e w''=>e=.returned (.int .i64 (dQ p told M (n+1) x))∧Below w'.heap.size w' w''):=fun M av w' hM h ha=>by obtain⟨h1,h2,h3,_,_⟩:=uN hM;exact XQ p told M (uO h1) (vB h1) n x _ _ av _ w' (aB.aJ hp h) (ht.below h) ha (hxv.below h) hox
 have HL1:=au hL1;have HW1:=au hw1;have HC:Hid (∀w',Below w1.heap.size w1 w'→w'.cell? ⟨w.heap.size,0,none⟩=some (.string x.fact.1)∧w'.cell? ⟨w.heap.size,0+1,none⟩=some (.slice sa x.fact.2.length sc)∧w'.cell? ⟨w.heap.size,0+2,none⟩=some (.int .i64 x.rule)∧w'.cell? ⟨w.heap.size,0+3,none⟩=some (.slice ka x.kids.length kc)):=fun w' h=>by have h1:=(h.block _ hlt1).trans hr1;obtain⟨⟨a0,_,_,_⟩,⟨a1,a2,a3⟩,_,_⟩:=dG h1;exact⟨a0,a1,a2,a3⟩
 obtain⟨RR,hRR⟩:∃RR:Int,RR=pV p told n x:=⟨_,rfl⟩;rw[←hRR];unfold pV at hRR;rw[Gd JU] at hRR;obtain⟨er,M,hM⟩:∃er M,jG p told=(er,M):=⟨_,_,rfl⟩;rw[hM] at HAl hRR;dsimp only at hRR;have HM:=au hM;have HRR:=au hRR;obtain⟨C,hC⟩:∃C,C=cnt (n+1) x:=⟨_,rfl⟩;obtain⟨D,hD⟩:∃D,D=dpt (n+1) x:=⟨_,rfl⟩;have hDl:D≤4000001:=by have:=JR (n+1) x;omega
 rw[←hC] at HCo HRR hn;rw[←hD] at HCo HRR;clear hxv hp ht hs hkv hL1 hr1 hw1 hRR hM JU hC hD hox hlg hok;obtain⟨⟨fn,aH⟩,rl,kids⟩:=x;dsimp only[bG.fact,bG.rule,bG.kids] at*
 go_enter Tryz.func7,Tryz.ntmps7
 go_wp2_with (first|(rw[←HW1.out])|fail)
 refine HAl.out.mono ?_;rintro e w2 ⟨v2,er2,rfl,⟨he2,hT0,hT1⟩,hB2⟩;dsimp only at he2 hT0 hT1;subst he2;have HB2:=au (aj HL1.out.below hB2 HL1.out.size)
 by_cases h0:er2=0
 ·subst h0;have hF2:=hT1 rfl;obtain⟨aa,ac,rfl⟩:=aF hF2;have HE:Hid (RR=if ig (C,D) then 4 else dQ p told M (n+1) (.mk (fn,aH) rl kids)):=by show _=_;rw[HRR.out,if_neg (by simp)]
  have H3:=au (HCo.out w2 HB2.out);obtain⟨y0,y1,y2,y3⟩:=HC.out w2 hB2;have QA:=au hB2;have HF2:=au hF2;clear hT0 hT1 hF2 hB2 HAl HCo HRR HW1
  go_wp2_with fail
  refine H3.out.mono ?_;rintro e w3 ⟨rfl,hL3⟩;have HB3:=au (aj HB2.out hL3.below HB2.out.size);have K6:=aj QA.out hL3.below QA.out.size;have hF3:=HF2.out.later hL3;clear H3 y0 y1 y2 y3
  by_cases h1:400<C
  ·have h1i:(400:Int)<(C:Int):=by omega
   have HE4:Hid (RR=4):=by show _=_;rw[HE.out,if_pos (by unfold ig;simp[h1])]
   clear HE HWr K6 hF3 hL3;go_wp2;go_ret;exact⟨by rw[HE4.out];rfl,HB3.out⟩
  have h1i:¬(400:Int)<(C:Int):=by omega
  by_cases h2:60<D
  ·have h2i:(60:Int)<(D:Int):=by omega
   have HE4:Hid (RR=4):=by show _=_;rw[HE.out,if_pos (by unfold ig;simp[h2])]
   clear HE HWr K6 hF3 hL3;go_wp2;go_ret;exact⟨by rw[HE4.out];rfl,HB3.out⟩
  have h2i:¬(60:Int)<(D:Int):=by omega
  have HE4:Hid (RR=dQ p told M (n+1) (.mk (fn,aH) rl kids)):=by show _=_;rw[HE.out,if_neg (by unfold ig;simp;omega)]
  obtain⟨y0,y1,y2,y3⟩:=HC.out w3 K6;have H5:=au (HWr.out M _ w3 HM.out HB3.out hF3);obtain⟨WX,hWX⟩:∃WX,WX=dQ p told M (n+1) (.mk (fn,aH) rl kids):=⟨_,rfl⟩;rw[←hWX] at H5 HE4;clear HE HWr K6 hF3 hL3 hWX
  go_wp2_with fail
  refine H5.out.mono ?_;rintro e w5 ⟨rfl,hB5⟩;have HB5:=au (aj HB3.out hB5 HB3.out.size);clear hB5 H5 y0 y1 y2 y3;go_wp2;go_ret;exact⟨by rw[HE4.out];rfl,HB5.out⟩
 have HE:Hid (RR=er2):=by show _=_;rw[HRR.out,if_pos h0]
 have e2:=hT0 h0;subst e2;have hne:(er2 != 0)=true:=by simpa using h0
 clear hT0 hT1 hB2 HRR HAl HCo HWr;go_wp2;go_ret;exact⟨by rw[HE.out];rfl,HB2.out⟩
end Go.Proofs.YtaallngooaaonaaGreatDoor
