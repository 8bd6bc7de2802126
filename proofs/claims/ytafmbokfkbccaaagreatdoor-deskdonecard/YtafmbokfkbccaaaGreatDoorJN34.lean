import Derived.Test.YtafmbokfkbccaaaGreatDoorJN29
import Derived.Test.YtafmbokfkbccaaaGreatDoorJN31
import Derived.Test.YtafmbokfkbccaaaGreatDoorJN32
import Derived.Test.YtafmbokfkbccaaaGreatDoorJN30
import Derived.Test.YtafmbokfkbccaaaGreatDoorJN33
import Derived.Test.YtafmbokfkbccaaaGreatDoorJN23
namespace Go.Proofs.YtafmbokfkbccaaaGreatDoor
open Go.RowKit Go.Sort Go.Maps
theorem Iw {p:List aA} {l M:List au} (h:Hf p l=(0,M)):cZ p∧GoodS p l∧∃τ,Sol p τ∧(aG p).1=p.map (fun r=>τ r.head.name)∧oV p (p.map fun r=>τ r.head.name) (countP (p.map fun r=>τ r.head.name)) 0 l=(0,M):=by
 unfold Hf at h;split at h
 ·rename_i h1;simp at h;exact absurd h.1 h1
 ·rename_i h1;split at h
  ·rename_i h2;simp at h;exact absurd h.1 h2
  ·rename_i h2;have e1:(aG p).2.1=0:=by simpa using h1
   obtain⟨hw,m,hm,_,_,hs⟩:=kG (p:=p) (l:=(aG p).1) (k:=(aG p).2.2) (by rw[←e1]);have hm':(aG p).1=p.map (fun r=>numOf m r.head.name):=hm;rw[hm'] at h;exact⟨mV.1 hw,qC (by simpa using h2),numOf m,hs,hm',h⟩
theorem Iy {p:List aA} {l M:List au} (h:Hf p l=(0,M)):cZ p∧GoodS p l∧GoodS p M∧(∀f∈l,f∈M)∧∀r∈p,∀x,gH r M=some x→∀f∈x,f∈M:=by
 obtain⟨hp,hl,τ,hτ,_,hr⟩:=Iw h;obtain⟨h1,h2⟩:=Gg hp hτ hl hr;exact⟨hp,hl,(Gf hp hτ hl hr).1,h1,h2⟩
theorem Iz {la lb:List au} (h:∀f∈la,f∈lb):(la.filter fun f=> !gq lb f 0)=[]:=by
 rw[List.filter_eq_nil_iff];intro f hf;rw[vC,aZ.2 (h f hf)];simp
end Go.Proofs.YtafmbokfkbccaaaGreatDoor
namespace Go.Proofs.YtafmbokfkbccaaaGreatDoor
open Go.RowKit Go.Sort Go.Maps
theorem IB {w:World} {a:Option Addr} {n c i:Nat} {l:List au} {f:au} (h:Facts w (.slice a n c) l) (hi:l[i]?=some f):∃b off s,a=some ⟨b,off,none⟩∧b<w.heap.size∧w.cell? ⟨b,off+i*2,none⟩=some (.string f.1)∧w.cell? ⟨b,off+i*2+1,none⟩=some s∧Strs w s f.2:=by
 obtain⟨_,a',cap',e,h1⟩:=h;simp only[Value.slice.injEq] at e;obtain⟨rfl,_,_⟩:=e;have hlt:=(List.getElem?_eq_some_iff.1 hi).1;obtain⟨b,off,rfl,hb,hc⟩:=h1 (by intro e;rw[e] at hi;simp at hi);obtain⟨c1,s,c2,c3⟩:=hc i hlt;rw[List.getD_eq_getElem?_getD,hi] at c1 c3;exact⟨b,off,s,rfl,hb,c1,c2,c3⟩
structure IC (w:World) (R:Nat) (d:dD) (a1:Option Addr) (c1:Nat) (a2:Option Addr) (c2:Nat) (a3:Option Addr) (c3:Nat) (a4:Option Addr) (c4:Nat) (a5:Option Addr) (c5:Nat):Prop where
 row:w.heap[R]?=some (.cells #[.slice a1 d.told.length c1,.slice a2 d.rules.length c2,.bool d.running,.slice a3 d.run.known.length c3,.slice a4 d.run.fresh.length c4,.int .i64 d.run.level,.int .i64 d.run.rounds,.bool d.run.done,.slice a5 d.saved.length c5] 56 (0,0))
 told:Facts w (.slice a1 d.told.length c1) d.told
 rules:dU.sl bZ w (.slice a2 d.rules.length c2) d.rules
 known:Facts w (.slice a3 d.run.known.length c3) d.run.known
theorem IC.below {w w':World} {R:Nat} {d:dD} {a1 a2 a3 a4 a5:Option Addr} {c1 c2 c3 c4 c5:Nat} (h:IC w R d a1 c1 a2 c2 a3 c3 a4 c4 a5 c5) (k:Below w.heap.size w w'):IC w' R d a1 c1 a2 c2 a3 c3 a4 c4 a5 c5:=
 ⟨(k.block _ (Array.getElem?_eq_some_iff.1 h.row).1).trans h.row,h.told.below k,Kind.aY h.rules k,h.known.below k⟩
set_option maxRecDepth 100000 in
set_option maxHeartbeats 8000000 in
theorem IE (φ:Prover) (hφ:DI φ) (l:List DoD) (lv:Value) (w:World) (hl:doK.sl bZ w lv l) (m:Int) (hm:w.cell? ⟨1,0,none⟩=some (.int .i64 m)) (hmw:1<w.heap.size):
  Calls Tryz.prog 9 #[lv] w fun e w'=>e=.returned (.bool true)∧Below w.heap.size w w':=by
 have HA:=hide (PI w m hm hmw);have HM:Hid (∀w',Below w.heap.size w w'→w'.cell? ⟨1,0,none⟩=some (.int .i64 m)∧1<w'.heap.size):=fun w' h=>⟨by rw[h.cell (p:=⟨1,0,none⟩) hmw];exact hm,Nat.lt_of_lt_of_le hmw h.size⟩;obtain⟨la,lc,rfl⟩:=Kind.slice hl;have HV:=hide hl;have HΦ:=hide hφ;clear hm hmw hl hφ
 go_enter Tryz.func9,Tryz.ntmps9
 go_wp2_with fail
 refine HA.out.mono ?_;rintro e w1 ⟨rfl,hB1⟩;have HB1:=hide hB1;clear HA hB1;have HPc:=hide (Pz φ l _ w1 (Kind.aY HV.out HB1.out) m (HM.out w1 HB1.out).1 (HM.out w1 HB1.out).2 (fun _ _ _=>HΦ.out))
 by_cases h60:60<l.length
 ·have hPl:pQ φ l=(jy,[],5):=by unfold pQ;rw[if_pos h60]
  rw[hPl] at HPc
  go_wp2_with fail
  refine HPc.out.mono ?_;rintro e w2 ⟨dv,ov,rfl,hDV,hAV,hB2⟩;obtain⟨xa1,xc1,xa2,xc2,xa3,xc3,xa4,xc4,xa5,xc5,rfl,_⟩:=hDV.slices;obtain⟨oa,oc,rfl⟩:=Kind.slice hAV;have HB2:=hide (aj HB1.out hB2 HB1.out.size);clear hDV hAV hB2 HPc hPl;go_wp2;go_ret;exact⟨rfl,aj HB2.out ((Later.refl _).alloc _).below HB2.out.size⟩
 obtain⟨D,A,hPl⟩:∃D A,ig φ jy l=(D,A):=⟨_,_,rfl⟩;have Uj:pQ φ l=(D,A,0):=by unfold pQ;rw[if_neg h60,hPl]
 have hInv:Lv D:=by have:=Bd φ l Iu;rw[hPl] at this;exact this
 rw[Uj] at HPc;have Qz:=hide hInv;clear hPl Uj hInv
 go_wp2_with fail
 refine HPc.out.mono ?_;rintro e w2 ⟨dv,ov,rfl,hDV,hAV,hB2⟩;obtain⟨a1,c1,a2,c2,a3,c3,a4,c4,a5,c5,rfl,q1,q2,q3,q4,q5⟩:=hDV.slices;obtain⟨oa,on,oc,rfl⟩:∃a n c,ov=.slice a n c:=by obtain⟨a,c,e⟩:=Kind.slice hAV;exact⟨a,_,c,e⟩
 obtain⟨w3,hw3⟩:∃w3,w3=w2.alloc (.cells #[.slice a1 D.told.length c1,.slice a2 D.rules.length c2,.bool D.running,.slice a3 D.run.known.length c3,.slice a4 D.run.fresh.length c4,.int .i64 D.run.level,.int .i64 D.run.rounds,.bool D.run.done,.slice a5 D.saved.length c5] 56):=⟨_,rfl⟩;have hL3:Later w2 w3:=by rw[hw3];exact(Later.refl _).alloc _
 have hr3:w3.heap[w2.heap.size]?=some (.cells #[.slice a1 D.told.length c1,.slice a2 D.rules.length c2,.bool D.running,.slice a3 D.run.known.length c3,.slice a4 D.run.fresh.length c4,.int .i64 D.run.level,.int .i64 D.run.rounds,.bool D.run.done,.slice a5 D.saved.length c5] 56 (0,0)):=by rw[hw3];exact heap_alloc_new _ _
 have HB3:Hid (Below w.heap.size w w3):=aj (aj HB1.out hB2 HB1.out.size) hL3.below (Nat.le_trans HB1.out.size hB2.size);have HS3:Hid (IC w3 w2.heap.size D a1 c1 a2 c2 a3 c3 a4 c4 a5 c5):=⟨hr3,q1.facts.later hL3,Kind.aQ (Kind.dz q2) hL3,q3.facts.later hL3⟩;obtain⟨⟨e0,e1,e2,e3,e4,e5,e6,e7,e8⟩,_,_⟩:=jd hr3;have HW3:=hide hw3;clear hDV hAV hB2 hw3 hL3 hr3 HPc HB1 q1 q2 q3 q4 q5;cases hrn:D.running
 ·rw[hrn] at e2 HW3;clear hrn
  go_wp2_with (first|(rw[←HW3.out])|fail)
  go_ret;exact⟨rfl,HB3.out⟩
 cases hdn:D.run.done
 ·rw[hrn] at e2 HW3;rw[hdn] at e7 HW3;clear hrn hdn
  go_wp2_with (first|(rw[←HW3.out])|fail)
  go_ret;exact⟨rfl,HB3.out⟩
 obtain⟨hGd,hRp,hof,hcl⟩:=(Qz.out.run hrn).done hdn;have hUp:=Qz.out.up;rw[hrn] at e2 HW3;rw[hdn] at e7 HW3;have PL:=hGd.few;have Wd:=Qz.out.few;have HGd:=hide hGd;have HRp:=hide hRp;have HOf:=hide hof;have HCl:=hide hcl;have HUp:=hide hUp;clear hGd hRp hof hcl hUp Qz hrn hdn
 go_wp2_with (first|(rw[←HW3.out])|fail)
 clear HW3 e0 e1 e2 e3 e4 e5 e6 e7 e8
 go_loopg [6,43] D.run.known.length (fun q v i wr=>∃j:Nat,j+q=D.run.known.length∧i=.int .i64 j∧Hid (oF wr w3.heap.size v ((D.run.known.take j).filter fun f=>inB D.told f))∧Hid (Later w3 wr))
 case atStart=>exact⟨0,by omega,rfl,oF.nil _ _,Later.refl _⟩
 case round=>
  obtain⟨j,hj,rfl,HR,HL⟩:=hrel;obtain⟨va,vn,vc,rfl⟩:∃a n c,u6=.slice a n c:=by
   obtain⟨xs,ho,_⟩:=HR.out;rcases ho.2 with⟨rfl,e⟩|⟨g,cap,cur,rfl,_⟩
   ·exact⟨_,_,_,rfl⟩
   ·exact⟨_,_,_,rfl⟩
  by_cases hlt:j<D.run.known.length
  ·have hltz:(j:Int)<(D.run.known.length:Int):=by omega
   obtain⟨f,hf⟩:∃f,D.run.known[j]?=some f:=⟨_,List.getElem?_eq_getElem hlt⟩;obtain⟨fb,fo,s,ea,hfb,k1,k2,k3⟩:=IB HS3.out.known hf;subst ea;have d0:wr.cell? ⟨fb,fo+j*2,none⟩=some (.string f.1):=by rw[HL.out.cell (p:=⟨fb,fo+j*2,none⟩) hfb];exact k1
   have d1:wr.cell? ⟨fb,fo+j*2+1,none⟩=some s:=by rw[HL.out.cell (p:=⟨fb,fo+j*2+1,none⟩) hfb];exact k2
   obtain⟨sa,sc,rfl⟩:=aW k3;obtain⟨wf,hwf⟩:∃wf,wf=wr.alloc (.cells #[.string f.1,.slice sa f.2.length sc] 27):=⟨_,rfl⟩;have hLf:Later wr wf:=by rw[hwf];exact(Later.refl _).alloc _
   have hRf:wf.heap[wr.heap.size]?=some (.cells #[.string f.1,.slice sa f.2.length sc] 27 (0,0)):=by rw[hwf];exact heap_alloc_new wr _
   have QA:=HL.out.trans hLf;have hSf:=HS3.out.below QA.below;obtain⟨⟨e0,e1,e2,e3,e4,e5,e6,e7,e8⟩,_,_⟩:=jd hSf.row;obtain⟨g0,g1,_,_,_⟩:=jN hRf;have g1':wf.cell? ⟨wr.heap.size,0+1,none⟩=some (.slice sa f.2.length sc):=g1;have hIn:=inC _ (.agg #[.string f.1,.slice sa f.2.length sc]) D.told f wf hSf.told ⟨_,rfl,k3.later QA⟩ HUp.out;rw[vC] at hIn;have HIn:=hide hIn;have HWf:=hide hwf;have HK3:=hide k3;have Wh:=hide QA;have HRf:=hide hRf;have HRR:=hide (HR.out.later hLf);have HFt:Hid ((D.run.known.take (j+1)).filter (fun f=>inB D.told f)=(D.run.known.take j).filter (fun f=>inB D.told f)++if inB D.told f then[f] else[]):=by
    show _=_;rw[List.take_add_one,hf,List.filter_append]
    congr 1
    simp only[Option.toList_some,List.filter_cons,List.filter_nil]
   clear hf k1 k2 k3 hwf hLf hRf QA hSf hIn;generalize inB D.told f=bx at*
   go_wp2_with (first|(rw[←HWf.out])|fail)
   refine HIn.out.mono ?_;rintro e w5 ⟨rfl,hL5⟩;clear e0 e1 e2 e3 e4 e5 e6 e7 e8 g0 g1 g1' d0 d1;have Lp:=Wh.out.trans hL5;cases bx
   ·have HN:Hid (oF w5 w3.heap.size (.slice va vn vc) ((D.run.known.take (j+1)).filter fun f=>inB D.told f)):=by rw[HFt.out];simp only[Bool.false_eq_true,if_false,List.append_nil];exact HRR.out.later hL5
    have HL5:=hide Lp;clear hL5 Lp;go_wp2
    go_roundg (D.run.known.length- (j+1))
    case measure=>omega
    case rel=>exact⟨j+1,by omega,by go_num,HN,HL5⟩
   ·have hr5:=(hL5.block (Array.getElem?_eq_some_iff.1 HRf.out).1).trans HRf.out;obtain⟨g0,g1,_,_,_⟩:=jN hr5;have g1':w5.cell? ⟨wr.heap.size,0+1,none⟩=some (.slice sa f.2.length sc):=g1;obtain⟨w6,hw6⟩:∃w6,w6=w5.alloc (.cells #[.string f.1,.slice sa f.2.length sc] 27):=⟨_,rfl⟩;have hL6:Later w5 w6:=by rw[hw6];exact(Later.refl _).alloc _
    have hr6:w6.heap[w5.heap.size]?=some (.cells #[.string f.1,.slice sa f.2.length sc] 27 (0,0)):=by rw[hw6];exact heap_alloc_new _ _
    obtain⟨v7,w7,hrun,hR7,hL7,_,_⟩:=oF.zn (m:=[f]) (cap:=1) (HRR.out.later (hL5.trans hL6)) (Lp.trans hL6) (D7.one hr6 HK3.out) (by
     refine Nat.le_trans (Nat.add_le_add_right (List.length_filter_le _ _) _) ?_;have e:([f]:List au).length=1:=rfl;rw[e,List.length_take];omega)
    obtain⟨b7,n7,c7,rfl⟩:∃a n c,v7=.slice a n c:=by
     obtain⟨xs,ho,_⟩:=hR7;rcases ho.2 with⟨rfl,e⟩|⟨g,cap,cur,rfl,_⟩
     ·exact⟨_,_,_,rfl⟩
     ·exact⟨_,_,_,rfl⟩
    have HN:Hid (oF w7 w3.heap.size (.slice b7 n7 c7) ((D.run.known.take (j+1)).filter fun f=>inB D.told f)):=by rw[HFt.out];exact hR7
    have HL7:=hide hL7;rw[hw6] at hrun;have HRn:=hide hrun;clear hL5 Lp hr5 hw6 hL6 hr6 hrun hR7 hL7
    go_wp2_with (first|(at_builtin;refine wpList_append_run rfl (.tmp 51) (.tmp 53) 24 rfl _ _ _ _ rfl rfl HRn.out ?_)|fail)
    go_roundg (D.run.known.length- (j+1))
    case measure=>omega
    case rel=>exact⟨j+1,by omega,by go_num,HN,HL7⟩
  ·obtain rfl:j=D.run.known.length:=by omega
   rw[List.take_length] at HR;have hnz:¬(D.run.known.length:Int)<(D.run.known.length:Int):=by omega
   obtain⟨Bg,hBg⟩:∃Bg,Bg=D.run.known.filter fun f=>inB D.told f:=⟨_,rfl⟩;rw[←hBg] at HR;have hBl:Bg.length≤200:=by rw[hBg];exact Nat.le_trans (List.length_filter_le _ _) PL
   have hBu:Up Bg:=by rw[hBg];exact HGd.out.up.filter _
   have hBm:∀f,f∈Bg↔f∈D.run.known∧f∈D.told:=fun f=>by rw[hBg,List.mem_filter,aZ]
   have HFB:=hide (HR.out.facts (by omega));have HBu:=hide hBu;have HBm:=hide hBm;have HB:=hide (aj HB3.out HL.out.below HB3.out.size);have HS:=hide (HS3.out.below HL.out.below);obtain⟨⟨e0,e1,e2,e3,e4,e5,e6,e7,e8⟩,_,_⟩:=jd HS.out.row;have HQ:Hid (∀w',Below wr.heap.size wr w'→IC w' w2.heap.size D a1 c1 a2 c2 a3 c3 a4 c4 a5 c5∧Facts w' (.slice va vn vc) Bg∧Below w.heap.size w w'):=fun w' h=>⟨HS.out.below h,HFB.out.below h,aj HB.out h HB.out.size⟩;obtain⟨wM,hwM⟩:∃wM,wM=wr.alloc (.map #[] 0):=⟨_,rfl⟩;have hLM:Later wr wM:=by rw[hwM];exact(Later.refl _).alloc _
   have HM0:Hid (rT wM wr.heap.size 0 fun _=>false):=by rw[hwM];exact rT.made wr
   have HBM:=hide hLM.below;obtain⟨⟨f0,f1,f2,f3,f4,f5,f6,f7,f8⟩,_,_⟩:=jd (HQ.out wM hLM.below).1.row;have HWM:=hide hwM;have h16:=HRp.out.few;have hmm:= @run_makeMap Tryz.prog;clear hBg hBu hBm hwM hLM HR HL HB3 HS3 HS HFB HB;generalize wr=wB at*
   go_wp2_with (first|(rw[←HWM.out])|fail)
   clear HWM hmm e0 e1 e2 e3 e4 e5 e6 e7 e8 f0 f1 f2 f3 f4 f5 f6 f7 f8
   go_loopg [60] D.rules.length (fun q i wx=>∃j:Nat,j+q=D.rules.length∧i=.int .i64 j∧Hid (rT wx wB.heap.size j fun s=>(D.rules.take j).any fun r=>decide (r.head.name=s))∧Hid (Below wB.heap.size wB wx))
   case atStart=>exact⟨0,by omega,rfl,HM0,HBM⟩
   case round=>
    clear HM0 HBM;obtain⟨j,hj,rfl,HMp,HBx⟩:=hrel
    by_cases hlt:j<D.rules.length
    ·have hltz:(j:Int)<(D.rules.length:Int):=by omega
     obtain⟨r,hr⟩:∃x,D.rules[j]?=some x:=⟨_,List.getElem?_eq_getElem hlt⟩;have hrm:r∈D.rules:=List.mem_of_getElem? hr;obtain⟨b1,o1,_,ea,hb1,⟨tv,bv,rfl,htv,hbv⟩,hc⟩:=Kind.fC (HQ.out wr HBx.out).1.rules hr;subst ea;have d0:=hc 0 _ rfl;have d1:=hc 1 _ rfl;have d2:=hc 2 _ rfl;have d3:=hc 3 _ rfl;rw[Nat.add_zero] at d0;have d0:wr.cell? ⟨b1,o1+j*4,none⟩=some (.bool r.head.no):=d0;have d1:wr.cell? ⟨b1,o1+j*4+1,none⟩=some (.string (bs r.head.name)):=d1;have d2:wr.cell? ⟨b1,o1+j*4+2,none⟩=some tv:=d2;have d3:wr.cell? ⟨b1,o1+j*4+3,none⟩=some bv:=d3;obtain⟨ta,tc,rfl⟩:=Kind.slice htv;obtain⟨ba,bc,rfl⟩:=Kind.slice hbv;obtain⟨wf,hwf⟩:∃wf,wf=wr.alloc (.cells #[.bool r.head.no,.string (bs r.head.name),.slice ta r.head.terms.length tc,.slice ba r.body.length bc] 87):=⟨_,rfl⟩;have hLf:Later wr wf:=by rw[hwf];exact(Later.refl _).alloc _
     have hrf:wf.heap[wr.heap.size]?=some (.cells #[.bool r.head.no,.string (bs r.head.name),.slice ta r.head.terms.length tc,.slice ba r.body.length bc] 87 (0,0)):=by rw[hwf];exact heap_alloc_new _ _
     have g1:wf.cell? ⟨wr.heap.size,1,none⟩=some (.string (bs r.head.name)):=by rw[cell_of_row _ _ _ _ _ _ hrf];rfl
     have g1':wf.cell? ⟨wr.heap.size,0+1,none⟩=some (.string (bs r.head.name)):=g1;have hnl:r.head.name.length≤maxLen:=by
      have:=(uz HRp.out).2 r.head (List.mem_flatMap.2 ⟨r,hrm,by simp⟩);simp only[maxLen];omega
     obtain⟨w5,hup,hM5,hg5⟩:=(HMp.out.later hLf).store (by simp only[maxLen];omega) hnl;have HN:Hid (rT w5 wB.heap.size (j+1) fun s=>(D.rules.take (j+1)).any fun r=>decide (r.head.name=s)):=hM5.congr fun s=>by
      rw[List.take_add_one,hr,List.any_append];simp only[Option.toList_some,List.any_cons,List.any_nil,Bool.or_false];rw[decide_eq_decide.2 (eq_comm:s=r.head.name↔r.head.name=s)]
     have hBf:=aj HBx.out hLf.below HBx.out.size;have HB5:Hid (Below wB.heap.size wB w5):=⟨hg5.os.trans hBf.os,hg5.tape.trans hBf.tape,hg5.output.trans hBf.output,Nat.le_trans hBf.size hg5.size,fun k hk=>(hg5.block k (Nat.lt_of_lt_of_le hk hBf.size) (fun e=>by simp only[Option.some.injEq] at e;omega)).trans (hBf.block k hk)⟩;have Wi:=hide hup;have HWf:=hide hwf;clear hr hrm hc htv hbv hwf hLf hrf hnl hup hM5 hg5 hBf
     go_wp2_with (first|(rw[←HWf.out])|(at_mapUpdate;refine bV _ rfl _ _ _ _ rfl _ _ _ _ rfl rfl rfl Wi.out ?_)|fail)
     go_roundg (D.rules.length- (j+1))
     case measure=>omega
     case rel=>exact⟨j+1,by omega,by go_num,HN,HB5⟩
    ·obtain rfl:j=D.rules.length:=by omega
     rw[List.take_length] at HMp;have hrz:¬(D.rules.length:Int)<(D.rules.length:Int):=by omega
     obtain⟨⟨e0,e1,e2,e3,e4,e5,e6,e7,e8⟩,_,_⟩:=jd (HQ.out wr HBx.out).1.row;generalize wr=wC at*;go_wp2;clear e0 e1 e2 e3 e4 e5 e6 e7 e8
     go_loopg [73] D.run.known.length (fun q i wx=>∃j:Nat,j+q=D.run.known.length∧i=.int .i64 j∧Hid (Later wC wx))
     case atStart=>exact⟨0,by omega,rfl,Later.refl _⟩
     case round=>
      obtain⟨j,hj,rfl,HLx⟩:=hrel;have hBx:=aj HBx.out HLx.out.below HBx.out.size
      by_cases hlt:j<D.run.known.length
      ·have hltz:(j:Int)<(D.run.known.length:Int):=by omega
       obtain⟨f,hf⟩:∃f,D.run.known[j]?=some f:=⟨_,List.getElem?_eq_getElem hlt⟩;have hfm:f∈D.run.known:=List.mem_of_getElem? hf;obtain⟨fb,fo,s,ea,hfb,d0,d1,k3⟩:=IB (HQ.out wr hBx).1.known hf;subst ea;obtain⟨sa,sc,rfl⟩:=aW k3;obtain⟨wf,hwf⟩:∃wf,wf=wr.alloc (.cells #[.string f.1,.slice sa f.2.length sc] 27):=⟨_,rfl⟩;have hLf:Later wr wf:=by rw[hwf];exact(Later.refl _).alloc _
       have hRf:wf.heap[wr.heap.size]?=some (.cells #[.string f.1,.slice sa f.2.length sc] 27 (0,0)):=by rw[hwf];exact heap_alloc_new wr _
       obtain⟨g0,g1,_,_,_⟩:=jN hRf;have g1':wf.cell? ⟨wr.heap.size,0+1,none⟩=some (.slice sa f.2.length sc):=g1;have QB:=HLx.out.trans hLf;have hlk:=(HMp.out.later QB).look (s:=raw f.1) (by have:=uF (HGd.out.right f hfm).1;rw[aP];simp only[maxLen];omega);rw[jW] at hlk;have hBf:=aj HBx.out QB.below HBx.out.size;have hIn:=inC _ (.agg #[.string f.1,.slice sa f.2.length sc]) Bg f wf (HQ.out wf hBf).2.1 ⟨_,rfl,k3.later hLf⟩ HBu.out;rw[vC] at hIn;have HIn:=hide hIn;have HLk:=hide hlk;have HWf:=hide hwf;have HLf:=hide QB;have hor:(D.rules.any fun r=>decide (r.head.name=raw f.1))=true∨inB Bg f=true:=by
        rcases HOf.out f hfm with h|⟨q,hq,e⟩
        ·exact Or.inr (aZ.2 ((HBm.out f).2 ⟨hfm,h⟩))
        ·exact Or.inl (List.any_eq_true.2 ⟨q,hq,by rw[e,iD];simp⟩)
       clear hf hfm hfb k3 hwf hLf hRf QB hlk hBf hIn hBx;generalize(D.rules.any fun r=>decide (r.head.name=raw f.1))=x1 at*;generalize inB Bg f=x2 at*;cases x1
       ·obtain rfl:x2=true:=by simpa using hor
        clear hor
        go_wp2_with (first|(rw[←HWf.out])|(at_lookup;refine dG _ rfl _ _ _ _ rfl _ _ _ rfl rfl HLk.out ?_)|fail)
        refine HIn.out.mono ?_;rintro e w5 ⟨rfl,hL5⟩;have HL5:=hide (HLf.out.trans hL5);clear hL5 g0 g1 g1';go_wp2
        go_roundg (D.run.known.length- (j+1))
        case measure=>omega
        case rel=>exact⟨j+1,by omega,by go_num,HL5⟩
       ·clear hor
        go_wp2_with (first|(rw[←HWf.out])|(at_lookup;refine dG _ rfl _ _ _ _ rfl _ _ _ rfl rfl HLk.out ?_)|fail)
        go_roundg (D.run.known.length- (j+1))
        case measure=>omega
        case rel=>exact⟨j+1,by omega,by go_num,HLf⟩
      ·have hkz:¬(j:Int)<(D.run.known.length:Int):=by omega
       obtain⟨⟨e0,e1,e2,e3,e4,e5,e6,e7,e8⟩,_,_⟩:=jd (HQ.out wr hBx).1.row;have HBd:=hide hBx;clear hBx;generalize wr=wD at*;go_wp2;clear e0 e1 e2 e3 e4 e5 e6 e7 e8
       go_loopg [92] D.rules.length (fun q i wx=>∃j:Nat,j+q=D.rules.length∧i=.int .i64 j∧Hid (Below wB.heap.size wB wx))
       case atStart=>exact⟨0,by omega,rfl,HBd⟩
       case round=>
        clear HBd;obtain⟨j,hj,rfl,HBx⟩:=hrel;obtain⟨hSx,_,hBw⟩:=HQ.out wr HBx.out
        by_cases hlt:j<D.rules.length
        ·have hltz:(j:Int)<(D.rules.length:Int):=by omega
         obtain⟨r,hr⟩:∃x,D.rules[j]?=some x:=⟨_,List.getElem?_eq_getElem hlt⟩;have hrm:r∈D.rules:=List.mem_of_getElem? hr;obtain⟨b1,o1,_,ea,hb1,⟨tv,bv,rfl,htv,hbv⟩,hc⟩:=Kind.fC hSx.rules hr;subst ea;have d0:wr.cell? ⟨b1,o1+j*4,none⟩=some (.bool r.head.no):=hc 0 _ rfl;have d1:wr.cell? ⟨b1,o1+j*4+1,none⟩=some (.string (bs r.head.name)):=hc 1 _ rfl;have d2:wr.cell? ⟨b1,o1+j*4+2,none⟩=some tv:=hc 2 _ rfl;have d3:wr.cell? ⟨b1,o1+j*4+3,none⟩=some bv:=hc 3 _ rfl;obtain⟨ta,tc,rfl⟩:=Kind.slice htv;obtain⟨ba,bc,rfl⟩:=Kind.slice hbv;obtain⟨wf,hwf⟩:∃wf,wf=wr.alloc (.cells #[.bool r.head.no,.string (bs r.head.name),.slice ta r.head.terms.length tc,.slice ba r.body.length bc] 87):=⟨_,rfl⟩;have hLf:Later wr wf:=by rw[hwf];exact(Later.refl _).alloc _
         have hrf:wf.heap[wr.heap.size]?=some (.cells #[.bool r.head.no,.string (bs r.head.name),.slice ta r.head.terms.length tc,.slice ba r.body.length bc] 87 (0,0)):=by rw[hwf];exact heap_alloc_new _ _
         have g0:wf.cell? ⟨wr.heap.size,0,none⟩=some (.bool r.head.no):=by rw[cell_of_row _ _ _ _ _ _ hrf];rfl
         have g1:wf.cell? ⟨wr.heap.size,0+1,none⟩=some (.string (bs r.head.name)):=by rw[cell_of_row _ _ _ _ _ _ hrf];rfl
         have g2:wf.cell? ⟨wr.heap.size,0+2,none⟩=some (.slice ta r.head.terms.length tc):=by rw[cell_of_row _ _ _ _ _ _ hrf];rfl
         have g3:wf.cell? ⟨wr.heap.size,0+3,none⟩=some (.slice ba r.body.length bc):=by rw[cell_of_row _ _ _ _ _ _ hrf];rfl
         have hBf:=aj HBx.out hLf.below HBx.out.size;obtain⟨hSf,_,_⟩:=HQ.out wf hBf;obtain⟨⟨e0,e1,e2,e3,e4,e5,e6,e7,e8⟩,_,_⟩:=jd hSf.row;have HH:=hide (GZ r (.slice ta r.head.terms.length tc) (.slice ba r.body.length bc) (.slice a3 D.run.known.length c3) D.run.known wf (Kind.aQ htv hLf) (Kind.aQ hbv hLf) hSf.known (nY HRp.out HGd.out r hrm));have h0:=qB HRp.out HGd.out r hrm;have Sg:=HCl.out r hrm;have HBf:=hide hBf;have HWf:=hide hwf;clear hr hrm hc htv hbv hwf hLf hrf hBf hSf hSx;generalize bs r.head.name=nm at*;generalize hno:r.head.no=no at*;clear hno
         go_wp2_with (first|(rw[←HWf.out])|fail)
         refine HH.out.mono ?_;rintro e w5 ⟨v5,er,rfl,hT5,hB5⟩;unfold mI at hT5;rw[if_neg (by simp[h0])] at hT5;have hBx5:=aj HBf.out hB5 HBf.out.size;obtain⟨hS5,_,_⟩:=HQ.out w5 hBx5;have HB5:=hide hBx5;clear e0 e1 e2 e3 e4 e5 e6 e7 e8;obtain⟨⟨e0,e1,e2,e3,e4,e5,e6,e7,e8⟩,_,_⟩:=jd hS5.row;clear hB5 HH HWf HBf h0 hBx5 g0 g1 g2 g3 d0 d1 d2 d3;cases hh:gH r D.run.known with
         |none=>
          rw[hh] at hT5;obtain⟨rfl,rfl⟩:=hT5;clear hh Sg;go_wp2
          go_roundg (D.rules.length- (j+1))
          case measure=>omega
          case rel=>exact⟨j+1,by omega,by go_num,HB5⟩
         |some x=>
          rw[hh] at hT5;obtain⟨rfl,hF5⟩:=hT5;have HLs:=hide (JD v5 (.slice a3 D.run.known.length c3) x D.run.known w5 hF5 hS5.known HGd.out.up);rw[Iz (Sg x hh)] at HLs;obtain⟨a5',c5',rfl⟩:=aB hF5;clear hh Sg hF5 hS5
          go_wp2_with fail
          refine HLs.out.mono ?_;rintro e w6 ⟨v6,rfl,hO6,hL6⟩;obtain⟨a6,c6,rfl⟩:=aB (hO6.facts (by simp));have HB6:=hide (aj HB5.out hL6.below HB5.out.size);clear hO6 hL6 HLs e0 e1 e2 e3 e4 e5 e6 e7 e8;simp only[List.length_nil];go_wp2
          go_roundg (D.rules.length- (j+1))
          case measure=>omega
          case rel=>exact⟨j+1,by omega,by go_num,HB6⟩
        ·have hltz:¬(j:Int)<(D.rules.length:Int):=by omega
         go_wp2;go_ret;exact⟨rfl,hBw⟩
end Go.Proofs.YtafmbokfkbccaaaGreatDoor
namespace Go.Proofs.YtafmbokfkbccaaaGreatDoor
def aT (p:List aA) (ss:List Nat) (n:Int):Nat→List au→Int×List (List au)
 |0,_=>(0,[])
 |k+1,l=>if(fu p ss n l).1≠0 then((fu p ss n l).1,[]) else if(fu p ss n l).2.length=l.length then(0,[(fu p ss n l).2])
  else((aT p ss n k (fu p ss n l).2).1,(fu p ss n l).2::(aT p ss n k (fu p ss n l).2).2)
def bE (l:List au) (ps:List (List au)):List au:=ps.getLast?.getD l
theorem gU (l m:List au) (ps:List (List au)):bE l (m::ps)=bE m ps:=by
 unfold bE;cases ps with
 |nil=>rfl
 |cons a ps=>rw[List.getLast?_cons_cons];rw[List.getLast?_cons];rfl
theorem gK (l:List au) (ps qs:List (List au)):bE l (ps++qs)=bE (bE l ps) qs:=by
 induction ps generalizing l with
 |nil=>rfl
 |cons a ps ih=>rw[List.cons_append,gU,gU,ih]
def bF (p:List aA) (ss:List Nat):Nat→Nat→List au→Int×List (List au)
 |0,_,_=>(0,[])
 |c+1,n,l=>if(aT p ss n 201 l).1≠0 then((aT p ss n 201 l).1,[])
  else((bF p ss c (n+1) (bE l (aT p ss n 201 l).2)).1,(aT p ss n 201 l).2++(bF p ss c (n+1) (bE l (aT p ss n 201 l).2)).2)
theorem Bf (p:List aA) (ss:List Nat) (n:Int):∀(k:Nat) (l:List au),(jl p ss n k l).1=(aT p ss n k l).1∧((aT p ss n k l).1=0→jl p ss n k l=(0,bE l (aT p ss n k l).2))
 |0,l=>⟨rfl,fun _=>rfl⟩
 |k+1,l=>by
  unfold jl aT
  by_cases h0:(fu p ss n l).1=0
  ·have h0':¬(fu p ss n l).1≠0:=fun h=>h h0;simp only[if_neg h0']
   by_cases h1:(fu p ss n l).2.length=l.length
   ·simp only[if_pos h1];exact⟨trivial,fun _=>rfl⟩
   ·simp only[if_neg h1];obtain⟨h2,h3⟩:=Bf p ss n k (fu p ss n l).2;exact⟨h2,fun h=>by rw[h3 h,gU]⟩
  ·have h0':(fu p ss n l).1≠0:=h0;simp only[if_pos h0'];exact⟨trivial,fun h=>absurd h h0⟩
theorem yV (p:List aA) (ss:List Nat):∀(c n:Nat) (l:List au),(oV p ss c n l).1=(bF p ss c n l).1∧((bF p ss c n l).1=0→oV p ss c n l=(0,bE l (bF p ss c n l).2))
 |0,n,l=>⟨rfl,fun _=>rfl⟩
 |c+1,n,l=>by
  obtain⟨o1,o2⟩:=Bf p ss n 201 l;unfold oV bF
  by_cases h0:(aT p ss n 201 l).1=0
  ·have o3:=o2 h0;have h1:¬(jl p ss n 201 l).1≠0:=fun h=>h (o1.trans h0);have h2:¬(aT p ss n 201 l).1≠0:=fun h=>h h0;simp only[if_neg h1,if_neg h2];rw[o3];obtain⟨h2,h3⟩:=yV p ss c (n+1) (bE l (aT p ss n 201 l).2);exact⟨h2,fun h=>by rw[h3 h,gK]⟩
  ·have h1:(jl p ss n 201 l).1≠0:=fun h=>h0 (o1.symm.trans h);have h2:(aT p ss n 201 l).1≠0:=h0;simp only[if_pos h1,if_pos h2];exact⟨o1,fun h=>absurd h h0⟩
def dO (b:List aD) (t:dH):dH:=if t.1 then(match dX b (bs t.2) with|some s=>(false,raw s)|none=>t) else t
def eZ (b:List aD) (a:aF):aF:=⟨a.no,a.name,a.terms.map (dO b)⟩
def eH (b:List aD) (body:List aF):List aF:=body.map (eZ b)
def fO (body:List aF) (l:List aD):List au:=body.filterMap fun a=>if a.no then none else aV a l
def q9 (body:List aF) (all:List au) (er:Int):List (List aD):=if er≠0 then[] else(lX (fun _=>all) body).getD []
def byP (err:List aF→Int) (all old:List au) (r:aA) (f:au):Option (List au):=match fK r.head f [] with
 |none=>none
 |some b=>((q9 (eH b r.body) all (err (eH b r.body))).map (fO (eH b r.body))).find? fun of=>of.all (inB old)
def iC (ps:List (List au)) (f:au):Nat:=ps.findIdx fun l=>inB l f
def jS (g:aA→Option (List au)):Nat→List aA→Int×List au
 |_,[]=>(-1,[])
 |i,r::p=>match g r with
  |some of=>(i,of)
  |none=>jS g (i+1) p
def ru (err:List aF→Int) (p:List aA) (told all:List au) (ps:List (List au)) (f:au):Int×List au:=
 if inB told f then(-1,[]) else jS (fun r=>byP err all (ps.getD (iC ps f-1) []) r f) 0 p
def lQ (g:au→Nat×Nat→Option iT×(Nat×Nat)):List au→Nat×Nat→Option (List iT)×(Nat×Nat)
 |[],s=>(some [],s)
 |f::fs,s=>match(g f s).1 with
  |none=>(none,(g f s).2)
  |some k=>match(lQ g fs (g f s).2).1 with
   |none=>(none,(lQ g fs (g f s).2).2)
   |some ks=>(some (k::ks),(lQ g fs (g f s).2).2)
def dh (how:au→Int×List au):Nat→au→Nat→Nat×Nat→Option iT×(Nat×Nat)
 |0,_,_,s=>(none,s)
 |n+1,f,d,s=>if AO (s.1+1,max s.2 d) then(none,(s.1+1,max s.2 d))
  else match(lQ (fun g s=>dh how n g (d+1) s) (how f).2 (s.1+1,max s.2 d)).1 with
   |none=>(none,(lQ (fun g s=>dh how n g (d+1) s) (how f).2 (s.1+1,max s.2 d)).2)
   |some ks=>(some (.mk f (how f).1 ks),(lQ (fun g s=>dh how n g (d+1) s) (how f).2 (s.1+1,max s.2 d)).2)
end Go.Proofs.YtafmbokfkbccaaaGreatDoor
namespace Go.Proofs.YtafmbokfkbccaaaGreatDoor
theorem kC {α β:Type} {g h:α→Option β}:∀{l:List α},(∀x∈l,g x=h x)→l.filterMap g=l.filterMap h
 |[],_=>rfl
 |a::l,e=>by
  rw[List.filterMap_cons,List.filterMap_cons,e a (by simp),kC fun x hx=>e x (by simp[hx])]
theorem CK (b l:List aD) (t:dH):bq l (dO b t)=bq (b++l) t:=by
 unfold dO;obtain⟨v,n⟩:=t;cases v with
 |false=>simp[bq]
 |true=>
  simp only[if_true];unfold bq;rw[fJ];cases dX b (bs n) with
  |none=>rfl
  |some s=>simp[jW]
theorem nP (b l:List aD):∀ts:List dH,aN l (ts.map (dO b))=aN (b++l) ts
 |[]=>rfl
 |t::ts=>by
  rw[List.map_cons];unfold aN;rw[CK,nP b l ts]
theorem qL (b l:List aD) (a:aF):aV (eZ b a) l=aV a (b++l):=by
 unfold aV eZ;rw[nP]
theorem mO {G:List aD}:∀(ts:List dH) (xs:List ByteArray) (c:List aD),(∀v s,dX c v=some s→dX G v=some s)→aN G ts=some xs→
  ∃m,eG c ts xs=some m∧∀v s,dX m v=some s→dX G v=some s
 |[],xs,c,h,_=>⟨c,rfl,h⟩
 |t::ts,xs,c,h,hf=>by
  unfold aN at hf;cases hw:bq G t with
  |none=>rw[hw] at hf;cases hf
  |some x=>
   rw[hw] at hf;dsimp only at hf;cases hr:aN G ts with
   |none=>rw[hr] at hf;cases hf
   |some r=>
    rw[hr] at hf;cases hf;unfold eG;cases hc:bq c t with
    |none=>
     refine mO ts r (c++[(bs t.2,x)]) (fun v s hv=> ?_) hr;rw[fJ] at hv;cases hg:dX c v with
     |some u=>rw[hg] at hv;cases hv;exact h v _ hg
     |none=>
      rw[hg] at hv;dsimp only at hv;unfold dX at hv;split at hv
      ·rename_i e;cases hv;dsimp only at e;subst e;unfold bq at hw hc;cases ht:t.1 with
       |true=>rw[ht] at hw;simpa using hw
       |false=>rw[ht] at hc;simp at hc
      ·cases hv
    |some s=>
     have e:s=x:=by
      unfold bq at hw hc;cases ht:t.1 with
      |true=>
       rw[ht] at hw hc;simp only[if_true] at hw hc;have:=h _ _ hc;rw[hw] at this;exact(Option.some.inj this).symm
      |false=>
       rw[ht] at hw hc;simp only[Bool.false_eq_true,if_false] at hw hc;exact Option.some.inj (hc.symm.trans hw)
     dsimp only;rw[if_pos e];exact mO ts r c h hr
theorem xB {G c:List aD} {a:aF} {f:au} (h:∀v s,dX c v=some s→dX G v=some s) (hf:aV a G=some f):∃m,fK a f c=some m∧∀v s,dX m v=some s→dX G v=some s:=by
 obtain⟨h1,h2⟩:=jo hf;obtain⟨m,hm,hm2⟩:=mO a.terms f.2 c h h2;exact⟨m,by unfold fK;rw[if_pos ⟨h1.symm,(jY h2).symm⟩,hm],hm2⟩
theorem qM {G:List aD}:∀(body:List aF) (c:List aD),(∀v s,dX c v=some s→dX G v=some s)→(∀a∈body,∃k,aV a G=some k)→
  ∃b',lK body (body.filterMap fun a=>if a.no then none else aV a G) c=(0,b')∧∀v s,dX b' v=some s→dX G v=some s
 |[],c,h,_=>⟨c,rfl,h⟩
 |a::body,c,h,hf=>by
  obtain⟨k,hk⟩:=hf a (by simp);cases hno:a.no with
  |true=>
   have e:((a::body).filterMap fun a=>if a.no then none else aV a G)=body.filterMap fun a=>if a.no then none else aV a G:=List.filterMap_cons_none (by simp[hno]);rw[e];unfold lK;rw[if_pos hno];exact qM body c h fun x hx=>hf x (by simp[hx])
  |false=>
   have e:((a::body).filterMap fun a=>if a.no then none else aV a G)=k::body.filterMap fun a=>if a.no then none else aV a G:=List.filterMap_cons_some (by simp[hno,hk]);rw[e];obtain⟨m,hm,hm2⟩:=xB h hk;unfold lK;rw[if_neg (by simp[hno])];dsimp only;rw[hm];exact qM body m hm2 fun x hx=>hf x (by simp[hx])
theorem Bh (b l:List aD) (body:List aF):fO (eH b body) l=body.filterMap fun a=>if a.no then none else aV a (b++l):=by
 unfold fO eH;rw[List.filterMap_map];refine kC fun a _=> ?_;show(if a.no then none else aV (eZ b a) l)=_;rw[qL]
theorem Nf {all:List au} {r:aA} {f:au} {b l:List aD} (hR:mg r) (hm:fK r.head f []=some b) (hso:∀a∈r.body,∃g,aV a (b++l)=some g∧inB all g= !a.no):EU all r f (fO (eH b r.body) l)=0:=by
 obtain⟨_,hk0,_⟩:=oO (K:=[]) rfl hm;obtain⟨b',hb',hag⟩:=qM (G:=b++l) r.body b (fun v s h=>by rw[fJ,h]) fun a ha=>by obtain⟨g,hg,_⟩:=hso a ha;exact⟨g,hg⟩
 rw[←Bh] at hb';obtain⟨_,hkb,_⟩:=uH hk0 hb';unfold EU;rw[hm];dsimp only;rw[hb'];dsimp only;rw[if_neg (by simp)];refine MO fun a ha hno=> ?_;obtain⟨g,hg,hi⟩:=hso a ha;refine⟨g,?_,by rw[hi,hno];rfl⟩;rw[←hg];refine kX fun t ht ht1=> ?_;have hc:=dJ hR a ha t ht ht1;have hkey:bs t.2∈bO b':=by
  rw[hkb];refine fD.2 ((iA r.body).2 (Or.inr ?_));rcases(iA r.body).1 hc with h1|h1
  ·cases h1
  ·exact h1
 obtain⟨s,hs⟩:=kW hkey;rw[hs,hag _ _ hs]
def rest (b l:List aD):List aD:=l.filter fun x=>(dX b x.1).isNone
def agree (b l:List aD):Bool:=l.all fun x=>match dX b x.1 with|none=>true|some s=>decide (s=x.2)
theorem DK {b l:List aD} {v:ByteArray} (h:dX b v=none):dX (rest b l) v=dX l v:=by
 unfold rest
 induction l with
 |nil=>rfl
 |cons x l ih=>
  rw[List.filter_cons]
  by_cases e:x.1=v
  ·have:(dX b x.1).isNone=true:=by rw[e,h];rfl
   rw[if_pos this];simp[dX,e]
  ·cases hx:(dX b x.1).isNone with
   |true=>rw[if_pos rfl];simp only[dX,if_neg e,ih]
   |false=>rw[if_neg (by simp)];simp only[dX,if_neg e,ih]
theorem IG {b l:List aD} (h:agree b l=true) {v s u:ByteArray} (hb:dX b v=some s) (hl:dX l v=some u):u=s:=by
 have:=List.all_eq_true.1 h _ (rX hl);dsimp only at this;rw[hb] at this;exact(of_decide_eq_true this).symm
theorem mP {b l:List aD} {x:aD}:agree b (l++[x])=(agree b l&&(match dX b x.1 with|none=>true|some s=>decide (s=x.2))):=by
 unfold agree;rw[List.all_append];simp
theorem ng:∀(ts:List dH) (xs:List ByteArray) (l m:List aD),eG l ts xs=some m→∃r,m=l++r
 |[],_,l,m,h=>⟨[],by cases h;simp⟩
 |_::_,[],l,m,h=>by cases h
 |t::ts,x::xs,l,m,h=>by
  unfold eG at h;split at h
  ·obtain⟨r,e⟩:=ng ts xs _ m h;exact⟨(bs t.2,x)::r,by rw[e];simp⟩
  ·split at h
   ·exact ng ts xs l m h
   ·cases h
theorem Bj {b l m:List aD} (h:agree b l=false) (e:∃r,m=l++r):agree b m=false:=by
 obtain⟨r,rfl⟩:=e;unfold agree at*;rw[List.all_append,h];rfl
def pass (b:List aD):Option (List aD)→Option (List aD)
 |none=>none
 |some m=>if agree b m then some (rest b m) else none
theorem II {b:List aD} {o:Option (List aD)} (h:∀m,o=some m→agree b m=false):pass b o=none:=by
 cases o with
 |none=>rfl
 |some m=>
  show(if agree b m=true then some (rest b m) else none)=none;rw[if_neg (by rw[h m rfl];simp)]
theorem iG (b:List aD):∀(ts:List dH) (xs:List ByteArray) (l:List aD),agree b l=true→eG (rest b l) (ts.map (dO b)) xs=pass b (eG l ts xs)
 |[],xs,l,h=>by
  show some (rest b l)=(if agree b l=true then some (rest b l) else none);rw[if_pos h]
 |t::ts,[],l,h=>rfl
 |t::ts,x::xs,l,h=>by
  rw[List.map_cons];unfold eG;obtain⟨v,n⟩:=t;cases v with
  |false=>
   have e1:dO b (false,n)=(false,n):=by simp[dO]
   have e2:∀q:List aD,bq q (false,n)=some (bs n):=fun q=>by simp[bq]
   rw[e1,e2,e2];dsimp only
   by_cases hx:bs n=x
   ·rw[if_pos hx,if_pos hx];exact iG b ts xs l h
   ·rw[if_neg hx,if_neg hx];rfl
  |true=>
   cases hb:dX b (bs n) with
   |some s=>
    have e1:dO b (true,n)=(false,raw s):=by simp[dO,hb]
    have e2:∀q:List aD,bq q (false,raw s)=some s:=fun q=>by simp[bq,jW]
    have e3:∀q:List aD,bq q (true,n)=dX q (bs n):=fun q=>by simp[bq]
    rw[e1,e2,e3];dsimp only;cases hl:dX l (bs n) with
    |some u=>
     have:=IG h hb hl;subst this;dsimp only
     by_cases hx:u=x
     ·rw[if_pos hx,if_pos hx];exact iG b ts xs l h
     ·rw[if_neg hx,if_neg hx];rfl
    |none=>
     dsimp only
     by_cases hx:s=x
     ·subst hx;rw[if_pos rfl];have h2:agree b (l++[(bs n,s)])=true:=by rw[mP,h];simp[hb]
      have h3:rest b (l++[(bs n,s)])=rest b l:=by unfold rest;rw[List.filter_append];simp[hb]
      rw[←h3];exact iG b ts xs _ h2
     ·rw[if_neg hx];have h2:agree b (l++[(bs n,x)])=false:=by rw[mP,h];simp[hb,hx]
      exact(II fun m hm=>Bj h2 (ng _ _ _ _ hm)).symm
   |none=>
    have e1:dO b (true,n)=(true,n):=by simp[dO,hb]
    have e3:∀q:List aD,bq q (true,n)=dX q (bs n):=fun q=>by simp[bq]
    rw[e1,e3,e3,DK hb];cases hl:dX l (bs n) with
    |some u=>
     dsimp only
     by_cases hx:u=x
     ·rw[if_pos hx,if_pos hx];exact iG b ts xs l h
     ·rw[if_neg hx,if_neg hx];rfl
    |none=>
     dsimp only;have h2:agree b (l++[(bs n,x)])=true:=by rw[mP,h];simp[hb]
     have h3:rest b (l++[(bs n,x)])=rest b l++[(bs n,x)]:=by unfold rest;rw[List.filter_append];simp[hb]
     rw[←h3];exact iG b ts xs _ h2
theorem CO (b:List aD) {a:aF} {f:au} {l:List aD} (h:agree b l=true):fK (eZ b a) f (rest b l)=pass b (fK a f l):=by
 unfold fK eZ;dsimp only;rw[List.length_map];split
 ·exact iG b a.terms f.2 l h
 ·rfl
def passes (b:List aD) (ls:List (List aD)):List (List aD):=(ls.filter (agree b)).map (rest b)
theorem rU (b:List aD) (fs:List au) (g:au→Option (List aD)):passes b (fs.filterMap g)=fs.filterMap fun f=>pass b (g f):=by
 unfold passes
 induction fs with
 |nil=>rfl
 |cons f fs ih=>
  cases hg:g f with
  |none=>rw[List.filterMap_cons_none hg,List.filterMap_cons_none (by simp[hg,pass])];exact ih
  |some m=>
   rw[List.filterMap_cons_some hg,List.filter_cons];cases ha:agree b m with
   |true=>rw[if_pos rfl,List.map_cons,List.filterMap_cons_some (b:=rest b m) (by simp[hg,pass,ha]),ih]
   |false=>rw[if_neg (by simp),List.filterMap_cons_none (by simp[hg,pass,ha]),ih]
theorem pV (b:List aD) (a:aF) (fs:List au):∀ls:List (List aD),aS (eZ b a) fs (passes b ls)=passes b (aS a fs ls)
 |[]=>rfl
 |l::ls=>by
  have ih:=pV b a fs ls;unfold aS at ih⊢;have e:passes b ((l::ls).flatMap fun l=>fs.filterMap fun f=>fK a f l)=passes b (fs.filterMap fun f=>fK a f l)++passes b (ls.flatMap fun l=>fs.filterMap fun f=>fK a f l):=by
   rw[List.flatMap_cons];unfold passes;rw[List.filter_append,List.map_append]
  rw[e,←ih,rU];cases ha:agree b l with
  |true=>
   have e2:passes b (l::ls)=rest b l::passes b ls:=by unfold passes;rw[List.filter_cons,if_pos ha,List.map_cons]
   rw[e2,List.flatMap_cons]
   congr 1
   exact kC fun f _=>CO b ha
  |false=>
   have e2:passes b (l::ls)=passes b ls:=by unfold passes;rw[List.filter_cons,if_neg (by simp[ha])]
   rw[e2];have e3:(fs.filterMap fun f=>pass b (fK a f l))=[]:=by
    rw[List.filterMap_eq_nil_iff];intro f _;refine II fun m hm=>Bj ha ?_;unfold fK at hm;split at hm
    ·exact ng _ _ _ _ hm
    ·cases hm
   rw[e3,List.nil_append]
theorem uQ (b:List aD) (fs:List au):∀(body:List aF) (n:Nat) (ls ms:List (List aD)),fF (fun _=>fs) n body ls=some ms→fF (fun _=>fs) n (eH b body) (passes b ls)=some (passes b ms)
 |[],n,ls,ms,h=>by cases h;rfl
 |a::body,n,ls,ms,h=>by
  show fF _ n (eZ b a::eH b body) _=_;unfold fF at h⊢;rw[show(eZ b a).no=a.no from rfl];cases hno:a.no with
  |true=>
   rw[hno] at h;simp only[if_true] at h⊢;exact uQ b fs body (n+1) ls ms h
  |false=>
   rw[hno] at h;simp only[Bool.false_eq_true,if_false] at h⊢;split at h
   ·cases h
   ·rename_i hlen;have hle:(passes b (aS a fs ls)).length≤(aS a fs ls).length:=by
     unfold passes;rw[List.length_map];exact List.length_filter_le _ _
    rw[pV,if_neg (by omega)];exact uQ b fs body (n+1) _ ms h
theorem IJ {b:List aD} {fs:List au} {body:List aF} (h:fF (fun _=>fs) 0 body [[]]≠none):∃R,lX (fun _=>fs) (eH b body)=some R:=by
 cases e:fF (fun _=>fs) 0 body [[]] with
 |none=>exact absurd e h
 |some ms=>
  have:=uQ b fs body 0 [[]] ms e;have e2:passes b [[]]=[[]]:=rfl;rw[e2] at this;unfold lX;rw[this];exact⟨_,rfl⟩
end Go.Proofs.YtafmbokfkbccaaaGreatDoor
