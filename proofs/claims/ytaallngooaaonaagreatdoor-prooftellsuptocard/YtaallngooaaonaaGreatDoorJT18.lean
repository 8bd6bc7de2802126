import Derived.Test.YtaallngooaaonaaGreatDoorJT17
import Derived.Test.YtaallngooaaonaaGreatDoorJT16
import Derived.Test.YtaallngooaaonaaGreatDoorJT5
import Derived.Test.YtaallngooaaonaaGreatDoorJT12
import Derived.Test.YtaallngooaaonaaGreatDoorJT3
import Derived.Test.YtaallngooaaonaaGreatDoorJT7
import Derived.Test.YtaallngooaaonaaGreatDoorJT14
open Go.RowKit Go.Sort Go.Maps
set_option maxHeartbeats 4000000
set_option maxRecDepth 100000
namespace Go.Proofs.YtaallngooaaonaaGreatDoor
theorem Az {w:World} {base n:Nat} {v:Value} {xs:List Value} {e:TypeId} {sz:Nat} (h:w.ownsRow base e sz v n xs):∃a cap,v=.slice a n cap:=by
 rcases h.2 with⟨rfl,rfl⟩|⟨g,cap,cur,rfl,_⟩;·exact⟨none,0,rfl⟩
 exact⟨_,cap,rfl⟩
theorem rise (w:World) (base:Nat) (v:Value) (l:List aN) (h:lN w base v l) (hl:l.length≤3518437208883):
  Calls Tryz.prog 142 #[v] w fun e w'=>∃v' s,e=.returned v'∧jC s l∧kE w' w.heap.size v' s∧Only base w.heap.size w w':=by
 have hS:=au (TA w base v l h hl);obtain⟨a,cap,rfl⟩:=Az h.choose_spec.1;clear h
 go_enter Tryz.func142,Tryz.ntmps142
 go_wp2_with fail
 refine hS.out.mono ?_;rintro e w1 ⟨rfl,l',hp,hs,hF,hO⟩;have hle:l'.length=l.length:=hp.length_eq
 go_wp2_with fail
 refine(EZ w1).mono ?_;rintro e w2 ⟨rfl,hL2,hz2,hlast⟩;have hK:=au (keep 174 #[.pointer (some ⟨w1.heap.size+1,0,none⟩),.pointer (some ⟨w1.heap.size,0,none⟩)] EY w1.heap.size (w1.heap.size+2) w1 w2 (.slice a l.length cap) l' (newP l') (Qf w1 w1.heap.size l') hF hL2 (Nat.le_refl _) (by omega) (KQ w1 l')
  ⟨ByteArray.empty,none,0,0,hlast,fun h=>absurd h (Nat.lt_irrefl _)⟩)
 have HL:=au hlast;clear hlast
 go_wp2_with fail
 refine hK.out.mono ?_;rintro e w3 ⟨v',rfl,hOw,hO3,_⟩;have hset:=Di hs l'.length (Nat.le_refl _);rw[List.take_length] at hset;have HS:=au hset;have HW:=au hOw;clear hset hOw;go_wp2;go_ret;have Yr:ak w1 w3:=hO3.later hL2 (Nat.le_refl _);refine⟨v',_,rfl,⟨HS.out.1,fun f=>(HS.out.2.1 f).trans hp.mem_iff,by rw[←hle];exact HS.out.2.2⟩,?_,hO.trans Yr.only⟩;have hsz:w.heap.size≤w2.heap.size:=Nat.le_trans hO.size hL2.size;obtain⟨xs,ho,hx⟩:=HW.out;refine⟨xs,⟨ho.1,?_⟩,fun i hi=>?_⟩
 ·rcases ho.2 with e|⟨g,cp,cur,e,hg,r⟩;·exact Or.inl e
  exact Or.inr ⟨g,cp,cur,e,Nat.le_trans hsz hg,r⟩
 obtain⟨c1,s,c2,c3,c4⟩:=hx i hi;exact⟨c1,s,c2,c3,fun k hk=>⟨Nat.le_trans hsz (c4 k hk).1,(c4 k hk).2⟩⟩
theorem ofC (v:Value) (l:List aN) (w:World) (h:Facts w v l):
  Calls Tryz.prog 116 #[v] w fun e w'=>∃v' s,e=.returned v'∧jC s l∧kE w' w.heap.size v' s∧ak w w':=by
 have hC:=au (clone v l w h);have hl:=h.1;obtain⟨a,cap,rfl⟩:=aF h;clear h
 go_enter Tryz.func116,Tryz.ntmps116
 go_wp2_with fail
 refine hC.out.mono ?_;rintro e w1 ⟨v1,rfl,hR,hL⟩;have hr:=au (rise w1 w.heap.size v1 l hR hl);obtain⟨a1,X7,rfl⟩:=Az hR.choose_spec.1;clear hR
 go_wp2_with fail
 refine hr.out.mono ?_;rintro e w2 ⟨v2,s,rfl,hs,hO,hW⟩;have HS:=au hs;have HO:=au hO;clear hs hO;go_wp2;go_ret;exact⟨v2,s,rfl,HS.out,HO.out.base hL.size,hW.later hL (Nat.le_refl _)⟩
theorem mI {w:World} {b:Nat} {es:Array MapEntry} {c:Nat} {x:Addr} {v:Value} (hb:w.heap[b]?=some (.map es c)) (hx:w.cell? x=some v):x.block≠b:=by intro e;subst e;simp[World.cell?,hb] at hx
theorem AA {P:Program} {K:TypeId} {w:World} {b n:Nat} {L:List aA} (h:gu P K w b n L):∃es c,w.heap[b]?=some (.map es c):=by obtain⟨D,⟨es,c,hb,_⟩,_⟩:=h;exact⟨es,c,hb⟩
theorem Ck {w w':World} {b:Nat} {v:Value} {l:List ByteArray} (h:Strs w v l) (hb:∃es c,w.heap[b]?=some (.map es c)) (k:Tn b w w'):Strs w' v l:=by obtain⟨es,c,hb⟩:=hb;obtain⟨h0,a,cap,rfl,h1⟩:=h;refine⟨h0,a,cap,rfl,fun hl=>?_⟩;obtain⟨b1,off,rfl,hlt,hc⟩:=h1 hl;refine⟨b1,off,rfl,Nat.lt_of_lt_of_le hlt k.size,fun i hi=>?_⟩;rw[k.cell (x:=⟨b1,off+i,none⟩) hlt (mI hb (hc i hi))];exact hc i hi
theorem KX {w w':World} {b:Nat} {v:Value} {f:aN} (h:dD w v f) (hb:∃es c,w.heap[b]?=some (.map es c)) (k:Tn b w w'):dD w' v f:=by obtain⟨s,rfl,h1⟩:=h;exact⟨s,rfl,Ck h1 hb k⟩
theorem yY {w w':World} {b:Nat} {v:Value} {l:List aN} (h:Facts w v l) (hb:∃es c,w.heap[b]?=some (.map es c)) (k:Tn b w w'):Facts w' v l:=by obtain⟨h0,a,cap,rfl,h1⟩:=h;refine⟨h0,a,cap,rfl,fun hl=>?_⟩;obtain⟨b1,off,rfl,hlt,hc⟩:=h1 hl;refine⟨b1,off,rfl,Nat.lt_of_lt_of_le hlt k.size,fun i hi=>?_⟩;obtain⟨c1,s,c2,c3⟩:=hc i hi;obtain⟨es,c,hb'⟩:=hb;exact⟨by rw[k.cell (x:=⟨b1,off+i*2,none⟩) hlt (mI hb' c1)];exact c1,s,by rw[k.cell (x:=⟨b1,off+i*2+1,none⟩) hlt (mI hb' c2)];exact c2,Ck c3 ⟨es,c,hb'⟩ k⟩
theorem gV {b:Nat} {w w':World} (h:w.grownBy w' (some b)):Tn b w w':=⟨h.os,h.tape,h.output,h.size,fun k hk hb=>h.block k hk (fun e=>hb (by cases e;rfl))⟩
abbrev KnN (w:World) (b n:Nat) (L:List aA):Prop:=gu Tryz.prog 9 w b n L
theorem yZ (b n:Nat) (L:List aA) (v:Value) (l:List aA) (w:World) (hK:KnN w b n L) (hv:Facts w v l) (hs:∀f∈l,mH f) (hn:n+l.length<1000000):
  Calls Tryz.prog 85 #[.map (some b),v] w fun e w'=>(∃u,e=.returned u)∧KnN w' b (n+l.length) (L++l)∧Tn b w w':=by
 obtain⟨a,cap,rfl,hl,hz⟩:=hv.addr;have hM:=AA hK;have HM:=au hM;have HV:=au hv;have HS:=au hs;have HK:Hid (KnN w b (n+0) (L++l.take 0)):=by show KnN _ _ _ _;simpa using hK
 clear hv hs hK hM
 go_enter Tryz.func85,Tryz.ntmps85
 go_wp2
 go_loopg [8] l.length (fun k i wr=>∃j:Nat,j+k=l.length∧i=.int .i64 j∧Hid (KnN wr b (n+j) (L++l.take j))∧Hid (Tn b w wr))
 case atStart=>exact⟨0,by omega,rfl,HK,Tn.refl _ _⟩
 clear HK;obtain⟨j,hj,rfl,HK,HT⟩:=hrel
 by_cases hlt:j<l.length
 ·rcases hz with rfl|⟨b1,off,rfl⟩;·simp at hlt
  have hltz:(j:Int)<(l.length:Int):=by omega
  have hFr:=yY HV.out HM.out HT.out;obtain⟨hb,ax,lx,cx,g1,g2,fx⟩:=hFr.at hlt;have hfm:l.getD j aC∈l:=by rw[List.getD_eq_getElem?_getD,List.getElem?_eq_getElem hlt];exact List.getElem_mem hlt
  have htk:l.take (j+1)=l.take j++[l.getD j aC]:=by rw[List.take_add_one,List.getD_eq_getElem?_getD,List.getElem?_eq_getElem hlt];rfl
  have hsh:=HS.out _ hfm;obtain⟨wb,hwb⟩:∃wb,wb=wr.alloc (.cells #[.string (l.getD j aC).1,.slice ax lx cx] 27):=⟨_,rfl⟩;have hLb:ak wr wb:=by rw[hwb];exact(ak.refl _).alloc _
  have hrb:wb.heap[wr.heap.size]?=some (.cells #[.string (l.getD j aC).1,.slice ax lx cx] 27 (0,0)):=by rw[hwb];exact heap_alloc_new wr _
  have hfb:=fx.later hLb;have hKb:=HK.out.later hLb;have HC:Hid (∀w',Below wb.heap.size wb w'→Calls Tryz.prog 114 #[.agg #[.string (l.getD j aC).1,.slice ax lx cx]] w' fun e w''=>e=.returned (.string (bs (uw (l.getD j aC))))∧Hid (Below wb.heap.size wb w'')):=fun w' hw=>
   (Qq _ _ w' (nU hfb hw) hsh).mono fun e w'' ⟨he,h2⟩=>⟨he,aj hw h2 hw.size⟩
  have hcell:∀w',Below wb.heap.size wb w'→w'.cell? ⟨wr.heap.size,0,none⟩=some (.string (l.getD j aC).1)∧w'.cell? ⟨wr.heap.size,0+1,none⟩=some (.slice ax lx cx):=fun w' hw=>by
   have hlt':wr.heap.size<wb.heap.size:=(Array.getElem?_eq_some_iff.1 hrb).1
   constructor
   ·rw[hw.cell (p:=⟨wr.heap.size,0,none⟩) hlt',cell_of_row _ _ _ _ _ _ hrb];rfl
   rw[hw.cell (p:=⟨wr.heap.size,0+1,none⟩) hlt',cell_of_row _ _ _ _ _ _ hrb];rfl
  have HU:Hid (∀w',Below wb.heap.size wb w'→∃w'',(Instr.mapUpdate 144 (.map (some b)) (.string (bs (uw (l.getD j aC)))) (.agg #[.string (l.getD j aC).1,.slice ax lx cx])).run Tryz.prog w'=.ok () w''∧KnN w'' b (n+(j+1)) (L++l.take (j+1))∧Tn b w w''∧w''.cell? ⟨wr.heap.size,0,none⟩=some (.string (l.getD j aC).1)∧w''.cell? ⟨wr.heap.size,0+1,none⟩=some (.slice ax lx cx)):=fun w' hw=>by
   have hK':KnN w' b (n+j) (L++l.take j):=hKb.below hw;have hf':=nU hfb hw;have hkl:=KV hsh;obtain⟨w'',hrun,hg,hkn⟩:=hK'.store Tryz.underlying9 Tryz.underlying144 (by unfold maxLen;omega) hf' (by unfold maxLen;omega);refine⟨w'',hrun,?_,?_,?_⟩;·rw[htk,←List.append_assoc,show n+(j+1)=n+j+1 by omega];exact hkn fun g _ u hu=>KX hu (AA hK') (gV hg)
   ·exact((HT.out.trans (Tn.of_below hLb.below)).trans (Tn.of_below hw)).trans (gV hg)
   have hblt:b<wr.heap.size:=HK.out.lt;have hlt':wr.heap.size<w'.heap.size:=Nat.lt_of_lt_of_le (Array.getElem?_eq_some_iff.1 hrb).1 hw.size;obtain⟨q0,q1⟩:=hcell w' hw;exact⟨by rw[(gV hg).cell (x:=⟨wr.heap.size,0,none⟩) hlt' (by show wr.heap.size≠b;omega)];exact q0,by rw[(gV hg).cell (x:=⟨wr.heap.size,0+1,none⟩) hlt' (by show wr.heap.size≠b;omega)];exact q1⟩
  have Qt:=au hcell;generalize bs (uw (l.getD j aC))=kb at*;generalize(l.getD j aC).1=nk at*;clear hcell htk hsh hfm hrb hfb hKb hFr fx hLb;go_wp2;rw[←hwb];clear hwb;refine wp_region_held_drew (S:=fun w'=>w'.cell? ⟨wr.heap.size,0,none⟩=some (.string nk)∧w'.cell? ⟨wr.heap.size,0+1,none⟩=some (.slice ax lx cx)) (by kernel_rfl) (Qt.out _ (Below.refl _ _).drew) (fun hHeld=>?_);refine tkY 0 12 hHeld ?_;refine tkY 1 13 hHeld ?_ rfl fun w hSw=>by obtain⟨q0,q1⟩:=hSw;go_simp;try with_reducible rfl
  refine tkY 3 15 hHeld ?_ rfl fun w hSw=>by obtain⟨q0,q1⟩:=hSw;go_simp;try with_reducible rfl
  refine tkC 2 fun K hK=>?_;go_simp;refine(HC.out _ (Below.refl _ _).drew).mono ?_;rintro e w5 ⟨rfl,hB5⟩;dsimp only;refine hK.out _ _ (Qt.out _ hB5.out) (fun hHeld=>?_);clear hK K;refine wpAnyH_ready (rs:=[4]) (by kernel_rfl) (by simp) ?_;obtain⟨w6,hrun,hK6,hT6,hc6⟩:=HU.out _ hB5.out;have HK6:=au hK6;have HT6:=au hT6;clear hK6 hT6;refine AllReadyH.cons rfl (fun K hK=>?_) AllReadyH.nil;go_simp;refine hK.out _ _ hc6 (fun hHeld=>?_);clear hK K;refine wpAnyH_done (by kernel_rfl) ?_ _;clear hc6 hHeld hrun;go_wp2
  go_roundg (l.length- (j+1))
  case measure=>omega
  case rel=>exact⟨j+1,by omega,by go_num,HK6,HT6⟩
 have hj':j=l.length:=by omega
 subst hj';rw[List.take_length] at HK;go_wp2;go_end0;exact⟨⟨_,rfl⟩,HK.out,HT.out⟩
theorem DK (b n:Nat) (L:List aA) (w:World) (hK:KnN w b n L) (hn:n≤1000000):
  Calls Tryz.prog 87 #[.map (some b)] w fun e w'=>∃v',e=.returned v'∧Facts w' v' (iA L)∧Below w.heap.size w w':=by
 obtain⟨D,hown,h1,h2,h3⟩:=hK;have hsz:Maps.size D≤3518437208883:=by have:=hown.size_le;omega
 have hL1:ak w (w.alloc (.cells #[.map (some b)] 144)):=(ak.refl w).alloc _;have hr1:(w.alloc (.cells #[.map (some b)] 144)).heap[w.heap.size]?=some (.cells #[.map (some b)] 144 (0,0)):=heap_alloc_new w _;have HV:=au (NI (some b) w);have HC:=au (KW b n w.heap.size D (w.alloc (.cells #[.map (some b)] 144)) (by simp) (by rw[cell_of_row _ _ _ _ _ _ hr1];rfl) (dN hown (hL1.block hown.lt)) hsz);have H1:=au h1;have H2:Hid (∀f∈L,∃x,D.atKey (.string (uw f)) .nil=.held x∧dD (w.alloc (.cells #[.map (some b)] 144)) (Av x) f):=fun f hf=>by obtain⟨x,e,hx⟩:=h2 f hf;exact⟨x,e,hx.later hL1⟩
 have HL1:=au hL1.below;clear h1 h2 h3 hown hL1 hr1
 go_enter Tryz.func87,Tryz.ntmps87
 go_wp2_with fail
 refine HV.out.mono ?_;rintro e w1 ⟨rfl,rfl⟩;clear HV
 go_wp2_with fail
 refine HC.out.mono ?_;rintro e w2 ⟨v,xs,rfl,⟨ps,hA,rfl⟩,hr,hB⟩;obtain⟨l,hl,hF⟩:=Ci H1.out H2.out hsz hA hr hB;have HO:=au (ofC v l w2 hF);have HB:Hid (Below w.heap.size w w2):=aj HL1.out hB (by simp);have HLL:=au hl;have hl0:=hF.1;obtain⟨a,cap,rfl⟩:=aF hF;clear hA hr hB hl hF HC H1 H2 HL1
 go_wp2_with fail
 refine HO.out.mono ?_;rintro e w3 ⟨v',s,rfl,hS,hOw,hL3⟩;have es:s=iA L:=tC hS.1 fun f=>by rw[hS.2.1 f,HLL.out f]
 have HF:Hid (Facts w3 v' (iA L)):=by rw[←es];exact hOw.facts (Nat.le_trans hS.2.2 hl0)
 have HB3:Hid (Below w.heap.size w w3):=aj HB.out hL3.below HB.out.size;clear hS hOw hL3 es;go_wp2;go_ret;exact⟨v',rfl,HF.out,HB3.out⟩
theorem jE (pick:Nat→List aA):∀(ats:List aI) (n:Nat) (ls ms:List (List aD)),ls.length≤20000→dF pick n ats ls=some ms→ms.length≤20000
 |[],_,ls,ms,h,e=>by cases e;exact h
 |a::ats,n,ls,ms,h,e=>by
  unfold dF at e;split at e;·exact jE pick ats _ ls ms h e
  split at e;·cases e
  exact jE pick ats _ _ ms (by omega) e
theorem mV {pick:Nat→List aA} {body:List aI} {R:List (List aD)} (h:lF pick body=some R):R.length≤20000:=by
 unfold lF at h;cases e:dF pick 0 body [[]] with
 |none=>rw[e] at h;cases h
 |some ms=>
  rw[e] at h;cases h;have:=jE pick body 0 [[]] ms (by simp) e;rw[(bM _).length_eq,List.length_map];exact Nat.le_trans (List.length_filter_le _ _) this
theorem pQ (fs:List aN):dX fs (-1) []=fun _=>fs:=by
 funext n
 unfold dX;rw[if_neg (by omega)]
def rD (w:World) (v:Value) (er:Int) (r:aG) (fs:List aA):Prop:=
 if pJ r.body fs []≠0 then v=.slice none 0 0∧er=pJ r.body fs [] else match gq r fs with
  |none=>v=.slice none 0 0∧er=4
  |some x=>er=0∧Facts w v x
theorem KY {w:World} {g:Nat} {f:aA} {s:Value} (h:w.heap[g]?=some (.cells #[.string f.1,s] 27 (0,0))) (hs:Strs w s f.2):Facts w (.slice (some ⟨g,0,none⟩) 1 1) [f]:=by
 refine⟨by simp,_,1,rfl,fun _=>⟨g,0,rfl,(Array.getElem?_eq_some_iff.1 h).1,fun i hi=>?_⟩⟩;have:i=0:=by simp at hi;omega
 subst this;exact⟨by rw[cell_of_row _ _ _ _ _ _ h];rfl,s,by rw[cell_of_row _ _ _ _ _ _ h];rfl,hs⟩
theorem Qu (r:aG) (tv bv fv:Value) (fs:List aA) (w:World) (ht:eD.sl bf w tv r.head.terms) (hb:bN.sl bf w bv r.body) (hf:Facts w fv fs)
  (hs:∀R,lF (fun _=>fs) r.body=some R→∀l∈R,∀f,bg r.head l=some f→mH f):
  Calls Tryz.prog 86 #[.agg #[.bool r.head.no,.string (bs r.head.name),tv,bv],fv] w fun e w'=>∃v' er,e=.returned (.tuple #[v',.int .i64 er])∧rD w' v' er r fs∧Below w.heap.size w w':=by
 obtain⟨ta,tc,rfl⟩:=aB.slice ht;obtain⟨ba,bc,rfl⟩:=aB.slice hb;obtain⟨fa,fc,rfl⟩:=aF hf;obtain⟨wb,hwb⟩:∃wb,wb=w.alloc (.cells #[.bool r.head.no,.string (bs r.head.name),.slice ta r.head.terms.length tc,.slice ba r.body.length bc] 82):=⟨_,rfl⟩;have hLb:ak w wb:=by rw[hwb];exact(ak.refl w).alloc _
 have hrb:wb.heap[w.heap.size]?=some (.cells #[.bool r.head.no,.string (bs r.head.name),.slice ta r.head.terms.length tc,.slice ba r.body.length bc] 82 (0,0)):=by rw[hwb];exact heap_alloc_new w _
 have HA:=au (VD r.body (.slice ba r.body.length bc) (.slice fa fs.length fc) fs wb (aB.aK hb hLb) (hf.later hLb));have HTm:=au (aB.aK ht hLb);have HS:=au hs;have HLb:=au hLb;have HRb:=au hrb;have c3:wb.cell? ⟨w.heap.size,3,none⟩=some (.slice ba r.body.length bc):=by rw[cell_of_row _ _ _ _ _ _ hrb];rfl
 have HWB:=au hwb;clear ht hb hf hs hLb hrb
 go_enter Tryz.func86,Tryz.ntmps86
 rw[hwb] at c3;clear hwb
 go_wp2_with fail
 rw[←HWB.out];clear c3;refine HA.out.mono ?_;rintro e w1 ⟨v1,er,rfl,hT,hB1⟩;clear HA;unfold nT at hT;rw[pQ] at hT;have HB1:Hid (Below w.heap.size w w1):=aj HLb.out.below hB1 HLb.out.size;have VF:w.heap.size<wb.heap.size:=(Array.getElem?_eq_some_iff.1 HRb.out).1;have HR1:Hid (w1.heap[w.heap.size]?=some (.cells #[.bool r.head.no,.string (bs r.head.name),.slice ta r.head.terms.length tc,.slice ba r.body.length bc] 82 (0,0))):=by show _=_;rw[hB1.block _ VF];exact HRb.out
 have HT1:=au (aB.aJ HTm.out hB1);clear hB1 HTm HRb HLb HWB VF
 by_cases h0:pJ r.body fs []=0
 ·rw[if_neg (by simp[h0])] at hT;cases hR:lF (fun _=>fs) r.body with
  |none=>
   rw[hR] at hT;obtain⟨rfl,rfl⟩:=hT;have HH:Hid (∀w',rD w' (.slice none 0 0) 4 r fs):=fun w'=>by unfold rD gq;rw[if_neg (by simp[h0]),hR];exact⟨rfl,rfl⟩
   clear h0 hR HS HR1 HT1;go_wp2;exact bodyPost_ret (v:=.tuple #[.slice none 0 0,.int .i64 4]) (by simp[results,Tryz.results86,go_sem]) rfl ⟨_,4,rfl,HH.out _,HB1.out⟩
  |some R=>
   rw[hR] at hT;obtain⟨rfl,hsl⟩:=hT;have hsmall:=mV hR;have HSh:=au (HS.out R hR);have HH:Hid (∀w' v',Facts w' v' (iA (R.filterMap fun l=>bg r.head l))→rD w' v' 0 r fs):=fun w' v' h=>by unfold rD gq;rw[if_neg (by simp[h0]),hR];exact⟨rfl,h⟩
   have HRL:=au hsl;obtain⟨ra,rc,rfl⟩:=aB.slice hsl;clear h0 hR hsl HS;have hmm:= @run_makeMap Tryz.prog;obtain⟨w2,hw2⟩:∃w2,w2=w1.alloc (.map #[] 0):=⟨_,rfl⟩;have HK2:Hid (KnN w2 w1.heap.size 0 ((R.take 0).filterMap fun l=>bg r.head l)):=by show KnN _ _ _ _;rw[hw2];exact gu.made _ _ _
   have HB2:Hid (Below w1.heap.size w1 w2):=by show Below _ _ _;rw[hw2];exact((ak.refl w1).alloc _).below
   have HW2:=au hw2;clear hw2;go_wp2;rw[←HW2.out];clear hmm HW2
   go_loopg [26] R.length (fun g i wr=>∃j:Nat,j+g=R.length∧i=.int .i64 j∧Hid (KnN wr w1.heap.size j ((R.take j).filterMap fun l=>bg r.head l))∧Hid (Below w1.heap.size w1 wr))
   case atStart=>exact⟨0,by omega,rfl,HK2,HB2⟩
   clear HK2 HB2;obtain⟨j,hj,rfl,HK,HBr⟩:=hrel
   by_cases hlt:j<R.length
   ·obtain⟨l,hx⟩:∃x,R[j]?=some x:=⟨_,List.getElem?_eq_getElem hlt⟩;obtain⟨b1,o1,_,rfl,hb1,⟨lv,rfl,hlv⟩,hc⟩:=aB.bO HRL.out hx;have d0:wr.cell? ⟨b1,o1+j,none⟩=some lv:=by rw[HBr.out.cell (p:=⟨b1,o1+j,none⟩) hb1];simpa[slK] using hc 0 _ rfl
    have HLV:=au hlv;obtain⟨la,lc,rfl⟩:=aB.slice hlv;have hbw:w.heap.size<w1.heap.size:=(Array.getElem?_eq_some_iff.1 HR1.out).1;have hrr:wr.heap[w.heap.size]?=some (.cells #[.bool r.head.no,.string (bs r.head.name),.slice ta r.head.terms.length tc,.slice ba r.body.length bc] 82 (0,0)):=by rw[HBr.out.block _ hbw];exact HR1.out
    have r0:wr.cell? ⟨w.heap.size,0,none⟩=some (.bool r.head.no):=by rw[cell_of_row _ _ _ _ _ _ hrr];rfl
    have r1:wr.cell? ⟨w.heap.size,0+1,none⟩=some (.string (bs r.head.name)):=by rw[cell_of_row _ _ _ _ _ _ hrr];rfl
    have r2:wr.cell? ⟨w.heap.size,0+2,none⟩=some (.slice ta r.head.terms.length tc):=by rw[cell_of_row _ _ _ _ _ _ hrr];rfl
    have HFc:=au (Ni r.head _ (.slice la l.length lc) l wr (aB.aJ HT1.out HBr.out) (aB.aJ HLV.out HBr.out));have htk:R.take (j+1)=R.take j++[l]:=by rw[List.take_add_one,hx];rfl
    have hSl:=HSh.out l (List.mem_of_getElem? hx);unfold filled at HFc;clear hc hx hlv hrr;cases hfl:bg r.head l with
    |none=>
     rw[hfl] at HFc;have HK':Hid (KnN wr w1.heap.size (j+1) ((R.take (j+1)).filterMap fun l=>bg r.head l)):=by show KnN _ _ _ _;rw[htk,List.filterMap_append];simp only[List.filterMap_cons,hfl,List.filterMap_nil,List.append_nil];exact HK.out.mono (Nat.le_succ _)
     clear hfl htk hSl;generalize bs r.head.name=nm at*;generalize r.head.no=no at*
     go_wp2_with fail
     refine HFc.out.mono ?_;rintro e w3 ⟨f3,rfl,hfv,hL3⟩;obtain⟨s,rfl,hs⟩:=hfv;obtain⟨sA',sC',rfl⟩:=bA hs;simp only[Option.isSome_none];have HL3:Hid (ak wr w3):=hL3;clear hs hL3;go_wp2
     go_roundg (R.length- (j+1))
     case measure=>omega
     case rel=>exact⟨j+1,by omega,by go_num,HK'.out.later (HL3.out.alloc _),aj HBr.out (HL3.out.alloc _).below HBr.out.size⟩
    |some f=>
     rw[hfl] at HFc;have hsf:=hSl f hfl;have hfm:(R.take (j+1)).filterMap (fun l=>bg r.head l)=(R.take j).filterMap (fun l=>bg r.head l)++[f]:=by rw[htk,List.filterMap_append];simp only[List.filterMap_cons,hfl,List.filterMap_nil]
     have HFM:=au hfm;have HSF:=au hsf;clear hfl htk hSl hfm hsf;generalize bs r.head.name=nm at*;generalize r.head.no=no at*
     go_wp2_with fail
     refine HFc.out.mono ?_;rintro e w3 ⟨f3,rfl,hfv,hL3⟩;simp only[Option.isSome_some,Option.getD_some] at hfv⊢;obtain⟨s,rfl,hs⟩:=hfv;obtain⟨sA',sC',rfl⟩:=bA hs;obtain⟨fn,aH⟩:=f;dsimp only at*;obtain⟨w4,hw4⟩:∃w4,w4=(w3.alloc (.cells #[.string fn,.slice sA' aH.length sC'] 27)).alloc (.cells #[.string fn,.slice sA' aH.length sC'] 27):=⟨_,rfl⟩;have hL4:ak w3 w4:=by rw[hw4];exact((ak.refl _).alloc _).alloc _
     have hr4:w4.heap[w3.heap.size+1]?=some (.cells #[.string fn,.slice sA' aH.length sC'] 27 (0,0)):=by rw[hw4];have:=heap_alloc_new (w3.alloc (.cells #[.string fn,.slice sA' aH.length sC'] 27)) (.cells #[.string fn,.slice sA' aH.length sC'] 27);simpa using this
     have HAd:=au (yZ w1.heap.size j _ (.slice (some ⟨w3.heap.size+1,0,none⟩) 1 1) [(fn,aH)] w4 (HK.out.later (hL3.trans hL4)) (KY (f:=(fn,aH)) hr4 (hs.later hL4)) (fun g hg=>by simp only[List.mem_singleton] at hg;subst hg;exact HSF.out) (by simp;omega));have HL4:Hid (ak wr w4):=hL3.trans hL4;have HW4:=au hw4;clear hs hL3 hL4 hr4 hw4 HFc
     go_wp2_with fail
     rw[←HW4.out];refine HAd.out.mono ?_;rintro e w5 ⟨⟨u5,rfl⟩,hK5,hT5⟩;have HK5:Hid (KnN w5 w1.heap.size (j+1) ((R.take (j+1)).filterMap fun l=>bg r.head l)):=by show KnN _ _ _ _;rw[HFM.out];exact hK5
     have hs4:w1.heap.size≤w4.heap.size:=Nat.le_trans HBr.out.size HL4.out.size;have HB5:Hid (Below w1.heap.size w1 w5):=(aj HBr.out HL4.out.below HBr.out.size).trans (hT5.below (Nat.le_refl _) hs4);clear hK5 hT5 HAd HW4;go_wp2
     go_roundg (R.length- (j+1))
     case measure=>omega
     case rel=>exact⟨j+1,by omega,by go_num,HK5,HB5⟩
   have hj':j=R.length:=by omega
   subst hj';rw[List.take_length] at HK;have HF:=au (DK _ _ _ wr HK.out (by omega))
   go_wp2_with fail
   refine HF.out.mono ?_;rintro e w6 ⟨v6,rfl,hF6,hB6⟩;have HT6:=au (HH.out _ _ hF6);have HB6:Hid (Below w.heap.size w w6):=aj (aj HB1.out HBr.out HB1.out.size) hB6 (Nat.le_trans HB1.out.size HBr.out.size);obtain⟨a6,c6,rfl⟩:=aF hF6;clear hF6 hB6;go_wp2;exact bodyPost_ret (v:=.tuple #[.slice a6 (iA (R.filterMap fun l=>bg r.head l)).length c6,.int .i64 0]) (by simp[results,Tryz.results86,go_sem]) rfl ⟨_,0,rfl,HT6.out,HB6.out⟩
 rw[if_pos h0] at hT;obtain⟨rfl,rfl⟩:=hT;have HH:Hid (∀w',rD w' (.slice none 0 0) (pJ r.body fs []) r fs):=fun w'=>by unfold rD;rw[if_pos h0];exact⟨rfl,rfl⟩
 clear HS HR1 HT1;generalize pJ r.body fs []=er at*;go_wp2;exact bodyPost_ret (v:=.tuple #[.slice none 0 0,.int .i64 er]) (by simp[results,Tryz.results86,go_sem]) rfl ⟨_,er,rfl,HH.out _,HB1.out⟩
abbrev eT (w:World) (b n:Nat) (m:dU):Prop:=j3 Tryz.prog 9 3 w b n m
theorem aB.rE {α:Type} {K:aB α} {b:Nat} {w w':World} {v:Value} {l:List α} (h:K.sl (fun k=>k≠b) w v l) (k:Tn b w w'):K.sl (fun k=>k≠b) w' v l:=aB.bL h k.size fun i hi hB=>k.block i hi hB
theorem aB.TB {α:Type} {K:aB α} {b:Nat} {w:World} {v:Value} {l:List α} (h:K.sl bf w v l) (hb:w.heap.size≤b):K.sl (fun k=>k≠b) w v l:=aB.bQ h fun k hk _=>by omega
theorem uz {n:Nat} (h:n≤9223372036854775807):(Lit.int .i64 (n:Int)).wf=true:=WalkArith.wf_i64 (by omega)
theorem VG (b n:Nat) (m:dU) (a:aI) (v:Value) (w:World) (h:eT w b n m) (hv:eD.sl bf w v a.terms) (hs:a.name.length≤maxLen) (hn:n<maxLen):
  Calls Tryz.prog 113 #[.map (some b),.agg #[.bool a.no,.string (bs a.name),v]] w fun e w'=>e=.returned (.bool (dh m a).1)∧eT w' b (n+1) (dh m a).2∧Tn b w w':=by
 obtain⟨sa,cap,rfl⟩:=aB.slice hv;have hl0:=hv.1.1;clear hv;have h1:=h.later ((ak.refl w).alloc (.cells #[.bool a.no,.string (bs a.name),.slice sa a.terms.length cap] 79));have hr:=j3.Ie (T:=138) h1 Tryz.underlying9 Tryz.underlying3 Tryz.underlying138 (lg _) hs;have hblt:=h.lt;cases hm:m a.name with
 |none=>
  obtain⟨w1,hst,hm1,hg⟩:=j3.store (T:=138) h1 Tryz.underlying9 Tryz.underlying3 Tryz.underlying138 hn hs (x:=a.terms.length) (uz (by omega));have e0:numOf m a.name=0:=by unfold numOf;rw[hm];rfl
  rw[hm,e0] at hr;have F:Hid (dh m a=(true,m.put a.name a.terms.length)):=by show _=_;unfold dh;rw[hm]
  have HM:Hid (eT w1 b (n+1) (m.put a.name a.terms.length)):=hm1;have HT:Hid (Tn b w w1):=(Tn.of_below (p:=b) ((ak.refl w).alloc _).below).trans (Tn.gD hg);have hst':=au hst;clear h h1 hm1 hg hst hm e0;generalize bs a.name=nm at*;generalize a.no=no at*
  go_enter Tryz.func113,Tryz.ntmps113
  go_wp2_with (first
   |(at_mapUpdate;refine aM _ rfl _ _ _ _ rfl _ _ _ _ rfl rfl rfl (bK hst') ?_)
   |go_in)
  go_ret;exact⟨by rw[F.out];rfl,by rw[F.out];exact HM.out,HT.out⟩
 |some k=>
  have e0:numOf m a.name=k:=by unfold numOf;rw[hm];rfl
  rw[hm,e0] at hr;have F:Hid (dh m a=(decide (k=a.terms.length),m)):=by show _=_;unfold dh;rw[hm]
  have HM:Hid (eT (w.alloc (.cells #[.bool a.no,.string (bs a.name),.slice sa a.terms.length cap] 79)) b (n+1) m):=h1.mono (by omega);clear h h1 hm e0;generalize bs a.name=nm at*;generalize a.no=no at*
  go_enter Tryz.func113,Tryz.ntmps113
  go_wp2;go_ret;refine⟨?_,by rw[F.out];exact HM.out,Tn.of_below ((ak.refl w).alloc _).below⟩;rw[F.out];refine bU ?_;rw[Bool.eq_iff_iff];simp;omega
structure eG (b:Nat) (w:World) (c0 c1 c2 c3:Value) (w':World):Prop where
 tn:Tn b w w'
 lt:w.heap.size<w'.heap.size
 z0:w'.cell? ⟨w.heap.size,0,none⟩=some c0
 z1:w'.cell? ⟨w.heap.size,1,none⟩=some c1
 z2:w'.cell? ⟨w.heap.size,2,none⟩=some c2
 z3:w'.cell? ⟨w.heap.size,3,none⟩=some c3
section
variable {b:Nat} {w w1 w2:World} {c0 c1 c2 c3:Value}
theorem eG.made (b:Nat) (w:World) (c0 c1 c2 c3:Value):eG b w c0 c1 c2 c3 (w.alloc (.cells #[c0,c1,c2,c3] 82)):=
 ⟨Tn.of_below ((ak.refl w).alloc _).below,by simp,by simp,by simp,by simp,by simp⟩
theorem eG.turned (h:eG b w c0 c1 c2 c3 w1) (k:Tn b w1 w2) (hb:b<w.heap.size):eG b w c0 c1 c2 c3 w2:=by have e:∀i,w2.cell? ⟨w.heap.size,i,none⟩=w1.cell? ⟨w.heap.size,i,none⟩:=fun i=>k.cell (x:=⟨w.heap.size,i,none⟩) h.lt (by show w.heap.size≠b;omega);exact⟨h.tn.trans k,Nat.lt_of_lt_of_le h.lt k.size,by rw[e];exact h.z0,by rw[e];exact h.z1,by rw[e];exact h.z2,by rw[e];exact h.z3⟩
theorem eG.below (h:eG b w c0 c1 c2 c3 w1) (k:Below w1.heap.size w1 w2) (hb:b<w.heap.size):eG b w c0 c1 c2 c3 w2:=h.turned (Tn.of_below k) hb
end
theorem uD {l:List aI} {j:Nat} {a:aI} (h:l[j]?=some a) (m:dU):fitAll m (l.drop j)=if(dh m a).1 then fitAll (dh m a).2 (l.drop (j+1)) else(false,(dh m a).2):=by obtain⟨h1,e1⟩:=List.getElem?_eq_some_iff.1 h;rw[List.drop_eq_getElem_cons h1,e1];rfl
theorem uE {l:List aI} (h:bH l=0):∀a∈l,aP a=0:=by
 induction l with
 |nil=>intro a ha;cases ha
 |cons b l ih=>
  unfold bH at h;split at h
  ·rename_i h0;intro a ha;rcases List.mem_cons.1 ha with rfl|ha
   ·exact h0
   exact ih h a ha
  rename_i h0;exact absurd h h0
theorem je {l:List aI} (h:aL l=0):l.length≤5∧∀a∈l,aP a=0:=by
 unfold aL at h;split at h;·cases h
 split at h;·rename_i h5 h0;exact⟨by omega,uE h0⟩
 rename_i h5 h0;exact absurd h h0
theorem Fg (b n:Nat) (m:dU) (r:aG) (v u:Value) (w:World) (h:eT w b n m) (hv0:eD.sl (fun k=>k≠b) w v r.head.terms) (hu0:bN.sl (fun k=>k≠b) w u r.body) (hn:n≤1000000):
  Calls Tryz.prog 81 #[.agg #[.bool r.head.no,.string (bs r.head.name),v,u],.map (some b)] w fun e w'=>e=.returned (.int .i64 (aX m r).1)∧eT w' b (n+6) (aX m r).2∧Tn b w w':=by
 have hbw:=h.lt;obtain⟨va,vc,rfl⟩:=aB.slice hv0;obtain⟨ua,uc,rfl⟩:=aB.slice hu0;have hl0:=hv0.1.1;have hl1:=hu0.1.1;have HV:=au hv0;have HU:=au hu0;clear hv0 hu0;have HM0:Hid (∀w',Below w.heap.size w w'→eT w' b n m):=fun w' k=>h.below k;have HA:Hid (∀w',eG b w (.bool r.head.no) (.string (bs r.head.name)) (.slice va r.head.terms.length vc) (.slice ua r.body.length uc) w'→eT w' b n m→Calls Tryz.prog 108 #[.agg #[.bool r.head.no,.string (bs r.head.name),.slice va r.head.terms.length vc]] w'
   fun e w''=>e=.returned (.int .i64 (aP r.head))∧eG b w (.bool r.head.no) (.string (bs r.head.name)) (.slice va r.head.terms.length vc) (.slice ua r.body.length uc) w''∧eT w'' b n m):=fun w' hR hM=>
  (xg r.head _ w' (aB.dO (aB.rE HV.out hR.tn))).mono fun e w'' ⟨he,hL⟩=>⟨he,hR.below hL.below hbw,hM.later hL⟩
 have HBd:Hid (∀w',eG b w (.bool r.head.no) (.string (bs r.head.name)) (.slice va r.head.terms.length vc) (.slice ua r.body.length uc) w'→eT w' b n m→Calls Tryz.prog 109 #[.slice ua r.body.length uc] w'
   fun e w''=>e=.returned (.int .i64 (aL r.body))∧eG b w (.bool r.head.no) (.string (bs r.head.name)) (.slice va r.head.terms.length vc) (.slice ua r.body.length uc) w''∧eT w'' b n m):=fun w' hR hM=>
  (DC r.body _ w' (aB.dO (aB.rE HU.out hR.tn))).mono fun e w'' ⟨he,hL⟩=>⟨he,hR.below hL hbw,hM.below hL⟩
 have HR0:=au (eG.made b w (.bool r.head.no) (.string (bs r.head.name)) (.slice va r.head.terms.length vc) (.slice ua r.body.length uc));have HMA:=au (h.later ((ak.refl w).alloc (.cells #[.bool r.head.no,.string (bs r.head.name),.slice va r.head.terms.length vc,.slice ua r.body.length uc] 82)))
 by_cases h1:aP r.head=0
 ·cases hno:r.head.no
  ·by_cases h2:aL r.body=0
   ·obtain⟨hl5,hfb⟩:=je h2;obtain⟨fn,ft,fs⟩:=bB h1;have F:Hid (aX m r=if(vars r.head).all (givenBy r.body) then(if(dh m r.head).1 then(if(fitAll (dh m r.head).2 r.body).1 then 0 else 8,(fitAll (dh m r.head).2 r.body).2) else(8,(dh m r.head).2)) else(9,m)):=by
     show _=_;unfold aX;rw[if_pos h1,hno,if_neg (by simp),if_pos h2]
    rw[hno] at HA HBd HR0 HMA;rw[h1] at HA;rw[h2] at HBd;have HGB:Hid (∀w',eG b w (.bool false) (.string (bs r.head.name)) (.slice va r.head.terms.length vc) (.slice ua r.body.length uc) w'→eT w' b n m→Calls Tryz.prog 110 #[.slice ua r.body.length uc] w' fun e w''=>e=.returned (.map (some w'.heap.size))∧fB w'' w'.heap.size 20 (givenBy r.body)∧eG b w (.bool false) (.string (bs r.head.name)) (.slice va r.head.terms.length vc) (.slice ua r.body.length uc) w''∧eT w'' b n m):=fun w' hR hM=>
     (Dz r.body _ w' (aB.dO (aB.rE HU.out hR.tn)) hfb hl5).mono fun e w'' ⟨he,hN,hL⟩=>⟨he,hN,hR.below hL hbw,hM.below hL⟩
    have HVr:Hid (∀w' bk,fB w' bk 20 (givenBy r.body)→eG b w (.bool false) (.string (bs r.head.name)) (.slice va r.head.terms.length vc) (.slice ua r.body.length uc) w'→eT w' b n m→Calls Tryz.prog 112 #[.agg #[.bool false,.string (bs r.head.name),.slice va r.head.terms.length vc]] w' fun e w''=>∃x,e=.returned x∧jS.sl bf w'' x (vars r.head)∧fB w'' bk 20 (givenBy r.body)∧eG b w (.bool false) (.string (bs r.head.name)) (.slice va r.head.terms.length vc) (.slice ua r.body.length uc) w''∧eT w'' b n m):=fun w' bk hN hR hM=>by have:=Nv r.head _ w' (aB.dO (aB.rE HV.out hR.tn)) (by omega) (fun t ht=>fC (fs t ht));rw[hno] at this;exact this.mono fun e w'' ⟨x,he,ho,hL⟩=>⟨x,he,aB.dO (aB.fq ho (by have:=qI r.head;omega)),hN.below hL,hR.below hL hbw,hM.below hL⟩
    have HAl:Hid (∀w' bk x,jS.sl bf w' x (vars r.head)→fB w' bk 20 (givenBy r.body)→eG b w (.bool false) (.string (bs r.head.name)) (.slice va r.head.terms.length vc) (.slice ua r.body.length uc) w'→eT w' b n m→Calls Tryz.prog 111 #[.map (some bk),x] w' fun e w''=>e=.returned (.bool ((vars r.head).all (givenBy r.body)))∧eG b w (.bool false) (.string (bs r.head.name)) (.slice va r.head.terms.length vc) (.slice ua r.body.length uc) w''∧eT w'' b n m):=fun w' bk x hS hN hR hM=>
     (Ig _ _ _ x (vars r.head) w' hN hS (fun s hs=>by obtain⟨t,ht,rfl⟩:=yQ r.head s hs;exact fC (fs t ht))).mono fun e w'' ⟨he,hL⟩=>⟨he,hR.below hL.below hbw,hM.later hL⟩
    have HFt:Hid (∀w',eG b w (.bool false) (.string (bs r.head.name)) (.slice va r.head.terms.length vc) (.slice ua r.body.length uc) w'→eT w' b n m→Calls Tryz.prog 113 #[.map (some b),.agg #[.bool false,.string (bs r.head.name),.slice va r.head.terms.length vc]] w' fun e w''=>e=.returned (.bool (dh m r.head).1)∧eG b w (.bool false) (.string (bs r.head.name)) (.slice va r.head.terms.length vc) (.slice ua r.body.length uc) w''∧eT w'' b (n+1) (dh m r.head).2):=fun w' hR hM=>by have:=VG b n m r.head _ w' hM (aB.dO (aB.rE HV.out hR.tn)) (fC fn) (by simp[maxLen];omega);rw[hno] at this;exact this.mono fun e w'' ⟨he,hN,hT⟩=>⟨he,hR.turned hT hbw,hN⟩
    clear h1 h2 hno h HM0;generalize hgv:givenBy r.body=gv at*;clear hgv;generalize hall:(vars r.head).all gv=al at*;clear hall;generalize bs r.head.name=nm at*;cases al
    ·have F1:Hid (aX m r=(9,m)):=F.out;clear HV HU HFt F
     go_enter Tryz.func81,Tryz.ntmps81
     go_wp2_with (first
      |(go_at_call 108;refine(HA.out _ HR0.out HMA.out).mono ?_;rintro e w1 ⟨rfl,hR1,hM1⟩;have z0:=hR1.z0;have z3:=hR1.z3;have zl:=hR1.lt;replace hR1:=au hR1;replace hM1:=au hM1)
      |(go_at_call 109;refine(HBd.out w1 (bK hR1) (bK hM1)).mono ?_;rintro e w2 ⟨rfl,hR2,hM2⟩;replace hR2:=au hR2;replace hM2:=au hM2))
     refine wp_region_held_drew (S:=fun w'=>eG b w (.bool false) (.string nm) (.slice va r.head.terms.length vc) (.slice ua r.body.length uc) w'∧eT w' b n m) (by kernel_rfl) ⟨(bK hR2).turned (Tn.refl _ _).drew hbw,(bK hM2).block rfl⟩ (fun hHeld=>?_);refine tkY 0 24 hHeld ?_ rfl fun w hSw=>by obtain⟨hRB,_⟩:=hSw;have z0:=hRB.z0;have z1:=hRB.z1;have z2:=hRB.z2;have z3:=hRB.z3;have zl:=hRB.lt;clear hRB;go_simp;try with_reducible rfl
     refine tkY 1 25 hHeld ?_ rfl fun w hSw=>by obtain⟨hRB,_⟩:=hSw;have z0:=hRB.z0;have z1:=hRB.z1;have z2:=hRB.z2;have z3:=hRB.z3;have zl:=hRB.lt;clear hRB;go_simp;try with_reducible rfl
     refine tkY 3 27 hHeld ?_ rfl fun w hSw=>by obtain⟨hRB,_⟩:=hSw;have z0:=hRB.z0;have z1:=hRB.z1;have z2:=hRB.z2;have z3:=hRB.z3;have zl:=hRB.lt;clear hRB;go_simp;try with_reducible rfl
     refine tkY 4 28 hHeld ?_ rfl fun w hSw=>by obtain⟨hRB,_⟩:=hSw;have z0:=hRB.z0;have z1:=hRB.z1;have z2:=hRB.z2;have z3:=hRB.z3;have zl:=hRB.lt;clear hRB;go_simp;try with_reducible rfl
     refine tkC 2 fun K hK=>?_;go_simp;refine(HGB.out _ hHeld.1 hHeld.2).mono ?_;rintro e w3 ⟨rfl,hN3,hR3,hM3⟩;dsimp only;refine hK.out _ _ ⟨hR3,hM3⟩ (fun hHeld=>?_);clear hK K;refine tkC 5 fun K hK=>?_;go_simp;refine(HVr.out _ _ hN3 hHeld.1 hHeld.2).mono ?_;rintro e w4 ⟨x4,rfl,hS4,hN4,hR4,hM4⟩;dsimp only;refine hK.out _ _ ⟨hR4,hM4⟩ (fun hHeld=>?_);clear hK K;refine tkC 6 fun K hK=>?_;go_simp;refine(HAl.out _ _ _ hS4 hN4 hHeld.1 hHeld.2).mono ?_;rintro e w5 ⟨rfl,hR5,hM5⟩;dsimp only;refine hK.out _ _ ⟨hR5,hM5⟩ (fun hHeld=>?_);clear hK K;refine tkY 7 31 hHeld ?_;refine wpAnyH_done (by kernel_rfl) ?_ _;go_wp2;go_ret;exact⟨by rw[F1.out];rfl,by rw[F1.out];exact hHeld.2.mono (by omega),hHeld.1.tn⟩
    have F1:Hid (aX m r=if(dh m r.head).1 then(if(fitAll (dh m r.head).2 r.body).1 then 0 else 8,(fitAll (dh m r.head).2 r.body).2) else(8,(dh m r.head).2)):=F.out;clear F;generalize dh m r.head=fo at*;obtain⟨f1,m1⟩:=fo;dsimp only at*;have HU1:Hid (∀w',Tn b w w'→bN.sl (fun k=>k≠b) w' (.slice ua r.body.length uc) r.body):=fun w' k=>aB.rE HU.out k;have Dr:∀a∈r.body,a.name.length≤maxLen:=fun a ha=>fC (bB (hfb a ha)).1;have HN:=au Dr;clear HV HU Dr
    go_enter Tryz.func81,Tryz.ntmps81
    go_wp2_with (first
     |(go_at_call 108;refine(HA.out _ HR0.out HMA.out).mono ?_;rintro e w1 ⟨rfl,hR1,hM1⟩;have z0:=hR1.z0;have z3:=hR1.z3;have zl:=hR1.lt;replace hR1:=au hR1;replace hM1:=au hM1)
     |(go_at_call 109;refine(HBd.out w1 (bK hR1) (bK hM1)).mono ?_;rintro e w2 ⟨rfl,hR2,hM2⟩;replace hR2:=au hR2;replace hM2:=au hM2))
    refine wp_region_held_drew (S:=fun w'=>eG b w (.bool false) (.string nm) (.slice va r.head.terms.length vc) (.slice ua r.body.length uc) w'∧eT w' b n m) (by kernel_rfl) ⟨(bK hR2).turned (Tn.refl _ _).drew hbw,(bK hM2).block rfl⟩ (fun hHeld=>?_);refine tkY 0 24 hHeld ?_ rfl fun w hSw=>by obtain⟨hRB,_⟩:=hSw;have z0:=hRB.z0;have z1:=hRB.z1;have z2:=hRB.z2;have z3:=hRB.z3;have zl:=hRB.lt;clear hRB;go_simp;try with_reducible rfl
    refine tkY 1 25 hHeld ?_ rfl fun w hSw=>by obtain⟨hRB,_⟩:=hSw;have z0:=hRB.z0;have z1:=hRB.z1;have z2:=hRB.z2;have z3:=hRB.z3;have zl:=hRB.lt;clear hRB;go_simp;try with_reducible rfl
    refine tkY 3 27 hHeld ?_ rfl fun w hSw=>by obtain⟨hRB,_⟩:=hSw;have z0:=hRB.z0;have z1:=hRB.z1;have z2:=hRB.z2;have z3:=hRB.z3;have zl:=hRB.lt;clear hRB;go_simp;try with_reducible rfl
    refine tkY 4 28 hHeld ?_ rfl fun w hSw=>by obtain⟨hRB,_⟩:=hSw;have z0:=hRB.z0;have z1:=hRB.z1;have z2:=hRB.z2;have z3:=hRB.z3;have zl:=hRB.lt;clear hRB;go_simp;try with_reducible rfl
    refine tkC 2 fun K hK=>?_;go_simp;refine(HGB.out _ hHeld.1 hHeld.2).mono ?_;rintro e w3 ⟨rfl,hN3,hR3,hM3⟩;dsimp only;refine hK.out _ _ ⟨hR3,hM3⟩ (fun hHeld=>?_);clear hK K;refine tkC 5 fun K hK=>?_;go_simp;refine(HVr.out _ _ hN3 hHeld.1 hHeld.2).mono ?_;rintro e w4 ⟨x4,rfl,hS4,hN4,hR4,hM4⟩;dsimp only;refine hK.out _ _ ⟨hR4,hM4⟩ (fun hHeld=>?_);clear hK K;refine tkC 6 fun K hK=>?_;go_simp;refine(HAl.out _ _ _ hS4 hN4 hHeld.1 hHeld.2).mono ?_;rintro e w5 ⟨rfl,hR5,hM5⟩;dsimp only;refine hK.out _ _ ⟨hR5,hM5⟩ (fun hHeld=>?_);clear hK K;refine tkY 7 31 hHeld ?_;refine wpAnyH_done (by kernel_rfl) ?_ _;have HC:=au (HFt.out _ hHeld.1 hHeld.2);have y0:=hHeld.1.z0;have y1:=hHeld.1.z1;have y2:=hHeld.1.z2;have yl:=hHeld.1.lt;clear z0 z3 zl hR1 hM1 hR2 hM2 hN3 hR3 hM3 hS4 hN4 hR4 hM4 hR5 hM5 hHeld HA HBd HGB HVr HAl HR0 HMA HFt;cases f1
    ·have F2:Hid (aX m r=(8,m1)):=F1.out
     go_wp2_with (go_at_call 113;refine HC.out.mono ?_;rintro e w6 ⟨rfl,hR6,hM6⟩;replace hR6:=au hR6;replace hM6:=au hM6)
     go_ret;exact⟨by rw[F2.out];rfl,by rw[F2.out];exact(bK hM6).mono (by omega),(bK hR6).tn⟩
    have F2:Hid (aX m r=(if(fitAll m1 r.body).1 then 0 else 8,(fitAll m1 r.body).2)):=F1.out;clear F1
    go_wp2_with (go_at_call 113;refine HC.out.mono ?_;rintro e w6 ⟨rfl,hR6,hM6⟩;have x3:=hR6.z3;have xl:=hR6.lt;have HT6:=au hR6.tn;clear hR6;replace hM6:=au hM6)
    go_loopg [40] r.body.length (fun k i wr=>∃j:Nat,j+k=r.body.length∧i=.int .i64 j∧∃mj,Hid (fitAll m1 r.body=fitAll mj (r.body.drop j))∧Hid (eT wr b (n+1+j) mj)∧Hid (Tn b w wr))
    case atStart=>exact⟨0,by omega,rfl,m1,(rfl:_=_),hM6,HT6⟩
    obtain⟨j,hj,rfl,mj,HE,HMj,HTj⟩:=hrel;have hwr:=HTj.out.size
    by_cases hlt:j<r.body.length
    ·obtain⟨x,hx⟩:∃x,r.body[j]?=some x:=⟨_,List.getElem?_eq_getElem hlt⟩;obtain⟨b1,o1,_,rfl,hb1,hbne,⟨sv,rfl,hsv⟩,hc⟩:=aB.Dw (HU1.out wr HTj.out) hx;have d0:wr.cell? ⟨b1,o1+j*3,none⟩=some (.bool x.no):=hc 0 _ rfl;have d1:wr.cell? ⟨b1,o1+j*3+1,none⟩=some (.string (bs x.name)):=hc 1 _ rfl;have d2:wr.cell? ⟨b1,o1+j*3+2,none⟩=some sv:=hc 2 _ rfl;have hst:=uD hx mj;have HCj:Hid (Calls Tryz.prog 113 #[.map (some b),.agg #[.bool x.no,.string (bs x.name),sv]] (wr.alloc (.cells #[.bool x.no,.string (bs x.name),sv] 79)) fun e w2=>e=.returned (.bool (dh mj x).1)∧Hid (eT w2 b (n+1+(j+1)) (dh mj x).2)∧Hid (Tn b w w2)):=
      (VG b (n+1+j) mj x sv _ (HMj.out.later ((ak.refl _).alloc _)) (aB.dO (aB.aJ (aB.dO hsv) ((ak.refl _).alloc _).below)) (HN.out x (List.mem_of_getElem? hx)) (by simp[maxLen];omega)).mono fun e w2 ⟨he,h1,h2⟩=>⟨he,h1,(HTj.out.alloc _).trans h2⟩
     obtain⟨a2,c2,rfl⟩:=aB.slice hsv;clear hc hx hsv HMj HTj;generalize bs x.name=nx at*;generalize x.no=xn at*;generalize dh mj x=fx at*;obtain⟨g1,m2⟩:=fx;dsimp only at*;cases g1
     ·have E2:Hid (fitAll m1 r.body=(false,m2)):=by show _=_;rw[HE.out,hst];rfl
      clear hst HE
      go_wp2_with (go_at_call 113;refine HCj.out.mono ?_;rintro e w7 ⟨rfl,hM7,hT7⟩)
      go_ret;exact⟨by rw[F2.out,E2.out];rfl,by rw[F2.out,E2.out];exact hM7.out.mono (by omega),hT7.out⟩
     have E2:Hid (fitAll m1 r.body=fitAll m2 (r.body.drop (j+1))):=by show _=_;rw[HE.out,hst];rfl
     clear hst HE
     go_wp2_with (go_at_call 113;refine HCj.out.mono ?_;rintro e w7 ⟨rfl,hM7,hT7⟩)
     go_roundg (r.body.length- (j+1))
     case measure=>omega
     case rel=>exact⟨j+1,by omega,by go_num,m2,E2,hM7,hT7⟩
    have E2:Hid (fitAll m1 r.body=(true,mj)):=by show _=_;rw[HE.out,List.drop_eq_nil_of_le (by omega)];rfl
    go_wp2;go_ret;exact⟨by rw[F2.out,E2.out];rfl,by rw[F2.out,E2.out];exact HMj.out.mono (by omega),HTj.out⟩
   have F:Hid (aX m r=(aL r.body,m)):=by show _=_;unfold aX;rw[if_pos h1,hno,if_neg (by simp),if_neg h2]
   have hq:(aL r.body != 0)=true:=by simpa using h2
   rw[hno] at HA HBd HR0 HMA;rw[h1] at HA;clear h1 h2 hno h HM0 HV HU;generalize bs r.head.name=nm at*;generalize aL r.body=ex at*
   go_enter Tryz.func81,Tryz.ntmps81
   go_wp2_with (first
    |(go_at_call 108;refine(HA.out _ HR0.out HMA.out).mono ?_;rintro e w1 ⟨rfl,hR1,hM1⟩;have z0:=hR1.z0;have z3:=hR1.z3;have zl:=hR1.lt;replace hR1:=au hR1;replace hM1:=au hM1)
    |(go_at_call 109;refine(HBd.out w1 (bK hR1) (bK hM1)).mono ?_;rintro e w2 ⟨rfl,hR2,hM2⟩;replace hR2:=au hR2;replace hM2:=au hM2))
   go_ret;exact⟨by rw[F.out];rfl,by rw[F.out];exact(bK hM2).mono (by omega),(bK hR2).tn⟩
  have F:Hid (aX m r=(2,m)):=by show _=_;unfold aX;rw[if_pos h1,hno,if_pos rfl]
  rw[hno] at HA HR0 HMA;rw[h1] at HA;clear h1 hno h HM0 HV HU HBd;generalize bs r.head.name=nm at*
  go_enter Tryz.func81,Tryz.ntmps81
  go_wp2_with (go_at_call 108;refine(HA.out _ HR0.out HMA.out).mono ?_;rintro e w1 ⟨rfl,hR1,hM1⟩;have z0:=hR1.z0;have zl:=hR1.lt;replace hR1:=au hR1;replace hM1:=au hM1)
  go_ret;exact⟨by rw[F.out];rfl,by rw[F.out];exact(bK hM1).mono (by omega),(bK hR1).tn⟩
 have F:Hid (aX m r=(aP r.head,m)):=by show _=_;unfold aX;rw[if_neg h1]
 have hq:(aP r.head != 0)=true:=by simpa using h1
 clear h1 h HM0 HV HU HBd;generalize aP r.head=ex at*;generalize bs r.head.name=nm at*;generalize r.head.no=no at*
 go_enter Tryz.func81,Tryz.ntmps81
 go_wp2_with (go_at_call 108;refine(HA.out _ HR0.out HMA.out).mono ?_;rintro e w1 ⟨rfl,hR1,hM1⟩;replace hR1:=au hR1;replace hM1:=au hM1)
 go_ret;exact⟨by rw[F.out];rfl,by rw[F.out];exact(bK hM1).mono (by omega),(bK hR1).tn⟩
end Go.Proofs.YtaallngooaaonaaGreatDoor
