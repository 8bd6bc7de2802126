import Derived.Test.YtaallngooaaonaaGreatDoorJT18
import Derived.RegionTactic
import Derived.ChangeAlike
open Go.RowKit Go.Sort Go.Maps
set_option maxHeartbeats 4000000
set_option maxRecDepth 100000
namespace Go.Proofs.YtaallngooaaonaaGreatDoor
theorem aB.qO {α:Type} {K:aB α} {b:Nat} {w w':World} {v:Value} {l:List α} (h:K.sl bf w v l) (k:Below w.heap.size w w') (hb:w.heap.size≤b):K.sl (fun k=>k≠b) w' v l:=
 aB.bL (aB.TB h hb) k.size fun i hi _=>k.block i hi
theorem rF {p:List aG} {j:Nat} {r:aG} (h:p[j]?=some r) (m:dU) (i:Nat):gY m i (p.drop j)=if(aX m r).1=0 then gY (aX m r).2 (i+1) (p.drop (j+1)) else((aX m r).1,i):=by obtain⟨h1,e1⟩:=List.getElem?_eq_some_iff.1 h;rw[List.drop_eq_getElem_cons h1,e1];rfl
theorem nV {w:World} {g j:Nat} {cs:Array Value} {t:TypeId} {fr:Nat×Nat} (h:w.heap[g]?=some (.cells cs t fr)) (u:Value):(w.setCell ⟨g,j,none⟩ u).heap[g]?=some (.cells (cs.setIfInBounds j u) t fr):=by simp[World.setCell,Array.getElem?_modify,h]
theorem aS {w:World} {g:Nat} (j:Nat) {cs:Array Value} {t:TypeId} (h:w.heap[g]?=some (.cells cs t (0,0))):w.frozen? ⟨g,j,none⟩=false:=by simp[World.frozen?,h]
theorem dW {w:World} {R:Nat} {u0 u1:Value} {t:TypeId} {fr:Nat×Nat} (h:w.heap[R]?=some (.cells #[u0,u1] t fr)) (x y:Value):
  ((w.setCell ⟨R,0,none⟩ x).setCell ⟨R,1,none⟩ y).cell? ⟨R,0,none⟩=some x∧((w.setCell ⟨R,0,none⟩ x).setCell ⟨R,1,none⟩ y).cell? ⟨R,1,none⟩=some y:=by
 have h2:=nV (j:=1) (nV (j:=0) h x) y;exact⟨by rw[cell_of_row _ _ _ _ _ _ h2];rfl,by rw[cell_of_row _ _ _ _ _ _ h2];rfl⟩
theorem iG {a b c d:Int} (h1:a=c) (h2:b=d):Ending.returned (.agg #[.int .i64 a,.int .i64 b])=Ending.returned (.agg #[.int .i64 c,.int .i64 d]):=by rw[h1,h2]
theorem Qv (p:List aG) (v:Value) (w:World) (hv:eP.sl bf w v p):
  Calls Tryz.prog 51 #[v] w fun e w'=>e=.returned (.agg #[.int .i64 (dw p).1,.int .i64 ((dw p).2:Nat)])∧Below w.heap.size w w':=by
 obtain⟨sa,cap,rfl⟩:=aB.slice hv;have hl0:=hv.1.1;have HV:=au hv;clear hv
 by_cases h16:16<p.length
 ·have F:Hid (dw p=(5,0)):=by show _=_;unfold dw;rw[if_pos h16]
  go_enter Tryz.func51,Tryz.ntmps51
  go_wp2;exact bodyPost_ret (v:=.agg #[.int .i64 5,.int .i64 0]) (by simp[results,Tryz.results51,go_sem]) rfl ⟨by rw[F.out];rfl,((by repeat (first|exact ak.refl _|assumption|refine ak.drewN ?_ _|refine ak.drew ?_|refine ak.alloc ?_ _|refine ak.grow ?_ _)):ak w _).below⟩
 have F:Hid (dw p=gY (fun _=>none) 0 p):=by show _=_;unfold dw;rw[if_neg h16]
 have hmm:= @run_makeMap Tryz.prog
 go_enter Tryz.func51,Tryz.ntmps51
 go_wp2
 go_loopg [14] p.length (fun k i wr=>∃j:Nat,j+k=p.length∧i=.int .i64 j∧∃m,Hid (dw p=gY m j (p.drop j))∧Hid (eT wr (w.heap.size+1) (6*j) m)∧Hid (Below w.heap.size w wr)∧Hid (wr.heap[w.heap.size]?=some (.cells #[.int .i64 0,.int .i64 0] 69 (0,0)))∧w.heap.size+2≤wr.heap.size)
 case atStart=>
  refine⟨0,by omega,rfl,fun _=>none,F.out,?_,?_,?_,by simp⟩;·have:=j3.made Tryz.prog 9 3 (w.alloc (.cells #[.int .i64 0,.int .i64 0] 69));rw[World.size_alloc] at this;exact this
  ·exact(((ak.refl w).alloc _).alloc _).below
  show _=_;rw[Below.heap_alloc _ _ _ (by simp),heap_alloc_new]
 obtain⟨j,hj,rfl,m,HE,HM,HB,HR,hsz⟩:=hrel
 by_cases hlt:j<p.length
 ·obtain⟨r,hr⟩:∃x,p[j]?=some x:=⟨_,List.getElem?_eq_getElem hlt⟩;obtain⟨b1,o1,_,rfl,hb1,⟨sv,su,rfl,hsv,hsu⟩,hc⟩:=aB.bO HV.out hr;have d0:wr.cell? ⟨b1,o1+j*4,none⟩=some (.bool r.head.no):=by rw[HB.out.cell hb1];exact hc 0 _ rfl
  have d1:wr.cell? ⟨b1,o1+j*4+1,none⟩=some (.string (bs r.head.name)):=by rw[HB.out.cell hb1];exact hc 1 _ rfl
  have d2:wr.cell? ⟨b1,o1+j*4+2,none⟩=some sv:=by rw[HB.out.cell hb1];exact hc 2 _ rfl
  have d3:wr.cell? ⟨b1,o1+j*4+3,none⟩=some su:=by rw[HB.out.cell hb1];exact hc 3 _ rfl
  have hbr:b1<wr.heap.size:=by omega
  have hst:=rF hr m j;have hB1:Below w.heap.size w (wr.alloc (.cells #[.bool r.head.no,.string (bs r.head.name),sv,su] 82)):=HB.out.alloc HB.out.size _;have HC:Hid (Calls Tryz.prog 81 #[.agg #[.bool r.head.no,.string (bs r.head.name),sv,su],.map (some (w.heap.size+1))] (wr.alloc (.cells #[.bool r.head.no,.string (bs r.head.name),sv,su] 82)) fun e w2=>e=.returned (.int .i64 (aX m r).1)∧
    Hid (eT w2 (w.heap.size+1) (6*(j+1)) (aX m r).2)∧Hid (Below w.heap.size w w2)∧w2.heap[w.heap.size]?=some (.cells #[.int .i64 0,.int .i64 0] 69 (0,0))∧w.heap.size+2≤w2.heap.size):=
   (Fg (w.heap.size+1) (6*j) m r sv su _ (HM.out.later ((ak.refl _).alloc _)) (aB.qO hsv hB1 (by omega)) (aB.qO hsu hB1 (by omega)) (by omega)).mono fun e w2 ⟨he,h1,h2⟩=>
    ⟨he,h1,aj hB1 (h2.below (n:=w.heap.size) (by omega) (by simp;omega)) (Nat.le_refl _),by rw[h2.block w.heap.size (by simp;omega) (by omega),Below.heap_alloc _ _ _ (by omega)];exact HR.out,by have:=h2.size;simp at this;omega⟩
  obtain⟨a2,c2,rfl⟩:=aB.slice hsv;obtain⟨a3,c3,rfl⟩:=aB.slice hsu;clear hc hr hsv hsu hB1 HM HB HR;generalize aX m r=wrr at*;obtain⟨ex,m2⟩:=wrr;dsimp only at*;generalize bs r.head.name=nm at*;generalize r.head.no=no at*
  by_cases h0:ex=0
  ·subst h0;have E2:Hid (dw p=gY m2 (j+1) (p.drop (j+1))):=by show _=_;rw[HE.out,hst];rfl
   clear hst HE
   go_wp2_with (go_at_call 81;refine HC.out.mono ?_;rintro e w2 ⟨rfl,hM2,hB2,hR2,hs2⟩;replace hR2:=au hR2)
   go_roundg (p.length- (j+1))
   case measure=>omega
   case rel=>exact⟨j+1,by omega,by go_num,m2,E2,hM2,hB2,hR2,hs2⟩
  have E2:Hid (dw p=(ex,j)):=by show _=_;rw[HE.out,hst,if_neg h0]
  have hq:(ex != 0)=true:=by simpa using h0
  clear hst HE h0
  go_wp2_with (go_at_call 81;refine HC.out.mono ?_;rintro e w2 ⟨rfl,hM2,hB2,hR2,hs2⟩;have q0:w2.cell? ⟨w.heap.size,0,none⟩=some (.int .i64 0):=(by rw[cell_of_row _ _ _ _ _ _ hR2];rfl);have q1:w2.cell? ⟨w.heap.size,1,none⟩=some (.int .i64 0):=(by rw[cell_of_row _ _ _ _ _ _ hR2];rfl);have p0:w2.frozen? ⟨w.heap.size,0,none⟩=false:=aS 0 hR2;have p1:w2.frozen? ⟨w.heap.size,1,none⟩=false:=aS 1 hR2;replace hR2:=au hR2)
  obtain⟨r0,r1⟩:=dW (bK hR2) (.int .i64 ex) (.int .i64 j);refine bodyPost_ret (v:=.agg #[.int .i64 ex,.int .i64 j]) (by simp[results,Tryz.results51,go_sem,r0,r1]) rfl ⟨iG (by rw[E2.out]) (by rw[E2.out]),?_⟩;exact(hB2.out.setCell (Nat.le_refl _) _).setCell (Nat.le_refl _) _
 have E2:Hid (dw p=(0,0)):=by show _=_;rw[HE.out,List.drop_eq_nil_of_le (by omega)];rfl
 have hR2:=HR.out;have q0:wr.cell? ⟨w.heap.size,0,none⟩=some (.int .i64 0):=by rw[cell_of_row _ _ _ _ _ _ hR2];rfl
 have q1:wr.cell? ⟨w.heap.size,1,none⟩=some (.int .i64 0):=by rw[cell_of_row _ _ _ _ _ _ hR2];rfl
 have p0:wr.frozen? ⟨w.heap.size,0,none⟩=false:=aS 0 hR2;have p1:wr.frozen? ⟨w.heap.size,1,none⟩=false:=aS 1 hR2;clear hR2;go_wp2;obtain⟨r0,r1⟩:=dW HR.out (.int .i64 0) (.int .i64 0);refine bodyPost_ret (v:=.agg #[.int .i64 0,.int .i64 0]) (by simp[results,Tryz.results51,go_sem,r0,r1]) rfl ⟨iG (by rw[E2.out]) (by rw[E2.out];rfl),?_⟩;exact(HB.out.setCell (Nat.le_refl _) _).setCell (Nat.le_refl _) _
theorem NQ (b n c:Nat) (m:dU) (a:aI) (v:Value) (w:World) (h:eT w b n m) (hv:eD.sl bf w v a.terms) (hs:a.name.length≤maxLen) (hc:numOf m a.name≤c) (hcc:c≤1000000):
  Calls Tryz.prog 82 #[.map (some b),.agg #[.bool a.no,.string (bs a.name),v]] w fun e w'=>e=.returned (.int .i64 (behind m a:Nat))∧ak w w':=by
 obtain⟨sa,cap,rfl⟩:=aB.slice hv;clear hv;have h1:=h.later ((ak.refl w).alloc (.cells #[.bool a.no,.string (bs a.name),.slice sa a.terms.length cap] 79));have hr:=j3.Ie (T:=111) h1 Tryz.underlying9 Tryz.underlying3 Tryz.underlying111 (lg _) hs;clear h h1;cases hm:m a.name with
 |none=>
  have e0:numOf m a.name=0:=by unfold numOf;rw[hm];rfl
  have F:Hid (behind m a=0):=by show _=_;unfold behind;rw[hm]
  rw[hm,e0] at hr;clear hm e0 hc;generalize bs a.name=nm at*;generalize a.no=no at*
  go_enter Tryz.func82,Tryz.ntmps82
  go_wp2;go_ret;exact⟨by rw[F.out];rfl,(ak.refl _).alloc _⟩
 |some k=>
  have e0:numOf m a.name=k:=by unfold numOf;rw[hm];rfl
  have F:Hid (behind m a=if a.no then k+1 else k):=by show _=_;unfold behind;rw[hm]
  rw[hm,e0] at hr;rw[e0] at hc;clear hm e0;generalize bs a.name=nm at*;generalize a.no=no at*;cases no
  ·go_enter Tryz.func82,Tryz.ntmps82
   go_wp2;go_ret;exact⟨by rw[F.out];rfl,(ak.refl _).alloc _⟩
  have F2:Hid (((behind m a:Nat):Int)=(k:Int)+1):=by show _=_;rw[F.out];simp
  go_enter Tryz.func82,Tryz.ntmps82
  go_wp2;go_ret;exact⟨by rw[F2.out];rfl,(ak.refl _).alloc _⟩
theorem AJ {m:dU} {c:Nat} (h:∀s,numOf m s≤c) (a:aI):behind m a≤c+1:=by
 have:=h a.name;unfold numOf at this;unfold behind;cases hm:m a.name with
 |none=>simp
 |some k=>rw[hm] at this;simp at this;simp only;split <;> omega
theorem Cm {h:Bs} {x:dU×Bool} {c:Nat} (hc:∀s,numOf x.1 s≤c) (a:aI):∀s,numOf (bD h x a).1 s≤c+1:=by
 intro s;unfold bD;split
 ·show numOf (x.1.put _ _) s≤_;rw[gL];split;·exact AJ hc a
  have:=hc s;omega
 have:=hc s;omega
theorem y7 {l:List aI} {q:Nat} {a:aI} (h:l[q]?=some a) (s:Bs) (y:dU×Bool):(l.drop q).foldl (bD s) y=(l.drop (q+1)).foldl (bD s) (bD s y a):=by obtain⟨h1,e1⟩:=List.getElem?_eq_some_iff.1 h;rw[List.drop_eq_getElem_cons h1,e1];rfl
theorem AL {p:List aG} {j:Nat} {r:aG} (h:p[j]?=some r) (x:dU×Bool):liftAll x (p.drop j)=liftAll (gW x r) (p.drop (j+1)):=by obtain⟨h1,e1⟩:=List.getElem?_eq_some_iff.1 h;rw[List.drop_eq_getElem_cons h1,e1];rfl
def KZ (r:aG):Prop:=r.head.name.length≤maxLen∧r.body.length≤5∧∀a∈r.body,a.name.length≤maxLen
theorem NR (b n c:Nat) (m:dU) (p:List aG) (v:Value) (w:World) (h:eT w b n m) (hv:eP.sl (fun k=>k≠b) w v p) (hf:∀r∈p,KZ r) (hp:p.length≤16) (hc:∀s,numOf m s≤c) (hn:n≤100000) (hcc:c≤100000):
  Calls Tryz.prog 52 #[.map (some b),v] w fun e w'=>e=.returned (.bool (liftAll (m,false) p).2)∧eT w' b (n+80) (liftAll (m,false) p).1∧Tn b w w'∧∀s,numOf (liftAll (m,false) p).1 s≤c+80:=by
 have hbw:=h.lt;obtain⟨sa,cap,rfl⟩:=aB.slice hv;have HV:=au hv;have HF:=au hf;have H0:=au h;have HC0:=au hc;clear hv hf h hc
 go_enter Tryz.func52,Tryz.ntmps52
 go_wp2
 go_loopg [5,13] p.length (fun k s5 i wr=>∃j:Nat,j+k=p.length∧i=.int .i64 j∧∃x:dU×Bool,s5=.bool x.2∧Hid (liftAll (m,false) p=liftAll x (p.drop j))∧Hid (eT wr b (n+5*j) x.1)∧Hid (Tn b w wr)∧Hid (∀s,numOf x.1 s≤c+5*j))
 case atStart=>exact⟨0,by omega,rfl,(m,false),rfl,(rfl:_=_),H0,Tn.refl _ _,HC0⟩
 obtain⟨j,hj,rfl,x,rfl,HE,HM,HT,HC⟩:=hrel;have hwr:=HT.out.size
 by_cases hlt:j<p.length
 ·obtain⟨r,hr⟩:∃x,p[j]?=some x:=⟨_,List.getElem?_eq_getElem hlt⟩;obtain⟨b1,o1,_,rfl,hb1,hbne,⟨sv,su,rfl,hsv,hsu⟩,hcl⟩:=aB.Dw HV.out hr;have d0:wr.cell? ⟨b1,o1+j*4,none⟩=some (.bool r.head.no):=by rw[HT.out.cell hb1 hbne];exact hcl 0 _ rfl
  have d1:wr.cell? ⟨b1,o1+j*4+1,none⟩=some (.string (bs r.head.name)):=by rw[HT.out.cell hb1 hbne];exact hcl 1 _ rfl
  have d2:wr.cell? ⟨b1,o1+j*4+2,none⟩=some sv:=by rw[HT.out.cell hb1 hbne];exact hcl 2 _ rfl
  have d3:wr.cell? ⟨b1,o1+j*4+3,none⟩=some su:=by rw[HT.out.cell hb1 hbne];exact hcl 3 _ rfl
  obtain⟨f1,f2,f3⟩:=HF.out r (List.mem_of_getElem? hr);have HS:=au (AL hr x);obtain⟨a2,c2,rfl⟩:=aB.slice hsv;obtain⟨a3,c3,rfl⟩:=aB.slice hsu;have HSU:=au hsu;have HF3:=au f3;have hbl:r.body.length≤5:=f2;have hjp:j<16:=by omega
  have hbr:b1<wr.heap.size:=by omega
  clear hcl hr hsv hsu f3 f2;have ZT:b<wr.heap.size:=by omega
  have HM1:=au (HM.out.later ((ak.refl wr).alloc (.cells #[.bool r.head.no,.string (bs r.head.name),.slice a2 r.head.terms.length c2,.slice a3 r.body.length c3] 82)));have HT1:=au (HT.out.alloc (.cells #[.bool r.head.no,.string (bs r.head.name),.slice a2 r.head.terms.length c2,.slice a3 r.body.length c3] 82));have HZ1:Hid ((wr.alloc (.cells #[.bool r.head.no,.string (bs r.head.name),.slice a2 r.head.terms.length c2,.slice a3 r.body.length c3] 82)).cell? ⟨wr.heap.size,1,none⟩=some (.string (bs r.head.name))):=by show _=_;simp
  have hR1:wr.heap.size<(wr.alloc (.cells #[.bool r.head.no,.string (bs r.head.name),.slice a2 r.head.terms.length c2,.slice a3 r.body.length c3] 82)).heap.size:=by simp
  generalize hnm:bs r.head.name=nm at*;have HNM:=au hnm;clear hnm;generalize r.head.no=no at*;generalize hR:wr.heap.size=R at*;clear HM HT;go_wp2
  go_loopg [5,20] r.body.length (fun k s5 i wr2=>∃q:Nat,q+k=r.body.length∧i=.int .i64 q∧∃y:dU×Bool,s5=.bool y.2∧Hid (gW x r=(r.body.drop q).foldl (bD r.head.name) y)∧Hid (eT wr2 b (n+5*j+q) y.1)∧Hid (Tn b w wr2)∧R<wr2.heap.size∧wr2.cell? ⟨R,1,none⟩=some (.string nm)∧Hid (∀s,numOf y.1 s≤c+5*j+q))
  case atStart=>
   refine⟨0,by omega,rfl,x,rfl,(rfl:_=_),?_,?_,?_,?_,HC⟩;·first|exact HM1|(subst hR;exact HM1)
   ·first|exact HT1|(subst hR;exact HT1)
   ·first|exact hR1|(subst hR;exact hR1)
   first|exact HZ1.out|(subst hR;exact HZ1.out)
  obtain⟨q,hq,rfl,y,rfl,HE2,HMy,HTy,hRs,z1,HCy⟩:=hrel;clear HM1 HT1 HZ1 hR1 d0 d1 d2 d3;have hwr2:=HTy.out.size
  by_cases hlq:q<r.body.length
  ·obtain⟨a,ha⟩:∃x,r.body[q]?=some x:=⟨_,List.getElem?_eq_getElem hlq⟩;obtain⟨b2,o2,_,rfl,hb2,NS,⟨tv,rfl,htv⟩,hcl⟩:=aB.Dw HSU.out ha;have d0:wr.cell? ⟨b2,o2+q*3,none⟩=some (.bool a.no):=by rw[HTy.out.cell hb2 NS];exact hcl 0 _ rfl
   have d1:wr.cell? ⟨b2,o2+q*3+1,none⟩=some (.string (bs a.name)):=by rw[HTy.out.cell hb2 NS];exact hcl 1 _ rfl
   have d2:wr.cell? ⟨b2,o2+q*3+2,none⟩=some tv:=by rw[HTy.out.cell hb2 NS];exact hcl 2 _ rfl
   have RY:b2<wr.heap.size:=by omega
   have hst:=y7 ha r.head.name y;have hle:=Cm (h:=r.head.name) HCy.out a;have HLE:=au hle;clear hle;have HBh:Hid (Calls Tryz.prog 82 #[.map (some b),.agg #[.bool a.no,.string (bs a.name),tv]] (wr.alloc (.cells #[.bool a.no,.string (bs a.name),tv] 79)) fun e w2=>e=.returned (.int .i64 (behind y.1 a:Nat))∧
     (Instr.lookup 111 (.map (some b)) (.string nm) false).run Tryz.prog w2=.ok (.int .i64 (numOf y.1 r.head.name:Nat)) w2∧Hid (eT w2 b (n+5*j+q) y.1)∧Hid (Tn b w w2)∧R<w2.heap.size∧w2.cell? ⟨R,1,none⟩=some (.string nm)):=by
    have hbz:b≠R:=by omega
    refine(NQ b (n+5*j+q) (c+5*j+q) y.1 a tv _ (HMy.out.later ((ak.refl _).alloc _)) (aB.aJ (aB.dO (aB.rE htv HTy.out)) ((ak.refl _).alloc _).below) (HF3.out a (List.mem_of_getElem? ha)) (HCy.out a.name) (by omega)).mono fun e w2 ⟨he,hL⟩=>?_;have hLL:=((ak.refl wr).alloc (.cells #[.bool a.no,.string (bs a.name),tv] 79)).trans hL;have hM2:=HMy.out.later hLL;refine⟨he,?_,hM2,HTy.out.trans (Tn.of_below hLL.below),Nat.lt_of_lt_of_le hRs hLL.size,by rw[hLL.cell (p:=⟨R,1,none⟩) hRs];exact z1⟩;rw[←HNM.out];exact j3.look (T:=111) hM2 Tryz.underlying9 Tryz.underlying3 Tryz.underlying111 (lg _) f1
   obtain⟨a4,c4,rfl⟩:=aB.slice htv
   by_cases hlf:numOf y.1 r.head.name<behind y.1 a
   ·have E3:Hid (bD r.head.name y a=(y.1.put r.head.name (behind y.1 a),true)):=by show _=_;unfold bD;rw[if_pos hlf]
    have HST:Hid (∀w2,Hid (eT w2 b (n+5*j+q) y.1)→Hid (Tn b w w2)→R<w2.heap.size→w2.cell? ⟨R,1,none⟩=some (.string nm)→∃w3,(Instr.mapUpdate 111 (.map (some b)) (.string nm) (.int .i64 (behind y.1 a:Nat))).run Tryz.prog w2=.ok () w3∧Hid (eT w3 b (n+5*j+(q+1)) (y.1.put r.head.name (behind y.1 a)))∧Hid (Tn b w w3)∧R<w3.heap.size∧w3.cell? ⟨R,1,none⟩=some (.string nm)):=fun w2 hM2 hT2 hs2 hz2=>by have hbh:=AJ HCy.out a;obtain⟨w3,hrun,hM3,hg⟩:=j3.store (T:=111) hM2.out Tryz.underlying9 Tryz.underlying3 Tryz.underlying111 (by simp[maxLen];omega) f1 (x:=behind y.1 a) (uz (by omega));rw[HNM.out] at hrun;exact⟨w3,hrun,hM3,hT2.out.trans (Tn.gD hg),Nat.lt_of_lt_of_le hs2 hg.size,by rw[(Tn.gD hg).cell (x:=⟨R,1,none⟩) hs2 (by show R≠b;omega)];exact hz2⟩
    have E4:Hid (gW x r=(r.body.drop (q+1)).foldl (bD r.head.name) (y.1.put r.head.name (behind y.1 a),true)):=by show _=_;rw[HE2.out,hst,E3.out]
    have TD:Hid (∀s,numOf (y.1.put r.head.name (behind y.1 a)) s≤c+5*j+(q+1)):=by intro s;have:=HLE.out s;rw[E3.out] at this;exact this
    have hlz:((numOf y.1 r.head.name:Nat):Int)<((behind y.1 a:Nat):Int):=by omega
    clear hcl ha htv hst HE2 HMy HTy HCy HLE E3 hlf;generalize y.1.put r.head.name (behind y.1 a)=m3 at*;generalize behind y.1 a=be at*;generalize numOf y.1 r.head.name=nu at*;generalize bs a.name=na at*;generalize a.no=an at*
    go_wp2_with (first
     |(go_at_call 82;refine HBh.out.mono ?_;rintro e w2 ⟨rfl,hlk,hM2,hT2,hs2,hz2⟩;obtain⟨w3,hup,hM3,hT3,hs3,hz3⟩:=HST.out w2 hM2 hT2 hs2 hz2;replace hlk:=au hlk;replace hup:=au hup;replace hz3:=au hz3)
     |(at_lookup;refine bP _ rfl _ _ _ _ rfl _ _ _ rfl rfl (bK hlk) ?_)
     |(at_mapUpdate;refine aM _ rfl _ _ _ _ rfl _ _ _ _ rfl rfl rfl (bK hup) ?_)
     |go_in)
    go_roundg (r.body.length- (q+1))
    case measure=>omega
    case rel=>exact⟨q+1,by omega,by go_num,(m3,true),rfl,E4,hM3,hT3,hs3,bK hz3,TD⟩
   have E3:Hid (bD r.head.name y a=y):=by show _=_;unfold bD;rw[if_neg hlf]
   have E4:Hid (gW x r=(r.body.drop (q+1)).foldl (bD r.head.name) y):=by show _=_;rw[HE2.out,hst,E3.out]
   have TD:Hid (∀s,numOf y.1 s≤c+5*j+(q+1)):=by intro s;have:=HCy.out s;omega
   have hlz:¬((numOf y.1 r.head.name:Nat):Int)<((behind y.1 a:Nat):Int):=by omega
   clear hcl ha htv hst HE2 HMy HTy HCy HLE E3 hlf;generalize behind y.1 a=be at*;generalize numOf y.1 r.head.name=nu at*;generalize bs a.name=na at*;generalize a.no=an at*
   go_wp2_with (first
    |(go_at_call 82;refine HBh.out.mono ?_;rintro e w2 ⟨rfl,hlk,hM2,hT2,hs2,hz2⟩;replace hlk:=au hlk)
    |(at_lookup;refine bP _ rfl _ _ _ _ rfl _ _ _ rfl rfl (bK hlk) ?_)
    |go_in)
   go_roundg (r.body.length- (q+1))
   case measure=>omega
   case rel=>exact⟨q+1,by omega,by go_num,y,rfl,E4,hM2.out.mono (by omega),hT2,hs2,hz2,TD⟩
  have E3:Hid (gW x r=y):=by show _=_;rw[HE2.out,List.drop_eq_nil_of_le (by omega)];rfl
  have E4:Hid (liftAll (m,false) p=liftAll y (p.drop (j+1))):=by show _=_;rw[HE.out,HS.out,E3.out]
  go_wp2
  go_roundg (p.length- (j+1))
  case measure=>omega
  case rel=>exact⟨j+1,by omega,by go_num,y,rfl,E4,HMy.out.mono (by omega),HTy,fun s=>by have:=HCy.out s;omega⟩
 have E2:Hid (liftAll (m,false) p=x):=by show _=_;rw[HE.out,List.drop_eq_nil_of_le (by omega)];rfl
 go_wp2;go_ret;exact⟨by rw[E2.out];rfl,by rw[E2.out];exact HM.out.mono (by omega),HT.out,by rw[E2.out];intro s;have:=HC.out s;omega⟩
def lS:aB Nat where
 size:=1
 is:=fun _ _ c n=>c=[.int .i64 (n:Int)]
 len:=fun h=>by subst h;rfl
 one:=fun h u hu=>by subst h;simp at hu;subst hu;rfl
 kept:=fun h _ _=>h
 mono:=fun h _=>h
theorem NT:∃i,Tryz.prog.info? 3=some i∧i.zero=some (.int .i64 0)∧i.size=1∧i.bytes=8:=⟨Tryz.t3,by kernel_rfl,by kernel_rfl,by kernel_rfl,by kernel_rfl⟩
theorem xG {lo:Nat} {w:World} {v:Value} {l:List Nat} (h:lS.own 3 lo w v l) {x:Nat} (hl:l.length+1≤1099511627776) (hlo:lo≤w.heap.size):
  ∃v' w',(Builtin.append_ #[67,67] 67 #[v,.slice (some ⟨w.heap.size,0,none⟩) 1 1]).run Tryz.prog (w.alloc (.cells #[.int .i64 (x:Int)] 3))=.ok v' w'∧lS.own 3 lo w' v' (l++[x])∧(w.alloc (.cells #[.int .i64 (x:Int)] 3)).grownBy w' v.ownBlock:=by
 obtain⟨i,i1,i2,i3,i4⟩:=NT;exact aB.wI h Tryz.underlying67 i1 i2 i3 i4 rfl (by decide) (by decide) (c:=[.int .i64 (x:Int)]) rfl hl hlo
theorem AO {p:List aG} {j:Nat} {r:aG} (h:p[j]?=some r) (m:dU):each m (p.take (j+1))=each m (p.take j)++[numOf m r.head.name]:=by rw[List.take_add_one,h];simp[each]
theorem TF (b n:Nat) (m:dU) (p:List aG) (v:Value) (w:World) (h:eT w b n m) (hv:eP.sl bf w v p) (hf:∀r∈p,KZ r) (hp:p.length≤16):
  Calls Tryz.prog 53 #[.map (some b),v] w fun e w'=>∃u,e=.returned u∧lS.own 3 w.heap.size w' u (each m p)∧Below w.heap.size w w':=by
 obtain⟨sa,cap,rfl⟩:=aB.slice hv;have HV:=au hv;have HF:=au hf;have H0:=au h;have hbw:=h.lt;clear hv hf h
 go_enter Tryz.func53,Tryz.ntmps53
 go_wp2
 go_loopg [5,10] p.length (fun k o i wr=>∃j:Nat,j+k=p.length∧i=.int .i64 j∧Hid (lS.own 3 w.heap.size wr o (each m (p.take j)))∧Hid (Below w.heap.size w wr))
 case atStart=>exact⟨0,by omega,rfl,lS.fD _ _ _,Below.refl _ _⟩
 obtain⟨j,hj,rfl,HO,HB⟩:=hrel;obtain⟨ao,co,rfl⟩:=aB.aY HO.out;have hwr:=HB.out.size
 by_cases hlt:j<p.length
 ·obtain⟨r,hr⟩:∃x,p[j]?=some x:=⟨_,List.getElem?_eq_getElem hlt⟩;obtain⟨b1,o1,_,rfl,hb1,⟨sv,su,rfl,hsv,hsu⟩,hcl⟩:=aB.bO HV.out hr;have d0:wr.cell? ⟨b1,o1+j*4,none⟩=some (.bool r.head.no):=by rw[HB.out.cell hb1];exact hcl 0 _ rfl
  have d1:wr.cell? ⟨b1,o1+j*4+1,none⟩=some (.string (bs r.head.name)):=by rw[HB.out.cell hb1];exact hcl 1 _ rfl
  have d2:wr.cell? ⟨b1,o1+j*4+2,none⟩=some sv:=by rw[HB.out.cell hb1];exact hcl 2 _ rfl
  have d3:wr.cell? ⟨b1,o1+j*4+3,none⟩=some su:=by rw[HB.out.cell hb1];exact hcl 3 _ rfl
  have hbr:b1<wr.heap.size:=by omega
  have E:=au (AO hr m);have hlen:(each m (p.take j)).length=j:=by simp[each];omega
  have f1:=(HF.out r (List.mem_of_getElem? hr)).1;have hlk:=au (j3.look (T:=111) ((H0.out.below HB.out).later ((ak.refl wr).alloc (.cells #[.bool r.head.no,.string (bs r.head.name),sv,su] 82))) Tryz.underlying9 Tryz.underlying3 Tryz.underlying111 (lg _) f1);have hOA:=aB.dI HO.out ((Tn.refl b wr).alloc (.cells #[.bool r.head.no,.string (bs r.head.name),sv,su] 82)) hbw;obtain⟨v',w4,hrun,o4,g4⟩:=xG hOA (x:=numOf m r.head.name) (by rw[hlen];omega) (by simp;omega);have HO4:Hid (lS.own 3 w.heap.size w4 v' (each m (p.take (j+1)))):=by show lS.own _ _ _ _ _;rw[E.out];exact o4
  have HB4:Hid (Below w.heap.size w w4):=by refine aj ((HB.out.alloc hwr _).alloc (by simp;omega) _) ⟨g4.os,g4.tape,g4.output,g4.size,fun k hk=>g4.block k (by simp;omega) (fun e=>?_)⟩ (Nat.le_refl _);have:=(aB.dL hOA e.symm).1;omega
  rw[hlen] at hrun;simp only[World.size_alloc] at hrun
  replace hrun:=au hrun
  rw[hlen];obtain⟨a2,c2,rfl⟩:=aB.slice hsv;obtain⟨a3,c3,rfl⟩:=aB.slice hsu;clear hcl hr hsv hsu hOA o4 g4 HO HB E f1;clear hlen;generalize numOf m r.head.name=nu at*;generalize bs r.head.name=nm at*;generalize r.head.no=no at*
  go_wp2_with (first
   |(at_lookup;refine bP _ rfl _ _ _ _ rfl _ _ _ rfl rfl (bK hlk) ?_)
   |(at_builtin;refine wpList_append_run rfl (.tmp 14) (.tmp 20) 67 rfl _ _ _ _ rfl rfl (bK hrun) ?_)
   |go_in)
  go_roundg (p.length- (j+1))
  case measure=>omega
  case rel=>exact⟨j+1,by omega,by go_num,HO4,HB4⟩
 have e:j=p.length:=by omega
 subst e;have HO2:Hid (lS.own 3 w.heap.size wr (.slice ao (each m (p.take p.length)).length co) (each m p)):=by have:=HO.out;rw[List.take_length] at this⊢;exact this
 go_wp2;go_ret;exact⟨_,rfl,HO2.out,HB.out⟩
theorem AP (l:List aG):∀(m:dU) (i:Nat),(gY m i l).1=0→∀r∈l,KZ r:=by
 induction l with
 |nil=>intro m i _ r hr;cases hr
 |cons q l ih=>
  intro m i h r hr;unfold gY at h;split at h
  ·rename_i h0;rcases List.mem_cons.1 hr with rfl|hr
   ·unfold aX at h0;split at h0
    ·rename_i h1;split at h0;·cases h0
     split at h0;·rename_i h2;obtain⟨k1,k2⟩:=je h2;exact⟨fC (bB h1).1,k1,fun a ha=>fC (bB (k2 a ha)).1⟩
     rename_i h2;exact absurd h0 h2
    rename_i h1;exact absurd h0 h1
   exact ih _ _ h r hr
  rename_i h0;exact absurd h h0
theorem uF {p:List aG} (h:(dw p).1=0):p.length≤16∧∀r∈p,KZ r:=by
 unfold dw at h;split at h;·cases h
 exact⟨by omega,AP p _ _ h⟩
theorem AQ {p:List aG} {j:Nat} {r:aG} (h:p[j]?=some r) (m:dU):kg m (p.take (j+1))=(kg m (p.take j)).put r.head.name 0:=by rw[List.take_add_one,h];simp[kg,List.foldl_append]
theorem aB.mW {α:Type} {K:aB α} {lo R i:Nat} {w:World} {v:Value} {l:List α} (h:K.sl (From lo) w v l) (hR:R<lo) (x:Value):K.sl (From lo) (w.setCell ⟨R,i,none⟩ x) v l:=
 aB.bL h (by rw[size_setCell];exact Nat.le_refl _) fun k _ hB=>heap_setCell_other _ _ _ (by have:lo≤k:=hB;show k≠R;omega)
theorem IK (p:List aG) (v:Value) (w:World) (hv:eP.sl bf w v p):
  Calls Tryz.prog 27 #[v] w fun e w'=>∃u,e=.returned (.tuple #[u,.agg #[.int .i64 (aV p).2.1,.int .i64 ((aV p).2.2:Nat)]])∧lS.sl (From w.heap.size) w' u (aV p).1∧Below w.heap.size w w':=by
 obtain⟨sa,cap,rfl⟩:=aB.slice hv;have HV:=au hv;have hl0:=hv.1.1;have HW:Hid (Calls Tryz.prog 51 #[.slice sa p.length cap] (w.alloc (.cells #[.int .i64 0,.int .i64 0] 69)) fun e w2=>e=.returned (.agg #[.int .i64 (dw p).1,.int .i64 ((dw p).2:Nat)])∧Hid (Below w.heap.size w w2)∧w2.heap[w.heap.size]?=some (.cells #[.int .i64 0,.int .i64 0] 69 (0,0))∧w.heap.size<w2.heap.size):=
  (Qv p _ _ (aB.aJ hv ((ak.refl w).alloc _).below)).mono fun e w2 ⟨he,hb⟩=>⟨he,aj ((ak.refl w).alloc _).below hb (by simp),by rw[hb.block w.heap.size (by simp),heap_alloc_new],by have:=hb.size;simp at this;omega⟩
 clear hv;have hmm:= @run_makeMap Tryz.prog;generalize hwp:dw p=wp at*;obtain⟨ex,ea⟩:=wp;dsimp only at*
 by_cases h0:ex=0
 ·subst h0;obtain⟨TG,Fh⟩:=uF (p:=p) (by rw[hwp]);have HFi:=au Fh;have F:Hid (aV p=match fu p (p.length+1) (start p) with|some m=>(each m p,0,0)|none=>([],10,0)):=by
   show _=_;unfold aV;rw[hwp,if_pos rfl];cases fu p (p.length+1) (start p) <;> rfl
  clear hwp Fh
  go_enter Tryz.func27,Tryz.ntmps27
  go_wp2_with (go_at_call 51;refine HW.out.mono ?_;rintro e w2 ⟨rfl,hB2,hR2,hs2⟩;replace hR2:=au hR2)
  have hwz:=hB2.out.size
  go_loopg [17] p.length (fun k i wr=>∃j:Nat,j+k=p.length∧i=.int .i64 j∧Hid (eT wr (w2.heap.size+1) j (kg (fun _=>none) (p.take j)))∧Hid (Below w.heap.size w wr)∧Hid (wr.heap[w.heap.size]?=some (.cells #[.int .i64 0,.int .i64 0] 69 (0,0)))∧w2.heap.size+2≤wr.heap.size)
  case atStart=>
   refine⟨0,by omega,rfl,?_,?_,?_,by simp⟩;·have:=j3.made Tryz.prog 9 3 (w2.alloc (.cells #[.int .i64 0,.int .i64 (ea:Int)] 69));rw[World.size_alloc] at this;exact this
   ·exact(hB2.out.alloc hwz _).alloc (by simp;omega) _
   show _=_;rw[Below.heap_alloc _ _ _ (by simp;omega),Below.heap_alloc _ _ _ hs2];exact bK hR2
  obtain⟨j,hj,rfl,HM,HB,HR,hsz⟩:=hrel;clear hB2 hR2
  by_cases hlt:j<p.length
  ·obtain⟨r,hr⟩:∃x,p[j]?=some x:=⟨_,List.getElem?_eq_getElem hlt⟩;obtain⟨b1,o1,_,rfl,hb1,⟨sv,su,rfl,hsv,hsu⟩,hcl⟩:=aB.bO HV.out hr;have d0:wr.cell? ⟨b1,o1+j*4,none⟩=some (.bool r.head.no):=by rw[HB.out.cell hb1];exact hcl 0 _ rfl
   have d1:wr.cell? ⟨b1,o1+j*4+1,none⟩=some (.string (bs r.head.name)):=by rw[HB.out.cell hb1];exact hcl 1 _ rfl
   have d2:wr.cell? ⟨b1,o1+j*4+2,none⟩=some sv:=by rw[HB.out.cell hb1];exact hcl 2 _ rfl
   have d3:wr.cell? ⟨b1,o1+j*4+3,none⟩=some su:=by rw[HB.out.cell hb1];exact hcl 3 _ rfl
   have hbr:b1<wr.heap.size:=by omega
   have E:=au (AQ hr (fun _=>none));have f1:=(HFi.out r (List.mem_of_getElem? hr)).1;obtain⟨w4,hup,hM4,hg⟩:=j3.store (T:=111) (HM.out.later ((ak.refl wr).alloc (.cells #[.bool r.head.no,.string (bs r.head.name),sv,su] 82))) Tryz.underlying9 Tryz.underlying3 Tryz.underlying111 (by simp[maxLen];omega) f1 (x:=0) (uz (by omega));have hgs:=hg.size;simp only[World.size_alloc] at hgs;have HM4:Hid (eT w4 (w2.heap.size+1) (j+1) (kg (fun _=>none) (p.take (j+1)))):=by show eT _ _ _ _;rw[E.out];exact hM4
   have HB4:Hid (Below w.heap.size w w4):=aj (HB.out.alloc HB.out.size _) ((Tn.gD hg).below (n:=w.heap.size) (by omega) (by simp;omega)) (Nat.le_refl _);have HR4:Hid (w4.heap[w.heap.size]?=some (.cells #[.int .i64 0,.int .i64 0] 69 (0,0))):=by show _=_;rw[(Tn.gD hg).block w.heap.size (by simp;omega) (by omega),Below.heap_alloc _ _ _ (by omega)];exact HR.out
   have hs4:w2.heap.size+2≤w4.heap.size:=by omega
   have Yt:Hid ((Instr.mapUpdate 111 (.map (some (w2.heap.size+1))) (.string (bs r.head.name)) (.int .i64 0)).run Tryz.prog (wr.alloc (.cells #[.bool r.head.no,.string (bs r.head.name),sv,su] 82))=.ok () w4):=hup;obtain⟨a2,c2,rfl⟩:=aB.slice hsv;obtain⟨a3,c3,rfl⟩:=aB.slice hsu;clear hcl hr hsv hsu hM4 hg hup HM HB HR E f1 hgs;generalize bs r.head.name=nm at*;generalize r.head.no=no at*
   go_wp2_with (first
    |(at_mapUpdate;refine aM _ rfl _ _ _ _ rfl _ _ _ _ rfl rfl rfl (bK Yt) ?_)
    |go_in)
   go_roundg (p.length- (j+1))
   case measure=>omega
   case rel=>exact⟨j+1,by omega,by go_num,HM4,HB4,HR4,hs4⟩
  have e:j=p.length:=by omega
  subst e;have HM2:Hid (eT wr (w2.heap.size+1) (16+80*0) (start p)):=by have:=HM.out;rw[List.take_length] at this;exact this.mono (by omega)
  have HN2:Hid (∀s,numOf (start p) s≤80*0):=fun s=>by rw[qy];exact Nat.zero_le _
  clear HM;go_wp2
  go_loopg [29] (p.length+1) (fun k i wr2=>∃t:Nat,t+k=p.length+1∧i=.int .i64 t∧∃m,Hid (fu p (p.length+1) (start p)=fu p k m)∧Hid (eT wr2 (w2.heap.size+1) (16+80*t) m)∧Hid (∀s,numOf m s≤80*t)∧Hid (Below w.heap.size w wr2)∧Hid (wr2.heap[w.heap.size]?=some (.cells #[.int .i64 0,.int .i64 0] 69 (0,0)))∧w2.heap.size+2≤wr2.heap.size)
  case atStart=>exact⟨0,by omega,rfl,start p,(rfl:_=_),HM2,HN2,HB,HR,hsz⟩
  obtain⟨t,ht,rfl,m,HE,HMt,HNt,HBt,HRt,hst⟩:=hrel;clear HM2 HN2 HB HR hsz
  by_cases hlt:t<p.length+1
  ·obtain⟨k,rfl⟩:∃k',gk=k'+1:=⟨p.length-t,by omega⟩;have HL:Hid (Calls Tryz.prog 52 #[.map (some (w2.heap.size+1)),.slice sa p.length cap] wr fun e w5=>e=.returned (.bool (liftAll (m,false) p).2)∧Hid (eT w5 (w2.heap.size+1) (16+80*(t+1)) (liftAll (m,false) p).1)∧Hid (∀s,numOf (liftAll (m,false) p).1 s≤80*(t+1))∧Hid (Below w.heap.size w w5)∧Hid (w5.heap[w.heap.size]?=some (.cells #[.int .i64 0,.int .i64 0] 69 (0,0)))∧w2.heap.size+2≤w5.heap.size):=
    (NR _ _ (80*t) m p _ wr HMt.out (aB.qO HV.out HBt.out (by omega)) HFi.out TG HNt.out (by omega) (by omega)).mono fun e w5 ⟨he,h1,h2,h3⟩=>
     ⟨he,h1.mono (by omega),fun s=>by have:=h3 s;omega,aj HBt.out (h2.below (n:=w.heap.size) (by omega) (by omega)) (Nat.le_refl _),by show _=_;rw[h2.block w.heap.size (by omega) (by omega)];exact HRt.out,by have:=h2.size;omega⟩
   have hgo:fu p (k+1) m=if(liftAll (m,false) p).2 then fu p k (liftAll (m,false) p).1 else some (liftAll (m,false) p).1:=rfl;clear HMt HNt HBt HRt;generalize liftAll (m,false) p=la at*;obtain⟨m2,lb⟩:=la;dsimp only at*;cases lb
   ·have F2:Hid (aV p=(each m2 p,0,0)):=by show _=_;rw[F.out,HE.out,hgo];rfl
    have HEa:Hid (∀w5,Hid (eT w5 (w2.heap.size+1) (16+80*(t+1)) m2)→Hid (Below w.heap.size w w5)→Hid (w5.heap[w.heap.size]?=some (.cells #[.int .i64 0,.int .i64 0] 69 (0,0)))→w2.heap.size+2≤w5.heap.size→Calls Tryz.prog 53 #[.map (some (w2.heap.size+1)),.slice sa p.length cap] w5 fun e w6=>∃u,e=.returned u∧Hid (lS.sl (From (w.heap.size+1)) w6 u (each m2 p))∧Hid (Below w.heap.size w w6)∧w6.heap[w.heap.size]?=some (.cells #[.int .i64 0,.int .i64 0] 69 (0,0))):=fun w5 h1 h2 h3 h4=>
     (TF _ _ m2 p _ w5 h1.out (aB.aJ HV.out h2.out) HFi.out TG).mono fun e w6 ⟨u,he,ho,hb⟩=>
      ⟨u,he,aB.bQ (aB.fq ho (by simp[each];omega)) fun k _ hk=>by have:w5.heap.size≤k:=hk;show w.heap.size+1≤k;omega,aj h2.out hb h2.out.size,by rw[hb.block w.heap.size (by omega)];exact h3.out⟩
    clear hgo HE F
    go_wp2_with (first
     |(go_at_call 52;refine HL.out.mono ?_;rintro e w5 ⟨rfl,hM5,hN5,hB5,hR5,hs5⟩)
     |(go_at_call 53;refine(HEa.out w5 hM5 hB5 hR5 hs5).mono ?_;rintro e w6 ⟨u,rfl,hU6,hB6,hR6⟩;have q0:w6.cell? ⟨w.heap.size,0,none⟩=some (.int .i64 0):=(by rw[cell_of_row _ _ _ _ _ _ hR6];rfl);have q1:w6.cell? ⟨w.heap.size,1,none⟩=some (.int .i64 0):=(by rw[cell_of_row _ _ _ _ _ _ hR6];rfl);have p0:w6.frozen? ⟨w.heap.size,0,none⟩=false:=aS 0 hR6;have p1:w6.frozen? ⟨w.heap.size,1,none⟩=false:=aS 1 hR6;replace hR6:=au hR6))
    obtain⟨r0,r1⟩:=dW (bK hR6) (.int .i64 0) (.int .i64 0);refine bodyPost_ret (v:=.tuple #[u,.agg #[.int .i64 0,.int .i64 0]]) (by simp[results,Tryz.results27,go_sem,r0,r1]) rfl ⟨u,by rw[F2.out];rfl,?_,?_⟩
    ·rw[F2.out];exact aB.bQ (aB.mW (aB.mW hU6.out (Nat.lt_succ_self _) _) (Nat.lt_succ_self _) _) fun k _ hk=>by have:w.heap.size+1≤k:=hk;show w.heap.size≤k;omega
    exact(hB6.out.setCell (Nat.le_refl _) _).setCell (Nat.le_refl _) _
   have E2:Hid (fu p (p.length+1) (start p)=fu p k m2):=by show _=_;rw[HE.out,hgo];rfl
   clear hgo HE
   go_wp2_with (go_at_call 52;refine HL.out.mono ?_;rintro e w5 ⟨rfl,hM5,hN5,hB5,hR5,hs5⟩)
   go_roundg k
   case measure=>omega
   case rel=>exact⟨t+1,by omega,by go_num,m2,E2,hM5,hN5,hB5,hR5,hs5⟩
  obtain rfl:gk=0:=by omega
  have F2:Hid (aV p=([],10,0)):=by show _=_;rw[F.out,HE.out];rfl
  have hR6:=HRt.out;have q0:wr.cell? ⟨w.heap.size,0,none⟩=some (.int .i64 0):=(by rw[cell_of_row _ _ _ _ _ _ hR6];rfl);have q1:wr.cell? ⟨w.heap.size,1,none⟩=some (.int .i64 0):=(by rw[cell_of_row _ _ _ _ _ _ hR6];rfl);have p0:wr.frozen? ⟨w.heap.size,0,none⟩=false:=aS 0 hR6;have p1:wr.frozen? ⟨w.heap.size,1,none⟩=false:=aS 1 hR6;clear hR6;go_wp2;obtain⟨r0,r1⟩:=dW HRt.out (.int .i64 10) (.int .i64 0);refine bodyPost_ret (v:=.tuple #[.slice none 0 0,.agg #[.int .i64 10,.int .i64 0]]) (by simp[results,Tryz.results27,go_sem,r0,r1]) rfl ⟨.slice none 0 0,by rw[F2.out];rfl,by rw[F2.out];exact lS.eH _ _ _ _,?_⟩;exact(HBt.out.setCell (Nat.le_refl _) _).setCell (Nat.le_refl _) _
 have F:Hid (aV p=([],ex,ea)):=by show _=_;unfold aV;rw[hwp,if_neg h0]
 have hq:(ex != 0)=true:=by simpa using h0
 clear h0 hwp HV
 go_enter Tryz.func27,Tryz.ntmps27
 go_wp2_with (go_at_call 51;refine HW.out.mono ?_;rintro e w2 ⟨rfl,hB2,hR2,hs2⟩;have q0:w2.cell? ⟨w.heap.size,0,none⟩=some (.int .i64 0):=(by rw[cell_of_row _ _ _ _ _ _ hR2];rfl);have q1:w2.cell? ⟨w.heap.size,1,none⟩=some (.int .i64 0):=(by rw[cell_of_row _ _ _ _ _ _ hR2];rfl);have p0:w2.frozen? ⟨w.heap.size,0,none⟩=false:=aS 0 hR2;have p1:w2.frozen? ⟨w.heap.size,1,none⟩=false:=aS 1 hR2;replace hR2:=au hR2)
 go_region
 go_wp2;obtain⟨r0,r1⟩:=dW (bK hR2) (.int .i64 ex) (.int .i64 (ea:Int));have hL:=((ak.refl ((w2.setCell ⟨w.heap.size,0,none⟩ (.int .i64 ex)).setCell ⟨w.heap.size,1,none⟩ (.int .i64 (ea:Int)))).alloc (.cells #[.int .i64 ex,.int .i64 (ea:Int)] 69)).drew;rw[←hL.cell (p:=⟨w.heap.size,0,none⟩) (by simp only[size_setCell];exact hs2)] at r0;rw[←hL.cell (p:=⟨w.heap.size,1,none⟩) (by simp only[size_setCell];exact hs2)] at r1;refine bodyPost_ret (v:=.tuple #[.slice none 0 0,.agg #[.int .i64 ex,.int .i64 (ea:Int)]]) (by simp[results,Tryz.results27,go_sem,r0,r1]) rfl ⟨.slice none 0 0,by rw[F.out],by rw[F.out];exact lS.eH _ _ _ _,?_⟩;exact aj ((hB2.out.setCell (Nat.le_refl _) _).setCell (Nat.le_refl _) _) hL.below (by simp only[size_setCell];exact Nat.le_of_lt hs2)
def lT (w:World) (v:Value) (er:Int) (a:Int×List aA):Prop:=er=a.1∧(a.1≠0→v=.slice none 0 0)∧(a.1=0→Facts w v a.2)
theorem lq (n:Int) (fs:List aA) (p:List aG) (acc:List aA):gP n fs p [] acc=(0,iA acc):=by cases p <;> rfl
theorem Fj {L:List aA} (h:∀f∈L,mH f):∀f∈iA L,mH f:=fun f hf=>h f (iB.1 hf)
theorem lI {P:Program} {K E:TypeId} {L:List aA} {b n:Nat} (w:World) {ops:Array Oper} {rest:List Oper} {o:Oper} {a:Act} {Q:Exit→Act→World→Prop} (hg:o.guard=none) (m:Operand) (t:TypeId)
  (hop:o.op=Op.call {callee:=Callee.builtin Builtin.len,args:=#[m],argTypes:=#[t]}) (ht:P.underlying t=some (.map K E)) (hm:a.eval m=.map (some b)) (h:gu P K w b n L)
  (hK:wpList P ops Q rest (a.put o.dst (.int .i64 ((iA L).length:Nat))) w):wpList P ops Q (o::rest) a w:=by
 refine wpList_plain hg fun K' hK'=>?_;unfold Oper.wp;simp[execOp,hop,resolve,invoke,builtin,hm,h.len ht o.type,Result.andThen];exact hK' _ _ hK
theorem Qw (p:List aG) (ss:List Nat) (n:Int) (fs:List aA) (pv sv fv:Value) (w:World) (hp:eP.sl bf w pv p) (hss:lS.sl bf w sv ss) (hf:Facts w fv fs) (h16:p.length≤16) (NU:fs.length≤200)
  (hok:∀r∈p,pJ r.body fs []=0) (hsh:∀r∈p,∀R,lF (fun _=>fs) r.body=some R→∀l∈R,∀f,bg r.head l=some f→mH f) (hfs:∀f∈fs,mH f):
  Calls Tryz.prog 60 #[pv,sv,.int .i64 n,fv] w fun e w'=>∃v' er,e=.returned (.tuple #[v',.int .i64 er])∧lT w' v' er (bW p ss n fs)∧Below w.heap.size w w':=by
 obtain⟨pa,pc,rfl⟩:=aB.slice hp;obtain⟨sa,sc,rfl⟩:=aB.slice hss;obtain⟨fa,fc,rfl⟩:=aF hf;have hsl:=hss.1.1;have HP:=au hp;have HSS:=au hss;have HF:=au hf;have HOk:=au hok;have HSh:=au hsh;have hL1:ak w (w.alloc (.map #[] 0)):=(ak.refl w).alloc _;have HAd:=au (yZ w.heap.size 0 [] (.slice fa fs.length fc) fs (w.alloc (.map #[] 0)) (gu.made _ _ _) (hf.later hL1) hfs (by omega));have HL1:=au hL1.below;have hmm:= @run_makeMap Tryz.prog;clear hp hss hf hok hsh hfs hL1
 go_enter Tryz.func60,Tryz.ntmps60
 go_wp2_with fail
 refine HAd.out.mono ?_;rintro e w2 ⟨⟨u2,rfl⟩,hK2,hT2⟩;have HK2:Hid (KnN w2 w.heap.size (0+fs.length) fs):=by show KnN _ _ _ _;simpa using hK2
 have HB2:Hid (Below w.heap.size w w2):=HL1.out.trans (hT2.below (Nat.le_refl _) (by simp));clear hK2 hT2 HAd HL1 hmm;go_wp2
 go_loopg [21] p.length (fun g i wr=>∃j:Nat,j+g=p.length∧i=.int .i64 j∧∃acc m,m≤200+20000*j∧Hid (KnN wr w.heap.size m acc)∧Hid (Below w.heap.size w wr)∧Hid (bW p ss n fs=gP n fs (p.drop j) (ss.drop j) acc))
 case atStart=>exact⟨0,by omega,rfl,fs,_,by omega,HK2,HB2,(rfl:_=_)⟩
 clear HK2 HB2;obtain⟨j,hj,rfl,acc,m,hm,HK,HBr,HE⟩:=hrel
 by_cases hlt:j<p.length
 ·obtain⟨r,hr⟩:∃x,p[j]?=some x:=⟨_,List.getElem?_eq_getElem hlt⟩;have hrm:r∈p:=List.mem_of_getElem? hr;obtain⟨b1,o1,_,rfl,hb1,⟨tv,bv,rfl,htv,hbv⟩,hc⟩:=aB.bO HP.out hr;have d0:wr.cell? ⟨b1,o1+j*4,none⟩=some (.bool r.head.no):=by rw[HBr.out.cell (p:=⟨b1,o1+j*4,none⟩) hb1];exact hc 0 _ rfl
  have d1:wr.cell? ⟨b1,o1+j*4+1,none⟩=some (.string (bs r.head.name)):=by rw[HBr.out.cell (p:=⟨b1,o1+j*4+1,none⟩) hb1];exact hc 1 _ rfl
  have d2:wr.cell? ⟨b1,o1+j*4+2,none⟩=some tv:=by rw[HBr.out.cell (p:=⟨b1,o1+j*4+2,none⟩) hb1];exact hc 2 _ rfl
  have d3:wr.cell? ⟨b1,o1+j*4+3,none⟩=some bv:=by rw[HBr.out.cell (p:=⟨b1,o1+j*4+3,none⟩) hb1];exact hc 3 _ rfl
  have hpd:p.drop j=r::p.drop (j+1):=by obtain⟨h1,e1⟩:=List.getElem?_eq_some_iff.1 hr;rw[List.drop_eq_getElem_cons h1,e1]
  obtain⟨ta,tc,rfl⟩:=aB.slice htv;obtain⟨ba,bc,rfl⟩:=aB.slice hbv;have hwr:=HBr.out.size
  by_cases hsj:j<ss.length
  ·obtain⟨s,hs⟩:∃x,ss[j]?=some x:=⟨_,List.getElem?_eq_getElem hsj⟩;obtain⟨b2,o2,_,rfl,hb2,rfl,hc2⟩:=aB.bO HSS.out hs;have e0:wr.cell? ⟨b2,o2+j,none⟩=some (.int .i64 s):=by rw[HBr.out.cell (p:=⟨b2,o2+j,none⟩) hb2];simpa[lS] using hc2 0 _ rfl
   have hsd:ss.drop j=s::ss.drop (j+1):=by obtain⟨h1,e1⟩:=List.getElem?_eq_some_iff.1 hs;rw[List.drop_eq_getElem_cons h1,e1]
   have hstep:bW p ss n fs=if(s:Int)=n then(match gq r fs with
     |none=>(4,[])
     |some x=>if 200<(iA (acc++x)).length then(5,[]) else gP n fs (p.drop (j+1)) (ss.drop (j+1)) (acc++x)) else gP n fs (p.drop (j+1)) (ss.drop (j+1)) acc:=by
    rw[HE.out,hpd,hsd];rfl
   have TH:(j:Int)<(ss.length:Int):=by omega
   have Yu:b2<wr.heap.size:=by omega
   by_cases hsn:(s:Int)=n
   ·rw[if_pos hsn] at hstep;obtain⟨wb,hwb⟩:∃wb,wb=wr.alloc (.cells #[.bool r.head.no,.string (bs r.head.name),.slice ta r.head.terms.length tc,.slice ba r.body.length bc] 82):=⟨_,rfl⟩;have hLb:ak wr wb:=by rw[hwb];exact(ak.refl _).alloc _
    have hBb:Below w.heap.size w wb:=aj HBr.out hLb.below hwr;have HH:=au (Qu r (.slice ta r.head.terms.length tc) (.slice ba r.body.length bc) (.slice fa fs.length fc) fs wb (aB.aJ htv hBb) (aB.aJ hbv hBb) (HF.out.below hBb) (HSh.out r hrm));have h0:=HOk.out r hrm;have VH:=HSh.out r hrm;have HKb:=au (HK.out.later hLb);have HBb:=au hBb;have HWb:=au hwb;clear hc hc2 hr hs htv hbv hpd hsd HE hLb hBb hwb hrm;have hneq:((s:Int) != n)=false:=by simp[hsn]
    generalize bs r.head.name=nm at*;generalize hno:r.head.no=no at*;clear hno;subst hsn
    go_wp2_with fail
    rw[←HWb.out];refine HH.out.mono ?_;rintro e w3 ⟨v3,er,rfl,hT3,hB3⟩;unfold rD at hT3;rw[if_neg (by simp[h0])] at hT3;have HB3:Hid (Below w.heap.size w w3):=aj HBb.out hB3 HBb.out.size;have HK3:=au (HKb.out.below hB3);clear hB3 HH HWb HKb HBb;cases hh:gq r fs with
    |none=>
     rw[hh] at hT3 hstep;obtain⟨rfl,rfl⟩:=hT3;have HT:Hid (∀w',lT w' (.slice none 0 0) 4 (bW p ss s fs)):=fun w'=>by rw[hstep];exact⟨rfl,fun _=>rfl,fun h=>by simp at h⟩
     clear hstep hh;go_wp2;exact bodyPost_ret (v:=.tuple #[.slice none 0 0,.int .i64 4]) (by simp[results,Tryz.results60,go_sem]) rfl ⟨_,4,rfl,HT.out _,HB3.out⟩
    |some x=>
     rw[hh] at hT3 hstep;obtain⟨rfl,hF3⟩:=hT3;have hxs:(∀f∈x,mH f)∧x.length≤20000:=by
      unfold gq at hh;cases hR:lF (fun _=>fs) r.body with
      |none=>rw[hR] at hh;cases hh
      |some R=>
       rw[hR] at hh;cases hh;refine⟨Fj fun f hf=>?_,Nat.le_trans (yG _) (Nat.le_trans (List.length_filterMap_le _ _) (mV hR))⟩;obtain⟨l,hl,hlf⟩:=List.mem_filterMap.1 hf;exact VH R hR l hl f hlf
     have hxl:=hxs.2;have HAd:=au (yZ w.heap.size m acc v3 x w3 HK3.out hF3 hxs.1 (by omega));obtain⟨xa,xc,rfl⟩:=aF hF3;dsimp only at hstep;have HST:=au hstep;clear hF3 hxs hh hstep VH HK3
     go_wp2_with fail
     refine HAd.out.mono ?_;rintro e w4 ⟨⟨u4,rfl⟩,hK4,hT4⟩;have HB4:Hid (Below w.heap.size w w4):=HB3.out.trans (hT4.below (Nat.le_refl _) HB3.out.size);have HK4:=au hK4;clear hK4 hT4 HAd
     by_cases hbig:200<(iA (acc++x)).length
     ·have HT:Hid (∀w',lT w' (.slice none 0 0) 5 (bW p ss s fs)):=fun w'=>by rw[HST.out,if_pos hbig];exact⟨rfl,fun _=>rfl,fun h=>by simp at h⟩
      have hbi:(200:Int)<((iA (acc++x)).length:Nat):=by omega
      clear HST hbig
      go_wp2_with (at_len;refine lI _ rfl _ 144 rfl Tryz.underlying144 rfl HK4.out ?_)
      exact bodyPost_ret (v:=.tuple #[.slice none 0 0,.int .i64 5]) (by simp[results,Tryz.results60,go_sem]) rfl ⟨_,5,rfl,HT.out _,HB4.out⟩
     have HE4:Hid (bW p ss s fs=gP s fs (p.drop (j+1)) (ss.drop (j+1)) (acc++x)):=by show _=_;rw[HST.out,if_neg hbig]
     have hbi:¬(200:Int)<((iA (acc++x)).length:Nat):=by omega
     clear HST hbig
     go_wp2_with (at_len;refine lI _ rfl _ 144 rfl Tryz.underlying144 rfl HK4.out ?_)
     go_roundg (p.length- (j+1))
     case measure=>omega
     case rel=>exact⟨j+1,by omega,by go_num,acc++x,m+x.length,by omega,HK4,HB4,HE4⟩
   rw[if_neg hsn] at hstep;have HE4:Hid (bW p ss n fs=gP n fs (p.drop (j+1)) (ss.drop (j+1)) acc):=hstep;have HB4:Hid (Below w.heap.size w (wr.alloc (.cells #[.bool r.head.no,.string (bs r.head.name),.slice ta r.head.terms.length tc,.slice ba r.body.length bc] 82))):=aj HBr.out ((ak.refl _).alloc _).below hwr;have HK4:Hid (KnN (wr.alloc (.cells #[.bool r.head.no,.string (bs r.head.name),.slice ta r.head.terms.length tc,.slice ba r.body.length bc] 82)) w.heap.size m acc):=HK.out.later ((ak.refl _).alloc _);have hneq:((s:Int) != n)=true:=by simpa using hsn
   clear hstep hc hc2 hr hs htv hbv hpd hsd HE hsn hrm;generalize bs r.head.name=nm at*;generalize r.head.no=no at*;go_wp2
   go_roundg (p.length- (j+1))
   case measure=>omega
   case rel=>exact⟨j+1,by omega,by go_num,acc,m,by omega,HK4,HB4,HE4⟩
  have hsd:ss.drop j=[]:=List.drop_eq_nil_of_le (by omega);have hsd2:ss.drop (j+1)=[]:=List.drop_eq_nil_of_le (by omega);have HE4:Hid (bW p ss n fs=gP n fs (p.drop (j+1)) (ss.drop (j+1)) acc):=by show _=_;rw[HE.out,hsd,hsd2,lq,lq]
  have HB4:Hid (Below w.heap.size w (wr.alloc (.cells #[.bool r.head.no,.string (bs r.head.name),.slice ta r.head.terms.length tc,.slice ba r.body.length bc] 82))):=aj HBr.out ((ak.refl _).alloc _).below hwr;have HK4:Hid (KnN (wr.alloc (.cells #[.bool r.head.no,.string (bs r.head.name),.slice ta r.head.terms.length tc,.slice ba r.body.length bc] 82)) w.heap.size m acc):=HK.out.later ((ak.refl _).alloc _);have TH:(ss.length:Int)≤(j:Int):=by omega
  clear hc hr htv hbv hpd hsd hsd2 HE hrm hsj;generalize bs r.head.name=nm at*;generalize r.head.no=no at*;go_wp2
  go_roundg (p.length- (j+1))
  case measure=>omega
  case rel=>exact⟨j+1,by omega,by go_num,acc,m,by omega,HK4,HB4,HE4⟩
 have hd:p.drop j=[]:=List.drop_eq_nil_of_le (by omega);have HX:Hid (bW p ss n fs=(0,iA acc)):=by show _=_;rw[HE.out,hd];rfl
 have HSt:=au (DK _ _ _ wr HK.out (by omega));clear hd HE
 go_wp2_with fail
 refine HSt.out.mono ?_;rintro e w6 ⟨v6,rfl,hF6,hB6⟩;have HT6:Hid (lT w6 v6 0 (bW p ss n fs)):=by show lT _ _ _ _;rw[HX.out];exact⟨rfl,fun h=>absurd rfl h,fun _=>hF6⟩
 have HB6:Hid (Below w.heap.size w w6):=aj HBr.out hB6 HBr.out.size;obtain⟨a6,c6,rfl⟩:=aF hF6;clear hF6 hB6;go_wp2;exact bodyPost_ret (v:=.tuple #[.slice a6 (iA acc).length c6,.int .i64 0]) (by simp[results,Tryz.results60,go_sem]) rfl ⟨_,0,rfl,HT6.out,HB6.out⟩
end Go.Proofs.YtaallngooaaonaaGreatDoor
