import Derived.Test.YtafmbokfkbccaaaGreatDoorJT18
import Derived.RegionTactic
import Derived.ChangeAlike
namespace Go.Proofs.YtafmbokfkbccaaaGreatDoor
open Go.RowKit Go.Sort Go.Maps
theorem Kind.qW {α:Type} {K:Kind α} {b:Nat} {w w':World} {v:Value} {l:List α} (h:K.sl bg w v l) (k:Below w.heap.size w w') (hb:w.heap.size≤b):K.sl (fun k=>k≠b) w' v l:=
 Kind.bM (Kind.TK h hb) k.size fun i hi _=>k.block i hi
theorem rP {p:List aD} {j:Nat} {r:aD} (h:p[j]?=some r) (m:dW) (i:Nat):iw m i (p.drop j)=if(aY m r).1=0 then iw (aY m r).2 (i+1) (p.drop (j+1)) else((aY m r).1,i):=by
 obtain⟨h1,e1⟩:=List.getElem?_eq_some_iff.1 h;rw[List.drop_eq_getElem_cons h1,e1];rfl
theorem oh {w:World} {g j:Nat} {cs:Array Value} {t:TypeId} {fr:Nat×Nat} (h:w.heap[g]?=some (.cells cs t fr)) (u:Value):(w.setCell ⟨g,j,none⟩ u).heap[g]?=some (.cells (cs.setIfInBounds j u) t fr):=by
 simp[World.setCell,Array.getElem?_modify,h]
theorem aS {w:World} {g:Nat} (j:Nat) {cs:Array Value} {t:TypeId} (h:w.heap[g]?=some (.cells cs t (0,0))):w.frozen? ⟨g,j,none⟩=false:=by
 simp[World.frozen?,h]
theorem dY {w:World} {R:Nat} {u0 u1:Value} {t:TypeId} {fr:Nat×Nat} (h:w.heap[R]?=some (.cells #[u0,u1] t fr)) (x y:Value):
  ((w.setCell ⟨R,0,none⟩ x).setCell ⟨R,1,none⟩ y).cell? ⟨R,0,none⟩=some x∧((w.setCell ⟨R,0,none⟩ x).setCell ⟨R,1,none⟩ y).cell? ⟨R,1,none⟩=some y:=by
 have h2:=oh (j:=1) (oh (j:=0) h x) y;exact⟨by rw[cell_of_row _ _ _ _ _ _ h2];rfl,by rw[cell_of_row _ _ _ _ _ _ h2];rfl⟩
theorem iJ {a b c d:Int} (h1:a=c) (h2:b=d):Ending.returned (.agg #[.int .i64 a,.int .i64 b])=Ending.returned (.agg #[.int .i64 c,.int .i64 d]):=by rw[h1,h2]
set_option maxRecDepth 100000 in
set_option maxHeartbeats 4000000 in
theorem QI (p:List aD) (v:Value) (w:World) (hv:eU.sl bg w v p):
  Calls Tryz.prog 117 #[v] w fun e w'=>e=.returned (.agg #[.int .i64 (dD p).1,.int .i64 ((dD p).2:Nat)])∧Below w.heap.size w w':=by
 obtain⟨sa,cap,rfl⟩:=Kind.slice hv;have hl0:=hv.1.1;have HV:=hide hv;clear hv
 by_cases h16:16<p.length
 ·have F:Hid (dD p=(5,0)):=by show _=_;unfold dD;rw[if_pos h16]
  go_enter Tryz.func117,Tryz.ntmps117
  go_wp2;exact bodyPost_ret (v:=.agg #[.int .i64 5,.int .i64 0]) (by simp[results,Tryz.results117,go_sem]) rfl ⟨by rw[F.out];rfl,((by repeat (first|exact Later.refl _|assumption|refine Later.drewN ?_ _|refine Later.drew ?_|refine Later.alloc ?_ _|refine Later.grow ?_ _)):Later w _).below⟩
 ·have F:Hid (dD p=iw (fun _=>none) 0 p):=by show _=_;unfold dD;rw[if_neg h16]
  have hmm:= @run_makeMap Tryz.prog
  go_enter Tryz.func117,Tryz.ntmps117
  go_wp2
  go_loopg [14] p.length (fun k i wr=>∃j:Nat,j+k=p.length∧i=.int .i64 j∧∃m,Hid (dD p=iw m j (p.drop j))∧Hid (eX wr (w.heap.size+1) (6*j) m)∧Hid (Below w.heap.size w wr)∧Hid (wr.heap[w.heap.size]?=some (.cells #[.int .i64 0,.int .i64 0] 75 (0,0)))∧w.heap.size+2≤wr.heap.size)
  case atStart=>
   refine⟨0,by omega,rfl,fun _=>none,F.out,?_,?_,?_,by simp⟩
   ·have:=kg.made Tryz.prog 9 3 (w.alloc (.cells #[.int .i64 0,.int .i64 0] 75));rw[World.size_alloc] at this;exact this
   ·exact(((Later.refl w).alloc _).alloc _).below
   ·show _=_;rw[Below.heap_alloc _ _ _ (by simp),heap_alloc_new]
  case round=>
   obtain⟨j,hj,rfl,m,HE,HM,HB,HR,hsz⟩:=hrel
   by_cases hlt:j<p.length
   ·obtain⟨r,hr⟩:∃x,p[j]?=some x:=⟨_,List.getElem?_eq_getElem hlt⟩;obtain⟨b1,o1,_,rfl,hb1,⟨sv,su,rfl,hsv,hsu⟩,hc⟩:=Kind.bQ HV.out hr;have d0:wr.cell? ⟨b1,o1+j*4,none⟩=some (.bool r.head.no):=by rw[HB.out.cell hb1];exact hc 0 _ rfl
    have d1:wr.cell? ⟨b1,o1+j*4+1,none⟩=some (.string (bs r.head.name)):=by rw[HB.out.cell hb1];exact hc 1 _ rfl
    have d2:wr.cell? ⟨b1,o1+j*4+2,none⟩=some sv:=by rw[HB.out.cell hb1];exact hc 2 _ rfl
    have d3:wr.cell? ⟨b1,o1+j*4+3,none⟩=some su:=by rw[HB.out.cell hb1];exact hc 3 _ rfl
    have hbr:b1<wr.heap.size:=by omega
    have hst:=rP hr m j;have hB1:Below w.heap.size w (wr.alloc (.cells #[.bool r.head.no,.string (bs r.head.name),sv,su] 87)):=HB.out.alloc HB.out.size _;have HC:Hid (Calls Tryz.prog 191 #[.agg #[.bool r.head.no,.string (bs r.head.name),sv,su],.map (some (w.heap.size+1))] (wr.alloc (.cells #[.bool r.head.no,.string (bs r.head.name),sv,su] 87)) fun e w2=>e=.returned (.int .i64 (aY m r).1)∧
      Hid (eX w2 (w.heap.size+1) (6*(j+1)) (aY m r).2)∧Hid (Below w.heap.size w w2)∧w2.heap[w.heap.size]?=some (.cells #[.int .i64 0,.int .i64 0] 75 (0,0))∧w.heap.size+2≤w2.heap.size):=
     (FC (w.heap.size+1) (6*j) m r sv su _ (HM.out.later ((Later.refl _).alloc _)) (Kind.qW hsv hB1 (by omega)) (Kind.qW hsu hB1 (by omega)) (by omega)).mono fun e w2 ⟨he,h1,h2⟩=>
      ⟨he,h1,aj hB1 (h2.below (n:=w.heap.size) (by omega) (by simp;omega)) (Nat.le_refl _),by rw[h2.block w.heap.size (by simp;omega) (by omega),Below.heap_alloc _ _ _ (by omega)];exact HR.out,by have:=h2.size;simp at this;omega⟩
    obtain⟨a2,c2,rfl⟩:=Kind.slice hsv;obtain⟨a3,c3,rfl⟩:=Kind.slice hsu;clear hc hr hsv hsu hB1 HM HB HR;generalize aY m r=wrr at*;obtain⟨ex,m2⟩:=wrr;dsimp only at*;generalize bs r.head.name=nm at*;generalize r.head.no=no at*
    by_cases h0:ex=0
    ·subst h0;have E2:Hid (dD p=iw m2 (j+1) (p.drop (j+1))):=by show _=_;rw[HE.out,hst];rfl
     clear hst HE
     go_wp2_with (go_at_call 191;refine HC.out.mono ?_;rintro e w2 ⟨rfl,hM2,hB2,hR2,hs2⟩;replace hR2:=hide hR2)
     go_roundg (p.length- (j+1))
     case measure=>omega
     case rel=>exact⟨j+1,by omega,by go_num,m2,E2,hM2,hB2,hR2,hs2⟩
    ·have E2:Hid (dD p=(ex,j)):=by show _=_;rw[HE.out,hst,if_neg h0]
     have hq:(ex != 0)=true:=by simpa using h0
     clear hst HE h0
     go_wp2_with (go_at_call 191;refine HC.out.mono ?_;rintro e w2 ⟨rfl,hM2,hB2,hR2,hs2⟩;have q0:w2.cell? ⟨w.heap.size,0,none⟩=some (.int .i64 0):=(by rw[cell_of_row _ _ _ _ _ _ hR2];rfl);have q1:w2.cell? ⟨w.heap.size,1,none⟩=some (.int .i64 0):=(by rw[cell_of_row _ _ _ _ _ _ hR2];rfl);have p0:w2.frozen? ⟨w.heap.size,0,none⟩=false:=aS 0 hR2;have p1:w2.frozen? ⟨w.heap.size,1,none⟩=false:=aS 1 hR2;replace hR2:=hide hR2)
     obtain⟨r0,r1⟩:=dY (bL hR2) (.int .i64 ex) (.int .i64 j);refine bodyPost_ret (v:=.agg #[.int .i64 ex,.int .i64 j]) (by simp[results,Tryz.results117,go_sem,r0,r1]) rfl ⟨iJ (by rw[E2.out]) (by rw[E2.out]),?_⟩;exact(hB2.out.setCell (Nat.le_refl _) _).setCell (Nat.le_refl _) _
   ·have E2:Hid (dD p=(0,0)):=by show _=_;rw[HE.out,List.drop_eq_nil_of_le (by omega)];rfl
    have hR2:=HR.out;have q0:wr.cell? ⟨w.heap.size,0,none⟩=some (.int .i64 0):=by rw[cell_of_row _ _ _ _ _ _ hR2];rfl
    have q1:wr.cell? ⟨w.heap.size,1,none⟩=some (.int .i64 0):=by rw[cell_of_row _ _ _ _ _ _ hR2];rfl
    have p0:wr.frozen? ⟨w.heap.size,0,none⟩=false:=aS 0 hR2;have p1:wr.frozen? ⟨w.heap.size,1,none⟩=false:=aS 1 hR2;clear hR2;go_wp2;obtain⟨r0,r1⟩:=dY HR.out (.int .i64 0) (.int .i64 0);refine bodyPost_ret (v:=.agg #[.int .i64 0,.int .i64 0]) (by simp[results,Tryz.results117,go_sem,r0,r1]) rfl ⟨iJ (by rw[E2.out]) (by rw[E2.out];rfl),?_⟩;exact(HB.out.setCell (Nat.le_refl _) _).setCell (Nat.le_refl _) _
end Go.Proofs.YtafmbokfkbccaaaGreatDoor
namespace Go.Proofs.YtafmbokfkbccaaaGreatDoor
open Go.RowKit Go.Sort Go.Maps
set_option maxRecDepth 100000 in
set_option maxHeartbeats 1000000 in
theorem Oe (b n c:Nat) (m:dW) (a:aI) (v:Value) (w:World) (h:eX w b n m) (hv:eH.sl bg w v a.terms) (hs:a.name.length≤maxLen) (hc:numOf m a.name≤c) (hcc:c≤1000000):
  Calls Tryz.prog 192 #[.map (some b),.agg #[.bool a.no,.string (bs a.name),v]] w fun e w'=>e=.returned (.int .i64 (behind m a:Nat))∧Later w w':=by
 obtain⟨sa,cap,rfl⟩:=Kind.slice hv;clear hv;have h1:=h.later ((Later.refl w).alloc (.cells #[.bool a.no,.string (bs a.name),.slice sa a.terms.length cap] 85));have hr:=kg.Iw (T:=193) h1 Tryz.underlying9 Tryz.underlying3 Tryz.underlying193 (lF _) hs;clear h h1;cases hm:m a.name with
 |none=>
  have e0:numOf m a.name=0:=by unfold numOf;rw[hm];rfl
  have F:Hid (behind m a=0):=by show _=_;unfold behind;rw[hm]
  rw[hm,e0] at hr;clear hm e0 hc;generalize bs a.name=nm at*;generalize a.no=no at*
  go_enter Tryz.func192,Tryz.ntmps192
  go_wp2;go_ret;exact⟨by rw[F.out];rfl,(Later.refl _).alloc _⟩
 |some k=>
  have e0:numOf m a.name=k:=by unfold numOf;rw[hm];rfl
  have F:Hid (behind m a=if a.no then k+1 else k):=by show _=_;unfold behind;rw[hm]
  rw[hm,e0] at hr;rw[e0] at hc;clear hm e0;generalize bs a.name=nm at*;generalize a.no=no at*;cases no
  ·go_enter Tryz.func192,Tryz.ntmps192
   go_wp2;go_ret;exact⟨by rw[F.out];rfl,(Later.refl _).alloc _⟩
  ·have F2:Hid (((behind m a:Nat):Int)=(k:Int)+1):=by show _=_;rw[F.out];simp
   go_enter Tryz.func192,Tryz.ntmps192
   go_wp2;go_ret;exact⟨by rw[F2.out];rfl,(Later.refl _).alloc _⟩
theorem AX {m:dW} {c:Nat} (h:∀s,numOf m s≤c) (a:aI):behind m a≤c+1:=by
 have:=h a.name;unfold numOf at this;unfold behind;cases hm:m a.name with
 |none=>simp
 |some k=>rw[hm] at this;simp at this;simp only;split <;> omega
theorem Cy {h:Bs} {x:dW×Bool} {c:Nat} (hc:∀s,numOf x.1 s≤c) (a:aI):∀s,numOf (bE h x a).1 s≤c+1:=by
 intro s;unfold bE;split
 ·show numOf (x.1.put _ _) s≤_;rw[gN];split
  ·exact AX hc a
  ·have:=hc s;omega
 ·have:=hc s;omega
theorem zk {l:List aI} {q:Nat} {a:aI} (h:l[q]?=some a) (s:Bs) (y:dW×Bool):(l.drop q).foldl (bE s) y=(l.drop (q+1)).foldl (bE s) (bE s y a):=by
 obtain⟨h1,e1⟩:=List.getElem?_eq_some_iff.1 h;rw[List.drop_eq_getElem_cons h1,e1];rfl
theorem AY {p:List aD} {j:Nat} {r:aD} (h:p[j]?=some r) (x:dW×Bool):liftAll x (p.drop j)=liftAll (gY x r) (p.drop (j+1)):=by
 obtain⟨h1,e1⟩:=List.getElem?_eq_some_iff.1 h;rw[List.drop_eq_getElem_cons h1,e1];rfl
def Lh (r:aD):Prop:=r.head.name.length≤maxLen∧r.body.length≤5∧∀a∈r.body,a.name.length≤maxLen
set_option maxRecDepth 100000 in
set_option maxHeartbeats 4000000 in
theorem Og (b n c:Nat) (m:dW) (p:List aD) (v:Value) (w:World) (h:eX w b n m) (hv:eU.sl (fun k=>k≠b) w v p) (hf:∀r∈p,Lh r) (hp:p.length≤16) (hc:∀s,numOf m s≤c) (hn:n≤100000) (hcc:c≤100000):
  Calls Tryz.prog 118 #[.map (some b),v] w fun e w'=>e=.returned (.bool (liftAll (m,false) p).2)∧eX w' b (n+80) (liftAll (m,false) p).1∧Tn b w w'∧∀s,numOf (liftAll (m,false) p).1 s≤c+80:=by
 have hbw:=h.lt;obtain⟨sa,cap,rfl⟩:=Kind.slice hv;have HV:=hide hv;have HF:=hide hf;have H0:=hide h;have HC0:=hide hc;clear hv hf h hc
 go_enter Tryz.func118,Tryz.ntmps118
 go_wp2
 go_loopg [5,13] p.length (fun k s5 i wr=>∃j:Nat,j+k=p.length∧i=.int .i64 j∧∃x:dW×Bool,s5=.bool x.2∧Hid (liftAll (m,false) p=liftAll x (p.drop j))∧Hid (eX wr b (n+5*j) x.1)∧Hid (Tn b w wr)∧Hid (∀s,numOf x.1 s≤c+5*j))
 case atStart=>exact⟨0,by omega,rfl,(m,false),rfl,(rfl:_=_),H0,Tn.refl _ _,HC0⟩
 case round=>
  obtain⟨j,hj,rfl,x,rfl,HE,HM,HT,HC⟩:=hrel;have hwr:=HT.out.size
  by_cases hlt:j<p.length
  ·obtain⟨r,hr⟩:∃x,p[j]?=some x:=⟨_,List.getElem?_eq_getElem hlt⟩;obtain⟨b1,o1,_,rfl,hb1,hbne,⟨sv,su,rfl,hsv,hsu⟩,hcl⟩:=Kind.DL HV.out hr;have d0:wr.cell? ⟨b1,o1+j*4,none⟩=some (.bool r.head.no):=by rw[HT.out.cell hb1 hbne];exact hcl 0 _ rfl
   have d1:wr.cell? ⟨b1,o1+j*4+1,none⟩=some (.string (bs r.head.name)):=by rw[HT.out.cell hb1 hbne];exact hcl 1 _ rfl
   have d2:wr.cell? ⟨b1,o1+j*4+2,none⟩=some sv:=by rw[HT.out.cell hb1 hbne];exact hcl 2 _ rfl
   have d3:wr.cell? ⟨b1,o1+j*4+3,none⟩=some su:=by rw[HT.out.cell hb1 hbne];exact hcl 3 _ rfl
   obtain⟨f1,f2,f3⟩:=HF.out r (List.mem_of_getElem? hr);have HS:=hide (AY hr x);obtain⟨a2,c2,rfl⟩:=Kind.slice hsv;obtain⟨a3,c3,rfl⟩:=Kind.slice hsu;have HSU:=hide hsu;have HF3:=hide f3;have hbl:r.body.length≤5:=f2;have hjp:j<16:=by omega
   have hbr:b1<wr.heap.size:=by omega
   clear hcl hr hsv hsu f3 f2;have ZQ:b<wr.heap.size:=by omega
   have HM1:=hide (HM.out.later ((Later.refl wr).alloc (.cells #[.bool r.head.no,.string (bs r.head.name),.slice a2 r.head.terms.length c2,.slice a3 r.body.length c3] 87)));have HT1:=hide (HT.out.alloc (.cells #[.bool r.head.no,.string (bs r.head.name),.slice a2 r.head.terms.length c2,.slice a3 r.body.length c3] 87));have HZ1:Hid ((wr.alloc (.cells #[.bool r.head.no,.string (bs r.head.name),.slice a2 r.head.terms.length c2,.slice a3 r.body.length c3] 87)).cell? ⟨wr.heap.size,1,none⟩=some (.string (bs r.head.name))):=by show _=_;simp
   have hR1:wr.heap.size<(wr.alloc (.cells #[.bool r.head.no,.string (bs r.head.name),.slice a2 r.head.terms.length c2,.slice a3 r.body.length c3] 87)).heap.size:=by simp
   generalize hnm:bs r.head.name=nm at*;have HNM:=hide hnm;clear hnm;generalize r.head.no=no at*;generalize hR:wr.heap.size=R at*;clear HM HT;go_wp2
   go_loopg [5,20] r.body.length (fun k s5 i wr2=>∃q:Nat,q+k=r.body.length∧i=.int .i64 q∧∃y:dW×Bool,s5=.bool y.2∧Hid (gY x r=(r.body.drop q).foldl (bE r.head.name) y)∧Hid (eX wr2 b (n+5*j+q) y.1)∧Hid (Tn b w wr2)∧R<wr2.heap.size∧wr2.cell? ⟨R,1,none⟩=some (.string nm)∧Hid (∀s,numOf y.1 s≤c+5*j+q))
   case atStart=>
    refine⟨0,by omega,rfl,x,rfl,(rfl:_=_),?_,?_,?_,?_,HC⟩
    ·first|exact HM1|(subst hR;exact HM1)
    ·first|exact HT1|(subst hR;exact HT1)
    ·first|exact hR1|(subst hR;exact hR1)
    ·first|exact HZ1.out|(subst hR;exact HZ1.out)
   case round=>
    obtain⟨q,hq,rfl,y,rfl,HE2,HMy,HTy,hRs,z1,HCy⟩:=hrel;clear HM1 HT1 HZ1 hR1 d0 d1 d2 d3;have hwr2:=HTy.out.size
    by_cases hlq:q<r.body.length
    ·obtain⟨a,ha⟩:∃x,r.body[q]?=some x:=⟨_,List.getElem?_eq_getElem hlq⟩;obtain⟨b2,o2,_,rfl,hb2,Oh,⟨tv,rfl,htv⟩,hcl⟩:=Kind.DL HSU.out ha;have d0:wr.cell? ⟨b2,o2+q*3,none⟩=some (.bool a.no):=by rw[HTy.out.cell hb2 Oh];exact hcl 0 _ rfl
     have d1:wr.cell? ⟨b2,o2+q*3+1,none⟩=some (.string (bs a.name)):=by rw[HTy.out.cell hb2 Oh];exact hcl 1 _ rfl
     have d2:wr.cell? ⟨b2,o2+q*3+2,none⟩=some tv:=by rw[HTy.out.cell hb2 Oh];exact hcl 2 _ rfl
     have Sk:b2<wr.heap.size:=by omega
     have hst:=zk ha r.head.name y;have hle:=Cy (h:=r.head.name) HCy.out a;have HLE:=hide hle;clear hle;have HBh:Hid (Calls Tryz.prog 192 #[.map (some b),.agg #[.bool a.no,.string (bs a.name),tv]] (wr.alloc (.cells #[.bool a.no,.string (bs a.name),tv] 85)) fun e w2=>e=.returned (.int .i64 (behind y.1 a:Nat))∧
       (Instr.lookup 193 (.map (some b)) (.string nm) false).run Tryz.prog w2=.ok (.int .i64 (numOf y.1 r.head.name:Nat)) w2∧Hid (eX w2 b (n+5*j+q) y.1)∧Hid (Tn b w w2)∧R<w2.heap.size∧w2.cell? ⟨R,1,none⟩=some (.string nm)):=by
      have hbz:b≠R:=by omega
      refine(Oe b (n+5*j+q) (c+5*j+q) y.1 a tv _ (HMy.out.later ((Later.refl _).alloc _)) (Kind.aF (Kind.dQ (Kind.rO htv HTy.out)) ((Later.refl _).alloc _).below) (HF3.out a (List.mem_of_getElem? ha)) (HCy.out a.name) (by omega)).mono fun e w2 ⟨he,hL⟩=> ?_;have hLL:=((Later.refl wr).alloc (.cells #[.bool a.no,.string (bs a.name),tv] 85)).trans hL;have hM2:=HMy.out.later hLL;refine⟨he,?_,hM2,HTy.out.trans (Tn.of_below hLL.below),Nat.lt_of_lt_of_le hRs hLL.size,by rw[hLL.cell (p:=⟨R,1,none⟩) hRs];exact z1⟩;rw[←HNM.out];exact kg.look (T:=193) hM2 Tryz.underlying9 Tryz.underlying3 Tryz.underlying193 (lF _) f1
     obtain⟨a4,c4,rfl⟩:=Kind.slice htv
     by_cases hlf:numOf y.1 r.head.name<behind y.1 a
     ·have E3:Hid (bE r.head.name y a=(y.1.put r.head.name (behind y.1 a),true)):=by show _=_;unfold bE;rw[if_pos hlf]
      have HST:Hid (∀w2,Hid (eX w2 b (n+5*j+q) y.1)→Hid (Tn b w w2)→R<w2.heap.size→w2.cell? ⟨R,1,none⟩=some (.string nm)→∃w3,(Instr.mapUpdate 193 (.map (some b)) (.string nm) (.int .i64 (behind y.1 a:Nat))).run Tryz.prog w2=.ok () w3∧Hid (eX w3 b (n+5*j+(q+1)) (y.1.put r.head.name (behind y.1 a)))∧Hid (Tn b w w3)∧R<w3.heap.size∧w3.cell? ⟨R,1,none⟩=some (.string nm)):=fun w2 hM2 hT2 hs2 hz2=>by
       have hbh:=AX HCy.out a;obtain⟨w3,hrun,hM3,hg⟩:=kg.store (T:=193) hM2.out Tryz.underlying9 Tryz.underlying3 Tryz.underlying193 (by simp[maxLen];omega) f1 (x:=behind y.1 a) (uI (by omega));rw[HNM.out] at hrun;exact⟨w3,hrun,hM3,hT2.out.trans (Tn.gG hg),Nat.lt_of_lt_of_le hs2 hg.size,by rw[(Tn.gG hg).cell (x:=⟨R,1,none⟩) hs2 (by show R≠b;omega)];exact hz2⟩
      have E4:Hid (gY x r=(r.body.drop (q+1)).foldl (bE r.head.name) (y.1.put r.head.name (behind y.1 a),true)):=by show _=_;rw[HE2.out,hst,E3.out]
      have TL:Hid (∀s,numOf (y.1.put r.head.name (behind y.1 a)) s≤c+5*j+(q+1)):=by intro s;have:=HLE.out s;rw[E3.out] at this;exact this
      have hlz:((numOf y.1 r.head.name:Nat):Int)<((behind y.1 a:Nat):Int):=by omega
      clear hcl ha htv hst HE2 HMy HTy HCy HLE E3 hlf;generalize y.1.put r.head.name (behind y.1 a)=m3 at*;generalize behind y.1 a=be at*;generalize numOf y.1 r.head.name=nu at*;generalize bs a.name=na at*;generalize a.no=an at*
      go_wp2_with (first
       |(go_at_call 192;refine HBh.out.mono ?_;rintro e w2 ⟨rfl,hlk,hM2,hT2,hs2,hz2⟩;obtain⟨w3,hup,hM3,hT3,hs3,hz3⟩:=HST.out w2 hM2 hT2 hs2 hz2;replace hlk:=hide hlk;replace hup:=hide hup;replace hz3:=hide hz3)
       |(at_lookup;refine bR _ rfl _ _ _ _ rfl _ _ _ rfl rfl (bL hlk) ?_)
       |(at_mapUpdate;refine aN _ rfl _ _ _ _ rfl _ _ _ _ rfl rfl rfl (bL hup) ?_)
       |go_in)
      go_roundg (r.body.length- (q+1))
      case measure=>omega
      case rel=>exact⟨q+1,by omega,by go_num,(m3,true),rfl,E4,hM3,hT3,hs3,bL hz3,TL⟩
     ·have E3:Hid (bE r.head.name y a=y):=by show _=_;unfold bE;rw[if_neg hlf]
      have E4:Hid (gY x r=(r.body.drop (q+1)).foldl (bE r.head.name) y):=by show _=_;rw[HE2.out,hst,E3.out]
      have TL:Hid (∀s,numOf y.1 s≤c+5*j+(q+1)):=by intro s;have:=HCy.out s;omega
      have hlz:¬((numOf y.1 r.head.name:Nat):Int)<((behind y.1 a:Nat):Int):=by omega
      clear hcl ha htv hst HE2 HMy HTy HCy HLE E3 hlf;generalize behind y.1 a=be at*;generalize numOf y.1 r.head.name=nu at*;generalize bs a.name=na at*;generalize a.no=an at*
      go_wp2_with (first
       |(go_at_call 192;refine HBh.out.mono ?_;rintro e w2 ⟨rfl,hlk,hM2,hT2,hs2,hz2⟩;replace hlk:=hide hlk)
       |(at_lookup;refine bR _ rfl _ _ _ _ rfl _ _ _ rfl rfl (bL hlk) ?_)
       |go_in)
      go_roundg (r.body.length- (q+1))
      case measure=>omega
      case rel=>exact⟨q+1,by omega,by go_num,y,rfl,E4,hM2.out.mono (by omega),hT2,hs2,hz2,TL⟩
    ·have E3:Hid (gY x r=y):=by show _=_;rw[HE2.out,List.drop_eq_nil_of_le (by omega)];rfl
     have E4:Hid (liftAll (m,false) p=liftAll y (p.drop (j+1))):=by show _=_;rw[HE.out,HS.out,E3.out]
     go_wp2
     go_roundg (p.length- (j+1))
     case measure=>omega
     case rel=>exact⟨j+1,by omega,by go_num,y,rfl,E4,HMy.out.mono (by omega),HTy,fun s=>by have:=HCy.out s;omega⟩
  ·have E2:Hid (liftAll (m,false) p=x):=by show _=_;rw[HE.out,List.drop_eq_nil_of_le (by omega)];rfl
   go_wp2;go_ret;exact⟨by rw[E2.out];rfl,by rw[E2.out];exact HM.out.mono (by omega),HT.out,by rw[E2.out];intro s;have:=HC.out s;omega⟩
end Go.Proofs.YtafmbokfkbccaaaGreatDoor
namespace Go.Proofs.YtafmbokfkbccaaaGreatDoor
open Go.RowKit Go.Sort Go.Maps
def lY:Kind Nat where
 size:=1
 is:=fun _ _ c n=>c=[.int .i64 (n:Int)]
 len:=fun h=>by subst h;rfl
 one:=fun h u hu=>by subst h;simp at hu;subst hu;rfl
 kept:=fun h _ _=>h
 mono:=fun h _=>h
theorem Oi:∃i,Tryz.prog.info? 3=some i∧i.zero=some (.int .i64 0)∧i.size=1∧i.bytes=8:=⟨Tryz.t3,by kernel_rfl,by kernel_rfl,by kernel_rfl,by kernel_rfl⟩
theorem xO {lo:Nat} {w:World} {v:Value} {l:List Nat} (h:lY.own 3 lo w v l) {x:Nat} (hl:l.length+1≤1099511627776) (hlo:lo≤w.heap.size):
  ∃v' w',(Builtin.append_ #[39,39] 39 #[v,.slice (some ⟨w.heap.size,0,none⟩) 1 1]).run Tryz.prog (w.alloc (.cells #[.int .i64 (x:Int)] 3))=.ok v' w'∧lY.own 3 lo w' v' (l++[x])∧(w.alloc (.cells #[.int .i64 (x:Int)] 3)).grownBy w' v.ownBlock:=by
 obtain⟨i,i1,i2,i3,i4⟩:=Oi;exact Kind.wT h Tryz.underlying39 i1 i2 i3 i4 rfl (by decide) (by decide) (c:=[.int .i64 (x:Int)]) rfl hl hlo
theorem AZ {p:List aD} {j:Nat} {r:aD} (h:p[j]?=some r) (m:dW):each m (p.take (j+1))=each m (p.take j)++[numOf m r.head.name]:=by
 rw[List.take_add_one,h];simp[each]
set_option maxRecDepth 100000 in
set_option maxHeartbeats 2000000 in
theorem TM (b n:Nat) (m:dW) (p:List aD) (v:Value) (w:World) (h:eX w b n m) (hv:eU.sl bg w v p) (hf:∀r∈p,Lh r) (hp:p.length≤16):
  Calls Tryz.prog 119 #[.map (some b),v] w fun e w'=>∃u,e=.returned u∧lY.own 3 w.heap.size w' u (each m p)∧Below w.heap.size w w':=by
 obtain⟨sa,cap,rfl⟩:=Kind.slice hv;have HV:=hide hv;have HF:=hide hf;have H0:=hide h;have hbw:=h.lt;clear hv hf h
 go_enter Tryz.func119,Tryz.ntmps119
 go_wp2
 go_loopg [5,10] p.length (fun k o i wr=>∃j:Nat,j+k=p.length∧i=.int .i64 j∧Hid (lY.own 3 w.heap.size wr o (each m (p.take j)))∧Hid (Below w.heap.size w wr))
 case atStart=>exact⟨0,by omega,rfl,lY.fF _ _ _,Below.refl _ _⟩
 case round=>
  obtain⟨j,hj,rfl,HO,HB⟩:=hrel;obtain⟨ao,co,rfl⟩:=Kind.aV HO.out;have hwr:=HB.out.size
  by_cases hlt:j<p.length
  ·obtain⟨r,hr⟩:∃x,p[j]?=some x:=⟨_,List.getElem?_eq_getElem hlt⟩;obtain⟨b1,o1,_,rfl,hb1,⟨sv,su,rfl,hsv,hsu⟩,hcl⟩:=Kind.bQ HV.out hr;have d0:wr.cell? ⟨b1,o1+j*4,none⟩=some (.bool r.head.no):=by rw[HB.out.cell hb1];exact hcl 0 _ rfl
   have d1:wr.cell? ⟨b1,o1+j*4+1,none⟩=some (.string (bs r.head.name)):=by rw[HB.out.cell hb1];exact hcl 1 _ rfl
   have d2:wr.cell? ⟨b1,o1+j*4+2,none⟩=some sv:=by rw[HB.out.cell hb1];exact hcl 2 _ rfl
   have d3:wr.cell? ⟨b1,o1+j*4+3,none⟩=some su:=by rw[HB.out.cell hb1];exact hcl 3 _ rfl
   have hbr:b1<wr.heap.size:=by omega
   have E:=hide (AZ hr m);have hlen:(each m (p.take j)).length=j:=by simp[each];omega
   have f1:=(HF.out r (List.mem_of_getElem? hr)).1;have hlk:=hide (kg.look (T:=193) ((H0.out.below HB.out).later ((Later.refl wr).alloc (.cells #[.bool r.head.no,.string (bs r.head.name),sv,su] 87))) Tryz.underlying9 Tryz.underlying3 Tryz.underlying193 (lF _) f1);have hOA:=Kind.dL HO.out ((Tn.refl b wr).alloc (.cells #[.bool r.head.no,.string (bs r.head.name),sv,su] 87)) hbw;obtain⟨v',w4,hrun,o4,g4⟩:=xO hOA (x:=numOf m r.head.name) (by rw[hlen];omega) (by simp;omega);have HO4:Hid (lY.own 3 w.heap.size w4 v' (each m (p.take (j+1)))):=by show lY.own _ _ _ _ _;rw[E.out];exact o4
   have HB4:Hid (Below w.heap.size w w4):=by
    refine aj ((HB.out.alloc hwr _).alloc (by simp;omega) _) ⟨g4.os,g4.tape,g4.output,g4.size,fun k hk=>g4.block k (by simp;omega) (fun e=> ?_)⟩ (Nat.le_refl _);have:=(Kind.bN hOA e.symm).1;omega
   rw[hlen] at hrun;simp only[World.size_alloc] at hrun
   replace hrun:=hide hrun
   rw[hlen];obtain⟨a2,c2,rfl⟩:=Kind.slice hsv;obtain⟨a3,c3,rfl⟩:=Kind.slice hsu;clear hcl hr hsv hsu hOA o4 g4 HO HB E f1;clear hlen;generalize numOf m r.head.name=nu at*;generalize bs r.head.name=nm at*;generalize r.head.no=no at*
   go_wp2_with (first
    |(at_lookup;refine bR _ rfl _ _ _ _ rfl _ _ _ rfl rfl (bL hlk) ?_)
    |(at_builtin;refine wpList_append_run rfl (.tmp 14) (.tmp 20) 39 rfl _ _ _ _ rfl rfl (bL hrun) ?_)
    |go_in)
   go_roundg (p.length- (j+1))
   case measure=>omega
   case rel=>exact⟨j+1,by omega,by go_num,HO4,HB4⟩
  ·have e:j=p.length:=by omega
   subst e;have HO2:Hid (lY.own 3 w.heap.size wr (.slice ao (each m (p.take p.length)).length co) (each m p)):=by have:=HO.out;rw[List.take_length] at this⊢;exact this
   go_wp2;go_ret;exact⟨_,rfl,HO2.out,HB.out⟩
theorem A8 (l:List aD):∀(m:dW) (i:Nat),(iw m i l).1=0→∀r∈l,Lh r:=by
 induction l with
 |nil=>intro m i _ r hr;cases hr
 |cons q l ih=>
  intro m i h r hr;unfold iw at h;split at h
  ·rename_i h0;rcases List.mem_cons.1 hr with rfl|hr
   ·unfold aY at h0;split at h0
    ·rename_i h1;split at h0
     ·cases h0
     ·split at h0
      ·rename_i h2;obtain⟨k1,k2⟩:=ji h2;exact⟨fE (bC h1).1,k1,fun a ha=>fE (bC (k2 a ha)).1⟩
      ·rename_i h2;exact absurd h0 h2
    ·rename_i h1;exact absurd h0 h1
   ·exact ih _ _ h r hr
  ·rename_i h0;exact absurd h h0
theorem uL {p:List aD} (h:(dD p).1=0):p.length≤16∧∀r∈p,Lh r:=by
 unfold dD at h;split at h
 ·cases h
 ·exact⟨by omega,A8 p _ _ h⟩
theorem A9 {p:List aD} {j:Nat} {r:aD} (h:p[j]?=some r) (m:dW):kC m (p.take (j+1))=(kC m (p.take j)).put r.head.name 0:=by
 rw[List.take_add_one,h];simp[kC,List.foldl_append]
theorem Kind.ny {α:Type} {K:Kind α} {lo R i:Nat} {w:World} {v:Value} {l:List α} (h:K.sl (From lo) w v l) (hR:R<lo) (x:Value):K.sl (From lo) (w.setCell ⟨R,i,none⟩ x) v l:=
 Kind.bM h (by rw[size_setCell];exact Nat.le_refl _) fun k _ hB=>heap_setCell_other _ _ _ (by have:lo≤k:=hB;show k≠R;omega)
set_option maxRecDepth 100000 in
set_option maxHeartbeats 4000000 in
theorem I8 (p:List aD) (v:Value) (w:World) (hv:eU.sl bg w v p):
  Calls Tryz.prog 65 #[v] w fun e w'=>∃u,e=.returned (.tuple #[u,.agg #[.int .i64 (aW p).2.1,.int .i64 ((aW p).2.2:Nat)]])∧lY.sl (From w.heap.size) w' u (aW p).1∧Below w.heap.size w w':=by
 obtain⟨sa,cap,rfl⟩:=Kind.slice hv;have HV:=hide hv;have hl0:=hv.1.1;have HW:Hid (Calls Tryz.prog 117 #[.slice sa p.length cap] (w.alloc (.cells #[.int .i64 0,.int .i64 0] 75)) fun e w2=>e=.returned (.agg #[.int .i64 (dD p).1,.int .i64 ((dD p).2:Nat)])∧Hid (Below w.heap.size w w2)∧w2.heap[w.heap.size]?=some (.cells #[.int .i64 0,.int .i64 0] 75 (0,0))∧w.heap.size<w2.heap.size):=
  (QI p _ _ (Kind.aF hv ((Later.refl w).alloc _).below)).mono fun e w2 ⟨he,hb⟩=>⟨he,aj ((Later.refl w).alloc _).below hb (by simp),by rw[hb.block w.heap.size (by simp),heap_alloc_new],by have:=hb.size;simp at this;omega⟩
 clear hv;have hmm:= @run_makeMap Tryz.prog;generalize hwp:dD p=wp at*;obtain⟨ex,ea⟩:=wp;dsimp only at*
 by_cases h0:ex=0
 ·subst h0;obtain⟨TN,FH⟩:=uL (p:=p) (by rw[hwp]);have HFi:=hide FH;have F:Hid (aW p=match fB p (p.length+1) (start p) with|some m=>(each m p,0,0)|none=>([],10,0)):=by
   show _=_;unfold aW;rw[hwp,if_pos rfl];cases fB p (p.length+1) (start p) <;> rfl
  clear hwp FH
  go_enter Tryz.func65,Tryz.ntmps65
  go_wp2_with (go_at_call 117;refine HW.out.mono ?_;rintro e w2 ⟨rfl,hB2,hR2,hs2⟩;replace hR2:=hide hR2)
  have hwz:=hB2.out.size
  go_loopg [17] p.length (fun k i wr=>∃j:Nat,j+k=p.length∧i=.int .i64 j∧Hid (eX wr (w2.heap.size+1) j (kC (fun _=>none) (p.take j)))∧Hid (Below w.heap.size w wr)∧Hid (wr.heap[w.heap.size]?=some (.cells #[.int .i64 0,.int .i64 0] 75 (0,0)))∧w2.heap.size+2≤wr.heap.size)
  case atStart=>
   refine⟨0,by omega,rfl,?_,?_,?_,by simp⟩
   ·have:=kg.made Tryz.prog 9 3 (w2.alloc (.cells #[.int .i64 0,.int .i64 (ea:Int)] 75));rw[World.size_alloc] at this;exact this
   ·exact(hB2.out.alloc hwz _).alloc (by simp;omega) _
   ·show _=_;rw[Below.heap_alloc _ _ _ (by simp;omega),Below.heap_alloc _ _ _ hs2];exact bL hR2
  case round=>
   obtain⟨j,hj,rfl,HM,HB,HR,hsz⟩:=hrel;clear hB2 hR2
   by_cases hlt:j<p.length
   ·obtain⟨r,hr⟩:∃x,p[j]?=some x:=⟨_,List.getElem?_eq_getElem hlt⟩;obtain⟨b1,o1,_,rfl,hb1,⟨sv,su,rfl,hsv,hsu⟩,hcl⟩:=Kind.bQ HV.out hr;have d0:wr.cell? ⟨b1,o1+j*4,none⟩=some (.bool r.head.no):=by rw[HB.out.cell hb1];exact hcl 0 _ rfl
    have d1:wr.cell? ⟨b1,o1+j*4+1,none⟩=some (.string (bs r.head.name)):=by rw[HB.out.cell hb1];exact hcl 1 _ rfl
    have d2:wr.cell? ⟨b1,o1+j*4+2,none⟩=some sv:=by rw[HB.out.cell hb1];exact hcl 2 _ rfl
    have d3:wr.cell? ⟨b1,o1+j*4+3,none⟩=some su:=by rw[HB.out.cell hb1];exact hcl 3 _ rfl
    have hbr:b1<wr.heap.size:=by omega
    have E:=hide (A9 hr (fun _=>none));have f1:=(HFi.out r (List.mem_of_getElem? hr)).1;obtain⟨w4,hup,hM4,hg⟩:=kg.store (T:=193) (HM.out.later ((Later.refl wr).alloc (.cells #[.bool r.head.no,.string (bs r.head.name),sv,su] 87))) Tryz.underlying9 Tryz.underlying3 Tryz.underlying193 (by simp[maxLen];omega) f1 (x:=0) (uI (by omega));have hgs:=hg.size;simp only[World.size_alloc] at hgs;have HM4:Hid (eX w4 (w2.heap.size+1) (j+1) (kC (fun _=>none) (p.take (j+1)))):=by show eX _ _ _ _;rw[E.out];exact hM4
    have HB4:Hid (Below w.heap.size w w4):=aj (HB.out.alloc HB.out.size _) ((Tn.gG hg).below (n:=w.heap.size) (by omega) (by simp;omega)) (Nat.le_refl _);have HR4:Hid (w4.heap[w.heap.size]?=some (.cells #[.int .i64 0,.int .i64 0] 75 (0,0))):=by
     show _=_;rw[(Tn.gG hg).block w.heap.size (by simp;omega) (by omega),Below.heap_alloc _ _ _ (by omega)];exact HR.out
    have hs4:w2.heap.size+2≤w4.heap.size:=by omega
    have Yv:Hid ((Instr.mapUpdate 193 (.map (some (w2.heap.size+1))) (.string (bs r.head.name)) (.int .i64 0)).run Tryz.prog (wr.alloc (.cells #[.bool r.head.no,.string (bs r.head.name),sv,su] 87))=.ok () w4):=hup;obtain⟨a2,c2,rfl⟩:=Kind.slice hsv;obtain⟨a3,c3,rfl⟩:=Kind.slice hsu;clear hcl hr hsv hsu hM4 hg hup HM HB HR E f1 hgs;generalize bs r.head.name=nm at*;generalize r.head.no=no at*
    go_wp2_with (first
     |(at_mapUpdate;refine aN _ rfl _ _ _ _ rfl _ _ _ _ rfl rfl rfl (bL Yv) ?_)
     |go_in)
    go_roundg (p.length- (j+1))
    case measure=>omega
    case rel=>exact⟨j+1,by omega,by go_num,HM4,HB4,HR4,hs4⟩
   ·have e:j=p.length:=by omega
    subst e;have HM2:Hid (eX wr (w2.heap.size+1) (16+80*0) (start p)):=by have:=HM.out;rw[List.take_length] at this;exact this.mono (by omega)
    have HN2:Hid (∀s,numOf (start p) s≤80*0):=fun s=>by rw[qE];exact Nat.zero_le _
    clear HM;go_wp2
    go_loopg [29] (p.length+1) (fun k i wr2=>∃t:Nat,t+k=p.length+1∧i=.int .i64 t∧∃m,Hid (fB p (p.length+1) (start p)=fB p k m)∧Hid (eX wr2 (w2.heap.size+1) (16+80*t) m)∧Hid (∀s,numOf m s≤80*t)∧Hid (Below w.heap.size w wr2)∧Hid (wr2.heap[w.heap.size]?=some (.cells #[.int .i64 0,.int .i64 0] 75 (0,0)))∧w2.heap.size+2≤wr2.heap.size)
    case atStart=>exact⟨0,by omega,rfl,start p,(rfl:_=_),HM2,HN2,HB,HR,hsz⟩
    case round=>
     obtain⟨t,ht,rfl,m,HE,HMt,HNt,HBt,HRt,hst⟩:=hrel;clear HM2 HN2 HB HR hsz
     by_cases hlt:t<p.length+1
     ·obtain⟨k,rfl⟩:∃k',gk=k'+1:=⟨p.length-t,by omega⟩;have HL:Hid (Calls Tryz.prog 118 #[.map (some (w2.heap.size+1)),.slice sa p.length cap] wr fun e w5=>e=.returned (.bool (liftAll (m,false) p).2)∧Hid (eX w5 (w2.heap.size+1) (16+80*(t+1)) (liftAll (m,false) p).1)∧Hid (∀s,numOf (liftAll (m,false) p).1 s≤80*(t+1))∧Hid (Below w.heap.size w w5)∧Hid (w5.heap[w.heap.size]?=some (.cells #[.int .i64 0,.int .i64 0] 75 (0,0)))∧w2.heap.size+2≤w5.heap.size):=
       (Og _ _ (80*t) m p _ wr HMt.out (Kind.qW HV.out HBt.out (by omega)) HFi.out TN HNt.out (by omega) (by omega)).mono fun e w5 ⟨he,h1,h2,h3⟩=>
        ⟨he,h1.mono (by omega),fun s=>by have:=h3 s;omega,aj HBt.out (h2.below (n:=w.heap.size) (by omega) (by omega)) (Nat.le_refl _),by show _=_;rw[h2.block w.heap.size (by omega) (by omega)];exact HRt.out,by have:=h2.size;omega⟩
      have hgo:fB p (k+1) m=if(liftAll (m,false) p).2 then fB p k (liftAll (m,false) p).1 else some (liftAll (m,false) p).1:=rfl;clear HMt HNt HBt HRt;generalize liftAll (m,false) p=la at*;obtain⟨m2,lb⟩:=la;dsimp only at*;cases lb
      ·have F2:Hid (aW p=(each m2 p,0,0)):=by show _=_;rw[F.out,HE.out,hgo];rfl
       have HEa:Hid (∀w5,Hid (eX w5 (w2.heap.size+1) (16+80*(t+1)) m2)→Hid (Below w.heap.size w w5)→Hid (w5.heap[w.heap.size]?=some (.cells #[.int .i64 0,.int .i64 0] 75 (0,0)))→w2.heap.size+2≤w5.heap.size→Calls Tryz.prog 119 #[.map (some (w2.heap.size+1)),.slice sa p.length cap] w5 fun e w6=>∃u,e=.returned u∧Hid (lY.sl (From (w.heap.size+1)) w6 u (each m2 p))∧Hid (Below w.heap.size w w6)∧w6.heap[w.heap.size]?=some (.cells #[.int .i64 0,.int .i64 0] 75 (0,0))):=fun w5 h1 h2 h3 h4=>
        (TM _ _ m2 p _ w5 h1.out (Kind.aF HV.out h2.out) HFi.out TN).mono fun e w6 ⟨u,he,ho,hb⟩=>
         ⟨u,he,Kind.bT (Kind.fA ho (by simp[each];omega)) fun k _ hk=>by have:w5.heap.size≤k:=hk;show w.heap.size+1≤k;omega,aj h2.out hb h2.out.size,by rw[hb.block w.heap.size (by omega)];exact h3.out⟩
       clear hgo HE F
       go_wp2_with (first
        |(go_at_call 118;refine HL.out.mono ?_;rintro e w5 ⟨rfl,hM5,hN5,hB5,hR5,hs5⟩)
        |(go_at_call 119;refine(HEa.out w5 hM5 hB5 hR5 hs5).mono ?_;rintro e w6 ⟨u,rfl,hU6,hB6,hR6⟩;have q0:w6.cell? ⟨w.heap.size,0,none⟩=some (.int .i64 0):=(by rw[cell_of_row _ _ _ _ _ _ hR6];rfl);have q1:w6.cell? ⟨w.heap.size,1,none⟩=some (.int .i64 0):=(by rw[cell_of_row _ _ _ _ _ _ hR6];rfl);have p0:w6.frozen? ⟨w.heap.size,0,none⟩=false:=aS 0 hR6;have p1:w6.frozen? ⟨w.heap.size,1,none⟩=false:=aS 1 hR6;replace hR6:=hide hR6))
       obtain⟨r0,r1⟩:=dY (bL hR6) (.int .i64 0) (.int .i64 0);refine bodyPost_ret (v:=.tuple #[u,.agg #[.int .i64 0,.int .i64 0]]) (by simp[results,Tryz.results65,go_sem,r0,r1]) rfl ⟨u,by rw[F2.out];rfl,?_,?_⟩
       ·rw[F2.out];exact Kind.bT (Kind.ny (Kind.ny hU6.out (Nat.lt_succ_self _) _) (Nat.lt_succ_self _) _) fun k _ hk=>by have:w.heap.size+1≤k:=hk;show w.heap.size≤k;omega
       ·exact(hB6.out.setCell (Nat.le_refl _) _).setCell (Nat.le_refl _) _
      ·have E2:Hid (fB p (p.length+1) (start p)=fB p k m2):=by show _=_;rw[HE.out,hgo];rfl
       clear hgo HE
       go_wp2_with (go_at_call 118;refine HL.out.mono ?_;rintro e w5 ⟨rfl,hM5,hN5,hB5,hR5,hs5⟩)
       go_roundg k
       case measure=>omega
       case rel=>exact⟨t+1,by omega,by go_num,m2,E2,hM5,hN5,hB5,hR5,hs5⟩
     ·obtain rfl:gk=0:=by omega
      have F2:Hid (aW p=([],10,0)):=by show _=_;rw[F.out,HE.out];rfl
      have hR6:=HRt.out;have q0:wr.cell? ⟨w.heap.size,0,none⟩=some (.int .i64 0):=(by rw[cell_of_row _ _ _ _ _ _ hR6];rfl);have q1:wr.cell? ⟨w.heap.size,1,none⟩=some (.int .i64 0):=(by rw[cell_of_row _ _ _ _ _ _ hR6];rfl);have p0:wr.frozen? ⟨w.heap.size,0,none⟩=false:=aS 0 hR6;have p1:wr.frozen? ⟨w.heap.size,1,none⟩=false:=aS 1 hR6;clear hR6;go_wp2;obtain⟨r0,r1⟩:=dY HRt.out (.int .i64 10) (.int .i64 0);refine bodyPost_ret (v:=.tuple #[.slice none 0 0,.agg #[.int .i64 10,.int .i64 0]]) (by simp[results,Tryz.results65,go_sem,r0,r1]) rfl ⟨.slice none 0 0,by rw[F2.out];rfl,by rw[F2.out];exact lY.eT _ _ _ _,?_⟩;exact(HBt.out.setCell (Nat.le_refl _) _).setCell (Nat.le_refl _) _
 ·have F:Hid (aW p=([],ex,ea)):=by show _=_;unfold aW;rw[hwp,if_neg h0]
  have hq:(ex != 0)=true:=by simpa using h0
  clear h0 hwp HV
  go_enter Tryz.func65,Tryz.ntmps65
  go_wp2_with (go_at_call 117;refine HW.out.mono ?_;rintro e w2 ⟨rfl,hB2,hR2,hs2⟩;have q0:w2.cell? ⟨w.heap.size,0,none⟩=some (.int .i64 0):=(by rw[cell_of_row _ _ _ _ _ _ hR2];rfl);have q1:w2.cell? ⟨w.heap.size,1,none⟩=some (.int .i64 0):=(by rw[cell_of_row _ _ _ _ _ _ hR2];rfl);have p0:w2.frozen? ⟨w.heap.size,0,none⟩=false:=aS 0 hR2;have p1:w2.frozen? ⟨w.heap.size,1,none⟩=false:=aS 1 hR2;replace hR2:=hide hR2)
  go_region
  go_wp2;obtain⟨r0,r1⟩:=dY (bL hR2) (.int .i64 ex) (.int .i64 (ea:Int));have hL:=((Later.refl ((w2.setCell ⟨w.heap.size,0,none⟩ (.int .i64 ex)).setCell ⟨w.heap.size,1,none⟩ (.int .i64 (ea:Int)))).alloc (.cells #[.int .i64 ex,.int .i64 (ea:Int)] 75)).drew;rw[←hL.cell (p:=⟨w.heap.size,0,none⟩) (by simp only[size_setCell];exact hs2)] at r0;rw[←hL.cell (p:=⟨w.heap.size,1,none⟩) (by simp only[size_setCell];exact hs2)] at r1;refine bodyPost_ret (v:=.tuple #[.slice none 0 0,.agg #[.int .i64 ex,.int .i64 (ea:Int)]]) (by simp[results,Tryz.results65,go_sem,r0,r1]) rfl ⟨.slice none 0 0,by rw[F.out],by rw[F.out];exact lY.eT _ _ _ _,?_⟩;exact aj ((hB2.out.setCell (Nat.le_refl _) _).setCell (Nat.le_refl _) _) hL.below (by simp only[size_setCell];exact Nat.le_of_lt hs2)
end Go.Proofs.YtafmbokfkbccaaaGreatDoor
namespace Go.Proofs.YtafmbokfkbccaaaGreatDoor
open Go.RowKit Go.Sort Go.Maps
def lZ (w:World) (v:Value) (er:Int) (a:Int×List au):Prop:=er=a.1∧(a.1≠0→v=.slice none 0 0)∧(a.1=0→Facts w v a.2)
theorem lG (n:Int) (fs:List au) (p:List aD) (acc:List au):gT n fs p [] acc=(0,iE acc):=by cases p <;> rfl
theorem FI {L:List au} (h:∀f∈L,mP f):∀f∈iE L,mP f:=fun f hf=>h f (iF.1 hf)
theorem lS {P:Program} {K E:TypeId} {L:List au} {b n:Nat} (w:World) {ops:Array Oper} {rest:List Oper} {o:Oper} {a:Act} {Q:Exit→Act→World→Prop} (hg:o.guard=none) (m:Operand) (t:TypeId)
  (hop:o.op=Op.call {callee:=Callee.builtin Builtin.len,args:=#[m],argTypes:=#[t]}) (ht:P.underlying t=some (.map K E)) (hm:a.eval m=.map (some b)) (h:gB P K w b n L)
  (hK:wpList P ops Q rest (a.put o.dst (.int .i64 ((iE L).length:Nat))) w):wpList P ops Q (o::rest) a w:=by
 refine wpList_plain hg fun K' hK'=> ?_;unfold Oper.wp;simp[execOp,hop,resolve,invoke,builtin,hm,h.len ht o.type,Result.andThen];exact hK' _ _ hK
set_option maxRecDepth 100000 in
set_option maxHeartbeats 4000000 in
theorem QJ (p:List aD) (ss:List Nat) (n:Int) (fs:List au) (pv sv fv:Value) (w:World) (hp:eU.sl bg w pv p) (hss:lY.sl bg w sv ss) (hf:Facts w fv fs) (h16:p.length≤16) (Oj:fs.length≤200)
  (hok:∀r∈p,pU r.body fs []=0) (hsh:∀r∈p,∀R,lM (fun _=>fs) r.body=some R→∀l∈R,∀f,bA r.head l=some f→mP f) (hfs:∀f∈fs,mP f):
  Calls Tryz.prog 125 #[pv,sv,.int .i64 n,fv] w fun e w'=>∃v' er,e=.returned (.tuple #[v',.int .i64 er])∧lZ w' v' er (bZ p ss n fs)∧Below w.heap.size w w':=by
 obtain⟨pa,pc,rfl⟩:=Kind.slice hp;obtain⟨sa,sc,rfl⟩:=Kind.slice hss;obtain⟨fa,fc,rfl⟩:=aC hf;have hsl:=hss.1.1;have HP:=hide hp;have HSS:=hide hss;have HF:=hide hf;have HOk:=hide hok;have HSh:=hide hsh;have hL1:Later w (w.alloc (.map #[] 0)):=(Later.refl w).alloc _;have HAd:=hide (zi w.heap.size 0 [] (.slice fa fs.length fc) fs (w.alloc (.map #[] 0)) (gB.made _ _ _) (hf.later hL1) hfs (by omega));have HL1:=hide hL1.below;have hmm:= @run_makeMap Tryz.prog;clear hp hss hf hok hsh hfs hL1
 go_enter Tryz.func125,Tryz.ntmps125
 go_wp2_with fail
 refine HAd.out.mono ?_;rintro e w2 ⟨⟨u2,rfl⟩,hK2,hT2⟩;have HK2:Hid (KnN w2 w.heap.size (0+fs.length) fs):=by show KnN _ _ _ _;simpa using hK2
 have HB2:Hid (Below w.heap.size w w2):=HL1.out.trans (hT2.below (Nat.le_refl _) (by simp));clear hK2 hT2 HAd HL1 hmm;go_wp2
 go_loopg [21] p.length (fun g i wr=>∃j:Nat,j+g=p.length∧i=.int .i64 j∧∃acc m,m≤200+20000*j∧Hid (KnN wr w.heap.size m acc)∧Hid (Below w.heap.size w wr)∧Hid (bZ p ss n fs=gT n fs (p.drop j) (ss.drop j) acc))
 case atStart=>exact⟨0,by omega,rfl,fs,_,by omega,HK2,HB2,(rfl:_=_)⟩
 case round=>
  clear HK2 HB2;obtain⟨j,hj,rfl,acc,m,hm,HK,HBr,HE⟩:=hrel
  by_cases hlt:j<p.length
  ·obtain⟨r,hr⟩:∃x,p[j]?=some x:=⟨_,List.getElem?_eq_getElem hlt⟩;have hrm:r∈p:=List.mem_of_getElem? hr;obtain⟨b1,o1,_,rfl,hb1,⟨tv,bv,rfl,htv,hbv⟩,hc⟩:=Kind.bQ HP.out hr;have d0:wr.cell? ⟨b1,o1+j*4,none⟩=some (.bool r.head.no):=by rw[HBr.out.cell (p:=⟨b1,o1+j*4,none⟩) hb1];exact hc 0 _ rfl
   have d1:wr.cell? ⟨b1,o1+j*4+1,none⟩=some (.string (bs r.head.name)):=by rw[HBr.out.cell (p:=⟨b1,o1+j*4+1,none⟩) hb1];exact hc 1 _ rfl
   have d2:wr.cell? ⟨b1,o1+j*4+2,none⟩=some tv:=by rw[HBr.out.cell (p:=⟨b1,o1+j*4+2,none⟩) hb1];exact hc 2 _ rfl
   have d3:wr.cell? ⟨b1,o1+j*4+3,none⟩=some bv:=by rw[HBr.out.cell (p:=⟨b1,o1+j*4+3,none⟩) hb1];exact hc 3 _ rfl
   have hpd:p.drop j=r::p.drop (j+1):=by
    obtain⟨h1,e1⟩:=List.getElem?_eq_some_iff.1 hr;rw[List.drop_eq_getElem_cons h1,e1]
   obtain⟨ta,tc,rfl⟩:=Kind.slice htv;obtain⟨ba,bc,rfl⟩:=Kind.slice hbv;have hwr:=HBr.out.size
   by_cases hsj:j<ss.length
   ·obtain⟨s,hs⟩:∃x,ss[j]?=some x:=⟨_,List.getElem?_eq_getElem hsj⟩;obtain⟨b2,o2,_,rfl,hb2,rfl,hc2⟩:=Kind.bQ HSS.out hs;have e0:wr.cell? ⟨b2,o2+j,none⟩=some (.int .i64 s):=by rw[HBr.out.cell (p:=⟨b2,o2+j,none⟩) hb2];simpa[lY] using hc2 0 _ rfl
    have hsd:ss.drop j=s::ss.drop (j+1):=by
     obtain⟨h1,e1⟩:=List.getElem?_eq_some_iff.1 hs;rw[List.drop_eq_getElem_cons h1,e1]
    have hstep:bZ p ss n fs=if(s:Int)=n then(match gy r fs with
      |none=>(4,[])
      |some x=>if 200<(iE (acc++x)).length then(5,[]) else gT n fs (p.drop (j+1)) (ss.drop (j+1)) (acc++x)) else gT n fs (p.drop (j+1)) (ss.drop (j+1)) acc:=by
     rw[HE.out,hpd,hsd];rfl
    have TP:(j:Int)<(ss.length:Int):=by omega
    have Yw:b2<wr.heap.size:=by omega
    by_cases hsn:(s:Int)=n
    ·rw[if_pos hsn] at hstep;obtain⟨wb,hwb⟩:∃wb,wb=wr.alloc (.cells #[.bool r.head.no,.string (bs r.head.name),.slice ta r.head.terms.length tc,.slice ba r.body.length bc] 87):=⟨_,rfl⟩;have hLb:Later wr wb:=by rw[hwb];exact(Later.refl _).alloc _
     have hBb:Below w.heap.size w wb:=aj HBr.out hLb.below hwr;have HH:=hide (QH r (.slice ta r.head.terms.length tc) (.slice ba r.body.length bc) (.slice fa fs.length fc) fs wb (Kind.aF htv hBb) (Kind.aF hbv hBb) (HF.out.below hBb) (HSh.out r hrm));have h0:=HOk.out r hrm;have VL:=HSh.out r hrm;have HKb:=hide (HK.out.later hLb);have HBb:=hide hBb;have HWb:=hide hwb;clear hc hc2 hr hs htv hbv hpd hsd HE hLb hBb hwb hrm;have hneq:((s:Int) != n)=false:=by simp[hsn]
     generalize bs r.head.name=nm at*;generalize hno:r.head.no=no at*;clear hno;subst hsn
     go_wp2_with fail
     rw[←HWb.out];refine HH.out.mono ?_;rintro e w3 ⟨v3,er,rfl,hT3,hB3⟩;unfold rM at hT3;rw[if_neg (by simp[h0])] at hT3;have HB3:Hid (Below w.heap.size w w3):=aj HBb.out hB3 HBb.out.size;have HK3:=hide (HKb.out.below hB3);clear hB3 HH HWb HKb HBb;cases hh:gy r fs with
     |none=>
      rw[hh] at hT3 hstep;obtain⟨rfl,rfl⟩:=hT3;have HT:Hid (∀w',lZ w' (.slice none 0 0) 4 (bZ p ss s fs)):=fun w'=>by rw[hstep];exact⟨rfl,fun _=>rfl,fun h=>by simp at h⟩
      clear hstep hh;go_wp2;exact bodyPost_ret (v:=.tuple #[.slice none 0 0,.int .i64 4]) (by simp[results,Tryz.results125,go_sem]) rfl ⟨_,4,rfl,HT.out _,HB3.out⟩
     |some x=>
      rw[hh] at hT3 hstep;obtain⟨rfl,hF3⟩:=hT3;have hxs:(∀f∈x,mP f)∧x.length≤20000:=by
       unfold gy at hh;cases hR:lM (fun _=>fs) r.body with
       |none=>rw[hR] at hh;cases hh
       |some R=>
        rw[hR] at hh;cases hh;refine⟨FI fun f hf=> ?_,Nat.le_trans (yN _) (Nat.le_trans (List.length_filterMap_le _ _) (ni hR))⟩;obtain⟨l,hl,hlf⟩:=List.mem_filterMap.1 hf;exact VL R hR l hl f hlf
      have hxl:=hxs.2;have HAd:=hide (zi w.heap.size m acc v3 x w3 HK3.out hF3 hxs.1 (by omega));obtain⟨xa,xc,rfl⟩:=aC hF3;dsimp only at hstep;have HST:=hide hstep;clear hF3 hxs hh hstep VL HK3
      go_wp2_with fail
      refine HAd.out.mono ?_;rintro e w4 ⟨⟨u4,rfl⟩,hK4,hT4⟩;have HB4:Hid (Below w.heap.size w w4):=HB3.out.trans (hT4.below (Nat.le_refl _) HB3.out.size);have HK4:=hide hK4;clear hK4 hT4 HAd
      by_cases hbig:200<(iE (acc++x)).length
      ·have HT:Hid (∀w',lZ w' (.slice none 0 0) 5 (bZ p ss s fs)):=fun w'=>by rw[HST.out,if_pos hbig];exact⟨rfl,fun _=>rfl,fun h=>by simp at h⟩
       have hbi:(200:Int)<((iE (acc++x)).length:Nat):=by omega
       clear HST hbig
       go_wp2_with (at_len;refine lS _ rfl _ 160 rfl Tryz.underlying160 rfl HK4.out ?_)
       exact bodyPost_ret (v:=.tuple #[.slice none 0 0,.int .i64 5]) (by simp[results,Tryz.results125,go_sem]) rfl ⟨_,5,rfl,HT.out _,HB4.out⟩
      ·have HE4:Hid (bZ p ss s fs=gT s fs (p.drop (j+1)) (ss.drop (j+1)) (acc++x)):=by show _=_;rw[HST.out,if_neg hbig]
       have hbi:¬(200:Int)<((iE (acc++x)).length:Nat):=by omega
       clear HST hbig
       go_wp2_with (at_len;refine lS _ rfl _ 160 rfl Tryz.underlying160 rfl HK4.out ?_)
       go_roundg (p.length- (j+1))
       case measure=>omega
       case rel=>exact⟨j+1,by omega,by go_num,acc++x,m+x.length,by omega,HK4,HB4,HE4⟩
    ·rw[if_neg hsn] at hstep;have HE4:Hid (bZ p ss n fs=gT n fs (p.drop (j+1)) (ss.drop (j+1)) acc):=hstep;have HB4:Hid (Below w.heap.size w (wr.alloc (.cells #[.bool r.head.no,.string (bs r.head.name),.slice ta r.head.terms.length tc,.slice ba r.body.length bc] 87))):=aj HBr.out ((Later.refl _).alloc _).below hwr;have HK4:Hid (KnN (wr.alloc (.cells #[.bool r.head.no,.string (bs r.head.name),.slice ta r.head.terms.length tc,.slice ba r.body.length bc] 87)) w.heap.size m acc):=HK.out.later ((Later.refl _).alloc _);have hneq:((s:Int) != n)=true:=by simpa using hsn
     clear hstep hc hc2 hr hs htv hbv hpd hsd HE hsn hrm;generalize bs r.head.name=nm at*;generalize r.head.no=no at*;go_wp2
     go_roundg (p.length- (j+1))
     case measure=>omega
     case rel=>exact⟨j+1,by omega,by go_num,acc,m,by omega,HK4,HB4,HE4⟩
   ·have hsd:ss.drop j=[]:=List.drop_eq_nil_of_le (by omega);have hsd2:ss.drop (j+1)=[]:=List.drop_eq_nil_of_le (by omega);have HE4:Hid (bZ p ss n fs=gT n fs (p.drop (j+1)) (ss.drop (j+1)) acc):=by show _=_;rw[HE.out,hsd,hsd2,lG,lG]
    have HB4:Hid (Below w.heap.size w (wr.alloc (.cells #[.bool r.head.no,.string (bs r.head.name),.slice ta r.head.terms.length tc,.slice ba r.body.length bc] 87))):=aj HBr.out ((Later.refl _).alloc _).below hwr;have HK4:Hid (KnN (wr.alloc (.cells #[.bool r.head.no,.string (bs r.head.name),.slice ta r.head.terms.length tc,.slice ba r.body.length bc] 87)) w.heap.size m acc):=HK.out.later ((Later.refl _).alloc _);have TP:(ss.length:Int)≤(j:Int):=by omega
    clear hc hr htv hbv hpd hsd hsd2 HE hrm hsj;generalize bs r.head.name=nm at*;generalize r.head.no=no at*;go_wp2
    go_roundg (p.length- (j+1))
    case measure=>omega
    case rel=>exact⟨j+1,by omega,by go_num,acc,m,by omega,HK4,HB4,HE4⟩
  ·have hd:p.drop j=[]:=List.drop_eq_nil_of_le (by omega);have HX:Hid (bZ p ss n fs=(0,iE acc)):=by show _=_;rw[HE.out,hd];rfl
   have HSt:=hide (DY _ _ _ wr HK.out (by omega));clear hd HE
   go_wp2_with fail
   refine HSt.out.mono ?_;rintro e w6 ⟨v6,rfl,hF6,hB6⟩;have HT6:Hid (lZ w6 v6 0 (bZ p ss n fs)):=by show lZ _ _ _ _;rw[HX.out];exact⟨rfl,fun h=>absurd rfl h,fun _=>hF6⟩
   have HB6:Hid (Below w.heap.size w w6):=aj HBr.out hB6 HBr.out.size;obtain⟨a6,c6,rfl⟩:=aC hF6;clear hF6 hB6;go_wp2;exact bodyPost_ret (v:=.tuple #[.slice a6 (iE acc).length c6,.int .i64 0]) (by simp[results,Tryz.results125,go_sem]) rfl ⟨_,0,rfl,HT6.out,HB6.out⟩
end Go.Proofs.YtafmbokfkbccaaaGreatDoor
