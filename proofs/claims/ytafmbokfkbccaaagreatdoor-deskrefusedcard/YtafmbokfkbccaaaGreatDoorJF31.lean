import Derived.Test.YtafmbokfkbccaaaGreatDoorJF27
import Derived.Test.YtafmbokfkbccaaaGreatDoorJF6
import Derived.Test.YtafmbokfkbccaaaGreatDoorJF23
import Derived.Test.YtafmbokfkbccaaaGreatDoorJF29
import Derived.Test.YtafmbokfkbccaaaGreatDoorJF30
import Derived.Test.YtafmbokfkbccaaaGreatDoorJF26
import Derived.Laws.StructEq
namespace Go.Proofs.YtafmbokfkbccaaaGreatDoor
theorem qH (φ:Prover):∀(l:List DoD) (d:dH),(eG φ d l).2.length=l.length
 |[],_=>rfl
 |x::l,d=>by simp[eG,qH φ l]
theorem CS (φ:Prover) (d:dH) (x:DoD) (h:(doP φ d x).2.err≠0∨x.kind=5∨x.kind=6):(doP φ d x).1=d:=by
 have runs:∀y,(ku d y).2.err≠0→(ku d y).1=d:=fun y hy=>by
  unfold ku at hy⊢;split
  ·rfl
  ·rename_i h1;rw[if_neg h1] at hy;exact absurd rfl hy
 by_cases k5:x.kind=5
 ·unfold doP;rw[if_neg (by omega),if_neg (by omega),if_neg (by omega),if_neg (by omega),if_pos k5]
 by_cases k6:x.kind=6
 ·unfold doP;rw[if_neg (by omega),if_neg (by omega),if_neg (by omega),if_neg (by omega),if_neg (by omega),if_pos k6]
 have he:(doP φ d x).2.err≠0:=by
  rcases h with h|h|h
  ·exact h
  ·exact absurd h k5
  ·exact absurd h k6
 clear h;unfold doP at he⊢
 by_cases k1:x.kind=1
 ·rw[if_pos k1] at he⊢;unfold rO at he⊢;split
  ·rfl
  ·rename_i h1;rw[if_neg h1] at he;split
   ·rfl
   ·rename_i h2;rw[if_neg h2] at he;exact absurd rfl he
 rw[if_neg k1] at he⊢
 by_cases k2:x.kind=2
 ·rw[if_pos k2] at he⊢;unfold rP at he⊢;split
  ·rfl
  ·rename_i h1;rw[if_neg h1] at he;split
   ·rfl
   ·rename_i h2;rw[if_neg h2] at he;exact absurd rfl he
 rw[if_neg k2] at he⊢
 by_cases k3:x.kind=3
 ·rw[if_pos k3] at he⊢;exact runs _ he
 rw[if_neg k3] at he⊢
 by_cases k4:x.kind=4
 ·rw[if_pos k4] at he⊢;unfold vF at he⊢;split
  ·rfl
  ·rename_i h1;rw[if_neg h1] at he;exact runs _ he
 rw[if_neg k4,if_neg k5,if_neg k6] at he⊢
 by_cases k7:x.kind=7
 ·rw[if_pos k7] at he⊢;unfold rQ at he⊢;split
  ·rfl
  ·rename_i h1;rw[if_neg h1] at he;split
   ·rfl
   ·rename_i h2;rw[if_neg h2] at he;exact absurd rfl he
 rw[if_neg k7] at he⊢
 by_cases k8:x.kind=8
 ·rw[if_pos k8] at he⊢;unfold yP at he⊢;split
  ·rfl
  ·rename_i h1;rw[if_neg h1] at he;exact runs _ he
 rw[if_neg k8]
def jK:List DoD→List pV→List DoD
 |x::l,a::as'=>if a.err=0∧x.kind≠5∧x.kind≠6 then x::jK l as' else jK l as'
 |_,_=>[]
theorem uM (φ:Prover):∀(l:List DoD) (d:dH),(eG φ d (jK l (eG φ d l).2)).1=(eG φ d l).1∧∀a∈(eG φ d (jK l (eG φ d l).2)).2,a.err=0
 |[],d=>⟨rfl,fun a h=>by simp[eG,jK] at h⟩
 |x::l,d=>by
  by_cases hx:(doP φ d x).2.err=0∧x.kind≠5∧x.kind≠6
  ·have h:=uM φ l (doP φ d x).1;simp only[eG,jK,if_pos hx];refine⟨h.1,fun a ha=> ?_⟩;rcases List.mem_cons.1 ha with rfl|ha
   ·exact hx.1
   ·exact h.2 a ha
  ·have e:(doP φ d x).1=d:=CS φ d x (by
    by_cases h0:(doP φ d x).2.err=0
    ·by_cases h5:x.kind=5
     ·exact Or.inr (Or.inl h5)
     ·exact Or.inr (Or.inr (Classical.byContradiction fun h6=>hx ⟨h0,h5,h6⟩))
    ·exact Or.inl h0)
   have h:=uM φ l d;simp only[eG,jK,if_neg hx,e];exact h
end Go.Proofs.YtafmbokfkbccaaaGreatDoor
namespace Go.Proofs.YtafmbokfkbccaaaGreatDoor
open Go.RowKit Go.Sort
set_option maxHeartbeats 1000000 in
theorem Nj (v1 v2:Value) (l:List aH) (w:World) (h1:Facts w v1 l) (h2:Facts w v2 l):
  Calls Tryz.prog 38 #[v1,v2] w fun e w'=>e=.returned (.bool true)∧Later w w':=by
 have mx:=mixed;have H1:=hide h1;have H2:=hide h2;obtain⟨a,cap,rfl,hn,hz⟩:=h1.addr;obtain⟨a2,cap2,rfl,_,hz2⟩:=h2.addr;clear h1 h2
 go_enter Tryz.func38,Tryz.ntmps38
 go_wp2
 go_loopw [13] (fun i wr=>∃k:Nat,k≤l.length∧i=.int .i64 k∧Later w wr) (fun i _=>l.length- (intOf i).toNat)
 case atStart=>exact⟨0,by omega,rfl,Later.refl _⟩
 case round=>
  obtain⟨k,hk,rfl,hL⟩:=hrel
  by_cases hlt:k<l.length
  ·rcases hz with rfl|⟨b,off,rfl⟩
   ·simp at hlt
   rcases hz2 with rfl|⟨b2,off2,rfl⟩
   ·simp at hlt
   have hltz:(k:Int)<(l.length:Int):=by omega
   obtain⟨ax,lx,cx,g1,g2,fx⟩:=(H1.out.later hL).grown hlt;obtain⟨ay,ly,cy,g3,g4,fy⟩:=(H2.out.later hL).grown hlt;have hE:∀q os,Calls Tryz.prog 64 #[.agg #[.string (l.getD k aC).1,.slice ax lx cx],.agg #[.string (l.getD k aC).1,.slice ay ly cy]] (grow (wr.drewN q) os) fun e w''=>e=.returned (.bool true)∧Later (grow (wr.drewN q) os) w'':=
    fun q os=>(Oe _ _ _ _ _ (fx.later ⟨q,os,rfl⟩) (fy.later ⟨q,os,rfl⟩)).mono fun e w' ⟨he,hw⟩=>⟨by rw[he,r9.2 rfl],hw⟩
   have HE:=hide hE;clear hE fx fy;generalize(l.getD k aC).1=nk at*;go_wp2
   go_quiet_grown ((go_at_call 64;exact Calls.grown_of (HE.out _ _)))
   go_wp2
   go_roundw
   case rel=>exact⟨k+1,by omega,by go_num,hL.trans ⟨_,_,rfl⟩⟩
   case measure=>simp[intOf];omega
  ·go_wp2;go_ret;exact⟨rfl,hL⟩
end Go.Proofs.YtafmbokfkbccaaaGreatDoor
namespace Go.Proofs.YtafmbokfkbccaaaGreatDoor
open Go.RowKit Go.Sort Go.Maps
def Wm : List aB :=
  [⟨⟨false, [116], [(true, [88]), (true, [89])]⟩, [⟨false, [101], [(true, [88]), (true, [89])]⟩]⟩,
   ⟨⟨false, [116], [(true, [88]), (true, [90])]⟩, [⟨false, [116], [(true, [88]), (true, [89])]⟩, ⟨false, [101], [(true, [89]), (true, [90])]⟩]⟩]
def Wn:List au:=[(kb [101],[kb [97],kb [98]])]
def Uq:List au:=[(kb [101],[kb [97],kb [98]]),(kb [116],[kb [97],kb [98]])]
def Xw:Bs:=[116,40,88,44,89,41,32,58,45,32,101,40,88,44,89,41,46,32,116,40,88,44,90,41,32,58,45,32,116,40,88,44,89,41,44,32,101,40,89,44,90,41,46]
def Xx:gH:=⟨Uq,Uq,1,2,true⟩
set_option maxRecDepth 100000 in
set_option maxHeartbeats 2000000 in
theorem Nk (r:gH) (v1 v2:Value) (w:World) (h1:O8 w v1 r) (h2:O8 w v2 r):
  Calls Tryz.prog 29 #[v1,v2] w fun e w'=>e=.returned (.bool true)∧Later w w':=by
 obtain⟨kv,nv,rfl,hk1,hn1⟩:=h1;obtain⟨kv',nv',rfl,hk2,hn2⟩:=h2;obtain⟨ka,kc,rfl⟩:=aA hk1;obtain⟨na,nc,rfl⟩:=aA hn1;obtain⟨xa,xc,rfl⟩:=aA hk2;obtain⟨ya,yc,rfl⟩:=aA hn2;obtain⟨wb,hwb⟩:∃wb,wb=(w.alloc (.cells #[.slice ka r.known.length kc,.slice na r.fresh.length nc,.int .i64 r.level,.int .i64 r.rounds,.bool r.done] 47)).alloc (.cells #[.slice xa r.known.length xc,.slice ya r.fresh.length yc,.int .i64 r.level,.int .i64 r.rounds,.bool r.done] 47):=⟨_,rfl⟩;have hLb:Later w wb:=by rw[hwb];exact((Later.refl w).alloc _).alloc _
 have hzb:wb.heap.size=w.heap.size+2:=by rw[hwb];simp
 have hr1:wb.heap[w.heap.size]?=some (.cells #[.slice ka r.known.length kc,.slice na r.fresh.length nc,.int .i64 r.level,.int .i64 r.rounds,.bool r.done] 47 (0,0)):=by
  rw[hwb,Below.heap_alloc _ _ _ (by simp)];exact heap_alloc_new w _
 have hr2:wb.heap[w.heap.size+1]?=some (.cells #[.slice xa r.known.length xc,.slice ya r.fresh.length yc,.int .i64 r.level,.int .i64 r.rounds,.bool r.done] 47 (0,0)):=by
  have:=heap_alloc_new (w.alloc (.cells #[.slice ka r.known.length kc,.slice na r.fresh.length nc,.int .i64 r.level,.int .i64 r.rounds,.bool r.done] 47)) (.cells #[.slice xa r.known.length xc,.slice ya r.fresh.length yc,.int .i64 r.level,.int .i64 r.rounds,.bool r.done] 47);rw[hwb];simpa using this
 have HS1:=hide (Nj _ _ r.known wb (hk1.later hLb) (hk2.later hLb));have HN1:=hide (hn1.later hLb);have HN2:=hide (hn2.later hLb);have HR1:=hide hr1;have HR2:=hide hr2;have HL:=hide hLb;have HW:=hide hwb;clear hk1 hn1 hk2 hn2 hLb hr1 hr2 hwb
 go_enter Tryz.func29,Tryz.ntmps29
 go_wp2_with fail
 rw[←HW.out];refine HS1.out.mono ?_;rintro e w1 ⟨rfl,hL1⟩;have hr1:w1.heap[w.heap.size]?=some (.cells #[.slice ka r.known.length kc,.slice na r.fresh.length nc,.int .i64 r.level,.int .i64 r.rounds,.bool r.done] 47 (0,0)):=by rw[hL1.block (by omega)];exact HR1.out
 have hr2:w1.heap[w.heap.size+1]?=some (.cells #[.slice xa r.known.length xc,.slice ya r.fresh.length yc,.int .i64 r.level,.int .i64 r.rounds,.bool r.done] 47 (0,0)):=by rw[hL1.block (by omega)];exact HR2.out
 obtain⟨b0,b1,b2,b3,b4,_,_⟩:=dJ hr1;obtain⟨q0,q1,q2,q3,q4,_,_⟩:=dJ hr2;have HS2:=hide (Nj _ _ r.fresh w1 (HN1.out.later hL1) (HN2.out.later hL1));have Ur:=hide hr1;have Us:=hide hr2;have HL1:=hide (HL.out.trans hL1);have hz1:=hL1.size;clear hL1 hr1 hr2 HS1 HR1 HR2 HN1 HN2 HW
 go_wp2_with fail
 refine HS2.out.mono ?_;rintro e w2 ⟨rfl,hL2⟩;clear b0 b1 b2 b3 b4 q0 q1 q2 q3 q4;have hr1:w2.heap[w.heap.size]?=some (.cells #[.slice ka r.known.length kc,.slice na r.fresh.length nc,.int .i64 r.level,.int .i64 r.rounds,.bool r.done] 47 (0,0)):=by rw[hL2.block (by omega)];exact Ur.out
 have hr2:w2.heap[w.heap.size+1]?=some (.cells #[.slice xa r.known.length xc,.slice ya r.fresh.length yc,.int .i64 r.level,.int .i64 r.rounds,.bool r.done] 47 (0,0)):=by rw[hL2.block (by omega)];exact Us.out
 obtain⟨b0,b1,b2,b3,b4,_,_⟩:=dJ hr1;obtain⟨q0,q1,q2,q3,q4,_,_⟩:=dJ hr2;have HL2:=hide (HL1.out.trans hL2);clear hr1 hr2 hL2 HS2 Ur Us;go_wp2;go_ret;exact⟨by simp,HL2.out⟩
end Go.Proofs.YtafmbokfkbccaaaGreatDoor
namespace Go.Proofs.YtafmbokfkbccaaaGreatDoor
open Go.RowKit Go.Sort
theorem P8 (a b:Bs):((bs a).toList==(bs b).toList)=decide (a=b):=by
 rw[Bool.eq_iff_iff,beq_iff_eq,decide_eq_true_iff];exact⟨fun h=>qL (toList_inj h),fun h=>by rw[h]⟩
theorem Nl (x y:dD) (w:World):(binOp .neq 187 (.agg #[.bool x.1,.string (bs x.2)]) (.agg #[.bool y.1,.string (bs y.2)])).run Tryz.prog w=.ok (.bool (!decide (x=y))) w:=by
 have e:decide (x=y)=(x.1==y.1&&(bs x.2).toList==(bs y.2).toList):=by
  rw[P8];obtain⟨x1,x2⟩:=x;obtain⟨y1,y2⟩:=y;rw[Bool.eq_iff_iff];simp
 rw[e];generalize(bs x.2)=s;generalize(bs y.2)=u;generalize x.1=b;generalize y.1=c;go_simp
 by_cases h1:b=c <;> by_cases h2:s.toList=u.toList <;> simp[h1,h2]
theorem Bb {α:Type} [DecidableEq α] {x y:List α} {k:Nat} {a b:α} (hx:x[k]?=some a) (hy:y[k]?=some b):decide (x.drop k=y.drop k)=(decide (a=b)&&decide (x.drop (k+1)=y.drop (k+1))):=by
 obtain⟨h1,e1⟩:=List.getElem?_eq_some_iff.1 hx;obtain⟨h2,e2⟩:=List.getElem?_eq_some_iff.1 hy;rw[List.drop_eq_getElem_cons h1,List.drop_eq_getElem_cons h2,e1,e2,Bool.eq_iff_iff];simp
set_option maxHeartbeats 2000000 in
theorem DZ (a b:aF) (va vb:Value) (w:World) (ha:dF.sl bY w va a.terms) (hb:dF.sl bY w vb b.terms):
  Calls Tryz.prog 148 #[.agg #[.bool a.no,.string (bs a.name),va],.agg #[.bool b.no,.string (bs b.name),vb]] w fun e w'=>e=.returned (.bool (decide (a=b)))∧Later w w':=by
 obtain⟨a1,c1,rfl⟩:=Kind.slice ha;obtain⟨a2,c2,rfl⟩:=Kind.slice hb;have HA:=hide ha;have HB:=hide hb;have hla:=ha.1.1;have hlb:=hb.1.1;have F:Hid (decide (a=b)=(decide (a.no=b.no)&&decide (a.name=b.name)&&decide (a.terms=b.terms))):=by
  show _=_;obtain⟨x1,x2,x3⟩:=a;obtain⟨y1,y2,y3⟩:=b;rw[Bool.eq_iff_iff];simp[and_assoc]
 clear ha hb;have e2:=P8 a.name b.name
 by_cases h1:a.no=b.no
 ·by_cases h2:a.name=b.name
  ·by_cases h3:a.terms.length=b.terms.length
   ·have h3':((a.terms.length:Int)==b.terms.length)=true:=by rw[beq_iff_eq];omega
    rw[decide_eq_true h2] at e2;have F2:Hid (decide (a=b)=decide (a.terms.drop 0=b.terms.drop 0)):=by show _=_;rw[F.out,decide_eq_true h1,decide_eq_true h2];simp
    rw[h1,h3];generalize hx:a.terms=x at*;generalize hy:b.terms=y at*;clear hx hy F h2 h1;generalize bs a.name=na at*;generalize bs b.name=nb at*;generalize b.no=no at*
    go_enter Tryz.func148,Tryz.ntmps148
    go_wp2
    go_loopg [30] y.length (fun k i wr=>∃j:Nat,j+k=y.length∧i=.int .i64 j∧Later ((w.alloc (.cells #[.bool no,.string na,.slice a1 y.length c1] 85)).alloc (.cells #[.bool no,.string nb,.slice a2 y.length c2] 85)) wr∧decide (a=b)=decide (x.drop j=y.drop j))
    case atStart=>exact⟨0,by omega,rfl,Later.refl _,F2.out⟩
    case round=>
     obtain⟨j,hj,rfl,hL,hF⟩:=hrel;have HL:=hide hL;have HF:=hide hF;have hLw:Later w wr:=((Later.refl w).alloc _ |>.alloc _).trans hL;have HLw:=hide hLw;have z1:wr.cell? ⟨w.heap.size,2,none⟩=some (.slice a1 y.length c1):=by rw[hL.cell (by simp;omega)];simp
     have z2:wr.cell? ⟨w.heap.size+1,2,none⟩=some (.slice a2 y.length c2):=by
      rw[hL.cell (by simp)];have:(w.alloc (.cells #[.bool no,.string na,.slice a1 y.length c1] 85)).heap.size=w.heap.size+1:=by simp
      rw[←this];simp
     clear hL hF
     by_cases hlt:j<y.length
     ·obtain⟨y0,hy0⟩:∃x,y[j]?=some x:=⟨_,List.getElem?_eq_getElem hlt⟩;obtain⟨x0,hx0⟩:∃z,x[j]?=some z:=⟨_,List.getElem?_eq_getElem (by omega)⟩;obtain⟨b1,o1,_,rfl,hb1,rfl,hc1⟩:=Kind.dY HA.out hx0;obtain⟨b2,o2,_,rfl,hb2,rfl,hc2⟩:=Kind.dY HB.out hy0;have d0:wr.cell? ⟨b1,o1+j*2,none⟩=some (.bool x0.1):=by rw[hLw.cell hb1];exact hc1 0 _ rfl
      have d1:wr.cell? ⟨b1,o1+j*2+1,none⟩=some (.string (bs x0.2)):=by rw[hLw.cell hb1];exact hc1 1 _ rfl
      have g0:wr.cell? ⟨b2,o2+j*2,none⟩=some (.bool y0.1):=by rw[hLw.cell hb2];exact hc2 0 _ rfl
      have g1:wr.cell? ⟨b2,o2+j*2+1,none⟩=some (.string (bs y0.2)):=by rw[hLw.cell hb2];exact hc2 1 _ rfl
      have hjz:(j:Int)<(y.length:Int):=by omega
      have Kz:b1<wr.heap.size:=Nat.lt_of_lt_of_le hb1 hLw.size;have GV:b2<wr.heap.size:=Nat.lt_of_lt_of_le hb2 hLw.size;have hq:=Nl x0 y0;have HD:=hide (Bb hx0 hy0)
      by_cases hxy:x0=y0
      ·rw[decide_eq_true hxy] at HD hq;have HF2:Hid (decide (a=b)=decide (x.drop (j+1)=y.drop (j+1))):=by show _=_;rw[HF.out,HD.out];rfl
       clear hc1 hc2 hx0 hy0 hLw hxy HD HF;go_wp2
       go_quiet (fail)
       go_wp2
       go_roundg (y.length- (j+1))
       case measure=>omega
       case rel=>exact⟨j+1,by omega,by go_num,HL.out.drewN _,HF2.out⟩
      ·rw[decide_eq_false hxy] at HD hq;have HF2:Hid (decide (a=b)=false):=by show _=_;rw[HF.out,HD.out];rfl
       clear hc1 hc2 hx0 hy0 hLw hxy HD HF;go_wp2
       go_quiet (fail)
       go_wp2;go_ret;exact⟨bq HF2.out.symm,HLw.out.drewN _⟩
     ·have HF2:Hid (decide (a=b)=true):=by
       show _=_;rw[HF.out,List.drop_eq_nil_of_le (by omega),List.drop_eq_nil_of_le (by omega)];rfl
      go_wp2;go_ret;exact⟨bq HF2.out.symm,HLw.out⟩
   ·have h3':((a.terms.length:Int)==b.terms.length)=false:=by rw[beq_eq_false_iff_ne];omega
    rw[decide_eq_true h2] at e2;have F2:Hid (decide (a=b)=false):=by show _=_;rw[F.out,decide_eq_false (fun e=>h3 (by rw[e]):¬a.terms=b.terms)];simp
    clear F h2 h3;generalize bs a.name=na at*;generalize bs b.name=nb at*;rw[h1]
    go_enter Tryz.func148,Tryz.ntmps148
    go_wp2;go_ret;exact⟨bq F2.out.symm,((Later.refl w).alloc _).alloc _⟩
  ·rw[decide_eq_false h2] at e2;have F2:Hid (decide (a=b)=false):=by show _=_;rw[F.out,decide_eq_false h2];simp
   clear F h2;generalize bs a.name=na at*;generalize bs b.name=nb at*;rw[h1]
   go_enter Tryz.func148,Tryz.ntmps148
   go_wp2;go_ret;exact⟨bq F2.out.symm,((Later.refl w).alloc _).alloc _⟩
 ·have F2:Hid (decide (a=b)=false):=by show _=_;rw[F.out,decide_eq_false h1];simp
  have h1':(a.no==b.no)=false:=by simpa using h1
  clear F h1 e2;generalize bs a.name=na at*;generalize bs b.name=nb at*;generalize a.no=na' at*;generalize b.no=nb' at*
  go_enter Tryz.func148,Tryz.ntmps148
  go_wp2;go_ret;exact⟨bq F2.out.symm,((Later.refl w).alloc _).alloc _⟩
end Go.Proofs.YtafmbokfkbccaaaGreatDoor
