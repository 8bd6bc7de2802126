import Derived.Test.YtaallngooaaonaaGreatDoorJT34
import Derived.Test.YtaallngooaaonaaGreatDoorJT19
import Derived.Test.YtaallngooaaonaaGreatDoorJT33
import Derived.Test.YtaallngooaaonaaGreatDoorJT24
open Go.RowKit Go.Sort Go.Maps
set_option maxHeartbeats 4000000
set_option maxRecDepth 100000
namespace Go.Proofs.YtaallngooaaonaaGreatDoor
theorem Jp {a:aI} (h:aP a=0):Sw a:=by obtain⟨_,h2,h3⟩:=bB h;exact⟨by omega,fun t ht=>fC (h3 t ht)⟩
theorem xV (l:List aI) (v:Value) (w:World) (hv:bN.sl bf w v l) (hk:∀a∈l,CG a):
  Calls Tryz.prog 77 #[v] w fun e w'=>e=.returned (.int .i64 (aL l))∧Below w.heap.size w w':=by
 obtain⟨sa,cap,rfl⟩:=aB.slice hv;have hl0:=hv.1.1;have HV:=au hv;have HK:=au hk;clear hv hk
 by_cases h5:5<l.length
 ·have F:Hid (aL l=5):=by show _=_;unfold aL;rw[if_pos h5]
  go_enter Tryz.func77,Tryz.ntmps77
  go_wp2;go_ret;exact⟨by rw[F.out];rfl,Below.refl _ _⟩
 have F:Hid (aL l=if bH l=0 then(if l.all (fun a=>(vars a).all (givenBy l)) then 0 else 9) else bH l):=by show _=_;unfold aL;rw[if_neg h5]
 go_enter Tryz.func77,Tryz.ntmps77
 go_wp2
 go_loopg [13] l.length (fun k i wr=>∃j:Nat,j+k=l.length∧i=.int .i64 j∧Hid (bH l=bH (l.drop j))∧Hid (∀a∈l.take j,aP a=0)∧Hid (Below w.heap.size w wr))
 case atStart=>exact⟨0,by omega,rfl,(rfl:_=_),(fun a ha=>by simp at ha),Below.refl _ _⟩
 obtain⟨j,hj,rfl,HE,HG,HB⟩:=hrel;have hwr:=HB.out.size
 by_cases hlt:j<l.length
 ·obtain⟨x,hx⟩:∃x,l[j]?=some x:=⟨_,List.getElem?_eq_getElem hlt⟩;obtain⟨b1,o1,_,rfl,hb1,⟨sv,rfl,hsv⟩,hc⟩:=aB.bO HV.out hx;have d0:wr.cell? ⟨b1,o1+j*3,none⟩=some (.bool x.no):=by rw[HB.out.cell hb1];exact hc 0 _ rfl
  have d1:wr.cell? ⟨b1,o1+j*3+1,none⟩=some (.string (bs x.name)):=by rw[HB.out.cell hb1];exact hc 1 _ rfl
  have d2:wr.cell? ⟨b1,o1+j*3+2,none⟩=some sv:=by rw[HB.out.cell hb1];exact hc 2 _ rfl
  have hbr:b1<wr.heap.size:=by omega
  have hB1:Below w.heap.size w (wr.alloc (.cells #[.bool x.no,.string (bs x.name),sv] 79)):=HB.out.alloc HB.out.size _;have HC:Hid (Calls Tryz.prog 100 #[.agg #[.bool x.no,.string (bs x.name),sv]] (wr.alloc (.cells #[.bool x.no,.string (bs x.name),sv] 79)) fun e w2=>e=.returned (.int .i64 (aP x))∧Hid (Below w.heap.size w w2)):=
   (xU x sv _ (aB.aJ hsv hB1) (HK.out x (List.mem_of_getElem? hx))).mono fun e w2 ⟨he,hL⟩=>⟨he,aj hB1 hL.below (by simp;omega)⟩
  have hst:=mE hx;obtain⟨a2,c2,rfl⟩:=aB.slice hsv
  by_cases h0:aP x=0
  ·have HE1:Hid (bH l=bH (l.drop (j+1))):=by show _=_;rw[HE.out,hst,if_pos h0]
   have HG1:Hid (∀a∈l.take (j+1),aP a=0):=fun a ha=>by
    rw[List.take_add_one,hx] at ha;rcases List.mem_append.1 ha with ha|ha
    ·exact HG.out a ha
    simp at ha;rw[ha];exact h0
   rw[h0] at HC;clear hst hc hx hsv hB1 HE HG h0;generalize bs x.name=nm at*;generalize x.no=xn at*
   go_wp2_with (go_at_call 100;refine HC.out.mono ?_;rintro e w2 ⟨rfl,hB2⟩)
   go_roundg (l.length- (j+1))
   case measure=>omega
   case rel=>exact⟨j+1,by omega,by go_num,HE1,HG1,hB2⟩
  have F2:Hid (aL l=aP x):=by show _=_;rw[F.out,HE.out,hst,if_neg h0,if_neg h0]
  have hq:(aP x != 0)=true:=by simpa using h0
  clear hst hc hx hsv hB1 HE HG h0;generalize bs x.name=nm at*;generalize x.no=xn at*;generalize aP x=ex at*
  go_wp2_with (go_at_call 100;refine HC.out.mono ?_;rintro e w2 ⟨rfl,hB2⟩)
  go_ret;exact⟨by rw[F2.out];rfl,hB2.out⟩
 have e:j=l.length:=by omega
 subst e;have HG1:Hid (∀a∈l,aP a=0):=by have:=HG.out;rw[List.take_length] at this;exact this
 have F1:Hid (aL l=if l.all (fun a=>(vars a).all (givenBy l)) then 0 else 9):=by show _=_;rw[F.out,if_pos];rw[HE.out,List.drop_length];rfl
 clear HE HG F;go_wp2
 go_loopg [25] l.length (fun k i wr=>∃j:Nat,j+k=l.length∧i=.int .i64 j∧Hid (l.all (fun a=>(vars a).all (givenBy l))=(l.drop j).all (fun a=>(vars a).all (givenBy l)))∧Hid (Below w.heap.size w wr))
 case atStart=>exact⟨0,by omega,rfl,(rfl:_=_),HB⟩
 obtain⟨j,hj,rfl,HF,HBj⟩:=hrel;clear HB;have hwr2:=HBj.out.size
 by_cases hlt:j<l.length
 ·obtain⟨x,hx⟩:∃x,l[j]?=some x:=⟨_,List.getElem?_eq_getElem hlt⟩;obtain⟨b1,o1,_,rfl,hb1,⟨sv,rfl,hsv⟩,hc⟩:=aB.bO HV.out hx;have d0:wr.cell? ⟨b1,o1+j*3,none⟩=some (.bool x.no):=by rw[HBj.out.cell hb1];exact hc 0 _ rfl
  have d1:wr.cell? ⟨b1,o1+j*3+1,none⟩=some (.string (bs x.name)):=by rw[HBj.out.cell hb1];exact hc 1 _ rfl
  have d2:wr.cell? ⟨b1,o1+j*3+2,none⟩=some sv:=by rw[HBj.out.cell hb1];exact hc 2 _ rfl
  have hbr:b1<wr.heap.size:=by omega
  have hB1:Below w.heap.size w (wr.alloc (.cells #[.bool x.no,.string (bs x.name),sv] 79)):=HBj.out.alloc HBj.out.size _;have HA:Hid (Calls Tryz.prog 101 #[.agg #[.bool x.no,.string (bs x.name),sv],.slice (some ⟨b1,o1,none⟩) l.length cap] (wr.alloc (.cells #[.bool x.no,.string (bs x.name),sv] 79)) fun e w3=>e=.returned (.bool ((vars x).all (givenBy l)))∧Hid (Below w.heap.size w w3)):=
   (MU x sv l _ _ (aB.aJ hsv hB1) (Jp (HG1.out x (List.mem_of_getElem? hx))) (aB.aJ HV.out hB1) (fun b hb=>Jp (HG1.out b hb))).mono fun e w3 ⟨he,hL⟩=>⟨he,aj hB1 hL (by simp;omega)⟩
  have hst:=yP hx (fun a=>(vars a).all (givenBy l));obtain⟨a2,c2,rfl⟩:=aB.slice hsv;generalize hvx:(vars x).all (givenBy l)=vx at*;cases vx
  ·have F2:Hid (aL l=9):=by show _=_;rw[F1.out,HF.out,hst];rfl
   clear hst hc hx hsv hB1 HF hvx F1;generalize bs x.name=nm at*;generalize x.no=xn at*
   go_wp2_with (go_at_call 101;refine HA.out.mono ?_;rintro e w5 ⟨rfl,k2⟩)
   go_ret;exact⟨by rw[F2.out];rfl,k2.out⟩
  have HF1:Hid (l.all (fun a=>(vars a).all (givenBy l))=(l.drop (j+1)).all (fun a=>(vars a).all (givenBy l))):=by show _=_;rw[HF.out,hst];rfl
  clear hst hc hx hsv hB1 HF hvx;generalize bs x.name=nm at*;generalize x.no=xn at*
  go_wp2_with (go_at_call 101;refine HA.out.mono ?_;rintro e w5 ⟨rfl,k2⟩)
  go_roundg (l.length- (j+1))
  case measure=>omega
  case rel=>exact⟨j+1,by omega,by go_num,HF1,k2⟩
 have F2:Hid (aL l=0):=by show _=_;rw[F1.out,HF.out,List.drop_eq_nil_of_le (by omega)];rfl
 go_wp2;go_ret;exact⟨by rw[F2.out];rfl,HBj.out⟩
theorem Q9 (e i:Int) (g:Nat) (w:World) (h:w.cell? ⟨g,0,none⟩=some (.int .i64 i)):
  Calls Tryz.prog 99 #[.int .i64 e,.pointer (some ⟨g,0,none⟩)] w fun x w'=>x=.returned (.agg #[.int .i64 e,.int .i64 i])∧ak w w':=by
 have hg:=World.block_lt_of_cell? w _ h;have hg':g<w.heap.size:=hg;have hgn:g≠w.heap.size:=by omega
 go_enter Tryz.func99,Tryz.ntmps99
 go_wp2;exact bodyPost_ret (v:=.agg #[.int .i64 e,.int .i64 i]) (by simp[results,Tryz.results99,go_sem]) rfl ⟨rfl,(by repeat (first|exact ak.refl _|assumption|refine ak.drewN ?_ _|refine ak.drew ?_|refine ak.alloc ?_ _|refine ak.grow ?_ _))⟩
theorem sH.many {w0 w:World} {lo:Nat} {v:Value} {l m:List aI} {a:Option Addr} {cap:Nat} (h:sH w0 lo w v l) (hlo:lo≤w.heap.size) (hb:Below w0.heap.size w0 w) (hm:bN.sl bf w0 (.slice a m.length cap) m) (hl:(l.length+m.length)*48≤140737488355328):
  ∃v' w',(Builtin.append_ #[80,80] 80 #[v,.slice a m.length cap]).run Tryz.prog w=.ok v' w'∧sH w0 lo w' v' (l++m)∧w.grownBy w' v.ownBlock:=by
 obtain⟨i,i1,i2,i3,i4⟩:=Bf;obtain⟨xs,ho,hx⟩:=h;cases a with
 |none=>
  have hm0:m=[]:=by refine Classical.byContradiction fun hne=>?_;obtain⟨_,a',_,e,h1⟩:=hm;simp only[Value.slice.injEq] at e;obtain⟨b,off,e',_⟩:=h1 hne;rw[e'] at e;cases e.1
  subst hm0;refine⟨v,w,?_,by rw[List.append_nil];exact⟨xs,ho,hx⟩,⟨rfl,rfl,rfl,Nat.le_refl _,fun _ _ _=>rfl⟩⟩;rcases ho.2 with⟨rfl,e0⟩|⟨g,c,cur,rfl,_,_,hnc,_⟩
  ·simp[Builtin.append_,run_underlying Tryz.underlying80,sizeOf,typeInfo,i1,Builtin.lenOf,Builtin.firstCells]
  simp[Builtin.append_,run_underlying Tryz.underlying80,sizeOf,typeInfo,i1,Builtin.lenOf,Builtin.firstCells,hnc,storeCells]
 |some a=>
  obtain⟨cs,cl,Oc,TV,Od,cis⟩:=aB.sD hm (by decide);have hxl:xs.length=l.length*3:=ho.1;obtain⟨v',w',hrun,r1,r2,_,_⟩:=dZ (P:=Tryz.prog) w lo 80 80 79 i _ 3 48 Tryz.underlying80 i1 i2 i3 i4 rfl (by omega) v l.length xs ho a m.length cap cs.flatten (by rw[sF _ Oc,cl];rfl)
   (fun j u hu=>by have hc:=Od j u hu;rw[hb.cell (World.block_lt_of_cell? w0 _ hc)];exact hc)
   (fun u hu=>by rw[List.mem_flatten] at hu;obtain⟨c,hc,hu⟩:=hu;exact TV c hc u hu) (by simp only[maxLen];omega) hl hlo
  refine⟨v',w',hrun,⟨xs++cs.flatten,by rw[List.length_append];exact r1,fun j y hj=>?_⟩,r2⟩
  by_cases hjl:j<l.length
  ·rw[List.getElem?_append_left hjl] at hj;obtain⟨d,d1,d2⟩:=hx j y hj;refine⟨d,d1,fun q u hu=>?_⟩;have:=d2 q u hu;rw[List.getElem?_append_left (List.getElem?_eq_some_iff.1 this).1];exact this
  rw[List.getElem?_append_right (by omega)] at hj;have hjm:=(List.getElem?_eq_some_iff.1 hj).1;have hc:cs[j-l.length]?=some (cs[j-l.length]'(by omega)):=List.getElem?_eq_getElem (by omega);refine⟨_,cis _ _ y hc hj,fun q u hu=>?_⟩;have hq:q<3:=by have:=Oc _ (List.getElem_mem (by omega:j-l.length<cs.length));have h2:=(List.getElem?_eq_some_iff.1 hu).1;rw[this] at h2;exact h2
  have:=flat_get cs Oc _ _ q hc hq;rw[List.getElem?_append_right (by omega),hxl,show j*3+q-l.length*3=(j-l.length)*3+q by omega];exact this.trans hu
def more (m:dU):dU:=fun s=>(m s).map (· +1)
theorem LG (m:dU) (s:Bs) (n:Nat):(more m).put s (n+1)=more (m.put s n):=by
 funext t
 unfold more dU.put
 by_cases h:t=s
 ·simp[h]
 simp[h]
theorem LH {m:dU} {s:Bs} {n:Nat} (h:m s=some n):m.put s n=m:=by
 funext t
 unfold dU.put
 by_cases e:t=s
 ·rw[if_pos e,e,h]
 rw[if_neg e]
theorem CO {m:dU} {a:aI} (h:m a.name=none):dh m a=(true,m.put a.name a.terms.length):=by unfold dh;rw[h]
theorem uY {m:dU} {a:aI} {n:Nat} (h:m a.name=some n):dh m a=(decide (n=a.terms.length),m):=by unfold dh;rw[h]
theorem zo {m:dU} {r:aG} (h0:aP r.head=0) (hn:r.head.no=false) (hb:aL r.body=0) (hv:(vars r.head).all (givenBy r.body)=true):
  aX m r=(if(fitAll m (r.head::r.body)).1 then 0 else 8,(fitAll m (r.head::r.body)).2):=by
 have hfa:fitAll m (r.head::r.body)=if(dh m r.head).1 then fitAll (dh m r.head).2 r.body else(false,(dh m r.head).2):=rfl;generalize fitAll m (r.head::r.body)=X at*;unfold aX;rw[if_pos h0,hn,if_pos hb,hv]
 by_cases h1:(dh m r.head).1=true
 ·rw[if_pos h1] at hfa;subst hfa;simp[h1]
 rw[if_neg h1] at hfa;subst hfa;simp[h1]
theorem OB (v:Value) (l:List aN) (w:World) (hf:Facts w v l) (hok:∀k,okF (l.getD k aC)):
  Calls Tryz.prog 72 #[v] w fun e w'=>e=.returned (.agg #[.int .i64 (aT l).1,.int .i64 (aT l).2])∧ak w w':=by
 have mx:=mixed;have HF:=au hf;have HOK:=au hok;obtain⟨a,cap,rfl,hn,hz⟩:=hf.addr;clear hf hok
 by_cases hbig:200<l.length
 ·have e:aT l=(5,0):=by unfold aT;rw[if_pos hbig]
  rw[e]
  go_enter Tryz.func72,Tryz.ntmps72
  go_wp2;exact bodyPost_ret (v:=.agg #[.int .i64 5,.int .i64 0]) (by simp[results,Tryz.results72,go_sem]) rfl ⟨rfl,(by repeat (first|exact ak.refl _|assumption|refine ak.drewN ?_ _|refine ak.drew ?_|refine ak.alloc ?_ _|refine ak.grow ?_ _))⟩
 have e:aT l=bT l l.length 0:=by unfold aT;rw[if_neg hbig]
 rw[e];clear e
 go_enter Tryz.func72,Tryz.ntmps72
 go_wp2
 go_loopw [12] (fun i wr=>∃k:Nat,k≤l.length∧i=.int .i64 k∧ak (w.alloc (.cells #[.int .i64 0,.int .i64 0] 69)) wr∧Hid (bT l l.length 0=bT l (l.length-k) k)) (fun i _=>l.length- (intOf i).toNat)
 case atStart=>exact⟨0,by omega,rfl,ak.refl _,(rfl:_=_)⟩
 obtain⟨k,hk,rfl,hL,HE⟩:=hrel;have hL0:ak w wr:=((ak.refl _).alloc _).trans hL;have hsz:w.heap.size<wr.heap.size:=by have:=hL.size;simp at this;omega
 by_cases hlt:k<l.length
 ·rcases hz with rfl|⟨b,off,rfl⟩;·simp at hlt
  have hltz:(k:Int)<(l.length:Int):=by omega
  obtain⟨hb,ax,lx,cx,g1,g2,fx⟩:=(HF.out.later hL0).at hlt;have hst:=nE l hlt;have HWr:Hid (∀w',ak wr w'→Calls Tryz.prog 23 #[.agg #[.string (l.getD k aC).1,.slice ax lx cx]] w' fun e w''=>e=.returned (.int .i64 (fG (l.getD k aC)))∧ak w' w''):=
   fun w' hw=>MR _ _ w' (fx.later hw) (HOK.out k)
  have FX:=au fx;clear fx
  by_cases hwz:fG (l.getD k aC)=0
  ·rw[if_neg (by omega)] at hst;rw[hwz] at HWr
   by_cases hk0:k=0
   ·have F:Hid (bT l l.length 0=bT l (l.length- (k+1)) (k+1)):=by show _=_;rw[HE.out,hst,if_neg (by omega)]
    have hd:decide (0<k)=false:=by rw[decide_eq_false_iff_not];omega
    clear hk0;generalize(l.getD k aC).1=nk at*;clear hst
    go_wp2_with fail
    refine(HWr.out _ ((ak.refl _).alloc _)).mono ?_;rintro e w1 ⟨rfl,hL1⟩;go_wp2
    go_quiet (fail)
    go_wp2
    go_roundw
    case rel=>exact⟨k+1,by omega,by go_num,(hL.trans (((ak.refl _).alloc _).trans hL1)).drewN _,F⟩
    case measure=>simp[intOf];omega
   obtain⟨j,rfl⟩:∃j,k=j+1:=⟨k-1,by omega⟩;rw[Nat.add_sub_cancel] at hst;have hjl:j<l.length:=by omega
   have hjz:(j:Int)<(l.length:Int):=by omega
   have hd:(0:Int)<(j:Int)+1:=by omega
   have hwj:IntKind.i64.wrap (j:Int)=(j:Int):=DI j (by omega);generalize hfk:l.getD (j+1) aC=f at*;have HFK:=au hfk;clear hfk;obtain⟨nk,lk⟩:=f;dsimp only at*
   go_wp2_with fail
   refine(HWr.out _ ((ak.refl _).alloc _)).mono ?_;rintro e w1 ⟨rfl,hL1⟩;have hLR:ak (w.alloc (.cells #[.int .i64 0,.int .i64 0] 69)) w1:=hL.trans (((ak.refl _).alloc _).trans hL1);have KR:ak w w1:=((ak.refl _).alloc _).trans hLR;have hR:w1.heap[w.heap.size]?=some (.cells #[.int .i64 0,.int .i64 0] 69 (0,0)):=by rw[hLR.block (by simp),heap_alloc_new]
   have q0:w1.cell? ⟨w.heap.size,0,none⟩=some (.int .i64 0):=by rw[cell_of_row _ _ _ _ _ _ hR];rfl
   have q1:w1.cell? ⟨w.heap.size,1,none⟩=some (.int .i64 0):=by rw[cell_of_row _ _ _ _ _ _ hR];rfl
   have p0:w1.frozen? ⟨w.heap.size,0,none⟩=false:=frozen_of_row 0 hR;have p1:w1.frozen? ⟨w.heap.size,1,none⟩=false:=frozen_of_row 1 hR;have HRR:=au hR;clear hR;have hLw:ak wr w1:=((ak.refl _).alloc _).trans hL1;obtain⟨ay,ly,cy,y1,y2,fy⟩:=(HF.out.later KR).grown hjl;have b0:=cell_later hL1 (p:=⟨wr.heap.size,0,none⟩) (v:=.string nk) (by simp) (by simp);have b1:=cell_later hL1 (p:=⟨wr.heap.size,1,none⟩) (v:=.slice ax lx cx) (by simp) (by simp);have hC:∀q os,Calls Tryz.prog 50 #[.agg #[.string (l.getD j aC).1,.slice ay ly cy],.agg #[.string nk,.slice ax lx cx]] (grow (w1.drewN q) os) fun e w''=>e=.returned (.bool (lM (l.getD j aC) (nk,lk)))∧ak (grow (w1.drewN q) os) w'':=
    fun q os=>Kr _ _ _ _ _ (fy.later ⟨q,os,rfl⟩) ((FX.out.later hLw).later ⟨q,os,rfl⟩)
   unfold lM at hC;have HC:=au hC;clear hC fy;generalize fO (l.getD j aC) (nk,lk)=cm at*;generalize(l.getD j aC).1=nj at*
   by_cases hcm:0≤cm
   ·rw[decide_eq_false (by omega)] at HC;have F:Hid (bT l l.length 0=(2,((j+1:Nat):Int))):=by show _=_;rw[HE.out,hst,if_pos ⟨by omega,hcm⟩]
    clear hst;go_wp2
    go_quiet_grown ((go_at_call 50;exact Calls.grown_of (HC.out _ _)))
    dsimp only;have hLW:ak w1 (grow (w1.drewN nq) osq):=⟨_,_,rfl⟩;generalize grow (w1.drewN nq) osq=w2 at hLW⊢;have hR:w2.heap[w.heap.size]?=some (.cells #[.int .i64 0,.int .i64 0] 69 (0,0)):=by rw[hLW.block (by have:=hLw.size;omega)];exact HRR.out
    have q0:w2.cell? ⟨w.heap.size,0,none⟩=some (.int .i64 0):=by rw[cell_of_row _ _ _ _ _ _ hR];rfl
    have q1:w2.cell? ⟨w.heap.size,1,none⟩=some (.int .i64 0):=by rw[cell_of_row _ _ _ _ _ _ hR];rfl
    have p0:w2.frozen? ⟨w.heap.size,0,none⟩=false:=frozen_of_row 0 hR;have p1:w2.frozen? ⟨w.heap.size,1,none⟩=false:=frozen_of_row 1 hR;have HR2:=au hR;clear hR;go_wp2;obtain⟨r0,r1⟩:=iY HR2.out (.int .i64 2) (.int .i64 ((j:Int)+1));refine bodyPost_ret (v:=.agg #[.int .i64 2,.int .i64 ((j:Int)+1)]) (by simp[results,Tryz.results72,go_sem,r0,r1]) rfl ⟨kN (by rw[F.out];simp),?_⟩;exact((KR.trans hLW).setCell (Nat.le_refl _) _).setCell (Nat.le_refl _) _
   rw[decide_eq_true (by omega)] at HC;have F:Hid (bT l l.length 0=bT l (l.length- (j+1+1)) (j+1+1)):=by show _=_;rw[HE.out,hst,if_neg (fun h=>hcm h.2)]
   clear hst;go_wp2
   go_quiet_grown ((go_at_call 50;exact Calls.grown_of (HC.out _ _)))
   go_wp2
   go_roundw
   case rel=>exact⟨j+1+1,by omega,by go_num,hLR.trans ⟨_,_,rfl⟩,F⟩
   case measure=>simp[intOf];omega
  have F:Hid (bT l l.length 0=(fG (l.getD k aC),(k:Int))):=by show _=_;rw[HE.out,hst,if_pos hwz]
  have Yj:(fG (l.getD k aC)==0)=false:=by simpa using hwz
  generalize fG (l.getD k aC)=we at*;generalize(l.getD k aC).1=nk at*;clear hst
  go_wp2_with fail
  refine(HWr.out _ ((ak.refl _).alloc _)).mono ?_;rintro e w1 ⟨rfl,hL1⟩;have hLR:ak (w.alloc (.cells #[.int .i64 0,.int .i64 0] 69)) w1:=hL.trans (((ak.refl _).alloc _).trans hL1);have KR:ak w w1:=((ak.refl _).alloc _).trans hLR;have hR:w1.heap[w.heap.size]?=some (.cells #[.int .i64 0,.int .i64 0] 69 (0,0)):=by rw[hLR.block (by simp),heap_alloc_new]
  have q0:w1.cell? ⟨w.heap.size,0,none⟩=some (.int .i64 0):=by rw[cell_of_row _ _ _ _ _ _ hR];rfl
  have q1:w1.cell? ⟨w.heap.size,1,none⟩=some (.int .i64 0):=by rw[cell_of_row _ _ _ _ _ _ hR];rfl
  have p0:w1.frozen? ⟨w.heap.size,0,none⟩=false:=frozen_of_row 0 hR;have p1:w1.frozen? ⟨w.heap.size,1,none⟩=false:=frozen_of_row 1 hR;have HRR:=au hR;clear hR;go_wp2;obtain⟨r0,r1⟩:=iY HRR.out (.int .i64 we) (.int .i64 k);refine bodyPost_ret (v:=.agg #[.int .i64 we,.int .i64 k]) (by simp[results,Tryz.results72,go_sem,r0,r1]) rfl ⟨kN (by rw[F.out]),?_⟩;exact(KR.setCell (Nat.le_refl _) _).setCell (Nat.le_refl _) _
 have F:Hid (bT l l.length 0=(0,0)):=by show _=_;rw[HE.out,show l.length-k=0 by omega];rfl
 have q0:wr.cell? ⟨w.heap.size,0,none⟩=some (.int .i64 0):=by rw[hL.cell (by simp)];simp
 have q1:wr.cell? ⟨w.heap.size,1,none⟩=some (.int .i64 0):=by rw[hL.cell (by simp)];simp
 have p0:wr.frozen? ⟨w.heap.size,0,none⟩=false:=by rw[hL.frozen (by simp)];simp
 have p1:wr.frozen? ⟨w.heap.size,1,none⟩=false:=by rw[hL.frozen (by simp)];simp
 go_wp2;have hR:wr.heap[w.heap.size]?=some (.cells #[.int .i64 0,.int .i64 0] 69 (0,0)):=by rw[hL.block (by simp),heap_alloc_new]
 obtain⟨r0,r1⟩:=iY hR (.int .i64 0) (.int .i64 0);refine bodyPost_ret (v:=.agg #[.int .i64 0,.int .i64 0]) (by simp[results,Tryz.results72,go_sem,r0,r1]) rfl ⟨kN (by rw[F.out]),?_⟩;exact(hL0.setCell (Nat.le_refl _) _).setCell (Nat.le_refl _) _
end Go.Proofs.YtaallngooaaonaaGreatDoor
