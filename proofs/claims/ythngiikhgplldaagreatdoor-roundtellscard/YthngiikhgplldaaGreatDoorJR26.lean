import Derived.Test.YthngiikhgplldaaGreatDoorJR25
import Derived.Test.YthngiikhgplldaaGreatDoorJR16
import Derived.Test.YthngiikhgplldaaGreatDoorJR23
import Derived.Test.YthngiikhgplldaaGreatDoorJR14
import Derived.Test.YthngiikhgplldaaGreatDoorJR5
open Go.RowKit Go.Sort Go.Maps
set_option maxHeartbeats 2000000
set_option maxRecDepth 100000
namespace Go.Proofs.YthngiikhgplldaaGreatDoor
theorem ow.many {w0 w:World} {lo:Nat} {v:Value} {l m:List aJ} {a:Option Addr} {cap:Nat} (h:ow w0 lo w v l) (hlo:lo≤w.heap.size) (hb:Below w0.heap.size w0 w) (hm:dY.sl bT w0 (.slice a m.length cap) m) (hl:(l.length+m.length)*48≤140737488355328):
  ∃v' w',(Builtin.append_ #[55,55] 55 #[v,.slice a m.length cap]).run Tryz.prog w=.ok v' w'∧ow w0 lo w' v' (l++m)∧w.grownBy w' v.ownBlock:=by
 obtain⟨i,i1,i2,i3,i4⟩:=wC;obtain⟨xs,ho,hx⟩:=h;cases a with
 |none=>
  have hm0:m=[]:=by refine Classical.byContradiction fun hne=>?_;obtain⟨_,a',_,e,h1⟩:=hm;simp only[Value.slice.injEq] at e;obtain⟨b,off,e',_⟩:=h1 hne;rw[e'] at e;cases e.1
  subst hm0;refine⟨v,w,?_,by rw[List.append_nil];exact⟨xs,ho,hx⟩,⟨rfl,rfl,rfl,Nat.le_refl _,fun _ _ _=>rfl⟩⟩;rcases ho.2 with⟨rfl,e0⟩|⟨g,c,cur,rfl,_,_,hnc,_⟩
  ·simp[Builtin.append_,run_underlying Tryz.underlying55,sizeOf,typeInfo,i1,Builtin.lenOf,Builtin.firstCells]
  simp[Builtin.append_,run_underlying Tryz.underlying55,sizeOf,typeInfo,i1,Builtin.lenOf,Builtin.firstCells,hnc,storeCells]
 |some a=>
  obtain⟨cs,cl,J8,Mw,J9,cis⟩:=aB.tJ hm (by decide);have hxl:xs.length=l.length*3:=ho.1;obtain⟨v',w',hrun,r1,r2,_,_⟩:=d9 (P:=Tryz.prog) w lo 55 55 54 i _ 3 48 Tryz.underlying55 i1 i2 i3 i4 rfl (by omega) v l.length xs ho a m.length cap cs.flatten (by rw[uh _ J8,cl];rfl)
   (fun j u hu=>by have hc:=J9 j u hu;rw[hb.cell (World.block_lt_of_cell? w0 _ hc)];exact hc)
   (fun u hu=>by rw[List.mem_flatten] at hu;obtain⟨c,hc,hu⟩:=hu;exact Mw c hc u hu) (by simp only[maxLen];omega) hl hlo
  refine⟨v',w',hrun,⟨xs++cs.flatten,by rw[List.length_append];exact r1,fun j y hj=>?_⟩,r2⟩
  by_cases hjl:j<l.length
  ·rw[List.getElem?_append_left hjl] at hj;obtain⟨d,d1,d2⟩:=hx j y hj;refine⟨d,d1,fun q u hu=>?_⟩;have:=d2 q u hu;rw[List.getElem?_append_left (List.getElem?_eq_some_iff.1 this).1];exact this
  rw[List.getElem?_append_right (by omega)] at hj;have hjm:=(List.getElem?_eq_some_iff.1 hj).1;have hc:cs[j-l.length]?=some (cs[j-l.length]'(by omega)):=List.getElem?_eq_getElem (by omega);refine⟨_,cis _ _ y hc hj,fun q u hu=>?_⟩;have hq:q<3:=by have:=J8 _ (List.getElem_mem (by omega:j-l.length<cs.length));have h2:=(List.getElem?_eq_some_iff.1 hu).1;rw[this] at h2;exact h2
  have:=flat_get cs J8 _ _ q hc hq;rw[List.getElem?_append_right (by omega),hxl,show j*3+q-l.length*3=(j-l.length)*3+q by omega];exact this.trans hu
def more (m:bZ):bZ:=fun s=>(m s).map (· +1)
theorem D5 (m:bZ) (s:Bs) (n:Nat):(more m).put s (n+1)=more (m.put s n):=by
 funext t
 unfold more bZ.put
 by_cases h:t=s
 ·simp[h]
 simp[h]
theorem D6 {m:bZ} {s:Bs} {n:Nat} (h:m s=some n):m.put s n=m:=by
 funext t
 unfold bZ.put
 by_cases e:t=s
 ·rw[if_pos e,e,h]
 rw[if_neg e]
theorem xU {m:bZ} {a:aJ} (h:m a.name=none):bN m a=(true,m.put a.name a.terms.length):=by unfold bN;rw[h]
theorem qj {m:bZ} {a:aJ} {n:Nat} (h:m a.name=some n):bN m a=(decide (n=a.terms.length),m):=by unfold bN;rw[h]
theorem uj {m:bZ} {r:aD} (h0:aL r.head=0) (hn:r.head.no=false) (hb:aM r.body=0) (hv:(vars r.head).all (givenBy r.body)=true):
  aU m r=(if(fitAll m (r.head::r.body)).1 then 0 else 8,(fitAll m (r.head::r.body)).2):=by
 have hfa:fitAll m (r.head::r.body)=if(bN m r.head).1 then fitAll (bN m r.head).2 r.body else(false,(bN m r.head).2):=rfl;generalize fitAll m (r.head::r.body)=X at*;unfold aU;rw[if_pos h0,hn,if_pos hb,hv]
 by_cases h1:(bN m r.head).1=true
 ·rw[if_pos h1] at hfa;subst hfa;simp[h1]
 rw[if_neg h1] at hfa;subst hfa;simp[h1]
theorem Iz (v:Value) (l:List aG) (w:World) (hf:Facts w v l) (hok:∀k,okF (l.getD k aA)):
  Calls Tryz.prog 21 #[v] w fun e w'=>e=.returned (.agg #[.int .i64 (aR l).1,.int .i64 (aR l).2])∧aj w w':=by
 have mx:=mixed;have HF:=au hf;have HOK:=au hok;obtain⟨a,cap,rfl,hn,hz⟩:=hf.addr;clear hf hok
 by_cases hbig:200<l.length
 ·have e:aR l=(5,0):=by unfold aR;rw[if_pos hbig]
  rw[e]
  go_enter Tryz.func21,Tryz.ntmps21
  go_wp2;exact bodyPost_ret (v:=.agg #[.int .i64 5,.int .i64 0]) (by simp[results,Tryz.results21,go_sem]) rfl ⟨rfl,(by repeat (first|exact aj.refl _|assumption|refine aj.drewN ?_ _|refine aj.drew ?_|refine aj.alloc ?_ _|refine aj.grow ?_ _))⟩
 have e:aR l=bC l l.length 0:=by unfold aR;rw[if_neg hbig]
 rw[e];clear e
 go_enter Tryz.func21,Tryz.ntmps21
 go_wp2
 go_loopw [12] (fun i wr=>∃k:Nat,k≤l.length∧i=.int .i64 k∧aj (w.alloc (.cells #[.int .i64 0,.int .i64 0] 41)) wr∧Hid (bC l l.length 0=bC l (l.length-k) k)) (fun i _=>l.length- (intOf i).toNat)
 case atStart=>exact⟨0,by omega,rfl,aj.refl _,(rfl:_=_)⟩
 obtain⟨k,hk,rfl,hL,HE⟩:=hrel;have hL0:aj w wr:=((aj.refl _).alloc _).trans hL;have hsz:w.heap.size<wr.heap.size:=by have:=hL.size;simp at this;omega
 by_cases hlt:k<l.length
 ·rcases hz with rfl|⟨b,off,rfl⟩;·simp at hlt
  have hltz:(k:Int)<(l.length:Int):=by omega
  obtain⟨hb,ax,lx,cx,g1,g2,fx⟩:=(HF.out.later hL0).at hlt;have hst:=kS l hlt;have HWr:Hid (∀w',aj wr w'→Calls Tryz.prog 40 #[.agg #[.string (l.getD k aA).1,.slice ax lx cx]] w' fun e w''=>e=.returned (.int .i64 (eF (l.getD k aA)))∧aj w' w''):=
   fun w' hw=>Iu _ _ w' (fx.later hw) (HOK.out k)
  have FX:=au fx;clear fx
  by_cases hwz:eF (l.getD k aA)=0
  ·rw[if_neg (by omega)] at hst;rw[hwz] at HWr
   by_cases hk0:k=0
   ·have F:Hid (bC l l.length 0=bC l (l.length- (k+1)) (k+1)):=by show _=_;rw[HE.out,hst,if_neg (by omega)]
    have hd:decide (0<k)=false:=by rw[decide_eq_false_iff_not];omega
    clear hk0;generalize(l.getD k aA).1=nk at*;clear hst
    go_wp2_with fail
    refine(HWr.out _ ((aj.refl _).alloc _)).mono ?_;rintro e w1 ⟨rfl,hL1⟩;go_wp2
    go_quiet (fail)
    go_wp2
    go_roundw
    case rel=>exact⟨k+1,by omega,by go_num,(hL.trans (((aj.refl _).alloc _).trans hL1)).drewN _,F⟩
    case measure=>simp[intOf];omega
   obtain⟨j,rfl⟩:∃j,k=j+1:=⟨k-1,by omega⟩;rw[Nat.add_sub_cancel] at hst;have hjl:j<l.length:=by omega
   have hjz:(j:Int)<(l.length:Int):=by omega
   have hd:(0:Int)<(j:Int)+1:=by omega
   have hwj:IntKind.i64.wrap (j:Int)=(j:Int):=yO j (by omega);generalize hfk:l.getD (j+1) aA=f at*;have HFK:=au hfk;clear hfk;obtain⟨nk,lk⟩:=f;dsimp only at*
   go_wp2_with fail
   refine(HWr.out _ ((aj.refl _).alloc _)).mono ?_;rintro e w1 ⟨rfl,hL1⟩;have hLR:aj (w.alloc (.cells #[.int .i64 0,.int .i64 0] 41)) w1:=hL.trans (((aj.refl _).alloc _).trans hL1);have yP:aj w w1:=((aj.refl _).alloc _).trans hLR;have hR:w1.heap[w.heap.size]?=some (.cells #[.int .i64 0,.int .i64 0] 41 (0,0)):=by rw[hLR.block (by simp),heap_alloc_new]
   have q0:w1.cell? ⟨w.heap.size,0,none⟩=some (.int .i64 0):=by rw[cell_of_row _ _ _ _ _ _ hR];rfl
   have q1:w1.cell? ⟨w.heap.size,1,none⟩=some (.int .i64 0):=by rw[cell_of_row _ _ _ _ _ _ hR];rfl
   have p0:w1.frozen? ⟨w.heap.size,0,none⟩=false:=frozen_of_row 0 hR;have p1:w1.frozen? ⟨w.heap.size,1,none⟩=false:=frozen_of_row 1 hR;have HRR:=au hR;clear hR;have hLw:aj wr w1:=((aj.refl _).alloc _).trans hL1;obtain⟨ay,ly,cy,y1,y2,fy⟩:=(HF.out.later yP).grown hjl;have b0:=cell_later hL1 (p:=⟨wr.heap.size,0,none⟩) (v:=.string nk) (by simp) (by simp);have b1:=cell_later hL1 (p:=⟨wr.heap.size,1,none⟩) (v:=.slice ax lx cx) (by simp) (by simp);have hC:∀q os,Calls Tryz.prog 41 #[.agg #[.string (l.getD j aA).1,.slice ay ly cy],.agg #[.string nk,.slice ax lx cx]] (grow (w1.drewN q) os) fun e w''=>e=.returned (.bool (jI (l.getD j aA) (nk,lk)))∧aj (grow (w1.drewN q) os) w'':=
    fun q os=>Dk _ _ _ _ _ (fy.later ⟨q,os,rfl⟩) ((FX.out.later hLw).later ⟨q,os,rfl⟩)
   unfold jI at hC;have HC:=au hC;clear hC fy;generalize fF (l.getD j aA) (nk,lk)=cm at*;generalize(l.getD j aA).1=nj at*
   by_cases hcm:0≤cm
   ·rw[decide_eq_false (by omega)] at HC;have F:Hid (bC l l.length 0=(2,((j+1:Nat):Int))):=by show _=_;rw[HE.out,hst,if_pos ⟨by omega,hcm⟩]
    clear hst;go_wp2
    go_quiet_grown ((go_at_call 41;exact Calls.grown_of (HC.out _ _)))
    dsimp only;have hLW:aj w1 (grow (w1.drewN nq) osq):=⟨_,_,rfl⟩;generalize grow (w1.drewN nq) osq=w2 at hLW⊢;have hR:w2.heap[w.heap.size]?=some (.cells #[.int .i64 0,.int .i64 0] 41 (0,0)):=by rw[hLW.block (by have:=hLw.size;omega)];exact HRR.out
    have q0:w2.cell? ⟨w.heap.size,0,none⟩=some (.int .i64 0):=by rw[cell_of_row _ _ _ _ _ _ hR];rfl
    have q1:w2.cell? ⟨w.heap.size,1,none⟩=some (.int .i64 0):=by rw[cell_of_row _ _ _ _ _ _ hR];rfl
    have p0:w2.frozen? ⟨w.heap.size,0,none⟩=false:=frozen_of_row 0 hR;have p1:w2.frozen? ⟨w.heap.size,1,none⟩=false:=frozen_of_row 1 hR;have HR2:=au hR;clear hR;go_wp2;obtain⟨r0,r1⟩:=gK HR2.out (.int .i64 2) (.int .i64 ((j:Int)+1));refine bodyPost_ret (v:=.agg #[.int .i64 2,.int .i64 ((j:Int)+1)]) (by simp[results,Tryz.results21,go_sem,r0,r1]) rfl ⟨jk (by rw[F.out];simp),?_⟩;exact((yP.trans hLW).setCell (Nat.le_refl _) _).setCell (Nat.le_refl _) _
   rw[decide_eq_true (by omega)] at HC;have F:Hid (bC l l.length 0=bC l (l.length- (j+1+1)) (j+1+1)):=by show _=_;rw[HE.out,hst,if_neg (fun h=>hcm h.2)]
   clear hst;go_wp2
   go_quiet_grown ((go_at_call 41;exact Calls.grown_of (HC.out _ _)))
   go_wp2
   go_roundw
   case rel=>exact⟨j+1+1,by omega,by go_num,hLR.trans ⟨_,_,rfl⟩,F⟩
   case measure=>simp[intOf];omega
  have F:Hid (bC l l.length 0=(eF (l.getD k aA),(k:Int))):=by show _=_;rw[HE.out,hst,if_pos hwz]
  have LG:(eF (l.getD k aA)==0)=false:=by simpa using hwz
  generalize eF (l.getD k aA)=we at*;generalize(l.getD k aA).1=nk at*;clear hst
  go_wp2_with fail
  refine(HWr.out _ ((aj.refl _).alloc _)).mono ?_;rintro e w1 ⟨rfl,hL1⟩;have hLR:aj (w.alloc (.cells #[.int .i64 0,.int .i64 0] 41)) w1:=hL.trans (((aj.refl _).alloc _).trans hL1);have yP:aj w w1:=((aj.refl _).alloc _).trans hLR;have hR:w1.heap[w.heap.size]?=some (.cells #[.int .i64 0,.int .i64 0] 41 (0,0)):=by rw[hLR.block (by simp),heap_alloc_new]
  have q0:w1.cell? ⟨w.heap.size,0,none⟩=some (.int .i64 0):=by rw[cell_of_row _ _ _ _ _ _ hR];rfl
  have q1:w1.cell? ⟨w.heap.size,1,none⟩=some (.int .i64 0):=by rw[cell_of_row _ _ _ _ _ _ hR];rfl
  have p0:w1.frozen? ⟨w.heap.size,0,none⟩=false:=frozen_of_row 0 hR;have p1:w1.frozen? ⟨w.heap.size,1,none⟩=false:=frozen_of_row 1 hR;have HRR:=au hR;clear hR;go_wp2;obtain⟨r0,r1⟩:=gK HRR.out (.int .i64 we) (.int .i64 k);refine bodyPost_ret (v:=.agg #[.int .i64 we,.int .i64 k]) (by simp[results,Tryz.results21,go_sem,r0,r1]) rfl ⟨jk (by rw[F.out]),?_⟩;exact(yP.setCell (Nat.le_refl _) _).setCell (Nat.le_refl _) _
 have F:Hid (bC l l.length 0=(0,0)):=by show _=_;rw[HE.out,show l.length-k=0 by omega];rfl
 have q0:wr.cell? ⟨w.heap.size,0,none⟩=some (.int .i64 0):=by rw[hL.cell (by simp)];simp
 have q1:wr.cell? ⟨w.heap.size,1,none⟩=some (.int .i64 0):=by rw[hL.cell (by simp)];simp
 have p0:wr.frozen? ⟨w.heap.size,0,none⟩=false:=by rw[hL.frozen (by simp)];simp
 have p1:wr.frozen? ⟨w.heap.size,1,none⟩=false:=by rw[hL.frozen (by simp)];simp
 go_wp2;have hR:wr.heap[w.heap.size]?=some (.cells #[.int .i64 0,.int .i64 0] 41 (0,0)):=by rw[hL.block (by simp),heap_alloc_new]
 obtain⟨r0,r1⟩:=gK hR (.int .i64 0) (.int .i64 0);refine bodyPost_ret (v:=.agg #[.int .i64 0,.int .i64 0]) (by simp[results,Tryz.results21,go_sem,r0,r1]) rfl ⟨jk (by rw[F.out]),?_⟩;exact(hL0.setCell (Nat.le_refl _) _).setCell (Nat.le_refl _) _
def C9 (f:aF) (a:aJ):Bool:= !decide (bs a.name=f.1)||decide (a.terms.length=f.2.length)
theorem yU (p:List aD) (f:aF):uH p f=p.all fun r=>(r.head::r.body).all (C9 f):=rfl
theorem yV {α:Type} {g:α→Bool} {l:List α} {j:Nat} {x:α} (h:l[j]?=some x):(l.take (j+1)).all g=((l.take j).all g&&g x):=by rw[List.take_add_one,h,List.all_append];simp
theorem yX {α:Type} {g:α→Bool} {l:List α} {x:α} (hx:x∈l) (h:g x=false):l.all g=false:=by
 cases e:l.all g with
 |false=>rfl
 |true=>rw[List.all_eq_true] at e;rw[e x hx] at h;cases h
theorem EJ (p:List aD) (l:List aF) (pv fv:Value) (w:World) (hp:iy.sl bT w pv p) (hf:Facts w fv l) (hR:fG p) (hok:∀k,okF (l.getD k aA)):
  Calls Tryz.prog 17 #[pv,fv] w fun e w'=>e=.returned (.agg #[.int .i64 (dP p l).1,.int .i64 (dP p l).2])∧Below w.heap.size w w':=by
 obtain⟨pa,pc,rfl⟩:=aB.slice hp;obtain⟨fa,fc,hfv,hl0,hz⟩:=hf.addr;subst hfv;have h16:=hR.few;have hb5:∀r∈p,r.body.length≤5:=fun r hr=>(jl (hR.rules r hr).body).1;obtain⟨wb,hwb⟩:∃wb,wb=w.alloc (.cells #[.int .i64 0,.int .i64 0] 41):=⟨_,rfl⟩;have hLb:aj w wb:=by rw[hwb];exact(aj.refl w).alloc _
 have hsb:wb.heap.size=w.heap.size+1:=by rw[hwb];simp
 have hrb:wb.heap[w.heap.size]?=some (.cells #[.int .i64 0,.int .i64 0] 41 (0,0)):=by rw[hwb];exact heap_alloc_new w _
 have HSt:=au (Iz (.slice fa l.length fc) l wb (hf.later hLb) hok);have HP:=au (aB.aS hp hLb);have HF:=au (hf.later hLb);have HLb:=au hLb;have HRb:=au hrb;have HWb:=au hwb;have HB5:=au hb5;clear hp hf hR hok hLb hrb hwb hb5;obtain⟨sx,sa,hsx⟩:∃x a,aR l=(x,a):=⟨_,_,rfl⟩;rw[hsx] at HSt;have HSX:=au hsx;clear hsx
 go_enter Tryz.func17,Tryz.ntmps17
 go_wp2_with fail
 rw[←HWb.out];refine HSt.out.mono ?_;rintro e w1 ⟨rfl,hL1⟩;dsimp only;obtain⟨w2,hw2⟩:∃w2,w2=w1.alloc (.cells #[.int .i64 sx,.int .i64 sa] 41):=⟨_,rfl⟩;have hL2:aj w1 w2:=by rw[hw2];exact(aj.refl _).alloc _
 have hB2:Below wb.heap.size wb w2:=(hL1.trans hL2).below;have hr2:=(hB2.block w.heap.size (by omega)).trans HRb.out;have hs2:w2.heap[w1.heap.size]?=some (.cells #[.int .i64 sx,.int .i64 sa] 41 (0,0)):=by rw[hw2];exact heap_alloc_new w1 _
 have hs1:=hL1.size
 by_cases h0:sx=0
 ·subst h0;have HX:Hid (dP p l=gL p l (l.length-0) 0):=by show _=_;unfold dP;rw[HSX.out];simp
  have HB2:=au hB2;have HW2:=au hw2;generalize hfp:dP p l=fp at*;have KZ:=au hfp;clear hL1 hL2 hB2 hr2 hs2 hw2 HSt HWb HSX hs1 hfp;go_wp2;rw[←HW2.out]
  go_loopg [20] l.length (fun g i wr=>∃k:Nat,k+g=l.length∧i=.int .i64 k∧Hid (fp=gL p l (l.length-k) k)∧Hid (Below wb.heap.size wb wr))
  case atStart=>exact⟨0,by omega,rfl,HX,HB2⟩
  clear HX HB2 HW2;obtain⟨k,hk,rfl,HX,HBr⟩:=hrel;have uo:=(HBr.out.block w.heap.size (by omega)).trans HRb.out
  by_cases hlt:k<l.length
  ·rcases hz with hz|⟨b4,o4,rfl⟩;·rw[hz] at hlt;simp at hlt
   obtain⟨hb4,ax,lx,cx,g1,g2,fx⟩:=(HF.out.below HBr.out).at hlt;obtain⟨f,hfk⟩:∃f,f=l.getD k aA:=⟨_,rfl⟩;rw[←hfk] at g1 fx;have hstep:fp=if uH p f=true then gL p l (l.length- (k+1)) (k+1) else(8,(k:Int)):=by rw[HX.out,show l.length-k=(l.length- (k+1))+1 by omega];show(if uH p (l.getD k aA)=true then _ else _)=_;rw[←hfk]
   have hlx:lx=f.2.length:=by obtain⟨s,e,hs⟩:=fx;obtain⟨a,c,rfl⟩:=bP hs;simp only[Value.agg.injEq] at e;have:=congrArg (fun x=>x.toList) e;simp at this;exact this.2.1
   have tX:=au hstep;obtain⟨wf,hwf⟩:∃wf,wf=wr.alloc (.cells #[.string f.1,.slice ax lx cx] 50):=⟨_,rfl⟩;have hLf:aj wr wf:=by rw[hwf];exact(aj.refl _).alloc _
   have hrf:wf.heap[wr.heap.size]?=some (.cells #[.string f.1,.slice ax lx cx] 50 (0,0)):=by rw[hwf];exact heap_alloc_new wr _
   have hsf:wf.heap.size=wr.heap.size+1:=by rw[hwf];simp
   have HBf:=au (ak HBr.out hLf.below HBr.out.size);have HRf:=au hrf;have HWf:=au hwf;have Nl:f.2.length≤8796093022208:=by obtain⟨s,e,hs⟩:=fx;exact hs.1
   clear fx hfk hstep hwf hLf hrf HX uo;obtain⟨fn,dF⟩:=f;dsimp only at*;subst hlx;go_wp2;rw[←HWf.out];clear HWf g1 g2 HBr;generalize hA:wr.heap.size=A at*;clear hA
   go_loopg [27] p.length (fun g i wr2=>∃j:Nat,j+g=p.length∧i=.int .i64 j∧Hid ((p.take j).all (fun r=>(r.head::r.body).all (C9 (fn,dF)))=true)∧Hid (Below wf.heap.size wf wr2))
   case atStart=>exact⟨0,by omega,rfl,(by show _=_;simp),Below.refl _ _⟩
   obtain⟨j,hj,rfl,HAl,HB2⟩:=hrel
   by_cases G6:j<p.length
   ·obtain⟨r,hr⟩:∃x,p[j]?=some x:=⟨_,List.getElem?_eq_getElem G6⟩;have hrm:r∈p:=List.mem_of_getElem? hr;have BM:=ak HBf.out HB2.out HBf.out.size;obtain⟨b1,o1,_,e1,hb1,⟨tv,bv,rfl,htv,hbv⟩,hc⟩:=aB.bR HP.out hr;subst e1;have d0:wr.cell? ⟨b1,o1+j*4,none⟩=some (.bool r.head.no):=by rw[BM.cell (p:=⟨b1,o1+j*4,none⟩) hb1];exact hc 0 _ rfl
    have d1:wr.cell? ⟨b1,o1+j*4+1,none⟩=some (.string (bs r.head.name)):=by rw[BM.cell (p:=⟨b1,o1+j*4+1,none⟩) hb1];exact hc 1 _ rfl
    have d2:wr.cell? ⟨b1,o1+j*4+2,none⟩=some tv:=by rw[BM.cell (p:=⟨b1,o1+j*4+2,none⟩) hb1];exact hc 2 _ rfl
    have d3:wr.cell? ⟨b1,o1+j*4+3,none⟩=some bv:=by rw[BM.cell (p:=⟨b1,o1+j*4+3,none⟩) hb1];exact hc 3 _ rfl
    obtain⟨ta,tc,rfl⟩:=aB.slice htv;obtain⟨ba,bc,rfl⟩:=aB.slice hbv;have LV:b1<wr.heap.size:=Nat.lt_of_lt_of_le hb1 BM.size;have hbl:=HB5.out r hrm;obtain⟨wg,hwg⟩:∃wg,wg=wr.alloc (.cells #[.bool r.head.no,.string (bs r.head.name),.slice ta r.head.terms.length tc,.slice ba r.body.length bc] 57):=⟨_,rfl⟩;have hLg:aj wr wg:=by rw[hwg];exact(aj.refl _).alloc _
    have Ka:=ak BM hLg.below BM.size;have hca:dY.is bT wb [.bool r.head.no,.string (bs r.head.name),.slice ta r.head.terms.length tc] r.head:=⟨_,rfl,htv⟩;have K4:=ow.one (w0:=wb) (w:=wg) (lo:=wg.heap.size) hca (Nat.le_refl _);obtain⟨v',w7,hrun,hR7,hg7⟩:=ow.many K4 (by simp) (ak Ka ((aj.refl wg).alloc _).below Ka.size) hbv (by simp;omega);obtain⟨a7,n7,c7,hv7,hn7⟩:∃a n c,v'=.slice a n c∧n=r.body.length+1:=by obtain⟨a,c,e⟩:=ow.slice hR7;exact⟨a,_,c,e,by simp⟩
    subst hv7;have Kc:Below wf.heap.size wf w7:=(ak (ak HB2.out hLg.below HB2.out.size) ((aj.refl wg).alloc _).below (Nat.le_trans HB2.out.size hLg.size)).grown hg7 (by have:=HB2.out.size;have:=hLg.size;simp;omega) (fun k e=>by have:=HB2.out.size;have:=hLg.size;simp[Value.ownBlock] at e;omega);have K5:=ak HBf.out Kc HBf.out.size;have HAs:=au (hR7.sl K5 (by simp;omega));have HAt:=au (yV (g:=fun r=>(r.head::r.body).all (C9 (fn,dF))) hr);have HB7:=au Kc;have HRn:=au hrun;have HMm:=au (fun(h:(r.head::r.body).all (C9 (fn,dF))=false)=>(yU p (fn,dF)).trans (yX hrm h));rw[hwg] at HRn;simp only[World.size_alloc] at HRn;clear hc hr htv hbv hwg hLg Ka hca K4 hR7 hg7 hrun Kc K5 BM hrm;generalize bs r.head.name=nm at*;generalize r.head.no=no at*
    go_wp2_with (at_builtin;refine wpList_append_run rfl (.tmp 33) (.tmp 35) 55 rfl _ _ _ _ rfl rfl HRn.out ?_)
    go_loopg [38] n7 (fun g i wr3=>∃t:Nat,t+g=n7∧i=.int .i64 t∧Hid (((r.head::r.body).take t).all (C9 (fn,dF))=true)∧Hid (Below w7.heap.size w7 wr3))
    case atStart=>exact⟨0,by omega,rfl,(by show _=_;simp),Below.refl _ _⟩
    clear d0 d1 d2 d3;obtain⟨t,ht,rfl,HTl,HB3⟩:=hrel;have IB:=ak HB7.out HB3.out HB7.out.size;have DR:=ak HBf.out IB HBf.out.size
    by_cases Np:t<n7
    ·obtain⟨a,ha⟩:∃x,(r.head::r.body)[t]?=some x:=⟨_,List.getElem?_eq_getElem (by simp;omega)⟩;obtain⟨b3,o3,_,e3,hb3,⟨tv3,rfl,Ke⟩,hc3⟩:=aB.bR HAs.out ha;subst e3;have d0:wr.cell? ⟨b3,o3+t*3,none⟩=some (.bool a.no):=by rw[HB3.out.cell (p:=⟨b3,o3+t*3,none⟩) hb3];exact hc3 0 _ rfl
     have d1:wr.cell? ⟨b3,o3+t*3+1,none⟩=some (.string (bs a.name)):=by rw[HB3.out.cell (p:=⟨b3,o3+t*3+1,none⟩) hb3];exact hc3 1 _ rfl
     have d2:wr.cell? ⟨b3,o3+t*3+2,none⟩=some tv3:=by rw[HB3.out.cell (p:=⟨b3,o3+t*3+2,none⟩) hb3];exact hc3 2 _ rfl
     obtain⟨ta3,tc3,rfl⟩:=aB.slice Ke;have Nq:=Ke.1.1;have LW:b3<wr.heap.size:=Nat.lt_of_lt_of_le hb3 HB3.out.size;have D7:wr.heap[A]?=some (.cells #[.string fn,.slice ax dF.length cx] 50 (0,0)):=(IB.block A (by omega)).trans HRf.out;have uo:=(DR.block w.heap.size (by omega)).trans HRb.out;have Nr:A<wr.heap.size:=(Array.getElem?_eq_some_iff.1 D7).1;have Ns:w.heap.size<wr.heap.size:=(Array.getElem?_eq_some_iff.1 uo).1;have f0:wr.cell? ⟨A,0,none⟩=some (.string fn):=by rw[cell_of_row _ _ _ _ _ _ D7];rfl
     have f1:wr.cell? ⟨A,1,none⟩=some (.slice ax dF.length cx):=by rw[cell_of_row _ _ _ _ _ _ D7];rfl
     have HTk:=au (yV (g:=C9 (fn,dF)) ha);have HAm:=au (List.mem_of_getElem? ha);have K6:Hid (Below w7.heap.size w7 (wr.alloc (.cells #[.bool a.no,.string (bs a.name),.slice ta3 a.terms.length tc3] 54))):=ak HB3.out ((aj.refl _).alloc _).below HB3.out.size;have hrow4:(wr.alloc (.cells #[.bool a.no,.string (bs a.name),.slice ta3 a.terms.length tc3] 54)).heap[w.heap.size]?=some (.cells #[.int .i64 0,.int .i64 0] 41 (0,0)):=by rw[fT,if_neg (by omega)];exact uo
     have F6:=au hrow4;have F7:=au uo;have HBv:=au (ak HLb.out.below DR HLb.out.size);have HBw:Hid (Below w.heap.size w (wr.alloc (.cells #[.bool a.no,.string (bs a.name),.slice ta3 a.terms.length tc3] 54))):=ak HLb.out.below (ak DR ((aj.refl _).alloc _).below DR.size) HLb.out.size;clear hc3 ha Ke D7 uo hrow4 IB DR;obtain⟨an,hnm,ats⟩:=a;dsimp only at*;have hfit:C9 (fn,dF) ⟨an,hnm,ats⟩=(!decide (bs hnm=fn)||decide (ats.length=dF.length)):=rfl
     by_cases hnf:bs hnm=fn
     ·have hq:((bs hnm).toList==fn.toList)=true:=by rw[jW];simp[hnf]
      by_cases hll:ats.length=dF.length
      ·have HT':Hid (((r.head::r.body).take (t+1)).all (C9 (fn,dF))=true):=by show _=_;rw[HTk.out,HTl.out,hfit];simp[hll]
       have hneq:((ats.length:Int) != (dF.length:Int))=false:=by
        have:(ats.length:Int)=(dF.length:Int):=by omega
        simp[this]
       clear HTk HTl hfit hll F6 HBw hnf HAm;generalize bs hnm=tk at*;go_wp2
       go_roundg (n7- (t+1))
       case measure=>omega
       case rel=>exact⟨t+1,by omega,by go_num,HT',K6⟩
      have hst:=tX.out;rw[HMm.out (yX HAm.out (by rw[hfit];simp[hnf,hll]))] at hst;simp only[Bool.false_eq_true,if_false] at hst;have HFp:Hid (fp=(8,(k:Int))):=hst;have hneq:((ats.length:Int) != (dF.length:Int))=true:=by
       have:¬(ats.length:Int)=(dF.length:Int):=by omega
       simpa using this
      obtain⟨q0,q1,p0,p1,q2⟩:=nQ F6.out;have hr5:((wr.setCell ⟨w.heap.size,0,none⟩ (.int .i64 8)).alloc (.cells #[.bool an,.string (bs hnm),.slice ta3 ats.length tc3] 54)).heap[w.heap.size]?=some (.cells #[.int .i64 8,.int .i64 0] 41 (0,0)):=by rw[fT,if_neg (by simp;omega)];exact dW (j:=0) F7.out (.int .i64 8)
      obtain⟨q5,q6,p5,p6,q7⟩:=nQ hr5;obtain⟨q8,q9,p8,p9,_⟩:=nQ F7.out;clear hst HTk HTl hfit hll hnf HAm tX hr5;generalize bs hnm=tk at*;go_wp2;have hrow:=dW (j:=1) (dW (j:=0) F7.out (.int .i64 8)) (.int .i64 (k:Int));have hrow2:(((wr.setCell ⟨w.heap.size,0,none⟩ (.int .i64 8)).setCell ⟨w.heap.size,1,none⟩ (.int .i64 (k:Int))).alloc (.cells #[.bool an,.string tk,.slice ta3 ats.length tc3] 54)).heap[w.heap.size]?=some (.cells #[.int .i64 8,.int .i64 (k:Int)] 41 (0,0)):=by rw[fT,if_neg (by simp;omega)];exact hrow
      have r0:=(nQ hrow2).1;have r1:=(nQ hrow2).2.1;refine bodyPost_ret (v:=.agg #[.int .i64 8,.int .i64 (k:Int)]) (by simp[results,Tryz.results17,go_sem,r0,r1]) rfl ⟨by rw[KZ.out,HFp.out],?_⟩;exact((HBv.out.setCell (by show w.heap.size≤w.heap.size;omega) _).setCell (by show w.heap.size≤w.heap.size;omega) _).alloc (by simp;omega) _
     have hq:((bs hnm).toList==fn.toList)=false:=by rw[jW];simp[hnf]
     have HT':Hid (((r.head::r.body).take (t+1)).all (C9 (fn,dF))=true):=by show _=_;rw[HTk.out,HTl.out,hfit];simp[hnf]
     clear HTk HTl hfit hnf F6 HBw HAm;generalize bs hnm=tk at*;go_wp2
     go_roundg (n7- (t+1))
     case measure=>omega
     case rel=>exact⟨t+1,by omega,by go_num,HT',K6⟩
    have hta:(r.head::r.body).take t=r.head::r.body:=List.take_of_length_le (by simp;omega);have Mx:Hid ((p.take (j+1)).all (fun r=>(r.head::r.body).all (C9 (fn,dF)))=true):=by show _=_;have h:=HTl.out;rw[hta] at h;rw[HAt.out,HAl.out,h];rfl
    have HB':=au IB;clear hta HTl IB DR HAs;go_wp2
    go_roundg (p.length- (j+1))
    case measure=>omega
    case rel=>exact⟨j+1,by omega,by go_num,Mx,HB'⟩
   have hpt:p.take j=p:=List.take_of_length_le (by omega);have hall:=HAl.out;rw[hpt,←yU] at hall;have hst:=tX.out;rw[if_pos hall] at hst;have HX':=au hst;have HB':=au (ak HBf.out HB2.out HBf.out.size);clear hpt hall hst tX HAl;go_wp2
   go_roundg (l.length- (k+1))
   case measure=>omega
   case rel=>exact⟨k+1,by omega,by go_num,HX',HB'⟩
  have hkl:l.length-k=0:=by omega
  have hx:=HX.out;rw[hkl] at hx;have HFp:Hid (fp=(0,0)):=hx;have mO:=au uo;obtain⟨q0,q1,p0,p1,q2⟩:=nQ uo;have HBw:=au (ak HLb.out.below HBr.out HLb.out.size);clear hkl hx HX uo;go_wp2;obtain⟨r0,r1⟩:=pq mO.out (.int .i64 0) (.int .i64 0);refine bodyPost_ret (v:=.agg #[.int .i64 0,.int .i64 0]) (by simp[results,Tryz.results17,go_sem,r0,r1]) rfl ⟨by rw[KZ.out,HFp.out],?_⟩;exact(HBw.out.setCell (by show w.heap.size≤w.heap.size;omega) _).setCell (by show w.heap.size≤w.heap.size;omega) _
 have hne:(sx != 0)=true:=by simpa using h0
 have HFp:Hid (dP p l=(sx,sa)):=by show _=_;unfold dP;rw[HSX.out,if_pos h0]
 have HB2:=au (ak HLb.out.below hB2 HLb.out.size);have HR2:=au hr2;have HW2:=au hw2;rw[hw2] at hr2 hs2;obtain⟨q0,q1,p0,p1,q2⟩:=nQ hr2;obtain⟨s0,s1,_,_,_⟩:=nQ hs2;have hr1:=(hL1.block (show w.heap.size<wb.heap.size by omega)).trans HRb.out;obtain⟨q3,q4,p3,p4,q5⟩:=nQ hr1;have HR1:=au hr1;have HB1:=au (ak HLb.out.below hL1.below HLb.out.size);have hR1:w.heap.size<w1.heap.size:=(Array.getElem?_eq_some_iff.1 hr1).1;have hr6:((w1.setCell ⟨w.heap.size,0,none⟩ (.int .i64 sx)).alloc (.cells #[.int .i64 sx,.int .i64 sa] 41)).heap[w.heap.size]?=some (.cells #[.int .i64 sx,.int .i64 0] 41 (0,0)):=by rw[fT,if_neg (by simp;omega)];exact dW (j:=0) hr1 (.int .i64 sx)
 obtain⟨q6,q7,p6,p7,_⟩:=nQ hr6;clear hr1 hr2 hs2 hr6 hL1 hL2 hB2 hw2 HSt HWb HSX HW2 h0 hs1 HR2 HB2;go_wp2;have hrow:=dW (j:=1) (dW (j:=0) HR1.out (.int .i64 sx)) (.int .i64 sa);have hrow2:(((w1.setCell ⟨w.heap.size,0,none⟩ (.int .i64 sx)).setCell ⟨w.heap.size,1,none⟩ (.int .i64 sa)).alloc (.cells #[.int .i64 sx,.int .i64 sa] 41)).heap[w.heap.size]?=some (.cells #[.int .i64 sx,.int .i64 sa] 41 (0,0)):=by rw[fT,if_neg (by simp;omega)];exact hrow
 have r0:=(nQ hrow2).1;have r1:=(nQ hrow2).2.1;refine bodyPost_ret (v:=.agg #[.int .i64 sx,.int .i64 sa]) (by simp[results,Tryz.results17,go_sem,r0,r1]) rfl ⟨by rw[HFp.out],?_⟩;exact((HB1.out.setCell (by show w.heap.size≤w.heap.size;omega) _).setCell (by show w.heap.size≤w.heap.size;omega) _).alloc (by simp;omega) _
def Kg (u:Value):Prop:=∃a n c,u=.slice a n c
def Da (lo:Nat) (w:World) (v:Value) (xs:List Value):Prop:=
 ∃g cap cur,v=.slice (some ⟨g,0,none⟩) xs.length cap∧lo≤g∧w.heap[g]?=some (.cells cur 24 (0,0))∧xs.length≤cap∧cap≤maxLen∧cur.size=cap∧cur.toList.take xs.length=xs∧∀u∈cur.toList,Kg u
theorem Da.owns {lo:Nat} {w:World} {v:Value} {xs:List Value} (h:Da lo w v xs):w.ownsRow lo 24 1 v xs.length xs:=by obtain⟨g,cap,cur,rfl,h1,h2,h3,h4,h5,h6,_⟩:=h;exact⟨by simp,Or.inr ⟨g,cap,cur,rfl,h1,h2,h3,h4,by rw[h5];omega,by rw[Nat.mul_one];exact h6⟩⟩
theorem Da.block {lo:Nat} {w w':World} {v:Value} {xs:List Value} (h:Da lo w v xs) (hk:∀k,k<w.heap.size→lo≤k→w'.heap[k]?=w.heap[k]?):Da lo w' v xs:=by obtain⟨g,cap,cur,e,h1,h2,h3⟩:=h;exact⟨g,cap,cur,e,h1,(hk g (Array.getElem?_eq_some_iff.1 h2).1 h1).trans h2,h3⟩
theorem rV:∃i,Tryz.prog.info? 24=some i∧i.zero=some (.slice none 0 0)∧i.size=1∧i.bytes=24:=⟨Tryz.t24,by kernel_rfl,by kernel_rfl,by kernel_rfl,by kernel_rfl⟩
theorem Da.more {lo:Nat} {w:World} {v:Value} {xs:List Value} (h:Da lo w v xs) (hlo:lo≤w.heap.size) {u:Value} (hu:Kg u) (hl:xs.length+1≤1000000):
  ∃v' w',(Builtin.append_ #[126,126] 126 #[v,.slice (some ⟨w.heap.size,0,none⟩) 1 1]).run Tryz.prog (w.alloc (.cells #[u] 24))=.ok v' w'∧Da lo w' v' (xs++[u])∧(w.alloc (.cells #[u] 24)).grownBy w' v.ownBlock:=by
 obtain⟨i,i1,i2,i3,i4⟩:=rV;have hown:=(h.owns).alloc (.cells #[u] 24);have hnews:∀j x,[u][j]?=some x→(w.alloc (.cells #[u] 24)).cell? ((⟨w.heap.size,0,none⟩:Addr).add j)=some x:=fun j x hx=>by rw[Addr.add_lit,Nat.zero_add,cell_of_row _ w.heap.size j #[u] 24 (0,0) (heap_alloc_new w _)];simpa using hx
 have hone:∀x∈[u],x.oneCell'=true:=fun x hx=>by obtain⟨a,n,c,rfl⟩:=hu;simp at hx;subst hx;rfl
 obtain⟨v',w',hrun,r1,r2,r3,r4⟩:=d9 (P:=Tryz.prog) (w.alloc (.cells #[u] 24)) lo 126 126 24 i _ 1 24 Tryz.underlying126 i1 i2 i3 i4 rfl (by omega) v xs.length xs hown ⟨w.heap.size,0,none⟩ 1 1 [u] rfl hnews hone (by simp only[maxLen];omega) (by omega) (by simp;omega);refine⟨v',w',hrun,?_,r2⟩;obtain⟨g,cap,cur,rfl,h1,h2,h3,h4,h5,h6,h7⟩:=h;have h2':(w.alloc (.cells #[u] 24)).heap[g]?=some (.cells cur 24 (0,0)):=by rw[Below.heap_alloc _ _ _ (Array.getElem?_eq_some_iff.1 h2).1];exact h2
 by_cases hroom:xs.length+1≤cap
 ·rw[run_append_room (P:=Tryz.prog) _ 126 126 24 i Tryz.underlying126 i1 g xs.length cap cur h2' ⟨w.heap.size,0,none⟩ 1 1 [u] (by rw[i3];rfl) hnews hone hroom (by rw[i3,h5];simp;omega)] at hrun;simp only[Result.ok.injEq] at hrun;obtain⟨rfl,rfl⟩:=hrun;rw[i3,Nat.mul_one,h6] at r1⊢;rcases r1.2 with⟨e,_⟩|⟨g',cap',cur',e,k1,k2,k3,k4,k5,k6⟩
  ·cases e
  injection e with e1 e2 e3
  injection e1 with e1
  injection e1 with e1
  subst e1;subst e3;refine⟨g,cap,cur',by simp,k1,k2,by simpa using k3,k4,by simpa using k5,by simpa using k6,fun y hy=>?_⟩;have hcur:cur'=(xs++[u]++cur.toList.drop (xs.length+1)).toArray:=by have hh:=setRow_heap (w.alloc (.cells #[u] 24)) g cur (xs++[u]++cur.toList.drop (xs.length+[u].length)).toArray 24 _ h2';have hh2:=k2.symm.trans hh;simp only[Option.some.injEq,Obj.cells.injEq] at hh2;exact hh2.1
  rw[hcur] at hy;simp only[List.mem_append,List.mem_singleton] at hy;rcases hy with(hy|hy)|hy
  ·exact h7 y (by rw[←h6] at hy;exact List.mem_of_mem_take hy)
  ·rw[hy];exact hu
  exact h7 y (List.mem_of_mem_drop hy)
 rw[run_append_grow (P:=Tryz.prog) _ 126 126 24 i _ Tryz.underlying126 i1 i2 ⟨g,0,none⟩ xs.length cap xs (by rw[i3,Nat.mul_one]) (hown.cells (g:=g) rfl) ⟨w.heap.size,0,none⟩ 1 1 [u] (by rw[i3];rfl) hnews (by omega) (by omega) (growslice_fits (by omega) (by rw[i4];omega))] at hrun;simp only[Result.ok.injEq] at hrun;obtain⟨rfl,rfl⟩:=hrun;rcases r1.2 with⟨e,_⟩|⟨g',cap',cur',e,k1,k2,k3,k4,k5,k6⟩
 ·cases e
 injection e with e1 e2 e3
 injection e1 with e1
 injection e1 with e1
 subst e1;subst e3;refine⟨_,_,cur',by simp,k1,k2,by simpa using k3,k4,by simpa using k5,by simpa using k6,fun y hy=>?_⟩;have hn:=heap_alloc_new (w.alloc (.cells #[u] 24)).drew (.cells (xs.toArray++[u].toArray++Builtin.zeroCells (Value.slice none 0 0).cells (grownCap (w.alloc (.cells #[u] 24)) (xs.length+1) cap 24- (xs.length+1))) 24);have k2':=hn.symm.trans k2
 injection k2' with k2'
 injection k2' with k2'
 rw[←k2'] at hy;simp only[Array.toList_append,List.mem_append,List.mem_singleton] at hy;rcases hy with(hy|hy)|hy
 ·exact h7 y (by rw[←h6] at hy;exact List.mem_of_mem_take hy)
 ·rw[hy];exact hu
 unfold Builtin.zeroCells at hy;simp only[Value.cells] at hy;rw[Array.mem_toList_iff,Array.mem_map] at hy;obtain⟨q,_,rfl⟩:=hy;exact⟨none,0,0,by simp[Nat.mod_one]⟩
theorem Da.first {lo:Nat} {w:World} (hlo:lo≤w.heap.size) {u:Value} (hu:Kg u):
  ∃v' w',(Builtin.append_ #[126,126] 126 #[.slice none 0 0,.slice (some ⟨w.heap.size,0,none⟩) 1 1]).run Tryz.prog (w.alloc (.cells #[u] 24))=.ok v' w'∧Da lo w' v' [u]∧(w.alloc (.cells #[u] 24)).grownBy w' none:=by
 obtain⟨i,i1,i2,i3,i4⟩:=rV;have hown:=World.ownsRow_nil (w.alloc (.cells #[u] 24)) lo 24 1;have hnews:∀j x,[u][j]?=some x→(w.alloc (.cells #[u] 24)).cell? ((⟨w.heap.size,0,none⟩:Addr).add j)=some x:=fun j x hx=>by rw[Addr.add_lit,Nat.zero_add,cell_of_row _ w.heap.size j #[u] 24 (0,0) (heap_alloc_new w _)];simpa using hx
 have hone:∀x∈[u],x.oneCell'=true:=fun x hx=>by obtain⟨a,n,c,rfl⟩:=hu;simp at hx;subst hx;rfl
 obtain⟨v',w',hrun,r1,r2,r3,r4⟩:=d9 (P:=Tryz.prog) (w.alloc (.cells #[u] 24)) lo 126 126 24 i _ 1 24 Tryz.underlying126 i1 i2 i3 i4 rfl (by omega) (.slice none 0 0) 0 [] hown ⟨w.heap.size,0,none⟩ 1 1 [u] rfl hnews hone (by simp only[maxLen];omega) (by omega) (by simp;omega);refine⟨v',w',hrun,?_,r2⟩;rw[run_append_nil (P:=Tryz.prog) _ 126 126 24 i _ Tryz.underlying126 i1 i2 ⟨w.heap.size,0,none⟩ 1 1 [u] (by rw[i3];rfl) hnews (by omega) (by omega) (by rw[i4];omega)] at hrun;simp only[Result.ok.injEq] at hrun;obtain⟨rfl,rfl⟩:=hrun;rcases r1.2 with⟨e,_⟩|⟨g',cap',cur',e,k1,k2,k3,k4,k5,k6⟩;·cases e
 injection e with e1 e2 e3
 injection e1 with e1
 injection e1 with e1
 subst e1;subst e3;refine⟨_,_,cur',by simp,k1,k2,by simpa using k3,k4,by simpa using k5,by simpa using k6,fun y hy=>?_⟩;have hn:=heap_alloc_new (w.alloc (.cells #[u] 24)).drew (.cells ([u].toArray++Builtin.zeroCells (Value.slice none 0 0).cells (grownCap (w.alloc (.cells #[u] 24)) 1 0 24-1)) 24);have k2':=hn.symm.trans k2
 injection k2' with k2'
 injection k2' with k2'
 rw[←k2'] at hy;simp only[Array.toList_append,List.mem_append] at hy;rcases hy with hy|hy
 ·simp at hy;rw[hy];exact hu
 unfold Builtin.zeroCells at hy;simp only[Value.cells] at hy;rw[Array.mem_toList_iff,Array.mem_map] at hy;obtain⟨q,_,rfl⟩:=hy;exact⟨none,0,0,by simp[Nat.mod_one]⟩
def EK (w:World) (b:Nat):Prop:=∀(off:Nat) (s:ByteArray),w.cell? ⟨b,off,none⟩≠some (.string s)
theorem bD {w w':World} {b:Nat} (h:EK w b) (hg:Tn b w w') {u:Value} {l:List aG} (hf:Facts w u l):Facts w' u l:=by
 have key:∀{q off:Nat} {s:ByteArray},w.cell? ⟨q,off,none⟩=some (.string s)→w'.heap[q]?=w.heap[q]?:=fun {q off s} hc=>
  hg.block q (World.block_lt_of_cell? w _ hc) (fun e=>by subst e;exact h _ _ hc)
 have cell_of:∀{q off:Nat},w'.heap[q]?=w.heap[q]?→w'.cell? ⟨q,off,none⟩=w.cell? ⟨q,off,none⟩:=fun {q off} e=>by unfold World.cell?;dsimp only;rw[e]
 have strs:∀{q:Value} {r:List ByteArray},Strs w q r→Strs w' q r:=fun {q r} hs=>by obtain⟨h0,a,cap,rfl,h1⟩:=hs;refine⟨h0,a,cap,rfl,fun hl=>?_⟩;obtain⟨b,off,rfl,hb,hc⟩:=h1 hl;refine⟨b,off,rfl,Nat.lt_of_lt_of_le hb hg.size,fun i hi=>?_⟩;rw[cell_of (key (hc i hi))];exact hc i hi
 obtain⟨h0,a,cap,rfl,h1⟩:=hf;refine⟨h0,a,cap,rfl,fun hl=>?_⟩;obtain⟨b,off,rfl,hb,hc⟩:=h1 hl;refine⟨b,off,rfl,Nat.lt_of_lt_of_le hb hg.size,fun i hi=>?_⟩;obtain⟨c1,s,c2,c3⟩:=hc i hi;exact⟨by rw[cell_of (key c1)];exact c1,s,by rw[cell_of (key c1)];exact c2,strs c3⟩
end Go.Proofs.YthngiikhgplldaaGreatDoor
