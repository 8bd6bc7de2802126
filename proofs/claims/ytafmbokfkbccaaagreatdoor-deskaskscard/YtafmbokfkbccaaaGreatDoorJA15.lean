import Derived.Test.YtafmbokfkbccaaaGreatDoorJA6
import Derived.Test.YtafmbokfkbccaaaGreatDoorJA14
import Derived.Laws.StructEq
import Derived.Test.YtafmbokfkbccaaaGreatDoorJA5
namespace Go.Proofs.YtafmbokfkbccaaaGreatDoor
open Go.RowKit Go.Sort
def dw (l:List aI):Nat→Nat→Int×Int
 |0,_=>(0,0)
 |n+1,k=>if fu (l.getD k aC)≠0 then(fu (l.getD k aC),k) else if 0<k∧0≤gM (l.getD (k-1) aC) (l.getD k aC) then(2,k) else dw l n (k+1)
def bA (l:List aI):Int×Int:=if 200<l.length then(5,0) else dw l l.length 0
theorem uY (l:List aI) {k:Nat} (h:k<l.length):dw l (l.length-k) k=
  if fu (l.getD k aC)≠0 then(fu (l.getD k aC),(k:Int)) else if 0<k∧0≤gM (l.getD (k-1) aC) (l.getD k aC) then(2,(k:Int)) else dw l (l.length- (k+1)) (k+1):=by
 obtain⟨n,hn⟩:∃n,l.length-k=n+1:=⟨l.length-k-1,by omega⟩;rw[hn,show l.length- (k+1)=n by omega]
 rfl
theorem JD (j:Nat) (h:j≤3518437208883):IntKind.i64.wrap (j:Int)=(j:Int):=by
 simp[IntKind.wrap,IntKind.bits,IntKind.signed];omega
theorem nW {w:World} {R:Nat} {u0 u1:Value} {t:TypeId} {fr:Nat×Nat} (h:w.heap[R]?=some (.cells #[u0,u1] t fr)) (x y:Value):
  ((w.setCell ⟨R,0,none⟩ x).setCell ⟨R,1,none⟩ y).cell? ⟨R,0,none⟩=some x∧((w.setCell ⟨R,0,none⟩ x).setCell ⟨R,1,none⟩ y).cell? ⟨R,1,none⟩=some y:=by
 have h2:=gH (j:=1) (gH (j:=0) h x) y;exact⟨by rw[cell_of_row _ _ _ _ _ _ h2];rfl,by rw[cell_of_row _ _ _ _ _ _ h2];rfl⟩
theorem tJ {a b c d:Int} (h:(a,b)=(c,d)):Ending.returned (.agg #[.int .i64 a,.int .i64 b])=.returned (.agg #[.int .i64 c,.int .i64 d]):=by
 cases h;rfl
set_option maxHeartbeats 2000000 in
theorem Qh (v:Value) (l:List aI) (w:World) (hf:Facts w v l):
  Calls Tryz.prog 120 #[v] w fun e w'=>e=.returned (.agg #[.int .i64 (bA l).1,.int .i64 (bA l).2])∧Later w w':=by
 have mx:=mixed;have HF:=hide hf;obtain⟨a,cap,rfl,hn,hz⟩:=hf.addr;clear hf
 by_cases hbig:200<l.length
 ·have e:bA l=(5,0):=by unfold bA;rw[if_pos hbig]
  rw[e]
  go_enter Tryz.func120,Tryz.ntmps120
  go_wp2;exact bodyPost_ret (v:=.agg #[.int .i64 5,.int .i64 0]) (by simp[results,Tryz.results120,go_sem]) rfl ⟨rfl,(by repeat (first|exact Later.refl _|assumption|refine Later.drewN ?_ _|refine Later.drew ?_|refine Later.alloc ?_ _|refine Later.grow ?_ _))⟩
 ·have e:bA l=dw l l.length 0:=by unfold bA;rw[if_neg hbig]
  rw[e];clear e
  go_enter Tryz.func120,Tryz.ntmps120
  go_wp2
  go_loopw [12] (fun i wr=>∃k:Nat,k≤l.length∧i=.int .i64 k∧Later (w.alloc (.cells #[.int .i64 0,.int .i64 0] 75)) wr∧Hid (dw l l.length 0=dw l (l.length-k) k)) (fun i _=>l.length- (intOf i).toNat)
  case atStart=>exact⟨0,by omega,rfl,Later.refl _,(rfl:_=_)⟩
  case round=>
   obtain⟨k,hk,rfl,hL,HE⟩:=hrel;have hL0:Later w wr:=((Later.refl _).alloc _).trans hL;have hsz:w.heap.size<wr.heap.size:=by have:=hL.size;simp at this;omega
   by_cases hlt:k<l.length
   ·rcases hz with rfl|⟨b,off,rfl⟩
    ·simp at hlt
    have hltz:(k:Int)<(l.length:Int):=by omega
    obtain⟨hb,ax,lx,cx,g1,g2,fx⟩:=(HF.out.later hL0).at hlt;have hst:=uY l hlt;have HWr:Hid (∀w',Later wr w'→Calls Tryz.prog 59 #[.agg #[.string (l.getD k aC).1,.slice ax lx cx]] w' fun e w''=>e=.returned (.int .i64 (fu (l.getD k aC)))∧Later w' w''):=
     fun w' hw=>wrong _ _ w' (fx.later hw)
    have FX:=hide fx;clear fx
    by_cases hwz:fu (l.getD k aC)=0
    ·rw[if_neg (by omega)] at hst;rw[hwz] at HWr
     by_cases hk0:k=0
     ·have F:Hid (dw l l.length 0=dw l (l.length- (k+1)) (k+1)):=by show _=_;rw[HE.out,hst,if_neg (by omega)]
      have hd:decide (0<k)=false:=by rw[decide_eq_false_iff_not];omega
      clear hk0;generalize(l.getD k aC).1=nk at*;clear hst
      go_wp2_with fail
      refine(HWr.out _ ((Later.refl _).alloc _)).mono ?_;rintro e w1 ⟨rfl,hL1⟩;go_wp2
      go_quiet (fail)
      go_wp2
      go_roundw
      case rel=>exact⟨k+1,by omega,by go_num,(hL.trans (((Later.refl _).alloc _).trans hL1)).drewN _,F⟩
      case measure=>simp[intOf];omega
     ·obtain⟨j,rfl⟩:∃j,k=j+1:=⟨k-1,by omega⟩;rw[Nat.add_sub_cancel] at hst;have hjl:j<l.length:=by omega
      have hjz:(j:Int)<(l.length:Int):=by omega
      have hd:(0:Int)<(j:Int)+1:=by omega
      have hwj:IntKind.i64.wrap (j:Int)=(j:Int):=JD j (by omega);generalize hfk:l.getD (j+1) aC=f at*;have HFK:=hide hfk;clear hfk;obtain⟨nk,lk⟩:=f;dsimp only at*
      go_wp2_with fail
      refine(HWr.out _ ((Later.refl _).alloc _)).mono ?_;rintro e w1 ⟨rfl,hL1⟩;have hLR:Later (w.alloc (.cells #[.int .i64 0,.int .i64 0] 75)) w1:=hL.trans (((Later.refl _).alloc _).trans hL1);have Ey:Later w w1:=((Later.refl _).alloc _).trans hLR;have hR:w1.heap[w.heap.size]?=some (.cells #[.int .i64 0,.int .i64 0] 75 (0,0)):=by rw[hLR.block (by simp),heap_alloc_new]
      have q0:w1.cell? ⟨w.heap.size,0,none⟩=some (.int .i64 0):=by rw[cell_of_row _ _ _ _ _ _ hR];rfl
      have q1:w1.cell? ⟨w.heap.size,1,none⟩=some (.int .i64 0):=by rw[cell_of_row _ _ _ _ _ _ hR];rfl
      have p0:w1.frozen? ⟨w.heap.size,0,none⟩=false:=frozen_of_row 0 hR;have p1:w1.frozen? ⟨w.heap.size,1,none⟩=false:=frozen_of_row 1 hR;have HRR:=hide hR;clear hR;have hLw:Later wr w1:=((Later.refl _).alloc _).trans hL1;obtain⟨ay,ly,cy,y1,y2,fy⟩:=(HF.out.later Ey).grown hjl;have b0:=cell_later hL1 (p:=⟨wr.heap.size,0,none⟩) (v:=.string nk) (by simp) (by simp);have b1:=cell_later hL1 (p:=⟨wr.heap.size,1,none⟩) (v:=.slice ax lx cx) (by simp) (by simp);have hC:∀q os,Calls Tryz.prog 128 #[.agg #[.string (l.getD j aC).1,.slice ay ly cy],.agg #[.string nk,.slice ax lx cx]] (grow (w1.drewN q) os) fun e w''=>e=.returned (.int .i64 (gM (l.getD j aC) (nk,lk)))∧Later (grow (w1.drewN q) os) w'':=
       fun q os=>kY _ _ _ _ _ (fy.later ⟨q,os,rfl⟩) ((FX.out.later hLw).later ⟨q,os,rfl⟩)
      have HC:=hide hC;clear hC fy;generalize gM (l.getD j aC) (nk,lk)=cm at*;generalize(l.getD j aC).1=nj at*
      by_cases hcm:0≤cm
      ·have F:Hid (dw l l.length 0=(2,((j+1:Nat):Int))):=by show _=_;rw[HE.out,hst,if_pos ⟨by omega,hcm⟩]
       clear hst;go_wp2
       go_quiet_grown ((go_at_call 128;exact Calls.grown_of (HC.out _ _)))
       dsimp only;have hLW:Later w1 (grow (w1.drewN nq) osq):=⟨_,_,rfl⟩;generalize grow (w1.drewN nq) osq=w2 at hLW⊢;have hR:w2.heap[w.heap.size]?=some (.cells #[.int .i64 0,.int .i64 0] 75 (0,0)):=by rw[hLW.block (by have:=hLw.size;omega)];exact HRR.out
       have q0:w2.cell? ⟨w.heap.size,0,none⟩=some (.int .i64 0):=by rw[cell_of_row _ _ _ _ _ _ hR];rfl
       have q1:w2.cell? ⟨w.heap.size,1,none⟩=some (.int .i64 0):=by rw[cell_of_row _ _ _ _ _ _ hR];rfl
       have p0:w2.frozen? ⟨w.heap.size,0,none⟩=false:=frozen_of_row 0 hR;have p1:w2.frozen? ⟨w.heap.size,1,none⟩=false:=frozen_of_row 1 hR;have HR2:=hide hR;clear hR;go_wp2;obtain⟨r0,r1⟩:=nW HR2.out (.int .i64 2) (.int .i64 ((j:Int)+1));refine bodyPost_ret (v:=.agg #[.int .i64 2,.int .i64 ((j:Int)+1)]) (by simp[results,Tryz.results120,go_sem,r0,r1]) rfl ⟨tJ (by rw[F.out];simp),?_⟩;exact((Ey.trans hLW).setCell (Nat.le_refl _) _).setCell (Nat.le_refl _) _
      ·have F:Hid (dw l l.length 0=dw l (l.length- (j+1+1)) (j+1+1)):=by show _=_;rw[HE.out,hst,if_neg (fun h=>hcm h.2)]
       clear hst;go_wp2
       go_quiet_grown ((go_at_call 128;exact Calls.grown_of (HC.out _ _)))
       go_wp2
       go_roundw
       case rel=>exact⟨j+1+1,by omega,by go_num,hLR.trans ⟨_,_,rfl⟩,F⟩
       case measure=>simp[intOf];omega
    ·have F:Hid (dw l l.length 0=(fu (l.getD k aC),(k:Int))):=by show _=_;rw[HE.out,hst,if_pos hwz]
     have WV:(fu (l.getD k aC)==0)=false:=by simpa using hwz
     generalize fu (l.getD k aC)=we at*;generalize(l.getD k aC).1=nk at*;clear hst
     go_wp2_with fail
     refine(HWr.out _ ((Later.refl _).alloc _)).mono ?_;rintro e w1 ⟨rfl,hL1⟩;have hLR:Later (w.alloc (.cells #[.int .i64 0,.int .i64 0] 75)) w1:=hL.trans (((Later.refl _).alloc _).trans hL1);have Ey:Later w w1:=((Later.refl _).alloc _).trans hLR;have hR:w1.heap[w.heap.size]?=some (.cells #[.int .i64 0,.int .i64 0] 75 (0,0)):=by rw[hLR.block (by simp),heap_alloc_new]
     have q0:w1.cell? ⟨w.heap.size,0,none⟩=some (.int .i64 0):=by rw[cell_of_row _ _ _ _ _ _ hR];rfl
     have q1:w1.cell? ⟨w.heap.size,1,none⟩=some (.int .i64 0):=by rw[cell_of_row _ _ _ _ _ _ hR];rfl
     have p0:w1.frozen? ⟨w.heap.size,0,none⟩=false:=frozen_of_row 0 hR;have p1:w1.frozen? ⟨w.heap.size,1,none⟩=false:=frozen_of_row 1 hR;have HRR:=hide hR;clear hR;go_wp2;obtain⟨r0,r1⟩:=nW HRR.out (.int .i64 we) (.int .i64 k);refine bodyPost_ret (v:=.agg #[.int .i64 we,.int .i64 k]) (by simp[results,Tryz.results120,go_sem,r0,r1]) rfl ⟨tJ (by rw[F.out]),?_⟩;exact(Ey.setCell (Nat.le_refl _) _).setCell (Nat.le_refl _) _
   ·have F:Hid (dw l l.length 0=(0,0)):=by show _=_;rw[HE.out,show l.length-k=0 by omega];rfl
    have q0:wr.cell? ⟨w.heap.size,0,none⟩=some (.int .i64 0):=by rw[hL.cell (by simp)];simp
    have q1:wr.cell? ⟨w.heap.size,1,none⟩=some (.int .i64 0):=by rw[hL.cell (by simp)];simp
    have p0:wr.frozen? ⟨w.heap.size,0,none⟩=false:=by rw[hL.frozen (by simp)];simp
    have p1:wr.frozen? ⟨w.heap.size,1,none⟩=false:=by rw[hL.frozen (by simp)];simp
    go_wp2;have hR:wr.heap[w.heap.size]?=some (.cells #[.int .i64 0,.int .i64 0] 75 (0,0)):=by rw[hL.block (by simp),heap_alloc_new]
    obtain⟨r0,r1⟩:=nW hR (.int .i64 0) (.int .i64 0);refine bodyPost_ret (v:=.agg #[.int .i64 0,.int .i64 0]) (by simp[results,Tryz.results120,go_sem,r0,r1]) rfl ⟨tJ (by rw[F.out]),?_⟩;exact(hL0.setCell (Nat.le_refl _) _).setCell (Nat.le_refl _) _
end Go.Proofs.YtafmbokfkbccaaaGreatDoor
namespace Go.Proofs.YtafmbokfkbccaaaGreatDoor
open Go.RowKit Go.Sort Go.Maps
theorem nJ (l:List aI):∀(n k:Nat),(dw l n k).1=0→∀i,k≤i→i<k+n→fu (l.getD i aC)=0∧(0<i→gM (l.getD (i-1) aC) (l.getD i aC)<0)
 |0,k,_,i,h1,h2=>by omega
 |n+1,k,h,i,h1,h2=>by
  simp only[dw] at h;split at h
  ·rename_i hw;exact absurd h hw
  ·rename_i hw;split at h
   ·cases h
   ·rename_i hc
    by_cases e:i=k
    ·subst e;refine⟨Classical.byContradiction hw,fun h0=> ?_⟩;exact Classical.byContradiction fun hn=>hc ⟨h0,by omega⟩
    ·exact nJ l n (k+1) h i (by omega) (by omega)
theorem JE {l:List aI} (h:∀i,0<i→i<l.length→gM (l.getD (i-1) aC) (l.getD i aC)<0):gW l:=by
 have key:∀(d i:Nat),i+d+1<l.length→gM (l.getD i aC) (l.getD (i+d+1) aC)<0:=by
  intro d
  induction d with
  |zero=>intro i hi;have:=h (i+1) (by omega) (by omega);simpa using this
  |succ d ih=>
   intro i hi;have h1:=ih i (by omega);have h2:=h (i+(d+1)+1) (by omega) hi;have e:i+(d+1)+1-1=i+d+1:=by omega
   rw[e] at h2;exact aT.trans _ _ _ h1 h2
 unfold gW;rw[List.pairwise_iff_getElem];intro i j hi hj hij;have:=key (j-i-1) i (by omega);rw[show i+(j-i-1)+1=j by omega] at this;rw[List.getD_eq_getElem?_getD,List.getD_eq_getElem?_getD,List.getElem?_eq_getElem hi,List.getElem?_eq_getElem hj] at this;exact this
theorem set_right {l:List aI} (h:(bA l).1=0):l.length≤200∧gW l∧∀f∈l,fu f=0:=by
 unfold bA at h;split at h
 ·simp at h
 ·rename_i hl;have hz:=nJ l l.length 0 h;refine⟨by omega,JE fun i h0 hi=>(hz i (Nat.zero_le _) (by omega)).2 h0,fun f hf=> ?_⟩;obtain⟨i,hi,e⟩:=List.getElem_of_mem hf;have:=(hz i (Nat.zero_le _) (by omega)).1;rw[List.getD_eq_getElem?_getD,List.getElem?_eq_getElem hi] at this;rw[←e];exact this
theorem GQ {lo:Nat} {ty:TypeId} {w w':World} {v:Value} {n:Nat} {xs:List Value} (h:w.ownsRow lo ty 1 v n xs) (hk:∀k,v.ownBlock=some k→w'.heap[k]?=w.heap[k]?):w'.ownsRow lo ty 1 v n xs:=by
 refine⟨h.1,?_⟩;rcases h.2 with e|⟨g,cap,cur,rfl,hbg,hg,r⟩
 ·exact Or.inl e
 ·exact Or.inr ⟨g,cap,cur,rfl,hbg,by rw[hk g rfl];exact hg,r⟩
set_option maxRecDepth 100000 in
set_option maxHeartbeats 2000000 in
theorem OB (v:Value) (ps:List (Value×List aD)) (lo:Nat) (w0 w:World) (h0:Later w0 w) (hlo:w0.heap.size≤lo) (hv:Lists 158 190 lo w v ps) (hl:ps.length≤20000) (hs:∀q∈ps,q.2.length≤20):
  Calls Tryz.prog 162 #[v] w fun e w'=>e=.returned v∧jL.sl (From lo) w' v (jB iW (ps.map fun q=>kK q.2))∧Later w0 w':=by
 obtain⟨a,cap,rfl⟩:=hv.slice;have hvl:=fun k e=>hv.lo_le k e;obtain⟨ho,hp,hpw⟩:=hv;have HR:=hide ho;have HA:Hid (∀q∈ps,apart q.1 (.slice a ps.length cap)):=fun q hq=>(hp q hq).2;have HOw:Hid (∀q∈ps.drop 0,bL.own 190 lo w q.1 q.2):=fun q hq=>(hp q (by simpa using hq)).1;have HQl:Hid (∀q∈ps,∀k,q.1.ownBlock=some k→lo≤k):=fun q hq k e=>(Kind.eP (hp q hq).1 e).1;have HPW:=hide hpw;have HS:=hide hs;have H0:=hide h0;have HVL:=hide hvl;clear ho hp hpw hs h0 hvl
 go_enter Tryz.func162,Tryz.ntmps162
 go_wp2
 go_loopg [7] ps.length (fun gg i wr=>∃j:Nat,j+gg=ps.length∧i=.int .i64 j∧Hid (wr.ownsRow lo 158 1 (.slice a ps.length cap) ps.length (ps.map (·.1)))∧Hid (∀q∈ps.take j,bL.sl (j6 q.1) wr q.1 (kK q.2))∧Hid (∀q∈ps.drop j,bL.own 190 lo wr q.1 q.2)∧Hid (Later w0 wr))
 case atStart=>exact⟨0,by omega,rfl,HR,(fun q hq=>by simp at hq),HOw,H0⟩
 case round=>
  clear HR HOw H0;obtain⟨j,hj,rfl,HR,HT,HOw,HL⟩:=hrel
  by_cases hlt:j<ps.length
  ·obtain⟨q,hq⟩:∃q,ps[j]?=some q:=⟨_,List.getElem?_eq_getElem hlt⟩;have hdr:ps.drop j=q::ps.drop (j+1):=by
    obtain⟨h1,e1⟩:=List.getElem?_eq_some_iff.1 hq;rw[List.drop_eq_getElem_cons h1,e1]
   have hqo:bL.own 190 lo wr q.1 q.2:=HOw.out q (by rw[hdr];exact List.mem_cons_self);have hqm:=List.mem_of_getElem? hq;obtain⟨b,hab,hcell,hbl⟩:∃b,a=some ⟨b,0,none⟩∧wr.cell? ⟨b,j,none⟩=some q.1∧b<wr.heap.size:=by
    rcases HR.out.2 with⟨e,e'⟩|⟨g,cap',cur,e,hbg,hg,_⟩
    ·omega
    ·simp only[Value.slice.injEq] at e;obtain⟨rfl,_,rfl⟩:=e;have:=HR.out.cells (g:=g) rfl j q.1 (by rw[List.getElem?_map,hq];rfl);rw[Addr.add_lit,Nat.zero_add] at this;exact⟨g,rfl,this,(Array.getElem?_eq_some_iff.1 hg).1⟩
   subst hab;have Ce:=hide (Oi lo q.1 q.2 wr hqo (by have:=HS.out q hqm;omega));have OC:(ps.take j++q::ps.drop (j+1)).Pairwise fun p q=>apart p.1 q.1:=by rw[←hdr,List.take_append_drop];exact HPW.out
   rw[List.pairwise_append] at OC;obtain⟨_,hp2,hp3⟩:=OC;have hafter:=(List.pairwise_cons.1 hp2).1;have Vt:Hid (∀p∈ps.take j,apart p.1 q.1):=fun p hp=>hp3 p hp q List.mem_cons_self;have Vu:=hide hafter;have HQA:Hid (apart q.1 (.slice (some ⟨b,0,none⟩) ps.length cap)):=HA.out q hqm;have HQO:=hide hqo;have HDr:=hide hdr;have HQ:=hide hq;obtain⟨ua,un,uc,hqu⟩:∃a n c,q.1=.slice a n c:=by obtain⟨a,c,e⟩:=Kind.bJ hqo;exact⟨a,_,c,e⟩
   have HQU:=hide hqu;rw[hqu] at hcell Ce;clear hq hdr hqo hqm hp2 hp3 hafter hqu
   go_wp2_with fail
   refine Ce.out.mono ?_;rintro e w2 ⟨rfl,hsl,hO⟩;have HSL:Hid (bL.sl (j6 q.1) w2 q.1 (kK q.2)):=by rw[HQU.out];exact hsl
   have hO':iK q.1.ownBlock wr w2:=by rw[HQU.out];exact hO
   have HO:=hide hO';clear hsl hO hO' Ce;go_wp2
   go_roundg (ps.length- (j+1))
   case measure=>omega
   case rel=>
    refine⟨j+1,by omega,by go_num,?_,?_,?_,?_⟩
    ·exact GQ HR.out fun k e=>HO.out.block k (HR.out.lt k e).2 (fun e'=>HQA.out k e' e)
    ·intro p hp;rw[List.take_add_one,HQ.out] at hp;rcases List.mem_append.1 hp with h|h
     ·exact Kind.aM (HT.out p h) HO.out.size fun k hk hB=>HO.out.block k hk (fun e'=>Vt.out p h k hB e')
     ·simp at h;rw[h];exact HSL.out
    ·intro p hp;have h1:=HOw.out p (by rw[HDr.out];exact List.mem_cons_of_mem _ hp);exact kQ h1 fun k e=>HO.out.block k (Kind.eP h1 e).2 (fun e'=>Vu.out p hp k e' e)
    ·exact HO.out.later HL.out fun k e=>by have:=(Kind.eP HQO.out e).1;omega
  ·have e:j=ps.length:=by omega
   have HT':Hid (∀q∈ps,bL.sl (j6 q.1) wr q.1 (kK q.2)):=by
    have:=HT.out;rw[e,List.take_length] at this;exact this
   have hm1:(ps.map fun q=>(q.1,kK q.2)).map (·.1)=ps.map (·.1):=by rw[List.map_map];rfl
   have hm2:(ps.map fun q=>(q.1,kK q.2)).map (·.2)=ps.map fun q=>kK q.2:=by rw[List.map_map];rfl
   have Ce:=Oj lo 158 (.slice a ps.length cap) (ps.map fun q=>(q.1,kK q.2)) wr (by rw[hm1,List.length_map];exact HR.out) (fun p hp=>by
    obtain⟨q,hq,rfl⟩:=List.mem_map.1 hp;exact Kind.aH (HT'.out q hq) fun k _ hB=>⟨fun e=>HA.out q hq k hB e,HQl.out q hq k hB⟩) (by rw[List.length_map];omega)
   rw[hm2] at Ce;have HSo:=hide Ce;clear Ce hm1 hm2 e
   go_wp2_with fail
   refine HSo.out.mono ?_;rintro e w2 ⟨rfl,hsl,hO⟩;have HSL:=hide hsl;have HL2:=hide (hO.later HL.out fun k e=>by have:=HVL.out k e;omega);clear hsl hO HSo;go_wp2;go_ret;exact⟨rfl,HSL.out,HL2.out⟩
set_option maxRecDepth 100000 in
theorem Q0 (a b:Int) (w:World):(Instr.field 75 (.agg #[.int .i64 a,.int .i64 b]) 0).run Tryz.prog w=.ok (.int .i64 a) w:=by
 first|kernel_rfl|(simp[Instr.field,run_underlying Tryz.underlying75])|go_simp
def pI (body:List aF) (fs os:List aI):Int:=if aP body≠0 then aP body else if(bA fs).1≠0 then(bA fs).1 else(bA os).1
set_option maxRecDepth 100000 in
set_option maxHeartbeats 1000000 in
theorem Mc (body:List aF) (v fv ov:Value) (fs os:List aI) (w:World) (hv:bV.sl bU w v body) (hf:Facts w fv fs) (ho:Facts w ov os):
  Calls Tryz.prog 156 #[v,fv,ov] w fun e w'=>e=.returned (.int .i64 (pI body fs os))∧Below w.heap.size w w':=by
 have HB:=hide (Dk body v w hv);have HF:Hid (∀w1,Below w.heap.size w w1→Calls Tryz.prog 120 #[fv] w1 fun e w'=>e=.returned (.agg #[.int .i64 (bA fs).1,.int .i64 (bA fs).2])∧Hid (Below w.heap.size w w')):=fun w1 h1=>
  (Qh fv fs w1 (hf.below h1)).mono fun e w' ⟨he,hL⟩=>⟨he,aj h1 hL.below h1.size⟩
 have HO:Hid (∀w1,Below w.heap.size w w1→Calls Tryz.prog 120 #[ov] w1 fun e w'=>e=.returned (.agg #[.int .i64 (bA os).1,.int .i64 (bA os).2])∧Hid (Below w.heap.size w w')):=fun w1 h1=>
  (Qh ov os w1 (ho.below h1)).mono fun e w' ⟨he,hL⟩=>⟨he,aj h1 hL.below h1.size⟩
 obtain⟨a,cap,rfl⟩:=Kind.slice hv;obtain⟨fa,fc,rfl⟩:=aB hf;obtain⟨oa,oc,rfl⟩:=aB ho;clear hv hf ho;have E:pI body fs os=if aP body≠0 then aP body else if(bA fs).1≠0 then(bA fs).1 else(bA os).1:=rfl;generalize pI body fs os=R at*;generalize aP body=eb at*;generalize bA fs=ef at*;generalize bA os=eo at*;obtain⟨f1,f2⟩:=ef;obtain⟨o1,o2⟩:=eo;dsimp only at*
 by_cases h0:eb=0
 ·subst h0;rw[if_neg (by simp)] at E
  by_cases h1:f1=0
  ·subst h1;rw[if_neg (by simp)] at E;have HE:=hide E;have hfe:=Q0;clear E
   go_enter Tryz.func156,Tryz.ntmps156
   go_wp2_with fail
   refine HB.out.mono ?_;rintro e w1 ⟨rfl,hB1⟩;have H1:=hide (HF.out w1 hB1);clear HB HF hB1
   go_wp2_with fail
   refine H1.out.mono ?_;rintro e w2 ⟨rfl,hB2⟩;have H2:=hide (HO.out (w2.alloc (.cells #[.int .i64 0,.int .i64 f2] 75)) (hB2.out.alloc hB2.out.size _));clear HO H1 hB2
   go_wp2_with fail
   refine H2.out.mono ?_;rintro e w3 ⟨rfl,hB3⟩;clear H2;go_wp2;go_ret;exact⟨by rw[HE.out];rfl,hB3.out⟩
  ·rw[if_pos h1] at E;have HE:=hide E;have hq:(f1 != 0)=true:=by simpa using h1
   clear E h1 HO
   go_enter Tryz.func156,Tryz.ntmps156
   go_wp2_with fail
   refine HB.out.mono ?_;rintro e w1 ⟨rfl,hB1⟩;have H1:=hide (HF.out w1 hB1);clear HB HF hB1
   go_wp2_with fail
   refine H1.out.mono ?_;rintro e w2 ⟨rfl,hB2⟩;clear H1;go_wp2;go_ret;exact⟨by rw[HE.out];rfl,hB2.out.alloc hB2.out.size _⟩
 ·rw[if_pos h0] at E;have HE:=hide E;have hq:(eb != 0)=true:=by simpa using h0
  clear E h0 HO HF
  go_enter Tryz.func156,Tryz.ntmps156
  go_wp2_with fail
  refine HB.out.mono ?_;rintro e w1 ⟨rfl,hB1⟩;have HB1:=hide hB1;clear HB hB1;go_wp2;go_ret;exact⟨by rw[HE.out];rfl,HB1.out⟩
def yB (w:World) (v:Value) (er:Int) (body:List aF) (fs:List aI) (at_:Int) (os:List aI):Prop:=
 if pI body fs os≠0 then v=.slice none 0 0∧er=pI body fs os else match lZ (gV fs at_ os) body with
  |none=>v=.slice none 0 0∧er=4
  |some R=>er=0∧jL.sl bU w v R
theorem GR {body:List aF} {fs os:List aI} (h:pI body fs os=0):aP body=0∧(bA fs).1=0∧(bA os).1=0:=by
 unfold pI at h;split at h
 ·rename_i h1;exact absurd h h1
 ·rename_i h1;split at h
  ·rename_i h2;exact absurd h h2
  ·rename_i h2;exact⟨Classical.byContradiction h1,Classical.byContradiction h2,h⟩
theorem nK:∀{l:List aF},bG l=0→∀a∈l,aQ a=0
 |[],_,a,ha=>by cases ha
 |b::l,h,a,ha=>by
  unfold bG at h
  by_cases hb:aQ b=0
  ·rcases List.mem_cons.1 ha with e|h1
   ·rw[e];exact hb
   ·refine nK ?_ a h1;simpa[hb] using h
  ·simp[hb] at h
theorem wu {body:List aF} (h:aP body=0):body.length≤5∧∀a∈body,aQ a=0:=by
 unfold aP at h;split at h
 ·simp at h
 ·split at h
  ·rename_i h5 ha;exact⟨by omega,nK ha⟩
  ·rename_i hne;exact absurd h hne
theorem wD {fs os:List aI} {at_:Int} {P:List aI→Prop} (h1:P fs) (h2:P os) (n:Nat):P (gV fs at_ os n):=by
 unfold gV;split
 ·exact h2
 ·exact h1
def tK (lo:Nat) (w:World) (v:Value) (er:Int) (body:List aF) (fs:List aI) (at_:Int) (os:List aI):Prop:=
 if pI body fs os≠0 then v=.slice none 0 0∧er=pI body fs os else match lZ (gV fs at_ os) body with
  |none=>v=.slice none 0 0∧er=4
  |some R=>er=0∧jL.sl (From lo) w v R
theorem tK.any {lo:Nat} {w:World} {v:Value} {er:Int} {body:List aF} {fs os:List aI} {at_:Int} (h:tK lo w v er body fs at_ os):yB w v er body fs at_ os:=by
 unfold tK at h;unfold yB;split
 ·rename_i h0;rw[if_pos h0] at h;exact h
 ·rename_i h0;rw[if_neg h0] at h;cases e:lZ (gV fs at_ os) body with
  |none=>rw[e] at h;exact h
  |some R=>rw[e] at h;exact⟨h.1,Kind.bW h.2⟩
set_option maxRecDepth 100000 in
set_option maxHeartbeats 2000000 in
theorem OD (body:List aF) (v fv ov:Value) (fs os:List aI) (at_:Int) (w:World) (hv:bV.sl bU w v body) (hf:Facts w fv fs) (ho:Facts w ov os):
  Calls Tryz.prog 88 #[v,fv,.int .i64 at_,ov] w fun e w'=>∃v' er,e=.returned (.tuple #[v',.int .i64 er])∧tK w.heap.size w' v' er body fs at_ os∧Below w.heap.size w w':=by
 obtain⟨a,cap,hva⟩:=Kind.slice hv;have HW:Hid (Calls Tryz.prog 156 #[v,fv,ov] (w.alloc (.cells #[v] 73)) fun e w'=>e=.returned (.int .i64 (pI body fs os))∧Below (w.alloc (.cells #[v] 73)).heap.size (w.alloc (.cells #[v] 73)) w'):=
  Mc body v fv ov fs os _ (Kind.aO hv ((Later.refl _).alloc _)) (hf.later ((Later.refl _).alloc _)) (ho.later ((Later.refl _).alloc _))
 have HV:=hide hv;have HF:=hide hf;have HO:=hide ho;obtain⟨fa,fc,hfa⟩:=aB hf;obtain⟨oa,oc,hoa⟩:=aB ho;subst hva hfa hoa;clear hv hf ho
 by_cases h0:pI body fs os=0
 ·rw[h0] at HW;have H0:=hide h0;obtain⟨hw0,hf0,ho0⟩:=GR h0;obtain⟨hb5,hba⟩:=wu hw0;obtain⟨hfl,hfr,_⟩:=set_right hf0;obtain⟨hol,hor,_⟩:=set_right ho0;have HPr:Hid (∀n,gW (gV fs at_ os n)):=wD hfr hor;have HPl:Hid (∀n,(gV fs at_ os n).length≤200):=wD (P:=fun l=>l.length≤200) hfl hol;have HBa:Hid (∀a∈body,a.terms.length≤4):=fun a ha=>(dD (hba a ha)).2.1;clear h0 hw0 hf0 ho0 hba hfl hol hfr hor
  go_enter Tryz.func88,Tryz.ntmps88
  go_wp2_with fail
  refine HW.out.mono ?_;rintro e w1 ⟨rfl,hB1⟩;have hBw:Below w.heap.size w w1:=aj ((Later.refl w).alloc _).below hB1 (by simp);have hs1:w.heap.size<w1.heap.size:=by have:=hB1.size;simp at this;omega
  have z0:w1.cell? ⟨w.heap.size,0,none⟩=some (.slice a body.length cap):=by rw[hB1.cell (by simp)];simp
  have HSr:=hide (LQ _ _ fs os at_ w1 (HF.out.below hBw) (HO.out.below hBw));have HBw:=hide hBw;clear HW hB1 hBw
  go_wp2_with fail
  refine HSr.out.mono ?_;rintro e w2 ⟨rfl,hL2,hs2,y0,y1,y2⟩;have hB2:Below w.heap.size w w2:=aj HBw.out hL2.below HBw.out.size;obtain⟨w3,hw3⟩:∃w3,w3=w2.alloc (.cells #[.func (.func 217) #[] #[.pointer (some ⟨w1.heap.size+1,0,none⟩),.pointer (some ⟨w1.heap.size+2,0,none⟩),.pointer (some ⟨w1.heap.size,0,none⟩)]] 227):=⟨_,rfl⟩;have hL3:Later w2 w3:=by rw[hw3];exact(Later.refl _).alloc _
  have hB3:Below w.heap.size w w3:=aj hB2 hL3.below hB2.size;have hs3:w3.heap.size=w2.heap.size+1:=by rw[hw3];simp
  have x0:w3.cell? ⟨w.heap.size,0,none⟩=some (.slice a body.length cap):=by rw[(hL2.trans hL3).cell (by exact hs1)];exact z0
  have x1:w3.cell? ⟨w2.heap.size,0,none⟩=some (.func (.func 217) #[] #[.pointer (some ⟨w1.heap.size+1,0,none⟩),.pointer (some ⟨w1.heap.size+2,0,none⟩),.pointer (some ⟨w1.heap.size,0,none⟩)]):=by rw[hw3];simp
  have hPk:zQ 217 #[.pointer (some ⟨w1.heap.size+1,0,none⟩),.pointer (some ⟨w1.heap.size+2,0,none⟩),.pointer (some ⟨w1.heap.size,0,none⟩)] (gV fs at_ os) w3.heap.size w3:=
   Jy w1.heap.size (w1.heap.size+1) (w1.heap.size+2) _ _ fs os at_ _ w3 (HF.out.below hB3) (HO.out.below hB3) (by rw[hL3.cell (by show w1.heap.size<w2.heap.size;omega)];exact y0) (by rw[hL3.cell (by show w1.heap.size+1<w2.heap.size;omega)];exact y1) (by rw[hL3.cell (by show w1.heap.size+2<w2.heap.size;omega)];exact y2) (by omega) (by omega) (by omega) rfl
  have hDl:=Oo w.heap.size w2.heap.size body _ 217 _ nE (gV fs at_ os) w3.heap.size w3 (Kind.aX HV.out hB3) hPk hb5 HPr.out x0 x1 (by omega) (by omega) rfl;have HMt:=hide (Vp body _ 217 _ nE (gV fs at_ os) w3 (Kind.aX HV.out hB3) hPk hb5 HBa.out HPl.out);have HDl:=hide hDl;have HB3:=hide hB3;have HW3:=hide hw3;have u0:w2.cell? ⟨w.heap.size,0,none⟩=some (.slice a body.length cap):=by rw[hL2.cell (by exact hs1)];exact z0
  have hx0:w.heap.size<w2.heap.size:=by omega
  clear x0 x1;have hAB:lZ (gV fs at_ os) body=match fG (gV fs at_ os) 0 body [[]] with|none=>none|some ms=>some (jB iW ((ms.filter fun l=> !barredB (gV fs at_ os) 0 body l).map kK)):=rfl
  generalize barredB (gV fs at_ os) 0 body=bp at*;clear HSr hL2 hB2 hL3 hB3 hPk hDl hw3 y0 y1 y2 z0 hs2 hs3 HPr HPl HBa HF HO HBw
  go_wp2_with fail
  rw[←HW3.out];refine HMt.out.mono ?_;rintro e w4 ⟨v4,er,rfl,hMT,hL4⟩;cases hmg:fG (gV fs at_ os) 0 body [[]] with
  |none=>
   rw[hmg] at hMT hAB;obtain⟨rfl,rfl⟩:=hMT;dsimp only at hAB;have HAB:=hide hAB;have HL4:=hide hL4;clear hmg hAB HMt hL4;go_wp2
   go_ret2
   refine⟨.slice none 0 0,4,rfl,?_,aj HB3.out HL4.out.below HB3.out.size⟩;unfold tK;rw[if_neg (fun h=>h H0.out),HAB.out];exact⟨rfl,rfl⟩
  |some ms=>
   rw[hmg] at hMT hAB;obtain⟨rfl,ps,hps,hpl,hpq,hLs⟩:=hMT;dsimp only at hAB;have hpl':ps.length≤20000:=by rw[←hps,List.length_map] at hpl;exact hpl
   have Q5:∀q∈ps,q.2.length≤20:=fun q hq=>hpq _ (by rw[←hps];exact List.mem_map.2 ⟨q,hq,rfl⟩);have HDe:=hide (Ma v4 ps 160 _ zT bp w3.heap.size w3.heap.size w3 w4 HDl.out hL4.below (Nat.le_refl _) hL4.size hLs hpl' Q5);obtain⟨a4,n4,c4,rfl⟩:∃a n c,v4=.slice a n c:=by obtain⟨a,c,e⟩:=Lists.slice hLs;exact⟨a,_,c,e⟩
   have HLo:Hid (∀k,(Value.slice a4 n4 c4).ownBlock=some k→w3.heap.size≤k):=fun k e=>hLs.lo_le k e;have HAB:=hide hAB;have HL4:=hide hL4;have HPS:=hide hps;have HPL:=hide hpl';have HPQ:=hide Q5;clear hmg hAB HMt hL4 hps hpl hpq hLs hpl' Q5
   go_wp2_with fail
   refine HDe.out.mono ?_;rintro e w5 ⟨v5,rfl,Q6,hob,hO5⟩;have hL5:Later w3 w5:=hO5.later HL4.out fun k e=>HLo.out k e;have hkl:(jR bp ps).length≤20000:=Nat.le_trans (List.length_filter_le _ _) HPL.out;have HRi:=hide (OB v5 (jR bp ps) w3.heap.size w3 w5 hL5 (Nat.le_refl _) Q6 hkl (fun q hq=>HPQ.out q (List.mem_filter.1 hq).1));obtain⟨a5,n5,c5,rfl⟩:∃a n c,v5=.slice a n c:=by obtain⟨a,c,e⟩:=Lists.slice Q6;exact⟨a,_,c,e⟩
   clear HDe Q6 hob hO5 hL5 hkl
   go_wp2_with fail
   refine HRi.out.mono ?_;rintro e w6 ⟨rfl,hsl,hL6⟩;have HSL:=hide hsl;have HL6:=hide hL6;clear HRi hsl hL6;go_wp2
   go_ret2
   refine⟨.slice a5 n5 c5,0,rfl,?_,aj HB3.out HL6.out.below HB3.out.size⟩;unfold tK;rw[if_neg (fun h=>h H0.out),HAB.out];have e:(ms.filter fun l=> !bp l).map kK=(jR bp ps).map fun q=>kK q.2:=by
    rw[←HPS.out];unfold jR;rw[List.filter_map,List.map_map]
    rfl
   rw[e];exact⟨rfl,Kind.aH HSL.out fun k _ hk=>Nat.le_trans HB3.out.size hk⟩
 ·have hq:(pI body fs os != 0)=true:=by simpa using h0
  have H0:=hide h0;generalize her:pI body fs os=er at*;have HER:=hide her;clear h0 HV HF HO her
  go_enter Tryz.func88,Tryz.ntmps88
  go_wp2_with fail
  refine HW.out.mono ?_;rintro e w1 ⟨rfl,hB1⟩;have HB:=hide (aj ((Later.refl w).alloc (.cells #[.slice a body.length cap] 73)).below hB1 (by simp));clear HW hB1;go_wp2
  go_ret2
  refine⟨.slice none 0 0,er,rfl,?_,HB.out⟩;unfold tK;rw[HER.out,if_pos H0.out];exact⟨rfl,rfl⟩
theorem Q7 (body:List aF) (v fv ov:Value) (fs os:List aI) (at_:Int) (w:World) (hv:bV.sl bU w v body) (hf:Facts w fv fs) (ho:Facts w ov os):
  Calls Tryz.prog 88 #[v,fv,.int .i64 at_,ov] w fun e w'=>∃v' er,e=.returned (.tuple #[v',.int .i64 er])∧yB w' v' er body fs at_ os∧Below w.heap.size w w':=
 (OD body v fv ov fs os at_ w hv hf ho).mono fun _ _ ⟨v',er,h1,h2,h3⟩=>⟨v',er,h1,h2.any,h3⟩
end Go.Proofs.YtafmbokfkbccaaaGreatDoor
namespace Go.Proofs.YtafmbokfkbccaaaGreatDoor
open Go.RowKit Go.Sort
theorem Md (x y:aD) (w:World):(binOp .neq 190 (.agg #[.string x.1,.string x.2]) (.agg #[.string y.1,.string y.2])).run Tryz.prog w=.ok (.bool (!decide (x=y))) w:=by
 have e:decide (x=y)=(x.1.toList==y.1.toList&&x.2.toList==y.2.toList):=by
  rw[sS,sS];obtain⟨x1,x2⟩:=x;obtain⟨y1,y2⟩:=y;rw[Bool.eq_iff_iff];simp
 rw[e];generalize x.1=a;generalize x.2=b;generalize y.1=c;generalize y.2=d;go_simp
 by_cases h1:a.toList=c.toList <;> by_cases h2:b.toList=d.toList <;> simp[h1,h2]
def nL (l m:List aD):Bool:=decide (iW l m<0)
theorem Cg {l m:List aD} {j:Nat} {x y:aD} (hx:l[j]?=some x) (hy:m[j]?=some y):nL (l.drop j) (m.drop j)=if x=y then nL (l.drop (j+1)) (m.drop (j+1)) else decide (rA x y<0):=by
 obtain⟨h1,e1⟩:=List.getElem?_eq_some_iff.1 hx;obtain⟨h2,e2⟩:=List.getElem?_eq_some_iff.1 hy;rw[List.drop_eq_getElem_cons h1,List.drop_eq_getElem_cons h2,e1,e2];unfold nL;show decide ((if rA x y≠0 then rA x y else rQ rA _ _)<0)=_
 by_cases h:x=y
 ·rw[if_pos h,if_neg (by rw[h,fC.refl];simp)]
 ·rw[if_neg h,if_pos (fun e=>h (fC.zero _ _ e))]
theorem Me (x y:aD):decide (rA x y<0)=(Op.bytesLess x.1.toList y.1.toList||(x.1.toList==y.1.toList&&Op.bytesLess x.2.toList y.2.toList)):=by
 unfold rA
 by_cases h:x.1.toList=y.1.toList
 ·have h':(x.1.toList==y.1.toList)=true:=by simpa using h
  rw[if_neg (by rw[Lr h'];simp),FW,h',h,lU];rfl
 ·have h':(x.1.toList==y.1.toList)=false:=by simpa using h
  rw[if_pos (Lp h'),FW,h'];simp
set_option maxRecDepth 100000 in
set_option maxHeartbeats 4000000 in
theorem zY (u v:Value) (l m:List aD) (w:World) (hu:bL.sl bU w u l) (hv:bL.sl bU w v m):
  Calls Tryz.prog 89 #[u,v] w fun e w'=>e=.returned (.bool (nL l m))∧Later w w':=by
 obtain⟨a,cap,rfl⟩:=Kind.slice hu;obtain⟨a',cap',rfl⟩:=Kind.slice hv;have hl:=hu.1.1;have hm:=hv.1.1;have HU:=hide hu;have HV:=hide hv;clear hu hv;generalize hR:nL l m=R at*;have H0:Hid (R=nL (l.drop 0) (m.drop 0)):=hR.symm;clear hR
 go_enter Tryz.func89,Tryz.ntmps89
 go_wp2
 go_loopg [8] l.length (fun g i wr=>∃j:Nat,j+g=l.length∧i=.int .i64 j∧Hid (R=nL (l.drop j) (m.drop j))∧Hid (j≤m.length)∧Hid (Later w wr))
 case atStart=>exact⟨0,by omega,rfl,H0,(Nat.zero_le _:_≤_),Later.refl _⟩
 case round=>
  obtain⟨j,hj,rfl,HE,HJ,HL⟩:=hrel;have hjm:=HJ.out
  by_cases hlt:j<l.length
  ·obtain⟨x,hx⟩:∃x,l[j]?=some x:=⟨_,List.getElem?_eq_getElem hlt⟩;obtain⟨b1,o1,_,rfl,hb1,rfl,hc⟩:=Kind.eT HU.out hx
   by_cases hlm:j<m.length
   ·obtain⟨y,hy⟩:∃y,m[j]?=some y:=⟨_,List.getElem?_eq_getElem hlm⟩;obtain⟨b2,o2,_,rfl,hb2,rfl,hc2⟩:=Kind.eT HV.out hy;have d0:wr.cell? ⟨b1,o1+j*2,none⟩=some (.string x.1):=by rw[HL.out.cell hb1];exact hc 0 _ rfl
    have d1:wr.cell? ⟨b1,o1+j*2+1,none⟩=some (.string x.2):=by rw[HL.out.cell hb1];exact hc 1 _ rfl
    have d2:wr.cell? ⟨b2,o2+j*2,none⟩=some (.string y.1):=by rw[HL.out.cell hb2];exact hc2 0 _ rfl
    have d3:wr.cell? ⟨b2,o2+j*2+1,none⟩=some (.string y.2):=by rw[HL.out.cell hb2];exact hc2 1 _ rfl
    have hbr:b1<wr.heap.size:=Nat.lt_of_lt_of_le hb1 HL.out.size;have Tf:b2<wr.heap.size:=Nat.lt_of_lt_of_le hb2 HL.out.size;have E:=Cg hx hy;have hq:=Md x y;have hjz:(j:Int)<(m.length:Int):=by omega
    have WW:¬((m.length:Int)≤(j:Int)):=by omega
    by_cases hxy:x=y
    ·rw[if_pos hxy] at E;rw[decide_eq_true hxy] at hq;have HE1:Hid (R=nL (l.drop (j+1)) (m.drop (j+1))):=by show _=_;rw[HE.out,E]
     clear E HE hc hc2 hx hy hxy;obtain⟨x1,x2⟩:=x;obtain⟨y1,y2⟩:=y;dsimp only at*;go_wp2
     go_quiet (fail)
     go_wp2
     go_roundg (l.length- (j+1))
     case measure=>omega
     case rel=>exact⟨j+1,by omega,by go_num,HE1,(by omega:j+1≤m.length),HL.out.drewN _⟩
    ·rw[if_neg hxy,Me] at E;rw[decide_eq_false hxy] at hq;obtain⟨x1,x2⟩:=x;obtain⟨y1,y2⟩:=y;dsimp only at*;cases h1:Op.bytesLess x1.toList y1.toList
     ·cases h2:(x1.toList==y1.toList)
      ·have HE1:Hid (R=false):=by show _=_;rw[HE.out,E,h1,h2];rfl
       clear E HE hc hc2 hx hy hxy;go_wp2
       go_quiet (fail)
       go_wp2
       go_quiet (fail)
       go_wp2;go_ret;exact⟨by rw[HE1.out];rfl,(HL.out.drewN _).drewN _⟩
      ·have HE1:Hid (R=Op.bytesLess x2.toList y2.toList):=by show _=_;rw[HE.out,E,h1,h2];rfl
       clear E HE hc hc2 hx hy hxy;go_wp2
       go_quiet (fail)
       go_wp2
       go_quiet (fail)
       go_wp2;go_ret;exact⟨by rw[HE1.out];rfl,(HL.out.drewN _).drewN _⟩
     ·have HE1:Hid (R=true):=by show _=_;rw[HE.out,E,h1];rfl
      clear E HE hc hc2 hx hy hxy;go_wp2
      go_quiet (fail)
      go_wp2
      go_quiet (fail)
      go_wp2;go_ret;exact⟨by rw[HE1.out];rfl,(HL.out.drewN _).drewN _⟩
   ·have HE1:Hid (R=false):=by
     show _=_;obtain⟨h1,e1⟩:=List.getElem?_eq_some_iff.1 hx;rw[HE.out,List.drop_eq_getElem_cons h1,List.drop_eq_nil_of_le (by omega:m.length≤j)];rfl
    have hjz:(m.length:Int)≤(j:Int):=by omega
    clear hc hx HE;go_wp2;go_ret;exact⟨by rw[HE1.out];rfl,HL.out⟩
  ·have e:j=l.length:=by omega
   have HE1:Hid (R=decide (l.length<m.length)):=by
    show _=_;rw[HE.out,List.drop_eq_nil_of_le (by omega:l.length≤j)]
    by_cases hlm:j<m.length
    ·rw[List.drop_eq_getElem_cons hlm,decide_eq_true (by omega)];rfl
    ·rw[List.drop_eq_nil_of_le (by omega:m.length≤j),decide_eq_false (by omega)];rfl
   clear HE;go_wp2;go_ret;exact⟨by rw[HE1.out];rfl,HL.out⟩
set_option maxRecDepth 100000 in
set_option maxHeartbeats 2000000 in
theorem zZ (u v:Value) (ls:List (List aD)) (w:World) (hu:jL.sl bU w u ls) (hv:jL.sl bU w v ls):
  Calls Tryz.prog 41 #[u,v] w fun e w'=>e=.returned (.bool true)∧Later w w':=by
 obtain⟨a,cap,rfl⟩:=Kind.slice hu;obtain⟨a',cap',rfl⟩:=Kind.slice hv;have hl:=hu.1.1;have HU:=hide hu;have HV:=hide hv;clear hu hv;have hqq:((ls.length:Int) != (ls.length:Int))=false:=by simp
 have mx:=mixed
 go_enter Tryz.func41,Tryz.ntmps41
 go_wp2
 go_loopg [13] ls.length (fun g i wr=>∃j:Nat,j+g=ls.length∧i=.int .i64 j∧Hid (Later w wr))
 case atStart=>exact⟨0,by omega,rfl,Later.refl _⟩
 case round=>
  obtain⟨j,hj,rfl,HL⟩:=hrel
  by_cases hlt:j<ls.length
  ·obtain⟨l,hx⟩:∃x,ls[j]?=some x:=⟨_,List.getElem?_eq_getElem hlt⟩;obtain⟨b1,o1,_,rfl,hb1,⟨x,rfl,hxs⟩,hc⟩:=Kind.eT HU.out hx;obtain⟨b2,o2,_,rfl,hb2,⟨y,rfl,hys⟩,hc2⟩:=Kind.eT HV.out hx;have d0:∀q os,(grow (wr.drewN q) os).cell? ⟨b1,o1+j,none⟩=some x:=fun q os=>by
    have hL2:Later w (grow (wr.drewN q) os):=HL.out.trans ⟨q,os,rfl⟩;rw[hL2.cell hb1];simpa[slK] using hc 0 _ rfl
   have d1:∀q os,(grow (wr.drewN q) os).cell? ⟨b2,o2+j,none⟩=some y:=fun q os=>by
    have hL2:Later w (grow (wr.drewN q) os):=HL.out.trans ⟨q,os,rfl⟩;rw[hL2.cell hb2];simpa[slK] using hc2 0 _ rfl
   have hself:nL l l=false:=by unfold nL;rw[gG.refl];rfl
   have H1:Hid (∀q os,Calls Tryz.prog 89 #[x,y] (grow (wr.drewN q) os) fun e w2=>e=.returned (.bool false)∧Later (grow (wr.drewN q) os) w2):=fun q os=>by
    have hL2:Later w (grow (wr.drewN q) os):=HL.out.trans ⟨q,os,rfl⟩;have:=zY x y l l (grow (wr.drewN q) os) (Kind.aO hxs hL2) (Kind.aO hys hL2)
    rwa [hself] at this
   have H2:Hid (∀q os,Calls Tryz.prog 89 #[y,x] (grow (wr.drewN q) os) fun e w2=>e=.returned (.bool false)∧Later (grow (wr.drewN q) os) w2):=fun q os=>by
    have hL2:Later w (grow (wr.drewN q) os):=HL.out.trans ⟨q,os,rfl⟩;have:=zY y x l l (grow (wr.drewN q) os) (Kind.aO hys hL2) (Kind.aO hxs hL2)
    rwa [hself] at this
   obtain⟨xa,xc,rfl⟩:=Kind.slice hxs;obtain⟨ya,yc,rfl⟩:=Kind.slice hys;have hjz:(j:Int)<(ls.length:Int):=by omega
   clear hc hc2 hx hxs hys hself;go_wp2
   go_quiet_grown ((first|(go_at_call_of 89 (#[Value.slice xa l.length xc,Value.slice ya l.length yc]);exact Calls.grown_of (H1.out _ _))|(go_at_call_of 89 (#[Value.slice ya l.length yc,Value.slice xa l.length xc]);exact Calls.grown_of (H2.out _ _))))
   go_wp2
   go_roundg (ls.length- (j+1))
   case measure=>omega
   case rel=>exact⟨j+1,by omega,by go_num,HL.out.trans ⟨_,_,rfl⟩⟩
  ·go_wp2;go_ret;exact⟨rfl,HL.out⟩
theorem tL (w:World):Facts w (.slice none 0 0) []:=⟨by simp,none,0,rfl,fun h=>absurd rfl h⟩
set_option maxHeartbeats 1000000 in
theorem Q8 (body:List aF) (v fv:Value) (fs:List aI) (w:World) (hv:bV.sl bU w v body) (hf:Facts w fv fs):
  Calls Tryz.prog 40 #[v,fv] w fun e w'=>∃v' er,e=.returned (.tuple #[v',.int .i64 er])∧tK w.heap.size w' v' er body fs (-1) []∧Below w.heap.size w w':=by
 have HW:=hide (OD body v fv (.slice none 0 0) fs [] (-1) w hv hf (tL w));obtain⟨a,cap,rfl⟩:=Kind.slice hv;obtain⟨fa,fc,rfl⟩:=aB hf;clear hv hf
 go_enter Tryz.func40,Tryz.ntmps40
 go_wp2_with fail
 refine HW.out.mono ?_;rintro e w1 ⟨v',er,rfl,hT,hB⟩;have HT:=hide hT;have HB:=hide hB;clear hT hB HW;go_wp2
 go_ret2
 exact⟨v',er,rfl,HT.out,HB.out⟩
theorem Tm (body:List aF) (v fv:Value) (fs:List aI) (w:World) (hv:bV.sl bU w v body) (hf:Facts w fv fs):
  Calls Tryz.prog 40 #[v,fv] w fun e w'=>∃v' er,e=.returned (.tuple #[v',.int .i64 er])∧yB w' v' er body fs (-1) []∧Below w.heap.size w w':=
 (Q8 body v fv fs w hv hf).mono fun _ _ ⟨v',er,h1,h2,h3⟩=>⟨v',er,h1,h2.any,h3⟩
end Go.Proofs.YtafmbokfkbccaaaGreatDoor
namespace Go.Proofs.YtafmbokfkbccaaaGreatDoor
open Go.RowKit Go.Sort Go.Maps
theorem lG (pick:Nat→List au):∀(ats:List aF) (n:Nat) (ls ms:List (List aD)),ls.length≤20000→fG pick n ats ls=some ms→ms.length≤20000
 |[],_,ls,ms,h,e=>by cases e;exact h
 |a::ats,n,ls,ms,h,e=>by
  unfold fG at e;split at e
  ·exact lG pick ats _ ls ms h e
  ·split at e
   ·cases e
   ·exact lG pick ats _ _ ms (by omega) e
theorem kR {pick:Nat→List au} {body:List aF} {R:List (List aD)} (h:lZ pick body=some R):R.length≤20000:=by
 unfold lZ at h;cases e:fG pick 0 body [[]] with
 |none=>rw[e] at h;cases h
 |some ms=>
  rw[e] at h;cases h;have:=lG pick body 0 [[]] ms (by simp) e;rw[(dL _).length_eq,List.length_map];exact Nat.le_trans (List.length_filter_le _ _) this
theorem Aa (fs:List aI):gV fs (-1) []=fun _=>fs:=by
 funext n
 unfold gV;rw[if_neg (by omega)]
def nM (w:World) (v:Value) (er:Int) (r:aA) (fs:List au):Prop:=
 if pI r.body fs []≠0 then v=.slice none 0 0∧er=pI r.body fs [] else match gY r fs with
  |none=>v=.slice none 0 0∧er=4
  |some x=>er=0∧Facts w v x
theorem JF {w:World} {g:Nat} {f:au} {s:Value} (h:w.heap[g]?=some (.cells #[.string f.1,s] 27 (0,0))) (hs:Strs w s f.2):Facts w (.slice (some ⟨g,0,none⟩) 1 1) [f]:=by
 refine⟨by simp,_,1,rfl,fun _=>⟨g,0,rfl,(Array.getElem?_eq_some_iff.1 h).1,fun i hi=> ?_⟩⟩;have:i=0:=by simp at hi;omega
 subst this;exact⟨by rw[cell_of_row _ _ _ _ _ _ h];rfl,s,by rw[cell_of_row _ _ _ _ _ _ h];rfl,hs⟩
set_option maxHeartbeats 4000000 in
theorem KT (r:aA) (tv bv fv:Value) (fs:List au) (w:World) (ht:dG.sl bU w tv r.head.terms) (hb:bV.sl bU w bv r.body) (hf:Facts w fv fs)
  (hs:∀R,lZ (fun _=>fs) r.body=some R→∀l∈R,∀f,aV r.head l=some f→mE f):
  Calls Tryz.prog 42 #[.agg #[.bool r.head.no,.string (bs r.head.name),tv,bv],fv] w fun e w'=>∃v' er,e=.returned (.tuple #[v',.int .i64 er])∧nM w' v' er r fs∧Below w.heap.size w w':=by
 obtain⟨ta,tc,rfl⟩:=Kind.slice ht;obtain⟨ba,bc,rfl⟩:=Kind.slice hb;obtain⟨fa,fc,rfl⟩:=aB hf;obtain⟨wb,hwb⟩:∃wb,wb=w.alloc (.cells #[.bool r.head.no,.string (bs r.head.name),.slice ta r.head.terms.length tc,.slice ba r.body.length bc] 87):=⟨_,rfl⟩;have hLb:Later w wb:=by rw[hwb];exact(Later.refl w).alloc _
 have hrb:wb.heap[w.heap.size]?=some (.cells #[.bool r.head.no,.string (bs r.head.name),.slice ta r.head.terms.length tc,.slice ba r.body.length bc] 87 (0,0)):=by rw[hwb];exact heap_alloc_new w _
 have HA:=hide (Tm r.body (.slice ba r.body.length bc) (.slice fa fs.length fc) fs wb (Kind.aO hb hLb) (hf.later hLb));have HTm:=hide (Kind.aO ht hLb);have HS:=hide hs;have HLb:=hide hLb;have HRb:=hide hrb;have c3:wb.cell? ⟨w.heap.size,3,none⟩=some (.slice ba r.body.length bc):=by rw[cell_of_row _ _ _ _ _ _ hrb];rfl
 have HWB:=hide hwb;clear ht hb hf hs hLb hrb
 go_enter Tryz.func42,Tryz.ntmps42
 rw[hwb] at c3;clear hwb
 go_wp2_with fail
 rw[←HWB.out];clear c3;refine HA.out.mono ?_;rintro e w1 ⟨v1,er,rfl,hT,hB1⟩;clear HA;unfold yB at hT;rw[Aa] at hT;have HB1:Hid (Below w.heap.size w w1):=aj HLb.out.below hB1 HLb.out.size;have OG:w.heap.size<wb.heap.size:=(Array.getElem?_eq_some_iff.1 HRb.out).1;have HR1:Hid (w1.heap[w.heap.size]?=some (.cells #[.bool r.head.no,.string (bs r.head.name),.slice ta r.head.terms.length tc,.slice ba r.body.length bc] 87 (0,0))):=by
  show _=_;rw[hB1.block _ OG];exact HRb.out
 have HT1:=hide (Kind.aX HTm.out hB1);clear hB1 HTm HRb HLb HWB OG
 by_cases h0:pI r.body fs []=0
 ·rw[if_neg (by simp[h0])] at hT;cases hR:lZ (fun _=>fs) r.body with
  |none=>
   rw[hR] at hT;obtain⟨rfl,rfl⟩:=hT;have HH:Hid (∀w',nM w' (.slice none 0 0) 4 r fs):=fun w'=>by unfold nM gY;rw[if_neg (by simp[h0]),hR];exact⟨rfl,rfl⟩
   clear h0 hR HS HR1 HT1;go_wp2;exact bodyPost_ret (v:=.tuple #[.slice none 0 0,.int .i64 4]) (by simp[results,Tryz.results42,go_sem]) rfl ⟨_,4,rfl,HH.out _,HB1.out⟩
  |some R=>
   rw[hR] at hT;obtain⟨rfl,hsl⟩:=hT;have hsmall:=kR hR;have HSh:=hide (HS.out R hR);have HH:Hid (∀w' v',Facts w' v' (dN (R.filterMap fun l=>aV r.head l))→nM w' v' 0 r fs):=fun w' v' h=>by unfold nM gY;rw[if_neg (by simp[h0]),hR];exact⟨rfl,h⟩
   have HRL:=hide hsl;obtain⟨ra,rc,rfl⟩:=Kind.slice hsl;clear h0 hR hsl HS;have hmm:= @run_makeMap Tryz.prog;obtain⟨w2,hw2⟩:∃w2,w2=w1.alloc (.map #[] 0):=⟨_,rfl⟩;have HK2:Hid (KnN w2 w1.heap.size 0 ((R.take 0).filterMap fun l=>aV r.head l)):=by show KnN _ _ _ _;rw[hw2];exact fT.made _ _ _
   have HB2:Hid (Below w1.heap.size w1 w2):=by show Below _ _ _;rw[hw2];exact((Later.refl w1).alloc _).below
   have HW2:=hide hw2;clear hw2;go_wp2;rw[←HW2.out];clear hmm HW2
   go_loopg [26] R.length (fun g i wr=>∃j:Nat,j+g=R.length∧i=.int .i64 j∧Hid (KnN wr w1.heap.size j ((R.take j).filterMap fun l=>aV r.head l))∧Hid (Below w1.heap.size w1 wr))
   case atStart=>exact⟨0,by omega,rfl,HK2,HB2⟩
   case round=>
    clear HK2 HB2;obtain⟨j,hj,rfl,HK,HBr⟩:=hrel
    by_cases hlt:j<R.length
    ·obtain⟨l,hx⟩:∃x,R[j]?=some x:=⟨_,List.getElem?_eq_getElem hlt⟩;obtain⟨b1,o1,_,rfl,hb1,⟨lv,rfl,hlv⟩,hc⟩:=Kind.eT HRL.out hx;have d0:wr.cell? ⟨b1,o1+j,none⟩=some lv:=by rw[HBr.out.cell (p:=⟨b1,o1+j,none⟩) hb1];simpa[slK] using hc 0 _ rfl
     have HLV:=hide hlv;obtain⟨la,lc,rfl⟩:=Kind.slice hlv;have hbw:w.heap.size<w1.heap.size:=(Array.getElem?_eq_some_iff.1 HR1.out).1;have hrr:wr.heap[w.heap.size]?=some (.cells #[.bool r.head.no,.string (bs r.head.name),.slice ta r.head.terms.length tc,.slice ba r.body.length bc] 87 (0,0)):=by rw[HBr.out.block _ hbw];exact HR1.out
     have r0:wr.cell? ⟨w.heap.size,0,none⟩=some (.bool r.head.no):=by rw[cell_of_row _ _ _ _ _ _ hrr];rfl
     have r1:wr.cell? ⟨w.heap.size,0+1,none⟩=some (.string (bs r.head.name)):=by rw[cell_of_row _ _ _ _ _ _ hrr];rfl
     have r2:wr.cell? ⟨w.heap.size,0+2,none⟩=some (.slice ta r.head.terms.length tc):=by rw[cell_of_row _ _ _ _ _ _ hrr];rfl
     have HFc:=hide (Ob r.head _ (.slice la l.length lc) l wr (Kind.aX HT1.out HBr.out) (Kind.aX HLV.out HBr.out));have htk:R.take (j+1)=R.take j++[l]:=by rw[List.take_add_one,hx];rfl
     have hSl:=HSh.out l (List.mem_of_getElem? hx);unfold filled at HFc;clear hc hx hlv hrr;cases hfl:aV r.head l with
     |none=>
      rw[hfl] at HFc;have HK':Hid (KnN wr w1.heap.size (j+1) ((R.take (j+1)).filterMap fun l=>aV r.head l)):=by
       show KnN _ _ _ _;rw[htk,List.filterMap_append];simp only[List.filterMap_cons,hfl,List.filterMap_nil,List.append_nil];exact HK.out.mono (Nat.le_succ _)
      clear hfl htk hSl;generalize bs r.head.name=nm at*;generalize r.head.no=no at*
      go_wp2_with fail
      refine HFc.out.mono ?_;rintro e w3 ⟨f3,rfl,hfv,hL3⟩;obtain⟨s,rfl,hs⟩:=hfv;obtain⟨sA',sC',rfl⟩:=aW hs;simp only[Option.isSome_none];have HL3:Hid (Later wr w3):=hL3;clear hs hL3;go_wp2
      go_roundg (R.length- (j+1))
      case measure=>omega
      case rel=>exact⟨j+1,by omega,by go_num,HK'.out.later (HL3.out.alloc _),aj HBr.out (HL3.out.alloc _).below HBr.out.size⟩
     |some f=>
      rw[hfl] at HFc;have hsf:=hSl f hfl;have hfm:(R.take (j+1)).filterMap (fun l=>aV r.head l)=(R.take j).filterMap (fun l=>aV r.head l)++[f]:=by
       rw[htk,List.filterMap_append];simp only[List.filterMap_cons,hfl,List.filterMap_nil]
      have HFM:=hide hfm;have HSF:=hide hsf;clear hfl htk hSl hfm hsf;generalize bs r.head.name=nm at*;generalize r.head.no=no at*
      go_wp2_with fail
      refine HFc.out.mono ?_;rintro e w3 ⟨f3,rfl,hfv,hL3⟩;simp only[Option.isSome_some,Option.getD_some] at hfv⊢;obtain⟨s,rfl,hs⟩:=hfv;obtain⟨sA',sC',rfl⟩:=aW hs;obtain⟨fn,aJ⟩:=f;dsimp only at*;obtain⟨w4,hw4⟩:∃w4,w4=(w3.alloc (.cells #[.string fn,.slice sA' aJ.length sC'] 27)).alloc (.cells #[.string fn,.slice sA' aJ.length sC'] 27):=⟨_,rfl⟩;have hL4:Later w3 w4:=by rw[hw4];exact((Later.refl _).alloc _).alloc _
      have hr4:w4.heap[w3.heap.size+1]?=some (.cells #[.string fn,.slice sA' aJ.length sC'] 27 (0,0)):=by
       rw[hw4];have:=heap_alloc_new (w3.alloc (.cells #[.string fn,.slice sA' aJ.length sC'] 27)) (.cells #[.string fn,.slice sA' aJ.length sC'] 27);simpa using this
      have HAd:=hide (yA w1.heap.size j _ (.slice (some ⟨w3.heap.size+1,0,none⟩) 1 1) [(fn,aJ)] w4 (HK.out.later (hL3.trans hL4)) (JF (f:=(fn,aJ)) hr4 (hs.later hL4)) (fun g hg=>by simp only[List.mem_singleton] at hg;subst hg;exact HSF.out) (by simp;omega));have HL4:Hid (Later wr w4):=hL3.trans hL4;have HW4:=hide hw4;clear hs hL3 hL4 hr4 hw4 HFc
      go_wp2_with fail
      rw[←HW4.out];refine HAd.out.mono ?_;rintro e w5 ⟨⟨u5,rfl⟩,hK5,hT5⟩;have HK5:Hid (KnN w5 w1.heap.size (j+1) ((R.take (j+1)).filterMap fun l=>aV r.head l)):=by show KnN _ _ _ _;rw[HFM.out];exact hK5
      have hs4:w1.heap.size≤w4.heap.size:=Nat.le_trans HBr.out.size HL4.out.size;have HB5:Hid (Below w1.heap.size w1 w5):=(aj HBr.out HL4.out.below HBr.out.size).trans (hT5.below (Nat.le_refl _) hs4);clear hK5 hT5 HAd HW4;go_wp2
      go_roundg (R.length- (j+1))
      case measure=>omega
      case rel=>exact⟨j+1,by omega,by go_num,HK5,HB5⟩
    ·have hj':j=R.length:=by omega
     subst hj';rw[List.take_length] at HK;have HF:=hide (Dm _ _ _ wr HK.out (by omega))
     go_wp2_with fail
     refine HF.out.mono ?_;rintro e w6 ⟨v6,rfl,hF6,hB6⟩;have HT6:=hide (HH.out _ _ hF6);have HB6:Hid (Below w.heap.size w w6):=aj (aj HB1.out HBr.out HB1.out.size) hB6 (Nat.le_trans HB1.out.size HBr.out.size);obtain⟨a6,c6,rfl⟩:=aB hF6;clear hF6 hB6;go_wp2;exact bodyPost_ret (v:=.tuple #[.slice a6 (dN (R.filterMap fun l=>aV r.head l)).length c6,.int .i64 0]) (by simp[results,Tryz.results42,go_sem]) rfl ⟨_,0,rfl,HT6.out,HB6.out⟩
 ·rw[if_pos h0] at hT;obtain⟨rfl,rfl⟩:=hT;have HH:Hid (∀w',nM w' (.slice none 0 0) (pI r.body fs []) r fs):=fun w'=>by unfold nM;rw[if_pos h0];exact⟨rfl,rfl⟩
  clear HS HR1 HT1;generalize pI r.body fs []=er at*;go_wp2;exact bodyPost_ret (v:=.tuple #[.slice none 0 0,.int .i64 er]) (by simp[results,Tryz.results42,go_sem]) rfl ⟨_,er,rfl,HH.out _,HB1.out⟩
end Go.Proofs.YtafmbokfkbccaaaGreatDoor
