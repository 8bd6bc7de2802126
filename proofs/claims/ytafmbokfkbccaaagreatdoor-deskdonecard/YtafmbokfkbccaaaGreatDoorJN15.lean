import Derived.Test.YtafmbokfkbccaaaGreatDoorJN6
import Derived.Test.YtafmbokfkbccaaaGreatDoorJN14
import Derived.Laws.StructEq
import Derived.Test.YtafmbokfkbccaaaGreatDoorJN5
namespace Go.Proofs.YtafmbokfkbccaaaGreatDoor
open Go.RowKit Go.Sort
def dB (l:List aI):Nat→Nat→Int×Int
 |0,_=>(0,0)
 |n+1,k=>if fA (l.getD k aC)≠0 then(fA (l.getD k aC),k) else if 0<k∧0≤gM (l.getD (k-1) aC) (l.getD k aC) then(2,k) else dB l n (k+1)
def bA (l:List aI):Int×Int:=if 200<l.length then(5,0) else dB l l.length 0
theorem vD (l:List aI) {k:Nat} (h:k<l.length):dB l (l.length-k) k=
  if fA (l.getD k aC)≠0 then(fA (l.getD k aC),(k:Int)) else if 0<k∧0≤gM (l.getD (k-1) aC) (l.getD k aC) then(2,(k:Int)) else dB l (l.length- (k+1)) (k+1):=by
 obtain⟨n,hn⟩:∃n,l.length-k=n+1:=⟨l.length-k-1,by omega⟩;rw[hn,show l.length- (k+1)=n by omega]
 rfl
theorem JR (j:Nat) (h:j≤3518437208883):IntKind.i64.wrap (j:Int)=(j:Int):=by
 simp[IntKind.wrap,IntKind.bits,IntKind.signed];omega
theorem nW {w:World} {R:Nat} {u0 u1:Value} {t:TypeId} {fr:Nat×Nat} (h:w.heap[R]?=some (.cells #[u0,u1] t fr)) (x y:Value):
  ((w.setCell ⟨R,0,none⟩ x).setCell ⟨R,1,none⟩ y).cell? ⟨R,0,none⟩=some x∧((w.setCell ⟨R,0,none⟩ x).setCell ⟨R,1,none⟩ y).cell? ⟨R,1,none⟩=some y:=by
 have h2:=gI (j:=1) (gI (j:=0) h x) y;exact⟨by rw[cell_of_row _ _ _ _ _ _ h2];rfl,by rw[cell_of_row _ _ _ _ _ _ h2];rfl⟩
theorem tV {a b c d:Int} (h:(a,b)=(c,d)):Ending.returned (.agg #[.int .i64 a,.int .i64 b])=.returned (.agg #[.int .i64 c,.int .i64 d]):=by
 cases h;rfl
set_option maxHeartbeats 2000000 in
theorem Ql (v:Value) (l:List aI) (w:World) (hf:Facts w v l):
  Calls Tryz.prog 120 #[v] w fun e w'=>e=.returned (.agg #[.int .i64 (bA l).1,.int .i64 (bA l).2])∧Later w w':=by
 have mx:=mixed;have HF:=hide hf;obtain⟨a,cap,rfl,hn,hz⟩:=hf.addr;clear hf
 by_cases hbig:200<l.length
 ·have e:bA l=(5,0):=by unfold bA;rw[if_pos hbig]
  rw[e]
  go_enter Tryz.func120,Tryz.ntmps120
  go_wp2;exact bodyPost_ret (v:=.agg #[.int .i64 5,.int .i64 0]) (by simp[results,Tryz.results120,go_sem]) rfl ⟨rfl,(by repeat (first|exact Later.refl _|assumption|refine Later.drewN ?_ _|refine Later.drew ?_|refine Later.alloc ?_ _|refine Later.grow ?_ _))⟩
 ·have e:bA l=dB l l.length 0:=by unfold bA;rw[if_neg hbig]
  rw[e];clear e
  go_enter Tryz.func120,Tryz.ntmps120
  go_wp2
  go_loopw [12] (fun i wr=>∃k:Nat,k≤l.length∧i=.int .i64 k∧Later (w.alloc (.cells #[.int .i64 0,.int .i64 0] 75)) wr∧Hid (dB l l.length 0=dB l (l.length-k) k)) (fun i _=>l.length- (intOf i).toNat)
  case atStart=>exact⟨0,by omega,rfl,Later.refl _,(rfl:_=_)⟩
  case round=>
   obtain⟨k,hk,rfl,hL,HE⟩:=hrel;have hL0:Later w wr:=((Later.refl _).alloc _).trans hL;have hsz:w.heap.size<wr.heap.size:=by have:=hL.size;simp at this;omega
   by_cases hlt:k<l.length
   ·rcases hz with rfl|⟨b,off,rfl⟩
    ·simp at hlt
    have hltz:(k:Int)<(l.length:Int):=by omega
    obtain⟨hb,ax,lx,cx,g1,g2,fx⟩:=(HF.out.later hL0).at hlt;have hst:=vD l hlt;have HWr:Hid (∀w',Later wr w'→Calls Tryz.prog 59 #[.agg #[.string (l.getD k aC).1,.slice ax lx cx]] w' fun e w''=>e=.returned (.int .i64 (fA (l.getD k aC)))∧Later w' w''):=
     fun w' hw=>wrong _ _ w' (fx.later hw)
    have FX:=hide fx;clear fx
    by_cases hwz:fA (l.getD k aC)=0
    ·rw[if_neg (by omega)] at hst;rw[hwz] at HWr
     by_cases hk0:k=0
     ·have F:Hid (dB l l.length 0=dB l (l.length- (k+1)) (k+1)):=by show _=_;rw[HE.out,hst,if_neg (by omega)]
      have hd:decide (0<k)=false:=by rw[decide_eq_false_iff_not];omega
      clear hk0;generalize(l.getD k aC).1=nk at*;clear hst
      go_wp2_with fail
      refine(HWr.out _ ((Later.refl _).alloc _)).mono ?_;rintro e w1 ⟨rfl,hL1⟩;go_wp2
      go_quiet (fail)
      go_wp2
      go_roundw
      case rel=>exact⟨k+1,by omega,by go_num,(hL.trans (((Later.refl _).alloc _).trans hL1)).drewN _,F⟩
      case measure=>simp[intOf];omega
     ·obtain⟨j,rfl⟩:∃j,k=j+1:=⟨k-1,by omega⟩;rw[Nat.add_sub_cancel] at hst;have hjl:j<l.length:=by omega
      have hjz:(j:Int)<(l.length:Int):=by omega
      have hd:(0:Int)<(j:Int)+1:=by omega
      have hwj:IntKind.i64.wrap (j:Int)=(j:Int):=JR j (by omega);generalize hfk:l.getD (j+1) aC=f at*;have HFK:=hide hfk;clear hfk;obtain⟨nk,lk⟩:=f;dsimp only at*
      go_wp2_with fail
      refine(HWr.out _ ((Later.refl _).alloc _)).mono ?_;rintro e w1 ⟨rfl,hL1⟩;have hLR:Later (w.alloc (.cells #[.int .i64 0,.int .i64 0] 75)) w1:=hL.trans (((Later.refl _).alloc _).trans hL1);have EC:Later w w1:=((Later.refl _).alloc _).trans hLR;have hR:w1.heap[w.heap.size]?=some (.cells #[.int .i64 0,.int .i64 0] 75 (0,0)):=by rw[hLR.block (by simp),heap_alloc_new]
      have q0:w1.cell? ⟨w.heap.size,0,none⟩=some (.int .i64 0):=by rw[cell_of_row _ _ _ _ _ _ hR];rfl
      have q1:w1.cell? ⟨w.heap.size,1,none⟩=some (.int .i64 0):=by rw[cell_of_row _ _ _ _ _ _ hR];rfl
      have p0:w1.frozen? ⟨w.heap.size,0,none⟩=false:=frozen_of_row 0 hR;have p1:w1.frozen? ⟨w.heap.size,1,none⟩=false:=frozen_of_row 1 hR;have HRR:=hide hR;clear hR;have hLw:Later wr w1:=((Later.refl _).alloc _).trans hL1;obtain⟨ay,ly,cy,y1,y2,fy⟩:=(HF.out.later EC).grown hjl;have b0:=cell_later hL1 (p:=⟨wr.heap.size,0,none⟩) (v:=.string nk) (by simp) (by simp);have b1:=cell_later hL1 (p:=⟨wr.heap.size,1,none⟩) (v:=.slice ax lx cx) (by simp) (by simp);have hC:∀q os,Calls Tryz.prog 128 #[.agg #[.string (l.getD j aC).1,.slice ay ly cy],.agg #[.string nk,.slice ax lx cx]] (grow (w1.drewN q) os) fun e w''=>e=.returned (.int .i64 (gM (l.getD j aC) (nk,lk)))∧Later (grow (w1.drewN q) os) w'':=
       fun q os=>kV _ _ _ _ _ (fy.later ⟨q,os,rfl⟩) ((FX.out.later hLw).later ⟨q,os,rfl⟩)
      have HC:=hide hC;clear hC fy;generalize gM (l.getD j aC) (nk,lk)=cm at*;generalize(l.getD j aC).1=nj at*
      by_cases hcm:0≤cm
      ·have F:Hid (dB l l.length 0=(2,((j+1:Nat):Int))):=by show _=_;rw[HE.out,hst,if_pos ⟨by omega,hcm⟩]
       clear hst;go_wp2
       go_quiet_grown ((go_at_call 128;exact Calls.grown_of (HC.out _ _)))
       dsimp only;have hLW:Later w1 (grow (w1.drewN nq) osq):=⟨_,_,rfl⟩;generalize grow (w1.drewN nq) osq=w2 at hLW⊢;have hR:w2.heap[w.heap.size]?=some (.cells #[.int .i64 0,.int .i64 0] 75 (0,0)):=by rw[hLW.block (by have:=hLw.size;omega)];exact HRR.out
       have q0:w2.cell? ⟨w.heap.size,0,none⟩=some (.int .i64 0):=by rw[cell_of_row _ _ _ _ _ _ hR];rfl
       have q1:w2.cell? ⟨w.heap.size,1,none⟩=some (.int .i64 0):=by rw[cell_of_row _ _ _ _ _ _ hR];rfl
       have p0:w2.frozen? ⟨w.heap.size,0,none⟩=false:=frozen_of_row 0 hR;have p1:w2.frozen? ⟨w.heap.size,1,none⟩=false:=frozen_of_row 1 hR;have HR2:=hide hR;clear hR;go_wp2;obtain⟨r0,r1⟩:=nW HR2.out (.int .i64 2) (.int .i64 ((j:Int)+1));refine bodyPost_ret (v:=.agg #[.int .i64 2,.int .i64 ((j:Int)+1)]) (by simp[results,Tryz.results120,go_sem,r0,r1]) rfl ⟨tV (by rw[F.out];simp),?_⟩;exact((EC.trans hLW).setCell (Nat.le_refl _) _).setCell (Nat.le_refl _) _
      ·have F:Hid (dB l l.length 0=dB l (l.length- (j+1+1)) (j+1+1)):=by show _=_;rw[HE.out,hst,if_neg (fun h=>hcm h.2)]
       clear hst;go_wp2
       go_quiet_grown ((go_at_call 128;exact Calls.grown_of (HC.out _ _)))
       go_wp2
       go_roundw
       case rel=>exact⟨j+1+1,by omega,by go_num,hLR.trans ⟨_,_,rfl⟩,F⟩
       case measure=>simp[intOf];omega
    ·have F:Hid (dB l l.length 0=(fA (l.getD k aC),(k:Int))):=by show _=_;rw[HE.out,hst,if_pos hwz]
     have W9:(fA (l.getD k aC)==0)=false:=by simpa using hwz
     generalize fA (l.getD k aC)=we at*;generalize(l.getD k aC).1=nk at*;clear hst
     go_wp2_with fail
     refine(HWr.out _ ((Later.refl _).alloc _)).mono ?_;rintro e w1 ⟨rfl,hL1⟩;have hLR:Later (w.alloc (.cells #[.int .i64 0,.int .i64 0] 75)) w1:=hL.trans (((Later.refl _).alloc _).trans hL1);have EC:Later w w1:=((Later.refl _).alloc _).trans hLR;have hR:w1.heap[w.heap.size]?=some (.cells #[.int .i64 0,.int .i64 0] 75 (0,0)):=by rw[hLR.block (by simp),heap_alloc_new]
     have q0:w1.cell? ⟨w.heap.size,0,none⟩=some (.int .i64 0):=by rw[cell_of_row _ _ _ _ _ _ hR];rfl
     have q1:w1.cell? ⟨w.heap.size,1,none⟩=some (.int .i64 0):=by rw[cell_of_row _ _ _ _ _ _ hR];rfl
     have p0:w1.frozen? ⟨w.heap.size,0,none⟩=false:=frozen_of_row 0 hR;have p1:w1.frozen? ⟨w.heap.size,1,none⟩=false:=frozen_of_row 1 hR;have HRR:=hide hR;clear hR;go_wp2;obtain⟨r0,r1⟩:=nW HRR.out (.int .i64 we) (.int .i64 k);refine bodyPost_ret (v:=.agg #[.int .i64 we,.int .i64 k]) (by simp[results,Tryz.results120,go_sem,r0,r1]) rfl ⟨tV (by rw[F.out]),?_⟩;exact(EC.setCell (Nat.le_refl _) _).setCell (Nat.le_refl _) _
   ·have F:Hid (dB l l.length 0=(0,0)):=by show _=_;rw[HE.out,show l.length-k=0 by omega];rfl
    have q0:wr.cell? ⟨w.heap.size,0,none⟩=some (.int .i64 0):=by rw[hL.cell (by simp)];simp
    have q1:wr.cell? ⟨w.heap.size,1,none⟩=some (.int .i64 0):=by rw[hL.cell (by simp)];simp
    have p0:wr.frozen? ⟨w.heap.size,0,none⟩=false:=by rw[hL.frozen (by simp)];simp
    have p1:wr.frozen? ⟨w.heap.size,1,none⟩=false:=by rw[hL.frozen (by simp)];simp
    go_wp2;have hR:wr.heap[w.heap.size]?=some (.cells #[.int .i64 0,.int .i64 0] 75 (0,0)):=by rw[hL.block (by simp),heap_alloc_new]
    obtain⟨r0,r1⟩:=nW hR (.int .i64 0) (.int .i64 0);refine bodyPost_ret (v:=.agg #[.int .i64 0,.int .i64 0]) (by simp[results,Tryz.results120,go_sem,r0,r1]) rfl ⟨tV (by rw[F.out]),?_⟩;exact(hL0.setCell (Nat.le_refl _) _).setCell (Nat.le_refl _) _
end Go.Proofs.YtafmbokfkbccaaaGreatDoor
namespace Go.Proofs.YtafmbokfkbccaaaGreatDoor
open Go.RowKit Go.Sort Go.Maps
theorem nM (l:List aI):∀(n k:Nat),(dB l n k).1=0→∀i,k≤i→i<k+n→fA (l.getD i aC)=0∧(0<i→gM (l.getD (i-1) aC) (l.getD i aC)<0)
 |0,k,_,i,h1,h2=>by omega
 |n+1,k,h,i,h1,h2=>by
  simp only[dB] at h;split at h
  ·rename_i hw;exact absurd h hw
  ·rename_i hw;split at h
   ·cases h
   ·rename_i hc
    by_cases e:i=k
    ·subst e;refine⟨Classical.byContradiction hw,fun h0=> ?_⟩;exact Classical.byContradiction fun hn=>hc ⟨h0,by omega⟩
    ·exact nM l n (k+1) h i (by omega) (by omega)
theorem JU {l:List aI} (h:∀i,0<i→i<l.length→gM (l.getD (i-1) aC) (l.getD i aC)<0):gW l:=by
 have key:∀(d i:Nat),i+d+1<l.length→gM (l.getD i aC) (l.getD (i+d+1) aC)<0:=by
  intro d
  induction d with
  |zero=>intro i hi;have:=h (i+1) (by omega) (by omega);simpa using this
  |succ d ih=>
   intro i hi;have h1:=ih i (by omega);have h2:=h (i+(d+1)+1) (by omega) hi;have e:i+(d+1)+1-1=i+d+1:=by omega
   rw[e] at h2;exact aU.trans _ _ _ h1 h2
 unfold gW;rw[List.pairwise_iff_getElem];intro i j hi hj hij;have:=key (j-i-1) i (by omega);rw[show i+(j-i-1)+1=j by omega] at this;rw[List.getD_eq_getElem?_getD,List.getD_eq_getElem?_getD,List.getElem?_eq_getElem hi,List.getElem?_eq_getElem hj] at this;exact this
theorem set_right {l:List aI} (h:(bA l).1=0):l.length≤200∧gW l∧∀f∈l,fA f=0:=by
 unfold bA at h;split at h
 ·simp at h
 ·rename_i hl;have hz:=nM l l.length 0 h;refine⟨by omega,JU fun i h0 hi=>(hz i (Nat.zero_le _) (by omega)).2 h0,fun f hf=> ?_⟩;obtain⟨i,hi,e⟩:=List.getElem_of_mem hf;have:=(hz i (Nat.zero_le _) (by omega)).1;rw[List.getD_eq_getElem?_getD,List.getElem?_eq_getElem hi] at this;rw[←e];exact this
theorem GX {lo:Nat} {ty:TypeId} {w w':World} {v:Value} {n:Nat} {xs:List Value} (h:w.ownsRow lo ty 1 v n xs) (hk:∀k,v.ownBlock=some k→w'.heap[k]?=w.heap[k]?):w'.ownsRow lo ty 1 v n xs:=by
 refine⟨h.1,?_⟩;rcases h.2 with e|⟨g,cap,cur,rfl,hbg,hg,r⟩
 ·exact Or.inl e
 ·exact Or.inr ⟨g,cap,cur,rfl,hbg,by rw[hk g rfl];exact hg,r⟩
set_option maxRecDepth 100000 in
set_option maxHeartbeats 2000000 in
theorem OD (v:Value) (ps:List (Value×List aD)) (lo:Nat) (w0 w:World) (h0:Later w0 w) (hlo:w0.heap.size≤lo) (hv:Lists 158 190 lo w v ps) (hl:ps.length≤20000) (hs:∀q∈ps,q.2.length≤20):
  Calls Tryz.prog 162 #[v] w fun e w'=>e=.returned v∧lu.sl (From lo) w' v (jI iY (ps.map fun q=>kI q.2))∧Later w0 w':=by
 obtain⟨a,cap,rfl⟩:=hv.slice;have hvl:=fun k e=>hv.lo_le k e;obtain⟨ho,hp,hpw⟩:=hv;have HR:=hide ho;have HA:Hid (∀q∈ps,apart q.1 (.slice a ps.length cap)):=fun q hq=>(hp q hq).2;have HOw:Hid (∀q∈ps.drop 0,bL.own 190 lo w q.1 q.2):=fun q hq=>(hp q (by simpa using hq)).1;have HQl:Hid (∀q∈ps,∀k,q.1.ownBlock=some k→lo≤k):=fun q hq k e=>(Kind.eT (hp q hq).1 e).1;have HPW:=hide hpw;have HS:=hide hs;have H0:=hide h0;have HVL:=hide hvl;clear ho hp hpw hs h0 hvl
 go_enter Tryz.func162,Tryz.ntmps162
 go_wp2
 go_loopg [7] ps.length (fun gg i wr=>∃j:Nat,j+gg=ps.length∧i=.int .i64 j∧Hid (wr.ownsRow lo 158 1 (.slice a ps.length cap) ps.length (ps.map (·.1)))∧Hid (∀q∈ps.take j,bL.sl (kg q.1) wr q.1 (kI q.2))∧Hid (∀q∈ps.drop j,bL.own 190 lo wr q.1 q.2)∧Hid (Later w0 wr))
 case atStart=>exact⟨0,by omega,rfl,HR,(fun q hq=>by simp at hq),HOw,H0⟩
 case round=>
  clear HR HOw H0;obtain⟨j,hj,rfl,HR,HT,HOw,HL⟩:=hrel
  by_cases hlt:j<ps.length
  ·obtain⟨q,hq⟩:∃q,ps[j]?=some q:=⟨_,List.getElem?_eq_getElem hlt⟩;have hdr:ps.drop j=q::ps.drop (j+1):=by
    obtain⟨h1,e1⟩:=List.getElem?_eq_some_iff.1 hq;rw[List.drop_eq_getElem_cons h1,e1]
   have hqo:bL.own 190 lo wr q.1 q.2:=HOw.out q (by rw[hdr];exact List.mem_cons_self);have hqm:=List.mem_of_getElem? hq;obtain⟨b,hab,hcell,hbl⟩:∃b,a=some ⟨b,0,none⟩∧wr.cell? ⟨b,j,none⟩=some q.1∧b<wr.heap.size:=by
    rcases HR.out.2 with⟨e,e'⟩|⟨g,cap',cur,e,hbg,hg,_⟩
    ·omega
    ·simp only[Value.slice.injEq] at e;obtain⟨rfl,_,rfl⟩:=e;have:=HR.out.cells (g:=g) rfl j q.1 (by rw[List.getElem?_map,hq];rfl);rw[Addr.add_lit,Nat.zero_add] at this;exact⟨g,rfl,this,(Array.getElem?_eq_some_iff.1 hg).1⟩
   subst hab;have Cq:=hide (Ol lo q.1 q.2 wr hqo (by have:=HS.out q hqm;omega));have OG:(ps.take j++q::ps.drop (j+1)).Pairwise fun p q=>apart p.1 q.1:=by rw[←hdr,List.take_append_drop];exact HPW.out
   rw[List.pairwise_append] at OG;obtain⟨_,hp2,hp3⟩:=OG;have hafter:=(List.pairwise_cons.1 hp2).1;have Vw:Hid (∀p∈ps.take j,apart p.1 q.1):=fun p hp=>hp3 p hp q List.mem_cons_self;have Vx:=hide hafter;have HQA:Hid (apart q.1 (.slice (some ⟨b,0,none⟩) ps.length cap)):=HA.out q hqm;have HQO:=hide hqo;have HDr:=hide hdr;have HQ:=hide hq;obtain⟨ua,un,uc,hqu⟩:∃a n c,q.1=.slice a n c:=by obtain⟨a,c,e⟩:=Kind.bT hqo;exact⟨a,_,c,e⟩
   have HQU:=hide hqu;rw[hqu] at hcell Cq;clear hq hdr hqo hqm hp2 hp3 hafter hqu
   go_wp2_with fail
   refine Cq.out.mono ?_;rintro e w2 ⟨rfl,hsl,hO⟩;have HSL:Hid (bL.sl (kg q.1) w2 q.1 (kI q.2)):=by rw[HQU.out];exact hsl
   have hO':iK q.1.ownBlock wr w2:=by rw[HQU.out];exact hO
   have HO:=hide hO';clear hsl hO hO' Cq;go_wp2
   go_roundg (ps.length- (j+1))
   case measure=>omega
   case rel=>
    refine⟨j+1,by omega,by go_num,?_,?_,?_,?_⟩
    ·exact GX HR.out fun k e=>HO.out.block k (HR.out.lt k e).2 (fun e'=>HQA.out k e' e)
    ·intro p hp;rw[List.take_add_one,HQ.out] at hp;rcases List.mem_append.1 hp with h|h
     ·exact Kind.aM (HT.out p h) HO.out.size fun k hk hB=>HO.out.block k hk (fun e'=>Vw.out p h k hB e')
     ·simp at h;rw[h];exact HSL.out
    ·intro p hp;have h1:=HOw.out p (by rw[HDr.out];exact List.mem_cons_of_mem _ hp);exact kL h1 fun k e=>HO.out.block k (Kind.eT h1 e).2 (fun e'=>Vx.out p hp k e' e)
    ·exact HO.out.later HL.out fun k e=>by have:=(Kind.eT HQO.out e).1;omega
  ·have e:j=ps.length:=by omega
   have HT':Hid (∀q∈ps,bL.sl (kg q.1) wr q.1 (kI q.2)):=by
    have:=HT.out;rw[e,List.take_length] at this;exact this
   have hm1:(ps.map fun q=>(q.1,kI q.2)).map (·.1)=ps.map (·.1):=by rw[List.map_map];rfl
   have hm2:(ps.map fun q=>(q.1,kI q.2)).map (·.2)=ps.map fun q=>kI q.2:=by rw[List.map_map];rfl
   have Cq:=Om lo 158 (.slice a ps.length cap) (ps.map fun q=>(q.1,kI q.2)) wr (by rw[hm1,List.length_map];exact HR.out) (fun p hp=>by
    obtain⟨q,hq,rfl⟩:=List.mem_map.1 hp;exact Kind.aH (HT'.out q hq) fun k _ hB=>⟨fun e=>HA.out q hq k hB e,HQl.out q hq k hB⟩) (by rw[List.length_map];omega)
   rw[hm2] at Cq;have HSo:=hide Cq;clear Cq hm1 hm2 e
   go_wp2_with fail
   refine HSo.out.mono ?_;rintro e w2 ⟨rfl,hsl,hO⟩;have HSL:=hide hsl;have HL2:=hide (hO.later HL.out fun k e=>by have:=HVL.out k e;omega);clear hsl hO HSo;go_wp2;go_ret;exact⟨rfl,HSL.out,HL2.out⟩
set_option maxRecDepth 100000 in
theorem Ra (a b:Int) (w:World):(Instr.field 75 (.agg #[.int .i64 a,.int .i64 b]) 0).run Tryz.prog w=.ok (.int .i64 a) w:=by
 first|kernel_rfl|(simp[Instr.field,run_underlying Tryz.underlying75])|go_simp
def pJ (body:List aF) (fs os:List aI):Int:=if aO body≠0 then aO body else if(bA fs).1≠0 then(bA fs).1 else(bA os).1
set_option maxRecDepth 100000 in
set_option maxHeartbeats 1000000 in
theorem Mk (body:List aF) (v fv ov:Value) (fs os:List aI) (w:World) (hv:bU.sl bZ w v body) (hf:Facts w fv fs) (ho:Facts w ov os):
  Calls Tryz.prog 156 #[v,fv,ov] w fun e w'=>e=.returned (.int .i64 (pJ body fs os))∧Below w.heap.size w w':=by
 have HB:=hide (Dr body v w hv);have HF:Hid (∀w1,Below w.heap.size w w1→Calls Tryz.prog 120 #[fv] w1 fun e w'=>e=.returned (.agg #[.int .i64 (bA fs).1,.int .i64 (bA fs).2])∧Hid (Below w.heap.size w w')):=fun w1 h1=>
  (Ql fv fs w1 (hf.below h1)).mono fun e w' ⟨he,hL⟩=>⟨he,aj h1 hL.below h1.size⟩
 have HO:Hid (∀w1,Below w.heap.size w w1→Calls Tryz.prog 120 #[ov] w1 fun e w'=>e=.returned (.agg #[.int .i64 (bA os).1,.int .i64 (bA os).2])∧Hid (Below w.heap.size w w')):=fun w1 h1=>
  (Ql ov os w1 (ho.below h1)).mono fun e w' ⟨he,hL⟩=>⟨he,aj h1 hL.below h1.size⟩
 obtain⟨a,cap,rfl⟩:=Kind.slice hv;obtain⟨fa,fc,rfl⟩:=aB hf;obtain⟨oa,oc,rfl⟩:=aB ho;clear hv hf ho;have E:pJ body fs os=if aO body≠0 then aO body else if(bA fs).1≠0 then(bA fs).1 else(bA os).1:=rfl;generalize pJ body fs os=R at*;generalize aO body=eb at*;generalize bA fs=ef at*;generalize bA os=eo at*;obtain⟨f1,f2⟩:=ef;obtain⟨o1,o2⟩:=eo;dsimp only at*
 by_cases h0:eb=0
 ·subst h0;rw[if_neg (by simp)] at E
  by_cases h1:f1=0
  ·subst h1;rw[if_neg (by simp)] at E;have HE:=hide E;have hfe:=Ra;clear E
   go_enter Tryz.func156,Tryz.ntmps156
   go_wp2_with fail
   refine HB.out.mono ?_;rintro e w1 ⟨rfl,hB1⟩;have H1:=hide (HF.out w1 hB1);clear HB HF hB1
   go_wp2_with fail
   refine H1.out.mono ?_;rintro e w2 ⟨rfl,hB2⟩;have H2:=hide (HO.out (w2.alloc (.cells #[.int .i64 0,.int .i64 f2] 75)) (hB2.out.alloc hB2.out.size _));clear HO H1 hB2
   go_wp2_with fail
   refine H2.out.mono ?_;rintro e w3 ⟨rfl,hB3⟩;clear H2;go_wp2;go_ret;exact⟨by rw[HE.out];rfl,hB3.out⟩
  ·rw[if_pos h1] at E;have HE:=hide E;have hq:(f1 != 0)=true:=by simpa using h1
   clear E h1 HO
   go_enter Tryz.func156,Tryz.ntmps156
   go_wp2_with fail
   refine HB.out.mono ?_;rintro e w1 ⟨rfl,hB1⟩;have H1:=hide (HF.out w1 hB1);clear HB HF hB1
   go_wp2_with fail
   refine H1.out.mono ?_;rintro e w2 ⟨rfl,hB2⟩;clear H1;go_wp2;go_ret;exact⟨by rw[HE.out];rfl,hB2.out.alloc hB2.out.size _⟩
 ·rw[if_pos h0] at E;have HE:=hide E;have hq:(eb != 0)=true:=by simpa using h0
  clear E h0 HO HF
  go_enter Tryz.func156,Tryz.ntmps156
  go_wp2_with fail
  refine HB.out.mono ?_;rintro e w1 ⟨rfl,hB1⟩;have HB1:=hide hB1;clear HB hB1;go_wp2;go_ret;exact⟨by rw[HE.out];rfl,HB1.out⟩
def yM (w:World) (v:Value) (er:Int) (body:List aF) (fs:List aI) (at_:Int) (os:List aI):Prop:=
 if pJ body fs os≠0 then v=.slice none 0 0∧er=pJ body fs os else match lX (gG fs at_ os) body with
  |none=>v=.slice none 0 0∧er=4
  |some R=>er=0∧lu.sl bZ w v R
theorem GY {body:List aF} {fs os:List aI} (h:pJ body fs os=0):aO body=0∧(bA fs).1=0∧(bA os).1=0:=by
 unfold pJ at h;split at h
 ·rename_i h1;exact absurd h h1
 ·rename_i h1;split at h
  ·rename_i h2;exact absurd h h2
  ·rename_i h2;exact⟨Classical.byContradiction h1,Classical.byContradiction h2,h⟩
theorem nN:∀{l:List aF},bG l=0→∀a∈l,aR a=0
 |[],_,a,ha=>by cases ha
 |b::l,h,a,ha=>by
  unfold bG at h
  by_cases hb:aR b=0
  ·rcases List.mem_cons.1 ha with e|h1
   ·rw[e];exact hb
   ·refine nN ?_ a h1;simpa[hb] using h
  ·simp[hb] at h
theorem wQ {body:List aF} (h:aO body=0):body.length≤5∧∀a∈body,aR a=0:=by
 unfold aO at h;split at h
 ·simp at h
 ·split at h
  ·rename_i h5 ha;exact⟨by omega,nN ha⟩
  ·rename_i hne;exact absurd h hne
theorem wR {fs os:List aI} {at_:Int} {P:List aI→Prop} (h1:P fs) (h2:P os) (n:Nat):P (gG fs at_ os n):=by
 unfold gG;split
 ·exact h2
 ·exact h1
def tX (lo:Nat) (w:World) (v:Value) (er:Int) (body:List aF) (fs:List aI) (at_:Int) (os:List aI):Prop:=
 if pJ body fs os≠0 then v=.slice none 0 0∧er=pJ body fs os else match lX (gG fs at_ os) body with
  |none=>v=.slice none 0 0∧er=4
  |some R=>er=0∧lu.sl (From lo) w v R
theorem tX.any {lo:Nat} {w:World} {v:Value} {er:Int} {body:List aF} {fs os:List aI} {at_:Int} (h:tX lo w v er body fs at_ os):yM w v er body fs at_ os:=by
 unfold tX at h;unfold yM;split
 ·rename_i h0;rw[if_pos h0] at h;exact h
 ·rename_i h0;rw[if_neg h0] at h;cases e:lX (gG fs at_ os) body with
  |none=>rw[e] at h;exact h
  |some R=>rw[e] at h;exact⟨h.1,Kind.dz h.2⟩
set_option maxRecDepth 100000 in
set_option maxHeartbeats 2000000 in
theorem OH (body:List aF) (v fv ov:Value) (fs os:List aI) (at_:Int) (w:World) (hv:bU.sl bZ w v body) (hf:Facts w fv fs) (ho:Facts w ov os):
  Calls Tryz.prog 88 #[v,fv,.int .i64 at_,ov] w fun e w'=>∃v' er,e=.returned (.tuple #[v',.int .i64 er])∧tX w.heap.size w' v' er body fs at_ os∧Below w.heap.size w w':=by
 obtain⟨a,cap,hva⟩:=Kind.slice hv;have HW:Hid (Calls Tryz.prog 156 #[v,fv,ov] (w.alloc (.cells #[v] 73)) fun e w'=>e=.returned (.int .i64 (pJ body fs os))∧Below (w.alloc (.cells #[v] 73)).heap.size (w.alloc (.cells #[v] 73)) w'):=
  Mk body v fv ov fs os _ (Kind.aQ hv ((Later.refl _).alloc _)) (hf.later ((Later.refl _).alloc _)) (ho.later ((Later.refl _).alloc _))
 have HV:=hide hv;have HF:=hide hf;have HO:=hide ho;obtain⟨fa,fc,hfa⟩:=aB hf;obtain⟨oa,oc,hoa⟩:=aB ho;subst hva hfa hoa;clear hv hf ho
 by_cases h0:pJ body fs os=0
 ·rw[h0] at HW;have H0:=hide h0;obtain⟨hw0,hf0,ho0⟩:=GY h0;obtain⟨hb5,hba⟩:=wQ hw0;obtain⟨hfl,hfr,_⟩:=set_right hf0;obtain⟨hol,hor,_⟩:=set_right ho0;have HPr:Hid (∀n,gW (gG fs at_ os n)):=wR hfr hor;have HPl:Hid (∀n,(gG fs at_ os n).length≤200):=wR (P:=fun l=>l.length≤200) hfl hol;have HBa:Hid (∀a∈body,a.terms.length≤4):=fun a ha=>(dI (hba a ha)).2.1;clear h0 hw0 hf0 ho0 hba hfl hol hfr hor
  go_enter Tryz.func88,Tryz.ntmps88
  go_wp2_with fail
  refine HW.out.mono ?_;rintro e w1 ⟨rfl,hB1⟩;have hBw:Below w.heap.size w w1:=aj ((Later.refl w).alloc _).below hB1 (by simp);have hs1:w.heap.size<w1.heap.size:=by have:=hB1.size;simp at this;omega
  have z0:w1.cell? ⟨w.heap.size,0,none⟩=some (.slice a body.length cap):=by rw[hB1.cell (by simp)];simp
  have HSr:=hide (L8 _ _ fs os at_ w1 (HF.out.below hBw) (HO.out.below hBw));have HBw:=hide hBw;clear HW hB1 hBw
  go_wp2_with fail
  refine HSr.out.mono ?_;rintro e w2 ⟨rfl,hL2,hs2,y0,y1,y2⟩;have hB2:Below w.heap.size w w2:=aj HBw.out hL2.below HBw.out.size;obtain⟨w3,hw3⟩:∃w3,w3=w2.alloc (.cells #[.func (.func 217) #[] #[.pointer (some ⟨w1.heap.size+1,0,none⟩),.pointer (some ⟨w1.heap.size+2,0,none⟩),.pointer (some ⟨w1.heap.size,0,none⟩)]] 227):=⟨_,rfl⟩;have hL3:Later w2 w3:=by rw[hw3];exact(Later.refl _).alloc _
  have hB3:Below w.heap.size w w3:=aj hB2 hL3.below hB2.size;have hs3:w3.heap.size=w2.heap.size+1:=by rw[hw3];simp
  have x0:w3.cell? ⟨w.heap.size,0,none⟩=some (.slice a body.length cap):=by rw[(hL2.trans hL3).cell (by exact hs1)];exact z0
  have x1:w3.cell? ⟨w2.heap.size,0,none⟩=some (.func (.func 217) #[] #[.pointer (some ⟨w1.heap.size+1,0,none⟩),.pointer (some ⟨w1.heap.size+2,0,none⟩),.pointer (some ⟨w1.heap.size,0,none⟩)]):=by rw[hw3];simp
  have hPk:Ab 217 #[.pointer (some ⟨w1.heap.size+1,0,none⟩),.pointer (some ⟨w1.heap.size+2,0,none⟩),.pointer (some ⟨w1.heap.size,0,none⟩)] (gG fs at_ os) w3.heap.size w3:=
   JL w1.heap.size (w1.heap.size+1) (w1.heap.size+2) _ _ fs os at_ _ w3 (HF.out.below hB3) (HO.out.below hB3) (by rw[hL3.cell (by show w1.heap.size<w2.heap.size;omega)];exact y0) (by rw[hL3.cell (by show w1.heap.size+1<w2.heap.size;omega)];exact y1) (by rw[hL3.cell (by show w1.heap.size+2<w2.heap.size;omega)];exact y2) (by omega) (by omega) (by omega) rfl
  have hDl:=Ot w.heap.size w2.heap.size body _ 217 _ nI (gG fs at_ os) w3.heap.size w3 (Kind.aY HV.out hB3) hPk hb5 HPr.out x0 x1 (by omega) (by omega) rfl;have HMt:=hide (Vs body _ 217 _ nI (gG fs at_ os) w3 (Kind.aY HV.out hB3) hPk hb5 HBa.out HPl.out);have HDl:=hide hDl;have HB3:=hide hB3;have HW3:=hide hw3;have u0:w2.cell? ⟨w.heap.size,0,none⟩=some (.slice a body.length cap):=by rw[hL2.cell (by exact hs1)];exact z0
  have hx0:w.heap.size<w2.heap.size:=by omega
  clear x0 x1;have hAB:lX (gG fs at_ os) body=match fF (gG fs at_ os) 0 body [[]] with|none=>none|some ms=>some (jI iY ((ms.filter fun l=> !barredB (gG fs at_ os) 0 body l).map kI)):=rfl
  generalize barredB (gG fs at_ os) 0 body=bp at*;clear HSr hL2 hB2 hL3 hB3 hPk hDl hw3 y0 y1 y2 z0 hs2 hs3 HPr HPl HBa HF HO HBw
  go_wp2_with fail
  rw[←HW3.out];refine HMt.out.mono ?_;rintro e w4 ⟨v4,er,rfl,hMT,hL4⟩;cases hmg:fF (gG fs at_ os) 0 body [[]] with
  |none=>
   rw[hmg] at hMT hAB;obtain⟨rfl,rfl⟩:=hMT;dsimp only at hAB;have HAB:=hide hAB;have HL4:=hide hL4;clear hmg hAB HMt hL4;go_wp2
   go_ret2
   refine⟨.slice none 0 0,4,rfl,?_,aj HB3.out HL4.out.below HB3.out.size⟩;unfold tX;rw[if_neg (fun h=>h H0.out),HAB.out];exact⟨rfl,rfl⟩
  |some ms=>
   rw[hmg] at hMT hAB;obtain⟨rfl,ps,hps,hpl,hpq,hLs⟩:=hMT;dsimp only at hAB;have hpl':ps.length≤20000:=by rw[←hps,List.length_map] at hpl;exact hpl
   have Rb:∀q∈ps,q.2.length≤20:=fun q hq=>hpq _ (by rw[←hps];exact List.mem_map.2 ⟨q,hq,rfl⟩);have HDe:=hide (Mj v4 ps 160 _ Ae bp w3.heap.size w3.heap.size w3 w4 HDl.out hL4.below (Nat.le_refl _) hL4.size hLs hpl' Rb);obtain⟨a4,n4,c4,rfl⟩:∃a n c,v4=.slice a n c:=by obtain⟨a,c,e⟩:=Lists.slice hLs;exact⟨a,_,c,e⟩
   have HLo:Hid (∀k,(Value.slice a4 n4 c4).ownBlock=some k→w3.heap.size≤k):=fun k e=>hLs.lo_le k e;have HAB:=hide hAB;have HL4:=hide hL4;have HPS:=hide hps;have HPL:=hide hpl';have HPQ:=hide Rb;clear hmg hAB HMt hL4 hps hpl hpq hLs hpl' Rb
   go_wp2_with fail
   refine HDe.out.mono ?_;rintro e w5 ⟨v5,rfl,Rc,hob,hO5⟩;have hL5:Later w3 w5:=hO5.later HL4.out fun k e=>HLo.out k e;have hkl:(jU bp ps).length≤20000:=Nat.le_trans (List.length_filter_le _ _) HPL.out;have HRi:=hide (OD v5 (jU bp ps) w3.heap.size w3 w5 hL5 (Nat.le_refl _) Rc hkl (fun q hq=>HPQ.out q (List.mem_filter.1 hq).1));obtain⟨a5,n5,c5,rfl⟩:∃a n c,v5=.slice a n c:=by obtain⟨a,c,e⟩:=Lists.slice Rc;exact⟨a,_,c,e⟩
   clear HDe Rc hob hO5 hL5 hkl
   go_wp2_with fail
   refine HRi.out.mono ?_;rintro e w6 ⟨rfl,hsl,hL6⟩;have HSL:=hide hsl;have HL6:=hide hL6;clear HRi hsl hL6;go_wp2
   go_ret2
   refine⟨.slice a5 n5 c5,0,rfl,?_,aj HB3.out HL6.out.below HB3.out.size⟩;unfold tX;rw[if_neg (fun h=>h H0.out),HAB.out];have e:(ms.filter fun l=> !bp l).map kI=(jU bp ps).map fun q=>kI q.2:=by
    rw[←HPS.out];unfold jU;rw[List.filter_map,List.map_map]
    rfl
   rw[e];exact⟨rfl,Kind.aH HSL.out fun k _ hk=>Nat.le_trans HB3.out.size hk⟩
 ·have hq:(pJ body fs os != 0)=true:=by simpa using h0
  have H0:=hide h0;generalize her:pJ body fs os=er at*;have HER:=hide her;clear h0 HV HF HO her
  go_enter Tryz.func88,Tryz.ntmps88
  go_wp2_with fail
  refine HW.out.mono ?_;rintro e w1 ⟨rfl,hB1⟩;have HB:=hide (aj ((Later.refl w).alloc (.cells #[.slice a body.length cap] 73)).below hB1 (by simp));clear HW hB1;go_wp2
  go_ret2
  refine⟨.slice none 0 0,er,rfl,?_,HB.out⟩;unfold tX;rw[HER.out,if_pos H0.out];exact⟨rfl,rfl⟩
theorem Rf (body:List aF) (v fv ov:Value) (fs os:List aI) (at_:Int) (w:World) (hv:bU.sl bZ w v body) (hf:Facts w fv fs) (ho:Facts w ov os):
  Calls Tryz.prog 88 #[v,fv,.int .i64 at_,ov] w fun e w'=>∃v' er,e=.returned (.tuple #[v',.int .i64 er])∧yM w' v' er body fs at_ os∧Below w.heap.size w w':=
 (OH body v fv ov fs os at_ w hv hf ho).mono fun _ _ ⟨v',er,h1,h2,h3⟩=>⟨v',er,h1,h2.any,h3⟩
end Go.Proofs.YtafmbokfkbccaaaGreatDoor
namespace Go.Proofs.YtafmbokfkbccaaaGreatDoor
open Go.RowKit Go.Sort
def Tm (l m:List aD):Bool:=decide (iY l m<0)
theorem tY (w:World):Facts w (.slice none 0 0) []:=⟨by simp,none,0,rfl,fun h=>absurd rfl h⟩
set_option maxHeartbeats 1000000 in
theorem Tp (body:List aF) (v fv:Value) (fs:List aI) (w:World) (hv:bU.sl bZ w v body) (hf:Facts w fv fs):
  Calls Tryz.prog 40 #[v,fv] w fun e w'=>∃v' er,e=.returned (.tuple #[v',.int .i64 er])∧tX w.heap.size w' v' er body fs (-1) []∧Below w.heap.size w w':=by
 have HW:=hide (OH body v fv (.slice none 0 0) fs [] (-1) w hv hf (tY w));obtain⟨a,cap,rfl⟩:=Kind.slice hv;obtain⟨fa,fc,rfl⟩:=aB hf;clear hv hf
 go_enter Tryz.func40,Tryz.ntmps40
 go_wp2_with fail
 refine HW.out.mono ?_;rintro e w1 ⟨v',er,rfl,hT,hB⟩;have HT:=hide hT;have HB:=hide hB;clear hT hB HW;go_wp2
 go_ret2
 exact⟨v',er,rfl,HT.out,HB.out⟩
theorem Tq (body:List aF) (v fv:Value) (fs:List aI) (w:World) (hv:bU.sl bZ w v body) (hf:Facts w fv fs):
  Calls Tryz.prog 40 #[v,fv] w fun e w'=>∃v' er,e=.returned (.tuple #[v',.int .i64 er])∧yM w' v' er body fs (-1) []∧Below w.heap.size w w':=
 (Tp body v fv fs w hv hf).mono fun _ _ ⟨v',er,h1,h2,h3⟩=>⟨v',er,h1,h2.any,h3⟩
end Go.Proofs.YtafmbokfkbccaaaGreatDoor
namespace Go.Proofs.YtafmbokfkbccaaaGreatDoor
open Go.RowKit Go.Sort Go.Maps
theorem lF (pick:Nat→List au):∀(ats:List aF) (n:Nat) (ls ms:List (List aD)),ls.length≤20000→fF pick n ats ls=some ms→ms.length≤20000
 |[],_,ls,ms,h,e=>by cases e;exact h
 |a::ats,n,ls,ms,h,e=>by
  unfold fF at e;split at e
  ·exact lF pick ats _ ls ms h e
  ·split at e
   ·cases e
   ·exact lF pick ats _ _ ms (by omega) e
theorem kM {pick:Nat→List au} {body:List aF} {R:List (List aD)} (h:lX pick body=some R):R.length≤20000:=by
 unfold lX at h;cases e:fF pick 0 body [[]] with
 |none=>rw[e] at h;cases h
 |some ms=>
  rw[e] at h;cases h;have:=lF pick body 0 [[]] ms (by simp) e;rw[(dP _).length_eq,List.length_map];exact Nat.le_trans (List.length_filter_le _ _) this
theorem Aj (fs:List aI):gG fs (-1) []=fun _=>fs:=by
 funext n
 unfold gG;rw[if_neg (by omega)]
def mI (w:World) (v:Value) (er:Int) (r:aA) (fs:List au):Prop:=
 if pJ r.body fs []≠0 then v=.slice none 0 0∧er=pJ r.body fs [] else match gH r fs with
  |none=>v=.slice none 0 0∧er=4
  |some x=>er=0∧Facts w v x
theorem JV {w:World} {g:Nat} {f:au} {s:Value} (h:w.heap[g]?=some (.cells #[.string f.1,s] 27 (0,0))) (hs:Strs w s f.2):Facts w (.slice (some ⟨g,0,none⟩) 1 1) [f]:=by
 refine⟨by simp,_,1,rfl,fun _=>⟨g,0,rfl,(Array.getElem?_eq_some_iff.1 h).1,fun i hi=> ?_⟩⟩;have:i=0:=by simp at hi;omega
 subst this;exact⟨by rw[cell_of_row _ _ _ _ _ _ h];rfl,s,by rw[cell_of_row _ _ _ _ _ _ h];rfl,hs⟩
set_option maxHeartbeats 4000000 in
theorem GZ (r:aA) (tv bv fv:Value) (fs:List au) (w:World) (ht:dL.sl bZ w tv r.head.terms) (hb:bU.sl bZ w bv r.body) (hf:Facts w fv fs)
  (hs:∀R,lX (fun _=>fs) r.body=some R→∀l∈R,∀f,aV r.head l=some f→mG f):
  Calls Tryz.prog 42 #[.agg #[.bool r.head.no,.string (bs r.head.name),tv,bv],fv] w fun e w'=>∃v' er,e=.returned (.tuple #[v',.int .i64 er])∧mI w' v' er r fs∧Below w.heap.size w w':=by
 obtain⟨ta,tc,rfl⟩:=Kind.slice ht;obtain⟨ba,bc,rfl⟩:=Kind.slice hb;obtain⟨fa,fc,rfl⟩:=aB hf;obtain⟨wb,hwb⟩:∃wb,wb=w.alloc (.cells #[.bool r.head.no,.string (bs r.head.name),.slice ta r.head.terms.length tc,.slice ba r.body.length bc] 87):=⟨_,rfl⟩;have hLb:Later w wb:=by rw[hwb];exact(Later.refl w).alloc _
 have hrb:wb.heap[w.heap.size]?=some (.cells #[.bool r.head.no,.string (bs r.head.name),.slice ta r.head.terms.length tc,.slice ba r.body.length bc] 87 (0,0)):=by rw[hwb];exact heap_alloc_new w _
 have HA:=hide (Tq r.body (.slice ba r.body.length bc) (.slice fa fs.length fc) fs wb (Kind.aQ hb hLb) (hf.later hLb));have HTm:=hide (Kind.aQ ht hLb);have HS:=hide hs;have HLb:=hide hLb;have HRb:=hide hrb;have c3:wb.cell? ⟨w.heap.size,3,none⟩=some (.slice ba r.body.length bc):=by rw[cell_of_row _ _ _ _ _ _ hrb];rfl
 have HWB:=hide hwb;clear ht hb hf hs hLb hrb
 go_enter Tryz.func42,Tryz.ntmps42
 rw[hwb] at c3;clear hwb
 go_wp2_with fail
 rw[←HWB.out];clear c3;refine HA.out.mono ?_;rintro e w1 ⟨v1,er,rfl,hT,hB1⟩;clear HA;unfold yM at hT;rw[Aj] at hT;have HB1:Hid (Below w.heap.size w w1):=aj HLb.out.below hB1 HLb.out.size;have OI:w.heap.size<wb.heap.size:=(Array.getElem?_eq_some_iff.1 HRb.out).1;have HR1:Hid (w1.heap[w.heap.size]?=some (.cells #[.bool r.head.no,.string (bs r.head.name),.slice ta r.head.terms.length tc,.slice ba r.body.length bc] 87 (0,0))):=by
  show _=_;rw[hB1.block _ OI];exact HRb.out
 have HT1:=hide (Kind.aY HTm.out hB1);clear hB1 HTm HRb HLb HWB OI
 by_cases h0:pJ r.body fs []=0
 ·rw[if_neg (by simp[h0])] at hT;cases hR:lX (fun _=>fs) r.body with
  |none=>
   rw[hR] at hT;obtain⟨rfl,rfl⟩:=hT;have HH:Hid (∀w',mI w' (.slice none 0 0) 4 r fs):=fun w'=>by unfold mI gH;rw[if_neg (by simp[h0]),hR];exact⟨rfl,rfl⟩
   clear h0 hR HS HR1 HT1;go_wp2;exact bodyPost_ret (v:=.tuple #[.slice none 0 0,.int .i64 4]) (by simp[results,Tryz.results42,go_sem]) rfl ⟨_,4,rfl,HH.out _,HB1.out⟩
  |some R=>
   rw[hR] at hT;obtain⟨rfl,hsl⟩:=hT;have hsmall:=kM hR;have HSh:=hide (HS.out R hR);have HH:Hid (∀w' v',Facts w' v' (dK (R.filterMap fun l=>aV r.head l))→mI w' v' 0 r fs):=fun w' v' h=>by unfold mI gH;rw[if_neg (by simp[h0]),hR];exact⟨rfl,h⟩
   have HRL:=hide hsl;obtain⟨ra,rc,rfl⟩:=Kind.slice hsl;clear h0 hR hsl HS;have hmm:= @run_makeMap Tryz.prog;obtain⟨w2,hw2⟩:∃w2,w2=w1.alloc (.map #[] 0):=⟨_,rfl⟩;have HK2:Hid (KnN w2 w1.heap.size 0 ((R.take 0).filterMap fun l=>aV r.head l)):=by show KnN _ _ _ _;rw[hw2];exact fT.made _ _ _
   have HB2:Hid (Below w1.heap.size w1 w2):=by show Below _ _ _;rw[hw2];exact((Later.refl w1).alloc _).below
   have HW2:=hide hw2;clear hw2;go_wp2;rw[←HW2.out];clear hmm HW2
   go_loopg [26] R.length (fun g i wr=>∃j:Nat,j+g=R.length∧i=.int .i64 j∧Hid (KnN wr w1.heap.size j ((R.take j).filterMap fun l=>aV r.head l))∧Hid (Below w1.heap.size w1 wr))
   case atStart=>exact⟨0,by omega,rfl,HK2,HB2⟩
   case round=>
    clear HK2 HB2;obtain⟨j,hj,rfl,HK,HBr⟩:=hrel
    by_cases hlt:j<R.length
    ·obtain⟨l,hx⟩:∃x,R[j]?=some x:=⟨_,List.getElem?_eq_getElem hlt⟩;obtain⟨b1,o1,_,rfl,hb1,⟨lv,rfl,hlv⟩,hc⟩:=Kind.fC HRL.out hx;have d0:wr.cell? ⟨b1,o1+j,none⟩=some lv:=by rw[HBr.out.cell (p:=⟨b1,o1+j,none⟩) hb1];simpa[slK] using hc 0 _ rfl
     have HLV:=hide hlv;obtain⟨la,lc,rfl⟩:=Kind.slice hlv;have hbw:w.heap.size<w1.heap.size:=(Array.getElem?_eq_some_iff.1 HR1.out).1;have hrr:wr.heap[w.heap.size]?=some (.cells #[.bool r.head.no,.string (bs r.head.name),.slice ta r.head.terms.length tc,.slice ba r.body.length bc] 87 (0,0)):=by rw[HBr.out.block _ hbw];exact HR1.out
     have r0:wr.cell? ⟨w.heap.size,0,none⟩=some (.bool r.head.no):=by rw[cell_of_row _ _ _ _ _ _ hrr];rfl
     have r1:wr.cell? ⟨w.heap.size,0+1,none⟩=some (.string (bs r.head.name)):=by rw[cell_of_row _ _ _ _ _ _ hrr];rfl
     have r2:wr.cell? ⟨w.heap.size,0+2,none⟩=some (.slice ta r.head.terms.length tc):=by rw[cell_of_row _ _ _ _ _ _ hrr];rfl
     have HFc:=hide (Od r.head _ (.slice la l.length lc) l wr (Kind.aY HT1.out HBr.out) (Kind.aY HLV.out HBr.out));have htk:R.take (j+1)=R.take j++[l]:=by rw[List.take_add_one,hx];rfl
     have hSl:=HSh.out l (List.mem_of_getElem? hx);unfold filled at HFc;clear hc hx hlv hrr;cases hfl:aV r.head l with
     |none=>
      rw[hfl] at HFc;have HK':Hid (KnN wr w1.heap.size (j+1) ((R.take (j+1)).filterMap fun l=>aV r.head l)):=by
       show KnN _ _ _ _;rw[htk,List.filterMap_append];simp only[List.filterMap_cons,hfl,List.filterMap_nil,List.append_nil];exact HK.out.mono (Nat.le_succ _)
      clear hfl htk hSl;generalize bs r.head.name=nm at*;generalize r.head.no=no at*
      go_wp2_with fail
      refine HFc.out.mono ?_;rintro e w3 ⟨f3,rfl,hfv,hL3⟩;obtain⟨s,rfl,hs⟩:=hfv;obtain⟨sA',sC',rfl⟩:=aW hs;simp only[Option.isSome_none];have HL3:Hid (Later wr w3):=hL3;clear hs hL3;go_wp2
      go_roundg (R.length- (j+1))
      case measure=>omega
      case rel=>exact⟨j+1,by omega,by go_num,HK'.out.later (HL3.out.alloc _),aj HBr.out (HL3.out.alloc _).below HBr.out.size⟩
     |some f=>
      rw[hfl] at HFc;have hsf:=hSl f hfl;have hfm:(R.take (j+1)).filterMap (fun l=>aV r.head l)=(R.take j).filterMap (fun l=>aV r.head l)++[f]:=by
       rw[htk,List.filterMap_append];simp only[List.filterMap_cons,hfl,List.filterMap_nil]
      have HFM:=hide hfm;have HSF:=hide hsf;clear hfl htk hSl hfm hsf;generalize bs r.head.name=nm at*;generalize r.head.no=no at*
      go_wp2_with fail
      refine HFc.out.mono ?_;rintro e w3 ⟨f3,rfl,hfv,hL3⟩;simp only[Option.isSome_some,Option.getD_some] at hfv⊢;obtain⟨s,rfl,hs⟩:=hfv;obtain⟨sA',sC',rfl⟩:=aW hs;obtain⟨fn,aJ⟩:=f;dsimp only at*;obtain⟨w4,hw4⟩:∃w4,w4=(w3.alloc (.cells #[.string fn,.slice sA' aJ.length sC'] 27)).alloc (.cells #[.string fn,.slice sA' aJ.length sC'] 27):=⟨_,rfl⟩;have hL4:Later w3 w4:=by rw[hw4];exact((Later.refl _).alloc _).alloc _
      have hr4:w4.heap[w3.heap.size+1]?=some (.cells #[.string fn,.slice sA' aJ.length sC'] 27 (0,0)):=by
       rw[hw4];have:=heap_alloc_new (w3.alloc (.cells #[.string fn,.slice sA' aJ.length sC'] 27)) (.cells #[.string fn,.slice sA' aJ.length sC'] 27);simpa using this
      have HAd:=hide (yL w1.heap.size j _ (.slice (some ⟨w3.heap.size+1,0,none⟩) 1 1) [(fn,aJ)] w4 (HK.out.later (hL3.trans hL4)) (JV (f:=(fn,aJ)) hr4 (hs.later hL4)) (fun g hg=>by simp only[List.mem_singleton] at hg;subst hg;exact HSF.out) (by simp;omega));have HL4:Hid (Later wr w4):=hL3.trans hL4;have HW4:=hide hw4;clear hs hL3 hL4 hr4 hw4 HFc
      go_wp2_with fail
      rw[←HW4.out];refine HAd.out.mono ?_;rintro e w5 ⟨⟨u5,rfl⟩,hK5,hT5⟩;have HK5:Hid (KnN w5 w1.heap.size (j+1) ((R.take (j+1)).filterMap fun l=>aV r.head l)):=by show KnN _ _ _ _;rw[HFM.out];exact hK5
      have hs4:w1.heap.size≤w4.heap.size:=Nat.le_trans HBr.out.size HL4.out.size;have HB5:Hid (Below w1.heap.size w1 w5):=(aj HBr.out HL4.out.below HBr.out.size).trans (hT5.below (Nat.le_refl _) hs4);clear hK5 hT5 HAd HW4;go_wp2
      go_roundg (R.length- (j+1))
      case measure=>omega
      case rel=>exact⟨j+1,by omega,by go_num,HK5,HB5⟩
    ·have hj':j=R.length:=by omega
     subst hj';rw[List.take_length] at HK;have HF:=hide (Du _ _ _ wr HK.out (by omega))
     go_wp2_with fail
     refine HF.out.mono ?_;rintro e w6 ⟨v6,rfl,hF6,hB6⟩;have HT6:=hide (HH.out _ _ hF6);have HB6:Hid (Below w.heap.size w w6):=aj (aj HB1.out HBr.out HB1.out.size) hB6 (Nat.le_trans HB1.out.size HBr.out.size);obtain⟨a6,c6,rfl⟩:=aB hF6;clear hF6 hB6;go_wp2;exact bodyPost_ret (v:=.tuple #[.slice a6 (dK (R.filterMap fun l=>aV r.head l)).length c6,.int .i64 0]) (by simp[results,Tryz.results42,go_sem]) rfl ⟨_,0,rfl,HT6.out,HB6.out⟩
 ·rw[if_pos h0] at hT;obtain⟨rfl,rfl⟩:=hT;have HH:Hid (∀w',mI w' (.slice none 0 0) (pJ r.body fs []) r fs):=fun w'=>by unfold mI;rw[if_pos h0];exact⟨rfl,rfl⟩
  clear HS HR1 HT1;generalize pJ r.body fs []=er at*;go_wp2;exact bodyPost_ret (v:=.tuple #[.slice none 0 0,.int .i64 er]) (by simp[results,Tryz.results42,go_sem]) rfl ⟨_,er,rfl,HH.out _,HB1.out⟩
end Go.Proofs.YtafmbokfkbccaaaGreatDoor
