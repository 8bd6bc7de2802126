import Derived.Test.YtafmbokfkbccaaaGreatDoorJB12
import Derived.Test.YtafmbokfkbccaaaGreatDoorJB13
import Derived.Laws.StructEq
import Derived.Test.YtafmbokfkbccaaaGreatDoorJB8
import Derived.BigQuiet
namespace Go.Proofs.YtafmbokfkbccaaaGreatDoor
open Go.RowKit Go.Sort
def cu (l:List aG):Nat→Nat→Int×Int
 |0,_=>(0,0)
 |n+1,k=>if gD (l.getD k aB)≠0 then(gD (l.getD k aB),k) else if 0<k∧0≤fM (l.getD (k-1) aB) (l.getD k aB) then(2,k) else cu l n (k+1)
def bF (l:List aG):Int×Int:=if 200<l.length then(5,0) else cu l l.length 0
theorem sO (l:List aG) {k:Nat} (h:k<l.length):cu l (l.length-k) k=
  if gD (l.getD k aB)≠0 then(gD (l.getD k aB),(k:Int)) else if 0<k∧0≤fM (l.getD (k-1) aB) (l.getD k aB) then(2,(k:Int)) else cu l (l.length- (k+1)) (k+1):=by
 obtain⟨n,hn⟩:∃n,l.length-k=n+1:=⟨l.length-k-1,by omega⟩;rw[hn,show l.length- (k+1)=n by omega]
 rfl
theorem Iu (j:Nat) (h:j≤3518437208883):IntKind.i64.wrap (j:Int)=(j:Int):=by
 simp[IntKind.wrap,IntKind.bits,IntKind.signed];omega
theorem lY {w:World} {R:Nat} {u0 u1:Value} {t:TypeId} {fr:Nat×Nat} (h:w.heap[R]?=some (.cells #[u0,u1] t fr)) (x y:Value):
  ((w.setCell ⟨R,0,none⟩ x).setCell ⟨R,1,none⟩ y).cell? ⟨R,0,none⟩=some x∧((w.setCell ⟨R,0,none⟩ x).setCell ⟨R,1,none⟩ y).cell? ⟨R,1,none⟩=some y:=by
 have h2:=fT (j:=1) (fT (j:=0) h x) y;exact⟨by rw[cell_of_row _ _ _ _ _ _ h2];rfl,by rw[cell_of_row _ _ _ _ _ _ h2];rfl⟩
theorem qR {a b c d:Int} (h:(a,b)=(c,d)):Ending.returned (.agg #[.int .i64 a,.int .i64 b])=.returned (.agg #[.int .i64 c,.int .i64 d]):=by
 cases h;rfl
set_option maxHeartbeats 2000000 in
theorem O9 (v:Value) (l:List aG) (w:World) (hf:Facts w v l):
  Calls Tryz.prog 120 #[v] w fun e w'=>e=.returned (.agg #[.int .i64 (bF l).1,.int .i64 (bF l).2])∧Later w w':=by
 have mx:=mixed;have HF:=hide hf;obtain⟨a,cap,rfl,hn,hz⟩:=hf.addr;clear hf
 by_cases hbig:200<l.length
 ·have e:bF l=(5,0):=by unfold bF;rw[if_pos hbig]
  rw[e]
  go_enter Tryz.func120,Tryz.ntmps120
  go_wp2;exact bodyPost_ret (v:=.agg #[.int .i64 5,.int .i64 0]) (by simp[results,Tryz.results120,go_sem]) rfl ⟨rfl,(by repeat (first|exact Later.refl _|assumption|refine Later.drewN ?_ _|refine Later.drew ?_|refine Later.alloc ?_ _|refine Later.grow ?_ _))⟩
 ·have e:bF l=cu l l.length 0:=by unfold bF;rw[if_neg hbig]
  rw[e];clear e
  go_enter Tryz.func120,Tryz.ntmps120
  go_wp2
  go_loopw [12] (fun i wr=>∃k:Nat,k≤l.length∧i=.int .i64 k∧Later (w.alloc (.cells #[.int .i64 0,.int .i64 0] 75)) wr∧Hid (cu l l.length 0=cu l (l.length-k) k)) (fun i _=>l.length- (intOf i).toNat)
  case atStart=>exact⟨0,by omega,rfl,Later.refl _,(rfl:_=_)⟩
  case round=>
   obtain⟨k,hk,rfl,hL,HE⟩:=hrel;have hL0:Later w wr:=((Later.refl _).alloc _).trans hL;have hsz:w.heap.size<wr.heap.size:=by have:=hL.size;simp at this;omega
   by_cases hlt:k<l.length
   ·rcases hz with rfl|⟨b,off,rfl⟩
    ·simp at hlt
    have hltz:(k:Int)<(l.length:Int):=by omega
    obtain⟨hb,ax,lx,cx,g1,g2,fx⟩:=(HF.out.later hL0).at hlt;have hst:=sO l hlt;have HWr:Hid (∀w',Later wr w'→Calls Tryz.prog 59 #[.agg #[.string (l.getD k aB).1,.slice ax lx cx]] w' fun e w''=>e=.returned (.int .i64 (gD (l.getD k aB)))∧Later w' w''):=
     fun w' hw=>wrong _ _ w' (fx.later hw)
    have FX:=hide fx;clear fx
    by_cases hwz:gD (l.getD k aB)=0
    ·rw[if_neg (by omega)] at hst;rw[hwz] at HWr
     by_cases hk0:k=0
     ·have F:Hid (cu l l.length 0=cu l (l.length- (k+1)) (k+1)):=by show _=_;rw[HE.out,hst,if_neg (by omega)]
      have hd:decide (0<k)=false:=by rw[decide_eq_false_iff_not];omega
      clear hk0;generalize(l.getD k aB).1=nk at*;clear hst
      go_wp2_with fail
      refine(HWr.out _ ((Later.refl _).alloc _)).mono ?_;rintro e w1 ⟨rfl,hL1⟩;go_wp2
      go_quiet (fail)
      go_wp2
      go_roundw
      case rel=>exact⟨k+1,by omega,by go_num,(hL.trans (((Later.refl _).alloc _).trans hL1)).drewN _,F⟩
      case measure=>simp[intOf];omega
     ·obtain⟨j,rfl⟩:∃j,k=j+1:=⟨k-1,by omega⟩;rw[Nat.add_sub_cancel] at hst;have hjl:j<l.length:=by omega
      have hjz:(j:Int)<(l.length:Int):=by omega
      have hd:(0:Int)<(j:Int)+1:=by omega
      have hwj:IntKind.i64.wrap (j:Int)=(j:Int):=Iu j (by omega);generalize hfk:l.getD (j+1) aB=f at*;have HFK:=hide hfk;clear hfk;obtain⟨nk,lk⟩:=f;dsimp only at*
      go_wp2_with fail
      refine(HWr.out _ ((Later.refl _).alloc _)).mono ?_;rintro e w1 ⟨rfl,hL1⟩;have hLR:Later (w.alloc (.cells #[.int .i64 0,.int .i64 0] 75)) w1:=hL.trans (((Later.refl _).alloc _).trans hL1);have Oe:Later w w1:=((Later.refl _).alloc _).trans hLR;have hR:w1.heap[w.heap.size]?=some (.cells #[.int .i64 0,.int .i64 0] 75 (0,0)):=by rw[hLR.block (by simp),heap_alloc_new]
      have q0:w1.cell? ⟨w.heap.size,0,none⟩=some (.int .i64 0):=by rw[cell_of_row _ _ _ _ _ _ hR];rfl
      have q1:w1.cell? ⟨w.heap.size,1,none⟩=some (.int .i64 0):=by rw[cell_of_row _ _ _ _ _ _ hR];rfl
      have p0:w1.frozen? ⟨w.heap.size,0,none⟩=false:=frozen_of_row 0 hR;have p1:w1.frozen? ⟨w.heap.size,1,none⟩=false:=frozen_of_row 1 hR;have HRR:=hide hR;clear hR;have hLw:Later wr w1:=((Later.refl _).alloc _).trans hL1;obtain⟨ay,ly,cy,y1,y2,fy⟩:=(HF.out.later Oe).grown hjl;have b0:=cell_later hL1 (p:=⟨wr.heap.size,0,none⟩) (v:=.string nk) (by simp) (by simp);have b1:=cell_later hL1 (p:=⟨wr.heap.size,1,none⟩) (v:=.slice ax lx cx) (by simp) (by simp);have hC:∀q os,Calls Tryz.prog 128 #[.agg #[.string (l.getD j aB).1,.slice ay ly cy],.agg #[.string nk,.slice ax lx cx]] (grow (w1.drewN q) os) fun e w''=>e=.returned (.int .i64 (fM (l.getD j aB) (nk,lk)))∧Later (grow (w1.drewN q) os) w'':=
       fun q os=>jZ _ _ _ _ _ (fy.later ⟨q,os,rfl⟩) ((FX.out.later hLw).later ⟨q,os,rfl⟩)
      have HC:=hide hC;clear hC fy;generalize fM (l.getD j aB) (nk,lk)=cm at*;generalize(l.getD j aB).1=nj at*
      by_cases hcm:0≤cm
      ·have F:Hid (cu l l.length 0=(2,((j+1:Nat):Int))):=by show _=_;rw[HE.out,hst,if_pos ⟨by omega,hcm⟩]
       clear hst;go_wp2
       go_quiet_grown ((go_at_call 128;exact Calls.grown_of (HC.out _ _)))
       dsimp only;have hLW:Later w1 (grow (w1.drewN nq) osq):=⟨_,_,rfl⟩;generalize grow (w1.drewN nq) osq=w2 at hLW⊢;have hR:w2.heap[w.heap.size]?=some (.cells #[.int .i64 0,.int .i64 0] 75 (0,0)):=by rw[hLW.block (by have:=hLw.size;omega)];exact HRR.out
       have q0:w2.cell? ⟨w.heap.size,0,none⟩=some (.int .i64 0):=by rw[cell_of_row _ _ _ _ _ _ hR];rfl
       have q1:w2.cell? ⟨w.heap.size,1,none⟩=some (.int .i64 0):=by rw[cell_of_row _ _ _ _ _ _ hR];rfl
       have p0:w2.frozen? ⟨w.heap.size,0,none⟩=false:=frozen_of_row 0 hR;have p1:w2.frozen? ⟨w.heap.size,1,none⟩=false:=frozen_of_row 1 hR;have HR2:=hide hR;clear hR;go_wp2;obtain⟨r0,r1⟩:=lY HR2.out (.int .i64 2) (.int .i64 ((j:Int)+1));refine bodyPost_ret (v:=.agg #[.int .i64 2,.int .i64 ((j:Int)+1)]) (by simp[results,Tryz.results120,go_sem,r0,r1]) rfl ⟨qR (by rw[F.out];simp),?_⟩;exact((Oe.trans hLW).setCell (Nat.le_refl _) _).setCell (Nat.le_refl _) _
      ·have F:Hid (cu l l.length 0=cu l (l.length- (j+1+1)) (j+1+1)):=by show _=_;rw[HE.out,hst,if_neg (fun h=>hcm h.2)]
       clear hst;go_wp2
       go_quiet_grown ((go_at_call 128;exact Calls.grown_of (HC.out _ _)))
       go_wp2
       go_roundw
       case rel=>exact⟨j+1+1,by omega,by go_num,hLR.trans ⟨_,_,rfl⟩,F⟩
       case measure=>simp[intOf];omega
    ·have F:Hid (cu l l.length 0=(gD (l.getD k aB),(k:Int))):=by show _=_;rw[HE.out,hst,if_pos hwz]
     have Uq:(gD (l.getD k aB)==0)=false:=by simpa using hwz
     generalize gD (l.getD k aB)=we at*;generalize(l.getD k aB).1=nk at*;clear hst
     go_wp2_with fail
     refine(HWr.out _ ((Later.refl _).alloc _)).mono ?_;rintro e w1 ⟨rfl,hL1⟩;have hLR:Later (w.alloc (.cells #[.int .i64 0,.int .i64 0] 75)) w1:=hL.trans (((Later.refl _).alloc _).trans hL1);have Oe:Later w w1:=((Later.refl _).alloc _).trans hLR;have hR:w1.heap[w.heap.size]?=some (.cells #[.int .i64 0,.int .i64 0] 75 (0,0)):=by rw[hLR.block (by simp),heap_alloc_new]
     have q0:w1.cell? ⟨w.heap.size,0,none⟩=some (.int .i64 0):=by rw[cell_of_row _ _ _ _ _ _ hR];rfl
     have q1:w1.cell? ⟨w.heap.size,1,none⟩=some (.int .i64 0):=by rw[cell_of_row _ _ _ _ _ _ hR];rfl
     have p0:w1.frozen? ⟨w.heap.size,0,none⟩=false:=frozen_of_row 0 hR;have p1:w1.frozen? ⟨w.heap.size,1,none⟩=false:=frozen_of_row 1 hR;have HRR:=hide hR;clear hR;go_wp2;obtain⟨r0,r1⟩:=lY HRR.out (.int .i64 we) (.int .i64 k);refine bodyPost_ret (v:=.agg #[.int .i64 we,.int .i64 k]) (by simp[results,Tryz.results120,go_sem,r0,r1]) rfl ⟨qR (by rw[F.out]),?_⟩;exact(Oe.setCell (Nat.le_refl _) _).setCell (Nat.le_refl _) _
   ·have F:Hid (cu l l.length 0=(0,0)):=by show _=_;rw[HE.out,show l.length-k=0 by omega];rfl
    have q0:wr.cell? ⟨w.heap.size,0,none⟩=some (.int .i64 0):=by rw[hL.cell (by simp)];simp
    have q1:wr.cell? ⟨w.heap.size,1,none⟩=some (.int .i64 0):=by rw[hL.cell (by simp)];simp
    have p0:wr.frozen? ⟨w.heap.size,0,none⟩=false:=by rw[hL.frozen (by simp)];simp
    have p1:wr.frozen? ⟨w.heap.size,1,none⟩=false:=by rw[hL.frozen (by simp)];simp
    go_wp2;have hR:wr.heap[w.heap.size]?=some (.cells #[.int .i64 0,.int .i64 0] 75 (0,0)):=by rw[hL.block (by simp),heap_alloc_new]
    obtain⟨r0,r1⟩:=lY hR (.int .i64 0) (.int .i64 0);refine bodyPost_ret (v:=.agg #[.int .i64 0,.int .i64 0]) (by simp[results,Tryz.results120,go_sem,r0,r1]) rfl ⟨qR (by rw[F.out]),?_⟩;exact(hL0.setCell (Nat.le_refl _) _).setCell (Nat.le_refl _) _
end Go.Proofs.YtafmbokfkbccaaaGreatDoor
namespace Go.Proofs.YtafmbokfkbccaaaGreatDoor
open Go.RowKit Go.Sort Go.Maps
theorem lM (l:List aG):∀(n k:Nat),(cu l n k).1=0→∀i,k≤i→i<k+n→gD (l.getD i aB)=0∧(0<i→fM (l.getD (i-1) aB) (l.getD i aB)<0)
 |0,k,_,i,h1,h2=>by omega
 |n+1,k,h,i,h1,h2=>by
  simp only[cu] at h;split at h
  ·rename_i hw;exact absurd h hw
  ·rename_i hw;split at h
   ·cases h
   ·rename_i hc
    by_cases e:i=k
    ·subst e;refine⟨Classical.byContradiction hw,fun h0=> ?_⟩;exact Classical.byContradiction fun hn=>hc ⟨h0,by omega⟩
    ·exact lM l n (k+1) h i (by omega) (by omega)
theorem Iw {l:List aG} (h:∀i,0<i→i<l.length→fM (l.getD (i-1) aB) (l.getD i aB)<0):fI l:=by
 have key:∀(d i:Nat),i+d+1<l.length→fM (l.getD i aB) (l.getD (i+d+1) aB)<0:=by
  intro d
  induction d with
  |zero=>intro i hi;have:=h (i+1) (by omega) (by omega);simpa using this
  |succ d ih=>
   intro i hi;have h1:=ih i (by omega);have h2:=h (i+(d+1)+1) (by omega) hi;have e:i+(d+1)+1-1=i+d+1:=by omega
   rw[e] at h2;exact aM.trans _ _ _ h1 h2
 unfold fI;rw[List.pairwise_iff_getElem];intro i j hi hj hij;have:=key (j-i-1) i (by omega);rw[show i+(j-i-1)+1=j by omega] at this;rw[List.getD_eq_getElem?_getD,List.getD_eq_getElem?_getD,List.getElem?_eq_getElem hi,List.getElem?_eq_getElem hj] at this;exact this
theorem set_right {l:List aG} (h:(bF l).1=0):l.length≤200∧fI l∧∀f∈l,gD f=0:=by
 unfold bF at h;split at h
 ·simp at h
 ·rename_i hl;have hz:=lM l l.length 0 h;refine⟨by omega,Iw fun i h0 hi=>(hz i (Nat.zero_le _) (by omega)).2 h0,fun f hf=> ?_⟩;obtain⟨i,hi,e⟩:=List.getElem_of_mem hf;have:=(hz i (Nat.zero_le _) (by omega)).1;rw[List.getD_eq_getElem?_getD,List.getElem?_eq_getElem hi] at this;rw[←e];exact this
theorem FC {lo:Nat} {ty:TypeId} {w w':World} {v:Value} {n:Nat} {xs:List Value} (h:w.ownsRow lo ty 1 v n xs) (hk:∀k,v.ownBlock=some k→w'.heap[k]?=w.heap[k]?):w'.ownsRow lo ty 1 v n xs:=by
 refine⟨h.1,?_⟩;rcases h.2 with e|⟨g,cap,cur,rfl,hbg,hg,r⟩
 ·exact Or.inl e
 ·exact Or.inr ⟨g,cap,cur,rfl,hbg,by rw[hk g rfl];exact hg,r⟩
set_option maxRecDepth 100000 in
set_option maxHeartbeats 2000000 in
theorem MV (v:Value) (ps:List (Value×List aC)) (lo:Nat) (w0 w:World) (h0:Later w0 w) (hlo:w0.heap.size≤lo) (hv:Lists 158 190 lo w v ps) (hl:ps.length≤20000) (hs:∀q∈ps,q.2.length≤20):
  Calls Tryz.prog 162 #[v] w fun e w'=>e=.returned v∧sH.sl (From lo) w' v (iU iB (ps.map fun q=>jk q.2))∧Later w0 w':=by
 obtain⟨a,cap,rfl⟩:=hv.slice;have hvl:=fun k e=>hv.lo_le k e;obtain⟨ho,hp,hpw⟩:=hv;have HR:=hide ho;have HA:Hid (∀q∈ps,apart q.1 (.slice a ps.length cap)):=fun q hq=>(hp q hq).2;have HOw:Hid (∀q∈ps.drop 0,bA.own 190 lo w q.1 q.2):=fun q hq=>(hp q (by simpa using hq)).1;have HQl:Hid (∀q∈ps,∀k,q.1.ownBlock=some k→lo≤k):=fun q hq k e=>(Kind.fu (hp q hq).1 e).1;have HPW:=hide hpw;have HS:=hide hs;have H0:=hide h0;have HVL:=hide hvl;clear ho hp hpw hs h0 hvl
 go_enter Tryz.func162,Tryz.ntmps162
 go_wp2
 go_loopg [7] ps.length (fun gg i wr=>∃j:Nat,j+gg=ps.length∧i=.int .i64 j∧Hid (wr.ownsRow lo 158 1 (.slice a ps.length cap) ps.length (ps.map (·.1)))∧Hid (∀q∈ps.take j,bA.sl (jD q.1) wr q.1 (jk q.2))∧Hid (∀q∈ps.drop j,bA.own 190 lo wr q.1 q.2)∧Hid (Later w0 wr))
 case atStart=>exact⟨0,by omega,rfl,HR,(fun q hq=>by simp at hq),HOw,H0⟩
 case round=>
  clear HR HOw H0;obtain⟨j,hj,rfl,HR,HT,HOw,HL⟩:=hrel
  by_cases hlt:j<ps.length
  ·obtain⟨q,hq⟩:∃q,ps[j]?=some q:=⟨_,List.getElem?_eq_getElem hlt⟩;have hdr:ps.drop j=q::ps.drop (j+1):=by
    obtain⟨h1,e1⟩:=List.getElem?_eq_some_iff.1 hq;rw[List.drop_eq_getElem_cons h1,e1]
   have hqo:bA.own 190 lo wr q.1 q.2:=HOw.out q (by rw[hdr];exact List.mem_cons_self);have hqm:=List.mem_of_getElem? hq;obtain⟨b,hab,hcell,hbl⟩:∃b,a=some ⟨b,0,none⟩∧wr.cell? ⟨b,j,none⟩=some q.1∧b<wr.heap.size:=by
    rcases HR.out.2 with⟨e,e'⟩|⟨g,cap',cur,e,hbg,hg,_⟩
    ·omega
    ·simp only[Value.slice.injEq] at e;obtain⟨rfl,_,rfl⟩:=e;have:=HR.out.cells (g:=g) rfl j q.1 (by rw[List.getElem?_map,hq];rfl);rw[Addr.add_lit,Nat.zero_add] at this;exact⟨g,rfl,this,(Array.getElem?_eq_some_iff.1 hg).1⟩
   subst hab;have Ad:=hide (Mx lo q.1 q.2 wr hqo (by have:=HS.out q hqm;omega));have MW:(ps.take j++q::ps.drop (j+1)).Pairwise fun p q=>apart p.1 q.1:=by rw[←hdr,List.take_append_drop];exact HPW.out
   rw[List.pairwise_append] at MW;obtain⟨_,hp2,hp3⟩:=MW;have hafter:=(List.pairwise_cons.1 hp2).1;have SS:Hid (∀p∈ps.take j,apart p.1 q.1):=fun p hp=>hp3 p hp q List.mem_cons_self;have SV:=hide hafter;have HQA:Hid (apart q.1 (.slice (some ⟨b,0,none⟩) ps.length cap)):=HA.out q hqm;have HQO:=hide hqo;have HDr:=hide hdr;have HQ:=hide hq;obtain⟨ua,un,uc,hqu⟩:∃a n c,q.1=.slice a n c:=by obtain⟨a,c,e⟩:=Kind.dI hqo;exact⟨a,_,c,e⟩
   have HQU:=hide hqu;rw[hqu] at hcell Ad;clear hq hdr hqo hqm hp2 hp3 hafter hqu
   go_wp2_with fail
   refine Ad.out.mono ?_;rintro e w2 ⟨rfl,hsl,hO⟩;have HSL:Hid (bA.sl (jD q.1) w2 q.1 (jk q.2)):=by rw[HQU.out];exact hsl
   have hO':gY q.1.ownBlock wr w2:=by rw[HQU.out];exact hO
   have HO:=hide hO';clear hsl hO hO' Ad;go_wp2
   go_roundg (ps.length- (j+1))
   case measure=>omega
   case rel=>
    refine⟨j+1,by omega,by go_num,?_,?_,?_,?_⟩
    ·exact FC HR.out fun k e=>HO.out.block k (HR.out.lt k e).2 (fun e'=>HQA.out k e' e)
    ·intro p hp;rw[List.take_add_one,HQ.out] at hp;rcases List.mem_append.1 hp with h|h
     ·exact Kind.aT (HT.out p h) HO.out.size fun k hk hB=>HO.out.block k hk (fun e'=>SS.out p h k hB e')
     ·simp at h;rw[h];exact HSL.out
    ·intro p hp;have h1:=HOw.out p (by rw[HDr.out];exact List.mem_cons_of_mem _ hp);exact jQ h1 fun k e=>HO.out.block k (Kind.fu h1 e).2 (fun e'=>SV.out p hp k e' e)
    ·exact HO.out.later HL.out fun k e=>by have:=(Kind.fu HQO.out e).1;omega
  ·have e:j=ps.length:=by omega
   have HT':Hid (∀q∈ps,bA.sl (jD q.1) wr q.1 (jk q.2)):=by
    have:=HT.out;rw[e,List.take_length] at this;exact this
   have hm1:(ps.map fun q=>(q.1,jk q.2)).map (·.1)=ps.map (·.1):=by rw[List.map_map];rfl
   have hm2:(ps.map fun q=>(q.1,jk q.2)).map (·.2)=ps.map fun q=>jk q.2:=by rw[List.map_map];rfl
   have Ad:=MB lo 158 (.slice a ps.length cap) (ps.map fun q=>(q.1,jk q.2)) wr (by rw[hm1,List.length_map];exact HR.out) (fun p hp=>by
    obtain⟨q,hq,rfl⟩:=List.mem_map.1 hp;exact Kind.aW (HT'.out q hq) fun k _ hB=>⟨fun e=>HA.out q hq k hB e,HQl.out q hq k hB⟩) (by rw[List.length_map];omega)
   rw[hm2] at Ad;have HSo:=hide Ad;clear Ad hm1 hm2 e
   go_wp2_with fail
   refine HSo.out.mono ?_;rintro e w2 ⟨rfl,hsl,hO⟩;have HSL:=hide hsl;have HL2:=hide (hO.later HL.out fun k e=>by have:=HVL.out k e;omega);clear hsl hO HSo;go_wp2;go_ret;exact⟨rfl,HSL.out,HL2.out⟩
set_option maxRecDepth 100000 in
theorem Pb (a b:Int) (w:World):(Instr.field 75 (.agg #[.int .i64 a,.int .i64 b]) 0).run Tryz.prog w=.ok (.int .i64 a) w:=by
 first|kernel_rfl|(simp[Instr.field,run_underlying Tryz.underlying75])|go_simp
def pO (body:List aF) (fs os:List aG):Int:=if aL body≠0 then aL body else if(bF fs).1≠0 then(bF fs).1 else(bF os).1
set_option maxRecDepth 100000 in
set_option maxHeartbeats 1000000 in
theorem KD (body:List aF) (v fv ov:Value) (fs os:List aG) (w:World) (hv:bN.sl bJ w v body) (hf:Facts w fv fs) (ho:Facts w ov os):
  Calls Tryz.prog 156 #[v,fv,ov] w fun e w'=>e=.returned (.int .i64 (pO body fs os))∧Below w.heap.size w w':=by
 have HB:=hide (Bz body v w hv);have HF:Hid (∀w1,Below w.heap.size w w1→Calls Tryz.prog 120 #[fv] w1 fun e w'=>e=.returned (.agg #[.int .i64 (bF fs).1,.int .i64 (bF fs).2])∧Hid (Below w.heap.size w w')):=fun w1 h1=>
  (O9 fv fs w1 (hf.below h1)).mono fun e w' ⟨he,hL⟩=>⟨he,ak h1 hL.below h1.size⟩
 have HO:Hid (∀w1,Below w.heap.size w w1→Calls Tryz.prog 120 #[ov] w1 fun e w'=>e=.returned (.agg #[.int .i64 (bF os).1,.int .i64 (bF os).2])∧Hid (Below w.heap.size w w')):=fun w1 h1=>
  (O9 ov os w1 (ho.below h1)).mono fun e w' ⟨he,hL⟩=>⟨he,ak h1 hL.below h1.size⟩
 obtain⟨a,cap,rfl⟩:=Kind.slice hv;obtain⟨fa,fc,rfl⟩:=aD hf;obtain⟨oa,oc,rfl⟩:=aD ho;clear hv hf ho;have E:pO body fs os=if aL body≠0 then aL body else if(bF fs).1≠0 then(bF fs).1 else(bF os).1:=rfl;generalize pO body fs os=R at*;generalize aL body=eb at*;generalize bF fs=ef at*;generalize bF os=eo at*;obtain⟨f1,f2⟩:=ef;obtain⟨o1,o2⟩:=eo;dsimp only at*
 by_cases h0:eb=0
 ·subst h0;rw[if_neg (by simp)] at E
  by_cases h1:f1=0
  ·subst h1;rw[if_neg (by simp)] at E;have HE:=hide E;have hfe:=Pb;clear E
   go_enter Tryz.func156,Tryz.ntmps156
   go_wp2_with fail
   refine HB.out.mono ?_;rintro e w1 ⟨rfl,hB1⟩;have H1:=hide (HF.out w1 hB1);clear HB HF hB1
   go_wp2_with fail
   refine H1.out.mono ?_;rintro e w2 ⟨rfl,hB2⟩;have H2:=hide (HO.out (w2.alloc (.cells #[.int .i64 0,.int .i64 f2] 75)) (hB2.out.alloc hB2.out.size _));clear HO H1 hB2
   go_wp2_with fail
   refine H2.out.mono ?_;rintro e w3 ⟨rfl,hB3⟩;clear H2;go_wp2;go_ret;exact⟨by rw[HE.out];rfl,hB3.out⟩
  ·rw[if_pos h1] at E;have HE:=hide E;have hq:(f1 != 0)=true:=by simpa using h1
   clear E h1 HO
   go_enter Tryz.func156,Tryz.ntmps156
   go_wp2_with fail
   refine HB.out.mono ?_;rintro e w1 ⟨rfl,hB1⟩;have H1:=hide (HF.out w1 hB1);clear HB HF hB1
   go_wp2_with fail
   refine H1.out.mono ?_;rintro e w2 ⟨rfl,hB2⟩;clear H1;go_wp2;go_ret;exact⟨by rw[HE.out];rfl,hB2.out.alloc hB2.out.size _⟩
 ·rw[if_pos h0] at E;have HE:=hide E;have hq:(eb != 0)=true:=by simpa using h0
  clear E h0 HO HF
  go_enter Tryz.func156,Tryz.ntmps156
  go_wp2_with fail
  refine HB.out.mono ?_;rintro e w1 ⟨rfl,hB1⟩;have HB1:=hide hB1;clear HB hB1;go_wp2;go_ret;exact⟨by rw[HE.out];rfl,HB1.out⟩
def Dc (w:World) (v:Value) (er:Int) (body:List aF) (fs:List aG) (at_:Int) (os:List aG):Prop:=
 if pO body fs os≠0 then v=.slice none 0 0∧er=pO body fs os else match lF (gM fs at_ os) body with
  |none=>v=.slice none 0 0∧er=4
  |some R=>er=0∧sH.sl bJ w v R
theorem FD {body:List aF} {fs os:List aG} (h:pO body fs os=0):aL body=0∧(bF fs).1=0∧(bF os).1=0:=by
 unfold pO at h;split at h
 ·rename_i h1;exact absurd h h1
 ·rename_i h1;split at h
  ·rename_i h2;exact absurd h h2
  ·rename_i h2;exact⟨Classical.byContradiction h1,Classical.byContradiction h2,h⟩
theorem lN:∀{l:List aF},bB l=0→∀a∈l,aN a=0
 |[],_,a,ha=>by cases ha
 |b::l,h,a,ha=>by
  unfold bB at h
  by_cases hb:aN b=0
  ·rcases List.mem_cons.1 ha with e|h1
   ·rw[e];exact hb
   ·refine lN ?_ a h1;simpa[hb] using h
  ·simp[hb] at h
theorem ug {body:List aF} (h:aL body=0):body.length≤5∧∀a∈body,aN a=0:=by
 unfold aL at h;split at h
 ·simp at h
 ·split at h
  ·rename_i h5 ha;exact⟨by omega,lN ha⟩
  ·rename_i hne;exact absurd h hne
theorem uh {fs os:List aG} {at_:Int} {P:List aG→Prop} (h1:P fs) (h2:P os) (n:Nat):P (gM fs at_ os n):=by
 unfold gM;split
 ·exact h2
 ·exact h1
def yA (lo:Nat) (w:World) (v:Value) (er:Int) (body:List aF) (fs:List aG) (at_:Int) (os:List aG):Prop:=
 if pO body fs os≠0 then v=.slice none 0 0∧er=pO body fs os else match lF (gM fs at_ os) body with
  |none=>v=.slice none 0 0∧er=4
  |some R=>er=0∧sH.sl (From lo) w v R
theorem yA.any {lo:Nat} {w:World} {v:Value} {er:Int} {body:List aF} {fs os:List aG} {at_:Int} (h:yA lo w v er body fs at_ os):Dc w v er body fs at_ os:=by
 unfold yA at h;unfold Dc;split
 ·rename_i h0;rw[if_pos h0] at h;exact h
 ·rename_i h0;rw[if_neg h0] at h;cases e:lF (gM fs at_ os) body with
  |none=>rw[e] at h;exact h
  |some R=>rw[e] at h;exact⟨h.1,Kind.dN h.2⟩
set_option maxRecDepth 100000 in
set_option maxHeartbeats 2000000 in
theorem Pd (body:List aF) (v fv ov:Value) (fs os:List aG) (at_:Int) (w:World) (hv:bN.sl bJ w v body) (hf:Facts w fv fs) (ho:Facts w ov os):
  Calls Tryz.prog 88 #[v,fv,.int .i64 at_,ov] w fun e w'=>∃v' er,e=.returned (.tuple #[v',.int .i64 er])∧yA w.heap.size w' v' er body fs at_ os∧Below w.heap.size w w':=by
 obtain⟨a,cap,hva⟩:=Kind.slice hv;have HW:Hid (Calls Tryz.prog 156 #[v,fv,ov] (w.alloc (.cells #[v] 73)) fun e w'=>e=.returned (.int .i64 (pO body fs os))∧Below (w.alloc (.cells #[v] 73)).heap.size (w.alloc (.cells #[v] 73)) w'):=
  KD body v fv ov fs os _ (Kind.aI hv ((Later.refl _).alloc _)) (hf.later ((Later.refl _).alloc _)) (ho.later ((Later.refl _).alloc _))
 have HV:=hide hv;have HF:=hide hf;have HO:=hide ho;obtain⟨fa,fc,hfa⟩:=aD hf;obtain⟨oa,oc,hoa⟩:=aD ho;subst hva hfa hoa;clear hv hf ho
 by_cases h0:pO body fs os=0
 ·rw[h0] at HW;have H0:=hide h0;obtain⟨hw0,hf0,ho0⟩:=FD h0;obtain⟨hb5,hba⟩:=ug hw0;obtain⟨hfl,hfr,_⟩:=set_right hf0;obtain⟨hol,hor,_⟩:=set_right ho0;have HPr:Hid (∀n,fI (gM fs at_ os n)):=uh hfr hor;have HPl:Hid (∀n,(gM fs at_ os n).length≤200):=uh (P:=fun l=>l.length≤200) hfl hol;have HBa:Hid (∀a∈body,a.terms.length≤4):=fun a ha=>(bL (hba a ha)).2.1;clear h0 hw0 hf0 ho0 hba hfl hol hfr hor
  go_enter Tryz.func88,Tryz.ntmps88
  go_wp2_with fail
  refine HW.out.mono ?_;rintro e w1 ⟨rfl,hB1⟩;have hBw:Below w.heap.size w w1:=ak ((Later.refl w).alloc _).below hB1 (by simp);have hs1:w.heap.size<w1.heap.size:=by have:=hB1.size;simp at this;omega
  have z0:w1.cell? ⟨w.heap.size,0,none⟩=some (.slice a body.length cap):=by rw[hB1.cell (by simp)];simp
  have HSr:=hide (Km _ _ fs os at_ w1 (HF.out.below hBw) (HO.out.below hBw));have HBw:=hide hBw;clear HW hB1 hBw
  go_wp2_with fail
  refine HSr.out.mono ?_;rintro e w2 ⟨rfl,hL2,hs2,y0,y1,y2⟩;have hB2:Below w.heap.size w w2:=ak HBw.out hL2.below HBw.out.size;obtain⟨w3,hw3⟩:∃w3,w3=w2.alloc (.cells #[.func (.func 217) #[] #[.pointer (some ⟨w1.heap.size+1,0,none⟩),.pointer (some ⟨w1.heap.size+2,0,none⟩),.pointer (some ⟨w1.heap.size,0,none⟩)]] 227):=⟨_,rfl⟩;have hL3:Later w2 w3:=by rw[hw3];exact(Later.refl _).alloc _
  have hB3:Below w.heap.size w w3:=ak hB2 hL3.below hB2.size;have hs3:w3.heap.size=w2.heap.size+1:=by rw[hw3];simp
  have x0:w3.cell? ⟨w.heap.size,0,none⟩=some (.slice a body.length cap):=by rw[(hL2.trans hL3).cell (by exact hs1)];exact z0
  have x1:w3.cell? ⟨w2.heap.size,0,none⟩=some (.func (.func 217) #[] #[.pointer (some ⟨w1.heap.size+1,0,none⟩),.pointer (some ⟨w1.heap.size+2,0,none⟩),.pointer (some ⟨w1.heap.size,0,none⟩)]):=by rw[hw3];simp
  have hPk:xU 217 #[.pointer (some ⟨w1.heap.size+1,0,none⟩),.pointer (some ⟨w1.heap.size+2,0,none⟩),.pointer (some ⟨w1.heap.size,0,none⟩)] (gM fs at_ os) w3.heap.size w3:=
   Ik w1.heap.size (w1.heap.size+1) (w1.heap.size+2) _ _ fs os at_ _ w3 (HF.out.below hB3) (HO.out.below hB3) (by rw[hL3.cell (by show w1.heap.size<w2.heap.size;omega)];exact y0) (by rw[hL3.cell (by show w1.heap.size+1<w2.heap.size;omega)];exact y1) (by rw[hL3.cell (by show w1.heap.size+2<w2.heap.size;omega)];exact y2) (by omega) (by omega) (by omega) rfl
  have hDl:=MG w.heap.size w2.heap.size body _ 217 _ lI (gM fs at_ os) w3.heap.size w3 (Kind.aR HV.out hB3) hPk hb5 HPr.out x0 x1 (by omega) (by omega) rfl;have HMt:=hide (Sz body _ 217 _ lI (gM fs at_ os) w3 (Kind.aR HV.out hB3) hPk hb5 HBa.out HPl.out);have HDl:=hide hDl;have HB3:=hide hB3;have HW3:=hide hw3;have u0:w2.cell? ⟨w.heap.size,0,none⟩=some (.slice a body.length cap):=by rw[hL2.cell (by exact hs1)];exact z0
  have hx0:w.heap.size<w2.heap.size:=by omega
  clear x0 x1;have hAB:lF (gM fs at_ os) body=match eu (gM fs at_ os) 0 body [[]] with|none=>none|some ms=>some (iU iB ((ms.filter fun l=> !barredB (gM fs at_ os) 0 body l).map jk)):=rfl
  generalize barredB (gM fs at_ os) 0 body=bp at*;clear HSr hL2 hB2 hL3 hB3 hPk hDl hw3 y0 y1 y2 z0 hs2 hs3 HPr HPl HBa HF HO HBw
  go_wp2_with fail
  rw[←HW3.out];refine HMt.out.mono ?_;rintro e w4 ⟨v4,er,rfl,hMT,hL4⟩;cases hmg:eu (gM fs at_ os) 0 body [[]] with
  |none=>
   rw[hmg] at hMT hAB;obtain⟨rfl,rfl⟩:=hMT;dsimp only at hAB;have HAB:=hide hAB;have HL4:=hide hL4;clear hmg hAB HMt hL4;go_wp2
   go_ret2
   refine⟨.slice none 0 0,4,rfl,?_,ak HB3.out HL4.out.below HB3.out.size⟩;unfold yA;rw[if_neg (fun h=>h H0.out),HAB.out];exact⟨rfl,rfl⟩
  |some ms=>
   rw[hmg] at hMT hAB;obtain⟨rfl,ps,hps,hpl,hpq,hLs⟩:=hMT;dsimp only at hAB;have hpl':ps.length≤20000:=by rw[←hps,List.length_map] at hpl;exact hpl
   have Pe:∀q∈ps,q.2.length≤20:=fun q hq=>hpq _ (by rw[←hps];exact List.mem_map.2 ⟨q,hq,rfl⟩);have HDe:=hide (Ko v4 ps 160 _ xZ bp w3.heap.size w3.heap.size w3 w4 HDl.out hL4.below (Nat.le_refl _) hL4.size hLs hpl' Pe);obtain⟨a4,n4,c4,rfl⟩:∃a n c,v4=.slice a n c:=by obtain⟨a,c,e⟩:=Lists.slice hLs;exact⟨a,_,c,e⟩
   have HLo:Hid (∀k,(Value.slice a4 n4 c4).ownBlock=some k→w3.heap.size≤k):=fun k e=>hLs.lo_le k e;have HAB:=hide hAB;have HL4:=hide hL4;have HPS:=hide hps;have HPL:=hide hpl';have HPQ:=hide Pe;clear hmg hAB HMt hL4 hps hpl hpq hLs hpl' Pe
   go_wp2_with fail
   refine HDe.out.mono ?_;rintro e w5 ⟨v5,rfl,Pf,hob,hO5⟩;have hL5:Later w3 w5:=hO5.later HL4.out fun k e=>HLo.out k e;have hkl:(jl bp ps).length≤20000:=Nat.le_trans (List.length_filter_le _ _) HPL.out;have HRi:=hide (MV v5 (jl bp ps) w3.heap.size w3 w5 hL5 (Nat.le_refl _) Pf hkl (fun q hq=>HPQ.out q (List.mem_filter.1 hq).1));obtain⟨a5,n5,c5,rfl⟩:∃a n c,v5=.slice a n c:=by obtain⟨a,c,e⟩:=Lists.slice Pf;exact⟨a,_,c,e⟩
   clear HDe Pf hob hO5 hL5 hkl
   go_wp2_with fail
   refine HRi.out.mono ?_;rintro e w6 ⟨rfl,hsl,hL6⟩;have HSL:=hide hsl;have HL6:=hide hL6;clear HRi hsl hL6;go_wp2
   go_ret2
   refine⟨.slice a5 n5 c5,0,rfl,?_,ak HB3.out HL6.out.below HB3.out.size⟩;unfold yA;rw[if_neg (fun h=>h H0.out),HAB.out];have e:(ms.filter fun l=> !bp l).map jk=(jl bp ps).map fun q=>jk q.2:=by
    rw[←HPS.out];unfold jl;rw[List.filter_map,List.map_map]
    rfl
   rw[e];exact⟨rfl,Kind.aW HSL.out fun k _ hk=>Nat.le_trans HB3.out.size hk⟩
 ·have hq:(pO body fs os != 0)=true:=by simpa using h0
  have H0:=hide h0;generalize her:pO body fs os=er at*;have HER:=hide her;clear h0 HV HF HO her
  go_enter Tryz.func88,Tryz.ntmps88
  go_wp2_with fail
  refine HW.out.mono ?_;rintro e w1 ⟨rfl,hB1⟩;have HB:=hide (ak ((Later.refl w).alloc (.cells #[.slice a body.length cap] 73)).below hB1 (by simp));clear HW hB1;go_wp2
  go_ret2
  refine⟨.slice none 0 0,er,rfl,?_,HB.out⟩;unfold yA;rw[HER.out,if_pos H0.out];exact⟨rfl,rfl⟩
end Go.Proofs.YtafmbokfkbccaaaGreatDoor
namespace Go.Proofs.YtafmbokfkbccaaaGreatDoor
open Go.RowKit Go.Sort
def QF (l m:List aC):Bool:=decide (iB l m<0)
theorem yB (w:World):Facts w (.slice none 0 0) []:=⟨by simp,none,0,rfl,fun h=>absurd rfl h⟩
set_option maxHeartbeats 1000000 in
theorem SX (body:List aF) (v fv:Value) (fs:List aG) (w:World) (hv:bN.sl bJ w v body) (hf:Facts w fv fs):
  Calls Tryz.prog 40 #[v,fv] w fun e w'=>∃v' er,e=.returned (.tuple #[v',.int .i64 er])∧yA w.heap.size w' v' er body fs (-1) []∧Below w.heap.size w w':=by
 have HW:=hide (Pd body v fv (.slice none 0 0) fs [] (-1) w hv hf (yB w));obtain⟨a,cap,rfl⟩:=Kind.slice hv;obtain⟨fa,fc,rfl⟩:=aD hf;clear hv hf
 go_enter Tryz.func40,Tryz.ntmps40
 go_wp2_with fail
 refine HW.out.mono ?_;rintro e w1 ⟨v',er,rfl,hT,hB⟩;have HT:=hide hT;have HB:=hide hB;clear hT hB HW;go_wp2
 go_ret2
 exact⟨v',er,rfl,HT.out,HB.out⟩
theorem QG (body:List aF) (v fv:Value) (fs:List aG) (w:World) (hv:bN.sl bJ w v body) (hf:Facts w fv fs):
  Calls Tryz.prog 40 #[v,fv] w fun e w'=>∃v' er,e=.returned (.tuple #[v',.int .i64 er])∧Dc w' v' er body fs (-1) []∧Below w.heap.size w w':=
 (SX body v fv fs w hv hf).mono fun _ _ ⟨v',er,h1,h2,h3⟩=>⟨v',er,h1,h2.any,h3⟩
end Go.Proofs.YtafmbokfkbccaaaGreatDoor
namespace Go.Proofs.YtafmbokfkbccaaaGreatDoor
open Go.RowKit Go.Sort
def MX (all:List aj) (b:List aC) (a:aF):Bool:=a.no&&(match aQ a b with|none=>true|some f=>inB all f)
theorem KE (all:List aj) (body:List aF) (b:List aC):G6 all body b=if body.any (MX all b) then 10 else 0:=rfl
set_option maxRecDepth 100000 in
set_option maxHeartbeats 2000000 in
theorem KF (all:List aj) (body:List aF) (l:List aC) (pv tv av bv lv:Value) (w:World) (hp:∃a n c,pv=.slice a n c) (ht:∃a n c,tv=.slice a n c) (ha:Facts w av all) (hr:fI all) (hb:bN.sl bJ w bv body) (hl:bA.sl bJ w lv l):
  Calls Tryz.prog 176 #[.agg #[pv,tv,av],bv,lv] w fun e w'=>e=.returned (.int .i64 (G6 all body l))∧Later w w':=by
 obtain⟨pa,pn,pc,rfl⟩:=hp;obtain⟨ta,tn,tc,rfl⟩:=ht;obtain⟨aa,ac,rfl⟩:=aD ha;obtain⟨ba,bc,rfl⟩:=Kind.slice hb;obtain⟨la,lc,rfl⟩:=Kind.slice hl;have hbl:=hb.1.1;obtain⟨wg,hwg⟩:∃wg,wg=w.alloc (.cells #[.slice pa pn pc,.slice ta tn tc,.slice aa all.length ac] 109):=⟨_,rfl⟩;have hLg:Later w wg:=by rw[hwg];exact(Later.refl w).alloc _
 have hRg:wg.heap[w.heap.size]?=some (.cells #[.slice pa pn pc,.slice ta tn tc,.slice aa all.length ac] 109 (0,0)):=by rw[hwg];exact heap_alloc_new w _
 have hlg:w.heap.size<wg.heap.size:=(Array.getElem?_eq_some_iff.1 hRg).1;have HA:=hide (ha.later hLg);have HB:=hide (Kind.aI hb hLg);have HL:=hide (Kind.aI hl hLg);have HR:=hide hr;have HLg:=hide hLg;have HRg:=hide hRg;have HWg:=hide hwg;rw[KE];clear ha hb hl hr hLg hRg hwg;obtain⟨P,hP⟩:∃P,P=MX all l:=⟨_,rfl⟩;rw[←hP];have HPD:=hide hP;obtain⟨RR,hRR⟩:∃RR:Int,RR=if body.any P then 10 else 0:=⟨_,rfl⟩;rw[←hRR];have HRR:=hide hRR;clear hP hRR
 go_enter Tryz.func176,Tryz.ntmps176
 go_wp2_with (rw[←HWg.out])
 clear HWg
 go_loopg [13] body.length (fun g i wr=>∃j:Nat,j+g=body.length∧i=.int .i64 j∧Hid ((body.take j).any P=false)∧Hid (Later wg wr))
 case atStart=>exact⟨0,by omega,rfl,(by simp:_=_),Later.refl _⟩
 case round=>
  obtain⟨j,hj,rfl,HN,HW⟩:=hrel
  by_cases hlt:j<body.length
  ·obtain⟨a,ha⟩:∃a,body[j]?=some a:=⟨_,List.getElem?_eq_getElem hlt⟩;obtain⟨b1,o1,_,e1,hb1,⟨xv,hce,htv⟩,hc⟩:=Kind.fP HB.out ha;subst e1;subst hce;have d0:wr.cell? ⟨b1,o1+j*3,none⟩=some (.bool a.no):=by rw[HW.out.cell (p:=⟨b1,o1+j*3,none⟩) hb1];simpa[bN] using hc 0 _ rfl
   have d1:wr.cell? ⟨b1,o1+j*3+1,none⟩=some (.string (bs a.name)):=by rw[HW.out.cell (p:=⟨b1,o1+j*3+1,none⟩) hb1];simpa[bN] using hc 1 _ rfl
   have d2:wr.cell? ⟨b1,o1+j*3+2,none⟩=some xv:=by rw[HW.out.cell (p:=⟨b1,o1+j*3+2,none⟩) hb1];simpa[bN] using hc 2 _ rfl
   obtain⟨xa,xc,rfl⟩:=Kind.slice htv;have htk:(body.take (j+1)).any P=((body.take j).any P||P a):=by rw[List.take_add_one,ha];simp
   have hmem:a∈body:=List.mem_of_getElem? ha;obtain⟨wa,hwa⟩:∃wa,wa=wr.alloc (.cells #[.bool a.no,.string (bs a.name),.slice xa a.terms.length xc] 85):=⟨_,rfl⟩;have hLa:Later wr wa:=by rw[hwa];exact(Later.refl wr).alloc _
   have hRa:wa.heap[wr.heap.size]?=some (.cells #[.bool a.no,.string (bs a.name),.slice xa a.terms.length xc] 85 (0,0)):=by rw[hwa];exact heap_alloc_new wr _
   obtain⟨c0,c1,c2,_⟩:=EX hRa;have hLA:=HW.out.trans hLa;have HFi:=hide (Kg a (.slice xa a.terms.length xc) (.slice la l.length lc) l wa (Kind.aI htv hLA) (Kind.aI HL.out hLA));have HLa:=hide hLA;have HWa:=hide hwa;clear hc ha htv hwa hLa hRa hLA;cases hno:a.no with
   |false=>
    have HN2:Hid ((body.take (j+1)).any P=false):=by
     show _=_;rw[htk,HN.out,HPD.out];unfold MX;rw[hno];rfl
    rw[hno] at d0 HWa c0;clear hno htk HN HFi;generalize bs a.name=nm at*
    go_wp2_with (rw[←HWa.out])
    go_roundg (body.length- (j+1))
    case measure=>omega
    case rel=>exact⟨j+1,by omega,by go_num,HN2,HLa⟩
   |true=>
    rw[hno] at d0 HWa c0 HFi;have c1':wa.cell? ⟨wr.heap.size,0+1,none⟩=some (.string (bs a.name)):=c1;have c2':wa.cell? ⟨wr.heap.size,0+2,none⟩=some (.slice xa a.terms.length xc):=c2;cases hf:aQ a l with
    |none=>
     have HY:Hid (body.any P=true):=List.any_eq_true.2 ⟨a,hmem,by rw[HPD.out];unfold MX;rw[hno,hf];rfl⟩;rw[hf] at HFi;simp only[Option.isSome_none] at HFi;clear hno htk HN hf;generalize bs a.name=nm at*
     go_wp2_with (first|(rw[←HWa.out])|fail)
     refine HFi.out.mono ?_;rintro e w2 ⟨v2,rfl,⟨s2,rfl,hs2⟩,hL2⟩;obtain⟨ya,yc,rfl⟩:=aZ hs2;have HL2:=hide (HLa.out.trans hL2);clear hs2 hL2 HFi;go_wp2;go_ret;exact⟨by rw[HRR.out,if_pos HY.out];rfl,HLg.out.trans (HL2.out.alloc _)⟩
    |some f=>
     rw[hf] at HFi;have hfl:filled a l=f:=by unfold filled;rw[hf];rfl
     rw[hfl] at HFi;simp only[Option.isSome_some] at HFi;have HPa:Hid (P a=inB all f):=by show _=_;rw[HPD.out];unfold MX;rw[hno,hf];rfl
     clear hno hf hfl;generalize bs a.name=nm at*
     go_wp2_with (first|(rw[←HWa.out])|fail)
     refine HFi.out.mono ?_;rintro e w2 ⟨v2,rfl,hfv,hL2⟩;obtain⟨s2,rfl,hs2⟩:=hfv;obtain⟨ya,yc,rfl⟩:=aZ hs2;obtain⟨wf,hwf⟩:∃wf,wf=w2.alloc (.cells #[.string f.1,.slice ya f.2.length yc] 27):=⟨_,rfl⟩;have hLf:Later w2 wf:=by rw[hwf];exact(Later.refl w2).alloc _
     have hRf:wf.heap[w2.heap.size]?=some (.cells #[.string f.1,.slice ya f.2.length yc] 27 (0,0)):=by rw[hwf];exact heap_alloc_new w2 _
     have hLF:=HLa.out.trans (hL2.trans hLf);have hrg:=(hLF.block hlg).trans HRg.out;have g2:wf.cell? ⟨w.heap.size,2,none⟩=some (.slice aa all.length ac):=by rw[cell_of_row _ _ _ _ _ _ hrg];rfl
     have f0:wf.cell? ⟨w2.heap.size,0,none⟩=some (.string f.1):=by rw[cell_of_row _ _ _ _ _ _ hRf];rfl
     have f1:wf.cell? ⟨w2.heap.size,0+1,none⟩=some (.slice ya f.2.length yc):=by rw[cell_of_row _ _ _ _ _ _ hRf];rfl
     have hin:=inC (.slice aa all.length ac) (.agg #[.string f.1,.slice ya f.2.length yc]) all f wf (HA.out.later hLF) ⟨_,rfl,hs2.later hLf⟩ HR.out;rw[sN] at hin;have HIn:=hide hin;have HLF:=hide hLF;have HWf:=hide hwf;obtain⟨fn,aH⟩:=f;dsimp only at*;clear hs2 hL2 hLf hRf hrg hin hwf HFi hLF;cases hb:inB all (fn,aH) with
     |true=>
      have HY:Hid (body.any P=true):=List.any_eq_true.2 ⟨a,hmem,by rw[HPa.out];exact hb⟩;rw[hb] at HIn;clear hb htk HPa HN
      go_wp2_with (first|(rw[←HWf.out])|fail)
      refine HIn.out.mono ?_;rintro e w3 ⟨rfl,hL3⟩;have HL3:=hide (HLF.out.trans hL3);clear hL3 HIn;go_wp2;go_ret;exact⟨by rw[HRR.out,if_pos HY.out];rfl,HLg.out.trans HL3.out⟩
     |false=>
      have HN2:Hid ((body.take (j+1)).any P=false):=by show _=_;rw[htk,HN.out,HPa.out,hb];rfl
      rw[hb] at HIn;clear hb htk HPa HN
      go_wp2_with (first|(rw[←HWf.out])|fail)
      refine HIn.out.mono ?_;rintro e w3 ⟨rfl,hL3⟩;have HL3:=hide (HLF.out.trans hL3);clear hL3 HIn;go_wp2
      go_roundg (body.length- (j+1))
      case measure=>omega
      case rel=>exact⟨j+1,by omega,by go_num,HN2,HL3⟩
  ·have HNN:Hid (body.any P=false):=by have:=HN.out;rw[List.take_of_length_le (by omega)] at this;exact this
   go_wp2;go_ret;exact⟨by rw[HRR.out,if_neg (by rw[HNN.out];simp)];rfl,HLg.out.trans HW.out⟩
end Go.Proofs.YtafmbokfkbccaaaGreatDoor
