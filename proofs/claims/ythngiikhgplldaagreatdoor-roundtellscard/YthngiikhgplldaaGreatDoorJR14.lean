import Derived.Test.YthngiikhgplldaaGreatDoorJR13
import Derived.Lib.SliceRun
import Derived.Test.YthngiikhgplldaaGreatDoorJR7
import Derived.Laws.StructEq
open Go.RowKit Go.Sort Go.Maps
set_option maxHeartbeats 4000000
set_option maxRecDepth 100000
namespace Go.Proofs.YthngiikhgplldaaGreatDoor
theorem fV.setCell {p:Option Nat} {a b:World} (h:fV p a b) {x:Addr} (hx:p=some x.block) (v:Value):fV p a (b.setCell x v):=
 ⟨h.os,h.tape,h.output,h.drawn,by simpa[World.setCell] using h.size,fun k hk ho=>by rw[Below.heap_setCell _ _ _ _ (fun e=>ho (by rw[hx,e]))];exact h.block k hk ho⟩
theorem mq (g:Nat):∀(vs:List Value) (o:Nat) (w:World),fV (some g) w (w.setCells g o vs)
 |[],_,_=>fV.refl _ _
 |v::r,o,w=>((fV.refl (some g) w).setCell (x:=⟨g,o,none⟩) rfl v).trans (mq g r (o+1) _)
theorem nT (g:Nat):∀(vs:List Value) (o:Nat) (w:World) (cur:Array Value) (t:TypeId) (fr:Nat×Nat),w.heap[g]?=some (.cells cur t fr)→
  ∃cur',(w.setCells g o vs).heap[g]?=some (.cells cur' t fr)∧cur'.size=cur.size∧∀q,q<o→cur'[q]?=cur[q]?
 |[],_,w,cur,t,fr,h=>⟨cur,h,rfl,fun _ _=>rfl⟩
 |v::r,o,w,cur,t,fr,h=>by obtain⟨cur',h1,h2,h3⟩:=nT g r (o+1) (w.setCell ⟨g,o,none⟩ v) (cur.setIfInBounds o v) t fr (dW h v);refine⟨cur',h1,by rw[h2];simp,fun q hq=>?_⟩;rw[h3 q (by omega),Array.getElem?_setIfInBounds_ne (by omega)]
theorem Hg (v:Value) (ls:List (List aI)) (g:Nat) (cb:Array Value) (eg:∀args w,(callFunc g args).run Tryz.prog w=.ok (.enter g args) w) (p:List aI→Bool) (n:Nat) (w0 w:World) (hd:Jv g cb p n w0) (hw:Below n w0 w) (hn:n≤w.heap.size) (hv:qI.sl bT w v ls):
  Calls Tryz.prog 132 #[v,.func (.func g) #[] cb] w fun e w'=>∃r:Int,e=.returned (.int .i64 r)∧((r= -1∧∀l∈ls,p l=false)∨∃k l,r=(k:Nat)∧ls[k]?=some l∧p l=true∧∀l∈ls.take k,p l=false)∧aj w w':=by
 obtain⟨a,cap,rfl⟩:=aB.slice hv;have hl:=hv.1.1;have HV:=au hv;have HC:Hid (∀w' u l,aj w w'→bO.sl bT w' u l→Calls Tryz.prog g (#[u]++cb) w' fun e w''=>e=.returned (.bool (p l))∧Hid (aj w w'')):=fun w' u l hL hu=>
  (hd w' u l (ak hw hL.below hn) hu).mono fun e w'' ⟨he,hL2⟩=>⟨he,hL.trans hL2⟩
 clear hv hd hw
 go_enter Tryz.func132,Tryz.ntmps132
 go_wp2
 go_loopg [8] ls.length (fun gg i wr=>∃k:Nat,k+gg=ls.length∧i=.int .i64 k∧Hid (∀l∈ls.take k,p l=false)∧Hid (aj w wr))
 case atStart=>exact⟨0,by omega,rfl,(fun l hl=>by simp at hl),aj.refl _⟩
 obtain⟨k,hk,rfl,HE,HL⟩:=hrel
 by_cases hlt:k<ls.length
 ·obtain⟨l,hx⟩:∃x,ls[k]?=some x:=⟨_,List.getElem?_eq_getElem hlt⟩;obtain⟨b1,o1,_,rfl,hb1,⟨u,rfl,hu⟩,hcl⟩:=aB.bR HV.out hx;have d0:wr.cell? ⟨b1,o1+k,none⟩=some u:=by rw[HL.out.cell hb1];simpa[slK] using hcl 0 _ rfl
  have hbr:b1<wr.heap.size:=Nat.lt_of_lt_of_le hb1 HL.out.size;have HCk:=au (HC.out wr u l HL.out (aB.aS hu HL.out));obtain⟨ua,uc,rfl⟩:=aB.slice hu;have HX:=au hx;clear hcl hx hu;cases hq:p l
  ·have HE1:Hid (∀l∈ls.take (k+1),p l=false):=fun x hx'=>by
    rw[List.take_add_one,HX.out] at hx';rcases List.mem_append.1 hx' with h|h
    ·exact HE.out x h
    simp at h;rw[h];exact hq
   rw[hq] at HCk;clear hq HE
   go_wp2_with fail
   refine HCk.out.mono ?_;rintro e w2 ⟨rfl,hL2⟩;go_wp2
   go_roundg (ls.length- (k+1))
   case measure=>omega
   case rel=>exact⟨k+1,by omega,by go_num,HE1,hL2⟩
  have HQ:=au hq;rw[hq] at HCk;clear hq
  go_wp2_with fail
  refine HCk.out.mono ?_;rintro e w2 ⟨rfl,hL2⟩;go_wp2;go_ret;exact⟨_,rfl,Or.inr ⟨k,l,rfl,HX.out,HQ.out,HE.out⟩,hL2.out⟩
 have HE1:Hid (∀l∈ls,p l=false):=by have:=HE.out;rw[List.take_of_length_le (by omega)] at this;exact this
 go_wp2;go_ret;exact⟨_,rfl,Or.inl ⟨rfl,HE1.out⟩,HL.out⟩
theorem BG:∀w,(zeroValue 142).run Tryz.prog w=.ok (.slice none 0 0) w:=Tryz.zeroValue142
def iI (p:List aI→Bool) (ps:List (Value×List aI)):List (Value×List aI):=ps.filter fun q=> !p q.2
theorem rH {p:List aI→Bool} {ps:List (Value×List aI)} {j:Nat} {q:Value×List aI} (h:ps[j]?=some q):iI p (ps.take (j+1))=if p q.2 then iI p (ps.take j) else iI p (ps.take j)++[q]:=by unfold iI;rw[List.take_add_one,h,List.filter_append];cases e:p q.2 <;> simp[e]
theorem Fz (v:Value) (ps:List (Value×List aI)) (g:Nat) (cb:Array Value) (eg:∀args w,(callFunc g args).run Tryz.prog w=.ok (.enter g args) w) (p:List aI→Bool) (n lo:Nat) (w0 w:World) (hd:Jv g cb p n w0) (hw:Below n w0 w) (hn:n≤lo) (hlo:lo≤w.heap.size) (hv:Lists 142 170 lo w v ps) (hl:ps.length≤20000) (hs:∀q∈ps,q.2.length≤20):
  Calls Tryz.prog 111 #[v,.func (.func g) #[] cb] w fun e w'=>∃v',e=.returned v'∧Lists 142 170 lo w' v' (iI p ps)∧v'.ownBlock=v.ownBlock∧fV v.ownBlock w w':=by
 have HI:=au (Hg v (ps.map (·.2)) g cb eg p n w0 w hd hw (by omega) (aB.dO (hv.sl (by omega) fun q hq=>by have:=hs q hq;omega)));obtain⟨a,cap,rfl⟩:=hv.slice;have HV:=au hv;have HD:Hid (∀w' u l,fV (Value.slice a ps.length cap).ownBlock w w'→bO.sl bT w' u l→Calls Tryz.prog g (#[u]++cb) w' fun e w''=>e=.returned (.bool (p l))∧aj w' w''):=fun w' u l hO hu=>by refine hd w' u l (ak hw ⟨hO.os,hO.tape,hO.output,hO.size,fun k hk=>hO.block k (by omega) fun e=>?_⟩ (Nat.le_refl _)) hu;have:=hv.lo_le k e;omega
 have HS:=au hs;clear hv hd hw hs
 go_enter Tryz.func111,Tryz.ntmps111
 go_wp2_with fail
 refine HI.out.mono ?_;rintro e w1 ⟨r,rfl,h,hL1⟩;have HL1:=au hL1;clear HI hL1;rcases h with⟨rfl,h⟩|⟨k0,l0,rfl,hk0,hp0,hbe⟩
 ·have HK:Hid (iI p ps=ps):=by
   show _=_;unfold iI;rw[List.filter_eq_self];intro q hq;rw[h q.2 (List.mem_map.2 ⟨q,hq,rfl⟩)];rfl
  clear h;go_wp2;go_ret;exact⟨_,rfl,by rw[HK.out];exact HV.out.later HL1.out,rfl,fV.of_later HL1.out⟩
 have LD:k0<ps.length:=by simpa using(List.getElem?_eq_some_iff.1 hk0).1
 obtain⟨q0,hq0⟩:∃q,ps[k0]?=some q:=⟨_,List.getElem?_eq_getElem LD⟩;have KF:q0.2=l0:=by rw[List.getElem?_map,hq0] at hk0;simpa using hk0
 have HKs:Hid (iI p (ps.take (k0+1))=ps.take k0):=by show _=_;rw[rH hq0,KF,hp0,if_pos rfl];unfold iI;rw[List.filter_eq_self];intro q hq;rw[hbe q.2 (by rw[←List.map_take];exact List.mem_map.2 ⟨q,hq,rfl⟩)];rfl
 obtain⟨ho,hpw⟩:=HV.out;rcases ho.2 with⟨e,e'⟩|⟨gb,cap',cur,e,hbg,hg,hnc,hcm,hcs,htk⟩;·omega
 simp only[Value.slice.injEq] at e;obtain⟨rfl,_,rfl⟩:=e;have hgl:gb<w.heap.size:=(Array.getElem?_eq_some_iff.1 hg).1;have hne1:((k0:Int)== -1)=false:=beq_eq_false_iff_ne.2 (by omega);have HPW:=au hpw;have hcur:∀q,q<ps.length→cur[q]?=some ((ps.map (·.1))[q]?.getD (.slice none 0 0)):=fun q hq=>by
  have e1:(cur.toList.take (ps.length*1))[q]?=(ps.map (·.1))[q]?:=by rw[htk]
  rw[List.getElem?_take,if_pos (by omega)] at e1;rw[←Array.getElem?_toList,e1,List.getElem?_eq_getElem (by simpa using hq)];rfl
 have Jw:=au hcur;have HG:=au hg;have HCS:=au hcs;clear hk0 hp0 hbe hq0 KF ho hpw hg hcs htk hcur;go_wp2
 go_loopg [5,6,7] ps.length (fun gg s5 s6 _ wr=>∃(i j:Nat) (cr:Array Value),s5=.int .i64 i∧s6=.int .i64 j∧(ps.length≤j+gg∧j≤ps.length)∧i<j∧Hid (i=(iI p (ps.take j)).length)∧Hid (wr.heap[gb]?=some (.cells cr 142 (0,0)))∧Hid (cr.size=cap)∧
  Hid (∀q,q<i→cr[q]?=some (((iI p (ps.take j)).map (·.1))[q]?.getD (.slice none 0 0)))∧Hid (∀q,j≤q→q<ps.length→cr[q]?=some ((ps.map (·.1))[q]?.getD (.slice none 0 0)))∧Hid (fV (some gb) w wr))
 case atStart=>
  refine⟨k0,k0+1,cur,rfl,by go_num,by omega,by omega,?_,((HL1.out.block hgl).trans HG.out:_=_),(by rw[HCS.out];omega:_=_),?_,(fun q _ hq=>Jw.out q hq),fV.of_later HL1.out⟩
  ·show _=_;rw[HKs.out,List.length_take];omega
  intro q hq;rw[HKs.out,List.map_take,List.getElem?_take,if_pos hq];exact Jw.out q (by omega)
 clear HL1 HKs HG HCS Jw;obtain⟨i,j,cr,rfl,rfl,hj,hij,HI,HB,HZ,HLo,HHi,HO⟩:=hrel;have hcr:=HZ.out;have hgr:gb<wr.heap.size:=Nat.lt_of_lt_of_le hgl HO.out.size;have KG:∀q∈ps,bO.own 170 lo wr q.1 q.2:=fun q hq=>ji (HPW.out.1 q hq).1 fun k e=>HO.out.block k (aB.dV (HPW.out.1 q hq).1 e).2 (fun e'=>(HPW.out.1 q hq).2 k e e');have HOw:=au KG;clear KG
 by_cases hlt:j<ps.length
 ·obtain⟨q,hq⟩:∃q,ps[j]?=some q:=⟨_,List.getElem?_eq_getElem hlt⟩;have hqm:=List.mem_of_getElem? hq;have hcj:cr[j]?=some q.1:=by
   rw[HHi.out j (Nat.le_refl _) hlt,List.getElem?_map,hq];rfl
  have hci:∃old,cr[i]?=some old:=⟨_,Array.getElem?_eq_getElem (by omega)⟩;obtain⟨old,hci⟩:=hci;have cj:wr.cell? ⟨gb,j,none⟩=some q.1:=by rw[cell_of_row _ _ _ _ _ _ HB.out];exact hcj
  have HSt:=au (rH (p:=p) hq);have HCl:=au (HD.out wr q.1 q.2 HO.out (aB.dO (aB.gQ (HOw.out q hqm) (by have:=HS.out q hqm;omega))));obtain⟨ua,un,uc,hqu⟩:∃a n c,q.1=.slice a n c:=by obtain⟨a,c,e⟩:=aB.bI (HOw.out q hqm);exact⟨a,_,c,e⟩
  rw[hqu] at cj HCl hcj;have HQ1:=au hqu;have HCI:=au hci;have HQ:=au hq;have hltz:(j:Int)<(ps.length:Int):=by omega
  clear hq hqm hqu hcj hci;cases hpq:p q.2
  ·rw[hpq] at HCl HSt;have Hl:Hid (iI p (ps.take (j+1))=iI p (ps.take j)++[q]):=HSt.out;clear hpq HSt
   go_wp2_with fail
   refine HCl.out.mono ?_;rintro e w2 ⟨rfl,hL2⟩;have HB2:=au ((hL2.block hgr).trans HB.out);have ci:w2.cell? ⟨gb,i,none⟩=some old:=by rw[cell_of_row _ _ _ _ _ _ HB2.out];exact HCI.out
   have fi:w2.frozen? ⟨gb,i,none⟩=false:=mh i HB2.out;have hg2:gb<w2.heap.size:=(Array.getElem?_eq_some_iff.1 HB2.out).1;have HO2:=au (HO.out.trans (fV.of_later hL2));have hiz:(i:Int)<(ps.length:Int):=by omega
   clear hL2 HCl;go_wp2
   go_roundg (ps.length- (j+1))
   case measure=>omega
   case rel=>
    refine⟨i+1,j+1,cr.setIfInBounds i (.slice ua un uc),by go_num,by go_num,by omega,by omega,?_,(dW HB2.out _:_=_),(by simpa using hcr:_=_),?_,?_,(HO2.out.setCell (x:=⟨gb,i,none⟩) rfl _:fV _ _ _)⟩;·show _=_;rw[Hl.out,List.length_append,←HI.out];rfl
    ·intro t ht;rw[Hl.out,List.map_append]
     by_cases hti:t=i
     ·subst hti;rw[Array.getElem?_setIfInBounds_self_of_lt (by omega),List.getElem?_append_right (by rw[List.length_map,←HI.out];omega),List.length_map,←HI.out,Nat.sub_self];simp[HQ1.out]
     rw[Array.getElem?_setIfInBounds_ne (by omega),HLo.out t (by omega),List.getElem?_append_left (by rw[List.length_map,←HI.out];omega)]
    intro t h1 h2;rw[Array.getElem?_setIfInBounds_ne (by omega)];exact HHi.out t (by omega) h2
  rw[hpq] at HCl HSt;have Hl:Hid (iI p (ps.take (j+1))=iI p (ps.take j)):=HSt.out;clear hpq HSt
  go_wp2_with fail
  refine HCl.out.mono ?_;rintro e w2 ⟨rfl,hL2⟩;have HB2:=au ((hL2.block hgr).trans HB.out);have HO2:=au (HO.out.trans (fV.of_later hL2));clear hL2 HCl;go_wp2
  go_roundg (ps.length- (j+1))
  case measure=>omega
  case rel=>
   refine⟨i,j+1,cr,rfl,by go_num,by omega,by omega,?_,HB2,HZ,?_,(fun t h1 h2=>HHi.out t (by omega) h2),HO2⟩;·show _=_;rw[Hl.out];exact HI.out
   show∀t,_;rw[Hl.out];exact HLo.out
 obtain rfl:j=ps.length:=by omega
 have hltz:¬(ps.length:Int)<(ps.length:Int):=by omega
 have hcl:∀ty,(Builtin.clear_ #[120] ty #[.slice (some ⟨gb,i,none⟩) (ps.length-i) (cap-i)]).run Tryz.prog wr=.ok (.tuple #[]) (wr.setCells gb i (List.replicate (ps.length-i) (.slice none 0 0))):=fun ty=>
  Lib.run_clear_slice wr _ _ ty _ Tryz.underlying120 BG rfl rfl gb i _ _ (by omega) (fun t ht=>by rw[cell_of_row _ _ _ _ _ _ HB.out,Array.getElem?_eq_getElem (by omega)];rfl) (fun t ht=>mh _ HB.out)
 have hiz:(i:Int)≤(ps.length:Int):=by omega
 have hic:(i:Int)≤(cap:Int):=by omega
 have M0:¬cap=i:=by omega
 have hpz:(ps.length:Int)≤(cap:Int):=by omega
 go_wp2;go_ret;obtain⟨cr',h1,h2,h3⟩:=nT gb (List.replicate (ps.length-i) (.slice none 0 0)) i wr cr _ _ HB.out;have hO2:=HO.out.trans (mq gb (List.replicate (ps.length-i) (.slice none 0 0)) i wr);have hk:iI p (ps.take ps.length)=iI p ps:=by rw[List.take_length]
 have hil:i=(iI p ps).length:=by rw[←hk];exact HI.out
 refine⟨.slice (some ⟨gb,0,none⟩) i cap,rfl,⟨?_,fun q hq=>?_,?_⟩,rfl,hO2⟩
 ·rw[←hil];refine⟨by rw[List.length_map,←hil];omega,Or.inr ⟨gb,cap,cr',rfl,hbg,h1,by omega,hcm,by rw[h2];omega,?_⟩⟩
  apply List.ext_getElem?
  intro t;rw[Nat.mul_one,List.getElem?_take]
  by_cases ht:t<i
  ·rw[if_pos ht,Array.getElem?_toList,h3 t ht,HLo.out t ht,hk,List.getElem?_eq_getElem (by rw[List.length_map,←hil];exact ht)];rfl
  rw[if_neg ht,List.getElem?_eq_none (by rw[List.length_map,←hil];omega)]
 ·have hqm:q∈ps:=(List.mem_filter.1 hq).1;exact⟨ji (HPW.out.1 q hqm).1 fun k e=>hO2.block k (aB.dV (HPW.out.1 q hqm).1 e).2 (fun e'=>(HPW.out.1 q hqm).2 k e e'),(HPW.out.1 q hqm).2⟩
 exact HPW.out.2.filter _
def bC (l:List aG):Nat→Nat→Int×Int
 |0,_=>(0,0)
 |n+1,k=>if eF (l.getD k aA)≠0 then(eF (l.getD k aA),k) else if 0<k∧0≤fF (l.getD (k-1) aA) (l.getD k aA) then(2,k) else bC l n (k+1)
def aR (l:List aG):Int×Int:=if 200<l.length then(5,0) else bC l l.length 0
theorem kS (l:List aG) {k:Nat} (h:k<l.length):bC l (l.length-k) k=
  if eF (l.getD k aA)≠0 then(eF (l.getD k aA),(k:Int)) else if 0<k∧0≤fF (l.getD (k-1) aA) (l.getD k aA) then(2,(k:Int)) else bC l (l.length- (k+1)) (k+1):=by
 obtain⟨n,hn⟩:∃n,l.length-k=n+1:=⟨l.length-k-1,by omega⟩;rw[hn,show l.length- (k+1)=n by omega]
 rfl
theorem yO (j:Nat) (h:j≤3518437208883):IntKind.i64.wrap (j:Int)=(j:Int):=by simp[IntKind.wrap,IntKind.bits,IntKind.signed];omega
theorem gK {w:World} {R:Nat} {u0 u1:Value} {t:TypeId} {fr:Nat×Nat} (h:w.heap[R]?=some (.cells #[u0,u1] t fr)) (x y:Value):
  ((w.setCell ⟨R,0,none⟩ x).setCell ⟨R,1,none⟩ y).cell? ⟨R,0,none⟩=some x∧((w.setCell ⟨R,0,none⟩ x).setCell ⟨R,1,none⟩ y).cell? ⟨R,1,none⟩=some y:=by
 have h2:=eY (j:=1) (eY (j:=0) h x) y;exact⟨by rw[cell_of_row _ _ _ _ _ _ h2];rfl,by rw[cell_of_row _ _ _ _ _ _ h2];rfl⟩
theorem jk {a b c d:Int} (h:(a,b)=(c,d)):Ending.returned (.agg #[.int .i64 a,.int .i64 b])=.returned (.agg #[.int .i64 c,.int .i64 d]):=by cases h;rfl
theorem I9 (v:Value) (l:List aG) (w:World) (hf:Facts w v l):
  Calls Tryz.prog 38 #[v] w fun e w'=>e=.returned (.agg #[.int .i64 (aR l).1,.int .i64 (aR l).2])∧aj w w':=by
 have mx:=mixed;have HF:=au hf;obtain⟨a,cap,rfl,hn,hz⟩:=hf.addr;clear hf
 by_cases hbig:200<l.length
 ·have e:aR l=(5,0):=by unfold aR;rw[if_pos hbig]
  rw[e]
  go_enter Tryz.func38,Tryz.ntmps38
  go_wp2;exact bodyPost_ret (v:=.agg #[.int .i64 5,.int .i64 0]) (by simp[results,Tryz.results38,go_sem]) rfl ⟨rfl,(by repeat (first|exact aj.refl _|assumption|refine aj.drewN ?_ _|refine aj.drew ?_|refine aj.alloc ?_ _|refine aj.grow ?_ _))⟩
 have e:aR l=bC l l.length 0:=by unfold aR;rw[if_neg hbig]
 rw[e];clear e
 go_enter Tryz.func38,Tryz.ntmps38
 go_wp2
 go_loopw [12] (fun i wr=>∃k:Nat,k≤l.length∧i=.int .i64 k∧aj (w.alloc (.cells #[.int .i64 0,.int .i64 0] 41)) wr∧Hid (bC l l.length 0=bC l (l.length-k) k)) (fun i _=>l.length- (intOf i).toNat)
 case atStart=>exact⟨0,by omega,rfl,aj.refl _,(rfl:_=_)⟩
 obtain⟨k,hk,rfl,hL,HE⟩:=hrel;have hL0:aj w wr:=((aj.refl _).alloc _).trans hL;have hsz:w.heap.size<wr.heap.size:=by have:=hL.size;simp at this;omega
 by_cases hlt:k<l.length
 ·rcases hz with rfl|⟨b,off,rfl⟩;·simp at hlt
  have hltz:(k:Int)<(l.length:Int):=by omega
  obtain⟨hb,ax,lx,cx,g1,g2,fx⟩:=(HF.out.later hL0).at hlt;have hst:=kS l hlt;have HWr:Hid (∀w',aj wr w'→Calls Tryz.prog 59 #[.agg #[.string (l.getD k aA).1,.slice ax lx cx]] w' fun e w''=>e=.returned (.int .i64 (eF (l.getD k aA)))∧aj w' w''):=
   fun w' hw=>wrong _ _ w' (fx.later hw)
  have FX:=au fx;clear fx
  by_cases hwz:eF (l.getD k aA)=0
  ·rw[if_neg (by omega)] at hst;rw[hwz] at HWr
   by_cases hk0:k=0
   ·have F:Hid (bC l l.length 0=bC l (l.length- (k+1)) (k+1)):=by show _=_;rw[HE.out,hst,if_neg (by omega)]
    have hd:decide (0<k)=false:=by rw[decide_eq_false_iff_not];omega
    clear hk0;generalize(l.getD k aA).1=nk at*;clear hst
    go_wp2_with fail
    refine(HWr.out _ ((aj.refl _).alloc _)).mono ?_;rintro e w1 ⟨rfl,hL1⟩;go_wp2
    go_quiet (fail)
    go_wp2
    go_roundw
    case rel=>exact⟨k+1,by omega,by go_num,(hL.trans (((aj.refl _).alloc _).trans hL1)).drewN _,F⟩
    case measure=>simp[intOf];omega
   obtain⟨j,rfl⟩:∃j,k=j+1:=⟨k-1,by omega⟩;rw[Nat.add_sub_cancel] at hst;have hjl:j<l.length:=by omega
   have hjz:(j:Int)<(l.length:Int):=by omega
   have hd:(0:Int)<(j:Int)+1:=by omega
   have hwj:IntKind.i64.wrap (j:Int)=(j:Int):=yO j (by omega);generalize hfk:l.getD (j+1) aA=f at*;have HFK:=au hfk;clear hfk;obtain⟨nk,lk⟩:=f;dsimp only at*
   go_wp2_with fail
   refine(HWr.out _ ((aj.refl _).alloc _)).mono ?_;rintro e w1 ⟨rfl,hL1⟩;have hLR:aj (w.alloc (.cells #[.int .i64 0,.int .i64 0] 41)) w1:=hL.trans (((aj.refl _).alloc _).trans hL1);have yP:aj w w1:=((aj.refl _).alloc _).trans hLR;have hR:w1.heap[w.heap.size]?=some (.cells #[.int .i64 0,.int .i64 0] 41 (0,0)):=by rw[hLR.block (by simp),heap_alloc_new]
   have q0:w1.cell? ⟨w.heap.size,0,none⟩=some (.int .i64 0):=by rw[cell_of_row _ _ _ _ _ _ hR];rfl
   have q1:w1.cell? ⟨w.heap.size,1,none⟩=some (.int .i64 0):=by rw[cell_of_row _ _ _ _ _ _ hR];rfl
   have p0:w1.frozen? ⟨w.heap.size,0,none⟩=false:=frozen_of_row 0 hR;have p1:w1.frozen? ⟨w.heap.size,1,none⟩=false:=frozen_of_row 1 hR;have HRR:=au hR;clear hR;have hLw:aj wr w1:=((aj.refl _).alloc _).trans hL1;obtain⟨ay,ly,cy,y1,y2,fy⟩:=(HF.out.later yP).grown hjl;have b0:=cell_later hL1 (p:=⟨wr.heap.size,0,none⟩) (v:=.string nk) (by simp) (by simp);have b1:=cell_later hL1 (p:=⟨wr.heap.size,1,none⟩) (v:=.slice ax lx cx) (by simp) (by simp);have hC:∀q os,Calls Tryz.prog 60 #[.agg #[.string (l.getD j aA).1,.slice ay ly cy],.agg #[.string nk,.slice ax lx cx]] (grow (w1.drewN q) os) fun e w''=>e=.returned (.int .i64 (fF (l.getD j aA) (nk,lk)))∧aj (grow (w1.drewN q) os) w'':=
    fun q os=>lX _ _ _ _ _ (fy.later ⟨q,os,rfl⟩) ((FX.out.later hLw).later ⟨q,os,rfl⟩)
   have HC:=au hC;clear hC fy;generalize fF (l.getD j aA) (nk,lk)=cm at*;generalize(l.getD j aA).1=nj at*
   by_cases hcm:0≤cm
   ·have F:Hid (bC l l.length 0=(2,((j+1:Nat):Int))):=by show _=_;rw[HE.out,hst,if_pos ⟨by omega,hcm⟩]
    clear hst;go_wp2
    go_quiet_grown ((go_at_call 60;exact Calls.grown_of (HC.out _ _)))
    dsimp only;have hLW:aj w1 (grow (w1.drewN nq) osq):=⟨_,_,rfl⟩;generalize grow (w1.drewN nq) osq=w2 at hLW⊢;have hR:w2.heap[w.heap.size]?=some (.cells #[.int .i64 0,.int .i64 0] 41 (0,0)):=by rw[hLW.block (by have:=hLw.size;omega)];exact HRR.out
    have q0:w2.cell? ⟨w.heap.size,0,none⟩=some (.int .i64 0):=by rw[cell_of_row _ _ _ _ _ _ hR];rfl
    have q1:w2.cell? ⟨w.heap.size,1,none⟩=some (.int .i64 0):=by rw[cell_of_row _ _ _ _ _ _ hR];rfl
    have p0:w2.frozen? ⟨w.heap.size,0,none⟩=false:=frozen_of_row 0 hR;have p1:w2.frozen? ⟨w.heap.size,1,none⟩=false:=frozen_of_row 1 hR;have HR2:=au hR;clear hR;go_wp2;obtain⟨r0,r1⟩:=gK HR2.out (.int .i64 2) (.int .i64 ((j:Int)+1));refine bodyPost_ret (v:=.agg #[.int .i64 2,.int .i64 ((j:Int)+1)]) (by simp[results,Tryz.results38,go_sem,r0,r1]) rfl ⟨jk (by rw[F.out];simp),?_⟩;exact((yP.trans hLW).setCell (Nat.le_refl _) _).setCell (Nat.le_refl _) _
   have F:Hid (bC l l.length 0=bC l (l.length- (j+1+1)) (j+1+1)):=by show _=_;rw[HE.out,hst,if_neg (fun h=>hcm h.2)]
   clear hst;go_wp2
   go_quiet_grown ((go_at_call 60;exact Calls.grown_of (HC.out _ _)))
   go_wp2
   go_roundw
   case rel=>exact⟨j+1+1,by omega,by go_num,hLR.trans ⟨_,_,rfl⟩,F⟩
   case measure=>simp[intOf];omega
  have F:Hid (bC l l.length 0=(eF (l.getD k aA),(k:Int))):=by show _=_;rw[HE.out,hst,if_pos hwz]
  have LG:(eF (l.getD k aA)==0)=false:=by simpa using hwz
  generalize eF (l.getD k aA)=we at*;generalize(l.getD k aA).1=nk at*;clear hst
  go_wp2_with fail
  refine(HWr.out _ ((aj.refl _).alloc _)).mono ?_;rintro e w1 ⟨rfl,hL1⟩;have hLR:aj (w.alloc (.cells #[.int .i64 0,.int .i64 0] 41)) w1:=hL.trans (((aj.refl _).alloc _).trans hL1);have yP:aj w w1:=((aj.refl _).alloc _).trans hLR;have hR:w1.heap[w.heap.size]?=some (.cells #[.int .i64 0,.int .i64 0] 41 (0,0)):=by rw[hLR.block (by simp),heap_alloc_new]
  have q0:w1.cell? ⟨w.heap.size,0,none⟩=some (.int .i64 0):=by rw[cell_of_row _ _ _ _ _ _ hR];rfl
  have q1:w1.cell? ⟨w.heap.size,1,none⟩=some (.int .i64 0):=by rw[cell_of_row _ _ _ _ _ _ hR];rfl
  have p0:w1.frozen? ⟨w.heap.size,0,none⟩=false:=frozen_of_row 0 hR;have p1:w1.frozen? ⟨w.heap.size,1,none⟩=false:=frozen_of_row 1 hR;have HRR:=au hR;clear hR;go_wp2;obtain⟨r0,r1⟩:=gK HRR.out (.int .i64 we) (.int .i64 k);refine bodyPost_ret (v:=.agg #[.int .i64 we,.int .i64 k]) (by simp[results,Tryz.results38,go_sem,r0,r1]) rfl ⟨jk (by rw[F.out]),?_⟩;exact(yP.setCell (Nat.le_refl _) _).setCell (Nat.le_refl _) _
 have F:Hid (bC l l.length 0=(0,0)):=by show _=_;rw[HE.out,show l.length-k=0 by omega];rfl
 have q0:wr.cell? ⟨w.heap.size,0,none⟩=some (.int .i64 0):=by rw[hL.cell (by simp)];simp
 have q1:wr.cell? ⟨w.heap.size,1,none⟩=some (.int .i64 0):=by rw[hL.cell (by simp)];simp
 have p0:wr.frozen? ⟨w.heap.size,0,none⟩=false:=by rw[hL.frozen (by simp)];simp
 have p1:wr.frozen? ⟨w.heap.size,1,none⟩=false:=by rw[hL.frozen (by simp)];simp
 go_wp2;have hR:wr.heap[w.heap.size]?=some (.cells #[.int .i64 0,.int .i64 0] 41 (0,0)):=by rw[hL.block (by simp),heap_alloc_new]
 obtain⟨r0,r1⟩:=gK hR (.int .i64 0) (.int .i64 0);refine bodyPost_ret (v:=.agg #[.int .i64 0,.int .i64 0]) (by simp[results,Tryz.results38,go_sem,r0,r1]) rfl ⟨jk (by rw[F.out]),?_⟩;exact(hL0.setCell (Nat.le_refl _) _).setCell (Nat.le_refl _) _
theorem kT (l:List aG):∀(n k:Nat),(bC l n k).1=0→∀i,k≤i→i<k+n→eF (l.getD i aA)=0∧(0<i→fF (l.getD (i-1) aA) (l.getD i aA)<0)
 |0,k,_,i,h1,h2=>by omega
 |n+1,k,h,i,h1,h2=>by
  simp only[bC] at h;split at h;·rename_i hw;exact absurd h hw
  rename_i hw;split at h;·cases h
  rename_i hc
  by_cases e:i=k
  ·subst e;refine⟨Classical.byContradiction hw,fun h0=>?_⟩;exact Classical.byContradiction fun hn=>hc ⟨h0,by omega⟩
  exact kT l n (k+1) h i (by omega) (by omega)
theorem DK {l:List aG} (h:∀i,0<i→i<l.length→fF (l.getD (i-1) aA) (l.getD i aA)<0):iW l:=by
 have key:∀(d i:Nat),i+d+1<l.length→fF (l.getD i aA) (l.getD (i+d+1) aA)<0:=by
  intro d
  induction d with
  |zero=>intro i hi;have:=h (i+1) (by omega) (by omega);simpa using this
  |succ d ih=>
   intro i hi;have h1:=ih i (by omega);have h2:=h (i+(d+1)+1) (by omega) hi;have e:i+(d+1)+1-1=i+d+1:=by omega
   rw[e] at h2;exact aV.trans _ _ _ h1 h2
 unfold iW;rw[List.pairwise_iff_getElem];intro i j hi hj hij;have:=key (j-i-1) i (by omega);rw[show i+(j-i-1)+1=j by omega] at this;rw[List.getD_eq_getElem?_getD,List.getD_eq_getElem?_getD,List.getElem?_eq_getElem hi,List.getElem?_eq_getElem hj] at this;exact this
theorem set_right {l:List aG} (h:(aR l).1=0):l.length≤200∧iW l∧∀f∈l,eF f=0:=by
 unfold aR at h;split at h;·simp at h
 rename_i hl;have hz:=kT l l.length 0 h;refine⟨by omega,DK fun i h0 hi=>(hz i (Nat.zero_le _) (by omega)).2 h0,fun f hf=>?_⟩;obtain⟨i,hi,e⟩:=List.getElem_of_mem hf;have:=(hz i (Nat.zero_le _) (by omega)).1;rw[List.getD_eq_getElem?_getD,List.getElem?_eq_getElem hi] at this;rw[←e];exact this
theorem BH {lo:Nat} {ty:TypeId} {w w':World} {v:Value} {n:Nat} {xs:List Value} (h:w.ownsRow lo ty 1 v n xs) (hk:∀k,v.ownBlock=some k→w'.heap[k]?=w.heap[k]?):w'.ownsRow lo ty 1 v n xs:=by
 refine⟨h.1,?_⟩;rcases h.2 with e|⟨g,cap,cur,rfl,hbg,hg,r⟩
 ·exact Or.inl e
 exact Or.inr ⟨g,cap,cur,rfl,hbg,by rw[hk g rfl];exact hg,r⟩
theorem Ho (v:Value) (ps:List (Value×List aI)) (lo:Nat) (w0 w:World) (h0:aj w0 w) (hlo:w0.heap.size≤lo) (hv:Lists 142 170 lo w v ps) (hl:ps.length≤20000) (hs:∀q∈ps,q.2.length≤20):
  Calls Tryz.prog 114 #[v] w fun e w'=>e=.returned v∧qI.sl (From lo) w' v (jf gW (ps.map fun q=>jg q.2))∧aj w0 w':=by
 obtain⟨a,cap,rfl⟩:=hv.slice;have hvl:=fun k e=>hv.lo_le k e;obtain⟨ho,hp,hpw⟩:=hv;have HR:=au ho;have HA:Hid (∀q∈ps,apart q.1 (.slice a ps.length cap)):=fun q hq=>(hp q hq).2;have HOw:Hid (∀q∈ps.drop 0,bO.own 170 lo w q.1 q.2):=fun q hq=>(hp q (by simpa using hq)).1;have HQl:Hid (∀q∈ps,∀k,q.1.ownBlock=some k→lo≤k):=fun q hq k e=>(aB.dV (hp q hq).1 e).1;have HPW:=au hpw;have HS:=au hs;have H0:=au h0;have HVL:=au hvl;clear ho hp hpw hs h0 hvl
 go_enter Tryz.func114,Tryz.ntmps114
 go_wp2
 go_loopg [7] ps.length (fun gg i wr=>∃j:Nat,j+gg=ps.length∧i=.int .i64 j∧Hid (wr.ownsRow lo 142 1 (.slice a ps.length cap) ps.length (ps.map (·.1)))∧Hid (∀q∈ps.take j,bO.sl (tu q.1) wr q.1 (jg q.2))∧Hid (∀q∈ps.drop j,bO.own 170 lo wr q.1 q.2)∧Hid (aj w0 wr))
 case atStart=>exact⟨0,by omega,rfl,HR,(fun q hq=>by simp at hq),HOw,H0⟩
 clear HR HOw H0;obtain⟨j,hj,rfl,HR,HT,HOw,HL⟩:=hrel
 by_cases hlt:j<ps.length
 ·obtain⟨q,hq⟩:∃q,ps[j]?=some q:=⟨_,List.getElem?_eq_getElem hlt⟩;have hdr:ps.drop j=q::ps.drop (j+1):=by
   obtain⟨h1,e1⟩:=List.getElem?_eq_some_iff.1 hq;rw[List.drop_eq_getElem_cons h1,e1]
  have hqo:bO.own 170 lo wr q.1 q.2:=HOw.out q (by rw[hdr];exact List.mem_cons_self);have hqm:=List.mem_of_getElem? hq;obtain⟨b,hab,hcell,hbl⟩:∃b,a=some ⟨b,0,none⟩∧wr.cell? ⟨b,j,none⟩=some q.1∧b<wr.heap.size:=by
   rcases HR.out.2 with⟨e,e'⟩|⟨g,cap',cur,e,hbg,hg,_⟩;·omega
   simp only[Value.slice.injEq] at e;obtain⟨rfl,_,rfl⟩:=e;have:=HR.out.cells (g:=g) rfl j q.1 (by rw[List.getElem?_map,hq];rfl);rw[Addr.add_lit,Nat.zero_add] at this;exact⟨g,rfl,this,(Array.getElem?_eq_some_iff.1 hg).1⟩
  subst hab;have xE:=au (GZ lo q.1 q.2 wr hqo (by have:=HS.out q hqm;omega));have Hq:(ps.take j++q::ps.drop (j+1)).Pairwise fun p q=>apart p.1 q.1:=by rw[←hdr,List.take_append_drop];exact HPW.out
  rw[List.pairwise_append] at Hq;obtain⟨_,hp2,hp3⟩:=Hq;have hafter:=(List.pairwise_cons.1 hp2).1;have LH:Hid (∀p∈ps.take j,apart p.1 q.1):=fun p hp=>hp3 p hp q List.mem_cons_self;have LJ:=au hafter;have HQA:Hid (apart q.1 (.slice (some ⟨b,0,none⟩) ps.length cap)):=HA.out q hqm;have HQO:=au hqo;have HDr:=au hdr;have HQ:=au hq;obtain⟨ua,un,uc,hqu⟩:∃a n c,q.1=.slice a n c:=by obtain⟨a,c,e⟩:=aB.bI hqo;exact⟨a,_,c,e⟩
  have HQU:=au hqu;rw[hqu] at hcell xE;clear hq hdr hqo hqm hp2 hp3 hafter hqu
  go_wp2_with fail
  refine xE.out.mono ?_;rintro e w2 ⟨rfl,hsl,hO⟩;have HSL:Hid (bO.sl (tu q.1) w2 q.1 (jg q.2)):=by rw[HQU.out];exact hsl
  have hO':fV q.1.ownBlock wr w2:=by rw[HQU.out];exact hO
  have HO:=au hO';clear hsl hO hO' xE;go_wp2
  go_roundg (ps.length- (j+1))
  case measure=>omega
  case rel=>
   refine⟨j+1,by omega,by go_num,?_,?_,?_,?_⟩;·exact BH HR.out fun k e=>HO.out.block k (HR.out.lt k e).2 (fun e'=>HQA.out k e' e)
   ·intro p hp;rw[List.take_add_one,HQ.out] at hp;rcases List.mem_append.1 hp with h|h
    ·exact aB.fE (HT.out p h) HO.out.size fun k hk hB=>HO.out.block k hk (fun e'=>LH.out p h k hB e')
    simp at h;rw[h];exact HSL.out
   ·intro p hp;have h1:=HOw.out p (by rw[HDr.out];exact List.mem_cons_of_mem _ hp);exact ji h1 fun k e=>HO.out.block k (aB.dV h1 e).2 (fun e'=>LJ.out p hp k e' e)
   exact HO.out.later HL.out fun k e=>by have:=(aB.dV HQO.out e).1;omega
 have e:j=ps.length:=by omega
 have HT':Hid (∀q∈ps,bO.sl (tu q.1) wr q.1 (jg q.2)):=by have:=HT.out;rw[e,List.take_length] at this;exact this
 have hm1:(ps.map fun q=>(q.1,jg q.2)).map (·.1)=ps.map (·.1):=by rw[List.map_map];rfl
 have hm2:(ps.map fun q=>(q.1,jg q.2)).map (·.2)=ps.map fun q=>jg q.2:=by rw[List.map_map];rfl
 have xE:=G5 lo 142 (.slice a ps.length cap) (ps.map fun q=>(q.1,jg q.2)) wr (by rw[hm1,List.length_map];exact HR.out) (fun p hp=>by obtain⟨q,hq,rfl⟩:=List.mem_map.1 hp;exact aB.dX (HT'.out q hq) fun k _ hB=>⟨fun e=>HA.out q hq k hB e,HQl.out q hq k hB⟩) (by rw[List.length_map];omega)
 rw[hm2] at xE;have HSo:=au xE;clear xE hm1 hm2 e
 go_wp2_with fail
 refine HSo.out.mono ?_;rintro e w2 ⟨rfl,hsl,hO⟩;have HSL:=au hsl;have HL2:=au (hO.later HL.out fun k e=>by have:=HVL.out k e;omega);clear hsl hO HSo;go_wp2;go_ret;exact⟨rfl,HSL.out,HL2.out⟩
theorem Jy (a b:Int) (w:World):(Instr.field 41 (.agg #[.int .i64 a,.int .i64 b]) 0).run Tryz.prog w=.ok (.int .i64 a) w:=by first|kernel_rfl|(simp[Instr.field,run_underlying Tryz.underlying41])|go_simp
def qC (body:List aJ) (fs os:List aG):Int:=if aM body≠0 then aM body else if(aR fs).1≠0 then(aR fs).1 else(aR os).1
theorem FB (body:List aJ) (v fv ov:Value) (fs os:List aG) (w:World) (hv:dY.sl bT w v body) (hf:Facts w fv fs) (ho:Facts w ov os):
  Calls Tryz.prog 108 #[v,fv,ov] w fun e w'=>e=.returned (.int .i64 (qC body fs os))∧Below w.heap.size w w':=by
 have HB:=au (yM body v w hv);have HF:Hid (∀w1,Below w.heap.size w w1→Calls Tryz.prog 38 #[fv] w1 fun e w'=>e=.returned (.agg #[.int .i64 (aR fs).1,.int .i64 (aR fs).2])∧Hid (Below w.heap.size w w')):=fun w1 h1=>
  (I9 fv fs w1 (hf.below h1)).mono fun e w' ⟨he,hL⟩=>⟨he,ak h1 hL.below h1.size⟩
 have HO:Hid (∀w1,Below w.heap.size w w1→Calls Tryz.prog 38 #[ov] w1 fun e w'=>e=.returned (.agg #[.int .i64 (aR os).1,.int .i64 (aR os).2])∧Hid (Below w.heap.size w w')):=fun w1 h1=>
  (I9 ov os w1 (ho.below h1)).mono fun e w' ⟨he,hL⟩=>⟨he,ak h1 hL.below h1.size⟩
 obtain⟨a,cap,rfl⟩:=aB.slice hv;obtain⟨fa,fc,rfl⟩:=aC hf;obtain⟨oa,oc,rfl⟩:=aC ho;clear hv hf ho;have E:qC body fs os=if aM body≠0 then aM body else if(aR fs).1≠0 then(aR fs).1 else(aR os).1:=rfl;generalize qC body fs os=R at*;generalize aM body=eb at*;generalize aR fs=ef at*;generalize aR os=eo at*;obtain⟨f1,f2⟩:=ef;obtain⟨o1,o2⟩:=eo;dsimp only at*
 by_cases h0:eb=0
 ·subst h0;rw[if_neg (by simp)] at E
  by_cases h1:f1=0
  ·subst h1;rw[if_neg (by simp)] at E;have HE:=au E;have hfe:=Jy;clear E
   go_enter Tryz.func108,Tryz.ntmps108
   go_wp2_with fail
   refine HB.out.mono ?_;rintro e w1 ⟨rfl,hB1⟩;have H1:=au (HF.out w1 hB1);clear HB HF hB1
   go_wp2_with fail
   refine H1.out.mono ?_;rintro e w2 ⟨rfl,hB2⟩;have H2:=au (HO.out (w2.alloc (.cells #[.int .i64 0,.int .i64 f2] 41)) (hB2.out.alloc hB2.out.size _));clear HO H1 hB2
   go_wp2_with fail
   refine H2.out.mono ?_;rintro e w3 ⟨rfl,hB3⟩;clear H2;go_wp2;go_ret;exact⟨by rw[HE.out];rfl,hB3.out⟩
  rw[if_pos h1] at E;have HE:=au E;have hq:(f1 != 0)=true:=by simpa using h1
  clear E h1 HO
  go_enter Tryz.func108,Tryz.ntmps108
  go_wp2_with fail
  refine HB.out.mono ?_;rintro e w1 ⟨rfl,hB1⟩;have H1:=au (HF.out w1 hB1);clear HB HF hB1
  go_wp2_with fail
  refine H1.out.mono ?_;rintro e w2 ⟨rfl,hB2⟩;clear H1;go_wp2;go_ret;exact⟨by rw[HE.out];rfl,hB2.out.alloc hB2.out.size _⟩
 rw[if_pos h0] at E;have HE:=au E;have hq:(eb != 0)=true:=by simpa using h0
 clear E h0 HO HF
 go_enter Tryz.func108,Tryz.ntmps108
 go_wp2_with fail
 refine HB.out.mono ?_;rintro e w1 ⟨rfl,hB1⟩;have HB1:=au hB1;clear HB hB1;go_wp2;go_ret;exact⟨by rw[HE.out];rfl,HB1.out⟩
def xG (w:World) (v:Value) (er:Int) (body:List aJ) (fs:List aG) (at_:Int) (os:List aG):Prop:=
 if qC body fs os≠0 then v=.slice none 0 0∧er=qC body fs os else match mK (bW fs at_ os) body with
  |none=>v=.slice none 0 0∧er=4
  |some R=>er=0∧qI.sl bT w v R
theorem BI {body:List aJ} {fs os:List aG} (h:qC body fs os=0):aM body=0∧(aR fs).1=0∧(aR os).1=0:=by
 unfold qC at h;split at h;·rename_i h1;exact absurd h h1
 rename_i h1;split at h;·rename_i h2;exact absurd h h2
 rename_i h2;exact⟨Classical.byContradiction h1,Classical.byContradiction h2,h⟩
theorem kU:∀{l:List aJ},bE l=0→∀a∈l,aL a=0
 |[],_,a,ha=>by cases ha
 |b::l,h,a,ha=>by
  unfold bE at h
  by_cases hb:aL b=0
  ·rcases List.mem_cons.1 ha with e|h1;·rw[e];exact hb
   refine kU ?_ a h1;simpa[hb] using h
  simp[hb] at h
theorem jl {body:List aJ} (h:aM body=0):body.length≤5∧∀a∈body,aL a=0:=by
 unfold aM at h;split at h;·simp at h
 split at h;·rename_i h5 ha;exact⟨by omega,kU ha⟩
 rename_i hne;exact absurd h hne
theorem rJ {fs os:List aG} {at_:Int} {P:List aG→Prop} (h1:P fs) (h2:P os) (n:Nat):P (bW fs at_ os n):=by
 unfold bW;split;·exact h2
 exact h1
def vS (lo:Nat) (w:World) (v:Value) (er:Int) (body:List aJ) (fs:List aG) (at_:Int) (os:List aG):Prop:=
 if qC body fs os≠0 then v=.slice none 0 0∧er=qC body fs os else match mK (bW fs at_ os) body with
  |none=>v=.slice none 0 0∧er=4
  |some R=>er=0∧qI.sl (From lo) w v R
theorem vS.any {lo:Nat} {w:World} {v:Value} {er:Int} {body:List aJ} {fs os:List aG} {at_:Int} (h:vS lo w v er body fs at_ os):xG w v er body fs at_ os:=by
 unfold vS at h;unfold xG;split;·rename_i h0;rw[if_pos h0] at h;exact h
 rename_i h0;rw[if_neg h0] at h;cases e:mK (bW fs at_ os) body with
 |none=>rw[e] at h;exact h
 |some R=>rw[e] at h;exact⟨h.1,aB.dO h.2⟩
theorem Hr (body:List aJ) (v fv ov:Value) (fs os:List aG) (at_:Int) (w:World) (hv:dY.sl bT w v body) (hf:Facts w fv fs) (ho:Facts w ov os):
  Calls Tryz.prog 86 #[v,fv,.int .i64 at_,ov] w fun e w'=>∃v' er,e=.returned (.tuple #[v',.int .i64 er])∧vS w.heap.size w' v' er body fs at_ os∧Below w.heap.size w w':=by
 obtain⟨a,cap,hva⟩:=aB.slice hv;have HW:Hid (Calls Tryz.prog 108 #[v,fv,ov] (w.alloc (.cells #[v] 55)) fun e w'=>e=.returned (.int .i64 (qC body fs os))∧Below (w.alloc (.cells #[v] 55)).heap.size (w.alloc (.cells #[v] 55)) w'):=
  FB body v fv ov fs os _ (aB.aS hv ((aj.refl _).alloc _)) (hf.later ((aj.refl _).alloc _)) (ho.later ((aj.refl _).alloc _))
 have HV:=au hv;have HF:=au hf;have HO:=au ho;obtain⟨fa,fc,hfa⟩:=aC hf;obtain⟨oa,oc,hoa⟩:=aC ho;subst hva hfa hoa;clear hv hf ho
 by_cases h0:qC body fs os=0
 ·rw[h0] at HW;have H0:=au h0;obtain⟨hw0,hf0,ho0⟩:=BI h0;obtain⟨hb5,hba⟩:=jl hw0;obtain⟨hfl,hfr,_⟩:=set_right hf0;obtain⟨hol,hor,_⟩:=set_right ho0;have HPr:Hid (∀n,iW (bW fs at_ os n)):=rJ hfr hor;have HPl:Hid (∀n,(bW fs at_ os n).length≤200):=rJ (P:=fun l=>l.length≤200) hfl hol;have HBa:Hid (∀a∈body,a.terms.length≤4):=fun a ha=>(bL (hba a ha)).2.1;clear h0 hw0 hf0 ho0 hba hfl hol hfr hor
  go_enter Tryz.func86,Tryz.ntmps86
  go_wp2_with fail
  refine HW.out.mono ?_;rintro e w1 ⟨rfl,hB1⟩;have hBw:Below w.heap.size w w1:=ak ((aj.refl w).alloc _).below hB1 (by simp);have hs1:w.heap.size<w1.heap.size:=by have:=hB1.size;simp at this;omega
  have z0:w1.cell? ⟨w.heap.size,0,none⟩=some (.slice a body.length cap):=by rw[hB1.cell (by simp)];simp
  have HSr:=au (Fw _ _ fs os at_ w1 (HF.out.below hBw) (HO.out.below hBw));have HBw:=au hBw;clear HW hB1 hBw
  go_wp2_with fail
  refine HSr.out.mono ?_;rintro e w2 ⟨rfl,hL2,hs2,y0,y1,y2⟩;have hB2:Below w.heap.size w w2:=ak HBw.out hL2.below HBw.out.size;obtain⟨w3,hw3⟩:∃w3,w3=w2.alloc (.cells #[.func (.func 130) #[] #[.pointer (some ⟨w1.heap.size+1,0,none⟩),.pointer (some ⟨w1.heap.size+2,0,none⟩),.pointer (some ⟨w1.heap.size,0,none⟩)]] 77):=⟨_,rfl⟩;have hL3:aj w2 w3:=by rw[hw3];exact(aj.refl _).alloc _
  have hB3:Below w.heap.size w w3:=ak hB2 hL3.below hB2.size;have hs3:w3.heap.size=w2.heap.size+1:=by rw[hw3];simp
  have x0:w3.cell? ⟨w.heap.size,0,none⟩=some (.slice a body.length cap):=by rw[(hL2.trans hL3).cell (by exact hs1)];exact z0
  have x1:w3.cell? ⟨w2.heap.size,0,none⟩=some (.func (.func 130) #[] #[.pointer (some ⟨w1.heap.size+1,0,none⟩),.pointer (some ⟨w1.heap.size+2,0,none⟩),.pointer (some ⟨w1.heap.size,0,none⟩)]):=by rw[hw3];simp
  have hPk:vM 130 #[.pointer (some ⟨w1.heap.size+1,0,none⟩),.pointer (some ⟨w1.heap.size+2,0,none⟩),.pointer (some ⟨w1.heap.size,0,none⟩)] (bW fs at_ os) w3.heap.size w3:=
   Dy w1.heap.size (w1.heap.size+1) (w1.heap.size+2) _ _ fs os at_ _ w3 (HF.out.below hB3) (HO.out.below hB3) (by rw[hL3.cell (by show w1.heap.size<w2.heap.size;omega)];exact y0) (by rw[hL3.cell (by show w1.heap.size+1<w2.heap.size;omega)];exact y1) (by rw[hL3.cell (by show w1.heap.size+2<w2.heap.size;omega)];exact y2) (by omega) (by omega) (by omega) rfl
  have hDl:=Hf w.heap.size w2.heap.size body _ 130 _ kR (bW fs at_ os) w3.heap.size w3 (aB.aO HV.out hB3) hPk hb5 HPr.out x0 x1 (by omega) (by omega) rfl;have HMt:=au (LC body _ 130 _ kR (bW fs at_ os) w3 (aB.aO HV.out hB3) hPk hb5 HBa.out HPl.out);have HDl:=au hDl;have HB3:=au hB3;have HW3:=au hw3;have u0:w2.cell? ⟨w.heap.size,0,none⟩=some (.slice a body.length cap):=by rw[hL2.cell (by exact hs1)];exact z0
  have hx0:w.heap.size<w2.heap.size:=by omega
  clear x0 x1;have hAB:mK (bW fs at_ os) body=match eu (bW fs at_ os) 0 body [[]] with|none=>none|some ms=>some (jf gW ((ms.filter fun l=> !barredB (bW fs at_ os) 0 body l).map jg)):=rfl
  generalize barredB (bW fs at_ os) 0 body=bp at*;clear HSr hL2 hB2 hL3 hB3 hPk hDl hw3 y0 y1 y2 z0 hs2 hs3 HPr HPl HBa HF HO HBw
  go_wp2_with fail
  rw[←HW3.out];refine HMt.out.mono ?_;rintro e w4 ⟨v4,er,rfl,hMT,hL4⟩;cases hmg:eu (bW fs at_ os) 0 body [[]] with
  |none=>
   rw[hmg] at hMT hAB;obtain⟨rfl,rfl⟩:=hMT;dsimp only at hAB;have HAB:=au hAB;have HL4:=au hL4;clear hmg hAB HMt hL4;go_wp2
   go_ret2
   refine⟨.slice none 0 0,4,rfl,?_,ak HB3.out HL4.out.below HB3.out.size⟩;unfold vS;rw[if_neg (fun h=>h H0.out),HAB.out];exact⟨rfl,rfl⟩
  |some ms=>
   rw[hmg] at hMT hAB;obtain⟨rfl,ps,hps,hpl,hpq,hLs⟩:=hMT;dsimp only at hAB;have hpl':ps.length≤20000:=by rw[←hps,List.length_map] at hpl;exact hpl
   have Jz:∀q∈ps,q.2.length≤20:=fun q hq=>hpq _ (by rw[←hps];exact List.mem_map.2 ⟨q,hq,rfl⟩);have HDe:=au (Fz v4 ps 112 _ vR bp w3.heap.size w3.heap.size w3 w4 HDl.out hL4.below (Nat.le_refl _) hL4.size hLs hpl' Jz);obtain⟨a4,n4,c4,rfl⟩:∃a n c,v4=.slice a n c:=by obtain⟨a,c,e⟩:=Lists.slice hLs;exact⟨a,_,c,e⟩
   have HLo:Hid (∀k,(Value.slice a4 n4 c4).ownBlock=some k→w3.heap.size≤k):=fun k e=>hLs.lo_le k e;have HAB:=au hAB;have HL4:=au hL4;have HPS:=au hps;have HPL:=au hpl';have HPQ:=au Jz;clear hmg hAB HMt hL4 hps hpl hpq hLs hpl' Jz
   go_wp2_with fail
   refine HDe.out.mono ?_;rintro e w5 ⟨v5,rfl,JA,hob,hO5⟩;have hL5:aj w3 w5:=hO5.later HL4.out fun k e=>HLo.out k e;have hkl:(iI bp ps).length≤20000:=Nat.le_trans (List.length_filter_le _ _) HPL.out;have HRi:=au (Ho v5 (iI bp ps) w3.heap.size w3 w5 hL5 (Nat.le_refl _) JA hkl (fun q hq=>HPQ.out q (List.mem_filter.1 hq).1));obtain⟨a5,n5,c5,rfl⟩:∃a n c,v5=.slice a n c:=by obtain⟨a,c,e⟩:=Lists.slice JA;exact⟨a,_,c,e⟩
   clear HDe JA hob hO5 hL5 hkl
   go_wp2_with fail
   refine HRi.out.mono ?_;rintro e w6 ⟨rfl,hsl,hL6⟩;have HSL:=au hsl;have HL6:=au hL6;clear HRi hsl hL6;go_wp2
   go_ret2
   refine⟨.slice a5 n5 c5,0,rfl,?_,ak HB3.out HL6.out.below HB3.out.size⟩;unfold vS;rw[if_neg (fun h=>h H0.out),HAB.out];have e:(ms.filter fun l=> !bp l).map jg=(iI bp ps).map fun q=>jg q.2:=by
    rw[←HPS.out];unfold iI;rw[List.filter_map,List.map_map]
    rfl
   rw[e];exact⟨rfl,aB.dX HSL.out fun k _ hk=>Nat.le_trans HB3.out.size hk⟩
 have hq:(qC body fs os != 0)=true:=by simpa using h0
 have H0:=au h0;generalize her:qC body fs os=er at*;have HER:=au her;clear h0 HV HF HO her
 go_enter Tryz.func86,Tryz.ntmps86
 go_wp2_with fail
 refine HW.out.mono ?_;rintro e w1 ⟨rfl,hB1⟩;have HB:=au (ak ((aj.refl w).alloc (.cells #[.slice a body.length cap] 55)).below hB1 (by simp));clear HW hB1;go_wp2
 go_ret2
 refine⟨.slice none 0 0,er,rfl,?_,HB.out⟩;unfold vS;rw[HER.out,if_pos H0.out];exact⟨rfl,rfl⟩
theorem JB (body:List aJ) (v fv ov:Value) (fs os:List aG) (at_:Int) (w:World) (hv:dY.sl bT w v body) (hf:Facts w fv fs) (ho:Facts w ov os):
  Calls Tryz.prog 86 #[v,fv,.int .i64 at_,ov] w fun e w'=>∃v' er,e=.returned (.tuple #[v',.int .i64 er])∧xG w' v' er body fs at_ os∧Below w.heap.size w w':=
 (Hr body v fv ov fs os at_ w hv hf ho).mono fun _ _ ⟨v',er,h1,h2,h3⟩=>⟨v',er,h1,h2.any,h3⟩
def KH (l m:List aI):Bool:=decide (gW l m<0)
theorem jm (w:World):Facts w (.slice none 0 0) []:=⟨by simp,none,0,rfl,fun h=>absurd rfl h⟩
theorem LK (body:List aJ) (v fv:Value) (fs:List aG) (w:World) (hv:dY.sl bT w v body) (hf:Facts w fv fs):
  Calls Tryz.prog 104 #[v,fv] w fun e w'=>∃v' er,e=.returned (.tuple #[v',.int .i64 er])∧vS w.heap.size w' v' er body fs (-1) []∧Below w.heap.size w w':=by
 have HW:=au (Hr body v fv (.slice none 0 0) fs [] (-1) w hv hf (jm w));obtain⟨a,cap,rfl⟩:=aB.slice hv;obtain⟨fa,fc,rfl⟩:=aC hf;clear hv hf
 go_enter Tryz.func104,Tryz.ntmps104
 go_wp2_with fail
 refine HW.out.mono ?_;rintro e w1 ⟨v',er,rfl,hT,hB⟩;have HT:=au hT;have HB:=au hB;clear hT hB HW;go_wp2
 go_ret2
 exact⟨v',er,rfl,HT.out,HB.out⟩
theorem LM (body:List aJ) (v fv:Value) (fs:List aG) (w:World) (hv:dY.sl bT w v body) (hf:Facts w fv fs):
  Calls Tryz.prog 104 #[v,fv] w fun e w'=>∃v' er,e=.returned (.tuple #[v',.int .i64 er])∧xG w' v' er body fs (-1) []∧Below w.heap.size w w':=
 (LK body v fv fs w hv hf).mono fun _ _ ⟨v',er,h1,h2,h3⟩=>⟨v',er,h1,h2.any,h3⟩
end Go.Proofs.YthngiikhgplldaaGreatDoor
