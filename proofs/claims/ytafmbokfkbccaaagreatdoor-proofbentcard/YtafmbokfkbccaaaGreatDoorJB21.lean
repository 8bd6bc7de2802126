import Derived.Test.YtafmbokfkbccaaaGreatDoorJB20
import Derived.BigQuiet
import Derived.Test.YtafmbokfkbccaaaGreatDoorJB3
import Derived.Test.YtafmbokfkbccaaaGreatDoorJB5
import Derived.Test.YtafmbokfkbccaaaGreatDoorJB16
namespace Go.Proofs.YtafmbokfkbccaaaGreatDoor
open Go.RowKit Go.Sort Go.Maps
set_option maxRecDepth 100000 in
set_option maxHeartbeats 4000000 in
theorem rC (p:List aA) (hp:cZ p) (pv fv:Value) (l:List aj) (w:World) (hv:eD.sl bJ w pv p) (hf:Facts w fv l):
  Calls Tryz.prog 66 #[pv,fv] w fun e w'=>e=.returned (.agg #[.int .i64 (fG p l).1,.int .i64 (fG p l).2])∧Below w.heap.size w w':=by
 obtain⟨pa,pc,rfl⟩:=Kind.slice hv;obtain⟨a,cap,rfl,hln,hz⟩:=hf.addr;have hL0:Later w (w.alloc (.cells #[.int .i64 0,.int .i64 0] 75)):=(Later.refl w).alloc _;have hR0:(w.alloc (.cells #[.int .i64 0,.int .i64 0] 75)).heap[w.heap.size]?=some (.cells #[.int .i64 0,.int .i64 0] 75 (0,0)):=heap_alloc_new w _;have Pq:=hide (O9 (.slice a l.length cap) l (w.alloc (.cells #[.int .i64 0,.int .i64 0] 75)) (hf.later hL0));have HL0:=hide hL0;have HR0:=hide hR0;have HV:=hide hv;have HF:=hide hf;have HRP:=hide hp;clear hv hf hp hL0 hR0;obtain⟨ex,ea,hse⟩:∃ex ea,bF l=(ex,ea):=⟨_,_,rfl⟩;rw[hse] at Pq;have HSE:=hide hse;clear hse
 go_enter Tryz.func66,Tryz.ntmps66
 go_wp2_with fail
 refine Pq.out.mono ?_;rintro e w1 ⟨rfl,hL1⟩;dsimp only;have hs1:w.heap.size<w1.heap.size:=by have:=hL1.size;simp at this;omega
 have HR1:Hid (w1.heap[w.heap.size]?=some (.cells #[.int .i64 0,.int .i64 0] 75 (0,0))):=by show _=_;rw[hL1.block (by simp)];exact HR0.out
 have HL1:Hid (Later w w1):=HL0.out.trans hL1;clear hL1 Pq HL0 HR0
 by_cases h0:ex=0
 ·subst h0;have HX:Hid (fG p l=jI p l l.length 0):=by show _=_;unfold fG;rw[HSE.out,if_neg (by simp)]
  have hsr:=set_right (l:=l) (by rw[HSE.out]);have HSR:=hide hsr.2.2;obtain⟨hn5,QN⟩:=Am HRP.out;obtain⟨w2,hw2⟩:∃w2,w2=w1.alloc (.cells #[.int .i64 0,.int .i64 ea] 75):=⟨_,rfl⟩;have hL2:Later w1 w2:=by rw[hw2];exact(Later.refl _).alloc _
  have hB2:Below w.heap.size w w2:=(HL1.out.trans hL2).below;have HW:=hide (FN p (.slice pa p.length pc) w2 (Kind.aR HV.out hB2) HRP.out.few hn5 QN);have HB2:=hide hB2;have HR2:Hid (w2.heap[w.heap.size]?=some (.cells #[.int .i64 0,.int .i64 0] 75 (0,0))):=by show _=_;rw[hL2.block hs1];exact HR1.out
  have hs2:w.heap.size<w2.heap.size:=by have:=hL2.size;omega
  have HW2:=hide hw2;clear hsr hn5 QN hL2 hB2 hw2 HSE HR1 HL1 HRP
  go_wp2_with fail
  rw[←HW2.out];refine HW.out.mono ?_;rintro e w3 ⟨n,m,rfl,hM3,hO3,hB3⟩;have HM3:=hide hM3;have Td:Hid (∀f,rz m f=sD p f):=fun f=>KS hO3 f;have HB3:Hid (Below w.heap.size w w3):=ak HB2.out hB3 HB2.out.size;have HR3:Hid (w3.heap[w.heap.size]?=some (.cells #[.int .i64 0,.int .i64 0] 75 (0,0))):=by show _=_;rw[hB3.block _ hs2];exact HR2.out
  have hs3:w.heap.size<w3.heap.size:=by have:=hB3.size;omega
  generalize w2.heap.size=bm at*;clear hM3 hO3 hB3 HB2 HR2 HW HW2 hs2 hs1;go_wp2
  go_loopg [19] l.length (fun g i wr=>∃j k:Nat,k=g∧j+k=l.length∧i=.int .i64 j∧Hid (Later w3 wr)∧Hid (fG p l=jI p l k j))
  case atStart=>exact⟨0,l.length,rfl,by omega,rfl,Later.refl _,HX⟩
  case round=>
   clear HX;obtain⟨j,k,hkg,hj,rfl,HL,HX⟩:=hrel;have hRr:wr.heap[w.heap.size]?=some (.cells #[.int .i64 0,.int .i64 0] 75 (0,0)):=by rw[HL.out.block hs3];exact HR3.out
   have hsr:w.heap.size<wr.heap.size:=by have:=HL.out.size;omega
   by_cases hlt:j<l.length
   ·rcases hz with rfl|⟨b,off,rfl⟩
    ·simp at hlt
    have hltz:(j:Int)<(l.length:Int):=by omega
    have hFr:Facts wr (.slice (some ⟨b,off,none⟩) l.length cap) l:=HF.out.below (ak HB3.out HL.out.below HB3.out.size);obtain⟨hb,ax,lx,cx,g1,g2,fx⟩:=hFr.at hlt;have hfm:l.getD j aB∈l:=by rw[List.getD_eq_getElem?_getD,List.getElem?_eq_getElem hlt];exact List.getElem_mem hlt
    have hfs:=j5 (iJ.1 (HSR.out _ hfm));obtain⟨wb,hwb⟩:∃wb,wb=wr.alloc (.cells #[.string (l.getD j aB).1,.slice ax lx cx] 27):=⟨_,rfl⟩;have hLb:Later wr wb:=by rw[hwb];exact(Later.refl _).alloc _
    have HC:=hide (KR bm n m (l.getD j aB) (.agg #[.string (l.getD j aB).1,.slice ax lx cx]) wb (HM3.out.later (HL.out.trans hLb)) (fx.later hLb) (by have:=hfs.1;unfold maxLen;omega));rw[Td.out] at HC;obtain⟨g,rfl⟩:∃g,k=g+1:=⟨k-1,by omega⟩;have hX:fG p l=if sD p (l.getD j aB)=true then jI p l g (j+1) else(8,j):=by
     rw[HX.out];rfl
    have HLb:Hid (Later w3 wb):=HL.out.trans hLb;have HRb:Hid (wb.heap[w.heap.size]?=some (.cells #[.int .i64 0,.int .i64 0] 75 (0,0))):=by show _=_;rw[hLb.block hsr];exact hRr
    have hsb:w.heap.size<wb.heap.size:=by have:=hLb.size;omega
    have HWb:=hide hwb;generalize hff:sD p (l.getD j aB)=ft at*;generalize(l.getD j aB).1=nk at*;clear hff hFr fx hfm hfs hLb hwb hRr HX;cases ft with
    |true=>
     have HX':Hid (fG p l=jI p l g (j+1)):=by show _=_;rw[hX];rfl
     clear hX
     go_wp2_with fail
     rw[←HWb.out];refine HC.out.mono ?_;rintro e w5 ⟨rfl,hL5⟩;have HL5:Hid (Later w3 w5):=HLb.out.trans hL5;clear hL5 HC;go_wp2
     go_roundg g
     case measure=>omega
     case rel=>exact⟨j+1,g,rfl,by omega,by go_num,HL5,HX'⟩
    |false=>
     have HX':Hid (fG p l=(8,(j:Int))):=by show _=_;rw[hX];rfl
     clear hX
     go_wp2_with fail
     rw[←HWb.out];refine HC.out.mono ?_;rintro e w5 ⟨rfl,hL5⟩;have HL5:Hid (Later w3 w5):=HLb.out.trans hL5;have hR5:w5.heap[w.heap.size]?=some (.cells #[.int .i64 0,.int .i64 0] 75 (0,0)):=by rw[hL5.block hsb];exact HRb.out
     have q0:w5.cell? ⟨w.heap.size,0,none⟩=some (.int .i64 0):=by rw[cell_of_row _ _ _ _ _ _ hR5];rfl
     have q1:w5.cell? ⟨w.heap.size,1,none⟩=some (.int .i64 0):=by rw[cell_of_row _ _ _ _ _ _ hR5];rfl
     have p0:w5.frozen? ⟨w.heap.size,0,none⟩=false:=bK 0 hR5;have p1:w5.frozen? ⟨w.heap.size,1,none⟩=false:=bK 1 hR5;have HR5:=hide hR5;clear hL5 HC hR5;go_wp2;obtain⟨r0,r1⟩:=iL HR5.out (.int .i64 8) (.int .i64 j);refine bodyPost_ret (v:=.agg #[.int .i64 8,.int .i64 j]) (by simp[results,Tryz.results66,go_sem,r0,r1]) rfl ⟨by rw[HX'.out],?_⟩;exact((ak HB3.out HL5.out.below HB3.out.size).setCell (Nat.le_refl _) _).setCell (Nat.le_refl _) _
   ·have hk0:k=0:=by omega
    have HX':Hid (fG p l=(0,0)):=by show _=_;rw[HX.out,hk0];rfl
    have q0:wr.cell? ⟨w.heap.size,0,none⟩=some (.int .i64 0):=by rw[cell_of_row _ _ _ _ _ _ hRr];rfl
    have q1:wr.cell? ⟨w.heap.size,1,none⟩=some (.int .i64 0):=by rw[cell_of_row _ _ _ _ _ _ hRr];rfl
    have p0:wr.frozen? ⟨w.heap.size,0,none⟩=false:=bK 0 hRr;have p1:wr.frozen? ⟨w.heap.size,1,none⟩=false:=bK 1 hRr;have HRr:=hide hRr;clear hRr HX;go_wp2;obtain⟨r0,r1⟩:=iL HRr.out (.int .i64 0) (.int .i64 0);refine bodyPost_ret (v:=.agg #[.int .i64 0,.int .i64 0]) (by simp[results,Tryz.results66,go_sem,r0,r1]) rfl ⟨by rw[HX'.out],?_⟩;exact((ak HB3.out HL.out.below HB3.out.size).setCell (Nat.le_refl _) _).setCell (Nat.le_refl _) _
 ·have HX:Hid (fG p l=(ex,ea)):=by show _=_;unfold fG;rw[HSE.out,if_pos h0]
  have hq:(ex != 0)=true:=by simpa using h0
  have hR2:=HR1.out;have q0:w1.cell? ⟨w.heap.size,0,none⟩=some (.int .i64 0):=by rw[cell_of_row _ _ _ _ _ _ hR2];rfl
  have q1:w1.cell? ⟨w.heap.size,1,none⟩=some (.int .i64 0):=by rw[cell_of_row _ _ _ _ _ _ hR2];rfl
  have p0:w1.frozen? ⟨w.heap.size,0,none⟩=false:=bK 0 hR2;have p1:w1.frozen? ⟨w.heap.size,1,none⟩=false:=bK 1 hR2;clear hR2 HSE h0 HV HF;go_wp2;obtain⟨r0,r1⟩:=iL HR1.out (.int .i64 ex) (.int .i64 ea);have hBX:Below w.heap.size w ((w1.setCell ⟨w.heap.size,0,none⟩ (.int .i64 ex)).setCell ⟨w.heap.size,1,none⟩ (.int .i64 ea)):=(HL1.out.below.setCell (Nat.le_refl _) _).setCell (Nat.le_refl _) _;have hzX:w.heap.size<((w1.setCell ⟨w.heap.size,0,none⟩ (.int .i64 ex)).setCell ⟨w.heap.size,1,none⟩ (.int .i64 ea)).heap.size:=by rw[size_setCell,size_setCell];exact hs1
  generalize(w1.setCell ⟨w.heap.size,0,none⟩ (.int .i64 ex)).setCell ⟨w.heap.size,1,none⟩ (.int .i64 ea)=wx at*;have s0:(wx.alloc (.cells #[.int .i64 ex,.int .i64 ea] 75)).cell? ⟨w.heap.size,0,none⟩=some (.int .i64 ex):=by rw[((Later.refl wx).alloc _).cell (p:=⟨w.heap.size,0,none⟩) hzX];exact r0
  have s1:(wx.alloc (.cells #[.int .i64 ex,.int .i64 ea] 75)).cell? ⟨w.heap.size,1,none⟩=some (.int .i64 ea):=by rw[((Later.refl wx).alloc _).cell (p:=⟨w.heap.size,1,none⟩) hzX];exact r1
  refine bodyPost_ret (v:=.agg #[.int .i64 ex,.int .i64 ea]) (by simp[results,Tryz.results66,go_sem,s0,s1]) rfl ⟨by rw[HX.out],?_⟩;exact hBX.alloc hBX.size _
theorem foldl_max (ss:List Nat):∀s:Nat,(ss.map fun x:Nat=>(x:Int)).foldl max (s:Int)+1=(max (s+1) (countP ss):Nat):=by
 induction ss with
 |nil=>intro s;simp[countP]
 |cons t ss ih=>
  intro s;rw[List.map_cons,List.foldl_cons,show(max (s:Int) (t:Int))=((max s t:Nat):Int) by omega,ih];simp only[countP];omega
theorem countP_le {c:Nat}:∀{ss:List Nat},(∀s∈ss,s<c)→countP ss≤c
 |[],_=>Nat.zero_le _
 |s::ss,h=>by
  have h1:=h s (by simp);have h2:=countP_le (ss:=ss) fun t ht=>h t (by simp[ht]);simp only[countP];omega
set_option maxHeartbeats 1000000 in
theorem JQ (ss:List Nat) (v:Value) (w:World) (hv:r9.sl bJ w v ss) (hs:∀s∈ss,s<1000):
  Calls Tryz.prog 68 #[v] w fun e w'=>e=.returned (.int .i64 (countP ss:Nat))∧Later w w':=by
 obtain⟨a,cap,rfl⟩:=Kind.slice hv;have hl:=hv.1.1;cases ss with
 |nil=>
  clear hv hs
  go_enter Tryz.func68,Tryz.ntmps68
  go_wp2;go_ret;exact⟨rfl,Later.refl _⟩
 |cons s ss=>
  obtain⟨b,off,_,rfl,hb,_,_⟩:=Kind.fP hv (i:=0) (x:=s) rfl;have hM:=Tryz.slices_Max_int b off (s::ss).length cap ((s::ss).map fun x:Nat=>(x:Int)) w (by simp) (by simp) (by omega) (fun j hj=>by
   rw[List.length_map] at hj;obtain⟨x,hx⟩:∃x,(s::ss)[j]?=some x:=⟨_,List.getElem?_eq_getElem hj⟩;obtain⟨b1,o1,_,e1,_,rfl,hc⟩:=Kind.fP hv hx;simp only[Option.some.injEq,Addr.mk.injEq,and_true] at e1;obtain⟨rfl,rfl⟩:=e1;rw[List.getD_eq_getElem?_getD,List.getElem?_map,hx];simpa[r9] using hc 0 _ rfl)
  have e:Lib.maxOf (((s::ss).map fun x:Nat=>(x:Int)).take (s::ss).length)+1=(countP (s::ss):Nat):=by
   rw[List.take_of_length_le (by simp)];unfold Lib.maxOf;rw[List.map_cons,List.headD_cons,List.foldl_cons,show max (s:Int) (s:Int)=(s:Int) by omega,foldl_max]
   rfl
  have hcp:countP (s::ss)≤1000:=countP_le hs;generalize Lib.maxOf (((s::ss).map fun x:Nat=>(x:Int)).take (s::ss).length)=mx at*;generalize countP (s::ss)=cp at*;have hmx:mx=(cp:Int)-1:=by omega
  subst hmx;have HM:=hide hM;have hne:¬((((s::ss).length:Nat):Int)=0):=by simp;omega
  clear hv hs hM e
  go_enter Tryz.func68,Tryz.ntmps68
  go_wp2_with fail
  refine HM.out.mono ?_;rintro e w1 ⟨rfl,rfl⟩;go_wp2;go_ret;refine⟨?_,Later.refl _⟩
  congr 2
end Go.Proofs.YtafmbokfkbccaaaGreatDoor
namespace Go.Proofs.YtafmbokfkbccaaaGreatDoor
open Go.RowKit Go.Sort Go.Maps
theorem rD {p:List aA} {m:fq} (hl:oZ p m) (hs:Sol p (numOf m)):∀r∈p,numOf m r.head.name<p.length:=by
 have key:∀k,(∃r∈p,k≤numOf m r.head.name)→k≤(p.map fun r=>if numOf m r.head.name<k then 1 else 0).sum:=by
  intro k
  induction k with
  |zero=>intro _;exact Nat.zero_le _
  |succ k ih=>
   rintro⟨r,hr,hk⟩;have h1:=ih ⟨r,hr,by omega⟩;obtain⟨q,hq,hqk⟩:∃q∈p,numOf m q.head.name=k:=by
    refine Classical.byContradiction fun hn=> ?_;have:=Mi hl hs k (fun q hq e=>hn ⟨q,hq,e⟩) r hr;omega
   have h2:(p.map fun r=>if numOf m r.head.name<k then 1 else 0).sum<(p.map fun r=>if numOf m r.head.name<k+1 then 1 else 0).sum:=by
    refine sum_lt (fun x _=> ?_) ⟨q,hq,?_⟩
    ·split
     ·rw[if_pos (by omega)];exact Nat.le_refl _
     ·exact Nat.zero_le _
    ·rw[if_neg (by omega),if_pos (by omega)];exact Nat.one_pos
   omega
 intro r hr;have h1:=key _ ⟨r,hr,Nat.le_refl _⟩;have h2:(p.map fun q=>if numOf m q.head.name<numOf m r.head.name then 1 else 0).sum<(p.map fun _=>1).sum:=by
  refine sum_lt (fun x _=> ?_) ⟨r,hr,?_⟩
  ·split <;> omega
  ·rw[if_neg (by omega)];exact Nat.one_pos
 have h3:(p.map fun _=>1).sum=p.length:=by
  clear h1 h2 key hr hl hs
  induction p with
  |nil=>rfl
  |cons a p ih=>simp only[List.map_cons,List.sum_cons,List.length_cons,ih];omega
 omega
theorem below_drewN {n:Nat} {a b:World} (h:Below n a b) (q:Nat):Below n a (b.drewN q):=⟨h.os,h.tape,h.output,h.size,h.block⟩
def kS (p:List aA) (l:List aj):Int×List aj:=
 if(aS p).2.1≠0 then((aS p).2.1,[]) else if(fG p l).1≠0 then((fG p l).1,[]) else gQ p (aS p).1 (countP (aS p).1) 0 l
set_option maxRecDepth 100000 in
set_option maxHeartbeats 4000000 in
theorem yM (p:List aA) (l:List aj) (pv fv:Value) (w:World) (hv:eD.sl bJ w pv p) (hf:Facts w fv l):
  Calls Tryz.prog 22 #[pv,fv] w fun e w'=>∃v' er,e=.returned (.tuple #[v',.int .i64 er])∧nD w' v' er (kS p l)∧Below w.heap.size w w':=by
 have HSt:=hide (FK p pv w hv);obtain⟨pa,pc,rfl⟩:=Kind.slice hv;obtain⟨fa,fc,rfl⟩:=aD hf;have HV:=hide hv;have HF:=hide hf;clear hv hf;obtain⟨ss,ex,ea,hse⟩:∃ss ex ea,aS p=(ss,ex,ea):=⟨_,_,_,rfl⟩;rw[hse] at HSt;have HSE:=hide hse;clear hse
 go_enter Tryz.func22,Tryz.ntmps22
 go_wp2_with fail
 refine HSt.out.mono ?_;rintro e w1 ⟨u,rfl,hu,hB1⟩;dsimp only at hu⊢;have HU:Hid (r9.sl bJ w1 u ss):=Kind.aW hu fun _ _ _=>trivial;obtain⟨ua,uc,rfl⟩:=Kind.slice hu;have HB1:=hide hB1;clear hu hB1 HSt
 by_cases h0:ex=0
 ·subst h0;obtain⟨hw0,m,hms,hdm,hlm,hsm⟩:=kV HSE.out;have hp:=kX.1 hw0;have KT:∀s∈ss,s<1000:=fun s hs=>by
   rw[hms] at hs;obtain⟨r,hr,rfl⟩:=List.mem_map.1 hs;have:=rD hlm hsm r hr;have:=hp.few;omega
  have hcs:countP ss≤1000:=countP_le KT;have HMS:Hid (ss=p.map fun r=>numOf m r.head.name):=hms;have HRP:=hide hp;obtain⟨w2,hw2⟩:∃w2,w2=w1.alloc (.cells #[.int .i64 0,.int .i64 (ea:Nat)] 75):=⟨_,rfl⟩;have hL2:Later w1 w2:=by rw[hw2];exact(Later.refl _).alloc _
  have hB2:Below w.heap.size w w2:=ak HB1.out hL2.below HB1.out.size;have HFC:=hide (rC p hp (.slice pa p.length pc) (.slice fa l.length fc) l w2 (Kind.aR HV.out hB2) (HF.out.below hB2));obtain⟨fx,fe,hfe⟩:∃fx fe,fG p l=(fx,fe):=⟨_,_,rfl⟩;rw[hfe] at HFC;have HFE:=hide hfe;have HB2:=hide hB2;have HU2:=hide (Kind.aI HU.out hL2);have HSm:=hide KT;have HW2:=hide hw2;clear hw0 hms hdm hlm hsm hp KT hL2 hB2 hfe hw2 HB1 HU
  go_wp2_with fail
  rw[←HW2.out];refine HFC.out.mono ?_;rintro e w3 ⟨rfl,hB3⟩;dsimp only;have HB3:Hid (Below w.heap.size w w3):=ak HB2.out hB3 HB2.out.size;have HU3:=hide (Kind.aR HU2.out hB3);clear hB3 HFC HW2 HB2 HU2
  by_cases h1:fx=0
  ·subst h1;have hgood:GoodS p l:=ou (by rw[HFE.out]);have HX:Hid (kS p l=gQ p ss (countP ss) 0 l):=by show _=_;unfold kS;rw[HSE.out,HFE.out];simp
   obtain⟨w4,hw4⟩:∃w4,w4=w3.alloc (.cells #[.int .i64 0,.int .i64 fe] 75):=⟨_,rfl⟩;have hL4:Later w3 w4:=by rw[hw4];exact(Later.refl _).alloc _
   have hB4:Below w.heap.size w w4:=ak HB3.out hL4.below HB3.out.size;have HOw:=hide (SB (.slice fa l.length fc) l w4 (HF.out.below hB4));have HB4:=hide hB4;have HU4:=hide (Kind.aI HU3.out hL4);have HG:=hide hgood;have LY:=hgood.few;have HW4:=hide hw4;clear hgood hL4 hB4 hw4 HB3 HU3 HSE HFE
   go_wp2_with fail
   rw[←HW4.out];refine HOw.out.mono ?_;rintro e w5 ⟨v5,rfl,hO5,hL5⟩;have HF5:Hid (Facts w5 v5 l):=hO5.facts (by omega);have HB5:Hid (Below w.heap.size w w5):=ak HB4.out hL5.below HB4.out.size;have HU5:=hide (Kind.aI HU4.out hL5);have HCn:=hide (JQ ss (.slice ua ss.length uc) w5 HU5.out HSm.out);obtain⟨a5,c5,rfl⟩:=aD HF5.out;clear hO5 hL5 HOw HW4 HB4 HU4
   go_wp2_with fail
   refine HCn.out.mono ?_;rintro e w6 ⟨rfl,hL6⟩;have HF6:Hid (Facts w6 (.slice a5 l.length c5) l):=HF5.out.later hL6;have HB6:Hid (Below w.heap.size w w6):=ak HB5.out hL6.below HB5.out.size;have HU6:=hide (Kind.aI HU5.out hL6);have QO:Hid (Below w6.heap.size w6 w6):=Below.refl _ _;clear hL6 HCn HF5 HB5 HU5;generalize hc:countP ss=c at*;have HCC:=hide hc;clear hc;go_wp2
   go_loopg [9,34] c (fun g v9 i wr=>∃j k:Nat,k=g∧j+k=c∧i=.int .i64 j∧∃L,Hid (Facts wr v9 L)∧Hid (GoodS p L)∧Hid (Below w6.heap.size w6 wr)∧Hid (kS p l=gQ p ss k j L))
   case atStart=>exact⟨0,c,rfl,by omega,rfl,l,HF6,HG,QO,HX⟩
   case round=>
    clear HF6 HG QO HX;obtain⟨j,k,hkg,hj,rfl,L,HFr,HG,HBr,HX⟩:=hrel;have G8:Below w.heap.size w wr:=ak HB6.out HBr.out HB6.out.size
    by_cases hlt:j<c
    ·obtain⟨k',rfl⟩:∃k',k=k'+1:=⟨k-1,by omega⟩;have hltz:(j:Int)<(c:Int):=by omega
     have hUr:=Kind.aR HU6.out HBr.out;obtain⟨va,vc,hva⟩:=aD HFr.out;subst hva;have hOC:=Pm p HRP.out (fun r=>numOf m r.head.name) j L (.slice pa p.length pc) (.slice ua ss.length uc) (.slice va L.length vc) wr (Kind.aR HV.out G8) (by rw[←HMS.out];exact hUr) HFr.out HG.out;rw[←HMS.out] at hOC;have HOC:=hide hOC;obtain⟨er,S,hS⟩:∃er S,dH p ss (j:Int) 201 L=(er,S):=⟨_,_,rfl⟩;rw[hS] at HOC;have hX:kS p l=if er≠0 then(er,[]) else gQ p ss k' (j+1) S:=by rw[HX.out,gQ,hS]
     have HXX:=hide hX;have Og:=hide G8;clear hUr hOC hS hX HX G8
     go_wp2_with fail
     refine HOC.out.mono ?_;rintro e w7 ⟨v7,er',rfl,⟨her,hT1,hT2⟩,hG7,hB7⟩;dsimp only at her hT1 hT2 hG7⊢;have Pn:=her.symm;clear her;subst Pn;have HB7:Hid (Below w.heap.size w w7):=ak Og.out hB7 Og.out.size;have Te:Hid (Below w6.heap.size w6 w7):=ak HBr.out hB7 HBr.out.size;clear HOC hB7
     by_cases he:er=0
     ·subst he;have HF7:=hide (hT2 rfl);have HG7:=hide (hG7 rfl);have HX7:Hid (kS p l=gQ p ss k' (j+1) S):=by show _=_;rw[HXX.out,if_neg (by simp)]
      obtain⟨a7,c7,rfl⟩:=aD HF7.out;clear hT1 hT2 hG7 HXX;go_wp2
      go_roundg k'
      case measure=>omega
      case rel=>exact⟨j+1,k',rfl,by omega,by go_num,S,HF7,HG7,Te,HX7⟩
     ·have e2:=hT1 he;subst e2;have HT:Hid (∀w',nD w' (.slice none 0 0) er (kS p l)):=fun w'=>by rw[HXX.out,if_pos he];exact⟨rfl,fun _=>rfl,fun h=>absurd h he⟩
      have hne:(er != 0)=true:=by simpa using he
      clear hT1 hT2 hG7 HXX;go_wp2;exact bodyPost_ret (v:=.tuple #[.slice none 0 0,.int .i64 er]) (by simp[results,Tryz.results22,go_sem]) rfl ⟨_,er,rfl,HT.out _,HB7.out⟩
    ·have hk0:k=0:=by omega
     have Og:=hide G8;obtain⟨va,vc,hva⟩:=aD HFr.out;subst hva;have HT:Hid (nD wr (.slice va L.length vc) 0 (kS p l)):=by
      show nD wr _ 0 (kS p l);rw[HX.out,hk0];exact⟨rfl,fun h=>absurd rfl h,fun _=>HFr.out⟩
     clear G8 HX;go_wp2;exact bodyPost_ret (v:=.tuple #[.slice va L.length vc,.int .i64 0]) (by simp[results,Tryz.results22,go_sem]) rfl ⟨_,0,rfl,HT.out,Og.out⟩
  ·have HT:Hid (∀w',nD w' (.slice none 0 0) fx (kS p l)):=fun w'=>by unfold kS;rw[HSE.out,HFE.out];simp only[ne_eq,not_true_eq_false,if_false,h1,not_false_eq_true,if_true];exact⟨rfl,fun _=>rfl,fun h=>absurd h h1⟩
   have hne:(fx != 0)=true:=by simpa using h1
   have HB4:Hid (Below w.heap.size w (w3.alloc (.cells #[.int .i64 fx,.int .i64 fe] 75))):=ak HB3.out ((Later.refl _).alloc _).below HB3.out.size;clear HSE HFE h1 HV HF HU3;go_wp2
   go_quiet (fail)
   go_wp2;exact bodyPost_ret (v:=.tuple #[.slice none 0 0,.int .i64 fx]) (by simp[results,Tryz.results22,go_sem]) rfl ⟨_,fx,rfl,HT.out _,below_drewN HB4.out _⟩
 ·have HT:Hid (∀w',nD w' (.slice none 0 0) ex (kS p l)):=fun w'=>by unfold kS;rw[HSE.out];simp only[ne_eq,h0,not_false_eq_true,if_true];exact⟨rfl,fun _=>rfl,fun h=>absurd h h0⟩
  have hne:(ex != 0)=true:=by simpa using h0
  have HB4:Hid (Below w.heap.size w (w1.alloc (.cells #[.int .i64 ex,.int .i64 (ea:Nat)] 75))):=ak HB1.out ((Later.refl _).alloc _).below HB1.out.size;clear HSE h0 HV HF HU;go_wp2
  go_quiet (fail)
  go_wp2;exact bodyPost_ret (v:=.tuple #[.slice none 0 0,.int .i64 ex]) (by simp[results,Tryz.results22,go_sem]) rfl ⟨_,ex,rfl,HT.out _,below_drewN HB4.out _⟩
end Go.Proofs.YtafmbokfkbccaaaGreatDoor
namespace Go.Proofs.YtafmbokfkbccaaaGreatDoor
def KU {α:Type} (c:α→α→Int) (x:α):List α→List α
 |[]=>[x]
 |y::l=>if c x y≤0 then x::y::l else y::KU c x l
def kT {α:Type} (c:α→α→Int):List α→List α
 |[]=>[]
 |x::l=>KU c x (kT c l)
section
variable {α:Type} {c:α→α→Int}
theorem rE (x:α):∀l:List α,(KU c x l).Perm (x::l)
 |[]=>List.Perm.refl _
 |y::l=>by
  unfold KU;split
  ·exact List.Perm.refl _
  ·exact((rE x l).cons y).trans (List.Perm.swap x y l)
theorem rF:∀l:List α,(kT c l).Perm l
 |[]=>List.Perm.refl _
 |x::l=>(rE x _).trans ((rF l).cons x)
theorem rG (h:Three c) (x:α):∀l:List α,(l.Pairwise fun a b=>c a b≤0)→(KU c x l).Pairwise fun a b=>c a b≤0
 |[],_=>by simp[KU]
 |y::l,hl=>by
  have hl':=List.pairwise_cons.1 hl;unfold KU;split
  ·rename_i hxy;refine List.pairwise_cons.2 ⟨fun z hz=> ?_,hl⟩;rcases List.mem_cons.1 hz with rfl|hz
   ·exact hxy
   ·exact h.le_trans hxy (hl'.1 z hz)
  ·rename_i hxy;refine List.pairwise_cons.2 ⟨fun z hz=> ?_,rG h x l hl'.2⟩;rcases List.mem_cons.1 ((rE x l).mem_iff.1 hz) with rfl|hz
   ·have:=h.swap z y;omega
   ·exact hl'.1 z hz
theorem nE (h:Three c):∀l:List α,(kT c l).Pairwise fun a b=>c a b≤0
 |[]=>List.Pairwise.nil
 |x::l=>rG h x _ (nE h l)
theorem jS (h:Three c) (l:List α):iU c l=kT c l:=(pX h (rF l) (nE h l)).symm
end
def eS (a b:ByteArray):Int:=if Op.bytesLess a.data.toList b.data.toList then-1 else if a.data.toList==b.data.toList then 0 else 1
def eL:List ByteArray→List ByteArray→Int
 |[],[]=>0
 |[],_::_=> -1
 |_::_,[]=>1
 |a::x,b::y=>if eS a b≠0 then eS a b else eL x y
def eF (f g:aj):Int:=if eS f.1 g.1≠0 then eS f.1 g.1 else if sj f.2.length g.2.length≠0 then sj f.2.length g.2.length else eL f.2 g.2
def eB (a b:aC):Int:=if eS a.1 b.1≠0 then eS a.1 b.1 else eS a.2 b.2
theorem KV:iD=eS:=by funext a b;unfold iD eS;rw[Lib.toList_data,Lib.toList_data]
theorem Pt:cmpL=eL:=by
 funext x y
 induction x generalizing y with
 |nil=>cases y <;> rfl
 |cons a x ih=>cases y with
  |nil=>rfl
  |cons b y=>simp only[cmpL,eL,KV,ih]
theorem M8:fM=eF:=by funext f g;unfold fM eF;rw[KV,Pt]
theorem Ao:rZ=eB:=by funext a b;unfold rZ eB;rw[KV]
def Eb (l:List aj):List aj:=kT eF (fC l)
theorem rH (l:List aj):fO l=Eb l:=by unfold fO Eb;rw[jS aM,M8]
def allI (fs:List aj) (body:List aF):Option (List (List aC)):=match eu (fun _=>fs) 0 body [[]] with
 |none=>none
 |some ms=>some (kT (pY eB) ((ms.filter fun l=> !barredB (fun _=>fs) 0 body l).map (kT eB)))
theorem KW (fs:List aj) (body:List aF):lF (fun _=>fs) body=allI fs body:=by
 have e1:(jk:List aC→List aC)=kT eB:=by funext l;show iU rZ l=_;rw[jS gy,Ao]
 unfold lF allI;cases eu (fun _=>fs) 0 body [[]] with
 |none=>rfl
 |some ms=>
  dsimp only;rw[jS gL,e1,show iB=pY eB from by rw[←Ao]]
def uy (r:aA) (fs:List aj):Option (List aj):=match allI fs r.body with
 |none=>none
 |some R=>some (Eb (R.filterMap fun l=>aQ r.head l))
theorem yN (r:aA) (fs:List aj):dM r fs=uy r fs:=by
 unfold dM uy;rw[KW];cases allI fs r.body with
 |none=>rfl
 |some R=>dsimp only;rw[rH]
def yO (n:Int) (fs:List aj):List aA→List Nat→List aj→Int×List aj
 |[],_,acc=>(0,Eb acc)
 |_::_,[],acc=>(0,Eb acc)
 |r::p,s::ss,acc=>if(s:Int)=n then
   match uy r fs with
   |none=>(4,[])
   |some x=>if 200<(Eb (acc++x)).length then(5,[]) else yO n fs p ss (acc++x)
  else yO n fs p ss acc
theorem wh (n:Int) (fs:List aj):∀(p:List aA) (ss:List Nat) (acc:List aj),eP n fs p ss acc=yO n fs p ss acc
 |[],_,acc=>by simp only[eP,yO,rH]
 |_::_,[],acc=>by simp only[eP,yO,rH]
 |r::p,s::ss,acc=>by
  simp only[eP,yO];rw[yN];split
  ·cases uy r fs with
   |none=>rfl
   |some x=>
    dsimp only;rw[rH,wh n fs p ss]
  ·exact wh n fs p ss acc
def FP (p:List aA) (ss:List Nat) (n:Int):Nat→List aj→Int×List aj
 |0,l=>(0,l)
 |k+1,l=>match yO n l p ss l with
  |(e,x)=>if e≠0 then(e,[]) else if x.length=l.length then(0,x) else FP p ss n k x
theorem BN (p:List aA) (ss:List Nat) (n:Int):∀(k:Nat) (l:List aj),dH p ss n k l=FP p ss n k l
 |0,l=>rfl
 |k+1,l=>by
  unfold dH FP bV;rw[wh];obtain⟨e,x,h⟩:∃e x,yO n l p ss l=(e,x):=⟨_,_,rfl⟩;rw[h];dsimp only;rw[BN p ss n k x]
def M9 (p:List aA) (ss:List Nat):Nat→Nat→List aj→Int×List aj
 |0,_,l=>(0,l)
 |c+1,n,l=>match FP p ss n 201 l with
  |(e,x)=>if e≠0 then(e,[]) else M9 p ss c (n+1) x
theorem FQ (p:List aA) (ss:List Nat):∀(c n:Nat) (l:List aj),gQ p ss c n l=M9 p ss c n l
 |0,n,l=>rfl
 |c+1,n,l=>by
  unfold gQ M9;rw[BN];obtain⟨e,x,h⟩:∃e x,FP p ss n 201 l=(e,x):=⟨_,_,rfl⟩;rw[h];dsimp only;rw[FQ p ss c (n+1) x]
end Go.Proofs.YtafmbokfkbccaaaGreatDoor
namespace Go.Proofs.YtafmbokfkbccaaaGreatDoor
open Go.RowKit Go.Sort
def pos (s:ByteArray) (l:Bs):Nat:=s.size-l.length
structure Rd (w:World) (p:Nat) (s:ByteArray) (l:Bs):Prop where
 short:s.size≤3000
 suf:l<:+raw s
 lt:p<w.heap.size
 ne:1<p
 c0:w.cell? ⟨p,0,none⟩=some (.string s)
 c1:w.cell? ⟨p,1,none⟩=some (.int .i64 (pos s l))
 fz:w.frozen? ⟨p,1,none⟩=false
 g:∃m,w.cell? ⟨1,0,none⟩=some (.int .i64 m)
theorem BO {s:ByteArray} {l:Bs} (h:l<:+raw s):(raw s).drop (pos s l)=l:=by
 obtain⟨t,e⟩:=h;have:(raw s).length=t.length+l.length:=by rw[←e,List.length_append]
 rw[aY] at this;rw[←e,pos,this,Nat.add_sub_cancel,List.drop_left]
theorem uz (s:ByteArray) (l:Bs):pos s l≤s.size:=Nat.sub_le _ _
theorem oQ {s:ByteArray} {l:Bs} (h:l<:+raw s):l.length≤s.size:=by rw[←aY];exact h.length_le
theorem FR {s:ByteArray} {l:Bs} (h:l<:+raw s) {n:Nat} (hn:n≤l.length):pos s (l.drop n)=pos s l+n:=by
 have:=oQ h;simp only[pos,List.length_drop];omega
theorem IE {s:ByteArray} {l:Bs} (h:l<:+raw s) (n:Nat):l.drop n<:+raw s:=(List.drop_suffix n l).trans h
theorem FT {s:ByteArray} {l:Bs} (h:l<:+raw s):s.extract (pos s l) s.size=bs l:=by
 apply Ee
 rw[iw];have e:=BO h;unfold raw at e⊢;rw[ByteArray.data_extract];simp only[Array.toList_extract,List.extract_eq_take_drop];rw[e,List.take_of_length_le];simp only[pos];have:=oQ h;omega
theorem Rd.turned {w w':World} {p q:Nat} {s:ByteArray} {l:Bs} (h:Rd w p s l) (k:Tn q w w') (hq:q≠p) (h0:p<q):Rd w' p s l:=
 ⟨h.short,h.suf,Nat.lt_of_lt_of_le h.lt k.size,h.ne,by rw[k.cell (x:=⟨p,0,none⟩) h.lt (fun e=>hq e.symm)];exact h.c0,by rw[k.cell (x:=⟨p,1,none⟩) h.lt (fun e=>hq e.symm)];exact h.c1,
  by rw[World.frozen?_of_block (w:=w) (a:=⟨p,1,none⟩) (k.block p h.lt (fun e=>hq e.symm))];exact h.fz,
  by obtain⟨m,e⟩:=h.g;exact⟨m,by rw[k.cell (x:=⟨1,0,none⟩) (by have:=h.lt;have:=h.ne;show 1<w.heap.size;omega) (fun e'=>by have h1:=h.ne;have e2:1=q:=e';omega)];exact e⟩⟩
theorem Rd.below {w w':World} {p:Nat} {s:ByteArray} {l:Bs} (h:Rd w p s l) (k:Below w.heap.size w w'):Rd w' p s l:=
 h.turned (Tn.of_below (p:=p+1) k) (by omega) (by omega)
theorem Rd.set {w:World} {p:Nat} {s:ByteArray} {l:Bs} (h:Rd w p s l) {r:Bs} (hr:r<:+raw s):Rd (w.setCell ⟨p,1,none⟩ (.int .i64 (pos s r))) p s r:=by
 have hc:=h.c1;refine⟨h.short,hr,by rw[size_setCell];exact h.lt,h.ne,?_,?_,?_,?_⟩
 ·rw[World.cell?_setCell_other _ _ _ _ (by simp)];exact h.c0
 ·exact World.cell?_setCell_same _ _ _ hc
 ·rw[World.frozen?_setCell];exact h.fz
 ·obtain⟨m,e⟩:=h.g;exact⟨m,by rw[World.cell?_setCell_other _ _ _ _ (by intro e;simp at e)];exact e⟩
theorem Rd.drewN {w:World} {p:Nat} {s:ByteArray} {l:Bs} (h:Rd w p s l) (q:Nat):Rd (w.drewN q) p s l:=⟨h.short,h.suf,h.lt,h.ne,h.c0,h.c1,h.fz,h.g⟩
theorem Rd.moved {w:World} {p:Nat} {s:ByteArray} {l:Bs} (h:Rd w p s l) {n:Nat} (hn:n≤l.length) {x:Int} (hx:x=(pos s l:Int)+n):Rd (w.setCell ⟨p,1,none⟩ (.int .i64 x)) p s (l.drop n):=by
 have:=h.set (IE h.suf n);rw[FR h.suf hn] at this;rw[hx];exact this
theorem Tn.moved {w w':World} {p:Nat} (h:Tn p w w') (v:Value) (o:Nat):Tn p w (w'.setCell ⟨p,o,none⟩ v):=h.setCell (Or.inl rfl) v
end Go.Proofs.YtafmbokfkbccaaaGreatDoor
