import Derived.Test.YtafmbokfkbccaaaGreatDoorJW26
import Derived.Test.YtafmbokfkbccaaaGreatDoorJW9
import Derived.Test.YtafmbokfkbccaaaGreatDoorJW20
import Derived.Test.YtafmbokfkbccaaaGreatDoorJW16
import Derived.Test.YtafmbokfkbccaaaGreatDoorJW6
namespace Go.Proofs.YtafmbokfkbccaaaGreatDoor
open Go.RowKit Go.Sort
theorem KO {ty:TypeId} {lo:Nat} {w:World} {v:Value} {l:List cO} (h:dn.own ty lo w v l) (hl:l.length≤8796093022208):dn.sl (jA v) w v l:=by
 obtain⟨xs,ho,hx⟩:=h;rcases ho.2 with⟨rfl,e⟩|⟨g,cap,cur,rfl,hbg,hg,hnc,_⟩
 ·have:l=[]:=List.eq_nil_of_length_eq_zero e;subst this;exact dn.iq _ _ _ _
 ·refine⟨⟨hl,hnc⟩,_,cap,rfl,fun _=>⟨g,0,rfl,rfl,(Array.getElem?_eq_some_iff.1 hg).1,fun i x hi=> ?_⟩⟩;obtain⟨c,c1,c2⟩:=hx i x hi;refine⟨c,c1,fun j u hu=> ?_⟩;have:=ho.cells (g:=g) rfl _ u (c2 j u hu);rw[Addr.add_lit] at this;rw[Nat.add_assoc];exact this
theorem F9 {α:Type} {l:List α} {i:Nat} {x:α} (h:l[i]?=some x):l.set i x=l:=by
 obtain⟨hi,e⟩:=List.getElem?_eq_some_iff.1 h;rw[←e];exact List.set_getElem_self hi
set_option maxRecDepth 100000 in
set_option maxHeartbeats 8000000 in
theorem M0 (b:List aC) (body:List aF) (bv lv:Value) (w:World) (hb:bP.sl bU w bv body) (hl:bg.sl bU w lv b) (h5:body.length≤1000) (h4:∀a∈body,a.terms.length≤1000):
  Calls Tryz.prog 291 #[bv,lv] w fun e w'=>∃v',e=.returned v'∧bP.sl bU w' v' (dR b body)∧Below w.heap.size w w':=by
 have HCl:=hide (DF body bv w hb (by omega));obtain⟨ba,bc,rfl⟩:=Kind.slice hb;obtain⟨la,lc,rfl⟩:=Kind.slice hl;have HB:=hide hb;have HL:=hide hl;have H4:=hide h4;clear hb hl h4
 go_enter Tryz.func291,Tryz.ntmps291
 go_wp2_with fail
 refine HCl.out.mono ?_;rintro e w1 ⟨v1,rfl,hO1,hk1,hB1⟩;have HK1:=hide hk1;have HO1:=hide hO1;have HB1:=hide hB1;obtain⟨va,vn,vc,rfl⟩:∃a n c,v1=.slice a n c:=by obtain⟨a,c,e⟩:=Kind.bY hO1;exact⟨a,_,c,e⟩
 clear hO1 hk1 hB1 HCl;go_wp2
 go_loopg [16] body.length (fun g i wr=>∃j:Nat,j+g=body.length∧i=.int .i64 j∧Hid (bP.own 85 0 wr (.slice va vn vc) ((body.take j).map (eG b)++body.drop j))∧Hid (Below w.heap.size w wr))
 case atStart=>exact⟨0,by omega,rfl,(by rw[List.take_zero,List.drop_zero];exact HO1.out:Kind.own _ _ _ _ _ _),HB1⟩
 case round=>
  clear HO1 HB1;obtain⟨j,hj,rfl,HO,HW⟩:=hrel
  by_cases hlt:j<body.length
  ·obtain⟨a,ha⟩:∃a,body[j]?=some a:=⟨_,List.getElem?_eq_getElem hlt⟩;obtain⟨b1,o1,_,e1,hb1,⟨xv,hce,htv⟩,hc⟩:=Kind.fQ HB.out ha;subst e1;subst hce;have d0:wr.cell? ⟨b1,o1+j*3,none⟩=some (.bool a.no):=by rw[HW.out.cell (p:=⟨b1,o1+j*3,none⟩) hb1];simpa[bP] using hc 0 _ rfl
   have d1:wr.cell? ⟨b1,o1+j*3+1,none⟩=some (.string (bs a.name)):=by rw[HW.out.cell (p:=⟨b1,o1+j*3+1,none⟩) hb1];simpa[bP] using hc 1 _ rfl
   have d2:wr.cell? ⟨b1,o1+j*3+2,none⟩=some xv:=by rw[HW.out.cell (p:=⟨b1,o1+j*3+2,none⟩) hb1];simpa[bP] using hc 2 _ rfl
   obtain⟨xa,xc,rfl⟩:=Kind.slice htv;have hat:=H4.out a (List.mem_of_getElem? ha);have QM:=Cg (g:=eG b) ha;obtain⟨g,Ur,cs,hve,hgw,hgc,_,hrow⟩:=F5 HO.out QM;rw[mF] at hve hgc;simp only[Value.slice.injEq] at hve;obtain⟨rfl,rfl,rfl⟩:=hve;obtain⟨wa,hwa⟩:∃wa,wa=wr.alloc (.cells #[.bool a.no,.string (bs a.name),.slice xa a.terms.length xc] 85):=⟨_,rfl⟩;have hLa:Later wr wa:=by rw[hwa];exact(Later.refl wr).alloc _
   have hRa:wa.heap[wr.heap.size]?=some (.cells #[.bool a.no,.string (bs a.name),.slice xa a.terms.length xc] 85 (0,0)):=by rw[hwa];exact heap_alloc_new wr _
   obtain⟨c0,c1,c2,hla⟩:=EO hRa;have hBa:=ak HW.out hLa.below HW.out.size;have HCt:=hide (DI a.terms (.slice xa a.terms.length xc) wa (Kind.aS htv hBa) (by omega));have HTv:=hide htv;have HBa:=hide hBa;have HLa:=hide hLa;have HWa:=hide hwa;have HRa:=hide hRa;have HA:=hide ha;have QJ:=HW.out.size;clear hc ha htv hwa hLa hRa hBa hrow QM
   go_wp2_with (first|(rw[←HWa.out])|fail)
   refine HCt.out.mono ?_;rintro e w2 ⟨v2,rfl,hO2,hk2,hB2⟩;have LB:Below wr.heap.size wr w2:=ak HLa.out.below hB2 HLa.out.size;have QN:=Kind.jv HO.out LB.size fun k hk _=>LB.block k hk;obtain⟨g',Tp,cs',hve,Us,_,hcs',hrow'⟩:=F5 QN (Cg (g:=eG b) HA.out);simp only[Value.slice.injEq,Option.some.injEq,Addr.mk.injEq] at hve;obtain⟨⟨rfl,-,-⟩,-,-⟩:=hve;obtain⟨tv',rfl,_⟩:=hcs';obtain⟨k2,fz2⟩:=hrow' 2 _ rfl;have k2:w2.cell? ⟨g,j*3+2,none⟩=some tv':=k2;have fz2:w2.frozen? ⟨g,j*3+2,none⟩=false:=fz2;have hsa:=hB2.size;have hsr:=HLa.out.size;obtain⟨w3,hw3⟩:∃w3,w3=w2.setCell ⟨g,j*3+2,none⟩ v2:=⟨_,rfl⟩;have hH3:Hole w3 (.slice (some ⟨g,0,none⟩) body.length vc) body.length ((body.take j).map (eG b)++body.drop j) j a v2:=by
    have:=F8 (u:=v2) HO.out LB.size (fun k hk=>LB.block k hk) rfl (Cg (g:=eG b) HA.out) fun k hk=>by have:=hk2 k hk;omega
    rw[mF] at this;rw[hw3];exact this
   have hT3:Tn g w2 w3:=by rw[hw3];exact Tn.setCell (p:=g) (Tn.refl _ _) (x:=⟨g,j*3+2,none⟩) (Or.inl rfl) _
   have hO3:dn.own 187 0 w3 v2 ((a.terms.take 0).map (dB b)++a.terms.drop 0):=by
    rw[List.take_zero,List.map_nil,List.nil_append,List.drop_zero];obtain⟨xs,hown,hx⟩:=hO2;exact⟨xs,pq hown fun k hk=>hT3.block k (hown.lt k hk).2 (by have:=hk2 k hk;omega),hx⟩
   have hgl:w.heap.size≤g:=HK1.out g rfl;have hB3:Below w.heap.size w w3:=ak (ak HW.out LB HW.out.size) (hT3.below hgl (by omega)) (Nat.le_refl _);have QO:=(hT3.block _ (by omega) (by omega)).trans ((hB2.block _ hla).trans HRa.out);have r2:w3.cell? ⟨wr.heap.size,2,none⟩=some (.slice xa a.terms.length xc):=by rw[cell_of_row _ _ _ _ _ _ QO];rfl
   obtain⟨ua,un,uc,rfl⟩:∃a n c,v2=.slice a n c:=by obtain⟨a,c,e⟩:=Kind.bY hO2;exact⟨a,_,c,e⟩
   have HH3:=hide hH3;have HO3:=hide hO3;have HB3:=hide hB3;have HW3:=hide hw3;have HK2:Hid (∀k,(Value.slice ua un uc).ownBlock=some k→wa.heap.size≤k):=hk2;have hs3:=hT3.size;have hjb:(j:Int)<(body.length:Int):=by omega
   have hj0:(0:Int)≤(j:Int):=by omega
   clear hO2 hk2 hB2 LB QN hrow' hw3 hH3 hO3 hB3 hT3 QO HCt HO HW d0 d1 d2 c0 c1 HBa HRa
   go_wp2_with (rw[←HW3.out])
   clear r2 k2 fz2 c2 HW3
   go_loopg [31] a.terms.length (fun q i wr=>∃k:Nat,k+q=a.terms.length∧i=.int .i64 k∧Hid (dn.own 187 0 wr (.slice ua un uc) ((a.terms.take k).map (dB b)++a.terms.drop k))∧Hid (Hole wr (.slice (some ⟨g,0,none⟩) body.length vc) body.length ((body.take j).map (eG b)++body.drop j) j a (.slice ua un uc))∧Hid (Below w.heap.size w wr)∧wa.heap.size≤wr.heap.size)
   case atStart=>exact⟨0,by omega,rfl,HO3,HH3,HB3,by omega⟩
   case round=>
    clear HO3 HH3 HB3;obtain⟨k,hk,rfl,HO,HH,HW,hwz⟩:=hrel
    by_cases hltk:k<a.terms.length
    ·obtain⟨t,ht⟩:∃t,a.terms[k]?=some t:=⟨_,List.getElem?_eq_getElem hltk⟩;obtain⟨b2,o2,cs,e2,hb2,hte,hc2⟩:=Kind.fQ HTv.out ht;subst e2;have Tq:cs=[.bool t.1,.string (bs t.2)]:=hte;subst Tq;have d0:wr.cell? ⟨b2,o2+k*2,none⟩=some (.bool t.1):=by rw[HW.out.cell (p:=⟨b2,o2+k*2,none⟩) hb2];simpa[dn] using hc2 0 _ rfl
     have d1:wr.cell? ⟨b2,o2+k*2+1,none⟩=some (.string (bs t.2)):=by rw[HW.out.cell (p:=⟨b2,o2+k*2+1,none⟩) hb2];simpa[dn] using hc2 1 _ rfl
     have hmt:=Cg (g:=dB b) ht;have htm:=Ce (g:=dB b) ht;obtain⟨wt,hwt⟩:∃wt,wt=wr.alloc (.cells #[.bool t.1,.string (bs t.2)] 187):=⟨_,rfl⟩;have hLt:Later wr wt:=by rw[hwt];exact(Later.refl wr).alloc _
     have hRt:wt.heap[wr.heap.size]?=some (.cells #[.bool t.1,.string (bs t.2)] 187 (0,0)):=by rw[hwt];exact heap_alloc_new wr _
     obtain⟨c0,c1,_,_,hlt2⟩:=jR hRt;have hBt:=ak HW.out hLt.below HW.out.size;have HGe:=hide (NN (.slice la b.length lc) b (bs t.2) wt (Kind.aS HL.out hBt));have HLt:=hide hLt;have HRt:=hide hRt;have HWt:=hide hwt;have HMt:=hide hmt;have HTm:=hide htm;have hgg:g<wr.heap.size:=by omega
     obtain⟨gb,hgb⟩:∃gb,gb=bQ b (bs t.2):=⟨_,rfl⟩;rw[←hgb] at HGe;have HGb:=hide hgb;unfold jZ at HGe;obtain⟨t1,t2⟩:=t;dsimp only at*;clear hc2 ht hmt htm hwt hLt hRt hBt hgb;generalize htn:bs t2=tn at*;have HTn:=hide htn;clear htn
     go_wp2_with (first|(rw[←HWt.out])|fail)
     refine HGe.out.mono ?_;rintro e w4 ⟨rfl,hL4⟩;have GQ:=HLt.out.trans hL4;have hr4:=(hL4.block hlt2).trans HRt.out;have z0:w4.cell? ⟨wr.heap.size,0,none⟩=some (.bool t1):=by rw[cell_of_row _ _ _ _ _ _ hr4];rfl
     have hO4:dn.own 187 0 w4 (.slice ua un uc) ((a.terms.take k).map (dB b)++a.terms.drop k):=Kind.jv HO.out GQ.size fun i hi _=>GQ.block hi;have hH4:=HH.out.kept (w':=w4) GQ.size (fun i hi _=>GQ.block hi) (fun i hi=>by
      have e:g=i:=by simpa[Value.ownBlock] using hi
      subst e;exact⟨hgg,fun hc=>by have:=HK2.out _ hc;omega⟩)
     have HB4:=hide (ak HW.out GQ.below HW.out.size);have hz4:wa.heap.size≤w4.heap.size:=by have:=GQ.size;omega
     have same:(t1=false∨gb=none)→(a.terms.take k).map (dB b)++a.terms.drop k=(a.terms.take (k+1)).map (dB b)++a.terms.drop (k+1):=fun h=>by
      have hbt:dB b (t1,t2)=(t1,t2):=by
       unfold dB;rcases h with h|h
       ·rw[h];rfl
       ·dsimp only;rw[HTn.out,←HGb.out,h];cases t1 <;> rfl
      have h1:=HTm.out;rw[hbt] at h1;rw[←h1];exact(F9 HMt.out).symm
     clear d0 d1 c0 c1 HGe HRt HO HH HW;cases gb with
     |none=>
      have HO5:Hid (dn.own 187 0 w4 (.slice ua un uc) ((a.terms.take (k+1)).map (dB b)++a.terms.drop (k+1))):=by show Kind.own _ _ _ _ _ _;rw[←same (Or.inr rfl)];exact hO4
      have HH4:=hide hH4;simp only[Option.getD_none,Option.isSome_none];clear same hO4 hH4 hL4 GQ hr4 HGb HMt HTm;go_wp2
      go_roundg (a.terms.length- (k+1))
      case measure=>omega
      case rel=>exact⟨k+1,by omega,by go_num,HO5,HH4,HB4,hz4⟩
     |some s=>
      simp only[Option.getD_some,Option.isSome_some];cases t1 with
      |false=>
       have HO5:Hid (dn.own 187 0 w4 (.slice ua un uc) ((a.terms.take (k+1)).map (dB b)++a.terms.drop (k+1))):=by show Kind.own _ _ _ _ _ _;rw[←same (Or.inl rfl)];exact hO4
       have HH4:=hide hH4;clear same hO4 hH4 hL4 GQ hr4 HGb HMt HTm;go_wp2
       go_roundg (a.terms.length- (k+1))
       case measure=>omega
       case rel=>exact⟨k+1,by omega,by go_num,HO5,HH4,HB4,hz4⟩
      |true=>
       have hbt:dB b (true,t2)=(false,raw s):=by
        unfold dB;dsimp only;rw[HTn.out,←HGb.out]
        rfl
       have htm:=HTm.out;rw[hbt] at htm;obtain⟨h,hcap,cs,hve,hhw,hhc,hcs,hrow⟩:=F5 hO4 HMt.out;rw[mF] at hve hhc;simp only[Value.slice.injEq] at hve;obtain⟨rfl,rfl,rfl⟩:=hve;have hcs':cs=[.bool true,.string (bs t2)]:=hcs;subst hcs';obtain⟨y0,y1⟩:=hrow 0 _ rfl;obtain⟨y2,y3⟩:=hrow 1 _ rfl;have y0:w4.cell? ⟨h,k*2,none⟩=some (.bool true):=y0;have y1:w4.frozen? ⟨h,k*2,none⟩=false:=y1;have y2:w4.cell? ⟨h,k*2+1,none⟩=some (.string (bs t2)):=y2;have y3:w4.frozen? ⟨h,k*2+1,none⟩=false:=y3;have hhb:wa.heap.size≤h:=HK2.out h rfl;have hcell:=hH4.cell rfl;have hp1:=F4 (q:=0) (u:=.bool false) (x':=((false,t2):cO)) hO4 rfl HMt.out (by decide) (fun c hc=>by
        have hc':c=[.bool true,.string (bs t2)]:=hc;subst hc';rfl)
       have IG:k<((a.terms.take k).map (dB b)++a.terms.drop k).length:=by rw[mF];exact hltk
       have hp2:=F4 (q:=1) (u:=.string s) (x':=((false,raw s):cO)) hp1 rfl (List.getElem?_set_self IG) (by decide) (fun c hc=>by
        have hc':c=[.bool false,.string (bs t2)]:=hc;subst hc';show[Value.bool false,.string s]=[.bool false,.string (bs (raw s))];rw[ko])
       rw[List.set_set,htm] at hp2;obtain⟨w5,hw5⟩:∃w5,w5=(w4.setCell ⟨h,k*2,none⟩ (.bool false)).setCell ⟨h,k*2+1,none⟩ (.string s):=⟨_,rfl⟩;have hO5:dn.own 187 0 w5 (.slice (some ⟨h,0,none⟩) a.terms.length uc) ((a.terms.take (k+1)).map (dB b)++a.terms.drop (k+1)):=by rw[hw5];exact hp2
       have hT5:Tn h w4 w5:=by
        rw[hw5];exact Tn.setCell (p:=h) (Tn.setCell (p:=h) (Tn.refl _ _) (x:=⟨h,k*2,none⟩) (Or.inl rfl) _) (x:=⟨h,k*2+1,none⟩) (Or.inl rfl) _
       have HH5:=hide (hH4.kept (w':=w5) hT5.size (fun i hi hne=>hT5.block i hi (fun e=>hne (by simp[Value.ownBlock];exact e.symm))) (fun i hi=>by
        have e:g=i:=by simpa[Value.ownBlock] using hi
        subst e;exact⟨by have:=GQ.size;omega,fun hc=>by have:=HK2.out _ hc;omega⟩))
       have HO5:=hide hO5;have HB5:=hide (ak HB4.out (hT5.below (n:=w.heap.size) (by omega) HB4.out.size) (Nat.le_refl _));have hz5:wa.heap.size≤w5.heap.size:=by have:=hT5.size;omega
       have HW5:=hide hw5;have hkb:(k:Int)<(a.terms.length:Int):=by omega
       have hk0:(0:Int)≤(k:Int):=by omega
       clear same hO4 hH4 hL4 GQ hr4 HGb HMt HTm hbt htm hrow hcs hp1 hp2 IG hw5 hO5 hT5
       go_wp2_with (rw[←HW5.out])
       go_roundg (a.terms.length- (k+1))
       case measure=>omega
       case rel=>exact⟨k+1,by omega,by go_num,HO5,HH5,HB5,hz5⟩
    ·have htk:(a.terms.take k).map (dB b)++a.terms.drop k=a.terms.map (dB b):=by rw[List.take_of_length_le (by omega),List.drop_eq_nil_of_le (by omega),List.append_nil]
     have hO:=HO.out;rw[htk] at hO;have hsl:=KO hO (by rw[List.length_map];omega);have hf:=Hole.fill (L:=(body.take j).map (eG b)++body.drop j) (ts:=a.terms.map (dB b)) (by have:=HH.out;rw[←mF (g:=eG b) (l:=body) (j:=j)] at this;rw[mF] at this⊢;exact HH.out) (by rw[mF];exact hlt) (Kind.aX hsl fun i hi hB=>fun e=>by
      have e':g=i:=by simpa[Value.ownBlock] using e
      subst e';have:=HK2.out _ hB;omega)
     have htm:=Ce (g:=eG b) HA.out;have hba:eG b a=⟨a.no,a.name,a.terms.map (dB b)⟩:=rfl;rw[←hba,htm] at hf;have HF:=hide hf;clear htk hO hsl hf htm hba HO HH;go_wp2
     go_roundg (body.length- (j+1))
     case measure=>omega
     case rel=>exact⟨j+1,by omega,by go_num,HF,HW⟩
  ·have hO:=HO.out;rw[List.take_of_length_le (by omega),List.drop_eq_nil_of_le (by omega),List.append_nil] at hO;have hb:(body.map (eG b)).length≤8796093022208:=by rw[List.length_map];omega
   have HS:=hide (Kind.dV (Kind.iw hO hb));clear hO HO;go_wp2;go_ret;exact⟨_,rfl,HS.out,HW.out⟩
end Go.Proofs.YtafmbokfkbccaaaGreatDoor
namespace Go.Proofs.YtafmbokfkbccaaaGreatDoor
open Go.RowKit Go.Sort
structure PrB (w:World) (P:Nat) (pv tv av:Value) (c d:Int) (sv:Value) (m:Nat):Prop where
 row:w.heap[P]?=some (.cells #[pv,tv,av,.int .i64 c,.int .i64 d,sv,.map (some m)] 115 (0,0))
theorem PrB.cells {w:World} {P:Nat} {pv tv av:Value} {c d:Int} {sv:Value} {m:Nat} (h:PrB w P pv tv av c d sv m):w.cell? ⟨P,0,none⟩=some pv∧w.cell? ⟨P,1,none⟩=some tv∧w.cell? ⟨P,2,none⟩=some av∧w.cell? ⟨P,3,none⟩=some (.int .i64 c)∧w.cell? ⟨P,4,none⟩=some (.int .i64 d)∧w.cell? ⟨P,5,none⟩=some sv∧w.cell? ⟨P,6,none⟩=some (.map (some m))∧P<w.heap.size:=by
 have h:=h.row;refine⟨?_,?_,?_,?_,?_,?_,?_,(Array.getElem?_eq_some_iff.1 h).1⟩ <;> (rw[cell_of_row _ _ _ _ _ _ h];rfl)
theorem PrB.block {w w':World} {P:Nat} {pv tv av:Value} {c d:Int} {sv:Value} {m:Nat} (h:PrB w P pv tv av c d sv m) (e:w'.heap[P]?=w.heap[P]?):PrB w' P pv tv av c d sv m:=⟨e.trans h.row⟩
theorem PrB.below {w w':World} {P:Nat} {pv tv av:Value} {c d:Int} {sv:Value} {m:Nat} (h:PrB w P pv tv av c d sv m) (k:Below w.heap.size w w'):PrB w' P pv tv av c d sv m:=h.block (k.block P h.cells.2.2.2.2.2.2.2)
def ByV (lo:Nat) (w:World) (v:Value):Option (List aj)→Prop
 |none=>v=.slice none 0 0
 |some of=>dQ (From lo) w v of
abbrev lF (all:List aj):List aF→Int:=fun b=>pX b all []
theorem zn {w:World} {v:Value} {er:Int} {body:List aF} {all:List aj} (h:Di w v er body all (-1) []):sV.sl bU w v (oV body all (lF all body)):=by
 unfold Di at h;unfold oV lF;split at h
 ·rename_i h0;rw[if_pos h0,h.1];exact Kind.iq _ _ _ _ _
 ·rename_i h0;rw[if_neg h0];rw[y5] at h;cases e:lW (fun _=>all) body with
  |none=>
   rw[e] at h;rw[h.1];exact Kind.iq _ _ _ _ _
  |some R=>
   rw[e] at h;exact h.2
theorem zo {body:List aF} {all:List aj} {er:Int}:(oV body all er).length≤20000:=by
 unfold oV;split
 ·simp
 ·cases e:lW (fun _=>all) body with
  |none=>simp
  |some R=>exact oz e
theorem Ch {of old:List aj}:(of.filter fun f=> !gD old f 0)=[]↔of.all (inB old)=true:=by
 rw[List.filter_eq_nil_iff,List.all_eq_true]
 constructor
 ·intro h f hf;have:=h f hf;rw[tu] at this;simpa using this
 ·intro h f hf;rw[tu,h f hf];simp
theorem Ga {α:Type} {P:α→Bool} {l:List α} {j:Nat} {x:α} (h:l[j]?=some x):(l.drop j).find? P=if P x then some x else(l.drop (j+1)).find? P:=by
 obtain⟨hi,e⟩:=List.getElem?_eq_some_iff.1 h;rw[List.drop_eq_getElem_cons hi,e,List.find?_cons];cases P x <;> rfl
set_option maxRecDepth 100000 in
set_option maxHeartbeats 8000000 in
theorem byC (all old:List aj) (r:aA) (f:aj) (P:Nat) (pv tv av hv bv fv ov sv:Value) (c d:Int) (m:Nat) (w:World) (hP:PrB w P pv tv av c d sv m) (hh:dn.sl bU w hv r.head.terms) (hb:bP.sl bU w bv r.body) (hf:bW w fv f) (ho:Facts w ov old) (ha:Facts w av all) (hro:fO old)
  (h4:r.head.terms.length≤4) (h5:r.body.length≤5) (hbt:∀a∈r.body,a.terms.length≤4):
  Calls Tryz.prog 243 #[.pointer (some ⟨P,0,none⟩),.agg #[.bool r.head.no,.string (bs r.head.name),hv,bv],fv,ov] w fun e w'=>∃v',e=.returned (.tuple #[v',.bool (byP (lF all) all old r f).isSome])∧ByV w.heap.size w' v' (byP (lF all) all old r f)∧Below w.heap.size w w':=by
 obtain⟨s,rfl,hs⟩:=hf;obtain⟨sa,sc,rfl⟩:=aW hs;obtain⟨ha',hc',rfl⟩:=Kind.slice hh;obtain⟨ba,bc,rfl⟩:=Kind.slice hb;obtain⟨aa,ac,rfl⟩:=aD ha;obtain⟨oa,oc,rfl⟩:=aD ho;have hPl:=hP.cells.2.2.2.2.2.2.2;obtain⟨w1,hw1⟩:∃w1,w1=(w.alloc (.cells #[.bool r.head.no,.string (bs r.head.name),.slice ha' r.head.terms.length hc',.slice ba r.body.length bc] 87)).alloc (.cells #[.string f.1,.slice sa f.2.length sc] 27):=⟨_,rfl⟩;have hL1:Later w w1:=by rw[hw1];exact((Later.refl w).alloc _).alloc _
 have hs1:w1.heap.size=w.heap.size+2:=by rw[hw1];simp
 have hr0:w1.heap[w.heap.size]?=some (.cells #[.bool r.head.no,.string (bs r.head.name),.slice ha' r.head.terms.length hc',.slice ba r.body.length bc] 87 (0,0)):=by
  rw[hw1];simp only[bI,World.size_alloc]
  repeat (first|rw[if_pos trivial]|rw[if_pos (by omega)]|rw[if_neg (by omega)])
 have hr1:w1.heap[w.heap.size+1]?=some (.cells #[.string f.1,.slice sa f.2.length sc] 27 (0,0)):=by
  rw[hw1];simp only[bI,World.size_alloc]
  repeat (first|rw[if_pos trivial]|rw[if_pos (by omega)]|rw[if_neg (by omega)])
 have HMe:=hide (Hr r.head (.slice ha' r.head.terms.length hc') (.agg #[.string f.1,.slice sa f.2.length sc]) (.slice none 0 0) f [] w1 (Kind.aH hh hL1) ⟨_,rfl,hs.later hL1⟩ (Kind.iq _ _ _ _ _) (by simp;omega));have a0:w1.cell? ⟨w.heap.size,0,none⟩=some (.bool r.head.no):=by rw[cell_of_row _ _ _ _ _ _ hr0];rfl
 have a1:w1.cell? ⟨w.heap.size,0+1,none⟩=some (.string (bs r.head.name)):=by rw[cell_of_row _ _ _ _ _ _ hr0];rfl
 have a2:w1.cell? ⟨w.heap.size,0+2,none⟩=some (.slice ha' r.head.terms.length hc'):=by rw[cell_of_row _ _ _ _ _ _ hr0];rfl
 have f0:w1.cell? ⟨w.heap.size+1,0,none⟩=some (.string f.1):=by rw[cell_of_row _ _ _ _ _ _ hr1];rfl
 have f1:w1.cell? ⟨w.heap.size+1,0+1,none⟩=some (.slice sa f.2.length sc):=by rw[cell_of_row _ _ _ _ _ _ hr1];rfl
 obtain⟨BP,hBP⟩:∃BP,BP=byP (lF all) all old r f:=⟨_,rfl⟩;rw[←hBP];have HPr:=hide hP;have HB:=hide hb;have HO:=hide ho;have HAl:=hide ha;have HRo:=hide hro;have HBT:=hide hbt;have HL1:=hide hL1;have HR0:=hide hr0;have HW1:=hide hw1;unfold byP at hBP;clear hP hh hb hs ho ha hro hbt hL1 hr0 hr1 hw1;cases hm:dH r.head f [] with
 |none=>
  rw[hm] at HMe hBP;dsimp only at hBP;simp only[Option.isSome_none] at HMe;subst hBP;simp only[Option.isSome_none];clear hm;obtain⟨fn,aI⟩:=f;dsimp only at*;generalize bs r.head.name=nm at*;generalize r.head.no=no at*
  go_enter Tryz.func243,Tryz.ntmps243
  go_wp2_with (first|(rw[←HW1.out])|fail)
  refine HMe.out.mono ?_;rintro e w2 ⟨v2,rfl,hv2,hL2⟩;obtain rfl:v2=.slice none 0 0:=hv2;have HB2:=hide ((HL1.out.trans hL2).below);clear hL2 HMe;go_wp2;exact bodyPost_ret (v:=.tuple #[.slice none 0 0,.bool false]) (by simp[results,Tryz.results243,go_sem]) rfl ⟨_,rfl,rfl,HB2.out⟩
 |some b0=>
  rw[hm] at HMe hBP;dsimp only at hBP;simp only[Option.isSome_some] at HMe;have hb0:=wH hm;simp only[List.length_nil] at hb0;have HBP:=hide hBP;clear hm hBP;obtain⟨fn,aI⟩:=f;dsimp only at*;obtain⟨hd,body⟩:=r;dsimp only at*;generalize bs hd.name=nm at*;generalize hd.no=no at*
  go_enter Tryz.func243,Tryz.ntmps243
  go_wp2_with (first|(rw[←HW1.out])|fail)
  refine HMe.out.mono ?_;rintro e w2 ⟨v2,rfl,hv2,hL2⟩;have Ms:bg.own 190 w1.heap.size w2 v2 b0:=hv2;have hb2:bg.sl bU w2 v2 b0:=Kind.dV (Kind.iw Ms (by omega));have II:=HL1.out.trans hL2;have HBo:=hide (M0 b0 body (.slice ba body.length bc) v2 w2 (Kind.aH HB.out II) hb2 (by omega) (fun a ha=>by have:=HBT.out a ha;omega));obtain⟨va,vn,vc,rfl⟩:∃a n c,v2=.slice a n c:=by obtain⟨a,c,e⟩:=Kind.slice hb2;exact⟨a,_,c,e⟩
  have hr2:=(hL2.block (by omega)).trans HR0.out;have k3:w2.cell? ⟨w.heap.size,3,none⟩=some (.slice ba body.length bc):=by rw[cell_of_row _ _ _ _ _ _ hr2];rfl
  have HB2:=hide II.below;clear hv2 Ms hb2 hL2 hr2 HMe a0 a1 a2 f0 f1 HW1 II
  go_wp2_with fail
  refine HBo.out.mono ?_;rintro e w3 ⟨v3,rfl,hv3,hB3⟩;have HB3:=hide (ak HB2.out hB3 HB2.out.size);have HAc:=hide (Qx (dR b0 body) v3 (.slice aa all.length ac) all w3 hv3 (HAl.out.below HB3.out));have HV3:=hide hv3;obtain⟨xa,xn,xc,rfl⟩:∃a n c,v3=.slice a n c:=by obtain⟨a,c,e⟩:=Kind.slice hv3;exact⟨a,_,c,e⟩
  have p2:=(HPr.out.below HB3.out).cells.2.2.1;clear hv3 hB3 HBo k3
  go_wp2_with fail
  refine HAc.out.mono ?_;rintro e w4 ⟨v4,er4,rfl,hT4,hB4⟩;have HB4:=hide (ak HB3.out hB4 HB3.out.size);have hS4:=zn hT4;have HS4:=hide hS4;have hls:=zo (body:=dR b0 body) (all:=all) (er:=lF all (dR b0 body));have HV4:=hide (Kind.aS HV3.out hB4);obtain⟨LS,hLS⟩:∃LS,LS=oV (dR b0 body) all (lF all (dR b0 body)):=⟨_,rfl⟩;rw[←hLS] at HS4 HBP hls;obtain⟨la,lc,hlv⟩:=Kind.slice HS4.out;subst hlv;have hbb:(dR b0 body).length≤1000:=by unfold dR;rw[List.length_map];omega
  have HFi:Hid (∀(l:List aC) (lv:Value) (w':World),Below w4.heap.size w4 w'→bg.sl bU w' lv l→Calls Tryz.prog 292 #[.slice xa xn xc,lv] w' fun e w''=>∃v',e=.returned v'∧gN w'' w'.heap.size v' (fF (dR b0 body) l)∧Later w' w''):=fun l lv w' h hl=>
   KN (dR b0 body) l _ lv w' (Kind.aS HV4.out h) hl hbb
  have HFl:Hid (∀l,(fF (dR b0 body) l).length≤1000):=fun l=>Nat.le_trans (mD _ _) hbb;generalize fF (dR b0 body)=FL at*;clear hT4 hS4 hB4 HAc hLS p2 HV3 HV4 hbb;go_wp2
  go_loopg [43] LS.length (fun g i wr=>∃j:Nat,j+g=LS.length∧i=.int .i64 j∧Hid (BP=((LS.map FL).drop j).find? fun of=>of.all (inB old))∧Hid (Below w4.heap.size w4 wr))
  case atStart=>exact⟨0,by omega,rfl,(by rw[List.drop_zero];exact HBP.out:_=_),Below.refl _ _⟩
  case round=>
   obtain⟨j,hj,rfl,HF,HW⟩:=hrel
   by_cases hlt:j<LS.length
   ·obtain⟨l,hl⟩:∃l,LS[j]?=some l:=⟨_,List.getElem?_eq_getElem hlt⟩;obtain⟨b1,o1,_,e1,hb1,⟨lv,hce,hlv⟩,hc⟩:=Kind.fQ HS4.out hl;subst e1;subst hce;have d0:wr.cell? ⟨b1,o1+j,none⟩=some lv:=by rw[HW.out.cell (p:=⟨b1,o1+j,none⟩) hb1];simpa[slK] using hc 0 _ rfl
    have hfd:=Ga (P:=fun of:List aj=>of.all (inB old)) (l:=LS.map FL) (j:=j) (x:=FL l) (by rw[List.getElem?_map,hl];rfl);have H5:=hide (HFi.out l lv wr HW.out (Kind.aS hlv HW.out));have hfl:=HFl.out l;obtain⟨ya,yc,rfl⟩:=Kind.slice hlv;have HFd:=hide hfd;clear hc hl hlv hfd
    go_wp2_with fail
    refine H5.out.mono ?_;rintro e w5 ⟨v5,rfl,hO5,hL5⟩;have hF5:=hO5.facts (by omega);have hB5:=ak HW.out hL5.below HW.out.size;have HLs:=hide (Oz v5 (.slice oa old.length oc) (FL l) old w5 hF5 (HO.out.below (ak HB4.out hB5 HB4.out.size)) HRo.out);obtain⟨za,zc,hzv⟩:=aD hF5;subst hzv;have hsW:=HW.out.size;have hsB:=HB4.out.size;have HF5:Hid (dQ (From w.heap.size) w5 (.slice za (FL l).length zc) (FL l)):=(hO5.Mh hfl).mono fun k _ (h:wr.heap.size≤k)=>(by show w.heap.size≤k;omega);have HB5:=hide hB5;clear hO5 hL5 hF5 hB5 H5 d0
    go_wp2_with fail
    refine HLs.out.mono ?_;rintro e w6 ⟨v6,rfl,hO6,hL6⟩;have M4:((FL l).filter fun f=> !gD old f 0).length≤(FL l).length:=List.length_filter_le _ _;obtain⟨qa,qc,hqv⟩:=aD (hO6.facts (by omega));subst hqv;have HB6:=hide (ak HB5.out hL6.below HB5.out.size);have HF6:=hide (HF5.out.below hL6.below);cases hall:(FL l).all (inB old) with
    |true=>
     have he:((FL l).filter fun f=> !gD old f 0)=[]:=Ch.2 hall;have HE:Hid (BP=some (FL l)):=by show _=_;rw[HF.out,HFd.out,hall];rfl
     rw[he];have hz:decide ((0:Nat)=0)=true:=rfl;clear hO6 hL6 HLs M4 hall he HFd HF;simp only[List.length_nil];go_wp2;refine bodyPost_ret (v:=.tuple #[.slice za (FL l).length zc,.bool true]) (by simp[results,Tryz.results243,go_sem]) rfl ⟨.slice za (FL l).length zc,?_,?_,ak HB4.out HB6.out HB4.out.size⟩
     ·rw[HE.out];rfl
     ·rw[HE.out];exact HF6.out
    |false=>
     have hne:¬((FL l).filter fun f=> !gD old f 0)=[]:=fun e=>by rw[Ch.1 e] at hall;cases hall
     have hpos:=List.length_pos_iff.2 hne;have HE:Hid (BP=((LS.map FL).drop (j+1)).find? fun of=>of.all (inB old)):=by show _=_;rw[HF.out,HFd.out,hall];rfl
     generalize((FL l).filter fun f=> !gD old f 0).length=nn at*;have hz:((nn:Int)==0)=false:=by simp;omega
     clear hO6 hL6 HLs M4 hall hne HFd HF;go_wp2
     go_roundg (LS.length- (j+1))
     case measure=>omega
     case rel=>exact⟨j+1,by omega,by go_num,HE,HB6⟩
   ·have HE:Hid (BP=none):=by show _=_;rw[HF.out,List.drop_eq_nil_of_le (by rw[List.length_map];omega)];rfl
    clear HF;go_wp2;refine bodyPost_ret (v:=.tuple #[.slice none 0 0,.bool false]) (by simp[results,Tryz.results243,go_sem]) rfl ⟨.slice none 0 0,?_,?_,ak HB4.out HW.out HB4.out.size⟩
    ·rw[HE.out];rfl
    ·rw[HE.out];exact rfl
end Go.Proofs.YtafmbokfkbccaaaGreatDoor
namespace Go.Proofs.YtafmbokfkbccaaaGreatDoor
open Go.RowKit Go.Sort Go.Maps
def mG (u:Value):Prop:=∃a n c,u=.slice a n c
def rX (lo:Nat) (w:World) (v:Value) (xs:List Value):Prop:=
 ∃g cap cur,v=.slice (some ⟨g,0,none⟩) xs.length cap∧lo≤g∧w.heap[g]?=some (.cells cur 24 (0,0))∧xs.length≤cap∧cap≤maxLen∧cur.size=cap∧cur.toList.take xs.length=xs∧∀u∈cur.toList,mG u
theorem rX.owns {lo:Nat} {w:World} {v:Value} {xs:List Value} (h:rX lo w v xs):w.ownsRow lo 24 1 v xs.length xs:=by
 obtain⟨g,cap,cur,rfl,h1,h2,h3,h4,h5,h6,_⟩:=h;exact⟨by simp,Or.inr ⟨g,cap,cur,rfl,h1,h2,h3,h4,by rw[h5];omega,by rw[Nat.mul_one];exact h6⟩⟩
theorem rX.block {lo:Nat} {w w':World} {v:Value} {xs:List Value} (h:rX lo w v xs) (hk:∀k,k<w.heap.size→lo≤k→w'.heap[k]?=w.heap[k]?):rX lo w' v xs:=by
 obtain⟨g,cap,cur,e,h1,h2,h3⟩:=h;exact⟨g,cap,cur,e,h1,(hk g (Array.getElem?_eq_some_iff.1 h2).1 h1).trans h2,h3⟩
theorem rX.KP {lo:Nat} {w:World} {v:Value} {xs:List Value} (h:rX lo w v xs) {b off:Nat} {s:ByteArray} (hc:w.cell? ⟨b,off,none⟩=some (.string s)):v.ownBlock≠some b:=fun e=>by
 obtain⟨g,cap,cur,rfl,_,h2,_,_,_,_,h7⟩:=h;simp only[Value.ownBlock,Option.some.injEq] at e;subst e;rw[cell_of_row _ _ _ _ _ _ h2] at hc;have hm:(Value.string s)∈cur.toList:=by
  rw[Array.mem_toList_iff];exact Array.mem_of_getElem? hc
 obtain⟨a,n,c,e⟩:=h7 _ hm;cases e
theorem A9 {lo:Nat} {w w':World} {v:Value} {xs:List Value} (h:rX lo w v xs) (hg:w.grownBy w' v.ownBlock) {u:Value} {l:List aG} (hf:Facts w u l):Facts w' u l:=by
 have key:∀{b off:Nat} {s:ByteArray},w.cell? ⟨b,off,none⟩=some (.string s)→w'.heap[b]?=w.heap[b]?:=fun {b off s} hc=>
  hg.block b (World.block_lt_of_cell? w _ hc) (fun e=>h.KP hc e.symm)
 have cell_of:∀{b off:Nat},w'.heap[b]?=w.heap[b]?→w'.cell? ⟨b,off,none⟩=w.cell? ⟨b,off,none⟩:=fun {b off} e=>by
  unfold World.cell?;dsimp only;rw[e]
 have strs:∀{q:Value} {r:List ByteArray},Strs w q r→Strs w' q r:=fun {q r} hs=>by
  obtain⟨h0,a,cap,rfl,h1⟩:=hs;refine⟨h0,a,cap,rfl,fun hl=> ?_⟩;obtain⟨b,off,rfl,hb,hc⟩:=h1 hl;refine⟨b,off,rfl,Nat.lt_of_lt_of_le hb hg.size,fun i hi=> ?_⟩;rw[cell_of (key (hc i hi))];exact hc i hi
 obtain⟨h0,a,cap,rfl,h1⟩:=hf;refine⟨h0,a,cap,rfl,fun hl=> ?_⟩;obtain⟨b,off,rfl,hb,hc⟩:=h1 hl;refine⟨b,off,rfl,Nat.lt_of_lt_of_le hb hg.size,fun i hi=> ?_⟩;obtain⟨c1,s,c2,c3⟩:=hc i hi;exact⟨by rw[cell_of (key c1)];exact c1,s,by rw[cell_of (key c1)];exact c2,strs c3⟩
theorem uR:∃i,Tryz.prog.info? 24=some i∧i.zero=some (.slice none 0 0)∧i.size=1∧i.bytes=24:=⟨Tryz.t24,by kernel_rfl,by kernel_rfl,by kernel_rfl,by kernel_rfl⟩
set_option maxRecDepth 100000 in
theorem rX.more {lo:Nat} {w:World} {v:Value} {xs:List Value} (h:rX lo w v xs) (hlo:lo≤w.heap.size) {u:Value} (hu:mG u) (hl:xs.length+1≤1000000):
  ∃v' w',(Builtin.append_ #[113,113] 113 #[v,.slice (some ⟨w.heap.size,0,none⟩) 1 1]).run Tryz.prog (w.alloc (.cells #[u] 24))=.ok v' w'∧rX lo w' v' (xs++[u])∧(w.alloc (.cells #[u] 24)).grownBy w' v.ownBlock:=by
 obtain⟨i,i1,i2,i3,i4⟩:=uR;have hown:=(h.owns).alloc (.cells #[u] 24);have hnews:∀j x,[u][j]?=some x→(w.alloc (.cells #[u] 24)).cell? ((⟨w.heap.size,0,none⟩:Addr).add j)=some x:=fun j x hx=>by
  rw[Addr.add_lit,Nat.zero_add,cell_of_row _ w.heap.size j #[u] 24 (0,0) (heap_alloc_new w _)];simpa using hx
 have hone:∀x∈[u],x.oneCell'=true:=fun x hx=>by obtain⟨a,n,c,rfl⟩:=hu;simp at hx;subst hx;rfl
 obtain⟨v',w',hrun,r1,r2,r3,r4⟩:=eP (P:=Tryz.prog) (w.alloc (.cells #[u] 24)) lo 113 113 24 i _ 1 24 Tryz.underlying113 i1 i2 i3 i4 rfl (by omega) v xs.length xs hown ⟨w.heap.size,0,none⟩ 1 1 [u] rfl hnews hone (by simp only[maxLen];omega) (by omega) (by simp;omega);refine⟨v',w',hrun,?_,r2⟩;obtain⟨g,cap,cur,rfl,h1,h2,h3,h4,h5,h6,h7⟩:=h;have h2':(w.alloc (.cells #[u] 24)).heap[g]?=some (.cells cur 24 (0,0)):=by rw[Below.heap_alloc _ _ _ (Array.getElem?_eq_some_iff.1 h2).1];exact h2
 by_cases hroom:xs.length+1≤cap
 ·rw[run_append_room (P:=Tryz.prog) _ 113 113 24 i Tryz.underlying113 i1 g xs.length cap cur h2' ⟨w.heap.size,0,none⟩ 1 1 [u] (by rw[i3];rfl) hnews hone hroom (by rw[i3,h5];simp;omega)] at hrun;simp only[Result.ok.injEq] at hrun;obtain⟨rfl,rfl⟩:=hrun;rw[i3,Nat.mul_one,h6] at r1⊢;rcases r1.2 with⟨e,_⟩|⟨g',cap',cur',e,k1,k2,k3,k4,k5,k6⟩
  ·cases e
  ·injection e with e1 e2 e3
   injection e1 with e1
   injection e1 with e1
   subst e1;subst e3;refine⟨g,cap,cur',by simp,k1,k2,by simpa using k3,k4,by simpa using k5,by simpa using k6,fun y hy=> ?_⟩;have hcur:cur'=(xs++[u]++cur.toList.drop (xs.length+1)).toArray:=by
    have hh:=setRow_heap (w.alloc (.cells #[u] 24)) g cur (xs++[u]++cur.toList.drop (xs.length+[u].length)).toArray 24 _ h2';have hh2:=k2.symm.trans hh;simp only[Option.some.injEq,Obj.cells.injEq] at hh2;exact hh2.1
   rw[hcur] at hy;simp only[List.mem_append,List.mem_singleton] at hy;rcases hy with(hy|hy)|hy
   ·exact h7 y (by rw[←h6] at hy;exact List.mem_of_mem_take hy)
   ·rw[hy];exact hu
   ·exact h7 y (List.mem_of_mem_drop hy)
 ·rw[run_append_grow (P:=Tryz.prog) _ 113 113 24 i _ Tryz.underlying113 i1 i2 ⟨g,0,none⟩ xs.length cap xs (by rw[i3,Nat.mul_one]) (hown.cells (g:=g) rfl) ⟨w.heap.size,0,none⟩ 1 1 [u] (by rw[i3];rfl) hnews (by omega) (by omega) (growslice_fits (by omega) (by rw[i4];omega))] at hrun;simp only[Result.ok.injEq] at hrun;obtain⟨rfl,rfl⟩:=hrun;rcases r1.2 with⟨e,_⟩|⟨g',cap',cur',e,k1,k2,k3,k4,k5,k6⟩
  ·cases e
  ·injection e with e1 e2 e3
   injection e1 with e1
   injection e1 with e1
   subst e1;subst e3;refine⟨_,_,cur',by simp,k1,k2,by simpa using k3,k4,by simpa using k5,by simpa using k6,fun y hy=> ?_⟩;have hn:=heap_alloc_new (w.alloc (.cells #[u] 24)).drew (.cells (xs.toArray++[u].toArray++Builtin.zeroCells (Value.slice none 0 0).cells (grownCap (w.alloc (.cells #[u] 24)) (xs.length+1) cap 24- (xs.length+1))) 24);have k2':=hn.symm.trans k2
   injection k2' with k2'
   injection k2' with k2'
   rw[←k2'] at hy;simp only[Array.toList_append,List.mem_append,List.mem_singleton] at hy;rcases hy with(hy|hy)|hy
   ·exact h7 y (by rw[←h6] at hy;exact List.mem_of_mem_take hy)
   ·rw[hy];exact hu
   ·unfold Builtin.zeroCells at hy;simp only[Value.cells] at hy;rw[Array.mem_toList_iff,Array.mem_map] at hy;obtain⟨q,_,rfl⟩:=hy;exact⟨none,0,0,by simp[Nat.mod_one]⟩
set_option maxRecDepth 100000 in
theorem rX.first {lo:Nat} {w:World} (hlo:lo≤w.heap.size) {u:Value} (hu:mG u):
  ∃v' w',(Builtin.append_ #[113,113] 113 #[.slice none 0 0,.slice (some ⟨w.heap.size,0,none⟩) 1 1]).run Tryz.prog (w.alloc (.cells #[u] 24))=.ok v' w'∧rX lo w' v' [u]∧(w.alloc (.cells #[u] 24)).grownBy w' none:=by
 obtain⟨i,i1,i2,i3,i4⟩:=uR;have hown:=World.ownsRow_nil (w.alloc (.cells #[u] 24)) lo 24 1;have hnews:∀j x,[u][j]?=some x→(w.alloc (.cells #[u] 24)).cell? ((⟨w.heap.size,0,none⟩:Addr).add j)=some x:=fun j x hx=>by
  rw[Addr.add_lit,Nat.zero_add,cell_of_row _ w.heap.size j #[u] 24 (0,0) (heap_alloc_new w _)];simpa using hx
 have hone:∀x∈[u],x.oneCell'=true:=fun x hx=>by obtain⟨a,n,c,rfl⟩:=hu;simp at hx;subst hx;rfl
 obtain⟨v',w',hrun,r1,r2,r3,r4⟩:=eP (P:=Tryz.prog) (w.alloc (.cells #[u] 24)) lo 113 113 24 i _ 1 24 Tryz.underlying113 i1 i2 i3 i4 rfl (by omega) (.slice none 0 0) 0 [] hown ⟨w.heap.size,0,none⟩ 1 1 [u] rfl hnews hone (by simp only[maxLen];omega) (by omega) (by simp;omega);refine⟨v',w',hrun,?_,r2⟩;rw[run_append_nil (P:=Tryz.prog) _ 113 113 24 i _ Tryz.underlying113 i1 i2 ⟨w.heap.size,0,none⟩ 1 1 [u] (by rw[i3];rfl) hnews (by omega) (by omega) (by rw[i4];omega)] at hrun;simp only[Result.ok.injEq] at hrun;obtain⟨rfl,rfl⟩:=hrun;rcases r1.2 with⟨e,_⟩|⟨g',cap',cur',e,k1,k2,k3,k4,k5,k6⟩
 ·cases e
 ·injection e with e1 e2 e3
  injection e1 with e1
  injection e1 with e1
  subst e1;subst e3;refine⟨_,_,cur',by simp,k1,k2,by simpa using k3,k4,by simpa using k5,by simpa using k6,fun y hy=> ?_⟩;have hn:=heap_alloc_new (w.alloc (.cells #[u] 24)).drew (.cells ([u].toArray++Builtin.zeroCells (Value.slice none 0 0).cells (grownCap (w.alloc (.cells #[u] 24)) 1 0 24-1)) 24);have k2':=hn.symm.trans k2
  injection k2' with k2'
  injection k2' with k2'
  rw[←k2'] at hy;simp only[Array.toList_append,List.mem_append] at hy;rcases hy with hy|hy
  ·simp at hy;rw[hy];exact hu
  ·unfold Builtin.zeroCells at hy;simp only[Value.cells] at hy;rw[Array.mem_toList_iff,Array.mem_map] at hy;obtain⟨q,_,rfl⟩:=hy;exact⟨none,0,0,by simp[Nat.mod_one]⟩
def pz (w:World) (b:Nat):Prop:=∀(off:Nat) (s:ByteArray),w.cell? ⟨b,off,none⟩≠some (.string s)
theorem rY {w w':World} {b:Nat} (h:pz w b) (hg:Tn b w w') {u:Value} {l:List aG} (hf:Facts w u l):Facts w' u l:=by
 have key:∀{q off:Nat} {s:ByteArray},w.cell? ⟨q,off,none⟩=some (.string s)→w'.heap[q]?=w.heap[q]?:=fun {q off s} hc=>
  hg.block q (World.block_lt_of_cell? w _ hc) (fun e=>by subst e;exact h _ _ hc)
 have cell_of:∀{q off:Nat},w'.heap[q]?=w.heap[q]?→w'.cell? ⟨q,off,none⟩=w.cell? ⟨q,off,none⟩:=fun {q off} e=>by
  unfold World.cell?;dsimp only;rw[e]
 have strs:∀{q:Value} {r:List ByteArray},Strs w q r→Strs w' q r:=fun {q r} hs=>by
  obtain⟨h0,a,cap,rfl,h1⟩:=hs;refine⟨h0,a,cap,rfl,fun hl=> ?_⟩;obtain⟨b,off,rfl,hb,hc⟩:=h1 hl;refine⟨b,off,rfl,Nat.lt_of_lt_of_le hb hg.size,fun i hi=> ?_⟩;rw[cell_of (key (hc i hi))];exact hc i hi
 obtain⟨h0,a,cap,rfl,h1⟩:=hf;refine⟨h0,a,cap,rfl,fun hl=> ?_⟩;obtain⟨b,off,rfl,hb,hc⟩:=h1 hl;refine⟨b,off,rfl,Nat.lt_of_lt_of_le hb hg.size,fun i hi=> ?_⟩;obtain⟨c1,s,c2,c3⟩:=hc i hi;exact⟨by rw[cell_of (key c1)];exact c1,s,by rw[cell_of (key c1)];exact c2,strs c3⟩
end Go.Proofs.YtafmbokfkbccaaaGreatDoor
namespace Go.Proofs.YtafmbokfkbccaaaGreatDoor
open Go.RowKit Go.Sort
theorem PrB.uS {w:World} {P:Nat} {pv tv av:Value} {c d:Int} {sv:Value} {m:Nat} (h:PrB w P pv tv av c d sv m) (hp:mG pv) (ht:mG tv) (ha:mG av) (hs:mG sv):pz w P:=fun off s e=>by
 obtain⟨a1,n1,c1,rfl⟩:=hp;obtain⟨a2,n2,c2,rfl⟩:=ht;obtain⟨a3,n3,c3,rfl⟩:=ha;obtain⟨a4,n4,c4,rfl⟩:=hs;rw[cell_of_row _ _ _ _ _ _ h.row] at e;rcases off with _|_|_|_|_|_|_|off <;> simp at e
def tF (lo:Nat) (w:World) (sv:Value) (xs:List Value):Prop:=(xs=[]∧sv=.slice none 0 0)∨rX lo w sv xs
theorem tF.mG {lo:Nat} {w:World} {sv:Value} {xs:List Value} (h:tF lo w sv xs):mG sv:=by
 rcases h with⟨_,rfl⟩|⟨g,cap,cur,rfl,_⟩
 ·exact⟨_,_,_,rfl⟩
 ·exact⟨_,_,_,rfl⟩
theorem tF.lo {lo:Nat} {w:World} {sv:Value} {xs:List Value} (h:tF lo w sv xs):∀k,sv.ownBlock=some k→lo≤k∧k<w.heap.size:=fun k e=>by
 rcases h with⟨_,rfl⟩|h
 ·cases e
 ·exact h.owns.lt k e
theorem tF.more {lo:Nat} {w:World} {sv:Value} {xs:List Value} (h:tF lo w sv xs) (hlo:lo≤w.heap.size) {u:Value} (hu:Go.Proofs.YtafmbokfkbccaaaGreatDoor.mG u) (hl:xs.length+1≤1000000):
  ∃v' w',(Builtin.append_ #[113,113] 113 #[sv,.slice (some ⟨w.heap.size,0,none⟩) 1 1]).run Tryz.prog (w.alloc (.cells #[u] 24))=.ok v' w'∧rX lo w' v' (xs++[u])∧(w.alloc (.cells #[u] 24)).grownBy w' sv.ownBlock∧∀v l,Facts (w.alloc (.cells #[u] 24)) v l→Facts w' v l:=by
 rcases h with⟨rfl,rfl⟩|h
 ·obtain⟨v',w',h1,h2,h3⟩:=rX.first hlo hu
  refine⟨v',w',h1,h2,h3,fun v l hf=>hf.below ⟨h3.os,h3.tape,h3.output,h3.size,fun k hk=>h3.block k hk (fun e=>by cases e)⟩⟩
 ·obtain⟨v',w',h1,h2,h3⟩:=h.more hlo hu hl;refine⟨v',w',h1,h2,h3,fun v l hf=> ?_⟩;have hR:rX lo (w.alloc (.cells #[u] 24)) sv xs:=h.block fun k hk _=>Below.heap_alloc w _ k hk;exact A9 hR h3 hf
set_option maxRecDepth 100000 in
set_option maxHeartbeats 4000000 in
theorem Ph (P lo:Nat) (pv tv av u sv:Value) (c d:Int) (mb:Nat) (xs:List Value) (w:World) (hP:PrB w P pv tv av c d sv mb) (hS:tF lo w sv xs) (NW:P<lo) (hlw:lo≤w.heap.size) (hp:mG pv) (ht:mG tv) (ha:mG av) (hu:mG u) (hl:xs.length+1≤1000000):
  Calls Tryz.prog 102 #[.pointer (some ⟨P,0,none⟩),u] w fun e w'=>e=.returned (.tuple #[])∧∃sv',PrB w' P pv tv u c d sv' mb∧rX lo w' sv' (xs++[u])∧(∀v l,Facts w v l→Facts w' v l)∧(∀k,k<w.heap.size→k≠P→sv.ownBlock≠some k→w'.heap[k]?=w.heap[k]?)∧Below P w w':=by
 have hnt:=hP.uS hp ht ha hS.mG;obtain⟨p0,p1,p2,p3,p4,p5,p6,hPl⟩:=hP.cells;obtain⟨wA,hwA⟩:∃wA,wA=w.setCell ⟨P,2,none⟩ u:=⟨_,rfl⟩;have hTA:Tn P w wA:=by rw[hwA];exact Tn.setCell (p:=P) (Tn.refl _ _) (x:=⟨P,2,none⟩) (Or.inl rfl) _
 have hRA:wA.heap[P]?=some (.cells #[pv,tv,u,.int .i64 c,.int .i64 d,sv,.map (some mb)] 115 (0,0)):=by rw[hwA,dJ (j:=2) hP.row];rfl
 have hSA:tF lo wA sv xs:=by
  rcases hS with e|h
  ·exact Or.inl e
  ·exact Or.inr (h.block fun k hk hlo=>hTA.block k hk (by omega))
 have hszA:=hTA.size;obtain⟨v',wB,hrun,hRB,hgB,hFB⟩:=hSA.more (by omega) hu hl;have QS:=hSA.lo;have hlo:=hS.lo;have Gb:wB.heap[P]?=some (.cells #[pv,tv,u,.int .i64 c,.int .i64 d,sv,.map (some mb)] 115 (0,0)):=by
  rw[hgB.block P (by simp;omega) (fun e=>by have:=(QS P e.symm).1;omega),Below.heap_alloc _ _ _ (by omega)];exact hRA
 obtain⟨wC,hwC⟩:∃wC,wC=wB.setCell ⟨P,5,none⟩ v':=⟨_,rfl⟩;have hTC:Tn P wB wC:=by rw[hwC];exact Tn.setCell (p:=P) (Tn.refl _ _) (x:=⟨P,5,none⟩) (Or.inl rfl) _
 have hRC:wC.heap[P]?=some (.cells #[pv,tv,u,.int .i64 c,.int .i64 d,v',.map (some mb)] 115 (0,0)):=by rw[hwC,dJ (j:=5) Gb];rfl
 have QT:=hgB.size;simp only[World.size_alloc] at QT;have QU:rX lo wC v' (xs++[u]):=hRB.block fun k hk hlo=>hTC.block k hk (by omega);have hsv:mG sv:=hS.mG;have QV:pz wB P:=(PrB.mk Gb).uS hp ht hu hsv;have hkeep:∀k,k<w.heap.size→k≠P→sv.ownBlock≠some k→wC.heap[k]?=w.heap[k]?:=fun k hk hne hns=>by
  rw[hTC.block k (by omega) hne,hgB.block k (by simp;omega) (fun e=>hns e.symm),Below.heap_alloc _ _ _ (by omega)];exact hTA.block k hk hne
 have hFC:∀v l,Facts w v l→Facts wC v l:=fun v l hf=>by
  have h1:=rY hnt hTA hf;have h2:=hFB v l (h1.later ((Later.refl _).alloc _));exact rY QV hTC h2
 have hBC:Below P w wC:=by
  refine⟨?_,?_,?_,by have:=hTC.size;omega,fun k hk=>hkeep k (by omega) (by omega) (fun e=>by have:=(hlo k e).1;omega)⟩
  ·rw[hTC.os,hgB.os];exact hTA.os
  ·rw[hTC.tape,hgB.tape];exact hTA.tape
  ·rw[hTC.output,hgB.output];exact hTA.output
 have q5:wA.cell? ⟨P,5,none⟩=some sv:=by rw[cell_of_row _ _ _ _ _ _ hRA];rfl
 have z2:w.frozen? ⟨P,2,none⟩=false:=fG hP.row;have q5b:wB.cell? ⟨P,5,none⟩=some sv:=by rw[cell_of_row _ _ _ _ _ _ Gb];rfl
 have z5:wB.frozen? ⟨P,5,none⟩=false:=fG Gb;obtain⟨ua,un,uc,rfl⟩:=hu;obtain⟨sa,sn,sc,rfl⟩:=hsv;obtain⟨va,vn,vc,rfl⟩:mG v':=by obtain⟨g,cap,cur,e,_⟩:=hRB;exact⟨_,_,_,e⟩
 have HRn:=hide hrun;have HWA:=hide hwA;have HWC:=hide hwC;have HFin:Hid (PrB wC P pv tv (.slice ua un uc) c d (.slice va vn vc) mb∧rX lo wC (.slice va vn vc) (xs++[.slice ua un uc])∧(∀v l,Facts w v l→Facts wC v l)∧(∀k,k<w.heap.size→k≠P→(Value.slice sa sn sc).ownBlock≠some k→wC.heap[k]?=w.heap[k]?)∧Below P w wC):=⟨⟨hRC⟩,QU,hFC,hkeep,hBC⟩;clear hP hS hnt hp ht ha hl p0 p1 p3 p4 p5 p6 hwA hTA hRA hSA hrun hRB hgB hFB QS hlo Gb hwC hTC hRC QU QV hkeep hFC hBC
 go_enter Tryz.func102,Tryz.ntmps102
 go_wp2_with (first|(rw[←HWA.out])|(rw[←HWC.out])|(at_builtin;refine wpList_append_run rfl (.tmp 13) (.tmp 15) 113 rfl _ _ _ _ rfl rfl HRn.out ?_))
 first|go_end0|refine bodyPost_ret (results_none rfl _ _ _) rfl ?_
 exact⟨rfl,_,HFin.out⟩
end Go.Proofs.YtafmbokfkbccaaaGreatDoor
