import Derived.Test.YtafmbokfkbccaaaGreatDoorJT33
import Derived.Test.YtafmbokfkbccaaaGreatDoorJT11
import Derived.Test.YtafmbokfkbccaaaGreatDoorJT12
import Derived.Test.YtafmbokfkbccaaaGreatDoorJT28
namespace Go.Proofs.YtafmbokfkbccaaaGreatDoor
open Go.RowKit Go.Sort
theorem Em (s:ByteArray):sw s=(decide (0<s.size∧s.size≤12)&&(raw s).all gL):=by
 unfold sw;rw[Bool.and_comm];rfl
theorem L6 {s:ByteArray} (h:sw s=false):isVar (raw s)=false:=by
 rw[Em] at h;unfold isVar;rw[cK];cases hr:raw s with
 |nil=>simp
 |cons c t=>
  have hl:=cK s;rw[hr] at hl h;simp at hl
  by_cases h12:s.size≤12
  ·rw[decide_eq_true ⟨by omega,h12⟩,Bool.true_and] at h;rw[h];simp
  ·rw[decide_eq_false h12];rfl
theorem JC {s:ByteArray} (h:sw s=true):∃h0:0<s.size,isVar (raw s)=mg s[0].toNat:=by
 rw[Em,Bool.and_eq_true,decide_eq_true_iff] at h;obtain⟨⟨h0,h12⟩,ha⟩:=h;refine⟨h0,?_⟩;rw[DN h0 h12,jO,←cK s,kW,ha,Bool.and_true]
set_option maxHeartbeats 400000 in
theorem JD (s:ByteArray) (w:World) (hs:s.size≤9223372036854775807):Calls Tryz.prog 261 #[.string s] w fun e w'=>e=.returned (.bool (isVar (raw s)))∧Later w w':=by
 cases hw:sw s
 ·have hn:=L6 hw;rw[hn]
  go_enter Tryz.func261,Tryz.ntmps261
  go_wp2_with (go_at_call 185;refine(JA _ _ hs).mono ?_;rintro e w1 ⟨rfl,hL⟩;rw[hw])
  go_ret;exact⟨rfl,hL⟩
 ·obtain⟨h0,hn⟩:=JC hw;have h0z:(0:Int)<(s.size:Int):=by omega
  generalize hc:(s[0]'h0).toNat=c at hn;have HN:=hide hn;clear hn
  by_cases ha:(65:Int)≤c
  ·go_enter Tryz.func261,Tryz.ntmps261
   go_wp2_with (go_at_call 185;refine(JA _ _ hs).mono ?_;rintro e w1 ⟨rfl,hL⟩;rw[hw])
   go_ret;refine⟨bW ?_,by assumption⟩;rw[HN.out];unfold mg;rw[Bool.eq_iff_iff];simp;omega
  ·go_enter Tryz.func261,Tryz.ntmps261
   go_wp2_with (go_at_call 185;refine(JA _ _ hs).mono ?_;rintro e w1 ⟨rfl,hL⟩;rw[hw])
   go_ret;refine⟨bW ?_,by assumption⟩;rw[HN.out];unfold mg;rw[Bool.eq_iff_iff];simp;omega
end Go.Proofs.YtafmbokfkbccaaaGreatDoor
namespace Go.Proofs.YtafmbokfkbccaaaGreatDoor
open Go.RowKit Go.Sort Go.Maps
def Ro (t:dN):Prop:=t.2.length≤9223372036854775807
def CX (a:aI):Prop:=a.name.length≤9223372036854775807∧∀t∈a.terms,Ro t
theorem En (l:Bs) (w:World) (h:l.length≤9223372036854775807):Calls Tryz.prog 113 #[.string (bs l)] w fun e w'=>e=.returned (.bool (isNamed l))∧Later w w':=by
 have:=x9 (bs l) w (by rw[jO];exact h);rw[mh,jC] at this;exact this
theorem CY (l:Bs) (w:World) (h:l.length≤9223372036854775807):Calls Tryz.prog 261 #[.string (bs l)] w fun e w'=>e=.returned (.bool (isVar l))∧Later w w':=by
 have:=JD (bs l) w (by rw[jO];exact h);rw[jC] at this;exact this
set_option maxRecDepth 100000 in
set_option maxHeartbeats 2000000 in
theorem yg (a:aI) (v:Value) (w:World) (hv:eH.sl bg w v a.terms) (hk:CX a):
  Calls Tryz.prog 245 #[.agg #[.bool a.no,.string (bs a.name),v]] w fun e w'=>e=.returned (.int .i64 (aP a))∧Later w w':=by
 have HN:Hid (∀w,Calls Tryz.prog 113 #[.string (bs a.name)] w fun e w'=>e=.returned (.bool (isNamed a.name))∧Later w w'):=fun w=>En a.name w hk.1;have HV:=hide hv;have HK:=hide hk.2;have l0:=hv.1.1;obtain⟨a1,c1,rfl⟩:=Kind.slice hv;clear hv hk;obtain⟨no,n,x⟩:=a;unfold aP;dsimp only at*;generalize hn:isNamed n=q at*;clear hn;generalize bs n=s at*;have HB:Hid (∀w2,Later (w.alloc (.cells #[.bool no,.string s,.slice a1 x.length c1] 85)) w2→w2.cell? ⟨w.heap.size,2,none⟩=some (.slice a1 x.length c1)∧w.heap.size<w2.heap.size∧Later w w2):=fun w2 hL=>
  ⟨by rw[hL.cell (by simp)];simp,by have:=hL.size;simp at this;omega,((Later.refl w).alloc _).trans hL⟩
 cases q
 ·rw[if_pos rfl]
  go_enter Tryz.func245,Tryz.ntmps245
  go_wp2_with (go_at_call 113;refine(HN.out _).mono ?_;rintro e w2 ⟨rfl,hL⟩;replace hL:=hide hL)
  go_ret;exact⟨rfl,((Later.refl _).alloc _).trans (bL hL)⟩
 ·rw[if_neg (by simp)]
  by_cases h4:4<x.length
  ·rw[if_pos h4]
   go_enter Tryz.func245,Tryz.ntmps245
   go_wp2_with (go_at_call 113;refine(HN.out _).mono ?_;rintro e w2 ⟨rfl,hL⟩;obtain⟨z2,hz,HL⟩:=HB.out w2 hL;clear hL;replace HL:=hide HL)
   go_ret;exact⟨rfl,bL HL⟩
  ·rw[if_neg h4];generalize hRR:(if x.any bf=true then(7:Int) else 0)=R;have HR:=hide hRR;clear hRR
   go_enter Tryz.func245,Tryz.ntmps245
   go_wp2_with (go_at_call 113;refine(HN.out _).mono ?_;rintro e w2 ⟨rfl,hL⟩;obtain⟨z2,hz,HL⟩:=HB.out w2 hL;clear hL;replace HL:=hide HL)
   clear z2
   go_loopg [16] x.length (fun k i wr=>∃j:Nat,j+k=x.length∧i=.int .i64 j∧Hid (Later w wr)∧Hid (x.any bf=(x.drop j).any bf))
   case atStart=>exact⟨0,by omega,rfl,HL,(rfl:_=_)⟩
   case round=>
    obtain⟨j,hj,rfl,HLj,HF⟩:=hrel;clear HL HN
    by_cases hlt:j<x.length
    ·obtain⟨t,ht⟩:∃y,x[j]?=some y:=⟨_,List.getElem?_eq_getElem hlt⟩;obtain⟨b1,o1,_,rfl,hb1,rfl,hc⟩:=Kind.bQ HV.out ht;have d0:wr.cell? ⟨b1,o1+j*2,none⟩=some (.bool t.1):=by rw[HLj.out.cell hb1];exact hc 0 _ rfl
     have d1:wr.cell? ⟨b1,o1+j*2+1,none⟩=some (.string (bs t.2)):=by rw[HLj.out.cell hb1];exact hc 1 _ rfl
     have hbr:b1<wr.heap.size:=by have:=HLj.out.size;omega
     have hd:=DR ht bf;have hkt:t.2.length≤9223372036854775807:=HK.out t (List.mem_of_getElem? ht);have HNt:Hid (∀w,Calls Tryz.prog 113 #[.string (bs t.2)] w fun e w'=>e=.returned (.bool (isNamed t.2))∧Later w w'):=fun w=>En t.2 w hkt;have HVt:Hid (∀w,Calls Tryz.prog 261 #[.string (bs t.2)] w fun e w'=>e=.returned (.bool (isVar t.2))∧Later w w'):=fun w=>CY t.2 w hkt;obtain⟨tv,tn⟩:=t;dsimp only at*;have hwt:bf (tv,tn)=if tv then !isVar tn else !isNamed tn:=rfl;rw[hwt] at hd;clear hc ht hwt hkt;have HBt:Hid (∀w2,Later (wr.alloc (.cells #[.bool tv,.string (bs tn)] 187)) w2→w2.cell? ⟨wr.heap.size,0,none⟩=some (.bool tv)∧w2.cell? ⟨wr.heap.size,1,none⟩=some (.string (bs tn))∧wr.heap.size<w2.heap.size∧Later w w2):=fun w2 hL=>
      ⟨by rw[hL.cell (by simp)];simp,by rw[hL.cell (by simp)];simp,by have:=hL.size;simp at this;omega,(HLj.out.alloc _).trans hL⟩
     generalize isVar tn=iv at*;generalize isNamed tn=im at*;generalize bs tn=tb at*;cases tv
     ·cases im
      ·have F:Hid (x.any bf=true):=by show _=_;rw[HF.out,hd];rfl
       clear hd HF
       go_wp2_with (first
        |(go_at_call 113;refine(HNt.out _).mono ?_;rintro e w3 ⟨rfl,hL3⟩;obtain⟨y0,y1,yl,HL3⟩:=HBt.out w3 hL3;clear hL3;replace HL3:=hide HL3))
       go_ret;exact⟨by rw[←HR.out,F.out];rfl,bL HL3⟩
      ·have F:Hid (x.any bf=(x.drop (j+1)).any bf):=by show _=_;rw[HF.out,hd];rfl
       clear hd HF
       go_wp2_with (first
        |(go_at_call 113;refine(HNt.out _).mono ?_;rintro e w3 ⟨rfl,hL3⟩;obtain⟨y0,y1,yl,HL3⟩:=HBt.out w3 hL3;clear hL3;replace HL3:=hide HL3))
       go_roundg (x.length- (j+1))
       case measure=>omega
       case rel=>exact⟨j+1,by omega,by go_num,bL HL3,F⟩
     ·cases iv
      ·have F:Hid (x.any bf=true):=by show _=_;rw[HF.out,hd];rfl
       clear hd HF
       go_wp2_with (first
        |(go_at_call 261;refine(HVt.out _).mono ?_;rintro e w3 ⟨rfl,hL3⟩;obtain⟨y0,y1,yl,HL3⟩:=HBt.out w3 hL3;clear hL3;replace HL3:=hide HL3))
       go_ret;exact⟨by rw[←HR.out,F.out];rfl,bL HL3⟩
      ·have F:Hid (x.any bf=(x.drop (j+1)).any bf):=by show _=_;rw[HF.out,hd];rfl
       clear hd HF
       go_wp2_with (first
        |(go_at_call 261;refine(HVt.out _).mono ?_;rintro e w3 ⟨rfl,hL3⟩;obtain⟨y0,y1,yl,HL3⟩:=HBt.out w3 hL3;clear hL3;replace HL3:=hide HL3))
       go_roundg (x.length- (j+1))
       case measure=>omega
       case rel=>exact⟨j+1,by omega,by go_num,bL HL3,F⟩
    ·have F:Hid (x.any bf=false):=by show _=_;rw[HF.out,List.drop_eq_nil_of_le (by omega)];rfl
     go_wp2;go_ret;exact⟨by rw[←HR.out,F.out];rfl,HLj.out⟩
end Go.Proofs.YtafmbokfkbccaaaGreatDoor
namespace Go.Proofs.YtafmbokfkbccaaaGreatDoor
open Go.RowKit Go.Sort Go.Maps
def rz (w:World) (b n:Nat) (f:Bs→Bool):Prop:=∃D:DataW Unit,w.ownsMap Tryz.prog 9 (plainElem Tryz.prog 4) b n D∧∀s,D.atKey (.string s) (.lit (.bool false))=.lit (.bool (f s))
theorem rz.made (w:World):rz (w.alloc (.map #[] 0)) w.heap.size 0 (fun _=>false):=⟨.map [],World.ownsMap_made _ _ _ _,fun _=>rfl⟩
theorem rz.lt {w:World} {b n:Nat} {f:Bs→Bool} (h:rz w b n f):b<w.heap.size:=by obtain⟨D,h,_⟩:=h;exact h.lt
theorem rz.block {w w':World} {b n:Nat} {f:Bs→Bool} (h:rz w b n f) (e:w'.heap[b]?=w.heap[b]?):rz w' b n f:=by obtain⟨D,h,hf⟩:=h;exact⟨D,dP h e,hf⟩
theorem rz.later {w w':World} {b n:Nat} {f:Bs→Bool} (h:rz w b n f) (k:Later w w'):rz w' b n f:=h.block (k.block h.lt)
theorem rz.mono {w:World} {b n m:Nat} {f:Bs→Bool} (h:rz w b n f) (hn:n≤m):rz w b m f:=by obtain⟨D,h,hf⟩:=h;exact⟨D,h.mono hn,hf⟩
theorem rz.congr {w:World} {b n:Nat} {f g:Bs→Bool} (h:rz w b n f) (e:∀s,f s=g s):rz w b n g:=by obtain⟨D,h,hf⟩:=h;exact⟨D,h,fun s=>by rw[hf,e]⟩
set_option maxRecDepth 100000 in
theorem rz.look {w:World} {b n:Nat} {f:Bs→Bool} (h:rz w b n f) {s:Bs} (hs:s.length≤maxLen):(Instr.lookup 82 (.map (some b)) (.string (bs s)) false).run Tryz.prog w=.ok (.bool (f s)) w:=by
 obtain⟨D,hown,hf⟩:=h;obtain⟨v,ps,hrun,hv⟩:=hown.lookup (string_keyed Tryz.underlying9) Tryz.underlying82 (Eb w) (plainElem_bool Tryz.underlying4 false) (lQ Tryz.underlying9 hs);rw[hf s] at hv;obtain⟨x,rfl,hz⟩:=ku hv;simp only[Prod.mk.injEq] at hz;have hz:=hz.1
 injection hz with hz
 injection hz with hz
 rw[hrun,hz]
set_option maxRecDepth 100000 in
theorem rz.store {w:World} {b n:Nat} {f:Bs→Bool} (h:rz w b n f) (hn:n<maxLen) {s:Bs} (hs:s.length≤maxLen):
  ∃w',(Instr.mapUpdate 82 (.map (some b)) (.string (bs s)) (.bool true)).run Tryz.prog w=.ok () w'∧rz w' b (n+1) (fun t=>f t||decide (t=s))∧w.grownBy w' (some b):=by
 obtain⟨D,hown,hf⟩:=h;obtain⟨w',hrun,r1,r2⟩:=hown.update (string_keyed Tryz.underlying9) Tryz.underlying82 hn (lQ Tryz.underlying9 hs) (plainElem_bool Tryz.underlying4 true);refine⟨w',hrun,⟨_,r1,fun t=> ?_⟩,r2⟩
 by_cases e:t=s
 ·subst e;rw[atKey_put_same hown.isMap (Iu _)];simp
 ·rw[atKey_put_other (nI e),hf];simp[e]
set_option maxRecDepth 100000 in
set_option maxHeartbeats 2000000 in
theorem Rp (a:aI) (v:Value) (w:World) (hv:eH.sl bg w v a.terms) (hn:a.terms.length≤1099511627775) (hs:∀t∈a.terms,t.2.length≤maxLen):
  Calls Tryz.prog 293 #[.agg #[.bool a.no,.string (bs a.name),v]] w fun e w'=>∃u,e=.returned u∧jX.own 9 (w.heap.size+2) w' u (vars a)∧Below w.heap.size w w':=by
 obtain⟨sa,cap,rfl⟩:=Kind.slice hv;have HV:=hide hv;clear hv;obtain⟨no,name,ts⟩:=a;dsimp only at*;have HS:=hide hs;clear hs;have hmm:= @run_makeMap Tryz.prog;show Calls _ _ _ _ fun e w'=>∃u,e=.returned u∧jX.own 9 (w.heap.size+2) w' u (cu [] ts)∧_;generalize bs name=nm
 go_enter Tryz.func293,Tryz.ntmps293
 go_wp2
 go_loopg [3,11] ts.length (fun k o i wr=>∃j:Nat,j+k=ts.length∧i=.int .i64 j∧Hid (rz wr (w.heap.size+1) j (fun s=>(cu [] (ts.take j)).contains s))∧Hid (jX.own 9 (w.heap.size+2) wr o (cu [] (ts.take j)))∧Hid (Below w.heap.size w wr)∧w.heap.size+2≤wr.heap.size)
 case atStart=>
  refine⟨0,by omega,rfl,?_,jX.fF _ _ _,?_,by simp⟩
  ·have:=rz.made (w.alloc (.cells #[.bool no,.string nm,.slice sa ts.length cap] 85));rw[World.size_alloc] at this;exact this
  ·exact(((Later.refl w).alloc _).alloc _).below
 case round=>
  obtain⟨j,hj,rfl,HM,HO,HB,hsz⟩:=hrel;obtain⟨ao,co,rfl⟩:=Kind.aV HO.out
  by_cases hlt:j<ts.length
  ·obtain⟨x,hx⟩:∃x,ts[j]?=some x:=⟨_,List.getElem?_eq_getElem hlt⟩;obtain⟨b1,o1,_,rfl,hb1,rfl,hc⟩:=Kind.bQ HV.out hx;have d0:wr.cell? ⟨b1,o1+j*2,none⟩=some (.bool x.1):=by rw[HB.out.cell hb1];exact hc 0 _ rfl
   have d1:wr.cell? ⟨b1,o1+j*2+1,none⟩=some (.string (bs x.2)):=by rw[HB.out.cell hb1];exact hc 1 _ rfl
   have hxs:x.2.length≤maxLen:=HS.out x (List.mem_of_getElem? hx);have E:=hide (uj hx);have hlen:(cu [] (ts.take j)).length≤j:=by have:=kR (ts.take j) [];simp at this;omega
   clear hc hx;have hbr:b1<wr.heap.size:=by omega
   obtain⟨x1,x2⟩:=x;dsimp only at*;generalize hg:cu [] (ts.take j)=g at*;clear hg;cases x1
   ·have E1:Hid (cu [] (ts.take (j+1))=g):=E.out;clear E;generalize bs x2=kx at*;go_wp2
    go_roundg (ts.length- (j+1))
    case measure=>omega
    case rel=>
     refine⟨j+1,by omega,by go_num,?_,?_,?_,by simp;omega⟩
     ·show rz _ _ _ _;rw[E1.out];exact(HM.out.later ((Later.refl _).alloc _)).mono (by omega)
     ·show jX.own _ _ _ _ _;rw[E1.out];exact Kind.dL HO.out ((Tn.refl 0 _).alloc _) (by omega)
     ·exact HB.out.alloc HB.out.size _
   ·have E1:Hid (cu [] (ts.take (j+1))=eY g x2):=E.out;clear E;have hMA:=HM.out.later ((Later.refl wr).alloc (.cells #[.bool true,.string (bs x2)] 187));have hlk:=hMA.look hxs;cases hcx:g.contains x2
    ·have E2:Hid (cu [] (ts.take (j+1))=g++[x2]):=by show _=_;rw[E1.out];unfold eY;rw[hcx];rfl
     obtain⟨w3,hup,hM3,hg3⟩:=hMA.store (by simp[maxLen];omega) hxs;have hs3:=hg3.size;simp only[World.size_alloc] at hs3;have hO3:=Kind.dL (Kind.dL HO.out ((Tn.refl (w.heap.size+1) wr).alloc (.cells #[.bool true,.string (bs x2)] 187)) (by omega)) (Tn.gG hg3) (by omega);have hB3:Below w.heap.size w w3:=aj (HB.out.alloc HB.out.size _) ((Tn.gG hg3).below (n:=w.heap.size) (by omega) (by simp;omega)) (Nat.le_refl _);have z3:w3.cell? ⟨wr.heap.size,1,none⟩=some (.string (bs x2)):=by rw[(Tn.gG hg3).cell (by simp) (by show wr.heap.size≠_;omega)];simp
     obtain⟨v',w4,hrun,o4,g4⟩:=qN hO3 (x:=x2) (by omega) (by omega);have hs4:=g4.size;simp only[World.size_alloc] at hs4;have HN4:Hid (rz w4 (w.heap.size+1) (j+1) (fun s=>(cu [] (ts.take (j+1))).contains s)):=by
      show rz _ _ _ _;rw[E2.out];refine(hM3.congr fun s=> ?_).block ?_
      ·rw[Bool.eq_iff_iff];simp
      ·rw[g4.block _ (by simp;omega) (fun e=>by have:=(Kind.bN hO3 e.symm).1;omega),Below.heap_alloc _ _ _ (by omega)]
     have HO4:Hid (jX.own 9 (w.heap.size+2) w4 v' (cu [] (ts.take (j+1)))):=by show jX.own _ _ _ _ _;rw[E2.out];exact o4
     have HB4:Hid (Below w.heap.size w w4):=by
      refine aj (hB3.alloc hB3.size _) ⟨g4.os,g4.tape,g4.output,g4.size,fun k hk=>g4.block k (by simp;omega) (fun e=> ?_)⟩ (Nat.le_refl _);have:=(Kind.bN hO3 e.symm).1;omega
     have h4s:w.heap.size+2≤w4.heap.size:=by omega
     have hR3:wr.heap.size<w3.heap.size:=by omega
     rw[hcx] at hlk
     replace hup:=hide hup
     replace hrun:=hide hrun
     clear E1 E2 HM HO HB hxs hcx hMA hM3 hg3 hO3 hB3 o4 g4;generalize bs x2=kx at*
     go_wp2_with (first
      |(at_mapUpdate;refine aN _ rfl _ _ _ _ rfl _ _ _ _ rfl rfl rfl (bL hup) ?_)
      |(at_builtin;refine wpList_append_run rfl (.tmp 27) (.tmp 30) 25 rfl _ _ _ _ rfl rfl (bL hrun) ?_)
      |go_in)
     go_roundg (ts.length- (j+1))
     case measure=>omega
     case rel=>exact⟨j+1,by omega,by go_num,HN4,HO4,HB4,h4s⟩
    ·have E2:Hid (cu [] (ts.take (j+1))=g):=by show _=_;rw[E1.out];unfold eY;rw[hcx];rfl
     rw[hcx] at hlk;clear E1 hxs hcx hMA;generalize bs x2=kx at*;go_wp2
     go_roundg (ts.length- (j+1))
     case measure=>omega
     case rel=>
      refine⟨j+1,by omega,by go_num,?_,?_,?_,by simp;omega⟩
      ·show rz _ _ _ _;rw[E2.out];exact(HM.out.later ((Later.refl _).alloc _)).mono (by omega)
      ·show jX.own _ _ _ _ _;rw[E2.out];exact Kind.dL HO.out ((Tn.refl 0 _).alloc _) (by omega)
      ·exact HB.out.alloc HB.out.size _
  ·have e:j=ts.length:=by omega
   subst e;have HO2:Hid (jX.own 9 (w.heap.size+2) wr (.slice ao (cu [] (ts.take ts.length)).length co) (cu [] ts)):=by have:=HO.out;rw[List.take_length] at this⊢;exact this
   go_wp2;go_ret;exact⟨_,rfl,HO2.out,HB.out⟩
end Go.Proofs.YtafmbokfkbccaaaGreatDoor
namespace Go.Proofs.YtafmbokfkbccaaaGreatDoor
open Go.RowKit Go.Sort Go.Maps
def SH (a:aI):Prop:=a.terms.length≤1099511627775∧∀t∈a.terms,t.2.length≤maxLen
theorem M9 (a b:Bs):((bs a).toList==(bs b).toList)=decide (a=b):=by
 rw[Bool.eq_iff_iff,beq_iff_eq,decide_eq_true_iff];exact⟨fun h=>nD (toList_inj h),fun h=>by rw[h]⟩
theorem F7 (a:aI) (s:Bs) (b:Bool) (t:Nat) {u:Bs} (h:(vars a)[t]?=some u):(b||(!a.no&&((vars a).take (t+1)).contains s))=((b||(!a.no&&((vars a).take t).contains s))||(!a.no&&decide (u=s))):=by
 rw[List.take_add_one,h];rw[Bool.eq_iff_iff];simp
 constructor
 ·rintro(h|⟨h1,h|h⟩)
  ·exact Or.inl (Or.inl h)
  ·exact Or.inl (Or.inr ⟨h1,h⟩)
  ·exact Or.inr ⟨h1,h.symm⟩
 ·rintro((h|⟨h1,h⟩)|⟨h1,h⟩)
  ·exact Or.inl h
  ·exact Or.inr ⟨h1,Or.inl h⟩
  ·exact Or.inr ⟨h1,Or.inr h.symm⟩
set_option maxRecDepth 100000 in
set_option maxHeartbeats 4000000 in
theorem Na (a:aI) (va:Value) (l:List aI) (v:Value) (w:World) (hva:eH.sl bg w va a.terms) (hka:SH a) (hv:bP.sl bg w v l) (hk:∀b∈l,SH b):
  Calls Tryz.prog 246 #[.agg #[.bool a.no,.string (bs a.name),va],v] w fun e w'=>e=.returned (.bool ((vars a).all (givenBy l)))∧Below w.heap.size w w':=by
 have HVr:=hide (Rp a va (w.alloc (.cells #[.bool a.no,.string (bs a.name),va] 85)) (Kind.aJ hva ((Later.refl w).alloc _)) hka.1 hka.2);have HV:=hide hv;have HK:=hide hk;have hl0:=hv.1.1;obtain⟨sa,cap,rfl⟩:=Kind.slice hv;obtain⟨ta,tc,rfl⟩:=Kind.slice hva;have hvl:=qO a;have aaj:=hka.1;clear hv hk hva hka;generalize hvs:vars a=vs at*;clear hvs;generalize bs a.name=nm at*;generalize a.no=no at*
 go_enter Tryz.func246,Tryz.ntmps246
 go_wp2_with fail
 refine HVr.out.mono ?_;rintro e w1 ⟨u1,rfl,hO1,hB1⟩;have hs1:=hB1.size;simp only[World.size_alloc] at hs1;have HW1:=hide (aj ((Later.refl w).alloc (.cells #[.bool no,.string nm,.slice ta a.terms.length tc] 85)).below hB1 (by simp));have HU:=hide (Kind.dQ (Kind.fA hO1 (by omega)));obtain⟨ua,uc,rfl⟩:=Kind.aV hO1;clear hO1 hB1 HVr;go_wp2
 go_loopg [15] vs.length (fun k i wr=>∃j:Nat,j+k=vs.length∧i=.int .i64 j∧Hid (Below w1.heap.size w1 wr)∧Hid (vs.all (givenBy l)=(vs.drop j).all (givenBy l)))
 case atStart=>exact⟨0,by omega,rfl,Below.refl _ _,(rfl:_=_)⟩
 case round=>
  obtain⟨j,hj,rfl,HB,HF⟩:=hrel
  by_cases hlt:j<vs.length
  ·obtain⟨x,hx⟩:∃x,vs[j]?=some x:=⟨_,List.getElem?_eq_getElem hlt⟩;obtain⟨b1,o1,_,rfl,hb1,rfl,hc⟩:=Kind.bQ (Kind.aF HU.out HB.out) hx;have d0:wr.cell? ⟨b1,o1+j,none⟩=some (.string (bs x)):=by simpa[jX] using hc 0 _ rfl
   have hd:=yX hx (givenBy l);have HG0:Hid (givenBy (l.take 0) x=false):=by show _=_;simp[givenBy]
   clear hc hx;generalize hbx:bs x=bx at*;have HBX:=hide hbx;clear hbx;go_wp2
   go_loopg [7,21] l.length (fun k s7 i wr2=>∃q:Nat,q+k=l.length∧i=.int .i64 q∧s7=.bool (givenBy (l.take q) x)∧Hid (Below w1.heap.size w1 wr2))
   case atStart=>exact⟨0,by omega,rfl,by rw[HG0.out],HB⟩
   case round=>
    obtain⟨q,hq,rfl,rfl,HBq⟩:=hrel;clear HB d0
    by_cases hlq:q<l.length
    ·obtain⟨b,hb⟩:∃x,l[q]?=some x:=⟨_,List.getElem?_eq_getElem hlq⟩;obtain⟨b2,o2,_,rfl,hb2,⟨tv,rfl,htv⟩,hcl⟩:=Kind.bQ HV.out hb;have hWq:Below w.heap.size w wr:=aj HW1.out HBq.out (by omega);have d0:wr.cell? ⟨b2,o2+q*3,none⟩=some (.bool b.no):=by rw[hWq.cell hb2];exact hcl 0 _ rfl
     have d1:wr.cell? ⟨b2,o2+q*3+1,none⟩=some (.string (bs b.name)):=by rw[hWq.cell hb2];exact hcl 1 _ rfl
     have d2:wr.cell? ⟨b2,o2+q*3+2,none⟩=some tv:=by rw[hWq.cell hb2];exact hcl 2 _ rfl
     have hbr:b2<wr.heap.size:=by have:=hWq.size;omega
     have hkb:=HK.out b (List.mem_of_getElem? hb);have HVb:=hide (Rp b tv (wr.alloc (.cells #[.bool b.no,.string (bs b.name),tv] 85)) (Kind.aF htv (hWq.alloc hWq.size _)) hkb.1 hkb.2);have HG:=hide (rG hb x);have hvb:=qO b;have aak:=hkb.1;have HP:Hid (∀(c:Bool) (t:Nat) (u:Bs),(vars b)[t]?=some u→(c||(!b.no&&((vars b).take (t+1)).contains x))=((c||(!b.no&&((vars b).take t).contains x))||(!b.no&&decide (u=x)))):=fun c t u h=>F7 b x c t h;obtain⟨t2,c2,rfl⟩:=Kind.slice htv;clear hcl hb htv hkb hWq;generalize hv2:vars b=vb at*;clear hv2;generalize bs b.name=nb at*;generalize b.no=bn at*;generalize givenBy (l.take q) x=c0 at*
     go_wp2_with fail
     refine HVb.out.mono ?_;rintro e w3 ⟨u3,rfl,hO3,hB3⟩;have hs3:=hB3.size;simp only[World.size_alloc] at hs3;have hq1:=HBq.out.size;have HZ:Hid (∀w',Below w3.heap.size w3 w'→w'.cell? ⟨wr.heap.size,0,none⟩=some (.bool bn)∧wr.heap.size<w'.heap.size∧Below w1.heap.size w1 w'):=fun w' k=>by
      refine⟨?_,by have:=k.size;omega,aj (aj (HBq.out.alloc hq1 _) hB3 (by simp;omega)) k (by omega)⟩;rw[k.cell (by show wr.heap.size<_;omega),hB3.cell (by simp)];simp
     have HU3:=hide (Kind.dQ (Kind.fA hO3 (by omega)));obtain⟨u4,c4,rfl⟩:=Kind.aV hO3;clear hO3 hB3 HVb d0 d1 d2;go_wp2
     go_loopg [7,28] vb.length (fun k s7 i wr3=>∃t:Nat,t+k=vb.length∧i=.int .i64 t∧s7=.bool (c0||(!bn&&(vb.take t).contains x))∧Hid (Below w3.heap.size w3 wr3))
     case atStart=>exact⟨0,by omega,rfl,by simp,Below.refl _ _⟩
     case round=>
      obtain⟨t,ht,rfl,rfl,HBt⟩:=hrel
      by_cases hlt3:t<vb.length
      ·obtain⟨u,hu⟩:∃x,vb[t]?=some x:=⟨_,List.getElem?_eq_getElem hlt3⟩;obtain⟨b5,o5,_,rfl,hb5,rfl,hc5⟩:=Kind.bQ (Kind.aF HU3.out HBt.out) hu;have f0:wr.cell? ⟨b5,o5+t,none⟩=some (.string (bs u)):=by simpa[jX] using hc5 0 _ rfl
       obtain⟨z0,zl,_⟩:=HZ.out wr HBt.out;have hE:=HP.out c0 t u hu;have hEq:((bs u).toList==bx.toList)=decide (u=x):=by rw[←HBX.out];exact M9 u x
       generalize decide (u=x)=du at*;generalize(c0||(!bn&&(vb.take t).contains x))=cv at*;have HE:=hide hE;clear hc5 hu hE;generalize bs u=bu at*;cases cv
       ·cases bn
        ·cases du
         all_goals
          go_wp2
          go_roundg (vb.length- (t+1))
          case measure=>omega
          case rel=>exact⟨t+1,by omega,by go_num,by rw[HE.out];rfl,HBt⟩
        ·go_wp2
         go_roundg (vb.length- (t+1))
         case measure=>omega
         case rel=>exact⟨t+1,by omega,by go_num,by rw[HE.out];rfl,HBt⟩
       ·go_wp2
        go_roundg (vb.length- (t+1))
        case measure=>omega
        case rel=>exact⟨t+1,by omega,by go_num,by rw[HE.out];rfl,HBt⟩
      ·have e:t=vb.length:=by omega
       subst e;have HB2:=hide (HZ.out wr HBt.out).2.2;go_wp2
       go_roundg (l.length- (q+1))
       case measure=>omega
       case rel=>exact⟨q+1,by omega,by go_num,by rw[HG.out,List.take_length],HB2⟩
    ·have e:q=l.length:=by omega
     subst e;rw[List.take_length];cases hgx:givenBy l x
     ·have F:Hid (vs.all (givenBy l)=false):=by show _=_;rw[HF.out,hd,hgx];rfl
      clear hd HF hgx;go_wp2;go_ret;exact⟨bW F.out.symm,aj HW1.out HBq.out (by omega)⟩
     ·have F:Hid (vs.all (givenBy l)=(vs.drop (j+1)).all (givenBy l)):=by show _=_;rw[HF.out,hd,hgx];rfl
      clear hd HF hgx;go_wp2
      go_roundg (vs.length- (j+1))
      case measure=>omega
      case rel=>exact⟨j+1,by omega,by go_num,HBq,F⟩
  ·have F:Hid (vs.all (givenBy l)=true):=by show _=_;rw[HF.out,List.drop_eq_nil_of_le (by omega)];rfl
   go_wp2;go_ret;exact⟨bW F.out.symm,aj HW1.out HB.out (by omega)⟩
end Go.Proofs.YtafmbokfkbccaaaGreatDoor
