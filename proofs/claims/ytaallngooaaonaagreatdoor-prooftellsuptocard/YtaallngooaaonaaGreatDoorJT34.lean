import Derived.Test.YtaallngooaaonaaGreatDoorJT33
import Derived.Test.YtaallngooaaonaaGreatDoorJT11
import Derived.Test.YtaallngooaaonaaGreatDoorJT12
import Derived.Test.YtaallngooaaonaaGreatDoorJT28
open Go.RowKit Go.Sort Go.Maps
set_option maxHeartbeats 4000000
set_option maxRecDepth 100000
namespace Go.Proofs.YtaallngooaaonaaGreatDoor
theorem Ea (s:ByteArray):rW s=(decide (0<s.size∧s.size≤12)&&(raw s).all gJ):=by unfold rW;rw[Bool.and_comm];rfl
theorem LD {s:ByteArray} (h:rW s=false):isVar (raw s)=false:=by
 rw[Ea] at h;unfold isVar;rw[bZ];cases hr:raw s with
 |nil=>simp
 |cons c t=>
  have hl:=bZ s;rw[hr] at hl h;simp at hl
  by_cases h12:s.size≤12
  ·rw[decide_eq_true ⟨by omega,h12⟩,Bool.true_and] at h;rw[h];simp
  rw[decide_eq_false h12];rfl
theorem Jm {s:ByteArray} (h:rW s=true):∃h0:0<s.size,isVar (raw s)=lX s[0].toNat:=by rw[Ea,Bool.and_eq_true,decide_eq_true_iff] at h;obtain⟨⟨h0,h12⟩,ha⟩:=h;refine⟨h0,?_⟩;rw[Dx h0 h12,jJ,←bZ s,kR,ha,Bool.and_true]
theorem Jo (s:ByteArray) (w:World) (hs:s.size≤9223372036854775807):Calls Tryz.prog 130 #[.string s] w fun e w'=>e=.returned (.bool (isVar (raw s)))∧ak w w':=by
 cases hw:rW s
 ·have hn:=LD hw;rw[hn]
  go_enter Tryz.func130,Tryz.ntmps130
  go_wp2_with (go_at_call 75;refine(Jk _ _ hs).mono ?_;rintro e w1 ⟨rfl,hL⟩;rw[hw])
  go_ret;exact⟨rfl,hL⟩
 obtain⟨h0,hn⟩:=Jm hw;have h0z:(0:Int)<(s.size:Int):=by omega
 generalize hc:(s[0]'h0).toNat=c at hn;have HN:=au hn;clear hn
 by_cases ha:(65:Int)≤c
 ·go_enter Tryz.func130,Tryz.ntmps130
  go_wp2_with (go_at_call 75;refine(Jk _ _ hs).mono ?_;rintro e w1 ⟨rfl,hL⟩;rw[hw])
  go_ret;refine⟨bU ?_,by assumption⟩;rw[HN.out];unfold lX;rw[Bool.eq_iff_iff];simp;omega
 go_enter Tryz.func130,Tryz.ntmps130
 go_wp2_with (go_at_call 75;refine(Jk _ _ hs).mono ?_;rintro e w1 ⟨rfl,hL⟩;rw[hw])
 go_ret;refine⟨bU ?_,by assumption⟩;rw[HN.out];unfold lX;rw[Bool.eq_iff_iff];simp;omega
def Q7 (t:dK):Prop:=t.2.length≤9223372036854775807
def CG (a:aI):Prop:=a.name.length≤9223372036854775807∧∀t∈a.terms,Q7 t
theorem Eb (l:Bs) (w:World) (h:l.length≤9223372036854775807):Calls Tryz.prog 47 #[.string (bs l)] w fun e w'=>e=.returned (.bool (isNamed l))∧ak w w':=by have:=xS (bs l) w (by rw[jJ];exact h);rw[lY,jI] at this;exact this
theorem CJ (l:Bs) (w:World) (h:l.length≤9223372036854775807):Calls Tryz.prog 130 #[.string (bs l)] w fun e w'=>e=.returned (.bool (isVar l))∧ak w w':=by have:=Jo (bs l) w (by rw[jJ];exact h);rw[jI] at this;exact this
theorem xU (a:aI) (v:Value) (w:World) (hv:eD.sl bf w v a.terms) (hk:CG a):
  Calls Tryz.prog 100 #[.agg #[.bool a.no,.string (bs a.name),v]] w fun e w'=>e=.returned (.int .i64 (aP a))∧ak w w':=by
 have HN:Hid (∀w,Calls Tryz.prog 47 #[.string (bs a.name)] w fun e w'=>e=.returned (.bool (isNamed a.name))∧ak w w'):=fun w=>Eb a.name w hk.1;have HV:=au hv;have HK:=au hk.2;have l0:=hv.1.1;obtain⟨a1,c1,rfl⟩:=aB.slice hv;clear hv hk;obtain⟨no,n,x⟩:=a;unfold aP;dsimp only at*;generalize hn:isNamed n=q at*;clear hn;generalize bs n=s at*;have HB:Hid (∀w2,ak (w.alloc (.cells #[.bool no,.string s,.slice a1 x.length c1] 79)) w2→w2.cell? ⟨w.heap.size,2,none⟩=some (.slice a1 x.length c1)∧w.heap.size<w2.heap.size∧ak w w2):=fun w2 hL=>
  ⟨by rw[hL.cell (by simp)];simp,by have:=hL.size;simp at this;omega,((ak.refl w).alloc _).trans hL⟩
 cases q
 ·rw[if_pos rfl]
  go_enter Tryz.func100,Tryz.ntmps100
  go_wp2_with (go_at_call 47;refine(HN.out _).mono ?_;rintro e w2 ⟨rfl,hL⟩;replace hL:=au hL)
  go_ret;exact⟨rfl,((ak.refl _).alloc _).trans (bK hL)⟩
 rw[if_neg (by simp)]
 by_cases h4:4<x.length
 ·rw[if_pos h4]
  go_enter Tryz.func100,Tryz.ntmps100
  go_wp2_with (go_at_call 47;refine(HN.out _).mono ?_;rintro e w2 ⟨rfl,hL⟩;obtain⟨z2,hz,HL⟩:=HB.out w2 hL;clear hL;replace HL:=au HL)
  go_ret;exact⟨rfl,bK HL⟩
 rw[if_neg h4];generalize hRR:(if x.any aZ=true then(7:Int) else 0)=R;have HR:=au hRR;clear hRR
 go_enter Tryz.func100,Tryz.ntmps100
 go_wp2_with (go_at_call 47;refine(HN.out _).mono ?_;rintro e w2 ⟨rfl,hL⟩;obtain⟨z2,hz,HL⟩:=HB.out w2 hL;clear hL;replace HL:=au HL)
 clear z2
 go_loopg [16] x.length (fun k i wr=>∃j:Nat,j+k=x.length∧i=.int .i64 j∧Hid (ak w wr)∧Hid (x.any aZ=(x.drop j).any aZ))
 case atStart=>exact⟨0,by omega,rfl,HL,(rfl:_=_)⟩
 obtain⟨j,hj,rfl,HLj,HF⟩:=hrel;clear HL HN
 by_cases hlt:j<x.length
 ·obtain⟨t,ht⟩:∃y,x[j]?=some y:=⟨_,List.getElem?_eq_getElem hlt⟩;obtain⟨b1,o1,_,rfl,hb1,rfl,hc⟩:=aB.bO HV.out ht;have d0:wr.cell? ⟨b1,o1+j*2,none⟩=some (.bool t.1):=by rw[HLj.out.cell hb1];exact hc 0 _ rfl
  have d1:wr.cell? ⟨b1,o1+j*2+1,none⟩=some (.string (bs t.2)):=by rw[HLj.out.cell hb1];exact hc 1 _ rfl
  have hbr:b1<wr.heap.size:=by have:=HLj.out.size;omega
  have hd:=Dy ht aZ;have hkt:t.2.length≤9223372036854775807:=HK.out t (List.mem_of_getElem? ht);have HNt:Hid (∀w,Calls Tryz.prog 47 #[.string (bs t.2)] w fun e w'=>e=.returned (.bool (isNamed t.2))∧ak w w'):=fun w=>Eb t.2 w hkt;have HVt:Hid (∀w,Calls Tryz.prog 130 #[.string (bs t.2)] w fun e w'=>e=.returned (.bool (isVar t.2))∧ak w w'):=fun w=>CJ t.2 w hkt;obtain⟨tv,tn⟩:=t;dsimp only at*;have hwt:aZ (tv,tn)=if tv then !isVar tn else !isNamed tn:=rfl;rw[hwt] at hd;clear hc ht hwt hkt;have HBt:Hid (∀w2,ak (wr.alloc (.cells #[.bool tv,.string (bs tn)] 101)) w2→w2.cell? ⟨wr.heap.size,0,none⟩=some (.bool tv)∧w2.cell? ⟨wr.heap.size,1,none⟩=some (.string (bs tn))∧wr.heap.size<w2.heap.size∧ak w w2):=fun w2 hL=>
   ⟨by rw[hL.cell (by simp)];simp,by rw[hL.cell (by simp)];simp,by have:=hL.size;simp at this;omega,(HLj.out.alloc _).trans hL⟩
  generalize isVar tn=iv at*;generalize isNamed tn=im at*;generalize bs tn=tb at*;cases tv
  ·cases im
   ·have F:Hid (x.any aZ=true):=by show _=_;rw[HF.out,hd];rfl
    clear hd HF
    go_wp2_with (first
     |(go_at_call 47;refine(HNt.out _).mono ?_;rintro e w3 ⟨rfl,hL3⟩;obtain⟨y0,y1,yl,HL3⟩:=HBt.out w3 hL3;clear hL3;replace HL3:=au HL3))
    go_ret;exact⟨by rw[←HR.out,F.out];rfl,bK HL3⟩
   have F:Hid (x.any aZ=(x.drop (j+1)).any aZ):=by show _=_;rw[HF.out,hd];rfl
   clear hd HF
   go_wp2_with (first
    |(go_at_call 47;refine(HNt.out _).mono ?_;rintro e w3 ⟨rfl,hL3⟩;obtain⟨y0,y1,yl,HL3⟩:=HBt.out w3 hL3;clear hL3;replace HL3:=au HL3))
   go_roundg (x.length- (j+1))
   case measure=>omega
   case rel=>exact⟨j+1,by omega,by go_num,bK HL3,F⟩
  cases iv
  ·have F:Hid (x.any aZ=true):=by show _=_;rw[HF.out,hd];rfl
   clear hd HF
   go_wp2_with (first
    |(go_at_call 130;refine(HVt.out _).mono ?_;rintro e w3 ⟨rfl,hL3⟩;obtain⟨y0,y1,yl,HL3⟩:=HBt.out w3 hL3;clear hL3;replace HL3:=au HL3))
   go_ret;exact⟨by rw[←HR.out,F.out];rfl,bK HL3⟩
  have F:Hid (x.any aZ=(x.drop (j+1)).any aZ):=by show _=_;rw[HF.out,hd];rfl
  clear hd HF
  go_wp2_with (first
   |(go_at_call 130;refine(HVt.out _).mono ?_;rintro e w3 ⟨rfl,hL3⟩;obtain⟨y0,y1,yl,HL3⟩:=HBt.out w3 hL3;clear hL3;replace HL3:=au HL3))
  go_roundg (x.length- (j+1))
  case measure=>omega
  case rel=>exact⟨j+1,by omega,by go_num,bK HL3,F⟩
 have F:Hid (x.any aZ=false):=by show _=_;rw[HF.out,List.drop_eq_nil_of_le (by omega)];rfl
 go_wp2;go_ret;exact⟨by rw[←HR.out,F.out];rfl,HLj.out⟩
def qV (w:World) (b n:Nat) (f:Bs→Bool):Prop:=∃D:DataW Unit,w.ownsMap Tryz.prog 9 (plainElem Tryz.prog 4) b n D∧∀s,D.atKey (.string s) (.lit (.bool false))=.lit (.bool (f s))
theorem qV.made (w:World):qV (w.alloc (.map #[] 0)) w.heap.size 0 (fun _=>false):=⟨.map [],World.ownsMap_made _ _ _ _,fun _=>rfl⟩
theorem qV.lt {w:World} {b n:Nat} {f:Bs→Bool} (h:qV w b n f):b<w.heap.size:=by obtain⟨D,h,_⟩:=h;exact h.lt
theorem qV.block {w w':World} {b n:Nat} {f:Bs→Bool} (h:qV w b n f) (e:w'.heap[b]?=w.heap[b]?):qV w' b n f:=by obtain⟨D,h,hf⟩:=h;exact⟨D,dN h e,hf⟩
theorem qV.later {w w':World} {b n:Nat} {f:Bs→Bool} (h:qV w b n f) (k:ak w w'):qV w' b n f:=h.block (k.block h.lt)
theorem qV.mono {w:World} {b n m:Nat} {f:Bs→Bool} (h:qV w b n f) (hn:n≤m):qV w b m f:=by obtain⟨D,h,hf⟩:=h;exact⟨D,h.mono hn,hf⟩
theorem qV.congr {w:World} {b n:Nat} {f g:Bs→Bool} (h:qV w b n f) (e:∀s,f s=g s):qV w b n g:=by obtain⟨D,h,hf⟩:=h;exact⟨D,h,fun s=>by rw[hf,e]⟩
theorem qV.look {w:World} {b n:Nat} {f:Bs→Bool} (h:qV w b n f) {s:Bs} (hs:s.length≤maxLen):(Instr.lookup 204 (.map (some b)) (.string (bs s)) false).run Tryz.prog w=.ok (.bool (f s)) w:=by
 obtain⟨D,hown,hf⟩:=h;obtain⟨v,ps,hrun,hv⟩:=hown.lookup (string_keyed Tryz.underlying9) Tryz.underlying204 (DX w) (plainElem_bool Tryz.underlying4 false) (lH Tryz.underlying9 hs);rw[hf s] at hv;obtain⟨x,rfl,hz⟩:=j6 hv;simp only[Prod.mk.injEq] at hz;have hz:=hz.1
 injection hz with hz
 injection hz with hz
 rw[hrun,hz]
theorem qV.store {w:World} {b n:Nat} {f:Bs→Bool} (h:qV w b n f) (hn:n<maxLen) {s:Bs} (hs:s.length≤maxLen):
  ∃w',(Instr.mapUpdate 204 (.map (some b)) (.string (bs s)) (.bool true)).run Tryz.prog w=.ok () w'∧qV w' b (n+1) (fun t=>f t||decide (t=s))∧w.grownBy w' (some b):=by
 obtain⟨D,hown,hf⟩:=h;obtain⟨w',hrun,r1,r2⟩:=hown.update (string_keyed Tryz.underlying9) Tryz.underlying204 hn (lH Tryz.underlying9 hs) (plainElem_bool Tryz.underlying4 true);refine⟨w',hrun,⟨_,r1,fun t=>?_⟩,r2⟩
 by_cases e:t=s
 ·subst e;rw[atKey_put_same hown.isMap (Ic _)];simp
 rw[atKey_put_other (nA e),hf];simp[e]
theorem Q8 (a:aI) (v:Value) (w:World) (hv:eD.sl bf w v a.terms) (hn:a.terms.length≤1099511627775) (hs:∀t∈a.terms,t.2.length≤maxLen):
  Calls Tryz.prog 131 #[.agg #[.bool a.no,.string (bs a.name),v]] w fun e w'=>∃u,e=.returned u∧jS.own 9 (w.heap.size+2) w' u (vars a)∧Below w.heap.size w w':=by
 obtain⟨sa,cap,rfl⟩:=aB.slice hv;have HV:=au hv;clear hv;obtain⟨no,name,ts⟩:=a;dsimp only at*;have HS:=au hs;clear hs;have hmm:= @run_makeMap Tryz.prog;show Calls _ _ _ _ fun e w'=>∃u,e=.returned u∧jS.own 9 (w.heap.size+2) w' u (bY [] ts)∧_;generalize bs name=nm
 go_enter Tryz.func131,Tryz.ntmps131
 go_wp2
 go_loopg [3,11] ts.length (fun k o i wr=>∃j:Nat,j+k=ts.length∧i=.int .i64 j∧Hid (qV wr (w.heap.size+1) j (fun s=>(bY [] (ts.take j)).contains s))∧Hid (jS.own 9 (w.heap.size+2) wr o (bY [] (ts.take j)))∧Hid (Below w.heap.size w wr)∧w.heap.size+2≤wr.heap.size)
 case atStart=>
  refine⟨0,by omega,rfl,?_,jS.fD _ _ _,?_,by simp⟩;·have:=qV.made (w.alloc (.cells #[.bool no,.string nm,.slice sa ts.length cap] 79));rw[World.size_alloc] at this;exact this
  exact(((ak.refl w).alloc _).alloc _).below
 obtain⟨j,hj,rfl,HM,HO,HB,hsz⟩:=hrel;obtain⟨ao,co,rfl⟩:=aB.aY HO.out
 by_cases hlt:j<ts.length
 ·obtain⟨x,hx⟩:∃x,ts[j]?=some x:=⟨_,List.getElem?_eq_getElem hlt⟩;obtain⟨b1,o1,_,rfl,hb1,rfl,hc⟩:=aB.bO HV.out hx;have d0:wr.cell? ⟨b1,o1+j*2,none⟩=some (.bool x.1):=by rw[HB.out.cell hb1];exact hc 0 _ rfl
  have d1:wr.cell? ⟨b1,o1+j*2+1,none⟩=some (.string (bs x.2)):=by rw[HB.out.cell hb1];exact hc 1 _ rfl
  have hxs:x.2.length≤maxLen:=HS.out x (List.mem_of_getElem? hx);have E:=au (tX hx);have hlen:(bY [] (ts.take j)).length≤j:=by have:=kM (ts.take j) [];simp at this;omega
  clear hc hx;have hbr:b1<wr.heap.size:=by omega
  obtain⟨x1,x2⟩:=x;dsimp only at*;generalize hg:bY [] (ts.take j)=g at*;clear hg;cases x1
  ·have E1:Hid (bY [] (ts.take (j+1))=g):=E.out;clear E;generalize bs x2=kx at*;go_wp2
   go_roundg (ts.length- (j+1))
   case measure=>omega
   case rel=>
    refine⟨j+1,by omega,by go_num,?_,?_,?_,by simp;omega⟩
    ·show qV _ _ _ _;rw[E1.out];exact(HM.out.later ((ak.refl _).alloc _)).mono (by omega)
    ·show jS.own _ _ _ _ _;rw[E1.out];exact aB.dI HO.out ((Tn.refl 0 _).alloc _) (by omega)
    exact HB.out.alloc HB.out.size _
  have E1:Hid (bY [] (ts.take (j+1))=eU g x2):=E.out;clear E;have hMA:=HM.out.later ((ak.refl wr).alloc (.cells #[.bool true,.string (bs x2)] 101));have hlk:=hMA.look hxs;cases hcx:g.contains x2
  ·have E2:Hid (bY [] (ts.take (j+1))=g++[x2]):=by show _=_;rw[E1.out];unfold eU;rw[hcx];rfl
   obtain⟨w3,hup,hM3,hg3⟩:=hMA.store (by simp[maxLen];omega) hxs;have hs3:=hg3.size;simp only[World.size_alloc] at hs3;have hO3:=aB.dI (aB.dI HO.out ((Tn.refl (w.heap.size+1) wr).alloc (.cells #[.bool true,.string (bs x2)] 101)) (by omega)) (Tn.gD hg3) (by omega);have hB3:Below w.heap.size w w3:=aj (HB.out.alloc HB.out.size _) ((Tn.gD hg3).below (n:=w.heap.size) (by omega) (by simp;omega)) (Nat.le_refl _);have z3:w3.cell? ⟨wr.heap.size,1,none⟩=some (.string (bs x2)):=by rw[(Tn.gD hg3).cell (by simp) (by show wr.heap.size≠_;omega)];simp
   obtain⟨v',w4,hrun,o4,g4⟩:=qH hO3 (x:=x2) (by omega) (by omega);have hs4:=g4.size;simp only[World.size_alloc] at hs4;have HN4:Hid (qV w4 (w.heap.size+1) (j+1) (fun s=>(bY [] (ts.take (j+1))).contains s)):=by
    show qV _ _ _ _;rw[E2.out];refine(hM3.congr fun s=>?_).block ?_;·rw[Bool.eq_iff_iff];simp
    rw[g4.block _ (by simp;omega) (fun e=>by have:=(aB.dL hO3 e.symm).1;omega),Below.heap_alloc _ _ _ (by omega)]
   have HO4:Hid (jS.own 9 (w.heap.size+2) w4 v' (bY [] (ts.take (j+1)))):=by show jS.own _ _ _ _ _;rw[E2.out];exact o4
   have HB4:Hid (Below w.heap.size w w4):=by refine aj (hB3.alloc hB3.size _) ⟨g4.os,g4.tape,g4.output,g4.size,fun k hk=>g4.block k (by simp;omega) (fun e=>?_)⟩ (Nat.le_refl _);have:=(aB.dL hO3 e.symm).1;omega
   have h4s:w.heap.size+2≤w4.heap.size:=by omega
   have hR3:wr.heap.size<w3.heap.size:=by omega
   rw[hcx] at hlk
   replace hup:=au hup
   replace hrun:=au hrun
   clear E1 E2 HM HO HB hxs hcx hMA hM3 hg3 hO3 hB3 o4 g4;generalize bs x2=kx at*
   go_wp2_with (first
    |(at_mapUpdate;refine aM _ rfl _ _ _ _ rfl _ _ _ _ rfl rfl rfl (bK hup) ?_)
    |(at_builtin;refine wpList_append_run rfl (.tmp 27) (.tmp 30) 25 rfl _ _ _ _ rfl rfl (bK hrun) ?_)
    |go_in)
   go_roundg (ts.length- (j+1))
   case measure=>omega
   case rel=>exact⟨j+1,by omega,by go_num,HN4,HO4,HB4,h4s⟩
  have E2:Hid (bY [] (ts.take (j+1))=g):=by show _=_;rw[E1.out];unfold eU;rw[hcx];rfl
  rw[hcx] at hlk;clear E1 hxs hcx hMA;generalize bs x2=kx at*;go_wp2
  go_roundg (ts.length- (j+1))
  case measure=>omega
  case rel=>
   refine⟨j+1,by omega,by go_num,?_,?_,?_,by simp;omega⟩
   ·show qV _ _ _ _;rw[E2.out];exact(HM.out.later ((ak.refl _).alloc _)).mono (by omega)
   ·show jS.own _ _ _ _ _;rw[E2.out];exact aB.dI HO.out ((Tn.refl 0 _).alloc _) (by omega)
   exact HB.out.alloc HB.out.size _
 have e:j=ts.length:=by omega
 subst e;have HO2:Hid (jS.own 9 (w.heap.size+2) wr (.slice ao (bY [] (ts.take ts.length)).length co) (bY [] ts)):=by have:=HO.out;rw[List.take_length] at this⊢;exact this
 go_wp2;go_ret;exact⟨_,rfl,HO2.out,HB.out⟩
def Sw (a:aI):Prop:=a.terms.length≤1099511627775∧∀t∈a.terms,t.2.length≤maxLen
theorem MS (a b:Bs):((bs a).toList==(bs b).toList)=decide (a=b):=by rw[Bool.eq_iff_iff,beq_iff_eq,decide_eq_true_iff];exact⟨fun h=>mZ (toList_inj h),fun h=>by rw[h]⟩
theorem FM (a:aI) (s:Bs) (b:Bool) (t:Nat) {u:Bs} (h:(vars a)[t]?=some u):(b||(!a.no&&((vars a).take (t+1)).contains s))=((b||(!a.no&&((vars a).take t).contains s))||(!a.no&&decide (u=s))):=by
 rw[List.take_add_one,h];rw[Bool.eq_iff_iff];simp
 constructor
 ·rintro(h|⟨h1,h|h⟩);·exact Or.inl (Or.inl h)
  ·exact Or.inl (Or.inr ⟨h1,h⟩)
  exact Or.inr ⟨h1,h.symm⟩
 rintro((h|⟨h1,h⟩)|⟨h1,h⟩);·exact Or.inl h
 ·exact Or.inr ⟨h1,Or.inl h⟩
 exact Or.inr ⟨h1,Or.inr h.symm⟩
theorem MU (a:aI) (va:Value) (l:List aI) (v:Value) (w:World) (hva:eD.sl bf w va a.terms) (hka:Sw a) (hv:bN.sl bf w v l) (hk:∀b∈l,Sw b):
  Calls Tryz.prog 101 #[.agg #[.bool a.no,.string (bs a.name),va],v] w fun e w'=>e=.returned (.bool ((vars a).all (givenBy l)))∧Below w.heap.size w w':=by
 have HVr:=au (Q8 a va (w.alloc (.cells #[.bool a.no,.string (bs a.name),va] 79)) (aB.aK hva ((ak.refl w).alloc _)) hka.1 hka.2);have HV:=au hv;have HK:=au hk;have hl0:=hv.1.1;obtain⟨sa,cap,rfl⟩:=aB.slice hv;obtain⟨ta,tc,rfl⟩:=aB.slice hva;have hvl:=qI a;have aal:=hka.1;clear hv hk hva hka;generalize hvs:vars a=vs at*;clear hvs;generalize bs a.name=nm at*;generalize a.no=no at*
 go_enter Tryz.func101,Tryz.ntmps101
 go_wp2_with fail
 refine HVr.out.mono ?_;rintro e w1 ⟨u1,rfl,hO1,hB1⟩;have hs1:=hB1.size;simp only[World.size_alloc] at hs1;have HW1:=au (aj ((ak.refl w).alloc (.cells #[.bool no,.string nm,.slice ta a.terms.length tc] 79)).below hB1 (by simp));have HU:=au (aB.dO (aB.fq hO1 (by omega)));obtain⟨ua,uc,rfl⟩:=aB.aY hO1;clear hO1 hB1 HVr;go_wp2
 go_loopg [15] vs.length (fun k i wr=>∃j:Nat,j+k=vs.length∧i=.int .i64 j∧Hid (Below w1.heap.size w1 wr)∧Hid (vs.all (givenBy l)=(vs.drop j).all (givenBy l)))
 case atStart=>exact⟨0,by omega,rfl,Below.refl _ _,(rfl:_=_)⟩
 obtain⟨j,hj,rfl,HB,HF⟩:=hrel
 by_cases hlt:j<vs.length
 ·obtain⟨x,hx⟩:∃x,vs[j]?=some x:=⟨_,List.getElem?_eq_getElem hlt⟩;obtain⟨b1,o1,_,rfl,hb1,rfl,hc⟩:=aB.bO (aB.aJ HU.out HB.out) hx;have d0:wr.cell? ⟨b1,o1+j,none⟩=some (.string (bs x)):=by simpa[jS] using hc 0 _ rfl
  have hd:=yP hx (givenBy l);have HG0:Hid (givenBy (l.take 0) x=false):=by show _=_;simp[givenBy]
  clear hc hx;generalize hbx:bs x=bx at*;have HBX:=au hbx;clear hbx;go_wp2
  go_loopg [7,21] l.length (fun k s7 i wr2=>∃q:Nat,q+k=l.length∧i=.int .i64 q∧s7=.bool (givenBy (l.take q) x)∧Hid (Below w1.heap.size w1 wr2))
  case atStart=>exact⟨0,by omega,rfl,by rw[HG0.out],HB⟩
  obtain⟨q,hq,rfl,rfl,HBq⟩:=hrel;clear HB d0
  by_cases hlq:q<l.length
  ·obtain⟨b,hb⟩:∃x,l[q]?=some x:=⟨_,List.getElem?_eq_getElem hlq⟩;obtain⟨b2,o2,_,rfl,hb2,⟨tv,rfl,htv⟩,hcl⟩:=aB.bO HV.out hb;have hWq:Below w.heap.size w wr:=aj HW1.out HBq.out (by omega);have d0:wr.cell? ⟨b2,o2+q*3,none⟩=some (.bool b.no):=by rw[hWq.cell hb2];exact hcl 0 _ rfl
   have d1:wr.cell? ⟨b2,o2+q*3+1,none⟩=some (.string (bs b.name)):=by rw[hWq.cell hb2];exact hcl 1 _ rfl
   have d2:wr.cell? ⟨b2,o2+q*3+2,none⟩=some tv:=by rw[hWq.cell hb2];exact hcl 2 _ rfl
   have hbr:b2<wr.heap.size:=by have:=hWq.size;omega
   have hkb:=HK.out b (List.mem_of_getElem? hb);have HVb:=au (Q8 b tv (wr.alloc (.cells #[.bool b.no,.string (bs b.name),tv] 79)) (aB.aJ htv (hWq.alloc hWq.size _)) hkb.1 hkb.2);have HG:=au (rz hb x);have hvb:=qI b;have aam:=hkb.1;have HP:Hid (∀(c:Bool) (t:Nat) (u:Bs),(vars b)[t]?=some u→(c||(!b.no&&((vars b).take (t+1)).contains x))=((c||(!b.no&&((vars b).take t).contains x))||(!b.no&&decide (u=x)))):=fun c t u h=>FM b x c t h;obtain⟨t2,c2,rfl⟩:=aB.slice htv;clear hcl hb htv hkb hWq;generalize hv2:vars b=vb at*;clear hv2;generalize bs b.name=nb at*;generalize b.no=bn at*;generalize givenBy (l.take q) x=c0 at*
   go_wp2_with fail
   refine HVb.out.mono ?_;rintro e w3 ⟨u3,rfl,hO3,hB3⟩;have hs3:=hB3.size;simp only[World.size_alloc] at hs3;have hq1:=HBq.out.size;have HZ:Hid (∀w',Below w3.heap.size w3 w'→w'.cell? ⟨wr.heap.size,0,none⟩=some (.bool bn)∧wr.heap.size<w'.heap.size∧Below w1.heap.size w1 w'):=fun w' k=>by refine⟨?_,by have:=k.size;omega,aj (aj (HBq.out.alloc hq1 _) hB3 (by simp;omega)) k (by omega)⟩;rw[k.cell (by show wr.heap.size<_;omega),hB3.cell (by simp)];simp
   have HU3:=au (aB.dO (aB.fq hO3 (by omega)));obtain⟨u4,c4,rfl⟩:=aB.aY hO3;clear hO3 hB3 HVb d0 d1 d2;go_wp2
   go_loopg [7,28] vb.length (fun k s7 i wr3=>∃t:Nat,t+k=vb.length∧i=.int .i64 t∧s7=.bool (c0||(!bn&&(vb.take t).contains x))∧Hid (Below w3.heap.size w3 wr3))
   case atStart=>exact⟨0,by omega,rfl,by simp,Below.refl _ _⟩
   obtain⟨t,ht,rfl,rfl,HBt⟩:=hrel
   by_cases hlt3:t<vb.length
   ·obtain⟨u,hu⟩:∃x,vb[t]?=some x:=⟨_,List.getElem?_eq_getElem hlt3⟩;obtain⟨b5,o5,_,rfl,hb5,rfl,hc5⟩:=aB.bO (aB.aJ HU3.out HBt.out) hu;have f0:wr.cell? ⟨b5,o5+t,none⟩=some (.string (bs u)):=by simpa[jS] using hc5 0 _ rfl
    obtain⟨z0,zl,_⟩:=HZ.out wr HBt.out;have hE:=HP.out c0 t u hu;have hEq:((bs u).toList==bx.toList)=decide (u=x):=by rw[←HBX.out];exact MS u x
    generalize decide (u=x)=du at*;generalize(c0||(!bn&&(vb.take t).contains x))=cv at*;have HE:=au hE;clear hc5 hu hE;generalize bs u=bu at*;cases cv
    ·cases bn
     ·cases du
      all_goals
       go_wp2
       go_roundg (vb.length- (t+1))
       case measure=>omega
       case rel=>exact⟨t+1,by omega,by go_num,by rw[HE.out];rfl,HBt⟩
     go_wp2
     go_roundg (vb.length- (t+1))
     case measure=>omega
     case rel=>exact⟨t+1,by omega,by go_num,by rw[HE.out];rfl,HBt⟩
    go_wp2
    go_roundg (vb.length- (t+1))
    case measure=>omega
    case rel=>exact⟨t+1,by omega,by go_num,by rw[HE.out];rfl,HBt⟩
   have e:t=vb.length:=by omega
   subst e;have HB2:=au (HZ.out wr HBt.out).2.2;go_wp2
   go_roundg (l.length- (q+1))
   case measure=>omega
   case rel=>exact⟨q+1,by omega,by go_num,by rw[HG.out,List.take_length],HB2⟩
  have e:q=l.length:=by omega
  subst e;rw[List.take_length];cases hgx:givenBy l x
  ·have F:Hid (vs.all (givenBy l)=false):=by show _=_;rw[HF.out,hd,hgx];rfl
   clear hd HF hgx;go_wp2;go_ret;exact⟨bU F.out.symm,aj HW1.out HBq.out (by omega)⟩
  have F:Hid (vs.all (givenBy l)=(vs.drop (j+1)).all (givenBy l)):=by show _=_;rw[HF.out,hd,hgx];rfl
  clear hd HF hgx;go_wp2
  go_roundg (vs.length- (j+1))
  case measure=>omega
  case rel=>exact⟨j+1,by omega,by go_num,HBq,F⟩
 have F:Hid (vs.all (givenBy l)=true):=by show _=_;rw[HF.out,List.drop_eq_nil_of_le (by omega)];rfl
 go_wp2;go_ret;exact⟨bU F.out.symm,aj HW1.out HB.out (by omega)⟩
end Go.Proofs.YtaallngooaaonaaGreatDoor
