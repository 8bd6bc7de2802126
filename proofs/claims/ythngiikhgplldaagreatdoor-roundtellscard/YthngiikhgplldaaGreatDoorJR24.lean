import Derived.Test.YthngiikhgplldaaGreatDoorJR23
import Derived.Test.YthngiikhgplldaaGreatDoorJR11
import Derived.Test.YthngiikhgplldaaGreatDoorJR12
open Go.RowKit Go.Sort Go.Maps
set_option maxHeartbeats 2000000
set_option maxRecDepth 100000
namespace Go.Proofs.YthngiikhgplldaaGreatDoor
theorem yR (s:ByteArray):oo s=(decide (0<s.size∧s.size≤12)&&(raw s).all eO):=by unfold oo;rw[Bool.and_comm];rfl
theorem DZ {s:ByteArray} (h:oo s=false):isVar (raw s)=false:=by
 rw[yR] at h;unfold isVar;rw[bK];cases hr:raw s with
 |nil=>simp
 |cons c t=>
  have hl:=bK s;rw[hr] at hl h;simp at hl
  by_cases h12:s.size≤12
  ·rw[decide_eq_true ⟨by omega,h12⟩,Bool.true_and] at h;rw[h];simp
  rw[decide_eq_false h12];rfl
theorem Cc {s:ByteArray} (h:oo s=true):∃h0:0<s.size,isVar (raw s)=jM s[0].toNat:=by rw[yR,Bool.and_eq_true,decide_eq_true_iff] at h;obtain⟨⟨h0,h12⟩,ha⟩:=h;refine⟨h0,?_⟩;rw[yK h0 h12,iB,←bK s,jA,ha,Bool.and_true]
theorem Ce (s:ByteArray) (w:World) (hs:s.size≤9223372036854775807):Calls Tryz.prog 70 #[.string s] w fun e w'=>e=.returned (.bool (isVar (raw s)))∧aj w w':=by
 cases hw:oo s
 ·have hn:=DZ hw;rw[hn]
  go_enter Tryz.func70,Tryz.ntmps70
  go_wp2_with (go_at_call 80;refine(Ca _ _ hs).mono ?_;rintro e w1 ⟨rfl,hL⟩;rw[hw])
  go_ret;exact⟨rfl,hL⟩
 obtain⟨h0,hn⟩:=Cc hw;have h0z:(0:Int)<(s.size:Int):=by omega
 generalize hc:(s[0]'h0).toNat=c at hn;have HN:=au hn;clear hn
 by_cases ha:(65:Int)≤c
 ·go_enter Tryz.func70,Tryz.ntmps70
  go_wp2_with (go_at_call 80;refine(Ca _ _ hs).mono ?_;rintro e w1 ⟨rfl,hL⟩;rw[hw])
  go_ret;refine⟨bB ?_,by assumption⟩;rw[HN.out];unfold jM;rw[Bool.eq_iff_iff];simp;omega
 go_enter Tryz.func70,Tryz.ntmps70
 go_wp2_with (go_at_call 80;refine(Ca _ _ hs).mono ?_;rintro e w1 ⟨rfl,hL⟩;rw[hw])
 go_ret;refine⟨bB ?_,by assumption⟩;rw[HN.out];unfold jM;rw[Bool.eq_iff_iff];simp;omega
def J7 (t:dM):Prop:=t.2.length≤9223372036854775807
def Cg (a:aJ):Prop:=a.name.length≤9223372036854775807∧∀t∈a.terms,J7 t
theorem yS (l:Bs) (w:World) (h:l.length≤9223372036854775807):Calls Tryz.prog 63 #[.string (bs l)] w fun e w'=>e=.returned (.bool (isNamed l))∧aj w w':=by have:=rT (bs l) w (by rw[iB];exact h);rw[jV,jN] at this;exact this
theorem xS (l:Bs) (w:World) (h:l.length≤9223372036854775807):Calls Tryz.prog 70 #[.string (bs l)] w fun e w'=>e=.returned (.bool (isVar l))∧aj w w':=by have:=Ce (bs l) w (by rw[iB];exact h);rw[jN] at this;exact this
theorem rU (a:aJ) (v:Value) (w:World) (hv:gJ.sl bT w v a.terms) (hk:Cg a):
  Calls Tryz.prog 56 #[.agg #[.bool a.no,.string (bs a.name),v]] w fun e w'=>e=.returned (.int .i64 (aL a))∧aj w w':=by
 have HN:Hid (∀w,Calls Tryz.prog 63 #[.string (bs a.name)] w fun e w'=>e=.returned (.bool (isNamed a.name))∧aj w w'):=fun w=>yS a.name w hk.1;have HV:=au hv;have HK:=au hk.2;have l0:=hv.1.1;obtain⟨a1,c1,rfl⟩:=aB.slice hv;clear hv hk;obtain⟨no,n,x⟩:=a;unfold aL;dsimp only at*;generalize hn:isNamed n=q at*;clear hn;generalize bs n=s at*;have HB:Hid (∀w2,aj (w.alloc (.cells #[.bool no,.string s,.slice a1 x.length c1] 54)) w2→w2.cell? ⟨w.heap.size,2,none⟩=some (.slice a1 x.length c1)∧w.heap.size<w2.heap.size∧aj w w2):=fun w2 hL=>
  ⟨by rw[hL.cell (by simp)];simp,by have:=hL.size;simp at this;omega,((aj.refl w).alloc _).trans hL⟩
 cases q
 ·rw[if_pos rfl]
  go_enter Tryz.func56,Tryz.ntmps56
  go_wp2_with (go_at_call 63;refine(HN.out _).mono ?_;rintro e w2 ⟨rfl,hL⟩;replace hL:=au hL)
  go_ret;exact⟨rfl,((aj.refl _).alloc _).trans (bg hL)⟩
 rw[if_neg (by simp)]
 by_cases h4:4<x.length
 ·rw[if_pos h4]
  go_enter Tryz.func56,Tryz.ntmps56
  go_wp2_with (go_at_call 63;refine(HN.out _).mono ?_;rintro e w2 ⟨rfl,hL⟩;obtain⟨z2,hz,HL⟩:=HB.out w2 hL;clear hL;replace HL:=au HL)
  go_ret;exact⟨rfl,bg HL⟩
 rw[if_neg h4];generalize hRR:(if x.any aW=true then(7:Int) else 0)=R;have HR:=au hRR;clear hRR
 go_enter Tryz.func56,Tryz.ntmps56
 go_wp2_with (go_at_call 63;refine(HN.out _).mono ?_;rintro e w2 ⟨rfl,hL⟩;obtain⟨z2,hz,HL⟩:=HB.out w2 hL;clear hL;replace HL:=au HL)
 clear z2
 go_loopg [16] x.length (fun k i wr=>∃j:Nat,j+k=x.length∧i=.int .i64 j∧Hid (aj w wr)∧Hid (x.any aW=(x.drop j).any aW))
 case atStart=>exact⟨0,by omega,rfl,HL,(rfl:_=_)⟩
 obtain⟨j,hj,rfl,HLj,HF⟩:=hrel;clear HL HN
 by_cases hlt:j<x.length
 ·obtain⟨t,ht⟩:∃y,x[j]?=some y:=⟨_,List.getElem?_eq_getElem hlt⟩;obtain⟨b1,o1,_,rfl,hb1,rfl,hc⟩:=aB.bR HV.out ht;have d0:wr.cell? ⟨b1,o1+j*2,none⟩=some (.bool t.1):=by rw[HLj.out.cell hb1];exact hc 0 _ rfl
  have d1:wr.cell? ⟨b1,o1+j*2+1,none⟩=some (.string (bs t.2)):=by rw[HLj.out.cell hb1];exact hc 1 _ rfl
  have hbr:b1<wr.heap.size:=by have:=HLj.out.size;omega
  have hd:=tO ht aW;have hkt:t.2.length≤9223372036854775807:=HK.out t (List.mem_of_getElem? ht);have HNt:Hid (∀w,Calls Tryz.prog 63 #[.string (bs t.2)] w fun e w'=>e=.returned (.bool (isNamed t.2))∧aj w w'):=fun w=>yS t.2 w hkt;have HVt:Hid (∀w,Calls Tryz.prog 70 #[.string (bs t.2)] w fun e w'=>e=.returned (.bool (isVar t.2))∧aj w w'):=fun w=>xS t.2 w hkt;obtain⟨tv,tn⟩:=t;dsimp only at*;have hwt:aW (tv,tn)=if tv then !isVar tn else !isNamed tn:=rfl;rw[hwt] at hd;clear hc ht hwt hkt;have HBt:Hid (∀w2,aj (wr.alloc (.cells #[.bool tv,.string (bs tn)] 98)) w2→w2.cell? ⟨wr.heap.size,0,none⟩=some (.bool tv)∧w2.cell? ⟨wr.heap.size,1,none⟩=some (.string (bs tn))∧wr.heap.size<w2.heap.size∧aj w w2):=fun w2 hL=>
   ⟨by rw[hL.cell (by simp)];simp,by rw[hL.cell (by simp)];simp,by have:=hL.size;simp at this;omega,(HLj.out.alloc _).trans hL⟩
  generalize isVar tn=iv at*;generalize isNamed tn=im at*;generalize bs tn=tb at*;cases tv
  ·cases im
   ·have F:Hid (x.any aW=true):=by show _=_;rw[HF.out,hd];rfl
    clear hd HF
    go_wp2_with (first
     |(go_at_call 63;refine(HNt.out _).mono ?_;rintro e w3 ⟨rfl,hL3⟩;obtain⟨y0,y1,yl,HL3⟩:=HBt.out w3 hL3;clear hL3;replace HL3:=au HL3))
    go_ret;exact⟨by rw[←HR.out,F.out];rfl,bg HL3⟩
   have F:Hid (x.any aW=(x.drop (j+1)).any aW):=by show _=_;rw[HF.out,hd];rfl
   clear hd HF
   go_wp2_with (first
    |(go_at_call 63;refine(HNt.out _).mono ?_;rintro e w3 ⟨rfl,hL3⟩;obtain⟨y0,y1,yl,HL3⟩:=HBt.out w3 hL3;clear hL3;replace HL3:=au HL3))
   go_roundg (x.length- (j+1))
   case measure=>omega
   case rel=>exact⟨j+1,by omega,by go_num,bg HL3,F⟩
  cases iv
  ·have F:Hid (x.any aW=true):=by show _=_;rw[HF.out,hd];rfl
   clear hd HF
   go_wp2_with (first
    |(go_at_call 70;refine(HVt.out _).mono ?_;rintro e w3 ⟨rfl,hL3⟩;obtain⟨y0,y1,yl,HL3⟩:=HBt.out w3 hL3;clear hL3;replace HL3:=au HL3))
   go_ret;exact⟨by rw[←HR.out,F.out];rfl,bg HL3⟩
  have F:Hid (x.any aW=(x.drop (j+1)).any aW):=by show _=_;rw[HF.out,hd];rfl
  clear hd HF
  go_wp2_with (first
   |(go_at_call 70;refine(HVt.out _).mono ?_;rintro e w3 ⟨rfl,hL3⟩;obtain⟨y0,y1,yl,HL3⟩:=HBt.out w3 hL3;clear hL3;replace HL3:=au HL3))
  go_roundg (x.length- (j+1))
  case measure=>omega
  case rel=>exact⟨j+1,by omega,by go_num,bg HL3,F⟩
 have F:Hid (x.any aW=false):=by show _=_;rw[HF.out,List.drop_eq_nil_of_le (by omega)];rfl
 go_wp2;go_ret;exact⟨by rw[←HR.out,F.out];rfl,HLj.out⟩
theorem iR {v:Value} {z:DataW Unit×List MemPlace} (h:plainElem Tryz.prog 4 v=some z):∃x,v=.bool x∧z=(.lit (.bool x),[]):=by
 unfold plainElem at h;rw[Tryz.underlying4] at h;cases v <;> simp at h
 exact⟨_,rfl,h.symm⟩
theorem yT (w:World):(zeroValue 4).run Tryz.prog w=.ok (.bool false) w:=by kernel_rfl
def nK (w:World) (b n:Nat) (f:Bs→Bool):Prop:=∃D:DataW Unit,w.ownsMap Tryz.prog 9 (plainElem Tryz.prog 4) b n D∧∀s,D.atKey (.string s) (.lit (.bool false))=.lit (.bool (f s))
theorem nK.made (w:World):nK (w.alloc (.map #[] 0)) w.heap.size 0 (fun _=>false):=⟨.map [],World.ownsMap_made _ _ _ _,fun _=>rfl⟩
theorem nK.lt {w:World} {b n:Nat} {f:Bs→Bool} (h:nK w b n f):b<w.heap.size:=by obtain⟨D,h,_⟩:=h;exact h.lt
theorem nK.block {w w':World} {b n:Nat} {f:Bs→Bool} (h:nK w b n f) (e:w'.heap[b]?=w.heap[b]?):nK w' b n f:=by obtain⟨D,h,hf⟩:=h;exact⟨D,dG h e,hf⟩
theorem nK.later {w w':World} {b n:Nat} {f:Bs→Bool} (h:nK w b n f) (k:aj w w'):nK w' b n f:=h.block (k.block h.lt)
theorem nK.mono {w:World} {b n m:Nat} {f:Bs→Bool} (h:nK w b n f) (hn:n≤m):nK w b m f:=by obtain⟨D,h,hf⟩:=h;exact⟨D,h.mono hn,hf⟩
theorem nK.congr {w:World} {b n:Nat} {f g:Bs→Bool} (h:nK w b n f) (e:∀s,f s=g s):nK w b n g:=by obtain⟨D,h,hf⟩:=h;exact⟨D,h,fun s=>by rw[hf,e]⟩
theorem nK.look {w:World} {b n:Nat} {f:Bs→Bool} (h:nK w b n f) {s:Bs} (hs:s.length≤maxLen):(Instr.lookup 132 (.map (some b)) (.string (bs s)) false).run Tryz.prog w=.ok (.bool (f s)) w:=by
 obtain⟨D,hown,hf⟩:=h;obtain⟨v,ps,hrun,hv⟩:=hown.lookup (string_keyed Tryz.underlying9) Tryz.underlying132 (yT w) (plainElem_bool Tryz.underlying4 false) (jD Tryz.underlying9 hs);rw[hf s] at hv;obtain⟨x,rfl,hz⟩:=iR hv;simp only[Prod.mk.injEq] at hz;have hz:=hz.1
 injection hz with hz
 injection hz with hz
 rw[hrun,hz]
theorem nK.store {w:World} {b n:Nat} {f:Bs→Bool} (h:nK w b n f) (hn:n<maxLen) {s:Bs} (hs:s.length≤maxLen):
  ∃w',(Instr.mapUpdate 132 (.map (some b)) (.string (bs s)) (.bool true)).run Tryz.prog w=.ok () w'∧nK w' b (n+1) (fun t=>f t||decide (t=s))∧w.grownBy w' (some b):=by
 obtain⟨D,hown,hf⟩:=h;obtain⟨w',hrun,r1,r2⟩:=hown.update (string_keyed Tryz.underlying9) Tryz.underlying132 hn (jD Tryz.underlying9 hs) (plainElem_bool Tryz.underlying4 true);refine⟨w',hrun,⟨_,r1,fun t=>?_⟩,r2⟩
 by_cases e:t=s
 ·subst e;rw[atKey_put_same hown.isMap (CY _)];simp
 rw[atKey_put_other (kK e),hf];simp[e]
theorem Iw (a:aJ) (v:Value) (w:World) (hv:gJ.sl bT w v a.terms) (hn:a.terms.length≤6000000000000) (hs:∀t∈a.terms,t.2.length≤maxLen):
  Calls Tryz.prog 71 #[.agg #[.bool a.no,.string (bs a.name),v]] w fun e w'=>∃u,e=.returned u∧iH.own 9 (w.heap.size+2) w' u (vars a)∧Below w.heap.size w w':=by
 obtain⟨sa,cap,rfl⟩:=aB.slice hv;have HV:=au hv;clear hv;obtain⟨no,name,ts⟩:=a;dsimp only at*;have HS:=au hs;clear hs;have hmm:= @run_makeMap Tryz.prog;show Calls _ _ _ _ fun e w'=>∃u,e=.returned u∧iH.own 9 (w.heap.size+2) w' u (bG [] ts)∧_;generalize bs name=nm
 go_enter Tryz.func71,Tryz.ntmps71
 go_wp2
 go_loopg [3,11] ts.length (fun k o i wr=>∃j:Nat,j+k=ts.length∧i=.int .i64 j∧Hid (nK wr (w.heap.size+1) j (fun s=>(bG [] (ts.take j)).contains s))∧Hid (iH.own 9 (w.heap.size+2) wr o (bG [] (ts.take j)))∧Hid (Below w.heap.size w wr)∧w.heap.size+2≤wr.heap.size)
 case atStart=>
  refine⟨0,by omega,rfl,?_,iH.gX _ _ _,?_,by simp⟩;·have:=nK.made (w.alloc (.cells #[.bool no,.string nm,.slice sa ts.length cap] 54));rw[World.size_alloc] at this;exact this
  exact(((aj.refl w).alloc _).alloc _).below
 obtain⟨j,hj,rfl,HM,HO,HB,hsz⟩:=hrel;obtain⟨ao,co,rfl⟩:=aB.bI HO.out
 by_cases hlt:j<ts.length
 ·obtain⟨x,hx⟩:∃x,ts[j]?=some x:=⟨_,List.getElem?_eq_getElem hlt⟩;obtain⟨b1,o1,_,rfl,hb1,rfl,hc⟩:=aB.bR HV.out hx;have d0:wr.cell? ⟨b1,o1+j*2,none⟩=some (.bool x.1):=by rw[HB.out.cell hb1];exact hc 0 _ rfl
  have d1:wr.cell? ⟨b1,o1+j*2+1,none⟩=some (.string (bs x.2)):=by rw[HB.out.cell hb1];exact hc 1 _ rfl
  have hxs:x.2.length≤maxLen:=HS.out x (List.mem_of_getElem? hx);have E:=au (pF hx);have hlen:(bG [] (ts.take j)).length≤j:=by have:=ni (ts.take j) [];simp at this;omega
  clear hc hx;have hbr:b1<wr.heap.size:=by omega
  obtain⟨x1,x2⟩:=x;dsimp only at*;generalize hg:bG [] (ts.take j)=g at*;clear hg;cases x1
  ·have E1:Hid (bG [] (ts.take (j+1))=g):=E.out;clear E;generalize bs x2=kx at*;go_wp2
   go_roundg (ts.length- (j+1))
   case measure=>omega
   case rel=>
    refine⟨j+1,by omega,by go_num,?_,?_,?_,by simp;omega⟩
    ·show nK _ _ _ _;rw[E1.out];exact(HM.out.later ((aj.refl _).alloc _)).mono (by omega)
    ·show iH.own _ _ _ _ _;rw[E1.out];exact aB.dH HO.out ((Tn.refl 0 _).alloc _) (by omega)
    exact HB.out.alloc HB.out.size _
  have E1:Hid (bG [] (ts.take (j+1))=dz g x2):=E.out;clear E;have hMA:=HM.out.later ((aj.refl wr).alloc (.cells #[.bool true,.string (bs x2)] 98));have hlk:=hMA.look hxs;cases hcx:g.contains x2
  ·have E2:Hid (bG [] (ts.take (j+1))=g++[x2]):=by show _=_;rw[E1.out];unfold dz;rw[hcx];rfl
   obtain⟨w3,hup,hM3,hg3⟩:=hMA.store (by simp[maxLen];omega) hxs;have hs3:=hg3.size;simp only[World.size_alloc] at hs3;have hO3:=aB.dH (aB.dH HO.out ((Tn.refl (w.heap.size+1) wr).alloc (.cells #[.bool true,.string (bs x2)] 98)) (by omega)) (Tn.eG hg3) (by omega);have hB3:Below w.heap.size w w3:=ak (HB.out.alloc HB.out.size _) ((Tn.eG hg3).below (n:=w.heap.size) (by omega) (by simp;omega)) (Nat.le_refl _);have z3:w3.cell? ⟨wr.heap.size,1,none⟩=some (.string (bs x2)):=by rw[(Tn.eG hg3).cell (by simp) (by show wr.heap.size≠_;omega)];simp
   obtain⟨v',w4,hrun,o4,g4⟩:=ng hO3 (x:=x2) (by omega) (by omega);have hs4:=g4.size;simp only[World.size_alloc] at hs4;have HN4:Hid (nK w4 (w.heap.size+1) (j+1) (fun s=>(bG [] (ts.take (j+1))).contains s)):=by
    show nK _ _ _ _;rw[E2.out];refine(hM3.congr fun s=>?_).block ?_;·rw[Bool.eq_iff_iff];simp
    rw[g4.block _ (by simp;omega) (fun e=>by have:=(aB.dV hO3 e.symm).1;omega),Below.heap_alloc _ _ _ (by omega)]
   have HO4:Hid (iH.own 9 (w.heap.size+2) w4 v' (bG [] (ts.take (j+1)))):=by show iH.own _ _ _ _ _;rw[E2.out];exact o4
   have HB4:Hid (Below w.heap.size w w4):=by refine ak (hB3.alloc hB3.size _) ⟨g4.os,g4.tape,g4.output,g4.size,fun k hk=>g4.block k (by simp;omega) (fun e=>?_)⟩ (Nat.le_refl _);have:=(aB.dV hO3 e.symm).1;omega
   have h4s:w.heap.size+2≤w4.heap.size:=by omega
   have hR3:wr.heap.size<w3.heap.size:=by omega
   rw[hcx] at hlk
   replace hup:=au hup
   replace hrun:=au hrun
   clear E1 E2 HM HO HB hxs hcx hMA hM3 hg3 hO3 hB3 o4 g4;generalize bs x2=kx at*
   go_wp2_with (first
    |(at_mapUpdate;refine aH _ rfl _ _ _ _ rfl _ _ _ _ rfl rfl rfl (bg hup) ?_)
    |(at_builtin;refine wpList_append_run rfl (.tmp 27) (.tmp 30) 48 rfl _ _ _ _ rfl rfl (bg hrun) ?_)
    |go_in)
   go_roundg (ts.length- (j+1))
   case measure=>omega
   case rel=>exact⟨j+1,by omega,by go_num,HN4,HO4,HB4,h4s⟩
  have E2:Hid (bG [] (ts.take (j+1))=g):=by show _=_;rw[E1.out];unfold dz;rw[hcx];rfl
  rw[hcx] at hlk;clear E1 hxs hcx hMA;generalize bs x2=kx at*;go_wp2
  go_roundg (ts.length- (j+1))
  case measure=>omega
  case rel=>
   refine⟨j+1,by omega,by go_num,?_,?_,?_,by simp;omega⟩
   ·show nK _ _ _ _;rw[E2.out];exact(HM.out.later ((aj.refl _).alloc _)).mono (by omega)
   ·show iH.own _ _ _ _ _;rw[E2.out];exact aB.dH HO.out ((Tn.refl 0 _).alloc _) (by omega)
   exact HB.out.alloc HB.out.size _
 have e:j=ts.length:=by omega
 subst e;have HO2:Hid (iH.own 9 (w.heap.size+2) wr (.slice ao (bG [] (ts.take ts.length)).length co) (bG [] ts)):=by have:=HO.out;rw[List.take_length] at this⊢;exact this
 go_wp2;go_ret;exact⟨_,rfl,HO2.out,HB.out⟩
end Go.Proofs.YthngiikhgplldaaGreatDoor
