import Derived.Test.YthngiikhgplldaaGreatDoorJR11
import Derived.Test.YthngiikhgplldaaGreatDoorJR6
import Derived.Test.YthngiikhgplldaaGreatDoorJR8
import Derived.Test.YthngiikhgplldaaGreatDoorJR5
open Go.RowKit Go.Sort Go.Maps
set_option maxHeartbeats 4000000
set_option maxRecDepth 100000
namespace Go.Proofs.YthngiikhgplldaaGreatDoor
theorem ng {lo:Nat} {w:World} {v:Value} {l:List Bs} (h:iH.own 9 lo w v l) {x:Bs} (hl:l.length+1≤6000000000001) (hlo:lo≤w.heap.size):
  ∃v' w',(Builtin.append_ #[48,48] 48 #[v,.slice (some ⟨w.heap.size,0,none⟩) 1 1]).run Tryz.prog (w.alloc (.cells #[.string (bs x)] 9))=.ok v' w'∧iH.own 9 lo w' v' (l++[x])∧(w.alloc (.cells #[.string (bs x)] 9)).grownBy w' v.ownBlock:=by
 obtain⟨i,i1,i2,i3,i4⟩:=sV;exact aB.oV h Tryz.underlying48 i1 i2 i3 i4 rfl (by decide) (c:=[.string (bs x)]) rfl (by simp only[maxLen];omega) (by omega) hlo
theorem pF {ts:List dM} {j:Nat} {x:dM} (h:ts[j]?=some x):bG [] (ts.take (j+1))=if x.1 then dz (bG [] (ts.take j)) x.2 else bG [] (ts.take j):=by rw[List.take_add_one,h];simp[bG,List.foldl_append]
theorem zO (l:List Bs) (s:Bs):(dz l s).length≤l.length+1:=by unfold dz;split <;> simp
theorem ni (ts:List dM):∀l,(bG l ts).length≤l.length+ts.length:=by
 induction ts with
 |nil=>intro l;simp[bG]
 |cons t ts ih=>
  intro l;show(bG (if t.1 then dz l t.2 else l) ts).length≤_;have h0:(if t.1 then dz l t.2 else l).length≤l.length+1:=by
   split;·exact zO l t.2
   omega
  have h1:=ih (if t.1 then dz l t.2 else l);rw[List.length_cons];omega
theorem G7 {w:World} {b:Nat} (x:Bs) (hb:b<w.heap.size):iH.sl (fun k=>k≠b) (w.alloc (.cells #[.string (bs x)] 9)) (.slice (some ⟨w.heap.size,0,none⟩) 1 1) [x]:=by have h:=aB.Ba (K:=iH) (ty:=9) (lo:=w.heap.size) (w:=w) (c:=[.string (bs x)]) (x:=x) rfl (Nat.le_refl _);exact aB.dX (aB.gQ h (by simp)) fun k _ hk=>by have:w.heap.size≤k:=hk;omega
theorem Fv (a:aJ) (v:Value) (w:World) (hv:gJ.sl bT w v a.terms) (hn:a.terms.length≤6000000000000) (hs:∀t∈a.terms,t.2.length≤maxLen):
  Calls Tryz.prog 95 #[.agg #[.bool a.no,.string (bs a.name),v]] w fun e w'=>∃u,e=.returned u∧iH.own 9 (w.heap.size+2) w' u (vars a)∧Below w.heap.size w w':=by
 obtain⟨sa,cap,rfl⟩:=aB.slice hv;have HV:=au hv;clear hv;obtain⟨no,name,ts⟩:=a;dsimp only at*;have HS:=au hs;clear hs;have hmm:= @run_makeMap Tryz.prog;show Calls _ _ _ _ fun e w'=>∃u,e=.returned u∧iH.own 9 (w.heap.size+2) w' u (bG [] ts)∧_;generalize bs name=nm
 go_enter Tryz.func95,Tryz.ntmps95
 go_wp2
 go_loopg [4,11] ts.length (fun k o i wr=>∃j:Nat,j+k=ts.length∧i=.int .i64 j∧Hid (dK wr (w.heap.size+1) j (fun s=>(bG [] (ts.take j)).contains s))∧Hid (iH.own 9 (w.heap.size+2) wr o (bG [] (ts.take j)))∧Hid (Below w.heap.size w wr)∧w.heap.size+2≤wr.heap.size)
 case atStart=>
  refine⟨0,by omega,rfl,?_,iH.gX _ _ _,?_,by simp⟩;·have:=kL.made Tryz.prog 9 (w.alloc (.cells #[.bool no,.string nm,.slice sa ts.length cap] 54));rw[World.size_alloc] at this;exact this
  exact(((aj.refl w).alloc _).alloc _).below
 obtain⟨j,hj,rfl,HM,HO,HB,hsz⟩:=hrel;obtain⟨ao,co,rfl⟩:=aB.bI HO.out
 by_cases hlt:j<ts.length
 ·obtain⟨x,hx⟩:∃x,ts[j]?=some x:=⟨_,List.getElem?_eq_getElem hlt⟩;obtain⟨b1,o1,_,rfl,hb1,rfl,hc⟩:=aB.bR HV.out hx;have d0:wr.cell? ⟨b1,o1+j*2,none⟩=some (.bool x.1):=by rw[HB.out.cell hb1];exact hc 0 _ rfl
  have d1:wr.cell? ⟨b1,o1+j*2+1,none⟩=some (.string (bs x.2)):=by rw[HB.out.cell hb1];exact hc 1 _ rfl
  have hxs:x.2.length≤maxLen:=HS.out x (List.mem_of_getElem? hx);have E:=au (pF hx);have hlen:(bG [] (ts.take j)).length≤j:=by have:=ni (ts.take j) [];simp at this;omega
  clear hc hx;have hbr:b1<wr.heap.size:=by omega
  obtain⟨x1,x2⟩:=x;dsimp only at*;generalize hg:bG [] (ts.take j)=g at*;clear hg;cases x1
  ·have E1:Hid (bG [] (ts.take (j+1))=g):=E.out;clear E;generalize bs x2=kx at*;go_wp2
   go_roundg (ts.length- (j+1))
   case measure=>omega
   case rel=>
    refine⟨j+1,by omega,by go_num,?_,?_,?_,by simp;omega⟩
    ·show dK _ _ _ _;rw[E1.out];exact(HM.out.later ((aj.refl _).alloc _)).mono (by omega)
    ·show iH.own _ _ _ _ _;rw[E1.out];exact aB.dH HO.out ((Tn.refl 0 _).alloc _) (by omega)
    exact HB.out.alloc HB.out.size _
  have E1:Hid (bG [] (ts.take (j+1))=dz g x2):=E.out;clear E;have HC:Hid (Calls Tryz.prog 121 #[.map (some (w.heap.size+1)),.string (bs x2)] (wr.alloc (.cells #[.bool true,.string (bs x2)] 98)) fun e w'=>e=.returned (.bool (g.contains x2))∧aj (wr.alloc (.cells #[.bool true,.string (bs x2)] 98)) w'):=KD _ _ _ x2 _ (HM.out.later ((aj.refl _).alloc _)) hxs;have HZ:Hid (∀w2,aj (wr.alloc (.cells #[.bool true,.string (bs x2)] 98)) w2→w2.cell? ⟨wr.heap.size,1,none⟩=some (.string (bs x2))∧wr.heap.size<w2.heap.size):=fun w2 hL=>by refine⟨?_,by have:=hL.size;simp at this;omega⟩;rw[hL.cell (by simp)];simp
  cases hcx:g.contains x2
  ·have E2:Hid (bG [] (ts.take (j+1))=g++[x2]):=by show _=_;rw[E1.out];unfold dz;rw[hcx];rfl
   rw[hcx] at HC;have HA:Hid (∀w2,aj (wr.alloc (.cells #[.bool true,.string (bs x2)] 98)) w2→Calls Tryz.prog 120 #[.map (some (w.heap.size+1)),.slice (some ⟨w2.heap.size,0,none⟩) 1 1] (w2.alloc (.cells #[.string (bs x2)] 9))
     fun e w3=>e=.returned (.tuple #[])∧dK w3 (w.heap.size+1) (j+1) (fun s=>(g++[x2]).contains s)∧Tn (w.heap.size+1) w2 w3∧w2.heap.size<w3.heap.size):=fun w2 hL=>by
    have hs2:=hL.size;simp only[World.size_alloc] at hs2;have hm:=HM.out.later (((aj.refl _).alloc _).trans hL);refine(KE _ _ _ _ [x2] _ (hm.later ((aj.refl _).alloc _)) (G7 x2 (by omega)) (by simp[maxLen];omega) (by simpa using hxs)).mono fun e w3 ⟨he,h1,h2⟩=>⟨he,h1.congr fun s=>by simp,((Tn.refl _ _).alloc _).trans h2,by have:=h2.size;simp at this;omega⟩
   have HP:Hid (∀w2 w3,aj (wr.alloc (.cells #[.bool true,.string (bs x2)] 98)) w2→Tn (w.heap.size+1) w2 w3→w2.heap.size<w3.heap.size→dK w3 (w.heap.size+1) (j+1) (fun s=>(g++[x2]).contains s)→w3.cell? ⟨wr.heap.size,1,none⟩=some (.string (bs x2))∧wr.heap.size<w3.heap.size∧
     ∃v' w4,(Builtin.append_ #[48,48] 48 #[.slice ao g.length co,.slice (some ⟨w3.heap.size,0,none⟩) 1 1]).run Tryz.prog (w3.alloc (.cells #[.string (bs x2)] 9))=.ok v' w4∧Hid (dK w4 (w.heap.size+1) (j+1) (fun s=>(g++[x2]).contains s))∧Hid (iH.own 9 (w.heap.size+2) w4 v' (g++[x2]))∧Hid (Below w.heap.size w w4)∧w.heap.size+2≤w4.heap.size):=fun w2 w3 hL hT h23 hm=>by
    have hs2:=hL.size;simp only[World.size_alloc] at hs2;have hO2:=aB.dH HO.out (Tn.of_below (p:=0) (((aj.refl _).alloc _).trans hL).below) (by omega);have hO3:=aB.dH hO2 hT (by omega);have hB3:Below w.heap.size w w3:=ak (ak HB.out (((aj.refl wr).alloc _).trans hL).below HB.out.size) (hT.below (n:=w.heap.size) (by omega) (by omega)) (Nat.le_refl _);obtain⟨v',w4,hrun,o4,g4⟩:=ng hO3 (x:=x2) (by omega) (by omega);have hs4:=g4.size;simp only[World.size_alloc] at hs4;refine⟨?_,by omega,v',w4,hrun,?_,o4,?_,by omega⟩;·rw[hT.cell (by show wr.heap.size<_;omega) (by show wr.heap.size≠_;omega)];exact(HZ.out w2 hL).1
    ·refine(hm.later ((aj.refl _).alloc _)).grown g4 (fun e=>?_);have:=(aB.dV hO3 e.symm).1;omega
    ·refine ak (hB3.alloc hB3.size _) ⟨g4.os,g4.tape,g4.output,g4.size,fun k hk=>g4.block k (by simp;omega) (fun e=>?_)⟩ (Nat.le_refl _);have:=(aB.dV hO3 e.symm).1;omega
   clear E1 HM HO HB hxs hcx;generalize bs x2=kx at*
   go_wp2_with (first
    |(go_at_call 121;refine HC.out.mono ?_;rintro e w2 ⟨rfl,hL⟩;obtain⟨z2,h2s⟩:=HZ.out w2 hL;replace hL:=au hL)
    |(go_at_call 120;refine(HA.out w2 (bg hL)).mono ?_;rintro e w3 ⟨rfl,hm3,hT3,h23⟩;obtain⟨z3,h3s,v',w4,hrun,hN4,hO4,hB4,h4s⟩:=HP.out w2 w3 (bg hL) hT3 h23 hm3;replace hrun:=au hrun;clear hm3 hT3)
    |(at_builtin;refine wpList_append_run rfl (.tmp 29) (.tmp 32) 48 rfl _ _ _ _ rfl rfl (bg hrun) ?_))
   go_roundg (ts.length- (j+1))
   case measure=>omega
   case rel=>
    refine⟨j+1,by omega,by go_num,?_,?_,hB4,h4s⟩;·show dK _ _ _ _;rw[E2.out];exact hN4.out
    show iH.own _ _ _ _ _;rw[E2.out];exact hO4.out
  have E2:Hid (bG [] (ts.take (j+1))=g):=by show _=_;rw[E1.out];unfold dz;rw[hcx];rfl
  rw[hcx] at HC;clear E1 hxs hcx;generalize bs x2=kx at*
  go_wp2_with (first
   |(go_at_call 121;refine HC.out.mono ?_;rintro e w2 ⟨rfl,hL⟩;obtain⟨z2,h2s⟩:=HZ.out w2 hL;replace hL:=au hL))
  go_roundg (ts.length- (j+1))
  case measure=>omega
  case rel=>
   have hLL:=((aj.refl wr).alloc (.cells #[.bool true,.string kx] 98)).trans (bg hL);refine⟨j+1,by omega,by go_num,?_,?_,?_,by omega⟩;·show dK _ _ _ _;rw[E2.out];exact(HM.out.later hLL).mono (by omega)
   ·show iH.own _ _ _ _ _;rw[E2.out];exact aB.dH HO.out (Tn.of_below (p:=0) hLL.below) (by omega)
   exact ak HB.out hLL.below HB.out.size
 have e:j=ts.length:=by omega
 subst e;have HO2:Hid (iH.own 9 (w.heap.size+2) wr (.slice ao (bG [] (ts.take ts.length)).length co) (bG [] ts)):=by have:=HO.out;rw[List.take_length] at this⊢;exact this
 go_wp2;go_ret;exact⟨_,rfl,HO2.out,HB.out⟩
theorem bL {a:aJ} (h:aL a=0):a.name.length≤12∧a.terms.length≤4∧∀t∈a.terms,t.2.length≤12:=by
 unfold aL at h;split at h;·cases h
 rename_i h0;split at h;·cases h
 rename_i h1;split at h;·cases h
 rename_i h2;refine⟨?_,by omega,fun t ht=>?_⟩
 ·have:isNamed a.name=true:=by simpa using h0
  unfold isNamed at this;simp at this;exact this.1.1
 have h3:aW t=false:=by
  cases hc:aW t with
  |false=>rfl
  |true=>exact absurd (List.any_eq_true.2 ⟨t,ht,hc⟩) h2
 unfold aW at h3;split at h3
 ·have:isVar t.2=true:=by simpa using h3
  unfold isVar at this;simp at this;exact this.1.1
 have:isNamed t.2=true:=by simpa using h3
 unfold isNamed at this;simp at this;exact this.1.1
theorem dL {s:Bs} (h:s.length≤12):s.length≤maxLen:=by simp[maxLen];omega
theorem nR {l:List aJ} {j:Nat} {a:aJ} (h:l[j]?=some a) (s:Bs):givenBy (l.take (j+1)) s=(givenBy (l.take j) s||(!a.no&&(vars a).contains s)):=by rw[List.take_add_one,h];simp[givenBy]
theorem ny (a:aJ):(vars a).length≤a.terms.length:=by have:=ni a.terms [];simpa[vars] using this
theorem tT (a:aJ):∀s∈vars a,∃t∈a.terms,t.2=s:=by
 have:∀(ts:List dM) (l:List Bs),(∀s∈l,∃t∈a.terms,t.2=s)→(∀t∈ts,t∈a.terms)→∀s∈bG l ts,∃t∈a.terms,t.2=s:=by
  intro ts
  induction ts with
  |nil=>intro l h _;exact h
  |cons t ts ih=>
   intro l h hsub;refine ih _ (fun s hs0=>?_) (fun u hu=>hsub u (by simp[hu]));have hs:s∈(if t.1 then dz l t.2 else l):=hs0;clear hs0;split at hs
   ·unfold dz at hs;split at hs;·exact h s hs
    rcases List.mem_append.1 hs with hs|hs;·exact h s hs
    simp at hs;exact⟨t,hsub t (by simp),hs.symm⟩
   exact h s hs
 exact this a.terms [] (by simp) (fun t h=>h)
theorem yL (l:List aJ) (v:Value) (w:World) (hv:dY.sl bT w v l) (hf:∀a∈l,aL a=0) (hl:l.length≤5):
  Calls Tryz.prog 93 #[v] w fun e w'=>e=.returned (.map (some w.heap.size))∧dK w' w.heap.size 20 (givenBy l)∧Below w.heap.size w w':=by
 obtain⟨sa,cap,rfl⟩:=aB.slice hv;have HV:=au hv;clear hv;have HF:=au hf;clear hf;have hmm:= @run_makeMap Tryz.prog
 go_enter Tryz.func93,Tryz.ntmps93
 go_wp2
 go_loopg [9] l.length (fun k i wr=>∃j:Nat,j+k=l.length∧i=.int .i64 j∧Hid (dK wr w.heap.size (4*j) (givenBy (l.take j)))∧Hid (Below w.heap.size w wr)∧w.heap.size+1≤wr.heap.size)
 case atStart=>exact⟨0,by omega,rfl,kL.made Tryz.prog 9 w,((aj.refl w).alloc _).below,by simp⟩
 obtain⟨j,hj,rfl,HM,HB,hsz⟩:=hrel
 by_cases hlt:j<l.length
 ·obtain⟨x,hx⟩:∃x,l[j]?=some x:=⟨_,List.getElem?_eq_getElem hlt⟩;obtain⟨b1,o1,_,rfl,hb1,⟨sv,rfl,hsv⟩,hc⟩:=aB.bR HV.out hx;have d0:wr.cell? ⟨b1,o1+j*3,none⟩=some (.bool x.no):=by rw[HB.out.cell hb1];exact hc 0 _ rfl
  have d1:wr.cell? ⟨b1,o1+j*3+1,none⟩=some (.string (bs x.name)):=by rw[HB.out.cell hb1];exact hc 1 _ rfl
  have d2:wr.cell? ⟨b1,o1+j*3+2,none⟩=some sv:=by rw[HB.out.cell hb1];exact hc 2 _ rfl
  obtain⟨fn,ft,fs⟩:=bL (HF.out x (List.mem_of_getElem? hx));have E:=au (nR hx);have hbr:b1<wr.heap.size:=by omega
  have hj5:j<5:=by omega
  clear hc hx;cases hno:x.no
  ·have HC:Hid (Calls Tryz.prog 95 #[.agg #[.bool false,.string (bs x.name),sv]] (wr.alloc (.cells #[.bool false,.string (bs x.name),sv] 54)) fun e w2=>∃u,e=.returned u∧
     Hid (iH.sl (fun k=>k≠w.heap.size) w2 u (vars x))∧Hid (dK w2 w.heap.size (4*j) (givenBy (l.take j)))∧Hid (Below w.heap.size w w2)∧w.heap.size+1≤w2.heap.size):=by
    have hB1:Below w.heap.size w (wr.alloc (.cells #[.bool false,.string (bs x.name),sv] 54)):=HB.out.alloc HB.out.size _;have:=Fv x sv (wr.alloc (.cells #[.bool false,.string (bs x.name),sv] 54)) (aB.aO hsv hB1) (by omega) (fun t ht=>dL (fs t ht));rw[hno] at this;refine this.mono fun e w2 ⟨u,he,ho,hb⟩=>⟨u,he,?_,?_,?_,?_⟩;·refine aB.dX (aB.gQ ho (by have:=ny x;omega)) fun k _ hk=>?_;have:_≤k:=hk;simp only[World.size_alloc] at this;omega
    ·exact(HM.out.later ((aj.refl _).alloc _)).below hb
    ·exact ak hB1 hb (by simp;omega)
    ·have:=hb.size;simp at this;omega
   have HA:Hid (∀w2 u,Hid (iH.sl (fun k=>k≠w.heap.size) w2 u (vars x))→Hid (dK w2 w.heap.size (4*j) (givenBy (l.take j)))→Hid (Below w.heap.size w w2)→w.heap.size+1≤w2.heap.size→Calls Tryz.prog 120 #[.map (some w.heap.size),u] w2 fun e w3=>e=.returned (.tuple #[])∧
     Hid (dK w3 w.heap.size (4*(j+1)) (givenBy (l.take (j+1))))∧Hid (Below w.heap.size w w3)∧w.heap.size+1≤w3.heap.size):=fun w2 u h1 h2 h3 h4=>by
    have hvl:=ny x;refine(KE _ _ _ u (vars x) w2 h2.out h1.out (by simp[maxLen];omega) (fun s hs=>by obtain⟨t,ht,rfl⟩:=tT x s hs;exact dL (fs t ht))).mono fun e w3 ⟨he,k1,k2⟩=>⟨he,?_,?_,?_⟩
    ·exact(k1.mono (by omega)).congr fun s=>by rw[E.out s,hno];simp
    ·exact ak h3.out (k2.below (n:=w.heap.size) (Nat.le_refl _) (by omega)) (Nat.le_refl _)
    ·have:=k2.size;omega
   rw[hno] at d0;obtain⟨a2,c2,rfl⟩:=aB.slice hsv;clear hsv E HM HB fs hno;generalize bs x.name=nm at*
   go_wp2_with (first
    |(go_at_call 95;refine HC.out.mono ?_;rintro e w2 ⟨u,rfl,h1,h2,h3,h4⟩)
    |(go_at_call 120;refine(HA.out w2 u h1 h2 h3 h4).mono ?_;rintro e w3 ⟨rfl,k1,k2,k3⟩))
   go_roundg (l.length- (j+1))
   case measure=>omega
   case rel=>exact⟨j+1,by omega,by go_num,k1,k2,k3⟩
  have E1:Hid (∀s,givenBy (l.take (j+1)) s=givenBy (l.take j) s):=fun s=>by rw[E.out s,hno];simp
  rw[hno] at d0;obtain⟨a2,c2,rfl⟩:=aB.slice hsv;clear hsv E fs hno;generalize bs x.name=nm at*;go_wp2
  go_roundg (l.length- (j+1))
  case measure=>omega
  case rel=>exact⟨j+1,by omega,by go_num,((HM.out.later ((aj.refl _).alloc _)).mono (by omega)).congr fun s=>(E1.out s).symm,HB.out.alloc HB.out.size _,by simp;omega⟩
 have e:j=l.length:=by omega
 subst e;have HM2:Hid (dK wr w.heap.size 20 (givenBy l)):=by have:=HM.out;rw[List.take_length] at this;exact this.mono (by omega)
 go_wp2;go_ret;exact⟨rfl,HM2.out,HB.out⟩
theorem jY {l:List aJ} {j:Nat} {a:aJ} (h:l[j]?=some a):bE (l.drop j)=if aL a=0 then bE (l.drop (j+1)) else aL a:=by obtain⟨h1,e1⟩:=List.getElem?_eq_some_iff.1 h;rw[List.drop_eq_getElem_cons h1,e1];rfl
theorem yM (l:List aJ) (v:Value) (w:World) (hv:dY.sl bT w v l):
  Calls Tryz.prog 92 #[v] w fun e w'=>e=.returned (.int .i64 (aM l))∧Below w.heap.size w w':=by
 obtain⟨sa,cap,rfl⟩:=aB.slice hv;have hl0:=hv.1.1;have HV:=au hv;clear hv
 by_cases h5:5<l.length
 ·have F:Hid (aM l=5):=by show _=_;unfold aM;rw[if_pos h5]
  go_enter Tryz.func92,Tryz.ntmps92
  go_wp2;go_ret;exact⟨by rw[F.out];rfl,Below.refl _ _⟩
 have F:Hid (aM l=if bE l=0 then(if l.all (fun a=>(vars a).all (givenBy l)) then 0 else 9) else bE l):=by show _=_;unfold aM;rw[if_neg h5]
 go_enter Tryz.func92,Tryz.ntmps92
 go_wp2
 go_loopg [14] l.length (fun k i wr=>∃j:Nat,j+k=l.length∧i=.int .i64 j∧Hid (bE l=bE (l.drop j))∧Hid (∀a∈l.take j,aL a=0)∧Hid (Below w.heap.size w wr))
 case atStart=>exact⟨0,by omega,rfl,(rfl:_=_),(fun a ha=>by simp at ha),Below.refl _ _⟩
 obtain⟨j,hj,rfl,HE,HG,HB⟩:=hrel;have hwr:=HB.out.size
 by_cases hlt:j<l.length
 ·obtain⟨x,hx⟩:∃x,l[j]?=some x:=⟨_,List.getElem?_eq_getElem hlt⟩;obtain⟨b1,o1,_,rfl,hb1,⟨sv,rfl,hsv⟩,hc⟩:=aB.bR HV.out hx;have d0:wr.cell? ⟨b1,o1+j*3,none⟩=some (.bool x.no):=by rw[HB.out.cell hb1];exact hc 0 _ rfl
  have d1:wr.cell? ⟨b1,o1+j*3+1,none⟩=some (.string (bs x.name)):=by rw[HB.out.cell hb1];exact hc 1 _ rfl
  have d2:wr.cell? ⟨b1,o1+j*3+2,none⟩=some sv:=by rw[HB.out.cell hb1];exact hc 2 _ rfl
  have hbr:b1<wr.heap.size:=by omega
  have hB1:Below w.heap.size w (wr.alloc (.cells #[.bool x.no,.string (bs x.name),sv] 54)):=HB.out.alloc HB.out.size _;have HC:Hid (Calls Tryz.prog 91 #[.agg #[.bool x.no,.string (bs x.name),sv]] (wr.alloc (.cells #[.bool x.no,.string (bs x.name),sv] 54)) fun e w2=>e=.returned (.int .i64 (aL x))∧Hid (Below w.heap.size w w2)):=
   (rF x sv _ (aB.aO hsv hB1)).mono fun e w2 ⟨he,hL⟩=>⟨he,ak hB1 hL.below (by simp;omega)⟩
  have hst:=jY hx;obtain⟨a2,c2,rfl⟩:=aB.slice hsv
  by_cases h0:aL x=0
  ·have HE1:Hid (bE l=bE (l.drop (j+1))):=by show _=_;rw[HE.out,hst,if_pos h0]
   have HG1:Hid (∀a∈l.take (j+1),aL a=0):=fun a ha=>by
    rw[List.take_add_one,hx] at ha;rcases List.mem_append.1 ha with ha|ha
    ·exact HG.out a ha
    simp at ha;rw[ha];exact h0
   rw[h0] at HC;clear hst hc hx hsv hB1 HE HG h0;generalize bs x.name=nm at*;generalize x.no=xn at*
   go_wp2_with (go_at_call 91;refine HC.out.mono ?_;rintro e w2 ⟨rfl,hB2⟩)
   go_roundg (l.length- (j+1))
   case measure=>omega
   case rel=>exact⟨j+1,by omega,by go_num,HE1,HG1,hB2⟩
  have F2:Hid (aM l=aL x):=by show _=_;rw[F.out,HE.out,hst,if_neg h0,if_neg h0]
  have hq:(aL x != 0)=true:=by simpa using h0
  clear hst hc hx hsv hB1 HE HG h0;generalize bs x.name=nm at*;generalize x.no=xn at*;generalize aL x=ex at*
  go_wp2_with (go_at_call 91;refine HC.out.mono ?_;rintro e w2 ⟨rfl,hB2⟩)
  go_ret;exact⟨by rw[F2.out];rfl,hB2.out⟩
 have e:j=l.length:=by omega
 subst e;have HG1:Hid (∀a∈l,aL a=0):=by have:=HG.out;rw[List.take_length] at this;exact this
 have F1:Hid (aM l=if l.all (fun a=>(vars a).all (givenBy l)) then 0 else 9):=by show _=_;rw[F.out,if_pos];rw[HE.out,List.drop_length];rfl
 have HGB:Hid (Calls Tryz.prog 93 #[.slice sa l.length cap] wr fun e w'=>e=.returned (.map (some wr.heap.size))∧Hid (dK w' wr.heap.size 20 (givenBy l))∧Hid (Below w.heap.size w w')∧Hid (Below wr.heap.size wr w')):=
  (yL l _ wr (aB.aO HV.out HB.out) HG1.out (by omega)).mono fun e w' ⟨he,h1,h2⟩=>⟨he,h1,ak HB.out h2 hwr,h2⟩
 clear HE HG HB F;generalize hgb:givenBy l=gb at*;clear hgb;generalize hbk:wr.heap.size=bk at*;clear hbk
 go_wp2_with (go_at_call 93;refine HGB.out.mono ?_;rintro e w3 ⟨rfl,hM3,hB3,_⟩)
 go_loopg [28] l.length (fun k i wr=>∃j:Nat,j+k=l.length∧i=.int .i64 j∧Hid (dK wr bk 20 gb)∧Hid (l.all (fun a=>(vars a).all gb)=(l.drop j).all (fun a=>(vars a).all gb))∧Hid (Below w.heap.size w wr))
 case atStart=>exact⟨0,by omega,rfl,hM3,(rfl:_=_),hB3⟩
 obtain⟨j,hj,rfl,HM,HF,HB⟩:=hrel;have hwr:=HB.out.size
 by_cases hlt:j<l.length
 ·obtain⟨x,hx⟩:∃x,l[j]?=some x:=⟨_,List.getElem?_eq_getElem hlt⟩;obtain⟨b1,o1,_,rfl,hb1,⟨sv,rfl,hsv⟩,hc⟩:=aB.bR HV.out hx;have d0:wr.cell? ⟨b1,o1+j*3,none⟩=some (.bool x.no):=by rw[HB.out.cell hb1];exact hc 0 _ rfl
  have d1:wr.cell? ⟨b1,o1+j*3+1,none⟩=some (.string (bs x.name)):=by rw[HB.out.cell hb1];exact hc 1 _ rfl
  have d2:wr.cell? ⟨b1,o1+j*3+2,none⟩=some sv:=by rw[HB.out.cell hb1];exact hc 2 _ rfl
  obtain⟨fn,ft,fs⟩:=bL (HG1.out x (List.mem_of_getElem? hx));have hbr:b1<wr.heap.size:=by omega
  have hB1:Below w.heap.size w (wr.alloc (.cells #[.bool x.no,.string (bs x.name),sv] 54)):=HB.out.alloc HB.out.size _;have HC:Hid (Calls Tryz.prog 95 #[.agg #[.bool x.no,.string (bs x.name),sv]] (wr.alloc (.cells #[.bool x.no,.string (bs x.name),sv] 54)) fun e w2=>∃u,e=.returned u∧
    Hid (iH.sl bT w2 u (vars x))∧Hid (dK w2 bk 20 gb)∧Hid (Below w.heap.size w w2)):=
   (Fv x sv _ (aB.aO hsv hB1) (by omega) (fun t ht=>dL (fs t ht))).mono fun e w2 ⟨u,he,ho,hb⟩=>⟨u,he,aB.dO (aB.gQ ho (by have:=ny x;omega)),(HM.out.later ((aj.refl _).alloc _)).below hb,ak hB1 hb (by simp;omega)⟩
  have HA:Hid (∀w2 u,Hid (iH.sl bT w2 u (vars x))→Hid (dK w2 bk 20 gb)→Hid (Below w.heap.size w w2)→Calls Tryz.prog 94 #[.map (some bk),u] w2 fun e w3=>e=.returned (.bool ((vars x).all gb))∧
    Hid (dK w3 bk 20 gb)∧Hid (Below w.heap.size w w3)):=fun w2 u h1 h2 h3=>
   (Bq _ _ _ u (vars x) w2 h2.out h1.out (fun s hs=>by obtain⟨t,ht,rfl⟩:=tT x s hs;exact dL (fs t ht))).mono fun e w3 ⟨he,hL⟩=>⟨he,h2.out.later hL,ak h3.out hL.below h3.out.size⟩
  have hst:=tQ hx (fun a=>(vars a).all gb);obtain⟨a2,c2,rfl⟩:=aB.slice hsv;generalize hvx:(vars x).all gb=vx at*;cases vx
  ·have F2:Hid (aM l=9):=by show _=_;rw[F1.out,HF.out,hst];rfl
   clear hst hc hx hsv hB1 HM HF hvx F1 fs;generalize bs x.name=nm at*;generalize x.no=xn at*
   go_wp2_with (first
    |(go_at_call 95;refine HC.out.mono ?_;rintro e w4 ⟨u,rfl,h1,h2,h3⟩)
    |(go_at_call 94;refine(HA.out w4 u h1 h2 h3).mono ?_;rintro e w5 ⟨rfl,k1,k2⟩))
   go_ret;exact⟨by rw[F2.out];rfl,k2.out⟩
  have HF1:Hid (l.all (fun a=>(vars a).all gb)=(l.drop (j+1)).all (fun a=>(vars a).all gb)):=by show _=_;rw[HF.out,hst];rfl
  clear hst hc hx hsv hB1 HM HF hvx fs;generalize bs x.name=nm at*;generalize x.no=xn at*
  go_wp2_with (first
   |(go_at_call 95;refine HC.out.mono ?_;rintro e w4 ⟨u,rfl,h1,h2,h3⟩)
   |(go_at_call 94;refine(HA.out w4 u h1 h2 h3).mono ?_;rintro e w5 ⟨rfl,k1,k2⟩))
  go_roundg (l.length- (j+1))
  case measure=>omega
  case rel=>exact⟨j+1,by omega,by go_num,k1,HF1,k2⟩
 have F2:Hid (aM l=0):=by show _=_;rw[F1.out,HF.out,List.drop_eq_nil_of_le (by omega)];rfl
 go_wp2;go_ret;exact⟨by rw[F2.out];rfl,HB.out⟩
theorem Strs.below {w w':World} {v:Value} {l:List ByteArray} (h:Strs w v l) (k:Below w.heap.size w w'):Strs w' v l:=by obtain⟨h0,a,cap,rfl,h1⟩:=h;refine⟨h0,a,cap,rfl,fun hl=>?_⟩;obtain⟨b,off,rfl,hb,hc⟩:=h1 hl;exact⟨b,off,rfl,Nat.lt_of_lt_of_le hb k.size,fun i hi=>by rw[k.cell (p:=⟨b,off+i,none⟩) hb];exact hc i hi⟩
theorem Facts.below {w w':World} {v:Value} {l:List aG} (h:Facts w v l) (k:Below w.heap.size w w'):Facts w' v l:=by obtain⟨h0,a,cap,rfl,h1⟩:=h;refine⟨h0,a,cap,rfl,fun hl=>?_⟩;obtain⟨b,off,rfl,hb,hc⟩:=h1 hl;refine⟨b,off,rfl,Nat.lt_of_lt_of_le hb k.size,fun i hi=>?_⟩;obtain⟨c1,s,c2,c3⟩:=hc i hi;exact⟨by rw[k.cell (p:=⟨b,off+i*2,none⟩) hb];exact c1,s,by rw[k.cell (p:=⟨b,off+i*2+1,none⟩) hb];exact c2,c3.below k⟩
def vM (g:Nat) (cb:Array Value) (pick:Nat→List aG) (n:Nat) (w0:World):Prop:=∀(W:World) (k:Nat),Below n w0 W→(k:Int)≤100→
 Calls Tryz.prog g (#[.int .i64 k]++cb) W fun e w'=>∃v,e=.returned v∧Facts w' v (pick k)∧aj W w'
theorem vM.below {g:Nat} {cb:Array Value} {pick:Nat→List aG} {n m:Nat} {a b:World} (h:vM g cb pick n a) (k:Below n a b) (hm:n≤m):vM g cb pick m b:=fun W i hW hi=>h W i (ak k hW hm) hi
theorem kR:∀args w,(callFunc 130 args).run Tryz.prog w=.ok (.enter 130 args) w:=enters_of Tryz.func130 (by kernel_rfl) rfl
theorem Fw (fv ov:Value) (fs os:List aG) (at_:Int) (w:World) (hf:Facts w fv fs) (ho:Facts w ov os):
  Calls Tryz.prog 109 #[fv,.int .i64 at_,ov] w fun e w'=>e=.returned (.func (.func 130) #[] #[.pointer (some ⟨w.heap.size+1,0,none⟩),.pointer (some ⟨w.heap.size+2,0,none⟩),.pointer (some ⟨w.heap.size,0,none⟩)])∧aj w w'∧w'.heap.size=w.heap.size+3∧
   w'.cell? ⟨w.heap.size,0,none⟩=some fv∧w'.cell? ⟨w.heap.size+1,0,none⟩=some (.int .i64 at_)∧w'.cell? ⟨w.heap.size+2,0,none⟩=some ov:=by
 obtain⟨fa,Bl,rfl⟩:=aC hf;obtain⟨oa,LA,rfl⟩:=aC ho;clear hf ho
 go_enter Tryz.func109,Tryz.ntmps109
 go_wp2;go_ret;refine⟨rfl,(by repeat (first|exact aj.refl _|assumption|refine aj.drewN ?_ _|refine aj.drew ?_|refine aj.alloc ?_ _|refine aj.grow ?_ _)),by simp,(CZ (t:=24) ?_).1,(CZ (t:=3) ?_).1,(CZ (t:=24) ?_).1⟩
 all_goals
  simp only[fT,World.size_alloc]
  repeat (first|rw[if_pos trivial]|rw[if_pos (by omega)]|rw[if_neg (by omega)])
theorem Dy (c0 c1 c2:Nat) (fv ov:Value) (fs os:List aG) (at_:Int) (n:Nat) (w0:World) (hf:Facts w0 fv fs) (ho:Facts w0 ov os) (h0:w0.cell? ⟨c0,0,none⟩=some fv) (h1:w0.cell? ⟨c1,0,none⟩=some (.int .i64 at_)) (h2:w0.cell? ⟨c2,0,none⟩=some ov) (b0:c0<n) (b1:c1<n) (b2:c2<n) (hn:n=w0.heap.size):
  vM 130 #[.pointer (some ⟨c1,0,none⟩),.pointer (some ⟨c2,0,none⟩),.pointer (some ⟨c0,0,none⟩)] (bW fs at_ os) n w0:=by
 intro W k hW hk;have hW':Below w0.heap.size w0 W:=by rw[←hn];exact hW
 have z0:W.cell? ⟨c0,0,none⟩=some fv:=by rw[hW.cell b0];exact h0
 have z1:W.cell? ⟨c1,0,none⟩=some (.int .i64 at_):=by rw[hW.cell b1];exact h1
 have z2:W.cell? ⟨c2,0,none⟩=some ov:=by rw[hW.cell b2];exact h2
 have HF:=au (hf.below hW');have HO:=au (ho.below hW');obtain⟨fa,Bl,rfl⟩:=aC hf;obtain⟨oa,LA,rfl⟩:=aC ho;have s0:c0<W.heap.size:=by have:=hW.size;omega
 have s1:c1<W.heap.size:=by have:=hW.size;omega
 have s2:c2<W.heap.size:=by have:=hW.size;omega
 clear hf ho h0 h1 h2 hW' hW;unfold bW;show Calls _ _ #[.int .i64 k,.pointer (some ⟨c1,0,none⟩),.pointer (some ⟨c2,0,none⟩),.pointer (some ⟨c0,0,none⟩)] _ _
 by_cases he:(k:Int)=at_
 ·have HE:=au he;have hq:((k:Int)==at_)=true:=by simpa using he
  have hP:(if(k:Int)=at_ then os else fs)=os:=if_pos he;rw[hP];clear he hP HF
  go_enter Tryz.func130,Tryz.ntmps130
  go_wp2;go_ret;exact⟨_,rfl,HO.out,aj.refl _⟩
 have hq:((k:Int)==at_)=false:=by simpa using he
 have hP:(if(k:Int)=at_ then os else fs)=fs:=if_neg he;rw[hP];clear he hP HO
 go_enter Tryz.func130,Tryz.ntmps130
 go_wp2;go_ret;exact⟨_,rfl,HF.out,aj.refl _⟩
theorem nA:∀(ts:List dM) (xs:List ByteArray) (l m:List aI),dN l ts xs=some m→m.length≤l.length+ts.length
 |[],_,l,m,h=>by cases h;simp
 |_::_,[],_,_,h=>by cases h
 |t::ts,x::xs,l,m,h=>by
  simp only[dN] at h;split at h;·have:=nA ts xs _ m h;simp at this⊢;omega
  split at h;·have:=nA ts xs _ m h;simp;omega
  cases h
theorem vN {a:aJ} {fs:List aF} {ls:List (List aI)} {n:Nat} (h:∀l∈ls,l.length≤n):∀m∈aQ a fs ls,m.length≤n+a.terms.length:=fun m hm=>by
 obtain⟨l,hl,f,_,hf⟩:=iM.1 hm;have h1:=h l hl;unfold fA at hf;split at hf;·have:=nA _ _ _ _ hf;omega
 cases hf
theorem zP {pick:Nat→List aF} {body:List aJ} {j:Nat} {a:aJ} (h:body[j]?=some a) (ls:List (List aI)):eu pick j (body.drop j) ls=if a.no then eu pick (j+1) (body.drop (j+1)) ls else if 20000<(aQ a (pick j) ls).length then none else eu pick (j+1) (body.drop (j+1)) (aQ a (pick j) ls):=by obtain⟨h1,e1⟩:=List.getElem?_eq_some_iff.1 h;rw[List.drop_eq_getElem_cons h1,e1];rfl
def LB (w0 w:World) (v:Value) (e:Int) (r:Option (List (List aI))):Prop:=match r with
 |none=>v=.slice none 0 0∧e=4
 |some ms=>e=0∧∃ps,ps.map (·.2)=ms∧ms.length≤20000∧(∀m∈ms,m.length≤20)∧Lists 142 170 w0.heap.size w v ps
theorem Bv (lo:Nat) (w:World) (hlo:lo≤w.heap.size):Lists 142 170 lo (w.alloc (.cells #[.slice none 0 0] 142)) (.slice (some ⟨w.heap.size,0,none⟩) 1 1) [(.slice none 0 0,[])]:=by refine⟨⟨rfl,Or.inr ⟨w.heap.size,1,#[.slice none 0 0],rfl,hlo,heap_alloc_new _ _,by simp,by simp[maxLen],rfl,rfl⟩⟩,fun p hp=>?_,List.pairwise_singleton _ _⟩;simp at hp;subst hp;exact⟨bO.gX _ _ _,fun k e=>by simp[Value.ownBlock] at e⟩
theorem LC (body:List aJ) (v:Value) (g:Nat) (cb:Array Value) (eg:∀args w,(callFunc g args).run Tryz.prog w=.ok (.enter g args) w) (pick:Nat→List aG) (w:World) (hv:dY.sl bT w v body) (hp:vM g cb pick w.heap.size w) (hb:body.length≤5) (ha:∀a∈body,a.terms.length≤4) (hfs:∀n,(pick n).length≤200):
  Calls Tryz.prog 110 #[v,.func (.func g) #[] cb] w fun e w'=>∃v' er,e=.returned (.tuple #[v',.int .i64 er])∧LB w w' v' er (eu pick 0 body [[]])∧aj w w':=by
 obtain⟨sa,cap,rfl⟩:=aB.slice hv;have HV:=au hv;have HP:=au hp;have HA:=au ha;have HFS:=au hfs;clear hv hp ha hfs;generalize hR:eu pick 0 body [[]]=R at*;have H0:Hid (R=eu pick 0 (body.drop 0) [[]]):=hR.symm;clear hR
 go_enter Tryz.func110,Tryz.ntmps110
 go_wp2
 go_loopg [6,13] body.length (fun gg o i wr=>∃j:Nat,j+gg=body.length∧i=.int .i64 j∧∃ps,Hid (R=eu pick j (body.drop j) (ps.map (·.2)))∧Hid (Lists 142 170 w.heap.size wr o ps)∧Hid (ps.length≤20000)∧Hid (∀p∈ps,p.2.length≤4*j)∧Hid (aj w wr))
 case atStart=>
  exact⟨0,by omega,rfl,[(.slice none 0 0,[])],H0,Bv _ _ (Nat.le_refl _),(by simp:_≤_),(fun p hp=>by simp at hp;subst hp;simp),((by repeat (first|exact aj.refl _|assumption|refine aj.drewN ?_ _|refine aj.drew ?_|refine aj.alloc ?_ _|refine aj.grow ?_ _)):aj _ _)⟩
 obtain⟨j,hj,rfl,ps,HE,HO,HN,HQ,HL⟩:=hrel;have hn:=HN.out;obtain⟨ao,no',co,rfl⟩:∃a n c,u6=.slice a n c:=by obtain⟨a,c,e⟩:=Lists.slice HO.out;exact⟨a,_,c,e⟩
 by_cases hlt:j<body.length
 ·obtain⟨a,hx⟩:∃x,body[j]?=some x:=⟨_,List.getElem?_eq_getElem hlt⟩;obtain⟨b1,o1,_,rfl,hb1,⟨sv,rfl,hsv⟩,hc⟩:=aB.bR HV.out hx;have d0:wr.cell? ⟨b1,o1+j*3,none⟩=some (.bool a.no):=by rw[HL.out.cell hb1];exact hc 0 _ rfl
  have d1:wr.cell? ⟨b1,o1+j*3+1,none⟩=some (.string (bs a.name)):=by rw[HL.out.cell hb1];exact hc 1 _ rfl
  have d2:wr.cell? ⟨b1,o1+j*3+2,none⟩=some sv:=by rw[HL.out.cell hb1];exact hc 2 _ rfl
  have hbr:b1<wr.heap.size:=Nat.lt_of_lt_of_le hb1 HL.out.size;have hat:=HA.out a (List.mem_of_getElem? hx);have HS:=au (zP (pick:=pick) hx (ps.map (·.2)));obtain⟨sva,svc,rfl⟩:=aB.slice hsv;have HSV:=au hsv;clear hc hx hsv;cases hno:a.no
  ·have HS1:Hid (R=if 20000<(aQ a (pick j) (ps.map (·.2))).length then none else eu pick (j+1) (body.drop (j+1)) (aQ a (pick j) (ps.map (·.2)))):=by
    show _=_;rw[HE.out,HS.out,hno];rfl
   rw[hno] at d0;obtain⟨wb,hwb⟩:∃wb,wb=wr.alloc (.cells #[.bool false,.string (bs a.name),.slice sva a.terms.length svc] 54):=⟨_,rfl⟩;have hLb:aj w wb:=by rw[hwb];exact HL.out.alloc _
   have hLr:aj wr wb:=by rw[hwb];exact(aj.refl _).alloc _
   have z:wb.cell? ⟨wr.heap.size,0,none⟩=some (.bool false)∧wb.cell? ⟨wr.heap.size,1,none⟩=some (.string (bs a.name))∧wb.cell? ⟨wr.heap.size,2,none⟩=some (.slice sva a.terms.length svc):=by rw[hwb];simp
   have hsb:wr.heap.size<wb.heap.size:=by rw[hwb];simp
   have CELL:Hid (∀w',aj wb w'→w'.cell? ⟨wr.heap.size,0,none⟩=some (.bool false)∧w'.cell? ⟨wr.heap.size,1,none⟩=some (.string (bs a.name))∧w'.cell? ⟨wr.heap.size,2,none⟩=some (.slice sva a.terms.length svc)):=fun w' hL=>
    ⟨by rw[hL.cell hsb];exact z.1,by rw[hL.cell hsb];exact z.2.1,by rw[hL.cell hsb];exact z.2.2⟩
   have HFr:Hid (∀w',aj wb w'→Calls Tryz.prog g (#[.int .i64 j]++cb) w' fun e w2=>∃v,e=.returned v∧Facts w2 v (pick j)∧aj w' w2):=fun w' hL=>
    HP.out w' j (hLb.trans hL).below (by omega)
   have HMA:Hid (∀w' fv,aj wb w'→Facts w' fv (pick j)→Calls Tryz.prog 131 #[.agg #[.bool false,.string (bs a.name),.slice sva a.terms.length svc],fv,.slice ao no' co] w' fun e w2=>∃v' er,e=.returned (.tuple #[v',.int .i64 er])∧Hid (er=if 20000<(aQ a (pick j) (ps.map (·.2))).length then 4 else 0)∧Hid (vK w' w2 v' (aQ a (pick j) (ps.map (·.2))))∧aj w' w2):=fun w' fv hL hf=>by
    have h1:=Dw a _ fv (.slice ao no' co) (pick j) (ps.map (·.2)) w' (aB.aS HSV.out (hLb.trans hL)) hf (aB.dO ((HO.out.later (hLr.trans hL)).sl (by omega) (fun p hp=>by have:=HQ.out p hp;omega))) (HFS.out j) (by simpa using hn) hat (fun l hl=>by obtain⟨p,hp,rfl⟩:=List.mem_map.1 hl;have:=HQ.out p hp;omega)
    rw[hno] at h1;exact h1.mono fun e w2 ⟨v',he,hm,hl⟩=>⟨v',_,he,(rfl:_=_),hm,hl⟩
   have HWB:=au hwb;have HQ1:Hid (∀m∈aQ a (pick j) (ps.map (·.2)),m.length≤4*(j+1)):=fun m hm=>by
    have:=vN (a:=a) (fs:=pick j) (ls:=ps.map (·.2)) (n:=4*j) (fun l hl=>by obtain⟨p,hp,rfl⟩:=List.mem_map.1 hl;exact HQ.out p hp) m hm
    omega
   clear hwb z hsb HE HS HSV hno;generalize aQ a (pick j) (ps.map (·.2))=MA at*;generalize bs a.name=nm at*;go_wp2;rw[←HWB.out];refine wp_region_held_drew (S:=fun w'=>aj wb w') (by kernel_rfl) (aj.refl _).drew (fun hHeld=>?_);refine tkY 0 21 hHeld ?_ rfl fun w hSw=>by obtain⟨q0,q1,q2⟩:=CELL.out w hSw;go_simp;try with_reducible rfl
   refine tkY 1 22 hHeld ?_;refine tkY 2 23 hHeld ?_;refine tkY 4 25 hHeld ?_;refine tkC 3 fun K hK=>?_;go_simp;refine(HFr.out _ hHeld).mono ?_;rintro e u1 ⟨fv,rfl,hfv,hU1⟩;dsimp only;have Eu:aj wb u1:=aj.trans hHeld hU1;refine hK.out _ _ Eu (fun hHeld=>?_);clear hK K;refine tkC 5 fun K hK=>?_;go_simp;refine(HMA.out _ fv Eu hfv).mono ?_;rintro e u2 ⟨v',er,rfl,HER,HMT,hU2⟩;dsimp only;have G8:aj wb u2:=Eu.trans hU2;refine hK.out _ _ G8 (fun hHeld=>?_);clear hK K;refine tkY 6 20 hHeld ?_;refine tkY 7 27 hHeld ?_;refine tkY 8 28 hHeld ?_;refine tkY 9 6 hHeld ?_;refine tkY 10 9 hHeld ?_;refine wpAnyH_done (by kernel_rfl) ?_ _;have hLu:aj w u2:=hLb.trans G8;have hsu:w.heap.size≤u1.heap.size:=(hLb.trans Eu).size
   by_cases hbig:20000<MA.length
   ·have HR:Hid (R=none):=by show _=_;rw[HS1.out,if_pos hbig]
    have he:er=4:=by rw[HER.out,if_pos hbig]
    subst he;clear hbig HER HMT HS1;go_wp2
    go_ret2
    exact⟨_,_,rfl,by rw[HR.out];exact⟨rfl,rfl⟩,hLu⟩
   have HR:Hid (R=eu pick (j+1) (body.drop (j+1)) MA):=by show _=_;rw[HS1.out,if_neg hbig]
   have he:er=0:=by rw[HER.out,if_neg hbig]
   subst he;have hmt:=HMT.out;unfold vK at hmt;rw[if_neg hbig] at hmt;obtain⟨ps',I8,hLs⟩:=hmt;have HR2:Hid (R=eu pick (j+1) (body.drop (j+1)) (ps'.map (·.2))):=by show _=_;rw[I8];exact HR.out
   have HN2:Hid (ps'.length≤20000):=by show _≤_;rw[←I8,List.length_map] at hbig;omega
   have HQ2:Hid (∀p∈ps',p.2.length≤4*(j+1)):=fun p hp=>HQ1.out _ (by rw[←I8];exact List.mem_map.2 ⟨p,hp,rfl⟩);have HO2:=au (hLs.base hsu);obtain⟨a4,n4,c4,rfl⟩:∃a n c,v'=.slice a n c:=by obtain⟨a,c,e⟩:=Lists.slice hLs;exact⟨a,_,c,e⟩
   clear hbig HER HMT HS1 I8 hLs HR;go_wp2
   go_roundg (body.length- (j+1))
   case measure=>omega
   case rel=>exact⟨j+1,by omega,by go_num,ps',HR2,HO2,HN2,HQ2,hLu⟩
  have HS1:Hid (R=eu pick (j+1) (body.drop (j+1)) (ps.map (·.2))):=by show _=_;rw[HE.out,HS.out,hno];rfl
  rw[hno] at d0;clear HE HS hno;generalize bs a.name=nm at*;go_wp2
  go_roundg (body.length- (j+1))
  case measure=>omega
  case rel=>exact⟨j+1,by omega,by go_num,ps,HS1,HO.out.later ((aj.refl _).alloc _),HN,(fun p hp=>by have:=HQ.out p hp;omega),HL.out.alloc _⟩
 have e:j=body.length:=by omega
 have HR:Hid (R=some (ps.map (·.2))):=by show _=_;rw[HE.out,List.drop_eq_nil_of_le (by omega)];rfl
 clear HE;go_wp2
 go_ret2
 refine⟨_,_,rfl,?_,HL.out⟩;rw[HR.out];exact⟨rfl,ps,rfl,by simpa using hn,fun m hm=>by obtain⟨p,hp,rfl⟩:=List.mem_map.1 hm;have:=HQ.out p hp;omega,HO.out⟩
theorem jZ {w:World} {b:Nat} {es:Array MapEntry} {c:Nat} {x:Addr} {v:Value} (hb:w.heap[b]?=some (.map es c)) (hx:w.cell? x=some v):x.block≠b:=by intro e;subst e;simp[World.cell?,hb] at hx
theorem vO {P:Program} {K:TypeId} {w:World} {b n:Nat} {L:List aF} (h:eU P K w b n L):∃es c,w.heap[b]?=some (.map es c):=by obtain⟨D,⟨es,c,hb,_⟩,_⟩:=h;exact⟨es,c,hb⟩
theorem Bw {w w':World} {b:Nat} {v:Value} {l:List ByteArray} (h:Strs w v l) (hb:∃es c,w.heap[b]?=some (.map es c)) (k:Tn b w w'):Strs w' v l:=by obtain⟨es,c,hb⟩:=hb;obtain⟨h0,a,cap,rfl,h1⟩:=h;refine⟨h0,a,cap,rfl,fun hl=>?_⟩;obtain⟨b1,off,rfl,hlt,hc⟩:=h1 hl;refine⟨b1,off,rfl,Nat.lt_of_lt_of_le hlt k.size,fun i hi=>?_⟩;rw[k.cell (x:=⟨b1,off+i,none⟩) hlt (jZ hb (hc i hi))];exact hc i hi
theorem Dz {w w':World} {b:Nat} {v:Value} {f:aG} (h:dh w v f) (hb:∃es c,w.heap[b]?=some (.map es c)) (k:Tn b w w'):dh w' v f:=by obtain⟨s,rfl,h1⟩:=h;exact⟨s,rfl,Bw h1 hb k⟩
theorem DC {w w':World} {b:Nat} {v:Value} {l:List aG} (h:Facts w v l) (hb:∃es c,w.heap[b]?=some (.map es c)) (k:Tn b w w'):Facts w' v l:=by obtain⟨h0,a,cap,rfl,h1⟩:=h;refine⟨h0,a,cap,rfl,fun hl=>?_⟩;obtain⟨b1,off,rfl,hlt,hc⟩:=h1 hl;refine⟨b1,off,rfl,Nat.lt_of_lt_of_le hlt k.size,fun i hi=>?_⟩;obtain⟨c1,s,c2,c3⟩:=hc i hi;obtain⟨es,c,hb'⟩:=hb;exact⟨by rw[k.cell (x:=⟨b1,off+i*2,none⟩) hlt (jZ hb' c1)];exact c1,s,by rw[k.cell (x:=⟨b1,off+i*2+1,none⟩) hlt (jZ hb' c2)];exact c2,Bw c3 ⟨es,c,hb'⟩ k⟩
theorem fH {b:Nat} {w w':World} (h:w.grownBy w' (some b)):Tn b w w':=⟨h.os,h.tape,h.output,h.size,fun k hk hb=>h.block k hk (fun e=>hb (by cases e;rfl))⟩
abbrev KnN (w:World) (b n:Nat) (L:List aF):Prop:=eU Tryz.prog 9 w b n L
theorem DF (b n:Nat) (L:List aF) (v:Value) (l:List aF) (w:World) (hK:KnN w b n L) (hv:Facts w v l) (hs:∀f∈l,qY f) (hn:n+l.length<1000000):
  Calls Tryz.prog 106 #[.map (some b),v] w fun e w'=>(∃u,e=.returned u)∧KnN w' b (n+l.length) (L++l)∧Tn b w w':=by
 obtain⟨a,cap,rfl,hl,hz⟩:=hv.addr;have hM:=vO hK;have HM:=au hM;have HV:=au hv;have HS:=au hs;have HK:Hid (KnN w b (n+0) (L++l.take 0)):=by show KnN _ _ _ _;simpa using hK
 clear hv hs hK hM
 go_enter Tryz.func106,Tryz.ntmps106
 go_wp2
 go_loopg [8] l.length (fun k i wr=>∃j:Nat,j+k=l.length∧i=.int .i64 j∧Hid (KnN wr b (n+j) (L++l.take j))∧Hid (Tn b w wr))
 case atStart=>exact⟨0,by omega,rfl,HK,Tn.refl _ _⟩
 clear HK;obtain⟨j,hj,rfl,HK,HT⟩:=hrel
 by_cases hlt:j<l.length
 ·rcases hz with rfl|⟨b1,off,rfl⟩;·simp at hlt
  have hltz:(j:Int)<(l.length:Int):=by omega
  have hFr:=DC HV.out HM.out HT.out;obtain⟨hb,ax,lx,cx,g1,g2,fx⟩:=hFr.at hlt;have hfm:l.getD j aA∈l:=by rw[List.getD_eq_getElem?_getD,List.getElem?_eq_getElem hlt];exact List.getElem_mem hlt
  have htk:l.take (j+1)=l.take j++[l.getD j aA]:=by rw[List.take_add_one,List.getD_eq_getElem?_getD,List.getElem?_eq_getElem hlt];rfl
  have hsh:=HS.out _ hfm;obtain⟨wb,hwb⟩:∃wb,wb=wr.alloc (.cells #[.string (l.getD j aA).1,.slice ax lx cx] 50):=⟨_,rfl⟩;have hLb:aj wr wb:=by rw[hwb];exact(aj.refl _).alloc _
  have hrb:wb.heap[wr.heap.size]?=some (.cells #[.string (l.getD j aA).1,.slice ax lx cx] 50 (0,0)):=by rw[hwb];exact heap_alloc_new wr _
  have hfb:=fx.later hLb;have hKb:=HK.out.later hLb;have HC:Hid (∀w',Below wb.heap.size wb w'→Calls Tryz.prog 126 #[.agg #[.string (l.getD j aA).1,.slice ax lx cx]] w' fun e w''=>e=.returned (.string (bs (oM (l.getD j aA))))∧Hid (Below wb.heap.size wb w'')):=fun w' hw=>
   (GI _ _ w' (lu hfb hw) hsh).mono fun e w'' ⟨he,h2⟩=>⟨he,ak hw h2 hw.size⟩
  have hcell:∀w',Below wb.heap.size wb w'→w'.cell? ⟨wr.heap.size,0,none⟩=some (.string (l.getD j aA).1)∧w'.cell? ⟨wr.heap.size,0+1,none⟩=some (.slice ax lx cx):=fun w' hw=>by
   have hlt':wr.heap.size<wb.heap.size:=(Array.getElem?_eq_some_iff.1 hrb).1
   constructor
   ·rw[hw.cell (p:=⟨wr.heap.size,0,none⟩) hlt',cell_of_row _ _ _ _ _ _ hrb];rfl
   rw[hw.cell (p:=⟨wr.heap.size,0+1,none⟩) hlt',cell_of_row _ _ _ _ _ _ hrb];rfl
  have HU:Hid (∀w',Below wb.heap.size wb w'→∃w'',(Instr.mapUpdate 141 (.map (some b)) (.string (bs (oM (l.getD j aA)))) (.agg #[.string (l.getD j aA).1,.slice ax lx cx])).run Tryz.prog w'=.ok () w''∧KnN w'' b (n+(j+1)) (L++l.take (j+1))∧Tn b w w''∧w''.cell? ⟨wr.heap.size,0,none⟩=some (.string (l.getD j aA).1)∧w''.cell? ⟨wr.heap.size,0+1,none⟩=some (.slice ax lx cx)):=fun w' hw=>by
   have hK':KnN w' b (n+j) (L++l.take j):=hKb.below hw;have hf':=lu hfb hw;have hkl:=Dm hsh;obtain⟨w'',hrun,hg,hkn⟩:=hK'.store Tryz.underlying9 Tryz.underlying141 (by unfold maxLen;omega) hf' (by unfold maxLen;omega);refine⟨w'',hrun,?_,?_,?_⟩;·rw[htk,←List.append_assoc,show n+(j+1)=n+j+1 by omega];exact hkn fun g _ u hu=>Dz hu (vO hK') (fH hg)
   ·exact((HT.out.trans (Tn.of_below hLb.below)).trans (Tn.of_below hw)).trans (fH hg)
   have hblt:b<wr.heap.size:=HK.out.lt;have hlt':wr.heap.size<w'.heap.size:=Nat.lt_of_lt_of_le (Array.getElem?_eq_some_iff.1 hrb).1 hw.size;obtain⟨q0,q1⟩:=hcell w' hw;exact⟨by rw[(fH hg).cell (x:=⟨wr.heap.size,0,none⟩) hlt' (by show wr.heap.size≠b;omega)];exact q0,by rw[(fH hg).cell (x:=⟨wr.heap.size,0+1,none⟩) hlt' (by show wr.heap.size≠b;omega)];exact q1⟩
  have G9:=au hcell;generalize bs (oM (l.getD j aA))=kb at*;generalize(l.getD j aA).1=nk at*;clear hcell htk hsh hfm hrb hfb hKb hFr fx hLb;go_wp2;rw[←hwb];clear hwb;refine wp_region_held_drew (S:=fun w'=>w'.cell? ⟨wr.heap.size,0,none⟩=some (.string nk)∧w'.cell? ⟨wr.heap.size,0+1,none⟩=some (.slice ax lx cx)) (by kernel_rfl) (G9.out _ (Below.refl _ _).drew) (fun hHeld=>?_);refine tkY 0 12 hHeld ?_;refine tkY 1 13 hHeld ?_ rfl fun w hSw=>by obtain⟨q0,q1⟩:=hSw;go_simp;try with_reducible rfl
  refine tkY 3 15 hHeld ?_ rfl fun w hSw=>by obtain⟨q0,q1⟩:=hSw;go_simp;try with_reducible rfl
  refine tkC 2 fun K hK=>?_;go_simp;refine(HC.out _ (Below.refl _ _).drew).mono ?_;rintro e w5 ⟨rfl,hB5⟩;dsimp only;refine hK.out _ _ (G9.out _ hB5.out) (fun hHeld=>?_);clear hK K;refine wpAnyH_ready (rs:=[4]) (by kernel_rfl) (by simp) ?_;obtain⟨w6,hrun,hK6,hT6,hc6⟩:=HU.out _ hB5.out;have HK6:=au hK6;have HT6:=au hT6;clear hK6 hT6;refine AllReadyH.cons rfl (fun K hK=>?_) AllReadyH.nil;go_simp;refine hK.out _ _ hc6 (fun hHeld=>?_);clear hK K;refine wpAnyH_done (by kernel_rfl) ?_ _;clear hc6 hHeld hrun;go_wp2
  go_roundg (l.length- (j+1))
  case measure=>omega
  case rel=>exact⟨j+1,by omega,by go_num,HK6,HT6⟩
 have hj':j=l.length:=by omega
 subst hj';rw[List.take_length] at HK;go_wp2;go_end0;exact⟨⟨_,rfl⟩,HK.out,HT.out⟩
theorem DI (b n:Nat) (L:List aF) (w:World) (hK:KnN w b n L) (hn:n≤1000000):
  Calls Tryz.prog 107 #[.map (some b)] w fun e w'=>∃v',e=.returned v'∧Facts w' v' (bY L)∧Below w.heap.size w w':=by
 obtain⟨D,hown,h1,h2,h3⟩:=hK;have hsz:Maps.size D≤3518437208883:=by have:=hown.size_le;omega
 have hL1:aj w (w.alloc (.cells #[.map (some b)] 141)):=(aj.refl w).alloc _;have hr1:(w.alloc (.cells #[.map (some b)] 141)).heap[w.heap.size]?=some (.cells #[.map (some b)] 141 (0,0)):=heap_alloc_new w _;have HV:=au (EZ (some b) w);have HC:=au (Dn b n w.heap.size D (w.alloc (.cells #[.map (some b)] 141)) (by simp) (by rw[cell_of_row _ _ _ _ _ _ hr1];rfl) (dG hown (hL1.block hown.lt)) hsz);have H1:=au h1;have H2:Hid (∀f∈L,∃x,D.atKey (.string (oM f)) .nil=.held x∧dh (w.alloc (.cells #[.map (some b)] 141)) (vB x) f):=fun f hf=>by obtain⟨x,e,hx⟩:=h2 f hf;exact⟨x,e,hx.later hL1⟩
 have HL1:=au hL1.below;clear h1 h2 h3 hown hL1 hr1
 go_enter Tryz.func107,Tryz.ntmps107
 go_wp2_with fail
 refine HV.out.mono ?_;rintro e w1 ⟨rfl,rfl⟩;clear HV
 go_wp2_with fail
 refine HC.out.mono ?_;rintro e w2 ⟨v,xs,rfl,⟨ps,hA,rfl⟩,hr,hB⟩;obtain⟨l,hl,hF⟩:=xu H1.out H2.out hsz hA hr hB;have HO:=au (ofC v l w2 hF);have HB:Hid (Below w.heap.size w w2):=ak HL1.out hB (by simp);have HLL:=au hl;have hl0:=hF.1;obtain⟨a,cap,rfl⟩:=aC hF;clear hA hr hB hl hF HC H1 H2 HL1
 go_wp2_with fail
 refine HO.out.mono ?_;rintro e w3 ⟨v',s,rfl,hS,hOw,hL3⟩;have es:s=bY L:=jT hS.1 fun f=>by rw[hS.2.1 f,HLL.out f]
 have HF:Hid (Facts w3 v' (bY L)):=by rw[←es];exact hOw.facts (Nat.le_trans hS.2.2 hl0)
 have HB3:Hid (Below w.heap.size w w3):=ak HB.out hL3.below HB.out.size;clear hS hOw hL3 es;go_wp2;go_ret;exact⟨v',rfl,HF.out,HB3.out⟩
end Go.Proofs.YthngiikhgplldaaGreatDoor
