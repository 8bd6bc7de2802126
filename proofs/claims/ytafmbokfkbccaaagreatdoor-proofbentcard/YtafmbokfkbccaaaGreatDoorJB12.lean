import Derived.Test.YtafmbokfkbccaaaGreatDoorJB11
import Derived.Test.YtafmbokfkbccaaaGreatDoorJB10
import Derived.Test.YtafmbokfkbccaaaGreatDoorJB6
import Derived.Test.YtafmbokfkbccaaaGreatDoorJB4
import Derived.Shelf.SlSortCmp.QuietGrown
namespace Go.Proofs.YtafmbokfkbccaaaGreatDoor
open Go.RowKit Go.Sort Go.Maps
theorem CS {lo:Nat} {w:World} {v:Value} {l:List Bs} (h:qy.own 9 lo w v l) {x:Bs} (hl:l.length+1≤1099511627776) (hlo:lo≤w.heap.size):
  ∃v' w',(Builtin.append_ #[25,25] 25 #[v,.slice (some ⟨w.heap.size,0,none⟩) 1 1]).run Tryz.prog (w.alloc (.cells #[.string (bs x)] 9))=.ok v' w'∧qy.own 9 lo w' v' (l++[x])∧(w.alloc (.cells #[.string (bs x)] 9)).grownBy w' v.ownBlock:=by
 obtain⟨i,i1,i2,i3,i4⟩:=vk;exact Kind.jP h Tryz.underlying25 i1 i2 i3 i4 rfl (by decide) (by decide) (c:=[.string (bs x)]) rfl hl hlo
theorem zX {ts:List dh} {j:Nat} {x:dh} (h:ts[j]?=some x):bR [] (ts.take (j+1))=if x.1 then eG (bR [] (ts.take j)) x.2 else bR [] (ts.take j):=by
 rw[List.take_add_one,h];simp[bR,List.foldl_append]
theorem CU (l:List Bs) (s:Bs):(eG l s).length≤l.length+1:=by unfold eG;split <;> simp
theorem nU (ts:List dh):∀l,(bR l ts).length≤l.length+ts.length:=by
 induction ts with
 |nil=>intro l;simp[bR]
 |cons t ts ih=>
  intro l;show(bR (if t.1 then eG l t.2 else l) ts).length≤_;have h0:(if t.1 then eG l t.2 else l).length≤l.length+1:=by
   split
   ·exact CU l t.2
   ·omega
  have h1:=ih (if t.1 then eG l t.2 else l);rw[List.length_cons];omega
theorem MC {w:World} {b:Nat} (x:Bs) (hb:b<w.heap.size):qy.sl (fun k=>k≠b) (w.alloc (.cells #[.string (bs x)] 9)) (.slice (some ⟨w.heap.size,0,none⟩) 1 1) [x]:=by
 have h:=Kind.zS (K:=qy) (ty:=9) (lo:=w.heap.size) (w:=w) (c:=[.string (bs x)]) (x:=x) rfl (Nat.le_refl _);exact Kind.aW (Kind.gW h (by simp)) fun k _ hk=>by have:w.heap.size≤k:=hk;omega
set_option maxRecDepth 100000 in
set_option maxHeartbeats 2000000 in
theorem Kl (a:aF) (v:Value) (w:World) (hv:dn.sl bJ w v a.terms) (hn:a.terms.length≤1099511627775) (hs:∀t∈a.terms,t.2.length≤maxLen):
  Calls Tryz.prog 254 #[.agg #[.bool a.no,.string (bs a.name),v]] w fun e w'=>∃u,e=.returned u∧qy.own 9 (w.heap.size+2) w' u (vars a)∧Below w.heap.size w w':=by
 obtain⟨sa,cap,rfl⟩:=Kind.slice hv;have HV:=hide hv;clear hv;obtain⟨no,name,ts⟩:=a;dsimp only at*;have HS:=hide hs;clear hs;have hmm:= @run_makeMap Tryz.prog;show Calls _ _ _ _ fun e w'=>∃u,e=.returned u∧qy.own 9 (w.heap.size+2) w' u (bR [] ts)∧_;generalize bs name=nm
 go_enter Tryz.func254,Tryz.ntmps254
 go_wp2
 go_loopg [4,11] ts.length (fun k o i wr=>∃j:Nat,j+k=ts.length∧i=.int .i64 j∧Hid (dX wr (w.heap.size+1) j (fun s=>(bR [] (ts.take j)).contains s))∧Hid (qy.own 9 (w.heap.size+2) wr o (bR [] (ts.take j)))∧Hid (Below w.heap.size w wr)∧w.heap.size+2≤wr.heap.size)
 case atStart=>
  refine⟨0,by omega,rfl,?_,qy.jg _ _ _,?_,by simp⟩
  ·have:=lG.made Tryz.prog 9 (w.alloc (.cells #[.bool no,.string nm,.slice sa ts.length cap] 85));rw[World.size_alloc] at this;exact this
  ·exact(((Later.refl w).alloc _).alloc _).below
 case round=>
  obtain⟨j,hj,rfl,HM,HO,HB,hsz⟩:=hrel;obtain⟨ao,co,rfl⟩:=Kind.dI HO.out
  by_cases hlt:j<ts.length
  ·obtain⟨x,hx⟩:∃x,ts[j]?=some x:=⟨_,List.getElem?_eq_getElem hlt⟩;obtain⟨b1,o1,_,rfl,hb1,rfl,hc⟩:=Kind.fP HV.out hx;have d0:wr.cell? ⟨b1,o1+j*2,none⟩=some (.bool x.1):=by rw[HB.out.cell hb1];exact hc 0 _ rfl
   have d1:wr.cell? ⟨b1,o1+j*2+1,none⟩=some (.string (bs x.2)):=by rw[HB.out.cell hb1];exact hc 1 _ rfl
   have hxs:x.2.length≤maxLen:=HS.out x (List.mem_of_getElem? hx);have E:=hide (zX hx);have hlen:(bR [] (ts.take j)).length≤j:=by have:=nU (ts.take j) [];simp at this;omega
   clear hc hx;have hbr:b1<wr.heap.size:=by omega
   obtain⟨x1,x2⟩:=x;dsimp only at*;generalize hg:bR [] (ts.take j)=g at*;clear hg;cases x1
   ·have E1:Hid (bR [] (ts.take (j+1))=g):=E.out;clear E;generalize bs x2=kx at*;go_wp2
    go_roundg (ts.length- (j+1))
    case measure=>omega
    case rel=>
     refine⟨j+1,by omega,by go_num,?_,?_,?_,by simp;omega⟩
     ·show dX _ _ _ _;rw[E1.out];exact(HM.out.later ((Later.refl _).alloc _)).mono (by omega)
     ·show qy.own _ _ _ _ _;rw[E1.out];exact Kind.dB HO.out ((Tn.refl 0 _).alloc _) (by omega)
     ·exact HB.out.alloc HB.out.size _
   ·have E1:Hid (bR [] (ts.take (j+1))=eG g x2):=E.out;clear E;have HC:Hid (Calls Tryz.prog 297 #[.map (some (w.heap.size+1)),.string (bs x2)] (wr.alloc (.cells #[.bool true,.string (bs x2)] 187)) fun e w'=>e=.returned (.bool (g.contains x2))∧Later (wr.alloc (.cells #[.bool true,.string (bs x2)] 187)) w'):=Qw _ _ _ x2 _ (HM.out.later ((Later.refl _).alloc _)) hxs;have HZ:Hid (∀w2,Later (wr.alloc (.cells #[.bool true,.string (bs x2)] 187)) w2→w2.cell? ⟨wr.heap.size,1,none⟩=some (.string (bs x2))∧wr.heap.size<w2.heap.size):=fun w2 hL=>by
     refine⟨?_,by have:=hL.size;simp at this;omega⟩;rw[hL.cell (by simp)];simp
    cases hcx:g.contains x2
    ·have E2:Hid (bR [] (ts.take (j+1))=g++[x2]):=by show _=_;rw[E1.out];unfold eG;rw[hcx];rfl
     rw[hcx] at HC;have HA:Hid (∀w2,Later (wr.alloc (.cells #[.bool true,.string (bs x2)] 187)) w2→Calls Tryz.prog 296 #[.map (some (w.heap.size+1)),.slice (some ⟨w2.heap.size,0,none⟩) 1 1] (w2.alloc (.cells #[.string (bs x2)] 9))
       fun e w3=>e=.returned (.tuple #[])∧dX w3 (w.heap.size+1) (j+1) (fun s=>(g++[x2]).contains s)∧Tn (w.heap.size+1) w2 w3∧w2.heap.size<w3.heap.size):=fun w2 hL=>by
      have hs2:=hL.size;simp only[World.size_alloc] at hs2;have hm:=HM.out.later (((Later.refl _).alloc _).trans hL);refine(Qx _ _ _ _ [x2] _ (hm.later ((Later.refl _).alloc _)) (MC x2 (by omega)) (by simp[maxLen];omega) (by simpa using hxs)).mono fun e w3 ⟨he,h1,h2⟩=>⟨he,h1.congr fun s=>by simp,((Tn.refl _ _).alloc _).trans h2,by have:=h2.size;simp at this;omega⟩
     have HP:Hid (∀w2 w3,Later (wr.alloc (.cells #[.bool true,.string (bs x2)] 187)) w2→Tn (w.heap.size+1) w2 w3→w2.heap.size<w3.heap.size→dX w3 (w.heap.size+1) (j+1) (fun s=>(g++[x2]).contains s)→w3.cell? ⟨wr.heap.size,1,none⟩=some (.string (bs x2))∧wr.heap.size<w3.heap.size∧
       ∃v' w4,(Builtin.append_ #[25,25] 25 #[.slice ao g.length co,.slice (some ⟨w3.heap.size,0,none⟩) 1 1]).run Tryz.prog (w3.alloc (.cells #[.string (bs x2)] 9))=.ok v' w4∧Hid (dX w4 (w.heap.size+1) (j+1) (fun s=>(g++[x2]).contains s))∧Hid (qy.own 9 (w.heap.size+2) w4 v' (g++[x2]))∧Hid (Below w.heap.size w w4)∧w.heap.size+2≤w4.heap.size):=fun w2 w3 hL hT h23 hm=>by
      have hs2:=hL.size;simp only[World.size_alloc] at hs2;have hO2:=Kind.dB HO.out (Tn.of_below (p:=0) (((Later.refl _).alloc _).trans hL).below) (by omega);have hO3:=Kind.dB hO2 hT (by omega);have hB3:Below w.heap.size w w3:=ak (ak HB.out (((Later.refl wr).alloc _).trans hL).below HB.out.size) (hT.below (n:=w.heap.size) (by omega) (by omega)) (Nat.le_refl _);obtain⟨v',w4,hrun,o4,g4⟩:=CS hO3 (x:=x2) (by omega) (by omega);have hs4:=g4.size;simp only[World.size_alloc] at hs4;refine⟨?_,by omega,v',w4,hrun,?_,o4,?_,by omega⟩
      ·rw[hT.cell (by show wr.heap.size<_;omega) (by show wr.heap.size≠_;omega)];exact(HZ.out w2 hL).1
      ·refine(hm.later ((Later.refl _).alloc _)).grown g4 (fun e=> ?_);have:=(Kind.fu hO3 e.symm).1;omega
      ·refine ak (hB3.alloc hB3.size _) ⟨g4.os,g4.tape,g4.output,g4.size,fun k hk=>g4.block k (by simp;omega) (fun e=> ?_)⟩ (Nat.le_refl _);have:=(Kind.fu hO3 e.symm).1;omega
     clear E1 HM HO HB hxs hcx;generalize bs x2=kx at*
     go_wp2_with (first
      |(go_at_call 297;refine HC.out.mono ?_;rintro e w2 ⟨rfl,hL⟩;obtain⟨z2,h2s⟩:=HZ.out w2 hL;replace hL:=hide hL)
      |(go_at_call 296;refine(HA.out w2 (bE hL)).mono ?_;rintro e w3 ⟨rfl,hm3,hT3,h23⟩;obtain⟨z3,h3s,v',w4,hrun,hN4,hO4,hB4,h4s⟩:=HP.out w2 w3 (bE hL) hT3 h23 hm3;replace hrun:=hide hrun;clear hm3 hT3)
      |(at_builtin;refine wpList_append_run rfl (.tmp 29) (.tmp 32) 25 rfl _ _ _ _ rfl rfl (bE hrun) ?_))
     go_roundg (ts.length- (j+1))
     case measure=>omega
     case rel=>
      refine⟨j+1,by omega,by go_num,?_,?_,hB4,h4s⟩
      ·show dX _ _ _ _;rw[E2.out];exact hN4.out
      ·show qy.own _ _ _ _ _;rw[E2.out];exact hO4.out
    ·have E2:Hid (bR [] (ts.take (j+1))=g):=by show _=_;rw[E1.out];unfold eG;rw[hcx];rfl
     rw[hcx] at HC;clear E1 hxs hcx;generalize bs x2=kx at*
     go_wp2_with (first
      |(go_at_call 297;refine HC.out.mono ?_;rintro e w2 ⟨rfl,hL⟩;obtain⟨z2,h2s⟩:=HZ.out w2 hL;replace hL:=hide hL))
     go_roundg (ts.length- (j+1))
     case measure=>omega
     case rel=>
      have hLL:=((Later.refl wr).alloc (.cells #[.bool true,.string kx] 187)).trans (bE hL);refine⟨j+1,by omega,by go_num,?_,?_,?_,by omega⟩
      ·show dX _ _ _ _;rw[E2.out];exact(HM.out.later hLL).mono (by omega)
      ·show qy.own _ _ _ _ _;rw[E2.out];exact Kind.dB HO.out (Tn.of_below (p:=0) hLL.below) (by omega)
      ·exact ak HB.out hLL.below HB.out.size
  ·have e:j=ts.length:=by omega
   subst e;have HO2:Hid (qy.own 9 (w.heap.size+2) wr (.slice ao (bR [] (ts.take ts.length)).length co) (bR [] ts)):=by have:=HO.out;rw[List.take_length] at this⊢;exact this
   go_wp2;go_ret;exact⟨_,rfl,HO2.out,HB.out⟩
end Go.Proofs.YtafmbokfkbccaaaGreatDoor
namespace Go.Proofs.YtafmbokfkbccaaaGreatDoor
open Go.RowKit Go.Sort Go.Maps
theorem bL {a:aF} (h:aN a=0):a.name.length≤12∧a.terms.length≤4∧∀t∈a.terms,t.2.length≤12:=by
 unfold aN at h;split at h
 ·cases h
 ·rename_i h0;split at h
  ·cases h
  ·rename_i h1;split at h
   ·cases h
   ·rename_i h2;refine⟨?_,by omega,fun t ht=> ?_⟩
    ·have:isNamed a.name=true:=by simpa using h0
     unfold isNamed at this;simp at this;exact this.1.1
    ·have h3:bI t=false:=by
      cases hc:bI t with
      |false=>rfl
      |true=>exact absurd (List.any_eq_true.2 ⟨t,ht,hc⟩) h2
     unfold bI at h3;split at h3
     ·have:isVar t.2=true:=by simpa using h3
      unfold isVar at this;simp at this;exact this.1.1
     ·have:isNamed t.2=true:=by simpa using h3
      unfold isNamed at this;simp at this;exact this.1.1
theorem gJ {s:Bs} (h:s.length≤12):s.length≤maxLen:=by simp[maxLen];omega
theorem xS {l:List aF} {j:Nat} {a:aF} (h:l[j]?=some a) (s:Bs):givenBy (l.take (j+1)) s=(givenBy (l.take j) s||(!a.no&&(vars a).contains s)):=by
 rw[List.take_add_one,h];simp[givenBy]
theorem vM (a:aF):(vars a).length≤a.terms.length:=by have:=nU a.terms [];simpa[vars] using this
theorem vN (a:aF):∀s∈vars a,∃t∈a.terms,t.2=s:=by
 have:∀(ts:List dh) (l:List Bs),(∀s∈l,∃t∈a.terms,t.2=s)→(∀t∈ts,t∈a.terms)→∀s∈bR l ts,∃t∈a.terms,t.2=s:=by
  intro ts
  induction ts with
  |nil=>intro l h _;exact h
  |cons t ts ih=>
   intro l h hsub;refine ih _ (fun s hs0=> ?_) (fun u hu=>hsub u (by simp[hu]));have hs:s∈(if t.1 then eG l t.2 else l):=hs0;clear hs0;split at hs
   ·unfold eG at hs;split at hs
    ·exact h s hs
    ·rcases List.mem_append.1 hs with hs|hs
     ·exact h s hs
     ·simp at hs;exact⟨t,hsub t (by simp),hs.symm⟩
   ·exact h s hs
 exact this a.terms [] (by simp) (fun t h=>h)
set_option maxRecDepth 100000 in
set_option maxHeartbeats 2000000 in
theorem Bw (l:List aF) (v:Value) (w:World) (hv:bN.sl bJ w v l) (hf:∀a∈l,aN a=0) (hl:l.length≤5):
  Calls Tryz.prog 252 #[v] w fun e w'=>e=.returned (.map (some w.heap.size))∧dX w' w.heap.size 20 (givenBy l)∧Below w.heap.size w w':=by
 obtain⟨sa,cap,rfl⟩:=Kind.slice hv;have HV:=hide hv;clear hv;have HF:=hide hf;clear hf;have hmm:= @run_makeMap Tryz.prog
 go_enter Tryz.func252,Tryz.ntmps252
 go_wp2
 go_loopg [9] l.length (fun k i wr=>∃j:Nat,j+k=l.length∧i=.int .i64 j∧Hid (dX wr w.heap.size (4*j) (givenBy (l.take j)))∧Hid (Below w.heap.size w wr)∧w.heap.size+1≤wr.heap.size)
 case atStart=>exact⟨0,by omega,rfl,lG.made Tryz.prog 9 w,((Later.refl w).alloc _).below,by simp⟩
 case round=>
  obtain⟨j,hj,rfl,HM,HB,hsz⟩:=hrel
  by_cases hlt:j<l.length
  ·obtain⟨x,hx⟩:∃x,l[j]?=some x:=⟨_,List.getElem?_eq_getElem hlt⟩;obtain⟨b1,o1,_,rfl,hb1,⟨sv,rfl,hsv⟩,hc⟩:=Kind.fP HV.out hx;have d0:wr.cell? ⟨b1,o1+j*3,none⟩=some (.bool x.no):=by rw[HB.out.cell hb1];exact hc 0 _ rfl
   have d1:wr.cell? ⟨b1,o1+j*3+1,none⟩=some (.string (bs x.name)):=by rw[HB.out.cell hb1];exact hc 1 _ rfl
   have d2:wr.cell? ⟨b1,o1+j*3+2,none⟩=some sv:=by rw[HB.out.cell hb1];exact hc 2 _ rfl
   obtain⟨fn,ft,fs⟩:=bL (HF.out x (List.mem_of_getElem? hx));have E:=hide (xS hx);have hbr:b1<wr.heap.size:=by omega
   have hj5:j<5:=by omega
   clear hc hx;cases hno:x.no
   ·have HC:Hid (Calls Tryz.prog 254 #[.agg #[.bool false,.string (bs x.name),sv]] (wr.alloc (.cells #[.bool false,.string (bs x.name),sv] 85)) fun e w2=>∃u,e=.returned u∧
      Hid (qy.sl (fun k=>k≠w.heap.size) w2 u (vars x))∧Hid (dX w2 w.heap.size (4*j) (givenBy (l.take j)))∧Hid (Below w.heap.size w w2)∧w.heap.size+1≤w2.heap.size):=by
     have hB1:Below w.heap.size w (wr.alloc (.cells #[.bool false,.string (bs x.name),sv] 85)):=HB.out.alloc HB.out.size _;have:=Kl x sv (wr.alloc (.cells #[.bool false,.string (bs x.name),sv] 85)) (Kind.aR hsv hB1) (by omega) (fun t ht=>gJ (fs t ht));rw[hno] at this;refine this.mono fun e w2 ⟨u,he,ho,hb⟩=>⟨u,he,?_,?_,?_,?_⟩
     ·refine Kind.aW (Kind.gW ho (by have:=vM x;omega)) fun k _ hk=> ?_;have:_≤k:=hk;simp only[World.size_alloc] at this;omega
     ·exact(HM.out.later ((Later.refl _).alloc _)).below hb
     ·exact ak hB1 hb (by simp;omega)
     ·have:=hb.size;simp at this;omega
    have HA:Hid (∀w2 u,Hid (qy.sl (fun k=>k≠w.heap.size) w2 u (vars x))→Hid (dX w2 w.heap.size (4*j) (givenBy (l.take j)))→Hid (Below w.heap.size w w2)→w.heap.size+1≤w2.heap.size→Calls Tryz.prog 296 #[.map (some w.heap.size),u] w2 fun e w3=>e=.returned (.tuple #[])∧
      Hid (dX w3 w.heap.size (4*(j+1)) (givenBy (l.take (j+1))))∧Hid (Below w.heap.size w w3)∧w.heap.size+1≤w3.heap.size):=fun w2 u h1 h2 h3 h4=>by
     have hvl:=vM x;refine(Qx _ _ _ u (vars x) w2 h2.out h1.out (by simp[maxLen];omega) (fun s hs=>by obtain⟨t,ht,rfl⟩:=vN x s hs;exact gJ (fs t ht))).mono fun e w3 ⟨he,k1,k2⟩=>⟨he,?_,?_,?_⟩
     ·exact(k1.mono (by omega)).congr fun s=>by rw[E.out s,hno];simp
     ·exact ak h3.out (k2.below (n:=w.heap.size) (Nat.le_refl _) (by omega)) (Nat.le_refl _)
     ·have:=k2.size;omega
    rw[hno] at d0;obtain⟨a2,c2,rfl⟩:=Kind.slice hsv;clear hsv E HM HB fs hno;generalize bs x.name=nm at*
    go_wp2_with (first
     |(go_at_call 254;refine HC.out.mono ?_;rintro e w2 ⟨u,rfl,h1,h2,h3,h4⟩)
     |(go_at_call 296;refine(HA.out w2 u h1 h2 h3 h4).mono ?_;rintro e w3 ⟨rfl,k1,k2,k3⟩))
    go_roundg (l.length- (j+1))
    case measure=>omega
    case rel=>exact⟨j+1,by omega,by go_num,k1,k2,k3⟩
   ·have E1:Hid (∀s,givenBy (l.take (j+1)) s=givenBy (l.take j) s):=fun s=>by rw[E.out s,hno];simp
    rw[hno] at d0;obtain⟨a2,c2,rfl⟩:=Kind.slice hsv;clear hsv E fs hno;generalize bs x.name=nm at*;go_wp2
    go_roundg (l.length- (j+1))
    case measure=>omega
    case rel=>exact⟨j+1,by omega,by go_num,((HM.out.later ((Later.refl _).alloc _)).mono (by omega)).congr fun s=>(E1.out s).symm,HB.out.alloc HB.out.size _,by simp;omega⟩
  ·have e:j=l.length:=by omega
   subst e;have HM2:Hid (dX wr w.heap.size 20 (givenBy l)):=by have:=HM.out;rw[List.take_length] at this;exact this.mono (by omega)
   go_wp2;go_ret;exact⟨rfl,HM2.out,HB.out⟩
theorem qJ {l:List aF} {j:Nat} {a:aF} (h:l[j]?=some a):bB (l.drop j)=if aN a=0 then bB (l.drop (j+1)) else aN a:=by
 obtain⟨h1,e1⟩:=List.getElem?_eq_some_iff.1 h;rw[List.drop_eq_getElem_cons h1,e1];rfl
set_option maxRecDepth 100000 in
set_option maxHeartbeats 4000000 in
theorem Bz (l:List aF) (v:Value) (w:World) (hv:bN.sl bJ w v l):
  Calls Tryz.prog 216 #[v] w fun e w'=>e=.returned (.int .i64 (aL l))∧Below w.heap.size w w':=by
 obtain⟨sa,cap,rfl⟩:=Kind.slice hv;have hl0:=hv.1.1;have HV:=hide hv;clear hv
 by_cases h5:5<l.length
 ·have F:Hid (aL l=5):=by show _=_;unfold aL;rw[if_pos h5]
  go_enter Tryz.func216,Tryz.ntmps216
  go_wp2;go_ret;exact⟨by rw[F.out];rfl,Below.refl _ _⟩
 ·have F:Hid (aL l=if bB l=0 then(if l.all (fun a=>(vars a).all (givenBy l)) then 0 else 9) else bB l):=by show _=_;unfold aL;rw[if_neg h5]
  go_enter Tryz.func216,Tryz.ntmps216
  go_wp2
  go_loopg [14] l.length (fun k i wr=>∃j:Nat,j+k=l.length∧i=.int .i64 j∧Hid (bB l=bB (l.drop j))∧Hid (∀a∈l.take j,aN a=0)∧Hid (Below w.heap.size w wr))
  case atStart=>exact⟨0,by omega,rfl,(rfl:_=_),(fun a ha=>by simp at ha),Below.refl _ _⟩
  case round=>
   obtain⟨j,hj,rfl,HE,HG,HB⟩:=hrel;have hwr:=HB.out.size
   by_cases hlt:j<l.length
   ·obtain⟨x,hx⟩:∃x,l[j]?=some x:=⟨_,List.getElem?_eq_getElem hlt⟩;obtain⟨b1,o1,_,rfl,hb1,⟨sv,rfl,hsv⟩,hc⟩:=Kind.fP HV.out hx;have d0:wr.cell? ⟨b1,o1+j*3,none⟩=some (.bool x.no):=by rw[HB.out.cell hb1];exact hc 0 _ rfl
    have d1:wr.cell? ⟨b1,o1+j*3+1,none⟩=some (.string (bs x.name)):=by rw[HB.out.cell hb1];exact hc 1 _ rfl
    have d2:wr.cell? ⟨b1,o1+j*3+2,none⟩=some sv:=by rw[HB.out.cell hb1];exact hc 2 _ rfl
    have hbr:b1<wr.heap.size:=by omega
    have hB1:Below w.heap.size w (wr.alloc (.cells #[.bool x.no,.string (bs x.name),sv] 85)):=HB.out.alloc HB.out.size _;have HC:Hid (Calls Tryz.prog 251 #[.agg #[.bool x.no,.string (bs x.name),sv]] (wr.alloc (.cells #[.bool x.no,.string (bs x.name),sv] 85)) fun e w2=>e=.returned (.int .i64 (aN x))∧Hid (Below w.heap.size w w2)):=
     (tH x sv _ (Kind.aR hsv hB1)).mono fun e w2 ⟨he,hL⟩=>⟨he,ak hB1 hL.below (by simp;omega)⟩
    have hst:=qJ hx;obtain⟨a2,c2,rfl⟩:=Kind.slice hsv
    by_cases h0:aN x=0
    ·have HE1:Hid (bB l=bB (l.drop (j+1))):=by show _=_;rw[HE.out,hst,if_pos h0]
     have HG1:Hid (∀a∈l.take (j+1),aN a=0):=fun a ha=>by
      rw[List.take_add_one,hx] at ha;rcases List.mem_append.1 ha with ha|ha
      ·exact HG.out a ha
      ·simp at ha;rw[ha];exact h0
     rw[h0] at HC;clear hst hc hx hsv hB1 HE HG h0;generalize bs x.name=nm at*;generalize x.no=xn at*
     go_wp2_with (go_at_call 251;refine HC.out.mono ?_;rintro e w2 ⟨rfl,hB2⟩)
     go_roundg (l.length- (j+1))
     case measure=>omega
     case rel=>exact⟨j+1,by omega,by go_num,HE1,HG1,hB2⟩
    ·have F2:Hid (aL l=aN x):=by show _=_;rw[F.out,HE.out,hst,if_neg h0,if_neg h0]
     have hq:(aN x != 0)=true:=by simpa using h0
     clear hst hc hx hsv hB1 HE HG h0;generalize bs x.name=nm at*;generalize x.no=xn at*;generalize aN x=ex at*
     go_wp2_with (go_at_call 251;refine HC.out.mono ?_;rintro e w2 ⟨rfl,hB2⟩)
     go_ret;exact⟨by rw[F2.out];rfl,hB2.out⟩
   ·have e:j=l.length:=by omega
    subst e;have HG1:Hid (∀a∈l,aN a=0):=by have:=HG.out;rw[List.take_length] at this;exact this
    have F1:Hid (aL l=if l.all (fun a=>(vars a).all (givenBy l)) then 0 else 9):=by
     show _=_;rw[F.out,if_pos];rw[HE.out,List.drop_length];rfl
    have HGB:Hid (Calls Tryz.prog 252 #[.slice sa l.length cap] wr fun e w'=>e=.returned (.map (some wr.heap.size))∧Hid (dX w' wr.heap.size 20 (givenBy l))∧Hid (Below w.heap.size w w')∧Hid (Below wr.heap.size wr w')):=
     (Bw l _ wr (Kind.aR HV.out HB.out) HG1.out (by omega)).mono fun e w' ⟨he,h1,h2⟩=>⟨he,h1,ak HB.out h2 hwr,h2⟩
    clear HE HG HB F;generalize hgb:givenBy l=gb at*;clear hgb;generalize hbk:wr.heap.size=bk at*;clear hbk
    go_wp2_with (go_at_call 252;refine HGB.out.mono ?_;rintro e w3 ⟨rfl,hM3,hB3,_⟩)
    go_loopg [28] l.length (fun k i wr=>∃j:Nat,j+k=l.length∧i=.int .i64 j∧Hid (dX wr bk 20 gb)∧Hid (l.all (fun a=>(vars a).all gb)=(l.drop j).all (fun a=>(vars a).all gb))∧Hid (Below w.heap.size w wr))
    case atStart=>exact⟨0,by omega,rfl,hM3,(rfl:_=_),hB3⟩
    case round=>
     obtain⟨j,hj,rfl,HM,HF,HB⟩:=hrel;have hwr:=HB.out.size
     by_cases hlt:j<l.length
     ·obtain⟨x,hx⟩:∃x,l[j]?=some x:=⟨_,List.getElem?_eq_getElem hlt⟩;obtain⟨b1,o1,_,rfl,hb1,⟨sv,rfl,hsv⟩,hc⟩:=Kind.fP HV.out hx;have d0:wr.cell? ⟨b1,o1+j*3,none⟩=some (.bool x.no):=by rw[HB.out.cell hb1];exact hc 0 _ rfl
      have d1:wr.cell? ⟨b1,o1+j*3+1,none⟩=some (.string (bs x.name)):=by rw[HB.out.cell hb1];exact hc 1 _ rfl
      have d2:wr.cell? ⟨b1,o1+j*3+2,none⟩=some sv:=by rw[HB.out.cell hb1];exact hc 2 _ rfl
      obtain⟨fn,ft,fs⟩:=bL (HG1.out x (List.mem_of_getElem? hx));have hbr:b1<wr.heap.size:=by omega
      have hB1:Below w.heap.size w (wr.alloc (.cells #[.bool x.no,.string (bs x.name),sv] 85)):=HB.out.alloc HB.out.size _;have HC:Hid (Calls Tryz.prog 254 #[.agg #[.bool x.no,.string (bs x.name),sv]] (wr.alloc (.cells #[.bool x.no,.string (bs x.name),sv] 85)) fun e w2=>∃u,e=.returned u∧
        Hid (qy.sl bJ w2 u (vars x))∧Hid (dX w2 bk 20 gb)∧Hid (Below w.heap.size w w2)):=
       (Kl x sv _ (Kind.aR hsv hB1) (by omega) (fun t ht=>gJ (fs t ht))).mono fun e w2 ⟨u,he,ho,hb⟩=>⟨u,he,Kind.dN (Kind.gW ho (by have:=vM x;omega)),(HM.out.later ((Later.refl _).alloc _)).below hb,ak hB1 hb (by simp;omega)⟩
      have HA:Hid (∀w2 u,Hid (qy.sl bJ w2 u (vars x))→Hid (dX w2 bk 20 gb)→Hid (Below w.heap.size w w2)→Calls Tryz.prog 253 #[.map (some bk),u] w2 fun e w3=>e=.returned (.bool ((vars x).all gb))∧
        Hid (dX w3 bk 20 gb)∧Hid (Below w.heap.size w w3)):=fun w2 u h1 h2 h3=>
       (EJ _ _ _ u (vars x) w2 h2.out h1.out (fun s hs=>by obtain⟨t,ht,rfl⟩:=vN x s hs;exact gJ (fs t ht))).mono fun e w3 ⟨he,hL⟩=>⟨he,h2.out.later hL,ak h3.out hL.below h3.out.size⟩
      have hst:=H8 hx (fun a=>(vars a).all gb);obtain⟨a2,c2,rfl⟩:=Kind.slice hsv;generalize hvx:(vars x).all gb=vx at*;cases vx
      ·have F2:Hid (aL l=9):=by show _=_;rw[F1.out,HF.out,hst];rfl
       clear hst hc hx hsv hB1 HM HF hvx F1 fs;generalize bs x.name=nm at*;generalize x.no=xn at*
       go_wp2_with (first
        |(go_at_call 254;refine HC.out.mono ?_;rintro e w4 ⟨u,rfl,h1,h2,h3⟩)
        |(go_at_call 253;refine(HA.out w4 u h1 h2 h3).mono ?_;rintro e w5 ⟨rfl,k1,k2⟩))
       go_ret;exact⟨by rw[F2.out];rfl,k2.out⟩
      ·have HF1:Hid (l.all (fun a=>(vars a).all gb)=(l.drop (j+1)).all (fun a=>(vars a).all gb)):=by show _=_;rw[HF.out,hst];rfl
       clear hst hc hx hsv hB1 HM HF hvx fs;generalize bs x.name=nm at*;generalize x.no=xn at*
       go_wp2_with (first
        |(go_at_call 254;refine HC.out.mono ?_;rintro e w4 ⟨u,rfl,h1,h2,h3⟩)
        |(go_at_call 253;refine(HA.out w4 u h1 h2 h3).mono ?_;rintro e w5 ⟨rfl,k1,k2⟩))
       go_roundg (l.length- (j+1))
       case measure=>omega
       case rel=>exact⟨j+1,by omega,by go_num,k1,HF1,k2⟩
     ·have F2:Hid (aL l=0):=by show _=_;rw[F1.out,HF.out,List.drop_eq_nil_of_le (by omega)];rfl
      go_wp2;go_ret;exact⟨by rw[F2.out];rfl,HB.out⟩
end Go.Proofs.YtafmbokfkbccaaaGreatDoor
namespace Go.Proofs.YtafmbokfkbccaaaGreatDoor
open Go.RowKit Go.Sort Go.Maps
theorem Strs.below {w w':World} {v:Value} {l:List ByteArray} (h:Strs w v l) (k:Below w.heap.size w w'):Strs w' v l:=by
 obtain⟨h0,a,cap,rfl,h1⟩:=h;refine⟨h0,a,cap,rfl,fun hl=> ?_⟩;obtain⟨b,off,rfl,hb,hc⟩:=h1 hl;exact⟨b,off,rfl,Nat.lt_of_lt_of_le hb k.size,fun i hi=>by rw[k.cell (p:=⟨b,off+i,none⟩) hb];exact hc i hi⟩
theorem Facts.below {w w':World} {v:Value} {l:List aG} (h:Facts w v l) (k:Below w.heap.size w w'):Facts w' v l:=by
 obtain⟨h0,a,cap,rfl,h1⟩:=h;refine⟨h0,a,cap,rfl,fun hl=> ?_⟩;obtain⟨b,off,rfl,hb,hc⟩:=h1 hl;refine⟨b,off,rfl,Nat.lt_of_lt_of_le hb k.size,fun i hi=> ?_⟩;obtain⟨c1,s,c2,c3⟩:=hc i hi;exact⟨by rw[k.cell (p:=⟨b,off+i*2,none⟩) hb];exact c1,s,by rw[k.cell (p:=⟨b,off+i*2+1,none⟩) hb];exact c2,c3.below k⟩
def xU (g:Nat) (cb:Array Value) (pick:Nat→List aG) (n:Nat) (w0:World):Prop:=∀(W:World) (k:Nat),Below n w0 W→(k:Int)≤100→
 Calls Tryz.prog g (#[.int .i64 k]++cb) W fun e w'=>∃v,e=.returned v∧Facts w' v (pick k)∧Later W w'
theorem xU.below {g:Nat} {cb:Array Value} {pick:Nat→List aG} {n m:Nat} {a b:World} (h:xU g cb pick n a) (k:Below n a b) (hm:n≤m):xU g cb pick m b:=fun W i hW hi=>h W i (ak k hW hm) hi
theorem lI:∀args w,(callFunc 217 args).run Tryz.prog w=.ok (.enter 217 args) w:=enters_of Tryz.func217 (by kernel_rfl) rfl
set_option maxHeartbeats 400000 in
theorem Km (fv ov:Value) (fs os:List aG) (at_:Int) (w:World) (hf:Facts w fv fs) (ho:Facts w ov os):
  Calls Tryz.prog 157 #[fv,.int .i64 at_,ov] w fun e w'=>e=.returned (.func (.func 217) #[] #[.pointer (some ⟨w.heap.size+1,0,none⟩),.pointer (some ⟨w.heap.size+2,0,none⟩),.pointer (some ⟨w.heap.size,0,none⟩)])∧Later w w'∧w'.heap.size=w.heap.size+3∧
   w'.cell? ⟨w.heap.size,0,none⟩=some fv∧w'.cell? ⟨w.heap.size+1,0,none⟩=some (.int .i64 at_)∧w'.cell? ⟨w.heap.size+2,0,none⟩=some ov:=by
 obtain⟨fa,ES,rfl⟩:=aD hf;obtain⟨oa,Sw,rfl⟩:=aD ho;clear hf ho
 go_enter Tryz.func157,Tryz.ntmps157
 go_wp2;go_ret;refine⟨rfl,(by repeat (first|exact Later.refl _|assumption|refine Later.drewN ?_ _|refine Later.drew ?_|refine Later.alloc ?_ _|refine Later.grow ?_ _)),by simp,(G7 (t:=24) ?_).1,(G7 (t:=3) ?_).1,(G7 (t:=24) ?_).1⟩
 all_goals
  simp only[bO,World.size_alloc]
  repeat (first|rw[if_pos trivial]|rw[if_pos (by omega)]|rw[if_neg (by omega)])
set_option maxHeartbeats 1000000 in
theorem Ik (c0 c1 c2:Nat) (fv ov:Value) (fs os:List aG) (at_:Int) (n:Nat) (w0:World) (hf:Facts w0 fv fs) (ho:Facts w0 ov os) (h0:w0.cell? ⟨c0,0,none⟩=some fv) (h1:w0.cell? ⟨c1,0,none⟩=some (.int .i64 at_)) (h2:w0.cell? ⟨c2,0,none⟩=some ov) (b0:c0<n) (b1:c1<n) (b2:c2<n) (hn:n=w0.heap.size):
  xU 217 #[.pointer (some ⟨c1,0,none⟩),.pointer (some ⟨c2,0,none⟩),.pointer (some ⟨c0,0,none⟩)] (gM fs at_ os) n w0:=by
 intro W k hW hk;have hW':Below w0.heap.size w0 W:=by rw[←hn];exact hW
 have z0:W.cell? ⟨c0,0,none⟩=some fv:=by rw[hW.cell b0];exact h0
 have z1:W.cell? ⟨c1,0,none⟩=some (.int .i64 at_):=by rw[hW.cell b1];exact h1
 have z2:W.cell? ⟨c2,0,none⟩=some ov:=by rw[hW.cell b2];exact h2
 have HF:=hide (hf.below hW');have HO:=hide (ho.below hW');obtain⟨fa,ES,rfl⟩:=aD hf;obtain⟨oa,Sw,rfl⟩:=aD ho;have s0:c0<W.heap.size:=by have:=hW.size;omega
 have s1:c1<W.heap.size:=by have:=hW.size;omega
 have s2:c2<W.heap.size:=by have:=hW.size;omega
 clear hf ho h0 h1 h2 hW' hW;unfold gM;show Calls _ _ #[.int .i64 k,.pointer (some ⟨c1,0,none⟩),.pointer (some ⟨c2,0,none⟩),.pointer (some ⟨c0,0,none⟩)] _ _
 by_cases he:(k:Int)=at_
 ·have HE:=hide he;have hq:((k:Int)==at_)=true:=by simpa using he
  have hP:(if(k:Int)=at_ then os else fs)=os:=if_pos he;rw[hP];clear he hP HF
  go_enter Tryz.func217,Tryz.ntmps217
  go_wp2;go_ret;exact⟨_,rfl,HO.out,Later.refl _⟩
 ·have hq:((k:Int)==at_)=false:=by simpa using he
  have hP:(if(k:Int)=at_ then os else fs)=fs:=if_neg he;rw[hP];clear he hP HO
  go_enter Tryz.func217,Tryz.ntmps217
  go_wp2;go_ret;exact⟨_,rfl,HF.out,Later.refl _⟩
theorem nV:∀(ts:List dh) (xs:List ByteArray) (l m:List aC),dQ l ts xs=some m→m.length≤l.length+ts.length
 |[],_,l,m,h=>by cases h;simp
 |_::_,[],_,_,h=>by cases h
 |t::ts,x::xs,l,m,h=>by
  simp only[dQ] at h;split at h
  ·have:=nV ts xs _ m h;simp at this⊢;omega
  ·split at h
   ·have:=nV ts xs _ m h;simp;omega
   ·cases h
theorem xV {a:aF} {fs:List aj} {ls:List (List aC)} {n:Nat} (h:∀l∈ls,l.length≤n):∀m∈aK a fs ls,m.length≤n+a.terms.length:=fun m hm=>by
 obtain⟨l,hl,f,_,hf⟩:=jv.1 hm;have h1:=h l hl;unfold dL at hf;split at hf
 ·have:=nV _ _ _ _ hf;omega
 ·cases hf
theorem CV {pick:Nat→List aj} {body:List aF} {j:Nat} {a:aF} (h:body[j]?=some a) (ls:List (List aC)):eu pick j (body.drop j) ls=if a.no then eu pick (j+1) (body.drop (j+1)) ls else if 20000<(aK a (pick j) ls).length then none else eu pick (j+1) (body.drop (j+1)) (aK a (pick j) ls):=by
 obtain⟨h1,e1⟩:=List.getElem?_eq_some_iff.1 h;rw[List.drop_eq_getElem_cons h1,e1];rfl
def Sy (w0 w:World) (v:Value) (e:Int) (r:Option (List (List aC))):Prop:=match r with
 |none=>v=.slice none 0 0∧e=4
 |some ms=>e=0∧∃ps,ps.map (·.2)=ms∧ms.length≤20000∧(∀m∈ms,m.length≤20)∧Lists 158 190 w0.heap.size w v ps
theorem EY (lo:Nat) (w:World) (hlo:lo≤w.heap.size):Lists 158 190 lo (w.alloc (.cells #[.slice none 0 0] 158)) (.slice (some ⟨w.heap.size,0,none⟩) 1 1) [(.slice none 0 0,[])]:=by
 refine⟨⟨rfl,Or.inr ⟨w.heap.size,1,#[.slice none 0 0],rfl,hlo,heap_alloc_new _ _,by simp,by simp[maxLen],rfl,rfl⟩⟩,fun p hp=> ?_,List.pairwise_singleton _ _⟩;simp at hp;subst hp;exact⟨bA.jg _ _ _,fun k e=>by simp[Value.ownBlock] at e⟩
set_option maxRecDepth 100000 in
set_option maxHeartbeats 4000000 in
theorem Sz (body:List aF) (v:Value) (g:Nat) (cb:Array Value) (eg:∀args w,(callFunc g args).run Tryz.prog w=.ok (.enter g args) w) (pick:Nat→List aG) (w:World) (hv:bN.sl bJ w v body) (hp:xU g cb pick w.heap.size w) (hb:body.length≤5) (ha:∀a∈body,a.terms.length≤4) (hfs:∀n,(pick n).length≤200):
  Calls Tryz.prog 158 #[v,.func (.func g) #[] cb] w fun e w'=>∃v' er,e=.returned (.tuple #[v',.int .i64 er])∧Sy w w' v' er (eu pick 0 body [[]])∧Later w w':=by
 obtain⟨sa,cap,rfl⟩:=Kind.slice hv;have HV:=hide hv;have HP:=hide hp;have HA:=hide ha;have HFS:=hide hfs;clear hv hp ha hfs;generalize hR:eu pick 0 body [[]]=R at*;have H0:Hid (R=eu pick 0 (body.drop 0) [[]]):=hR.symm;clear hR
 go_enter Tryz.func158,Tryz.ntmps158
 go_wp2
 go_loopg [6,13] body.length (fun gg o i wr=>∃j:Nat,j+gg=body.length∧i=.int .i64 j∧∃ps,Hid (R=eu pick j (body.drop j) (ps.map (·.2)))∧Hid (Lists 158 190 w.heap.size wr o ps)∧Hid (ps.length≤20000)∧Hid (∀p∈ps,p.2.length≤4*j)∧Hid (Later w wr))
 case atStart=>
  exact⟨0,by omega,rfl,[(.slice none 0 0,[])],H0,EY _ _ (Nat.le_refl _),(by simp:_≤_),(fun p hp=>by simp at hp;subst hp;simp),((by repeat (first|exact Later.refl _|assumption|refine Later.drewN ?_ _|refine Later.drew ?_|refine Later.alloc ?_ _|refine Later.grow ?_ _)):Later _ _)⟩
 case round=>
  obtain⟨j,hj,rfl,ps,HE,HO,HN,HQ,HL⟩:=hrel;have hn:=HN.out;obtain⟨ao,no',co,rfl⟩:∃a n c,u6=.slice a n c:=by obtain⟨a,c,e⟩:=Lists.slice HO.out;exact⟨a,_,c,e⟩
  by_cases hlt:j<body.length
  ·obtain⟨a,hx⟩:∃x,body[j]?=some x:=⟨_,List.getElem?_eq_getElem hlt⟩;obtain⟨b1,o1,_,rfl,hb1,⟨sv,rfl,hsv⟩,hc⟩:=Kind.fP HV.out hx;have d0:wr.cell? ⟨b1,o1+j*3,none⟩=some (.bool a.no):=by rw[HL.out.cell hb1];exact hc 0 _ rfl
   have d1:wr.cell? ⟨b1,o1+j*3+1,none⟩=some (.string (bs a.name)):=by rw[HL.out.cell hb1];exact hc 1 _ rfl
   have d2:wr.cell? ⟨b1,o1+j*3+2,none⟩=some sv:=by rw[HL.out.cell hb1];exact hc 2 _ rfl
   have hbr:b1<wr.heap.size:=Nat.lt_of_lt_of_le hb1 HL.out.size;have hat:=HA.out a (List.mem_of_getElem? hx);have HS:=hide (CV (pick:=pick) hx (ps.map (·.2)));obtain⟨sva,svc,rfl⟩:=Kind.slice hsv;have HSV:=hide hsv;clear hc hx hsv;cases hno:a.no
   ·have HS1:Hid (R=if 20000<(aK a (pick j) (ps.map (·.2))).length then none else eu pick (j+1) (body.drop (j+1)) (aK a (pick j) (ps.map (·.2)))):=by
     show _=_;rw[HE.out,HS.out,hno];rfl
    rw[hno] at d0;obtain⟨wb,hwb⟩:∃wb,wb=wr.alloc (.cells #[.bool false,.string (bs a.name),.slice sva a.terms.length svc] 85):=⟨_,rfl⟩;have hLb:Later w wb:=by rw[hwb];exact HL.out.alloc _
    have hLr:Later wr wb:=by rw[hwb];exact(Later.refl _).alloc _
    have z:wb.cell? ⟨wr.heap.size,0,none⟩=some (.bool false)∧wb.cell? ⟨wr.heap.size,1,none⟩=some (.string (bs a.name))∧wb.cell? ⟨wr.heap.size,2,none⟩=some (.slice sva a.terms.length svc):=by rw[hwb];simp
    have hsb:wr.heap.size<wb.heap.size:=by rw[hwb];simp
    have CELL:Hid (∀w',Later wb w'→w'.cell? ⟨wr.heap.size,0,none⟩=some (.bool false)∧w'.cell? ⟨wr.heap.size,1,none⟩=some (.string (bs a.name))∧w'.cell? ⟨wr.heap.size,2,none⟩=some (.slice sva a.terms.length svc)):=fun w' hL=>
     ⟨by rw[hL.cell hsb];exact z.1,by rw[hL.cell hsb];exact z.2.1,by rw[hL.cell hsb];exact z.2.2⟩
    have HFr:Hid (∀w',Later wb w'→Calls Tryz.prog g (#[.int .i64 j]++cb) w' fun e w2=>∃v,e=.returned v∧Facts w2 v (pick j)∧Later w' w2):=fun w' hL=>
     HP.out w' j (hLb.trans hL).below (by omega)
    have HMA:Hid (∀w' fv,Later wb w'→Facts w' fv (pick j)→Calls Tryz.prog 218 #[.agg #[.bool false,.string (bs a.name),.slice sva a.terms.length svc],fv,.slice ao no' co] w' fun e w2=>∃v' er,e=.returned (.tuple #[v',.int .i64 er])∧Hid (er=if 20000<(aK a (pick j) (ps.map (·.2))).length then 4 else 0)∧Hid (xR w' w2 v' (aK a (pick j) (ps.map (·.2))))∧Later w' w2):=fun w' fv hL hf=>by
     have h1:=Ij a _ fv (.slice ao no' co) (pick j) (ps.map (·.2)) w' (Kind.aI HSV.out (hLb.trans hL)) hf (Kind.dN ((HO.out.later (hLr.trans hL)).sl (by omega) (fun p hp=>by have:=HQ.out p hp;omega))) (HFS.out j) (by simpa using hn) hat (fun l hl=>by
      obtain⟨p,hp,rfl⟩:=List.mem_map.1 hl;have:=HQ.out p hp;omega)
     rw[hno] at h1;exact h1.mono fun e w2 ⟨v',he,hm,hl⟩=>⟨v',_,he,(rfl:_=_),hm,hl⟩
    have HWB:=hide hwb;have HQ1:Hid (∀m∈aK a (pick j) (ps.map (·.2)),m.length≤4*(j+1)):=fun m hm=>by
     have:=xV (a:=a) (fs:=pick j) (ls:=ps.map (·.2)) (n:=4*j) (fun l hl=>by
      obtain⟨p,hp,rfl⟩:=List.mem_map.1 hl;exact HQ.out p hp) m hm
     omega
    clear hwb z hsb HE HS HSV hno;generalize aK a (pick j) (ps.map (·.2))=MA at*;generalize bs a.name=nm at*;go_wp2;rw[←HWB.out];refine wp_region_held_drew (S:=fun w'=>Later wb w') (by kernel_rfl) (Later.refl _).drew (fun hHeld=> ?_);refine au (i:=0) (d:=some 21) (v:= ?_) rfl rfl hHeld ?_ ?_;rotate_left;focus intro w hSw;(try dsimp only at hSw);obtain⟨q0,q1,q2⟩:=CELL.out w hSw;go_simp;try with_reducible rfl
    simp only[bP,bQ,aze,asu];refine au (i:=1) (d:=some 22) (v:= ?_) rfl rfl hHeld ?_ ?_;rotate_left;focus intro w hSw;(try dsimp only at hSw);go_simp;try with_reducible rfl
    simp only[bP,bQ,aze,asu];refine au (i:=2) (d:=some 23) (v:= ?_) rfl rfl hHeld ?_ ?_;rotate_left;focus intro w hSw;(try dsimp only at hSw);go_simp;try with_reducible rfl
    simp only[bP,bQ,aze,asu];refine au (i:=4) (d:=some 25) (v:= ?_) rfl rfl hHeld ?_ ?_;rotate_left;focus intro w hSw;(try dsimp only at hSw);go_simp;try with_reducible rfl
    simp only[bP,bQ,aze,asu];refine wpAnyH_ready (rs:=[3]) (by kernel_rfl) (by simp) ?_;refine AllReadyH.cons rfl (fun K hK=> ?_) AllReadyH.nil;go_simp;refine(HFr.out _ hHeld).mono ?_;rintro e u1 ⟨fv,rfl,hfv,hU1⟩;dsimp only;have JK:Later wb u1:=Later.trans hHeld hU1;refine hK.out _ _ JK (fun hHeld=> ?_);clear hK K;refine wpAnyH_ready (rs:=[5]) (by kernel_rfl) (by simp) ?_;refine AllReadyH.cons rfl (fun K hK=> ?_) AllReadyH.nil;go_simp;refine(HMA.out _ fv JK hfv).mono ?_;rintro e u2 ⟨v',er,rfl,HER,HMT,hU2⟩;dsimp only;have ME:Later wb u2:=JK.trans hU2;refine hK.out _ _ ME (fun hHeld=> ?_);clear hK K;refine au (i:=6) (d:=some 20) (v:= ?_) rfl rfl hHeld ?_ ?_;rotate_left;focus intro w hSw;(try dsimp only at hSw);go_simp;try with_reducible rfl
    simp only[bP,bQ,aze,asu];refine au (i:=7) (d:=some 27) (v:= ?_) rfl rfl hHeld ?_ ?_;rotate_left;focus intro w hSw;(try dsimp only at hSw);go_simp;try with_reducible rfl
    simp only[bP,bQ,aze,asu];refine au (i:=8) (d:=some 28) (v:= ?_) rfl rfl hHeld ?_ ?_;rotate_left;focus intro w hSw;(try dsimp only at hSw);go_simp;try with_reducible rfl
    simp only[bP,bQ,aze,asu];refine au (i:=9) (d:=some 6) (v:= ?_) rfl rfl hHeld ?_ ?_;rotate_left;focus intro w hSw;(try dsimp only at hSw);go_simp;try with_reducible rfl
    simp only[bP,bQ,aze,asu];refine au (i:=10) (d:=some 9) (v:= ?_) rfl rfl hHeld ?_ ?_;rotate_left;focus intro w hSw;(try dsimp only at hSw);go_simp;try with_reducible rfl
    simp only[bP,bQ,aze,asu];refine wpAnyH_done (by kernel_rfl) ?_ _;have hLu:Later w u2:=hLb.trans ME;have hsu:w.heap.size≤u1.heap.size:=(hLb.trans JK).size
    by_cases hbig:20000<MA.length
    ·have HR:Hid (R=none):=by show _=_;rw[HS1.out,if_pos hbig]
     have he:er=4:=by rw[HER.out,if_pos hbig]
     subst he;clear hbig HER HMT HS1;go_wp2
     go_ret2
     exact⟨_,_,rfl,by rw[HR.out];exact⟨rfl,rfl⟩,hLu⟩
    ·have HR:Hid (R=eu pick (j+1) (body.drop (j+1)) MA):=by show _=_;rw[HS1.out,if_neg hbig]
     have he:er=0:=by rw[HER.out,if_neg hbig]
     subst he;have hmt:=HMT.out;unfold xR at hmt;rw[if_neg hbig] at hmt;obtain⟨ps',Od,hLs⟩:=hmt;have HR2:Hid (R=eu pick (j+1) (body.drop (j+1)) (ps'.map (·.2))):=by show _=_;rw[Od];exact HR.out
     have HN2:Hid (ps'.length≤20000):=by show _≤_;rw[←Od,List.length_map] at hbig;omega
     have HQ2:Hid (∀p∈ps',p.2.length≤4*(j+1)):=fun p hp=>HQ1.out _ (by rw[←Od];exact List.mem_map.2 ⟨p,hp,rfl⟩);have HO2:=hide (hLs.base hsu);obtain⟨a4,n4,c4,rfl⟩:∃a n c,v'=.slice a n c:=by obtain⟨a,c,e⟩:=Lists.slice hLs;exact⟨a,_,c,e⟩
     clear hbig HER HMT HS1 Od hLs HR;go_wp2
     go_roundg (body.length- (j+1))
     case measure=>omega
     case rel=>exact⟨j+1,by omega,by go_num,ps',HR2,HO2,HN2,HQ2,hLu⟩
   ·have HS1:Hid (R=eu pick (j+1) (body.drop (j+1)) (ps.map (·.2))):=by
     show _=_;rw[HE.out,HS.out,hno];rfl
    rw[hno] at d0;clear HE HS hno;generalize bs a.name=nm at*;go_wp2
    go_roundg (body.length- (j+1))
    case measure=>omega
    case rel=>exact⟨j+1,by omega,by go_num,ps,HS1,HO.out.later ((Later.refl _).alloc _),HN,(fun p hp=>by have:=HQ.out p hp;omega),HL.out.alloc _⟩
  ·have e:j=body.length:=by omega
   have HR:Hid (R=some (ps.map (·.2))):=by show _=_;rw[HE.out,List.drop_eq_nil_of_le (by omega)];rfl
   clear HE;go_wp2
   go_ret2
   refine⟨_,_,rfl,?_,HL.out⟩;rw[HR.out];exact⟨rfl,ps,rfl,by simpa using hn,fun m hm=>by
    obtain⟨p,hp,rfl⟩:=List.mem_map.1 hm;have:=HQ.out p hp;omega,HO.out⟩
end Go.Proofs.YtafmbokfkbccaaaGreatDoor
namespace Go.Proofs.YtafmbokfkbccaaaGreatDoor
open Go.RowKit Go.Sort
theorem mixed:Tryz.prog.follows .mixedOrders=true:=by kernel_rfl
theorem Facts.grown {w:World} {b off n cap:Nat} {l:List aG} (h:Facts w (.slice (some ⟨b,off,none⟩) n cap) l) {k:Nat} (hk:k<l.length):
  ∃a len c,(∀q os,(grow (w.drewN q) os).cell? ⟨b,off+k*2,none⟩=some (.string (l.getD k aB).1))∧(∀q os,(grow (w.drewN q) os).cell? ⟨b,off+k*2+1,none⟩=some (.slice a len c))∧bW w (.agg #[.string (l.getD k aB).1,.slice a len c]) (l.getD k aB):=by
 obtain⟨hb,a,len,c,g1,g2,hf⟩:=h.at hk;exact⟨a,len,c,fun q os=>by rw[Later.cell ⟨q,os,rfl⟩ (p:=⟨b,off+k*2,none⟩) hb];exact g1,fun q os=>by rw[Later.cell ⟨q,os,rfl⟩ (p:=⟨b,off+k*2+1,none⟩) hb];exact g2,hf⟩
theorem nW {l:List aG} {f:aG}:dA l f 0=true↔f∈l:=by
 unfold dA;rw[List.drop_zero,List.any_eq_true];exact⟨fun⟨x,h1,h2⟩=>by rw[xE.1 h2] at h1;exact h1,fun h=>⟨f,h,xE.2 rfl⟩⟩
theorem meet {l:List aG} {g:aG} (hr:fI l) {m:Nat} (hm:m≤l.length) (ha:∀t,t<m→fM (l.getD t aB) g<0) (hb:∀t,m≤t→t<l.length→0≤fM (l.getD t aB) g):
  dA l g 0=(decide (m<l.length)&&decide (fM (l.getD m aB) g=0)):=by
 rw[Bool.eq_iff_iff,nW,Bool.and_eq_true,decide_eq_true_eq,decide_eq_true_eq]
 constructor
 ·intro h;obtain⟨t,ht,rfl⟩:=List.getElem_of_mem h;have e:l.getD t aB=l[t]:=by rw[List.getD_eq_getElem?_getD,List.getElem?_eq_getElem ht];rfl
  have h1:m≤t:=Nat.not_lt.1 fun n=>by have:=ha t n;rw[e,aM.refl] at this;omega
  have h2:m=t:=by
   refine Classical.byContradiction fun n=> ?_;have h3:=List.pairwise_iff_getElem.1 hr m t (by omega) ht (by omega);have h4:=hb m (Nat.le_refl _) (by omega);rw[List.getD_eq_getElem?_getD,List.getElem?_eq_getElem (by omega)] at h4;have h5:(0:Int)≤fM l[m] l[t]:=h4;omega
  subst h2;exact⟨ht,by rw[e,aM.refl]⟩
 ·rintro⟨h1,h2⟩;rw[←aM.zero _ _ h2,List.getD_eq_getElem?_getD,List.getElem?_eq_getElem h1];exact List.getElem_mem h1
theorem vO {x:Value} {a b:Bool} (h:a=b):Ending.returned (.tuple #[x,.bool a])=.returned (.tuple #[x,.bool b]):=by rw[h]
theorem cell_later {w w':World} (hL:Later w w') {p:Addr} {v:Value} (hb:p.block<w.heap.size) (h:w.cell? p=some v):∀q os,(grow (w'.drewN q) os).cell? p=some v:=fun q os=>by
 rw[(hL.trans ⟨q,os,rfl⟩).cell hb];exact h
set_option maxHeartbeats 1000000 in
theorem search (v t:Value) (l:List aG) (g:aG) (w:World) (hf:Facts w v l) (ht:bW w t g) (hr:fI l):
  Calls Tryz.prog 127 #[v,t,.func (.func 128) #[] #[]] w fun e w'=>∃n:Int,e=.returned (.tuple #[.int .i64 n,.bool (dA l g 0)])∧Later w w':=by
 have mx:=mixed;have HF:=hide hf;have HT:=hide ht;have HR:=hide hr;obtain⟨a,cap,rfl,hn,hz⟩:=hf.addr;obtain⟨s2,rfl,l2,a2,c2,rfl,_⟩:=ht;clear hf hr
 go_enter Tryz.func127,Tryz.ntmps127
 go_wp2
 go_loopw [9,10] (fun i j wr=>∃lo hi:Nat,lo≤hi∧hi≤l.length∧i=.int .i64 lo∧j=.int .i64 hi∧Later (w.alloc (.cells #[.string g.1,.slice a2 g.2.length c2] 27)) wr∧Hid (∀t,t<lo→fM (l.getD t aB) g<0)∧Hid (∀t,hi≤t→t<l.length→0≤fM (l.getD t aB) g)) (fun i j _=>(intOf j).toNat- (intOf i).toNat)
 case atStart=>exact⟨0,l.length,by omega,by omega,rfl,rfl,Later.refl _,fun t ht=>absurd ht (Nat.not_lt_zero _),fun t h1 h2=>by omega⟩
 case round=>
  obtain⟨lo,hi,hlh,hin,rfl,rfl,hL,HA,HB⟩:=hrel;have hL0:Later w wr:=((Later.refl _).alloc _).trans hL;have z0:=cell_later hL (p:=⟨w.heap.size,0,none⟩) (v:=.string g.1) (by simp) (by simp);have z1:=cell_later hL (p:=⟨w.heap.size,1,none⟩) (v:=.slice a2 g.2.length c2) (by simp) (by simp)
  by_cases hlt:lo<hi
  ·rcases hz with rfl|⟨b,off,rfl⟩
   ·simp at hin;omega
   obtain⟨m,hm⟩:∃m,m=(lo+hi)/2:=⟨_,rfl⟩;have hml:m<l.length:=by omega
   have hlm:lo≤m:=by omega
   have hmh:m<hi:=by omega
   have em:((lo:Int)+(hi:Int))/2=(m:Int):=by omega
   clear hm;have hltz:(lo:Int)<(hi:Int):=by omega
   have hmz:(m:Int)<(l.length:Int):=by omega
   obtain⟨ax,lx,cx,g1,g2,fx⟩:=(HF.out.later hL0).grown hml;have hC:∀q os,Calls Tryz.prog 128 #[.agg #[.string (l.getD m aB).1,.slice ax lx cx],.agg #[.string g.1,.slice a2 g.2.length c2]] (grow (wr.drewN q) os) fun e w''=>e=.returned (.int .i64 (fM (l.getD m aB) g))∧Later (grow (wr.drewN q) os) w'':=
    fun q os=>jZ _ _ _ _ _ (fx.later ⟨q,os,rfl⟩) ((HT.out.later hL0).later ⟨q,os,rfl⟩)
   have HC:=hide hC;clear hC fx;have hlow:=HR.out;have xW:fM (l.getD m aB) g<0→∀t,t<m+1→fM (l.getD t aB) g<0:=fun h t ht=>by
    by_cases e:t=m
    ·rw[e];exact h
    ·have h3:=List.pairwise_iff_getElem.1 hlow t m (by omega) hml (by omega);refine aM.trans _ (l.getD m aB) _ ?_ h;rw[List.getD_eq_getElem?_getD,List.getElem?_eq_getElem (by omega),List.getD_eq_getElem?_getD,List.getElem?_eq_getElem hml];exact h3
   have hstep2:0≤fM (l.getD m aB) g→∀t,m≤t→t<l.length→0≤fM (l.getD t aB) g:=fun h t h1 h2=>by
    by_cases e:t=m
    ·rw[e];exact h
    ·have h3:=List.pairwise_iff_getElem.1 hlow m t (by omega) h2 (by omega);refine Int.not_lt.1 fun n=> ?_;have h4:=aM.trans (l.getD m aB) (l.getD t aB) g (by
      rw[List.getD_eq_getElem?_getD,List.getElem?_eq_getElem (by omega),List.getD_eq_getElem?_getD,List.getElem?_eq_getElem h2];exact h3) n
     omega
   have H1:=hide xW;have H2:=hide hstep2;clear xW hstep2 hlow;generalize hcm:fM (l.getD m aB) g=cm at*;have HCM:=hide hcm;clear hcm;generalize(l.getD m aB).1=nm at*
   by_cases hneg:cm<0
   ·go_wp2
    go_quiet_grown ((go_at_call 128;exact Calls.grown_of (HC.out _ _)))
    go_wp2
    go_roundw
    case rel=>exact⟨m+1,hi,by omega,hin,by go_num,rfl,hL.trans ⟨_,_,rfl⟩,H1.out hneg,HB⟩
    case measure=>simp[intOf];omega
   ·go_wp2
    go_quiet_grown ((go_at_call 128;exact Calls.grown_of (HC.out _ _)))
    go_wp2
    go_roundw
    case rel=>exact⟨lo,m,by omega,by omega,rfl,rfl,hL.trans ⟨_,_,rfl⟩,HA,H2.out (by omega)⟩
    case measure=>simp[intOf];omega
  ·obtain rfl:lo=hi:=by omega
   have hfin:=meet HR.out hin HA.out HB.out
   by_cases hll:lo<l.length
   ·rcases hz with rfl|⟨b,off,rfl⟩
    ·simp at hll
    have hmz:(lo:Int)<(l.length:Int):=by omega
    obtain⟨ax,lx,cx,g1,g2,fx⟩:=(HF.out.later hL0).grown hll;have hC:∀q os,Calls Tryz.prog 128 #[.agg #[.string (l.getD lo aB).1,.slice ax lx cx],.agg #[.string g.1,.slice a2 g.2.length c2]] (grow (wr.drewN q) os) fun e w''=>e=.returned (.int .i64 (fM (l.getD lo aB) g))∧Later (grow (wr.drewN q) os) w'':=
     fun q os=>jZ _ _ _ _ _ (fx.later ⟨q,os,rfl⟩) ((HT.out.later hL0).later ⟨q,os,rfl⟩)
    have HC:=hide hC;rw[decide_eq_true hll] at hfin;have HFN:=hide hfin;clear hC fx hfin;generalize hcm:fM (l.getD lo aB) g=cm at*;generalize(l.getD lo aB).1=nm at*;have HCM:=hide hcm;clear hcm;go_wp2
    go_quiet_grown ((go_at_call 128;exact Calls.grown_of (HC.out _ _)))
    go_wp2
    go_ret2
    exact⟨(lo:Int),vO (by rw[HFN.out,Bool.true_and,Bool.eq_iff_iff];simp),hL0.trans ⟨_,_,rfl⟩⟩
   ·rw[decide_eq_false hll] at hfin;have HFN:=hide hfin;clear hfin;have hd:decide ((lo:Int)<(l.length:Int))=false:=by rw[decide_eq_false_iff_not];omega
    go_wp2
    go_quiet (fail)
    go_wp2
    go_ret2
    exact⟨(lo:Int),vO (by rw[HFN.out];rfl),hL0.drewN _⟩
end Go.Proofs.YtafmbokfkbccaaaGreatDoor
