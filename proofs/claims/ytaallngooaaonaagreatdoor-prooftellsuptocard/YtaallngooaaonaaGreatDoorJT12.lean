import Derived.Test.YtaallngooaaonaaGreatDoorJT11
open Go.RowKit Go.Sort Go.Maps
set_option maxHeartbeats 4000000
set_option maxRecDepth 100000
namespace Go.Proofs.YtaallngooaaonaaGreatDoor
theorem Ii (l:Bs) (w:World):Calls Tryz.prog 37 #[.string (bs l)] w fun e w'=>e=.returned (.bool (isNamed l))∧w'=w:=by have:=named (bs l) w;rw[lY,jI] at this;exact this
theorem ET (l:Bs) (w:World):Calls Tryz.prog 150 #[.string (bs l)] w fun e w'=>e=.returned (.bool (isVar l))∧w'=w:=by have:=Ih (bs l) w;rw[jI] at this;exact this
theorem EU (t:dK) (w:World):Calls Tryz.prog 133 #[.agg #[.bool t.1,.string (bs t.2)]] w fun e w'=>e=.returned (.bool (aZ t))∧ak w w':=by
 obtain⟨v,s⟩:=t;unfold aZ;dsimp only;have HN:Hid (∀w,Calls Tryz.prog 37 #[.string (bs s)] w fun e w'=>e=.returned (.bool (isNamed s))∧w'=w):=fun w=>Ii s w;have HV:Hid (∀w,Calls Tryz.prog 150 #[.string (bs s)] w fun e w'=>e=.returned (.bool (isVar s))∧w'=w):=fun w=>ET s w;generalize isNamed s=x at*;generalize isVar s=y at*;generalize bs s=k at*;cases v
 all_goals
  go_enter Tryz.func133,Tryz.ntmps133
  go_wp2_with (first
   |(go_at_call 37;refine(HN.out _).mono ?_;rintro e w' ⟨rfl,rfl⟩)
   |(go_at_call 150;refine(HV.out _).mono ?_;rintro e w' ⟨rfl,rfl⟩))
  go_ret;exact⟨rfl,(ak.refl _).alloc _⟩
theorem Dy {α:Type} {l:List α} {j:Nat} {x:α} (h:l[j]?=some x) (f:α→Bool):(l.drop j).any f=(f x||(l.drop (j+1)).any f):=by obtain⟨h1,e1⟩:=List.getElem?_eq_some_iff.1 h;rw[List.drop_eq_getElem_cons h1,e1];rfl
theorem yP {α:Type} {l:List α} {j:Nat} {x:α} (h:l[j]?=some x) (f:α→Bool):(l.drop j).all f=(f x&&(l.drop (j+1)).all f):=by obtain⟨h1,e1⟩:=List.getElem?_eq_some_iff.1 h;rw[List.drop_eq_getElem_cons h1,e1];rfl
theorem Ij (v:Value) (l:List dK) (w:World) (hv:eD.sl bf w v l):
  Calls Tryz.prog 149 #[v,.func (.func 133) #[] #[]] w fun e w'=>∃n:Int,e=.returned (.int .i64 n)∧decide (0≤n)=l.any aZ∧ak w w':=by
 obtain⟨a,cap,rfl⟩:=aB.slice hv;have HV:=au hv;have hl:=hv.1.1;clear hv
 go_enter Tryz.func149,Tryz.ntmps149
 go_wp2
 go_loopg [8] l.length (fun k i wr=>∃j:Nat,j+k=l.length∧i=.int .i64 j∧Hid (ak w wr)∧Hid (l.any aZ=(l.drop j).any aZ))
 case atStart=>exact⟨0,by omega,rfl,ak.refl _,(rfl:_=_)⟩
 obtain⟨j,hj,rfl,HL,HF⟩:=hrel
 by_cases hlt:j<l.length
 ·obtain⟨x,hx⟩:∃x,l[j]?=some x:=⟨_,List.getElem?_eq_getElem hlt⟩;obtain⟨b1,o1,_,rfl,hb1,rfl,hc⟩:=aB.bO HV.out hx;have d0:wr.cell? ⟨b1,o1+j*2,none⟩=some (.bool x.1):=by rw[HL.out.cell hb1];exact hc 0 _ rfl
  have d1:wr.cell? ⟨b1,o1+j*2+1,none⟩=some (.string (bs x.2)):=by rw[HL.out.cell hb1];exact hc 1 _ rfl
  have HC:=au (EU x wr);have hd:=Dy hx aZ;clear hc hx;cases hf:aZ x
  ·have F:Hid (l.any aZ=(l.drop (j+1)).any aZ):=by show _=_;rw[HF.out,hd,hf];rfl
   rw[hf] at HC;clear hd HF hf
   go_wp2_with (go_at_call 133;refine HC.out.mono ?_;rintro e w' ⟨rfl,hL⟩;replace hL:=au hL)
   go_roundg (l.length- (j+1))
   case measure=>omega
   case rel=>exact⟨j+1,by omega,by go_num,HL.out.trans (bK hL),F⟩
  have F:Hid (l.any aZ=true):=by show _=_;rw[HF.out,hd,hf];rfl
  rw[hf] at HC;clear hd HF hf
  go_wp2_with (go_at_call 133;refine HC.out.mono ?_;rintro e w' ⟨rfl,hL⟩;replace hL:=au hL)
  go_ret;exact⟨_,rfl,by rw[F.out];simp,HL.out.trans (bK hL)⟩
 have F:Hid (l.any aZ=false):=by show _=_;rw[HF.out,List.drop_eq_nil_of_le (by omega)];rfl
 go_wp2;go_ret;exact⟨_,rfl,by rw[F.out];simp,HL.out⟩
theorem Aj (v:Value) (l:List dK) (w:World) (hv:eD.sl bf w v l):
  Calls Tryz.prog 132 #[v,.func (.func 133) #[] #[]] w fun e w'=>e=.returned (.bool (l.any aZ))∧ak w w':=by
 have HI:=au (Ij v l w hv);obtain⟨a,cap,rfl⟩:=aB.slice hv;clear hv
 go_enter Tryz.func132,Tryz.ntmps132
 go_wp2_with (go_at_call 149;refine HI.out.mono ?_;rintro e w' ⟨n,rfl,hn,hL⟩;replace hn:=au hn;replace hL:=au hL)
 go_ret;exact⟨bU (bK hn),bK hL⟩
theorem xg (a:aI) (v:Value) (w:World) (hv:eD.sl bf w v a.terms):
  Calls Tryz.prog 108 #[.agg #[.bool a.no,.string (bs a.name),v]] w fun e w'=>e=.returned (.int .i64 (aP a))∧ak w w':=by
 have HC:Hid (∀w',ak w w'→Calls Tryz.prog 132 #[v,.func (.func 133) #[] #[]] w' fun e w''=>e=.returned (.bool (a.terms.any aZ))∧ak w' w''):=fun w' hw=>Aj v a.terms w' (aB.aK hv hw);have HN:Hid (∀w,Calls Tryz.prog 37 #[.string (bs a.name)] w fun e w'=>e=.returned (.bool (isNamed a.name))∧w'=w):=fun w=>Ii a.name w;have l0:=hv.1.1;obtain⟨a1,c1,rfl⟩:=aB.slice hv;clear hv;obtain⟨no,n,x⟩:=a;unfold aP;dsimp only at*;generalize hn:isNamed n=q at*;clear hn;generalize bs n=s at*;cases q
 ·rw[if_pos rfl]
  go_enter Tryz.func108,Tryz.ntmps108
  go_wp2_with (go_at_call 37;refine(HN.out _).mono ?_;rintro e w' ⟨rfl,rfl⟩)
  go_ret;exact⟨rfl,(ak.refl _).alloc _⟩
 rw[if_neg (by simp)]
 by_cases h4:4<x.length
 ·rw[if_pos h4]
  go_enter Tryz.func108,Tryz.ntmps108
  go_wp2_with (go_at_call 37;refine(HN.out _).mono ?_;rintro e w' ⟨rfl,rfl⟩)
  go_ret;exact⟨rfl,(ak.refl _).alloc _⟩
 rw[if_neg h4];generalize x.any aZ=r at*;cases r
 all_goals
  go_enter Tryz.func108,Tryz.ntmps108
  go_wp2_with (first
   |(go_at_call 37;refine(HN.out _).mono ?_;rintro e w' ⟨rfl,rfl⟩)
   |(go_at_call 132;refine(HC.out _ ((ak.refl _).alloc _)).mono ?_;rintro e w' ⟨rfl,hL⟩;replace hL:=au hL))
  go_ret;exact⟨rfl,((ak.refl _).alloc _).trans (bK hL)⟩
theorem qH {lo:Nat} {w:World} {v:Value} {l:List Bs} (h:jS.own 9 lo w v l) {x:Bs} (hl:l.length+1≤1099511627776) (hlo:lo≤w.heap.size):
  ∃v' w',(Builtin.append_ #[25,25] 25 #[v,.slice (some ⟨w.heap.size,0,none⟩) 1 1]).run Tryz.prog (w.alloc (.cells #[.string (bs x)] 9))=.ok v' w'∧jS.own 9 lo w' v' (l++[x])∧(w.alloc (.cells #[.string (bs x)] 9)).grownBy w' v.ownBlock:=by
 obtain⟨i,i1,i2,i3,i4⟩:=yu;exact aB.wI h Tryz.underlying25 i1 i2 i3 i4 rfl (by decide) (by decide) (c:=[.string (bs x)]) rfl hl hlo
theorem tX {ts:List dK} {j:Nat} {x:dK} (h:ts[j]?=some x):bY [] (ts.take (j+1))=if x.1 then eU (bY [] (ts.take j)) x.2 else bY [] (ts.take j):=by rw[List.take_add_one,h];simp[bY,List.foldl_append]
theorem EW (l:List Bs) (s:Bs):(eU l s).length≤l.length+1:=by unfold eU;split <;> simp
theorem kM (ts:List dK):∀l,(bY l ts).length≤l.length+ts.length:=by
 induction ts with
 |nil=>intro l;simp[bY]
 |cons t ts ih=>
  intro l;show(bY (if t.1 then eU l t.2 else l) ts).length≤_;have h0:(if t.1 then eU l t.2 else l).length≤l.length+1:=by
   split;·exact EW l t.2
   omega
  have h1:=ih (if t.1 then eU l t.2 else l);rw[List.length_cons];omega
theorem Qd {w:World} {b:Nat} (x:Bs) (hb:b<w.heap.size):jS.sl (fun k=>k≠b) (w.alloc (.cells #[.string (bs x)] 9)) (.slice (some ⟨w.heap.size,0,none⟩) 1 1) [x]:=by have h:=aB.GD (K:=jS) (ty:=9) (lo:=w.heap.size) (w:=w) (c:=[.string (bs x)]) (x:=x) rfl (Nat.le_refl _);exact aB.bQ (aB.fq h (by simp)) fun k _ hk=>by have:w.heap.size≤k:=hk;omega
theorem Nv (a:aI) (v:Value) (w:World) (hv:eD.sl bf w v a.terms) (hn:a.terms.length≤1099511627775) (hs:∀t∈a.terms,t.2.length≤maxLen):
  Calls Tryz.prog 112 #[.agg #[.bool a.no,.string (bs a.name),v]] w fun e w'=>∃u,e=.returned u∧jS.own 9 (w.heap.size+2) w' u (vars a)∧Below w.heap.size w w':=by
 obtain⟨sa,cap,rfl⟩:=aB.slice hv;have HV:=au hv;clear hv;obtain⟨no,name,ts⟩:=a;dsimp only at*;have HS:=au hs;clear hs;have hmm:= @run_makeMap Tryz.prog;show Calls _ _ _ _ fun e w'=>∃u,e=.returned u∧jS.own 9 (w.heap.size+2) w' u (bY [] ts)∧_;generalize bs name=nm
 go_enter Tryz.func112,Tryz.ntmps112
 go_wp2
 go_loopg [4,11] ts.length (fun k o i wr=>∃j:Nat,j+k=ts.length∧i=.int .i64 j∧Hid (fB wr (w.heap.size+1) j (fun s=>(bY [] (ts.take j)).contains s))∧Hid (jS.own 9 (w.heap.size+2) wr o (bY [] (ts.take j)))∧Hid (Below w.heap.size w wr)∧w.heap.size+2≤wr.heap.size)
 case atStart=>
  refine⟨0,by omega,rfl,?_,jS.fD _ _ _,?_,by simp⟩;·have:=nC.made Tryz.prog 9 (w.alloc (.cells #[.bool no,.string nm,.slice sa ts.length cap] 79));rw[World.size_alloc] at this;exact this
  exact(((ak.refl w).alloc _).alloc _).below
 obtain⟨j,hj,rfl,HM,HO,HB,hsz⟩:=hrel;obtain⟨ao,co,rfl⟩:=aB.aY HO.out
 by_cases hlt:j<ts.length
 ·obtain⟨x,hx⟩:∃x,ts[j]?=some x:=⟨_,List.getElem?_eq_getElem hlt⟩;obtain⟨b1,o1,_,rfl,hb1,rfl,hc⟩:=aB.bO HV.out hx;have d0:wr.cell? ⟨b1,o1+j*2,none⟩=some (.bool x.1):=by rw[HB.out.cell hb1];exact hc 0 _ rfl
  have d1:wr.cell? ⟨b1,o1+j*2+1,none⟩=some (.string (bs x.2)):=by rw[HB.out.cell hb1];exact hc 1 _ rfl
  have hxs:x.2.length≤maxLen:=HS.out x (List.mem_of_getElem? hx);have E:=au (tX hx);have hlen:(bY [] (ts.take j)).length≤j:=by have:=kM (ts.take j) [];simp at this;omega
  clear hc hx;have hbr:b1<wr.heap.size:=by omega
  obtain⟨x1,x2⟩:=x;dsimp only at*;generalize hg:bY [] (ts.take j)=g at*;clear hg;cases x1
  ·have E1:Hid (bY [] (ts.take (j+1))=g):=E.out;clear E;generalize bs x2=kx at*;go_wp2
   go_roundg (ts.length- (j+1))
   case measure=>omega
   case rel=>
    refine⟨j+1,by omega,by go_num,?_,?_,?_,by simp;omega⟩
    ·show fB _ _ _ _;rw[E1.out];exact(HM.out.later ((ak.refl _).alloc _)).mono (by omega)
    ·show jS.own _ _ _ _ _;rw[E1.out];exact aB.dI HO.out ((Tn.refl 0 _).alloc _) (by omega)
    exact HB.out.alloc HB.out.size _
  have E1:Hid (bY [] (ts.take (j+1))=eU g x2):=E.out;clear E;have HC:Hid (Calls Tryz.prog 135 #[.map (some (w.heap.size+1)),.string (bs x2)] (wr.alloc (.cells #[.bool true,.string (bs x2)] 101)) fun e w'=>e=.returned (.bool (g.contains x2))∧ak (wr.alloc (.cells #[.bool true,.string (bs x2)] 101)) w'):=Vy _ _ _ x2 _ (HM.out.later ((ak.refl _).alloc _)) hxs;have HZ:Hid (∀w2,ak (wr.alloc (.cells #[.bool true,.string (bs x2)] 101)) w2→w2.cell? ⟨wr.heap.size,1,none⟩=some (.string (bs x2))∧wr.heap.size<w2.heap.size):=fun w2 hL=>by refine⟨?_,by have:=hL.size;simp at this;omega⟩;rw[hL.cell (by simp)];simp
  cases hcx:g.contains x2
  ·have E2:Hid (bY [] (ts.take (j+1))=g++[x2]):=by show _=_;rw[E1.out];unfold eU;rw[hcx];rfl
   rw[hcx] at HC;have HA:Hid (∀w2,ak (wr.alloc (.cells #[.bool true,.string (bs x2)] 101)) w2→Calls Tryz.prog 134 #[.map (some (w.heap.size+1)),.slice (some ⟨w2.heap.size,0,none⟩) 1 1] (w2.alloc (.cells #[.string (bs x2)] 9))
     fun e w3=>e=.returned (.tuple #[])∧fB w3 (w.heap.size+1) (j+1) (fun s=>(g++[x2]).contains s)∧Tn (w.heap.size+1) w2 w3∧w2.heap.size<w3.heap.size):=fun w2 hL=>by
    have hs2:=hL.size;simp only[World.size_alloc] at hs2;have hm:=HM.out.later (((ak.refl _).alloc _).trans hL);refine(Vz _ _ _ _ [x2] _ (hm.later ((ak.refl _).alloc _)) (Qd x2 (by omega)) (by simp[maxLen];omega) (by simpa using hxs)).mono fun e w3 ⟨he,h1,h2⟩=>⟨he,h1.congr fun s=>by simp,((Tn.refl _ _).alloc _).trans h2,by have:=h2.size;simp at this;omega⟩
   have HP:Hid (∀w2 w3,ak (wr.alloc (.cells #[.bool true,.string (bs x2)] 101)) w2→Tn (w.heap.size+1) w2 w3→w2.heap.size<w3.heap.size→fB w3 (w.heap.size+1) (j+1) (fun s=>(g++[x2]).contains s)→w3.cell? ⟨wr.heap.size,1,none⟩=some (.string (bs x2))∧wr.heap.size<w3.heap.size∧
     ∃v' w4,(Builtin.append_ #[25,25] 25 #[.slice ao g.length co,.slice (some ⟨w3.heap.size,0,none⟩) 1 1]).run Tryz.prog (w3.alloc (.cells #[.string (bs x2)] 9))=.ok v' w4∧Hid (fB w4 (w.heap.size+1) (j+1) (fun s=>(g++[x2]).contains s))∧Hid (jS.own 9 (w.heap.size+2) w4 v' (g++[x2]))∧Hid (Below w.heap.size w w4)∧w.heap.size+2≤w4.heap.size):=fun w2 w3 hL hT h23 hm=>by
    have hs2:=hL.size;simp only[World.size_alloc] at hs2;have hO2:=aB.dI HO.out (Tn.of_below (p:=0) (((ak.refl _).alloc _).trans hL).below) (by omega);have hO3:=aB.dI hO2 hT (by omega);have hB3:Below w.heap.size w w3:=aj (aj HB.out (((ak.refl wr).alloc _).trans hL).below HB.out.size) (hT.below (n:=w.heap.size) (by omega) (by omega)) (Nat.le_refl _);obtain⟨v',w4,hrun,o4,g4⟩:=qH hO3 (x:=x2) (by omega) (by omega);have hs4:=g4.size;simp only[World.size_alloc] at hs4;refine⟨?_,by omega,v',w4,hrun,?_,o4,?_,by omega⟩;·rw[hT.cell (by show wr.heap.size<_;omega) (by show wr.heap.size≠_;omega)];exact(HZ.out w2 hL).1
    ·refine(hm.later ((ak.refl _).alloc _)).grown g4 (fun e=>?_);have:=(aB.dL hO3 e.symm).1;omega
    ·refine aj (hB3.alloc hB3.size _) ⟨g4.os,g4.tape,g4.output,g4.size,fun k hk=>g4.block k (by simp;omega) (fun e=>?_)⟩ (Nat.le_refl _);have:=(aB.dL hO3 e.symm).1;omega
   clear E1 HM HO HB hxs hcx;generalize bs x2=kx at*
   go_wp2_with (first
    |(go_at_call 135;refine HC.out.mono ?_;rintro e w2 ⟨rfl,hL⟩;obtain⟨z2,h2s⟩:=HZ.out w2 hL;replace hL:=au hL)
    |(go_at_call 134;refine(HA.out w2 (bK hL)).mono ?_;rintro e w3 ⟨rfl,hm3,hT3,h23⟩;obtain⟨z3,h3s,v',w4,hrun,hN4,hO4,hB4,h4s⟩:=HP.out w2 w3 (bK hL) hT3 h23 hm3;replace hrun:=au hrun;clear hm3 hT3)
    |(at_builtin;refine wpList_append_run rfl (.tmp 29) (.tmp 32) 25 rfl _ _ _ _ rfl rfl (bK hrun) ?_))
   go_roundg (ts.length- (j+1))
   case measure=>omega
   case rel=>
    refine⟨j+1,by omega,by go_num,?_,?_,hB4,h4s⟩;·show fB _ _ _ _;rw[E2.out];exact hN4.out
    show jS.own _ _ _ _ _;rw[E2.out];exact hO4.out
  have E2:Hid (bY [] (ts.take (j+1))=g):=by show _=_;rw[E1.out];unfold eU;rw[hcx];rfl
  rw[hcx] at HC;clear E1 hxs hcx;generalize bs x2=kx at*
  go_wp2_with (first
   |(go_at_call 135;refine HC.out.mono ?_;rintro e w2 ⟨rfl,hL⟩;obtain⟨z2,h2s⟩:=HZ.out w2 hL;replace hL:=au hL))
  go_roundg (ts.length- (j+1))
  case measure=>omega
  case rel=>
   have hLL:=((ak.refl wr).alloc (.cells #[.bool true,.string kx] 101)).trans (bK hL);refine⟨j+1,by omega,by go_num,?_,?_,?_,by omega⟩;·show fB _ _ _ _;rw[E2.out];exact(HM.out.later hLL).mono (by omega)
   ·show jS.own _ _ _ _ _;rw[E2.out];exact aB.dI HO.out (Tn.of_below (p:=0) hLL.below) (by omega)
   exact aj HB.out hLL.below HB.out.size
 have e:j=ts.length:=by omega
 subst e;have HO2:Hid (jS.own 9 (w.heap.size+2) wr (.slice ao (bY [] (ts.take ts.length)).length co) (bY [] ts)):=by have:=HO.out;rw[List.take_length] at this⊢;exact this
 go_wp2;go_ret;exact⟨_,rfl,HO2.out,HB.out⟩
theorem bB {a:aI} (h:aP a=0):a.name.length≤12∧a.terms.length≤4∧∀t∈a.terms,t.2.length≤12:=by
 unfold aP at h;split at h;·cases h
 rename_i h0;split at h;·cases h
 rename_i h1;split at h;·cases h
 rename_i h2;refine⟨?_,by omega,fun t ht=>?_⟩
 ·have:isNamed a.name=true:=by simpa using h0
  unfold isNamed at this;simp at this;exact this.1.1
 have h3:aZ t=false:=by
  cases hc:aZ t with
  |false=>rfl
  |true=>exact absurd (List.any_eq_true.2 ⟨t,ht,hc⟩) h2
 unfold aZ at h3;split at h3
 ·have:isVar t.2=true:=by simpa using h3
  unfold isVar at this;simp at this;exact this.1.1
 have:isNamed t.2=true:=by simpa using h3
 unfold isNamed at this;simp at this;exact this.1.1
theorem fC {s:Bs} (h:s.length≤12):s.length≤maxLen:=by simp[maxLen];omega
theorem rz {l:List aI} {j:Nat} {a:aI} (h:l[j]?=some a) (s:Bs):givenBy (l.take (j+1)) s=(givenBy (l.take j) s||(!a.no&&(vars a).contains s)):=by rw[List.take_add_one,h];simp[givenBy]
theorem qI (a:aI):(vars a).length≤a.terms.length:=by have:=kM a.terms [];simpa[vars] using this
theorem yQ (a:aI):∀s∈vars a,∃t∈a.terms,t.2=s:=by
 have:∀(ts:List dK) (l:List Bs),(∀s∈l,∃t∈a.terms,t.2=s)→(∀t∈ts,t∈a.terms)→∀s∈bY l ts,∃t∈a.terms,t.2=s:=by
  intro ts
  induction ts with
  |nil=>intro l h _;exact h
  |cons t ts ih=>
   intro l h hsub;refine ih _ (fun s hs0=>?_) (fun u hu=>hsub u (by simp[hu]));have hs:s∈(if t.1 then eU l t.2 else l):=hs0;clear hs0;split at hs
   ·unfold eU at hs;split at hs;·exact h s hs
    rcases List.mem_append.1 hs with hs|hs;·exact h s hs
    simp at hs;exact⟨t,hsub t (by simp),hs.symm⟩
   exact h s hs
 exact this a.terms [] (by simp) (fun t h=>h)
theorem Dz (l:List aI) (v:Value) (w:World) (hv:bN.sl bf w v l) (hf:∀a∈l,aP a=0) (hl:l.length≤5):
  Calls Tryz.prog 110 #[v] w fun e w'=>e=.returned (.map (some w.heap.size))∧fB w' w.heap.size 20 (givenBy l)∧Below w.heap.size w w':=by
 obtain⟨sa,cap,rfl⟩:=aB.slice hv;have HV:=au hv;clear hv;have HF:=au hf;clear hf;have hmm:= @run_makeMap Tryz.prog
 go_enter Tryz.func110,Tryz.ntmps110
 go_wp2
 go_loopg [9] l.length (fun k i wr=>∃j:Nat,j+k=l.length∧i=.int .i64 j∧Hid (fB wr w.heap.size (4*j) (givenBy (l.take j)))∧Hid (Below w.heap.size w wr)∧w.heap.size+1≤wr.heap.size)
 case atStart=>exact⟨0,by omega,rfl,nC.made Tryz.prog 9 w,((ak.refl w).alloc _).below,by simp⟩
 obtain⟨j,hj,rfl,HM,HB,hsz⟩:=hrel
 by_cases hlt:j<l.length
 ·obtain⟨x,hx⟩:∃x,l[j]?=some x:=⟨_,List.getElem?_eq_getElem hlt⟩;obtain⟨b1,o1,_,rfl,hb1,⟨sv,rfl,hsv⟩,hc⟩:=aB.bO HV.out hx;have d0:wr.cell? ⟨b1,o1+j*3,none⟩=some (.bool x.no):=by rw[HB.out.cell hb1];exact hc 0 _ rfl
  have d1:wr.cell? ⟨b1,o1+j*3+1,none⟩=some (.string (bs x.name)):=by rw[HB.out.cell hb1];exact hc 1 _ rfl
  have d2:wr.cell? ⟨b1,o1+j*3+2,none⟩=some sv:=by rw[HB.out.cell hb1];exact hc 2 _ rfl
  obtain⟨fn,ft,fs⟩:=bB (HF.out x (List.mem_of_getElem? hx));have E:=au (rz hx);have hbr:b1<wr.heap.size:=by omega
  have hj5:j<5:=by omega
  clear hc hx;cases hno:x.no
  ·have HC:Hid (Calls Tryz.prog 112 #[.agg #[.bool false,.string (bs x.name),sv]] (wr.alloc (.cells #[.bool false,.string (bs x.name),sv] 79)) fun e w2=>∃u,e=.returned u∧
     Hid (jS.sl (fun k=>k≠w.heap.size) w2 u (vars x))∧Hid (fB w2 w.heap.size (4*j) (givenBy (l.take j)))∧Hid (Below w.heap.size w w2)∧w.heap.size+1≤w2.heap.size):=by
    have hB1:Below w.heap.size w (wr.alloc (.cells #[.bool false,.string (bs x.name),sv] 79)):=HB.out.alloc HB.out.size _;have:=Nv x sv (wr.alloc (.cells #[.bool false,.string (bs x.name),sv] 79)) (aB.aJ hsv hB1) (by omega) (fun t ht=>fC (fs t ht));rw[hno] at this;refine this.mono fun e w2 ⟨u,he,ho,hb⟩=>⟨u,he,?_,?_,?_,?_⟩;·refine aB.bQ (aB.fq ho (by have:=qI x;omega)) fun k _ hk=>?_;have:_≤k:=hk;simp only[World.size_alloc] at this;omega
    ·exact(HM.out.later ((ak.refl _).alloc _)).below hb
    ·exact aj hB1 hb (by simp;omega)
    ·have:=hb.size;simp at this;omega
   have HA:Hid (∀w2 u,Hid (jS.sl (fun k=>k≠w.heap.size) w2 u (vars x))→Hid (fB w2 w.heap.size (4*j) (givenBy (l.take j)))→Hid (Below w.heap.size w w2)→w.heap.size+1≤w2.heap.size→Calls Tryz.prog 134 #[.map (some w.heap.size),u] w2 fun e w3=>e=.returned (.tuple #[])∧
     Hid (fB w3 w.heap.size (4*(j+1)) (givenBy (l.take (j+1))))∧Hid (Below w.heap.size w w3)∧w.heap.size+1≤w3.heap.size):=fun w2 u h1 h2 h3 h4=>by
    have hvl:=qI x;refine(Vz _ _ _ u (vars x) w2 h2.out h1.out (by simp[maxLen];omega) (fun s hs=>by obtain⟨t,ht,rfl⟩:=yQ x s hs;exact fC (fs t ht))).mono fun e w3 ⟨he,k1,k2⟩=>⟨he,?_,?_,?_⟩
    ·exact(k1.mono (by omega)).congr fun s=>by rw[E.out s,hno];simp
    ·exact aj h3.out (k2.below (n:=w.heap.size) (Nat.le_refl _) (by omega)) (Nat.le_refl _)
    ·have:=k2.size;omega
   rw[hno] at d0;obtain⟨a2,c2,rfl⟩:=aB.slice hsv;clear hsv E HM HB fs hno;generalize bs x.name=nm at*
   go_wp2_with (first
    |(go_at_call 112;refine HC.out.mono ?_;rintro e w2 ⟨u,rfl,h1,h2,h3,h4⟩)
    |(go_at_call 134;refine(HA.out w2 u h1 h2 h3 h4).mono ?_;rintro e w3 ⟨rfl,k1,k2,k3⟩))
   go_roundg (l.length- (j+1))
   case measure=>omega
   case rel=>exact⟨j+1,by omega,by go_num,k1,k2,k3⟩
  have E1:Hid (∀s,givenBy (l.take (j+1)) s=givenBy (l.take j) s):=fun s=>by rw[E.out s,hno];simp
  rw[hno] at d0;obtain⟨a2,c2,rfl⟩:=aB.slice hsv;clear hsv E fs hno;generalize bs x.name=nm at*;go_wp2
  go_roundg (l.length- (j+1))
  case measure=>omega
  case rel=>exact⟨j+1,by omega,by go_num,((HM.out.later ((ak.refl _).alloc _)).mono (by omega)).congr fun s=>(E1.out s).symm,HB.out.alloc HB.out.size _,by simp;omega⟩
 have e:j=l.length:=by omega
 subst e;have HM2:Hid (fB wr w.heap.size 20 (givenBy l)):=by have:=HM.out;rw[List.take_length] at this;exact this.mono (by omega)
 go_wp2;go_ret;exact⟨rfl,HM2.out,HB.out⟩
theorem mE {l:List aI} {j:Nat} {a:aI} (h:l[j]?=some a):bH (l.drop j)=if aP a=0 then bH (l.drop (j+1)) else aP a:=by obtain⟨h1,e1⟩:=List.getElem?_eq_some_iff.1 h;rw[List.drop_eq_getElem_cons h1,e1];rfl
theorem DC (l:List aI) (v:Value) (w:World) (hv:bN.sl bf w v l):
  Calls Tryz.prog 109 #[v] w fun e w'=>e=.returned (.int .i64 (aL l))∧Below w.heap.size w w':=by
 obtain⟨sa,cap,rfl⟩:=aB.slice hv;have hl0:=hv.1.1;have HV:=au hv;clear hv
 by_cases h5:5<l.length
 ·have F:Hid (aL l=5):=by show _=_;unfold aL;rw[if_pos h5]
  go_enter Tryz.func109,Tryz.ntmps109
  go_wp2;go_ret;exact⟨by rw[F.out];rfl,Below.refl _ _⟩
 have F:Hid (aL l=if bH l=0 then(if l.all (fun a=>(vars a).all (givenBy l)) then 0 else 9) else bH l):=by show _=_;unfold aL;rw[if_neg h5]
 go_enter Tryz.func109,Tryz.ntmps109
 go_wp2
 go_loopg [14] l.length (fun k i wr=>∃j:Nat,j+k=l.length∧i=.int .i64 j∧Hid (bH l=bH (l.drop j))∧Hid (∀a∈l.take j,aP a=0)∧Hid (Below w.heap.size w wr))
 case atStart=>exact⟨0,by omega,rfl,(rfl:_=_),(fun a ha=>by simp at ha),Below.refl _ _⟩
 obtain⟨j,hj,rfl,HE,HG,HB⟩:=hrel;have hwr:=HB.out.size
 by_cases hlt:j<l.length
 ·obtain⟨x,hx⟩:∃x,l[j]?=some x:=⟨_,List.getElem?_eq_getElem hlt⟩;obtain⟨b1,o1,_,rfl,hb1,⟨sv,rfl,hsv⟩,hc⟩:=aB.bO HV.out hx;have d0:wr.cell? ⟨b1,o1+j*3,none⟩=some (.bool x.no):=by rw[HB.out.cell hb1];exact hc 0 _ rfl
  have d1:wr.cell? ⟨b1,o1+j*3+1,none⟩=some (.string (bs x.name)):=by rw[HB.out.cell hb1];exact hc 1 _ rfl
  have d2:wr.cell? ⟨b1,o1+j*3+2,none⟩=some sv:=by rw[HB.out.cell hb1];exact hc 2 _ rfl
  have hbr:b1<wr.heap.size:=by omega
  have hB1:Below w.heap.size w (wr.alloc (.cells #[.bool x.no,.string (bs x.name),sv] 79)):=HB.out.alloc HB.out.size _;have HC:Hid (Calls Tryz.prog 108 #[.agg #[.bool x.no,.string (bs x.name),sv]] (wr.alloc (.cells #[.bool x.no,.string (bs x.name),sv] 79)) fun e w2=>e=.returned (.int .i64 (aP x))∧Hid (Below w.heap.size w w2)):=
   (xg x sv _ (aB.aJ hsv hB1)).mono fun e w2 ⟨he,hL⟩=>⟨he,aj hB1 hL.below (by simp;omega)⟩
  have hst:=mE hx;obtain⟨a2,c2,rfl⟩:=aB.slice hsv
  by_cases h0:aP x=0
  ·have HE1:Hid (bH l=bH (l.drop (j+1))):=by show _=_;rw[HE.out,hst,if_pos h0]
   have HG1:Hid (∀a∈l.take (j+1),aP a=0):=fun a ha=>by
    rw[List.take_add_one,hx] at ha;rcases List.mem_append.1 ha with ha|ha
    ·exact HG.out a ha
    simp at ha;rw[ha];exact h0
   rw[h0] at HC;clear hst hc hx hsv hB1 HE HG h0;generalize bs x.name=nm at*;generalize x.no=xn at*
   go_wp2_with (go_at_call 108;refine HC.out.mono ?_;rintro e w2 ⟨rfl,hB2⟩)
   go_roundg (l.length- (j+1))
   case measure=>omega
   case rel=>exact⟨j+1,by omega,by go_num,HE1,HG1,hB2⟩
  have F2:Hid (aL l=aP x):=by show _=_;rw[F.out,HE.out,hst,if_neg h0,if_neg h0]
  have hq:(aP x != 0)=true:=by simpa using h0
  clear hst hc hx hsv hB1 HE HG h0;generalize bs x.name=nm at*;generalize x.no=xn at*;generalize aP x=ex at*
  go_wp2_with (go_at_call 108;refine HC.out.mono ?_;rintro e w2 ⟨rfl,hB2⟩)
  go_ret;exact⟨by rw[F2.out];rfl,hB2.out⟩
 have e:j=l.length:=by omega
 subst e;have HG1:Hid (∀a∈l,aP a=0):=by have:=HG.out;rw[List.take_length] at this;exact this
 have F1:Hid (aL l=if l.all (fun a=>(vars a).all (givenBy l)) then 0 else 9):=by show _=_;rw[F.out,if_pos];rw[HE.out,List.drop_length];rfl
 have HGB:Hid (Calls Tryz.prog 110 #[.slice sa l.length cap] wr fun e w'=>e=.returned (.map (some wr.heap.size))∧Hid (fB w' wr.heap.size 20 (givenBy l))∧Hid (Below w.heap.size w w')∧Hid (Below wr.heap.size wr w')):=
  (Dz l _ wr (aB.aJ HV.out HB.out) HG1.out (by omega)).mono fun e w' ⟨he,h1,h2⟩=>⟨he,h1,aj HB.out h2 hwr,h2⟩
 clear HE HG HB F;generalize hgb:givenBy l=gb at*;clear hgb;generalize hbk:wr.heap.size=bk at*;clear hbk
 go_wp2_with (go_at_call 110;refine HGB.out.mono ?_;rintro e w3 ⟨rfl,hM3,hB3,_⟩)
 go_loopg [28] l.length (fun k i wr=>∃j:Nat,j+k=l.length∧i=.int .i64 j∧Hid (fB wr bk 20 gb)∧Hid (l.all (fun a=>(vars a).all gb)=(l.drop j).all (fun a=>(vars a).all gb))∧Hid (Below w.heap.size w wr))
 case atStart=>exact⟨0,by omega,rfl,hM3,(rfl:_=_),hB3⟩
 obtain⟨j,hj,rfl,HM,HF,HB⟩:=hrel;have hwr:=HB.out.size
 by_cases hlt:j<l.length
 ·obtain⟨x,hx⟩:∃x,l[j]?=some x:=⟨_,List.getElem?_eq_getElem hlt⟩;obtain⟨b1,o1,_,rfl,hb1,⟨sv,rfl,hsv⟩,hc⟩:=aB.bO HV.out hx;have d0:wr.cell? ⟨b1,o1+j*3,none⟩=some (.bool x.no):=by rw[HB.out.cell hb1];exact hc 0 _ rfl
  have d1:wr.cell? ⟨b1,o1+j*3+1,none⟩=some (.string (bs x.name)):=by rw[HB.out.cell hb1];exact hc 1 _ rfl
  have d2:wr.cell? ⟨b1,o1+j*3+2,none⟩=some sv:=by rw[HB.out.cell hb1];exact hc 2 _ rfl
  obtain⟨fn,ft,fs⟩:=bB (HG1.out x (List.mem_of_getElem? hx));have hbr:b1<wr.heap.size:=by omega
  have hB1:Below w.heap.size w (wr.alloc (.cells #[.bool x.no,.string (bs x.name),sv] 79)):=HB.out.alloc HB.out.size _;have HC:Hid (Calls Tryz.prog 112 #[.agg #[.bool x.no,.string (bs x.name),sv]] (wr.alloc (.cells #[.bool x.no,.string (bs x.name),sv] 79)) fun e w2=>∃u,e=.returned u∧
    Hid (jS.sl bf w2 u (vars x))∧Hid (fB w2 bk 20 gb)∧Hid (Below w.heap.size w w2)):=
   (Nv x sv _ (aB.aJ hsv hB1) (by omega) (fun t ht=>fC (fs t ht))).mono fun e w2 ⟨u,he,ho,hb⟩=>⟨u,he,aB.dO (aB.fq ho (by have:=qI x;omega)),(HM.out.later ((ak.refl _).alloc _)).below hb,aj hB1 hb (by simp;omega)⟩
  have HA:Hid (∀w2 u,Hid (jS.sl bf w2 u (vars x))→Hid (fB w2 bk 20 gb)→Hid (Below w.heap.size w w2)→Calls Tryz.prog 111 #[.map (some bk),u] w2 fun e w3=>e=.returned (.bool ((vars x).all gb))∧
    Hid (fB w3 bk 20 gb)∧Hid (Below w.heap.size w w3)):=fun w2 u h1 h2 h3=>
   (Ig _ _ _ u (vars x) w2 h2.out h1.out (fun s hs=>by obtain⟨t,ht,rfl⟩:=yQ x s hs;exact fC (fs t ht))).mono fun e w3 ⟨he,hL⟩=>⟨he,h2.out.later hL,aj h3.out hL.below h3.out.size⟩
  have hst:=yP hx (fun a=>(vars a).all gb);obtain⟨a2,c2,rfl⟩:=aB.slice hsv;generalize hvx:(vars x).all gb=vx at*;cases vx
  ·have F2:Hid (aL l=9):=by show _=_;rw[F1.out,HF.out,hst];rfl
   clear hst hc hx hsv hB1 HM HF hvx F1 fs;generalize bs x.name=nm at*;generalize x.no=xn at*
   go_wp2_with (first
    |(go_at_call 112;refine HC.out.mono ?_;rintro e w4 ⟨u,rfl,h1,h2,h3⟩)
    |(go_at_call 111;refine(HA.out w4 u h1 h2 h3).mono ?_;rintro e w5 ⟨rfl,k1,k2⟩))
   go_ret;exact⟨by rw[F2.out];rfl,k2.out⟩
  have HF1:Hid (l.all (fun a=>(vars a).all gb)=(l.drop (j+1)).all (fun a=>(vars a).all gb)):=by show _=_;rw[HF.out,hst];rfl
  clear hst hc hx hsv hB1 HM HF hvx fs;generalize bs x.name=nm at*;generalize x.no=xn at*
  go_wp2_with (first
   |(go_at_call 112;refine HC.out.mono ?_;rintro e w4 ⟨u,rfl,h1,h2,h3⟩)
   |(go_at_call 111;refine(HA.out w4 u h1 h2 h3).mono ?_;rintro e w5 ⟨rfl,k1,k2⟩))
  go_roundg (l.length- (j+1))
  case measure=>omega
  case rel=>exact⟨j+1,by omega,by go_num,k1,HF1,k2⟩
 have F2:Hid (aL l=0):=by show _=_;rw[F1.out,HF.out,List.drop_eq_nil_of_le (by omega)];rfl
 go_wp2;go_ret;exact⟨by rw[F2.out];rfl,HB.out⟩
theorem Strs.below {w w':World} {v:Value} {l:List ByteArray} (h:Strs w v l) (k:Below w.heap.size w w'):Strs w' v l:=by obtain⟨h0,a,cap,rfl,h1⟩:=h;refine⟨h0,a,cap,rfl,fun hl=>?_⟩;obtain⟨b,off,rfl,hb,hc⟩:=h1 hl;exact⟨b,off,rfl,Nat.lt_of_lt_of_le hb k.size,fun i hi=>by rw[k.cell (p:=⟨b,off+i,none⟩) hb];exact hc i hi⟩
theorem Facts.below {w w':World} {v:Value} {l:List aN} (h:Facts w v l) (k:Below w.heap.size w w'):Facts w' v l:=by obtain⟨h0,a,cap,rfl,h1⟩:=h;refine⟨h0,a,cap,rfl,fun hl=>?_⟩;obtain⟨b,off,rfl,hb,hc⟩:=h1 hl;refine⟨b,off,rfl,Nat.lt_of_lt_of_le hb k.size,fun i hi=>?_⟩;obtain⟨c1,s,c2,c3⟩:=hc i hi;exact⟨by rw[k.cell (p:=⟨b,off+i*2,none⟩) hb];exact c1,s,by rw[k.cell (p:=⟨b,off+i*2+1,none⟩) hb];exact c2,c3.below k⟩
def Ak (g:Nat) (cb:Array Value) (pick:Nat→List aN) (n:Nat) (w0:World):Prop:=∀(W:World) (k:Nat),Below n w0 W→(k:Int)≤100→
 Calls Tryz.prog g (#[.int .i64 k]++cb) W fun e w'=>∃v,e=.returned v∧Facts w' v (pick k)∧ak W w'
theorem Ak.below {g:Nat} {cb:Array Value} {pick:Nat→List aN} {n m:Nat} {a b:World} (h:Ak g cb pick n a) (k:Below n a b) (hm:n≤m):Ak g cb pick m b:=fun W i hW hi=>h W i (aj k hW hm) hi
theorem nD:∀args w,(callFunc 164 args).run Tryz.prog w=.ok (.enter 164 args) w:=enters_of Tryz.func164 (by kernel_rfl) rfl
theorem Nw (fv ov:Value) (fs os:List aN) (at_:Int) (w:World) (hf:Facts w fv fs) (ho:Facts w ov os):
  Calls Tryz.prog 154 #[fv,.int .i64 at_,ov] w fun e w'=>e=.returned (.func (.func 164) #[] #[.pointer (some ⟨w.heap.size+1,0,none⟩),.pointer (some ⟨w.heap.size+2,0,none⟩),.pointer (some ⟨w.heap.size,0,none⟩)])∧ak w w'∧w'.heap.size=w.heap.size+3∧
   w'.cell? ⟨w.heap.size,0,none⟩=some fv∧w'.cell? ⟨w.heap.size+1,0,none⟩=some (.int .i64 at_)∧w'.cell? ⟨w.heap.size+2,0,none⟩=some ov:=by
 obtain⟨fa,Hz,rfl⟩:=aF hf;obtain⟨oa,Yd,rfl⟩:=aF ho;clear hf ho
 go_enter Tryz.func154,Tryz.ntmps154
 go_wp2;go_ret;refine⟨rfl,(by repeat (first|exact ak.refl _|assumption|refine ak.drewN ?_ _|refine ak.drew ?_|refine ak.alloc ?_ _|refine ak.grow ?_ _)),by simp,(Ka (t:=24) ?_).1,(Ka (t:=3) ?_).1,(Ka (t:=24) ?_).1⟩
 all_goals
  simp only[bV,World.size_alloc]
  repeat (first|rw[if_pos trivial]|rw[if_pos (by omega)]|rw[if_neg (by omega)])
theorem KP (c0 c1 c2:Nat) (fv ov:Value) (fs os:List aN) (at_:Int) (n:Nat) (w0:World) (hf:Facts w0 fv fs) (ho:Facts w0 ov os) (h0:w0.cell? ⟨c0,0,none⟩=some fv) (h1:w0.cell? ⟨c1,0,none⟩=some (.int .i64 at_)) (h2:w0.cell? ⟨c2,0,none⟩=some ov) (b0:c0<n) (b1:c1<n) (b2:c2<n) (hn:n=w0.heap.size):
  Ak 164 #[.pointer (some ⟨c1,0,none⟩),.pointer (some ⟨c2,0,none⟩),.pointer (some ⟨c0,0,none⟩)] (dX fs at_ os) n w0:=by
 intro W k hW hk;have hW':Below w0.heap.size w0 W:=by rw[←hn];exact hW
 have z0:W.cell? ⟨c0,0,none⟩=some fv:=by rw[hW.cell b0];exact h0
 have z1:W.cell? ⟨c1,0,none⟩=some (.int .i64 at_):=by rw[hW.cell b1];exact h1
 have z2:W.cell? ⟨c2,0,none⟩=some ov:=by rw[hW.cell b2];exact h2
 have HF:=au (hf.below hW');have HO:=au (ho.below hW');obtain⟨fa,Hz,rfl⟩:=aF hf;obtain⟨oa,Yd,rfl⟩:=aF ho;have s0:c0<W.heap.size:=by have:=hW.size;omega
 have s1:c1<W.heap.size:=by have:=hW.size;omega
 have s2:c2<W.heap.size:=by have:=hW.size;omega
 clear hf ho h0 h1 h2 hW' hW;unfold dX;show Calls _ _ #[.int .i64 k,.pointer (some ⟨c1,0,none⟩),.pointer (some ⟨c2,0,none⟩),.pointer (some ⟨c0,0,none⟩)] _ _
 by_cases he:(k:Int)=at_
 ·have HE:=au he;have hq:((k:Int)==at_)=true:=by simpa using he
  have hP:(if(k:Int)=at_ then os else fs)=os:=if_pos he;rw[hP];clear he hP HF
  go_enter Tryz.func164,Tryz.ntmps164
  go_wp2;go_ret;exact⟨_,rfl,HO.out,ak.refl _⟩
 have hq:((k:Int)==at_)=false:=by simpa using he
 have hP:(if(k:Int)=at_ then os else fs)=fs:=if_neg he;rw[hP];clear he hP HO
 go_enter Tryz.func164,Tryz.ntmps164
 go_wp2;go_ret;exact⟨_,rfl,HF.out,ak.refl _⟩
theorem qJ:∀(ts:List dK) (xs:List ByteArray) (l m:List aD),dH l ts xs=some m→m.length≤l.length+ts.length
 |[],_,l,m,h=>by cases h;simp
 |_::_,[],_,_,h=>by cases h
 |t::ts,x::xs,l,m,h=>by
  simp only[dH] at h;split at h;·have:=qJ ts xs _ m h;simp at this⊢;omega
  split at h;·have:=qJ ts xs _ m h;simp;omega
  cases h
theorem Al {a:aI} {fs:List aA} {ls:List (List aD)} {n:Nat} (h:∀l∈ls,l.length≤n):∀m∈aQ a fs ls,m.length≤n+a.terms.length:=fun m hm=>by
 obtain⟨l,hl,f,_,hf⟩:=ji.1 hm;have h1:=h l hl;unfold cZ at hf;split at hf;·have:=qJ _ _ _ _ hf;omega
 cases hf
theorem EX {pick:Nat→List aA} {body:List aI} {j:Nat} {a:aI} (h:body[j]?=some a) (ls:List (List aD)):dF pick j (body.drop j) ls=if a.no then dF pick (j+1) (body.drop (j+1)) ls else if 20000<(aQ a (pick j) ls).length then none else dF pick (j+1) (body.drop (j+1)) (aQ a (pick j) ls):=by obtain⟨h1,e1⟩:=List.getElem?_eq_some_iff.1 h;rw[List.drop_eq_getElem_cons h1,e1];rfl
def Ye (w0 w:World) (v:Value) (e:Int) (r:Option (List (List aD))):Prop:=match r with
 |none=>v=.slice none 0 0∧e=4
 |some ms=>e=0∧∃ps,ps.map (·.2)=ms∧ms.length≤20000∧(∀m∈ms,m.length≤20)∧Lists 106 108 w0.heap.size w v ps
theorem Ik (lo:Nat) (w:World) (hlo:lo≤w.heap.size):Lists 106 108 lo (w.alloc (.cells #[.slice none 0 0] 106)) (.slice (some ⟨w.heap.size,0,none⟩) 1 1) [(.slice none 0 0,[])]:=by refine⟨⟨rfl,Or.inr ⟨w.heap.size,1,#[.slice none 0 0],rfl,hlo,heap_alloc_new _ _,by simp,by simp[maxLen],rfl,rfl⟩⟩,fun p hp=>?_,List.pairwise_singleton _ _⟩;simp at hp;subst hp;exact⟨bq.fD _ _ _,fun k e=>by simp[Value.ownBlock] at e⟩
theorem Yf (body:List aI) (v:Value) (g:Nat) (cb:Array Value) (eg:∀args w,(callFunc g args).run Tryz.prog w=.ok (.enter g args) w) (pick:Nat→List aN) (w:World) (hv:bN.sl bf w v body) (hp:Ak g cb pick w.heap.size w) (hb:body.length≤5) (ha:∀a∈body,a.terms.length≤4) (hfs:∀n,(pick n).length≤200):
  Calls Tryz.prog 155 #[v,.func (.func g) #[] cb] w fun e w'=>∃v' er,e=.returned (.tuple #[v',.int .i64 er])∧Ye w w' v' er (dF pick 0 body [[]])∧ak w w':=by
 obtain⟨sa,cap,rfl⟩:=aB.slice hv;have HV:=au hv;have HP:=au hp;have HA:=au ha;have HFS:=au hfs;clear hv hp ha hfs;generalize hR:dF pick 0 body [[]]=R at*;have H0:Hid (R=dF pick 0 (body.drop 0) [[]]):=hR.symm;clear hR
 go_enter Tryz.func155,Tryz.ntmps155
 go_wp2
 go_loopg [6,13] body.length (fun gg o i wr=>∃j:Nat,j+gg=body.length∧i=.int .i64 j∧∃ps,Hid (R=dF pick j (body.drop j) (ps.map (·.2)))∧Hid (Lists 106 108 w.heap.size wr o ps)∧Hid (ps.length≤20000)∧Hid (∀p∈ps,p.2.length≤4*j)∧Hid (ak w wr))
 case atStart=>
  exact⟨0,by omega,rfl,[(.slice none 0 0,[])],H0,Ik _ _ (Nat.le_refl _),(by simp:_≤_),(fun p hp=>by simp at hp;subst hp;simp),((by repeat (first|exact ak.refl _|assumption|refine ak.drewN ?_ _|refine ak.drew ?_|refine ak.alloc ?_ _|refine ak.grow ?_ _)):ak _ _)⟩
 obtain⟨j,hj,rfl,ps,HE,HO,HN,HQ,HL⟩:=hrel;have hn:=HN.out;obtain⟨ao,no',co,rfl⟩:∃a n c,u6=.slice a n c:=by obtain⟨a,c,e⟩:=Lists.slice HO.out;exact⟨a,_,c,e⟩
 by_cases hlt:j<body.length
 ·obtain⟨a,hx⟩:∃x,body[j]?=some x:=⟨_,List.getElem?_eq_getElem hlt⟩;obtain⟨b1,o1,_,rfl,hb1,⟨sv,rfl,hsv⟩,hc⟩:=aB.bO HV.out hx;have d0:wr.cell? ⟨b1,o1+j*3,none⟩=some (.bool a.no):=by rw[HL.out.cell hb1];exact hc 0 _ rfl
  have d1:wr.cell? ⟨b1,o1+j*3+1,none⟩=some (.string (bs a.name)):=by rw[HL.out.cell hb1];exact hc 1 _ rfl
  have d2:wr.cell? ⟨b1,o1+j*3+2,none⟩=some sv:=by rw[HL.out.cell hb1];exact hc 2 _ rfl
  have hbr:b1<wr.heap.size:=Nat.lt_of_lt_of_le hb1 HL.out.size;have hat:=HA.out a (List.mem_of_getElem? hx);have HS:=au (EX (pick:=pick) hx (ps.map (·.2)));obtain⟨sva,svc,rfl⟩:=aB.slice hsv;have HSV:=au hsv;clear hc hx hsv;cases hno:a.no
  ·have HS1:Hid (R=if 20000<(aQ a (pick j) (ps.map (·.2))).length then none else dF pick (j+1) (body.drop (j+1)) (aQ a (pick j) (ps.map (·.2)))):=by
    show _=_;rw[HE.out,HS.out,hno];rfl
   rw[hno] at d0;obtain⟨wb,hwb⟩:∃wb,wb=wr.alloc (.cells #[.bool false,.string (bs a.name),.slice sva a.terms.length svc] 79):=⟨_,rfl⟩;have hLb:ak w wb:=by rw[hwb];exact HL.out.alloc _
   have hLr:ak wr wb:=by rw[hwb];exact(ak.refl _).alloc _
   have z:wb.cell? ⟨wr.heap.size,0,none⟩=some (.bool false)∧wb.cell? ⟨wr.heap.size,1,none⟩=some (.string (bs a.name))∧wb.cell? ⟨wr.heap.size,2,none⟩=some (.slice sva a.terms.length svc):=by rw[hwb];simp
   have hsb:wr.heap.size<wb.heap.size:=by rw[hwb];simp
   have CELL:Hid (∀w',ak wb w'→w'.cell? ⟨wr.heap.size,0,none⟩=some (.bool false)∧w'.cell? ⟨wr.heap.size,1,none⟩=some (.string (bs a.name))∧w'.cell? ⟨wr.heap.size,2,none⟩=some (.slice sva a.terms.length svc)):=fun w' hL=>
    ⟨by rw[hL.cell hsb];exact z.1,by rw[hL.cell hsb];exact z.2.1,by rw[hL.cell hsb];exact z.2.2⟩
   have HFr:Hid (∀w',ak wb w'→Calls Tryz.prog g (#[.int .i64 j]++cb) w' fun e w2=>∃v,e=.returned v∧Facts w2 v (pick j)∧ak w' w2):=fun w' hL=>
    HP.out w' j (hLb.trans hL).below (by omega)
   have HMA:Hid (∀w' fv,ak wb w'→Facts w' fv (pick j)→Calls Tryz.prog 165 #[.agg #[.bool false,.string (bs a.name),.slice sva a.terms.length svc],fv,.slice ao no' co] w' fun e w2=>∃v' er,e=.returned (.tuple #[v',.int .i64 er])∧Hid (er=if 20000<(aQ a (pick j) (ps.map (·.2))).length then 4 else 0)∧Hid (Ai w' w2 v' (aQ a (pick j) (ps.map (·.2))))∧ak w' w2):=fun w' fv hL hf=>by
    have h1:=KN a _ fv (.slice ao no' co) (pick j) (ps.map (·.2)) w' (aB.aK HSV.out (hLb.trans hL)) hf (aB.dO ((HO.out.later (hLr.trans hL)).sl (by omega) (fun p hp=>by have:=HQ.out p hp;omega))) (HFS.out j) (by simpa using hn) hat (fun l hl=>by obtain⟨p,hp,rfl⟩:=List.mem_map.1 hl;have:=HQ.out p hp;omega)
    rw[hno] at h1;exact h1.mono fun e w2 ⟨v',he,hm,hl⟩=>⟨v',_,he,(rfl:_=_),hm,hl⟩
   have HWB:=au hwb;have HQ1:Hid (∀m∈aQ a (pick j) (ps.map (·.2)),m.length≤4*(j+1)):=fun m hm=>by
    have:=Al (a:=a) (fs:=pick j) (ls:=ps.map (·.2)) (n:=4*j) (fun l hl=>by obtain⟨p,hp,rfl⟩:=List.mem_map.1 hl;exact HQ.out p hp) m hm
    omega
   clear hwb z hsb HE HS HSV hno;generalize aQ a (pick j) (ps.map (·.2))=MA at*;generalize bs a.name=nm at*;go_wp2;rw[←HWB.out];refine wp_region_held_drew (S:=fun w'=>ak wb w') (by kernel_rfl) (ak.refl _).drew (fun hHeld=>?_);refine tkY 0 21 hHeld ?_ rfl fun w hSw=>by obtain⟨q0,q1,q2⟩:=CELL.out w hSw;go_simp;try with_reducible rfl
   refine tkY 1 22 hHeld ?_;refine tkY 2 23 hHeld ?_;refine tkY 4 25 hHeld ?_;refine tkC 3 fun K hK=>?_;go_simp;refine(HFr.out _ hHeld).mono ?_;rintro e u1 ⟨fv,rfl,hfv,hU1⟩;dsimp only;have MC:ak wb u1:=ak.trans hHeld hU1;refine hK.out _ _ MC (fun hHeld=>?_);clear hK K;refine tkC 5 fun K hK=>?_;go_simp;refine(HMA.out _ fv MC hfv).mono ?_;rintro e u2 ⟨v',er,rfl,HER,HMT,hU2⟩;dsimp only;have Qe:ak wb u2:=MC.trans hU2;refine hK.out _ _ Qe (fun hHeld=>?_);clear hK K;refine tkY 6 20 hHeld ?_;refine tkY 7 27 hHeld ?_;refine tkY 8 28 hHeld ?_;refine tkY 9 6 hHeld ?_;refine tkY 10 9 hHeld ?_;refine wpAnyH_done (by kernel_rfl) ?_ _;have hLu:ak w u2:=hLb.trans Qe;have hsu:w.heap.size≤u1.heap.size:=(hLb.trans MC).size
   by_cases hbig:20000<MA.length
   ·have HR:Hid (R=none):=by show _=_;rw[HS1.out,if_pos hbig]
    have he:er=4:=by rw[HER.out,if_pos hbig]
    subst he;clear hbig HER HMT HS1;go_wp2
    go_ret2
    exact⟨_,_,rfl,by rw[HR.out];exact⟨rfl,rfl⟩,hLu⟩
   have HR:Hid (R=dF pick (j+1) (body.drop (j+1)) MA):=by show _=_;rw[HS1.out,if_neg hbig]
   have he:er=0:=by rw[HER.out,if_neg hbig]
   subst he;have hmt:=HMT.out;unfold Ai at hmt;rw[if_neg hbig] at hmt;obtain⟨ps',RZ,hLs⟩:=hmt;have HR2:Hid (R=dF pick (j+1) (body.drop (j+1)) (ps'.map (·.2))):=by show _=_;rw[RZ];exact HR.out
   have HN2:Hid (ps'.length≤20000):=by show _≤_;rw[←RZ,List.length_map] at hbig;omega
   have HQ2:Hid (∀p∈ps',p.2.length≤4*(j+1)):=fun p hp=>HQ1.out _ (by rw[←RZ];exact List.mem_map.2 ⟨p,hp,rfl⟩);have HO2:=au (hLs.base hsu);obtain⟨a4,n4,c4,rfl⟩:∃a n c,v'=.slice a n c:=by obtain⟨a,c,e⟩:=Lists.slice hLs;exact⟨a,_,c,e⟩
   clear hbig HER HMT HS1 RZ hLs HR;go_wp2
   go_roundg (body.length- (j+1))
   case measure=>omega
   case rel=>exact⟨j+1,by omega,by go_num,ps',HR2,HO2,HN2,HQ2,hLu⟩
  have HS1:Hid (R=dF pick (j+1) (body.drop (j+1)) (ps.map (·.2))):=by show _=_;rw[HE.out,HS.out,hno];rfl
  rw[hno] at d0;clear HE HS hno;generalize bs a.name=nm at*;go_wp2
  go_roundg (body.length- (j+1))
  case measure=>omega
  case rel=>exact⟨j+1,by omega,by go_num,ps,HS1,HO.out.later ((ak.refl _).alloc _),HN,(fun p hp=>by have:=HQ.out p hp;omega),HL.out.alloc _⟩
 have e:j=body.length:=by omega
 have HR:Hid (R=some (ps.map (·.2))):=by show _=_;rw[HE.out,List.drop_eq_nil_of_le (by omega)];rfl
 clear HE;go_wp2
 go_ret2
 refine⟨_,_,rfl,?_,HL.out⟩;rw[HR.out];exact⟨rfl,ps,rfl,by simpa using hn,fun m hm=>by obtain⟨p,hp,rfl⟩:=List.mem_map.1 hm;have:=HQ.out p hp;omega,HO.out⟩
end Go.Proofs.YtaallngooaaonaaGreatDoor
