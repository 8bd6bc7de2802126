import Derived.Test.YthngiikhgplldaaGreatDoorJR24
import Derived.Test.YthngiikhgplldaaGreatDoorJR5
open Go.RowKit Go.Sort Go.Maps
set_option maxHeartbeats 4000000
set_option maxRecDepth 100000
namespace Go.Proofs.YthngiikhgplldaaGreatDoor
def Je (a:aJ):Prop:=a.terms.length≤6000000000000∧∀t∈a.terms,t.2.length≤maxLen
theorem EH (a b:Bs):((bs a).toList==(bs b).toList)=decide (a=b):=by rw[Bool.eq_iff_iff,beq_iff_eq,decide_eq_true_iff];exact⟨fun h=>oD (toList_inj h),fun h=>by rw[h]⟩
theorem Ab (a:aJ) (s:Bs) (b:Bool) (t:Nat) {u:Bs} (h:(vars a)[t]?=some u):(b||(!a.no&&((vars a).take (t+1)).contains s))=((b||(!a.no&&((vars a).take t).contains s))||(!a.no&&decide (u=s))):=by
 rw[List.take_add_one,h];rw[Bool.eq_iff_iff];simp
 constructor
 ·rintro(h|⟨h1,h|h⟩);·exact Or.inl (Or.inl h)
  ·exact Or.inl (Or.inr ⟨h1,h⟩)
  exact Or.inr ⟨h1,h.symm⟩
 rintro((h|⟨h1,h⟩)|⟨h1,h⟩);·exact Or.inl h
 ·exact Or.inr ⟨h1,Or.inl h⟩
 exact Or.inr ⟨h1,Or.inr h.symm⟩
theorem EI (a:aJ) (va:Value) (l:List aJ) (v:Value) (w:World) (hva:gJ.sl bT w va a.terms) (hka:Je a) (hv:dY.sl bT w v l) (hk:∀b∈l,Je b):
  Calls Tryz.prog 58 #[.agg #[.bool a.no,.string (bs a.name),va],v] w fun e w'=>e=.returned (.bool ((vars a).all (givenBy l)))∧Below w.heap.size w w':=by
 have HVr:=au (Iw a va (w.alloc (.cells #[.bool a.no,.string (bs a.name),va] 54)) (aB.aS hva ((aj.refl w).alloc _)) hka.1 hka.2);have HV:=au hv;have HK:=au hk;have hl0:=hv.1.1;obtain⟨sa,cap,rfl⟩:=aB.slice hv;obtain⟨ta,tc,rfl⟩:=aB.slice hva;have hvl:=ny a;have Nj:=hka.1;clear hv hk hva hka;generalize hvs:vars a=vs at*;clear hvs;generalize bs a.name=nm at*;generalize a.no=no at*
 go_enter Tryz.func58,Tryz.ntmps58
 go_wp2_with fail
 refine HVr.out.mono ?_;rintro e w1 ⟨u1,rfl,hO1,hB1⟩;have hs1:=hB1.size;simp only[World.size_alloc] at hs1;have HW1:=au (ak ((aj.refl w).alloc (.cells #[.bool no,.string nm,.slice ta a.terms.length tc] 54)).below hB1 (by simp));have HU:=au (aB.dO (aB.gQ hO1 (by omega)));obtain⟨ua,uc,rfl⟩:=aB.bI hO1;clear hO1 hB1 HVr;go_wp2
 go_loopg [15] vs.length (fun k i wr=>∃j:Nat,j+k=vs.length∧i=.int .i64 j∧Hid (Below w1.heap.size w1 wr)∧Hid (vs.all (givenBy l)=(vs.drop j).all (givenBy l)))
 case atStart=>exact⟨0,by omega,rfl,Below.refl _ _,(rfl:_=_)⟩
 obtain⟨j,hj,rfl,HB,HF⟩:=hrel
 by_cases hlt:j<vs.length
 ·obtain⟨x,hx⟩:∃x,vs[j]?=some x:=⟨_,List.getElem?_eq_getElem hlt⟩;obtain⟨b1,o1,_,rfl,hb1,rfl,hc⟩:=aB.bR (aB.aO HU.out HB.out) hx;have d0:wr.cell? ⟨b1,o1+j,none⟩=some (.string (bs x)):=by simpa[iH] using hc 0 _ rfl
  have hd:=tQ hx (givenBy l);have HG0:Hid (givenBy (l.take 0) x=false):=by show _=_;simp[givenBy]
  clear hc hx;generalize hbx:bs x=bx at*;have HBX:=au hbx;clear hbx;go_wp2
  go_loopg [7,21] l.length (fun k s7 i wr2=>∃q:Nat,q+k=l.length∧i=.int .i64 q∧s7=.bool (givenBy (l.take q) x)∧Hid (Below w1.heap.size w1 wr2))
  case atStart=>exact⟨0,by omega,rfl,by rw[HG0.out],HB⟩
  obtain⟨q,hq,rfl,rfl,HBq⟩:=hrel;clear HB d0
  by_cases hlq:q<l.length
  ·obtain⟨b,hb⟩:∃x,l[q]?=some x:=⟨_,List.getElem?_eq_getElem hlq⟩;obtain⟨b2,o2,_,rfl,hb2,⟨tv,rfl,htv⟩,hcl⟩:=aB.bR HV.out hb;have hWq:Below w.heap.size w wr:=ak HW1.out HBq.out (by omega);have d0:wr.cell? ⟨b2,o2+q*3,none⟩=some (.bool b.no):=by rw[hWq.cell hb2];exact hcl 0 _ rfl
   have d1:wr.cell? ⟨b2,o2+q*3+1,none⟩=some (.string (bs b.name)):=by rw[hWq.cell hb2];exact hcl 1 _ rfl
   have d2:wr.cell? ⟨b2,o2+q*3+2,none⟩=some tv:=by rw[hWq.cell hb2];exact hcl 2 _ rfl
   have hbr:b2<wr.heap.size:=by have:=hWq.size;omega
   have hkb:=HK.out b (List.mem_of_getElem? hb);have HVb:=au (Iw b tv (wr.alloc (.cells #[.bool b.no,.string (bs b.name),tv] 54)) (aB.aO htv (hWq.alloc hWq.size _)) hkb.1 hkb.2);have HG:=au (nR hb x);have hvb:=ny b;have Nk:=hkb.1;have HP:Hid (∀(c:Bool) (t:Nat) (u:Bs),(vars b)[t]?=some u→(c||(!b.no&&((vars b).take (t+1)).contains x))=((c||(!b.no&&((vars b).take t).contains x))||(!b.no&&decide (u=x)))):=fun c t u h=>Ab b x c t h;obtain⟨t2,c2,rfl⟩:=aB.slice htv;clear hcl hb htv hkb hWq;generalize hv2:vars b=vb at*;clear hv2;generalize bs b.name=nb at*;generalize b.no=bn at*;generalize givenBy (l.take q) x=c0 at*
   go_wp2_with fail
   refine HVb.out.mono ?_;rintro e w3 ⟨u3,rfl,hO3,hB3⟩;have hs3:=hB3.size;simp only[World.size_alloc] at hs3;have hq1:=HBq.out.size;have HZ:Hid (∀w',Below w3.heap.size w3 w'→w'.cell? ⟨wr.heap.size,0,none⟩=some (.bool bn)∧wr.heap.size<w'.heap.size∧Below w1.heap.size w1 w'):=fun w' k=>by refine⟨?_,by have:=k.size;omega,ak (ak (HBq.out.alloc hq1 _) hB3 (by simp;omega)) k (by omega)⟩;rw[k.cell (by show wr.heap.size<_;omega),hB3.cell (by simp)];simp
   have HU3:=au (aB.dO (aB.gQ hO3 (by omega)));obtain⟨u4,c4,rfl⟩:=aB.bI hO3;clear hO3 hB3 HVb d0 d1 d2;go_wp2
   go_loopg [7,28] vb.length (fun k s7 i wr3=>∃t:Nat,t+k=vb.length∧i=.int .i64 t∧s7=.bool (c0||(!bn&&(vb.take t).contains x))∧Hid (Below w3.heap.size w3 wr3))
   case atStart=>exact⟨0,by omega,rfl,by simp,Below.refl _ _⟩
   obtain⟨t,ht,rfl,rfl,HBt⟩:=hrel
   by_cases hlt3:t<vb.length
   ·obtain⟨u,hu⟩:∃x,vb[t]?=some x:=⟨_,List.getElem?_eq_getElem hlt3⟩;obtain⟨b5,o5,_,rfl,hb5,rfl,hc5⟩:=aB.bR (aB.aO HU3.out HBt.out) hu;have f0:wr.cell? ⟨b5,o5+t,none⟩=some (.string (bs u)):=by simpa[iH] using hc5 0 _ rfl
    obtain⟨z0,zl,_⟩:=HZ.out wr HBt.out;have hE:=HP.out c0 t u hu;have hEq:((bs u).toList==bx.toList)=decide (u=x):=by rw[←HBX.out];exact EH u x
    generalize decide (u=x)=du at*;generalize(c0||(!bn&&(vb.take t).contains x))=cv at*;have HE:=au hE;clear hc5 hu hE;generalize bs u=bu at*;cases cv
    ·cases bn
     ·cases du
      all_goals
       go_wp2
       go_roundg (vb.length- (t+1))
       case measure=>omega
       case rel=>exact⟨t+1,by omega,by go_num,by rw[HE.out];rfl,HBt⟩
     go_wp2
     go_roundg (vb.length- (t+1))
     case measure=>omega
     case rel=>exact⟨t+1,by omega,by go_num,by rw[HE.out];rfl,HBt⟩
    go_wp2
    go_roundg (vb.length- (t+1))
    case measure=>omega
    case rel=>exact⟨t+1,by omega,by go_num,by rw[HE.out];rfl,HBt⟩
   have e:t=vb.length:=by omega
   subst e;have HB2:=au (HZ.out wr HBt.out).2.2;go_wp2
   go_roundg (l.length- (q+1))
   case measure=>omega
   case rel=>exact⟨q+1,by omega,by go_num,by rw[HG.out,List.take_length],HB2⟩
  have e:q=l.length:=by omega
  subst e;rw[List.take_length];cases hgx:givenBy l x
  ·have F:Hid (vs.all (givenBy l)=false):=by show _=_;rw[HF.out,hd,hgx];rfl
   clear hd HF hgx;go_wp2;go_ret;exact⟨bB F.out.symm,ak HW1.out HBq.out (by omega)⟩
  have F:Hid (vs.all (givenBy l)=(vs.drop (j+1)).all (givenBy l)):=by show _=_;rw[HF.out,hd,hgx];rfl
  clear hd HF hgx;go_wp2
  go_roundg (vs.length- (j+1))
  case measure=>omega
  case rel=>exact⟨j+1,by omega,by go_num,HBq,F⟩
 have F:Hid (vs.all (givenBy l)=true):=by show _=_;rw[HF.out,List.drop_eq_nil_of_le (by omega)];rfl
 go_wp2;go_ret;exact⟨bB F.out.symm,ak HW1.out HB.out (by omega)⟩
theorem Ch {a:aJ} (h:aL a=0):Je a:=by obtain⟨_,h2,h3⟩:=bL h;exact⟨by omega,fun t ht=>dL (h3 t ht)⟩
theorem Ac (l:List aJ) (v:Value) (w:World) (hv:dY.sl bT w v l) (hk:∀a∈l,Cg a):
  Calls Tryz.prog 57 #[v] w fun e w'=>e=.returned (.int .i64 (aM l))∧Below w.heap.size w w':=by
 obtain⟨sa,cap,rfl⟩:=aB.slice hv;have hl0:=hv.1.1;have HV:=au hv;have HK:=au hk;clear hv hk
 by_cases h5:5<l.length
 ·have F:Hid (aM l=5):=by show _=_;unfold aM;rw[if_pos h5]
  go_enter Tryz.func57,Tryz.ntmps57
  go_wp2;go_ret;exact⟨by rw[F.out];rfl,Below.refl _ _⟩
 have F:Hid (aM l=if bE l=0 then(if l.all (fun a=>(vars a).all (givenBy l)) then 0 else 9) else bE l):=by show _=_;unfold aM;rw[if_neg h5]
 go_enter Tryz.func57,Tryz.ntmps57
 go_wp2
 go_loopg [13] l.length (fun k i wr=>∃j:Nat,j+k=l.length∧i=.int .i64 j∧Hid (bE l=bE (l.drop j))∧Hid (∀a∈l.take j,aL a=0)∧Hid (Below w.heap.size w wr))
 case atStart=>exact⟨0,by omega,rfl,(rfl:_=_),(fun a ha=>by simp at ha),Below.refl _ _⟩
 obtain⟨j,hj,rfl,HE,HG,HB⟩:=hrel;have hwr:=HB.out.size
 by_cases hlt:j<l.length
 ·obtain⟨x,hx⟩:∃x,l[j]?=some x:=⟨_,List.getElem?_eq_getElem hlt⟩;obtain⟨b1,o1,_,rfl,hb1,⟨sv,rfl,hsv⟩,hc⟩:=aB.bR HV.out hx;have d0:wr.cell? ⟨b1,o1+j*3,none⟩=some (.bool x.no):=by rw[HB.out.cell hb1];exact hc 0 _ rfl
  have d1:wr.cell? ⟨b1,o1+j*3+1,none⟩=some (.string (bs x.name)):=by rw[HB.out.cell hb1];exact hc 1 _ rfl
  have d2:wr.cell? ⟨b1,o1+j*3+2,none⟩=some sv:=by rw[HB.out.cell hb1];exact hc 2 _ rfl
  have hbr:b1<wr.heap.size:=by omega
  have hB1:Below w.heap.size w (wr.alloc (.cells #[.bool x.no,.string (bs x.name),sv] 54)):=HB.out.alloc HB.out.size _;have HC:Hid (Calls Tryz.prog 56 #[.agg #[.bool x.no,.string (bs x.name),sv]] (wr.alloc (.cells #[.bool x.no,.string (bs x.name),sv] 54)) fun e w2=>e=.returned (.int .i64 (aL x))∧Hid (Below w.heap.size w w2)):=
   (rU x sv _ (aB.aO hsv hB1) (HK.out x (List.mem_of_getElem? hx))).mono fun e w2 ⟨he,hL⟩=>⟨he,ak hB1 hL.below (by simp;omega)⟩
  have hst:=jY hx;obtain⟨a2,c2,rfl⟩:=aB.slice hsv
  by_cases h0:aL x=0
  ·have HE1:Hid (bE l=bE (l.drop (j+1))):=by show _=_;rw[HE.out,hst,if_pos h0]
   have HG1:Hid (∀a∈l.take (j+1),aL a=0):=fun a ha=>by
    rw[List.take_add_one,hx] at ha;rcases List.mem_append.1 ha with ha|ha
    ·exact HG.out a ha
    simp at ha;rw[ha];exact h0
   rw[h0] at HC;clear hst hc hx hsv hB1 HE HG h0;generalize bs x.name=nm at*;generalize x.no=xn at*
   go_wp2_with (go_at_call 56;refine HC.out.mono ?_;rintro e w2 ⟨rfl,hB2⟩)
   go_roundg (l.length- (j+1))
   case measure=>omega
   case rel=>exact⟨j+1,by omega,by go_num,HE1,HG1,hB2⟩
  have F2:Hid (aM l=aL x):=by show _=_;rw[F.out,HE.out,hst,if_neg h0,if_neg h0]
  have hq:(aL x != 0)=true:=by simpa using h0
  clear hst hc hx hsv hB1 HE HG h0;generalize bs x.name=nm at*;generalize x.no=xn at*;generalize aL x=ex at*
  go_wp2_with (go_at_call 56;refine HC.out.mono ?_;rintro e w2 ⟨rfl,hB2⟩)
  go_ret;exact⟨by rw[F2.out];rfl,hB2.out⟩
 have e:j=l.length:=by omega
 subst e;have HG1:Hid (∀a∈l,aL a=0):=by have:=HG.out;rw[List.take_length] at this;exact this
 have F1:Hid (aM l=if l.all (fun a=>(vars a).all (givenBy l)) then 0 else 9):=by show _=_;rw[F.out,if_pos];rw[HE.out,List.drop_length];rfl
 clear HE HG F;go_wp2
 go_loopg [25] l.length (fun k i wr=>∃j:Nat,j+k=l.length∧i=.int .i64 j∧Hid (l.all (fun a=>(vars a).all (givenBy l))=(l.drop j).all (fun a=>(vars a).all (givenBy l)))∧Hid (Below w.heap.size w wr))
 case atStart=>exact⟨0,by omega,rfl,(rfl:_=_),HB⟩
 obtain⟨j,hj,rfl,HF,HBj⟩:=hrel;clear HB;have hwr2:=HBj.out.size
 by_cases hlt:j<l.length
 ·obtain⟨x,hx⟩:∃x,l[j]?=some x:=⟨_,List.getElem?_eq_getElem hlt⟩;obtain⟨b1,o1,_,rfl,hb1,⟨sv,rfl,hsv⟩,hc⟩:=aB.bR HV.out hx;have d0:wr.cell? ⟨b1,o1+j*3,none⟩=some (.bool x.no):=by rw[HBj.out.cell hb1];exact hc 0 _ rfl
  have d1:wr.cell? ⟨b1,o1+j*3+1,none⟩=some (.string (bs x.name)):=by rw[HBj.out.cell hb1];exact hc 1 _ rfl
  have d2:wr.cell? ⟨b1,o1+j*3+2,none⟩=some sv:=by rw[HBj.out.cell hb1];exact hc 2 _ rfl
  have hbr:b1<wr.heap.size:=by omega
  have hB1:Below w.heap.size w (wr.alloc (.cells #[.bool x.no,.string (bs x.name),sv] 54)):=HBj.out.alloc HBj.out.size _;have HA:Hid (Calls Tryz.prog 58 #[.agg #[.bool x.no,.string (bs x.name),sv],.slice (some ⟨b1,o1,none⟩) l.length cap] (wr.alloc (.cells #[.bool x.no,.string (bs x.name),sv] 54)) fun e w3=>e=.returned (.bool ((vars x).all (givenBy l)))∧Hid (Below w.heap.size w w3)):=
   (EI x sv l _ _ (aB.aO hsv hB1) (Ch (HG1.out x (List.mem_of_getElem? hx))) (aB.aO HV.out hB1) (fun b hb=>Ch (HG1.out b hb))).mono fun e w3 ⟨he,hL⟩=>⟨he,ak hB1 hL (by simp;omega)⟩
  have hst:=tQ hx (fun a=>(vars a).all (givenBy l));obtain⟨a2,c2,rfl⟩:=aB.slice hsv;generalize hvx:(vars x).all (givenBy l)=vx at*;cases vx
  ·have F2:Hid (aM l=9):=by show _=_;rw[F1.out,HF.out,hst];rfl
   clear hst hc hx hsv hB1 HF hvx F1;generalize bs x.name=nm at*;generalize x.no=xn at*
   go_wp2_with (go_at_call 58;refine HA.out.mono ?_;rintro e w5 ⟨rfl,k2⟩)
   go_ret;exact⟨by rw[F2.out];rfl,k2.out⟩
  have HF1:Hid (l.all (fun a=>(vars a).all (givenBy l))=(l.drop (j+1)).all (fun a=>(vars a).all (givenBy l))):=by show _=_;rw[HF.out,hst];rfl
  clear hst hc hx hsv hB1 HF hvx;generalize bs x.name=nm at*;generalize x.no=xn at*
  go_wp2_with (go_at_call 58;refine HA.out.mono ?_;rintro e w5 ⟨rfl,k2⟩)
  go_roundg (l.length- (j+1))
  case measure=>omega
  case rel=>exact⟨j+1,by omega,by go_num,HF1,k2⟩
 have F2:Hid (aM l=0):=by show _=_;rw[F1.out,HF.out,List.drop_eq_nil_of_le (by omega)];rfl
 go_wp2;go_ret;exact⟨by rw[F2.out];rfl,HBj.out⟩
theorem Iy (e i:Int) (g:Nat) (w:World) (h:w.cell? ⟨g,0,none⟩=some (.int .i64 i)):
  Calls Tryz.prog 55 #[.int .i64 e,.pointer (some ⟨g,0,none⟩)] w fun x w'=>x=.returned (.agg #[.int .i64 e,.int .i64 i])∧aj w w':=by
 have hg:=World.block_lt_of_cell? w _ h;have hg':g<w.heap.size:=hg;have hgn:g≠w.heap.size:=by omega
 go_enter Tryz.func55,Tryz.ntmps55
 go_wp2;exact bodyPost_ret (v:=.agg #[.int .i64 e,.int .i64 i]) (by simp[results,Tryz.results55,go_sem]) rfl ⟨rfl,(by repeat (first|exact aj.refl _|assumption|refine aj.drewN ?_ _|refine aj.drew ?_|refine aj.alloc ?_ _|refine aj.grow ?_ _))⟩
theorem flat_get {size:Nat}:∀(cs:List (List Value)),(∀c∈cs,c.length=size)→∀i c j,cs[i]?=some c→j<size→cs.flatten[i*size+j]?=c[j]?
 |[],_,i,c,j,h,_=>by simp at h
 |d::cs,hl,i,c,j,h,hj=>by
  have hd:d.length=size:=hl d (by simp);cases i with
  |zero=>
   simp at h;subst h;rw[List.flatten_cons,Nat.zero_mul,Nat.zero_add,List.getElem?_append_left (by omega)]
  |succ i=>
   have ih:=flat_get cs (fun c hc=>hl c (by simp[hc])) i c j (by simpa using h) hj;rw[List.flatten_cons,List.getElem?_append_right (by rw[Nat.add_mul];omega),show(i+1)*size+j-d.length=i*size+j by rw[Nat.add_mul];omega];exact ih
theorem uh {size:Nat}:∀(cs:List (List Value)),(∀c∈cs,c.length=size)→cs.flatten.length=cs.length*size
 |[],_=>by simp
 |d::cs,hl=>by have:=uh cs (fun c hc=>hl c (by simp[hc]));have hd:d.length=size:=hl d (by simp);rw[List.flatten_cons,List.length_append,this,hd,List.length_cons,Nat.add_mul];omega
theorem aB.tJ {α:Type} {K:aB α} {B:Nat→Prop} {w:World} {a:Addr} {n cap:Nat} {m:List α} (h:K.sl B w (.slice (some a) n cap) m) (hsz:0<K.size):
  ∃cs:List (List Value),cs.length=m.length∧(∀c∈cs,c.length=K.size)∧(∀c∈cs,∀u∈c,u.oneCell'=true)∧(∀(j:Nat) (u:Value),cs.flatten[j]?=some u→w.cell? (a.add j)=some u)∧∀(i:Nat) (c:List Value) (x:α),cs[i]?=some c→m[i]?=some x→K.is B w c x:=by
 by_cases hm:m=[]
 ·subst hm;exact⟨[],rfl,by simp,by simp,by simp,fun i c x h=>by simp at h⟩
 obtain⟨_,a',cap',e,h1⟩:=h;simp only[Value.slice.injEq] at e;obtain⟨rfl,_,_⟩:=e;obtain⟨b,off,e,_,hb,hc⟩:=h1 hm;simp only[Option.some.injEq] at e;subst e;have key:∀i:Fin m.length,∃c,K.is B w c m[i.1]∧∀j u,c[j]?=some u→w.cell? ⟨b,off+i.1*K.size+j,none⟩=some u:=fun i=>hc i.1 _ (List.getElem?_eq_getElem i.2);have get:∀i,(List.ofFn fun i:Fin m.length=>Classical.choose (key i))[i]?=if h:i<m.length then some (Classical.choose (key ⟨i,h⟩)) else none:=fun i=>by rw[List.getElem?_ofFn]
 have hl:∀c∈List.ofFn fun i:Fin m.length=>Classical.choose (key i),c.length=K.size:=fun c hc=>by rw[List.mem_ofFn] at hc;obtain⟨i,rfl⟩:=hc;exact K.len (Classical.choose_spec (key i)).1
 refine⟨List.ofFn fun i:Fin m.length=>Classical.choose (key i),by simp,hl,fun c hc=>?_,fun j u hu=>?_,fun i c x hi hx=>?_⟩;·rw[List.mem_ofFn] at hc;obtain⟨i,rfl⟩:=hc;exact K.one (Classical.choose_spec (key i)).1
 ·have hj:=(List.getElem?_eq_some_iff.1 hu).1;rw[uh _ hl,List.length_ofFn] at hj;have hq:j/K.size<m.length:=(Nat.div_lt_iff_lt_mul hsz).2 hj;have hr:j%K.size<K.size:=Nat.mod_lt _ hsz;have hjq:j/K.size*K.size+j%K.size=j:=by rw[Nat.mul_comm];exact Nat.div_add_mod j K.size
  have hg:=get (j/K.size);rw[dif_pos hq] at hg;have:=flat_get _ hl _ _ (j%K.size) hg hr;rw[hjq,hu] at this;have hcell:=(Classical.choose_spec (key ⟨j/K.size,hq⟩)).2 _ u this.symm;rw[Addr.add_lit];rw[show off+j/K.size*K.size+j%K.size=off+j by omega] at hcell;exact hcell
 rw[get] at hi;split at hi;·rename_i h;rw[List.getElem?_eq_getElem h] at hx;cases hi;cases hx;exact(Classical.choose_spec (key ⟨i,h⟩)).1
 cases hi
end Go.Proofs.YthngiikhgplldaaGreatDoor
