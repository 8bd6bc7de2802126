import Derived.Test.YthngiikhgplldaaGreatDoorJR16
import Derived.RegionTactic
import Derived.ChangeAlike
import Derived.Test.YthngiikhgplldaaGreatDoorJR15
open Go.RowKit Go.Sort Go.Maps
set_option maxHeartbeats 4000000
set_option maxRecDepth 100000
namespace Go.Proofs.YthngiikhgplldaaGreatDoor
theorem FK (b n c:Nat) (m:bZ) (a:aJ) (v:Value) (w:World) (h:dx w b n m) (hv:gJ.sl bT w v a.terms) (hs:a.name.length≤maxLen) (hc:numOf m a.name≤c) (hcc:c≤1000000):
  Calls Tryz.prog 68 #[.map (some b),.agg #[.bool a.no,.string (bs a.name),v]] w fun e w'=>e=.returned (.int .i64 (behind m a:Nat))∧aj w w':=by
 obtain⟨sa,cap,rfl⟩:=aB.slice hv;clear hv;have h1:=h.later ((aj.refl w).alloc (.cells #[.bool a.no,.string (bs a.name),.slice sa a.terms.length cap] 54));have hr:=iK.Aw (T:=84) h1 Tryz.underlying9 Tryz.underlying3 Tryz.underlying84 (jB _) hs;clear h h1;cases hm:m a.name with
 |none=>
  have e0:numOf m a.name=0:=by unfold numOf;rw[hm];rfl
  have F:Hid (behind m a=0):=by show _=_;unfold behind;rw[hm]
  rw[hm,e0] at hr;clear hm e0 hc;generalize bs a.name=nm at*;generalize a.no=no at*
  go_enter Tryz.func68,Tryz.ntmps68
  go_wp2;go_ret;exact⟨by rw[F.out];rfl,(aj.refl _).alloc _⟩
 |some k=>
  have e0:numOf m a.name=k:=by unfold numOf;rw[hm];rfl
  have F:Hid (behind m a=if a.no then k+1 else k):=by show _=_;unfold behind;rw[hm]
  rw[hm,e0] at hr;rw[e0] at hc;clear hm e0;generalize bs a.name=nm at*;generalize a.no=no at*;cases no
  ·go_enter Tryz.func68,Tryz.ntmps68
   go_wp2;go_ret;exact⟨by rw[F.out];rfl,(aj.refl _).alloc _⟩
  have F2:Hid (((behind m a:Nat):Int)=(k:Int)+1):=by show _=_;rw[F.out];simp
  go_enter Tryz.func68,Tryz.ntmps68
  go_wp2;go_ret;exact⟨by rw[F2.out];rfl,(aj.refl _).alloc _⟩
theorem vZ {m:bZ} {c:Nat} (h:∀s,numOf m s≤c) (a:aJ):behind m a≤c+1:=by
 have:=h a.name;unfold numOf at this;unfold behind;cases hm:m a.name with
 |none=>simp
 |some k=>rw[hm] at this;simp at this;simp only;split <;> omega
theorem xJ {h:Bs} {x:bZ×Bool} {c:Nat} (hc:∀s,numOf x.1 s≤c) (a:aJ):∀s,numOf (aY h x a).1 s≤c+1:=by
 intro s;unfold aY;split
 ·show numOf (x.1.put _ _) s≤_;rw[eP];split;·exact vZ hc a
  have:=hc s;omega
 have:=hc s;omega
theorem tY {l:List aJ} {q:Nat} {a:aJ} (h:l[q]?=some a) (s:Bs) (y:bZ×Bool):(l.drop q).foldl (aY s) y=(l.drop (q+1)).foldl (aY s) (aY s y a):=by obtain⟨h1,e1⟩:=List.getElem?_eq_some_iff.1 h;rw[List.drop_eq_getElem_cons h1,e1];rfl
theorem wh {p:List aD} {j:Nat} {r:aD} (h:p[j]?=some r) (x:bZ×Bool):liftAll x (p.drop j)=liftAll (fq x r) (p.drop (j+1)):=by obtain⟨h1,e1⟩:=List.getElem?_eq_some_iff.1 h;rw[List.drop_eq_getElem_cons h1,e1];rfl
def DU (r:aD):Prop:=r.head.name.length≤maxLen∧r.body.length≤5∧∀a∈r.body,a.name.length≤maxLen
theorem FL (b n c:Nat) (m:bZ) (p:List aD) (v:Value) (w:World) (h:dx w b n m) (hv:iy.sl (fun k=>k≠b) w v p) (hf:∀r∈p,DU r) (hp:p.length≤16) (hc:∀s,numOf m s≤c) (hn:n≤100000) (hcc:c≤100000):
  Calls Tryz.prog 50 #[.map (some b),v] w fun e w'=>e=.returned (.bool (liftAll (m,false) p).2)∧dx w' b (n+80) (liftAll (m,false) p).1∧Tn b w w'∧∀s,numOf (liftAll (m,false) p).1 s≤c+80:=by
 have hbw:=h.lt;obtain⟨sa,cap,rfl⟩:=aB.slice hv;have HV:=au hv;have HF:=au hf;have H0:=au h;have HC0:=au hc;clear hv hf h hc
 go_enter Tryz.func50,Tryz.ntmps50
 go_wp2
 go_loopg [5,13] p.length (fun k s5 i wr=>∃j:Nat,j+k=p.length∧i=.int .i64 j∧∃x:bZ×Bool,s5=.bool x.2∧Hid (liftAll (m,false) p=liftAll x (p.drop j))∧Hid (dx wr b (n+5*j) x.1)∧Hid (Tn b w wr)∧Hid (∀s,numOf x.1 s≤c+5*j))
 case atStart=>exact⟨0,by omega,rfl,(m,false),rfl,(rfl:_=_),H0,Tn.refl _ _,HC0⟩
 obtain⟨j,hj,rfl,x,rfl,HE,HM,HT,HC⟩:=hrel;have hwr:=HT.out.size
 by_cases hlt:j<p.length
 ·obtain⟨r,hr⟩:∃x,p[j]?=some x:=⟨_,List.getElem?_eq_getElem hlt⟩;obtain⟨b1,o1,_,rfl,hb1,hbne,⟨sv,su,rfl,hsv,hsu⟩,hcl⟩:=aB.yJ HV.out hr;have d0:wr.cell? ⟨b1,o1+j*4,none⟩=some (.bool r.head.no):=by rw[HT.out.cell hb1 hbne];exact hcl 0 _ rfl
  have d1:wr.cell? ⟨b1,o1+j*4+1,none⟩=some (.string (bs r.head.name)):=by rw[HT.out.cell hb1 hbne];exact hcl 1 _ rfl
  have d2:wr.cell? ⟨b1,o1+j*4+2,none⟩=some sv:=by rw[HT.out.cell hb1 hbne];exact hcl 2 _ rfl
  have d3:wr.cell? ⟨b1,o1+j*4+3,none⟩=some su:=by rw[HT.out.cell hb1 hbne];exact hcl 3 _ rfl
  obtain⟨f1,f2,f3⟩:=HF.out r (List.mem_of_getElem? hr);have HS:=au (wh hr x);obtain⟨a2,c2,rfl⟩:=aB.slice hsv;obtain⟨a3,c3,rfl⟩:=aB.slice hsu;have HSU:=au hsu;have HF3:=au f3;have hbl:r.body.length≤5:=f2;have hjp:j<16:=by omega
  have hbr:b1<wr.heap.size:=by omega
  clear hcl hr hsv hsu f3 f2;have Nf:b<wr.heap.size:=by omega
  have HM1:=au (HM.out.later ((aj.refl wr).alloc (.cells #[.bool r.head.no,.string (bs r.head.name),.slice a2 r.head.terms.length c2,.slice a3 r.body.length c3] 57)));have HT1:=au (HT.out.alloc (.cells #[.bool r.head.no,.string (bs r.head.name),.slice a2 r.head.terms.length c2,.slice a3 r.body.length c3] 57));have HZ1:Hid ((wr.alloc (.cells #[.bool r.head.no,.string (bs r.head.name),.slice a2 r.head.terms.length c2,.slice a3 r.body.length c3] 57)).cell? ⟨wr.heap.size,1,none⟩=some (.string (bs r.head.name))):=by show _=_;simp
  have hR1:wr.heap.size<(wr.alloc (.cells #[.bool r.head.no,.string (bs r.head.name),.slice a2 r.head.terms.length c2,.slice a3 r.body.length c3] 57)).heap.size:=by simp
  generalize hnm:bs r.head.name=nm at*;have HNM:=au hnm;clear hnm;generalize r.head.no=no at*;generalize hR:wr.heap.size=R at*;clear HM HT;go_wp2
  go_loopg [5,20] r.body.length (fun k s5 i wr2=>∃q:Nat,q+k=r.body.length∧i=.int .i64 q∧∃y:bZ×Bool,s5=.bool y.2∧Hid (fq x r=(r.body.drop q).foldl (aY r.head.name) y)∧Hid (dx wr2 b (n+5*j+q) y.1)∧Hid (Tn b w wr2)∧R<wr2.heap.size∧wr2.cell? ⟨R,1,none⟩=some (.string nm)∧Hid (∀s,numOf y.1 s≤c+5*j+q))
  case atStart=>
   refine⟨0,by omega,rfl,x,rfl,(rfl:_=_),?_,?_,?_,?_,HC⟩;·first|exact HM1|(subst hR;exact HM1)
   ·first|exact HT1|(subst hR;exact HT1)
   ·first|exact hR1|(subst hR;exact hR1)
   first|exact HZ1.out|(subst hR;exact HZ1.out)
  obtain⟨q,hq,rfl,y,rfl,HE2,HMy,HTy,hRs,z1,HCy⟩:=hrel;clear HM1 HT1 HZ1 hR1 d0 d1 d2 d3;have hwr2:=HTy.out.size
  by_cases hlq:q<r.body.length
  ·obtain⟨a,ha⟩:∃x,r.body[q]?=some x:=⟨_,List.getElem?_eq_getElem hlq⟩;obtain⟨b2,o2,_,rfl,hb2,FM,⟨tv,rfl,htv⟩,hcl⟩:=aB.yJ HSU.out ha;have d0:wr.cell? ⟨b2,o2+q*3,none⟩=some (.bool a.no):=by rw[HTy.out.cell hb2 FM];exact hcl 0 _ rfl
   have d1:wr.cell? ⟨b2,o2+q*3+1,none⟩=some (.string (bs a.name)):=by rw[HTy.out.cell hb2 FM];exact hcl 1 _ rfl
   have d2:wr.cell? ⟨b2,o2+q*3+2,none⟩=some tv:=by rw[HTy.out.cell hb2 FM];exact hcl 2 _ rfl
   have Jq:b2<wr.heap.size:=by omega
   have hst:=tY ha r.head.name y;have hle:=xJ (h:=r.head.name) HCy.out a;have HLE:=au hle;clear hle;have HBh:Hid (Calls Tryz.prog 68 #[.map (some b),.agg #[.bool a.no,.string (bs a.name),tv]] (wr.alloc (.cells #[.bool a.no,.string (bs a.name),tv] 54)) fun e w2=>e=.returned (.int .i64 (behind y.1 a:Nat))∧
     (Instr.lookup 84 (.map (some b)) (.string nm) false).run Tryz.prog w2=.ok (.int .i64 (numOf y.1 r.head.name:Nat)) w2∧Hid (dx w2 b (n+5*j+q) y.1)∧Hid (Tn b w w2)∧R<w2.heap.size∧w2.cell? ⟨R,1,none⟩=some (.string nm)):=by
    have hbz:b≠R:=by omega
    refine(FK b (n+5*j+q) (c+5*j+q) y.1 a tv _ (HMy.out.later ((aj.refl _).alloc _)) (aB.aO (aB.dO (aB.nU htv HTy.out)) ((aj.refl _).alloc _).below) (HF3.out a (List.mem_of_getElem? ha)) (HCy.out a.name) (by omega)).mono fun e w2 ⟨he,hL⟩=>?_;have hLL:=((aj.refl wr).alloc (.cells #[.bool a.no,.string (bs a.name),tv] 54)).trans hL;have hM2:=HMy.out.later hLL;refine⟨he,?_,hM2,HTy.out.trans (Tn.of_below hLL.below),Nat.lt_of_lt_of_le hRs hLL.size,by rw[hLL.cell (p:=⟨R,1,none⟩) hRs];exact z1⟩;rw[←HNM.out];exact iK.look (T:=84) hM2 Tryz.underlying9 Tryz.underlying3 Tryz.underlying84 (jB _) f1
   obtain⟨a4,c4,rfl⟩:=aB.slice htv
   by_cases hlf:numOf y.1 r.head.name<behind y.1 a
   ·have E3:Hid (aY r.head.name y a=(y.1.put r.head.name (behind y.1 a),true)):=by show _=_;unfold aY;rw[if_pos hlf]
    have HST:Hid (∀w2,Hid (dx w2 b (n+5*j+q) y.1)→Hid (Tn b w w2)→R<w2.heap.size→w2.cell? ⟨R,1,none⟩=some (.string nm)→∃w3,(Instr.mapUpdate 84 (.map (some b)) (.string nm) (.int .i64 (behind y.1 a:Nat))).run Tryz.prog w2=.ok () w3∧Hid (dx w3 b (n+5*j+(q+1)) (y.1.put r.head.name (behind y.1 a)))∧Hid (Tn b w w3)∧R<w3.heap.size∧w3.cell? ⟨R,1,none⟩=some (.string nm)):=fun w2 hM2 hT2 hs2 hz2=>by have hbh:=vZ HCy.out a;obtain⟨w3,hrun,hM3,hg⟩:=iK.store (T:=84) hM2.out Tryz.underlying9 Tryz.underlying3 Tryz.underlying84 (by simp[maxLen];omega) f1 (x:=behind y.1 a) (pR (by omega));rw[HNM.out] at hrun;exact⟨w3,hrun,hM3,hT2.out.trans (Tn.eG hg),Nat.lt_of_lt_of_le hs2 hg.size,by rw[(Tn.eG hg).cell (x:=⟨R,1,none⟩) hs2 (by show R≠b;omega)];exact hz2⟩
    have E4:Hid (fq x r=(r.body.drop (q+1)).foldl (aY r.head.name) (y.1.put r.head.name (behind y.1 a),true)):=by show _=_;rw[HE2.out,hst,E3.out]
    have JR:Hid (∀s,numOf (y.1.put r.head.name (behind y.1 a)) s≤c+5*j+(q+1)):=by intro s;have:=HLE.out s;rw[E3.out] at this;exact this
    have hlz:((numOf y.1 r.head.name:Nat):Int)<((behind y.1 a:Nat):Int):=by omega
    clear hcl ha htv hst HE2 HMy HTy HCy HLE E3 hlf;generalize y.1.put r.head.name (behind y.1 a)=m3 at*;generalize behind y.1 a=be at*;generalize numOf y.1 r.head.name=nu at*;generalize bs a.name=na at*;generalize a.no=an at*
    go_wp2_with (first
     |(go_at_call 68;refine HBh.out.mono ?_;rintro e w2 ⟨rfl,hlk,hM2,hT2,hs2,hz2⟩;obtain⟨w3,hup,hM3,hT3,hs3,hz3⟩:=HST.out w2 hM2 hT2 hs2 hz2;replace hlk:=au hlk;replace hup:=au hup;replace hz3:=au hz3)
     |(at_lookup;refine bM _ rfl _ _ _ _ rfl _ _ _ rfl rfl (bg hlk) ?_)
     |(at_mapUpdate;refine aH _ rfl _ _ _ _ rfl _ _ _ _ rfl rfl rfl (bg hup) ?_)
     |go_in)
    go_roundg (r.body.length- (q+1))
    case measure=>omega
    case rel=>exact⟨q+1,by omega,by go_num,(m3,true),rfl,E4,hM3,hT3,hs3,bg hz3,JR⟩
   have E3:Hid (aY r.head.name y a=y):=by show _=_;unfold aY;rw[if_neg hlf]
   have E4:Hid (fq x r=(r.body.drop (q+1)).foldl (aY r.head.name) y):=by show _=_;rw[HE2.out,hst,E3.out]
   have JR:Hid (∀s,numOf y.1 s≤c+5*j+(q+1)):=by intro s;have:=HCy.out s;omega
   have hlz:¬((numOf y.1 r.head.name:Nat):Int)<((behind y.1 a:Nat):Int):=by omega
   clear hcl ha htv hst HE2 HMy HTy HCy HLE E3 hlf;generalize behind y.1 a=be at*;generalize numOf y.1 r.head.name=nu at*;generalize bs a.name=na at*;generalize a.no=an at*
   go_wp2_with (first
    |(go_at_call 68;refine HBh.out.mono ?_;rintro e w2 ⟨rfl,hlk,hM2,hT2,hs2,hz2⟩;replace hlk:=au hlk)
    |(at_lookup;refine bM _ rfl _ _ _ _ rfl _ _ _ rfl rfl (bg hlk) ?_)
    |go_in)
   go_roundg (r.body.length- (q+1))
   case measure=>omega
   case rel=>exact⟨q+1,by omega,by go_num,y,rfl,E4,hM2.out.mono (by omega),hT2,hs2,hz2,JR⟩
  have E3:Hid (fq x r=y):=by show _=_;rw[HE2.out,List.drop_eq_nil_of_le (by omega)];rfl
  have E4:Hid (liftAll (m,false) p=liftAll y (p.drop (j+1))):=by show _=_;rw[HE.out,HS.out,E3.out]
  go_wp2
  go_roundg (p.length- (j+1))
  case measure=>omega
  case rel=>exact⟨j+1,by omega,by go_num,y,rfl,E4,HMy.out.mono (by omega),HTy,fun s=>by have:=HCy.out s;omega⟩
 have E2:Hid (liftAll (m,false) p=x):=by show _=_;rw[HE.out,List.drop_eq_nil_of_le (by omega)];rfl
 go_wp2;go_ret;exact⟨by rw[E2.out];rfl,by rw[E2.out];exact HM.out.mono (by omega),HT.out,by rw[E2.out];intro s;have:=HC.out s;omega⟩
def jL:aB Nat where
 size:=1
 is:=fun _ _ c n=>c=[.int .i64 (n:Int)]
 len:=fun h=>by subst h;rfl
 one:=fun h u hu=>by subst h;simp at hu;subst hu;rfl
 kept:=fun h _ _=>h
 mono:=fun h _=>h
theorem FN:∃i,Tryz.prog.info? 3=some i∧i.zero=some (.int .i64 0)∧i.size=1∧i.bytes=8:=⟨Tryz.t3,by kernel_rfl,by kernel_rfl,by kernel_rfl,by kernel_rfl⟩
theorem rQ {lo:Nat} {w:World} {v:Value} {l:List Nat} (h:jL.own 3 lo w v l) {x:Nat} (hl:l.length+1≤1099511627776) (hlo:lo≤w.heap.size):
  ∃v' w',(Builtin.append_ #[35,35] 35 #[v,.slice (some ⟨w.heap.size,0,none⟩) 1 1]).run Tryz.prog (w.alloc (.cells #[.int .i64 (x:Int)] 3))=.ok v' w'∧jL.own 3 lo w' v' (l++[x])∧(w.alloc (.cells #[.int .i64 (x:Int)] 3)).grownBy w' v.ownBlock:=by
 obtain⟨i,i1,i2,i3,i4⟩:=FN;exact aB.zC h Tryz.underlying35 i1 i2 i3 i4 rfl (by decide) (by decide) (c:=[.int .i64 (x:Int)]) rfl hl hlo
theorem wm {p:List aD} {j:Nat} {r:aD} (h:p[j]?=some r) (m:bZ):each m (p.take (j+1))=each m (p.take j)++[numOf m r.head.name]:=by rw[List.take_add_one,h];simp[each]
theorem JU (b n:Nat) (m:bZ) (p:List aD) (v:Value) (w:World) (h:dx w b n m) (hv:iy.sl bT w v p) (hf:∀r∈p,DU r) (hp:p.length≤16):
  Calls Tryz.prog 51 #[.map (some b),v] w fun e w'=>∃u,e=.returned u∧jL.own 3 w.heap.size w' u (each m p)∧Below w.heap.size w w':=by
 obtain⟨sa,cap,rfl⟩:=aB.slice hv;have HV:=au hv;have HF:=au hf;have H0:=au h;have hbw:=h.lt;clear hv hf h
 go_enter Tryz.func51,Tryz.ntmps51
 go_wp2
 go_loopg [5,10] p.length (fun k o i wr=>∃j:Nat,j+k=p.length∧i=.int .i64 j∧Hid (jL.own 3 w.heap.size wr o (each m (p.take j)))∧Hid (Below w.heap.size w wr))
 case atStart=>exact⟨0,by omega,rfl,jL.gX _ _ _,Below.refl _ _⟩
 obtain⟨j,hj,rfl,HO,HB⟩:=hrel;obtain⟨ao,co,rfl⟩:=aB.bI HO.out;have hwr:=HB.out.size
 by_cases hlt:j<p.length
 ·obtain⟨r,hr⟩:∃x,p[j]?=some x:=⟨_,List.getElem?_eq_getElem hlt⟩;obtain⟨b1,o1,_,rfl,hb1,⟨sv,su,rfl,hsv,hsu⟩,hcl⟩:=aB.bR HV.out hr;have d0:wr.cell? ⟨b1,o1+j*4,none⟩=some (.bool r.head.no):=by rw[HB.out.cell hb1];exact hcl 0 _ rfl
  have d1:wr.cell? ⟨b1,o1+j*4+1,none⟩=some (.string (bs r.head.name)):=by rw[HB.out.cell hb1];exact hcl 1 _ rfl
  have d2:wr.cell? ⟨b1,o1+j*4+2,none⟩=some sv:=by rw[HB.out.cell hb1];exact hcl 2 _ rfl
  have d3:wr.cell? ⟨b1,o1+j*4+3,none⟩=some su:=by rw[HB.out.cell hb1];exact hcl 3 _ rfl
  have hbr:b1<wr.heap.size:=by omega
  have E:=au (wm hr m);have hlen:(each m (p.take j)).length=j:=by simp[each];omega
  have f1:=(HF.out r (List.mem_of_getElem? hr)).1;have hlk:=au (iK.look (T:=84) ((H0.out.below HB.out).later ((aj.refl wr).alloc (.cells #[.bool r.head.no,.string (bs r.head.name),sv,su] 57))) Tryz.underlying9 Tryz.underlying3 Tryz.underlying84 (jB _) f1);have hOA:=aB.dH HO.out ((Tn.refl b wr).alloc (.cells #[.bool r.head.no,.string (bs r.head.name),sv,su] 57)) hbw;obtain⟨v',w4,hrun,o4,g4⟩:=rQ hOA (x:=numOf m r.head.name) (by rw[hlen];omega) (by simp;omega);have HO4:Hid (jL.own 3 w.heap.size w4 v' (each m (p.take (j+1)))):=by show jL.own _ _ _ _ _;rw[E.out];exact o4
  have HB4:Hid (Below w.heap.size w w4):=by refine ak ((HB.out.alloc hwr _).alloc (by simp;omega) _) ⟨g4.os,g4.tape,g4.output,g4.size,fun k hk=>g4.block k (by simp;omega) (fun e=>?_)⟩ (Nat.le_refl _);have:=(aB.dV hOA e.symm).1;omega
  rw[hlen] at hrun;simp only[World.size_alloc] at hrun
  replace hrun:=au hrun
  rw[hlen];obtain⟨a2,c2,rfl⟩:=aB.slice hsv;obtain⟨a3,c3,rfl⟩:=aB.slice hsu;clear hcl hr hsv hsu hOA o4 g4 HO HB E f1;clear hlen;generalize numOf m r.head.name=nu at*;generalize bs r.head.name=nm at*;generalize r.head.no=no at*
  go_wp2_with (first
   |(at_lookup;refine bM _ rfl _ _ _ _ rfl _ _ _ rfl rfl (bg hlk) ?_)
   |(at_builtin;refine wpList_append_run rfl (.tmp 14) (.tmp 20) 35 rfl _ _ _ _ rfl rfl (bg hrun) ?_)
   |go_in)
  go_roundg (p.length- (j+1))
  case measure=>omega
  case rel=>exact⟨j+1,by omega,by go_num,HO4,HB4⟩
 have e:j=p.length:=by omega
 subst e;have HO2:Hid (jL.own 3 w.heap.size wr (.slice ao (each m (p.take p.length)).length co) (each m p)):=by have:=HO.out;rw[List.take_length] at this⊢;exact this
 go_wp2;go_ret;exact⟨_,rfl,HO2.out,HB.out⟩
theorem wu (l:List aD):∀(m:bZ) (i:Nat),(fC m i l).1=0→∀r∈l,DU r:=by
 induction l with
 |nil=>intro m i _ r hr;cases hr
 |cons q l ih=>
  intro m i h r hr;unfold fC at h;split at h
  ·rename_i h0;rcases List.mem_cons.1 hr with rfl|hr
   ·unfold aU at h0;split at h0
    ·rename_i h1;split at h0;·cases h0
     split at h0;·rename_i h2;obtain⟨k1,k2⟩:=iY h2;exact⟨dL (bL h1).1,k1,fun a ha=>dL (bL (k2 a ha)).1⟩
     rename_i h2;exact absurd h0 h2
    rename_i h1;exact absurd h0 h1
   exact ih _ _ h r hr
  rename_i h0;exact absurd h h0
theorem pX {p:List aD} (h:(bQ p).1=0):p.length≤16∧∀r∈p,DU r:=by
 unfold bQ at h;split at h;·cases h
 exact⟨by omega,wu p _ _ h⟩
theorem wB {p:List aD} {j:Nat} {r:aD} (h:p[j]?=some r) (m:bZ):iU m (p.take (j+1))=(iU m (p.take j)).put r.head.name 0:=by rw[List.take_add_one,h];simp[iU,List.foldl_append]
theorem aB.kF {α:Type} {K:aB α} {lo R i:Nat} {w:World} {v:Value} {l:List α} (h:K.sl (From lo) w v l) (hR:R<lo) (x:Value):K.sl (From lo) (w.setCell ⟨R,i,none⟩ x) v l:=
 aB.fE h (by rw[size_setCell];exact Nat.le_refl _) fun k _ hB=>heap_setCell_other _ _ _ (by have:lo≤k:=hB;show k≠R;omega)
theorem FP (p:List aD) (v:Value) (w:World) (hv:iy.sl bT w v p):
  Calls Tryz.prog 30 #[v] w fun e w'=>∃u,e=.returned (.tuple #[u,.agg #[.int .i64 (aK p).2.1,.int .i64 ((aK p).2.2:Nat)]])∧jL.sl (From w.heap.size) w' u (aK p).1∧Below w.heap.size w w':=by
 obtain⟨sa,cap,rfl⟩:=aB.slice hv;have HV:=au hv;have hl0:=hv.1.1;have HW:Hid (Calls Tryz.prog 49 #[.slice sa p.length cap] (w.alloc (.cells #[.int .i64 0,.int .i64 0] 41)) fun e w2=>e=.returned (.agg #[.int .i64 (bQ p).1,.int .i64 ((bQ p).2:Nat)])∧Hid (Below w.heap.size w w2)∧w2.heap[w.heap.size]?=some (.cells #[.int .i64 0,.int .i64 0] 41 (0,0))∧w.heap.size<w2.heap.size):=
  (H6 p _ _ (aB.aO hv ((aj.refl w).alloc _).below)).mono fun e w2 ⟨he,hb⟩=>⟨he,ak ((aj.refl w).alloc _).below hb (by simp),by rw[hb.block w.heap.size (by simp),heap_alloc_new],by have:=hb.size;simp at this;omega⟩
 clear hv;have hmm:= @run_makeMap Tryz.prog;generalize hwp:bQ p=wp at*;obtain⟨ex,ea⟩:=wp;dsimp only at*
 by_cases h0:ex=0
 ·subst h0;obtain⟨JV,zX⟩:=pX (p:=p) (by rw[hwp]);have HFi:=au zX;have F:Hid (aK p=match dI p (p.length+1) (start p) with|some m=>(each m p,0,0)|none=>([],10,0)):=by
   show _=_;unfold aK;rw[hwp,if_pos rfl];cases dI p (p.length+1) (start p) <;> rfl
  clear hwp zX
  go_enter Tryz.func30,Tryz.ntmps30
  go_wp2_with (go_at_call 49;refine HW.out.mono ?_;rintro e w2 ⟨rfl,hB2,hR2,hs2⟩;replace hR2:=au hR2)
  have hwz:=hB2.out.size
  go_loopg [17] p.length (fun k i wr=>∃j:Nat,j+k=p.length∧i=.int .i64 j∧Hid (dx wr (w2.heap.size+1) j (iU (fun _=>none) (p.take j)))∧Hid (Below w.heap.size w wr)∧Hid (wr.heap[w.heap.size]?=some (.cells #[.int .i64 0,.int .i64 0] 41 (0,0)))∧w2.heap.size+2≤wr.heap.size)
  case atStart=>
   refine⟨0,by omega,rfl,?_,?_,?_,by simp⟩;·have:=iK.made Tryz.prog 9 3 (w2.alloc (.cells #[.int .i64 0,.int .i64 (ea:Int)] 41));rw[World.size_alloc] at this;exact this
   ·exact(hB2.out.alloc hwz _).alloc (by simp;omega) _
   show _=_;rw[Below.heap_alloc _ _ _ (by simp;omega),Below.heap_alloc _ _ _ hs2];exact bg hR2
  obtain⟨j,hj,rfl,HM,HB,HR,hsz⟩:=hrel;clear hB2 hR2
  by_cases hlt:j<p.length
  ·obtain⟨r,hr⟩:∃x,p[j]?=some x:=⟨_,List.getElem?_eq_getElem hlt⟩;obtain⟨b1,o1,_,rfl,hb1,⟨sv,su,rfl,hsv,hsu⟩,hcl⟩:=aB.bR HV.out hr;have d0:wr.cell? ⟨b1,o1+j*4,none⟩=some (.bool r.head.no):=by rw[HB.out.cell hb1];exact hcl 0 _ rfl
   have d1:wr.cell? ⟨b1,o1+j*4+1,none⟩=some (.string (bs r.head.name)):=by rw[HB.out.cell hb1];exact hcl 1 _ rfl
   have d2:wr.cell? ⟨b1,o1+j*4+2,none⟩=some sv:=by rw[HB.out.cell hb1];exact hcl 2 _ rfl
   have d3:wr.cell? ⟨b1,o1+j*4+3,none⟩=some su:=by rw[HB.out.cell hb1];exact hcl 3 _ rfl
   have hbr:b1<wr.heap.size:=by omega
   have E:=au (wB hr (fun _=>none));have f1:=(HFi.out r (List.mem_of_getElem? hr)).1;obtain⟨w4,hup,hM4,hg⟩:=iK.store (T:=84) (HM.out.later ((aj.refl wr).alloc (.cells #[.bool r.head.no,.string (bs r.head.name),sv,su] 57))) Tryz.underlying9 Tryz.underlying3 Tryz.underlying84 (by simp[maxLen];omega) f1 (x:=0) (pR (by omega));have hgs:=hg.size;simp only[World.size_alloc] at hgs;have HM4:Hid (dx w4 (w2.heap.size+1) (j+1) (iU (fun _=>none) (p.take (j+1)))):=by show dx _ _ _ _;rw[E.out];exact hM4
   have HB4:Hid (Below w.heap.size w w4):=ak (HB.out.alloc HB.out.size _) ((Tn.eG hg).below (n:=w.heap.size) (by omega) (by simp;omega)) (Nat.le_refl _);have HR4:Hid (w4.heap[w.heap.size]?=some (.cells #[.int .i64 0,.int .i64 0] 41 (0,0))):=by show _=_;rw[(Tn.eG hg).block w.heap.size (by simp;omega) (by omega),Below.heap_alloc _ _ _ (by omega)];exact HR.out
   have hs4:w2.heap.size+2≤w4.heap.size:=by omega
   have Mh:Hid ((Instr.mapUpdate 84 (.map (some (w2.heap.size+1))) (.string (bs r.head.name)) (.int .i64 0)).run Tryz.prog (wr.alloc (.cells #[.bool r.head.no,.string (bs r.head.name),sv,su] 57))=.ok () w4):=hup;obtain⟨a2,c2,rfl⟩:=aB.slice hsv;obtain⟨a3,c3,rfl⟩:=aB.slice hsu;clear hcl hr hsv hsu hM4 hg hup HM HB HR E f1 hgs;generalize bs r.head.name=nm at*;generalize r.head.no=no at*
   go_wp2_with (first
    |(at_mapUpdate;refine aH _ rfl _ _ _ _ rfl _ _ _ _ rfl rfl rfl (bg Mh) ?_)
    |go_in)
   go_roundg (p.length- (j+1))
   case measure=>omega
   case rel=>exact⟨j+1,by omega,by go_num,HM4,HB4,HR4,hs4⟩
  have e:j=p.length:=by omega
  subst e;have HM2:Hid (dx wr (w2.heap.size+1) (16+80*0) (start p)):=by have:=HM.out;rw[List.take_length] at this;exact this.mono (by omega)
  have HN2:Hid (∀s,numOf (start p) s≤80*0):=fun s=>by rw[mR];exact Nat.zero_le _
  clear HM;go_wp2
  go_loopg [29] (p.length+1) (fun k i wr2=>∃t:Nat,t+k=p.length+1∧i=.int .i64 t∧∃m,Hid (dI p (p.length+1) (start p)=dI p k m)∧Hid (dx wr2 (w2.heap.size+1) (16+80*t) m)∧Hid (∀s,numOf m s≤80*t)∧Hid (Below w.heap.size w wr2)∧Hid (wr2.heap[w.heap.size]?=some (.cells #[.int .i64 0,.int .i64 0] 41 (0,0)))∧w2.heap.size+2≤wr2.heap.size)
  case atStart=>exact⟨0,by omega,rfl,start p,(rfl:_=_),HM2,HN2,HB,HR,hsz⟩
  obtain⟨t,ht,rfl,m,HE,HMt,HNt,HBt,HRt,hst⟩:=hrel;clear HM2 HN2 HB HR hsz
  by_cases hlt:t<p.length+1
  ·obtain⟨k,rfl⟩:∃k',gk=k'+1:=⟨p.length-t,by omega⟩;have HL:Hid (Calls Tryz.prog 50 #[.map (some (w2.heap.size+1)),.slice sa p.length cap] wr fun e w5=>e=.returned (.bool (liftAll (m,false) p).2)∧Hid (dx w5 (w2.heap.size+1) (16+80*(t+1)) (liftAll (m,false) p).1)∧Hid (∀s,numOf (liftAll (m,false) p).1 s≤80*(t+1))∧Hid (Below w.heap.size w w5)∧Hid (w5.heap[w.heap.size]?=some (.cells #[.int .i64 0,.int .i64 0] 41 (0,0)))∧w2.heap.size+2≤w5.heap.size):=
    (FL _ _ (80*t) m p _ wr HMt.out (aB.nI HV.out HBt.out (by omega)) HFi.out JV HNt.out (by omega) (by omega)).mono fun e w5 ⟨he,h1,h2,h3⟩=>
     ⟨he,h1.mono (by omega),fun s=>by have:=h3 s;omega,ak HBt.out (h2.below (n:=w.heap.size) (by omega) (by omega)) (Nat.le_refl _),by show _=_;rw[h2.block w.heap.size (by omega) (by omega)];exact HRt.out,by have:=h2.size;omega⟩
   have hgo:dI p (k+1) m=if(liftAll (m,false) p).2 then dI p k (liftAll (m,false) p).1 else some (liftAll (m,false) p).1:=rfl;clear HMt HNt HBt HRt;generalize liftAll (m,false) p=la at*;obtain⟨m2,lb⟩:=la;dsimp only at*;cases lb
   ·have F2:Hid (aK p=(each m2 p,0,0)):=by show _=_;rw[F.out,HE.out,hgo];rfl
    have HEa:Hid (∀w5,Hid (dx w5 (w2.heap.size+1) (16+80*(t+1)) m2)→Hid (Below w.heap.size w w5)→Hid (w5.heap[w.heap.size]?=some (.cells #[.int .i64 0,.int .i64 0] 41 (0,0)))→w2.heap.size+2≤w5.heap.size→Calls Tryz.prog 51 #[.map (some (w2.heap.size+1)),.slice sa p.length cap] w5 fun e w6=>∃u,e=.returned u∧Hid (jL.sl (From (w.heap.size+1)) w6 u (each m2 p))∧Hid (Below w.heap.size w w6)∧w6.heap[w.heap.size]?=some (.cells #[.int .i64 0,.int .i64 0] 41 (0,0))):=fun w5 h1 h2 h3 h4=>
     (JU _ _ m2 p _ w5 h1.out (aB.aO HV.out h2.out) HFi.out JV).mono fun e w6 ⟨u,he,ho,hb⟩=>
      ⟨u,he,aB.dX (aB.gQ ho (by simp[each];omega)) fun k _ hk=>by have:w5.heap.size≤k:=hk;show w.heap.size+1≤k;omega,ak h2.out hb h2.out.size,by rw[hb.block w.heap.size (by omega)];exact h3.out⟩
    clear hgo HE F
    go_wp2_with (first
     |(go_at_call 50;refine HL.out.mono ?_;rintro e w5 ⟨rfl,hM5,hN5,hB5,hR5,hs5⟩)
     |(go_at_call 51;refine(HEa.out w5 hM5 hB5 hR5 hs5).mono ?_;rintro e w6 ⟨u,rfl,hU6,hB6,hR6⟩;have q0:w6.cell? ⟨w.heap.size,0,none⟩=some (.int .i64 0):=(by rw[cell_of_row _ _ _ _ _ _ hR6];rfl);have q1:w6.cell? ⟨w.heap.size,1,none⟩=some (.int .i64 0):=(by rw[cell_of_row _ _ _ _ _ _ hR6];rfl);have p0:w6.frozen? ⟨w.heap.size,0,none⟩=false:=aP 0 hR6;have p1:w6.frozen? ⟨w.heap.size,1,none⟩=false:=aP 1 hR6;replace hR6:=au hR6))
    obtain⟨r0,r1⟩:=cu (bg hR6) (.int .i64 0) (.int .i64 0);refine bodyPost_ret (v:=.tuple #[u,.agg #[.int .i64 0,.int .i64 0]]) (by simp[results,Tryz.results30,go_sem,r0,r1]) rfl ⟨u,by rw[F2.out];rfl,?_,?_⟩
    ·rw[F2.out];exact aB.dX (aB.kF (aB.kF hU6.out (Nat.lt_succ_self _) _) (Nat.lt_succ_self _) _) fun k _ hk=>by have:w.heap.size+1≤k:=hk;show w.heap.size≤k;omega
    exact(hB6.out.setCell (Nat.le_refl _) _).setCell (Nat.le_refl _) _
   have E2:Hid (dI p (p.length+1) (start p)=dI p k m2):=by show _=_;rw[HE.out,hgo];rfl
   clear hgo HE
   go_wp2_with (go_at_call 50;refine HL.out.mono ?_;rintro e w5 ⟨rfl,hM5,hN5,hB5,hR5,hs5⟩)
   go_roundg k
   case measure=>omega
   case rel=>exact⟨t+1,by omega,by go_num,m2,E2,hM5,hN5,hB5,hR5,hs5⟩
  obtain rfl:gk=0:=by omega
  have F2:Hid (aK p=([],10,0)):=by show _=_;rw[F.out,HE.out];rfl
  have hR6:=HRt.out;have q0:wr.cell? ⟨w.heap.size,0,none⟩=some (.int .i64 0):=(by rw[cell_of_row _ _ _ _ _ _ hR6];rfl);have q1:wr.cell? ⟨w.heap.size,1,none⟩=some (.int .i64 0):=(by rw[cell_of_row _ _ _ _ _ _ hR6];rfl);have p0:wr.frozen? ⟨w.heap.size,0,none⟩=false:=aP 0 hR6;have p1:wr.frozen? ⟨w.heap.size,1,none⟩=false:=aP 1 hR6;clear hR6;go_wp2;obtain⟨r0,r1⟩:=cu HRt.out (.int .i64 10) (.int .i64 0);refine bodyPost_ret (v:=.tuple #[.slice none 0 0,.agg #[.int .i64 10,.int .i64 0]]) (by simp[results,Tryz.results30,go_sem,r0,r1]) rfl ⟨.slice none 0 0,by rw[F2.out];rfl,by rw[F2.out];exact jL.jE _ _ _ _,?_⟩;exact(HBt.out.setCell (Nat.le_refl _) _).setCell (Nat.le_refl _) _
 have F:Hid (aK p=([],ex,ea)):=by show _=_;unfold aK;rw[hwp,if_neg h0]
 have hq:(ex != 0)=true:=by simpa using h0
 clear h0 hwp HV
 go_enter Tryz.func30,Tryz.ntmps30
 go_wp2_with (go_at_call 49;refine HW.out.mono ?_;rintro e w2 ⟨rfl,hB2,hR2,hs2⟩;have q0:w2.cell? ⟨w.heap.size,0,none⟩=some (.int .i64 0):=(by rw[cell_of_row _ _ _ _ _ _ hR2];rfl);have q1:w2.cell? ⟨w.heap.size,1,none⟩=some (.int .i64 0):=(by rw[cell_of_row _ _ _ _ _ _ hR2];rfl);have p0:w2.frozen? ⟨w.heap.size,0,none⟩=false:=aP 0 hR2;have p1:w2.frozen? ⟨w.heap.size,1,none⟩=false:=aP 1 hR2;replace hR2:=au hR2)
 go_region
 go_wp2;obtain⟨r0,r1⟩:=cu (bg hR2) (.int .i64 ex) (.int .i64 (ea:Int));have hL:=((aj.refl ((w2.setCell ⟨w.heap.size,0,none⟩ (.int .i64 ex)).setCell ⟨w.heap.size,1,none⟩ (.int .i64 (ea:Int)))).alloc (.cells #[.int .i64 ex,.int .i64 (ea:Int)] 41)).drew;rw[←hL.cell (p:=⟨w.heap.size,0,none⟩) (by simp only[size_setCell];exact hs2)] at r0;rw[←hL.cell (p:=⟨w.heap.size,1,none⟩) (by simp only[size_setCell];exact hs2)] at r1;refine bodyPost_ret (v:=.tuple #[.slice none 0 0,.agg #[.int .i64 ex,.int .i64 (ea:Int)]]) (by simp[results,Tryz.results30,go_sem,r0,r1]) rfl ⟨.slice none 0 0,by rw[F.out],by rw[F.out];exact jL.jE _ _ _ _,?_⟩;exact ak ((hB2.out.setCell (Nat.le_refl _) _).setCell (Nat.le_refl _) _) hL.below (by simp only[size_setCell];exact Nat.le_of_lt hs2)
def Mi (w:World) (v:Value) (er:Int) (a:Int×List aF):Prop:=er=a.1∧(a.1≠0→v=.slice none 0 0)∧(a.1=0→Facts w v a.2)
theorem pY {f:aF} (h:jF f):qY f:=
 ⟨by have:=jC h.1;omega,h.2.1,fun s hs=>by have:=jC (h.2.2 s hs);omega⟩
theorem j4 {l:List aF} (hw:∀f∈l,eF f=0) (hu:Up l):∀(n k:Nat),k+n=l.length→bC l n k=(0,0)
 |0,_,_=>rfl
 |n+1,k,h=>by
  have hk:k<l.length:=by omega
  unfold bC;have e1:eF (l.getD k aA)=0:=hw _ (by rw[List.getD_eq_getElem?_getD,List.getElem?_eq_getElem hk];exact List.getElem_mem hk);rw[if_neg (by rw[e1];simp),if_neg,j4 hw hu n (k+1) (by omega)];rintro⟨h0,h1⟩;have:=List.pairwise_iff_getElem.1 hu (k-1) k (by omega) hk (by omega);rw[List.getD_eq_getElem?_getD,List.getD_eq_getElem?_getD,List.getElem?_eq_getElem (by omega),List.getElem?_eq_getElem hk] at h1;simp only[Option.getD_some] at h1;omega
theorem fI {l:List aF} (hu:Up l) (hr:∀f∈l,jF f) (hl:l.length≤200):aR l=(0,0):=by unfold aR;rw[if_neg (by omega)];exact j4 (fun f hf=>iP.2 (hr f hf)) hu _ 0 (by omega)
theorem tZ {p:List aD} {l:List aF} (h:(aR l).1=0) (hf:∀f∈l,uH p f=true):GoodS p l:=by obtain⟨h1,h2,h3⟩:=set_right h;exact⟨h2,fun f hf=>iP.1 (h3 f hf),h1,hf⟩
theorem zY {p:List aD} (hp:fG p) {L:List aF} (hL:GoodS p L):∀r∈p,qC r.body L []=0:=fun r hr=>by
 unfold qC;rw[if_neg (by simp[(hp.rules r hr).body]),if_neg (by rw[fI hL.up hL.right hL.few];simp)]
 rfl
theorem xK {p:List aD} (hp:fG p) {L:List aF} (hL:GoodS p L):∀r∈p,∀R,mK (fun _=>L) r.body=some R→∀l∈R,∀f,bf r.head l=some f→qY f:=fun r hr _ hR l hl _ hf=>
 pY (rG (hp.rules r hr) hL.right ((oJ (nS (hp.rules r hr)) hR l).1 hl) hf).1
end Go.Proofs.YthngiikhgplldaaGreatDoor
