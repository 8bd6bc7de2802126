import Derived.Test.YtaallngooaaonaaGreatDoorJT20
import Derived.BigQuiet
import Derived.Test.YtaallngooaaonaaGreatDoorJT7
import Derived.Test.YtaallngooaaonaaGreatDoorJT3
import Derived.Test.YtaallngooaaonaaGreatDoorJT16
open Go.RowKit Go.Sort Go.Maps
set_option maxHeartbeats 4000000
set_option maxRecDepth 100000
namespace Go.Proofs.YtaallngooaaonaaGreatDoor
theorem pR {p:List aG} {m:dU} (hl:lZ p m) (hs:Sol p (numOf m)):∀r∈p,numOf m r.head.name<p.length:=by
 have key:∀k,(∃r∈p,k≤numOf m r.head.name)→k≤(p.map fun r=>if numOf m r.head.name<k then 1 else 0).sum:=by
  intro k
  induction k with
  |zero=>intro _;exact Nat.zero_le _
  |succ k ih=>
   rintro⟨r,hr,hk⟩;have h1:=ih ⟨r,hr,by omega⟩;obtain⟨q,hq,hqk⟩:∃q∈p,numOf m q.head.name=k:=by refine Classical.byContradiction fun hn=>?_;have:=PL hl hs k (fun q hq e=>hn ⟨q,hq,e⟩) r hr;omega
   have h2:(p.map fun r=>if numOf m r.head.name<k then 1 else 0).sum<(p.map fun r=>if numOf m r.head.name<k+1 then 1 else 0).sum:=by
    refine sum_lt (fun x _=>?_) ⟨q,hq,?_⟩
    ·split;·rw[if_pos (by omega)];exact Nat.le_refl _
     exact Nat.zero_le _
    rw[if_neg (by omega),if_pos (by omega)];exact Nat.one_pos
   omega
 intro r hr;have h1:=key _ ⟨r,hr,Nat.le_refl _⟩;have h2:(p.map fun q=>if numOf m q.head.name<numOf m r.head.name then 1 else 0).sum<(p.map fun _=>1).sum:=by
  refine sum_lt (fun x _=>?_) ⟨r,hr,?_⟩;·split <;> omega
  rw[if_neg (by omega)];exact Nat.one_pos
 have h3:(p.map fun _=>1).sum=p.length:=by
  clear h1 h2 key hr hl hs
  induction p with
  |nil=>rfl
  |cons a p ih=>simp only[List.map_cons,List.sum_cons,List.length_cons,ih];omega
 omega
theorem below_drewN {n:Nat} {a b:World} (h:Below n a b) (q:Nat):Below n a (b.drewN q):=⟨h.os,h.tape,h.output,h.size,h.block⟩
def jG (p:List aG) (l:List aA):Int×List aA:=
 if(aV p).2.1≠0 then((aV p).2.1,[]) else if(eY p l).1≠0 then((eY p l).1,[]) else kJ p (aV p).1 (countP (aV p).1) 0 l
theorem IU (p:List aG) (l:List aA) (pv fv:Value) (w:World) (hv:eP.sl bf w pv p) (hf:Facts w fv l):
  Calls Tryz.prog 13 #[pv,fv] w fun e w'=>∃v' er,e=.returned (.tuple #[v',.int .i64 er])∧lT w' v' er (jG p l)∧Below w.heap.size w w':=by
 have HSt:=au (IK p pv w hv);obtain⟨pa,pc,rfl⟩:=aB.slice hv;obtain⟨fa,fc,rfl⟩:=aF hf;have HV:=au hv;have HF:=au hf;clear hv hf;obtain⟨ss,ex,ea,hse⟩:∃ss ex ea,aV p=(ss,ex,ea):=⟨_,_,_,rfl⟩;rw[hse] at HSt;have HSE:=au hse;clear hse
 go_enter Tryz.func13,Tryz.ntmps13
 go_wp2_with fail
 refine HSt.out.mono ?_;rintro e w1 ⟨u,rfl,hu,hB1⟩;dsimp only at hu⊢;have HU:Hid (lS.sl bf w1 u ss):=aB.bQ hu fun _ _ _=>trivial;obtain⟨ua,uc,rfl⟩:=aB.slice hu;have HB1:=au hB1;clear hu hB1 HSt
 by_cases h0:ex=0
 ·subst h0;obtain⟨hw0,m,hms,hdm,hlm,hsm⟩:=kF HSE.out;have hp:=mP.1 hw0;have IV:∀s∈ss,s<1000:=fun s hs=>by
   rw[hms] at hs;obtain⟨r,hr,rfl⟩:=List.mem_map.1 hs;have:=pR hlm hsm r hr;have:=hp.few;omega
  have hcs:countP ss≤1000:=countP_le IV;have HMS:Hid (ss=p.map fun r=>numOf m r.head.name):=hms;have HRP:=au hp;obtain⟨w2,hw2⟩:∃w2,w2=w1.alloc (.cells #[.int .i64 0,.int .i64 (ea:Nat)] 69):=⟨_,rfl⟩;have hL2:ak w1 w2:=by rw[hw2];exact(ak.refl _).alloc _
  have hB2:Below w.heap.size w w2:=aj HB1.out hL2.below HB1.out.size;have HFC:=au (uJ p hp (.slice pa p.length pc) (.slice fa l.length fc) l w2 (aB.aJ HV.out hB2) (HF.out.below hB2));obtain⟨fx,fe,hfe⟩:∃fx fe,eY p l=(fx,fe):=⟨_,_,rfl⟩;rw[hfe] at HFC;have HFE:=au hfe;have HB2:=au hB2;have HU2:=au (aB.aK HU.out hL2);have HSm:=au IV;have HW2:=au hw2;clear hw0 hms hdm hlm hsm hp IV hL2 hB2 hfe hw2 HB1 HU
  go_wp2_with fail
  rw[←HW2.out];refine HFC.out.mono ?_;rintro e w3 ⟨rfl,hB3⟩;dsimp only;have HB3:Hid (Below w.heap.size w w3):=aj HB2.out hB3 HB2.out.size;have HU3:=au (aB.aJ HU2.out hB3);clear hB3 HFC HW2 HB2 HU2
  by_cases h1:fx=0
  ·subst h1;have hgood:GoodS p l:=mX (by rw[HFE.out]);have HX:Hid (jG p l=kJ p ss (countP ss) 0 l):=by show _=_;unfold jG;rw[HSE.out,HFE.out];simp
   obtain⟨w4,hw4⟩:∃w4,w4=w3.alloc (.cells #[.int .i64 0,.int .i64 fe] 69):=⟨_,rfl⟩;have hL4:ak w3 w4:=by rw[hw4];exact(ak.refl _).alloc _
   have hB4:Below w.heap.size w w4:=aj HB3.out hL4.below HB3.out.size;have HOw:=au (Yh (.slice fa l.length fc) l w4 (HF.out.below hB4));have HB4:=au hB4;have HU4:=au (aB.aK HU3.out hL4);have HG:=au hgood;have NU:=hgood.few;have HW4:=au hw4;clear hgood hL4 hB4 hw4 HB3 HU3 HSE HFE
   go_wp2_with fail
   rw[←HW4.out];refine HOw.out.mono ?_;rintro e w5 ⟨v5,rfl,hO5,hL5⟩;have HF5:Hid (Facts w5 v5 l):=hO5.facts (by omega);have HB5:Hid (Below w.heap.size w w5):=aj HB4.out hL5.below HB4.out.size;have HU5:=au (aB.aK HU4.out hL5);have HCn:=au (MI ss (.slice ua ss.length uc) w5 HU5.out HSm.out);obtain⟨a5,c5,rfl⟩:=aF HF5.out;clear hO5 hL5 HOw HW4 HB4 HU4
   go_wp2_with fail
   refine HCn.out.mono ?_;rintro e w6 ⟨rfl,hL6⟩;have HF6:Hid (Facts w6 (.slice a5 l.length c5) l):=HF5.out.later hL6;have HB6:Hid (Below w.heap.size w w6):=aj HB5.out hL6.below HB5.out.size;have HU6:=au (aB.aK HU5.out hL6);have K4:Hid (Below w6.heap.size w6 w6):=Below.refl _ _;clear hL6 HCn HF5 HB5 HU5;generalize hc:countP ss=c at*;have HCC:=au hc;clear hc;go_wp2
   go_loopg [9,34] c (fun g v9 i wr=>∃j k:Nat,k=g∧j+k=c∧i=.int .i64 j∧∃L,Hid (Facts wr v9 L)∧Hid (GoodS p L)∧Hid (Below w6.heap.size w6 wr)∧Hid (jG p l=kJ p ss k j L))
   case atStart=>exact⟨0,c,rfl,by omega,rfl,l,HF6,HG,K4,HX⟩
   clear HF6 HG K4 HX;obtain⟨j,k,hkg,hj,rfl,L,HFr,HG,HBr,HX⟩:=hrel;have Ke:Below w.heap.size w wr:=aj HB6.out HBr.out HB6.out.size
   by_cases hlt:j<c
   ·obtain⟨k',rfl⟩:∃k',k=k'+1:=⟨k-1,by omega⟩;have hltz:(j:Int)<(c:Int):=by omega
    have hUr:=aB.aJ HU6.out HBr.out;obtain⟨va,vc,hva⟩:=aF HFr.out;subst hva;have hOC:=TI p HRP.out (fun r=>numOf m r.head.name) j L (.slice pa p.length pc) (.slice ua ss.length uc) (.slice va L.length vc) wr (aB.aJ HV.out Ke) (by rw[←HMS.out];exact hUr) HFr.out HG.out;rw[←HMS.out] at hOC;have HOC:=au hOC;obtain⟨er,S,hS⟩:∃er S,dM p ss (j:Int) 201 L=(er,S):=⟨_,_,rfl⟩;rw[hS] at HOC;have hX:jG p l=if er≠0 then(er,[]) else kJ p ss k' (j+1) S:=by rw[HX.out,kJ,hS]
    have HXX:=au hX;have Sb:=au Ke;clear hUr hOC hS hX HX Ke
    go_wp2_with fail
    refine HOC.out.mono ?_;rintro e w7 ⟨v7,er',rfl,⟨her,hT1,hT2⟩,hG7,hB7⟩;dsimp only at her hT1 hT2 hG7⊢;have NV:=her.symm;clear her;subst NV;have HB7:Hid (Below w.heap.size w w7):=aj Sb.out hB7 Sb.out.size;have Yw:Hid (Below w6.heap.size w6 w7):=aj HBr.out hB7 HBr.out.size;clear HOC hB7
    by_cases he:er=0
    ·subst he;have HF7:=au (hT2 rfl);have HG7:=au (hG7 rfl);have HX7:Hid (jG p l=kJ p ss k' (j+1) S):=by show _=_;rw[HXX.out,if_neg (by simp)]
     obtain⟨a7,c7,rfl⟩:=aF HF7.out;clear hT1 hT2 hG7 HXX;go_wp2
     go_roundg k'
     case measure=>omega
     case rel=>exact⟨j+1,k',rfl,by omega,by go_num,S,HF7,HG7,Yw,HX7⟩
    have e2:=hT1 he;subst e2;have HT:Hid (∀w',lT w' (.slice none 0 0) er (jG p l)):=fun w'=>by rw[HXX.out,if_pos he];exact⟨rfl,fun _=>rfl,fun h=>absurd h he⟩
    have hne:(er != 0)=true:=by simpa using he
    clear hT1 hT2 hG7 HXX;go_wp2;exact bodyPost_ret (v:=.tuple #[.slice none 0 0,.int .i64 er]) (by simp[results,Tryz.results13,go_sem]) rfl ⟨_,er,rfl,HT.out _,HB7.out⟩
   have hk0:k=0:=by omega
   have Sb:=au Ke;obtain⟨va,vc,hva⟩:=aF HFr.out;subst hva;have HT:Hid (lT wr (.slice va L.length vc) 0 (jG p l)):=by show lT wr _ 0 (jG p l);rw[HX.out,hk0];exact⟨rfl,fun h=>absurd rfl h,fun _=>HFr.out⟩
   clear Ke HX;go_wp2;exact bodyPost_ret (v:=.tuple #[.slice va L.length vc,.int .i64 0]) (by simp[results,Tryz.results13,go_sem]) rfl ⟨_,0,rfl,HT.out,Sb.out⟩
  have HT:Hid (∀w',lT w' (.slice none 0 0) fx (jG p l)):=fun w'=>by unfold jG;rw[HSE.out,HFE.out];simp only[ne_eq,not_true_eq_false,if_false,h1,not_false_eq_true,if_true];exact⟨rfl,fun _=>rfl,fun h=>absurd h h1⟩
  have hne:(fx != 0)=true:=by simpa using h1
  have HB4:Hid (Below w.heap.size w (w3.alloc (.cells #[.int .i64 fx,.int .i64 fe] 69))):=aj HB3.out ((ak.refl _).alloc _).below HB3.out.size;clear HSE HFE h1 HV HF HU3;go_wp2
  go_quiet (fail)
  go_wp2;exact bodyPost_ret (v:=.tuple #[.slice none 0 0,.int .i64 fx]) (by simp[results,Tryz.results13,go_sem]) rfl ⟨_,fx,rfl,HT.out _,below_drewN HB4.out _⟩
 have HT:Hid (∀w',lT w' (.slice none 0 0) ex (jG p l)):=fun w'=>by unfold jG;rw[HSE.out];simp only[ne_eq,h0,not_false_eq_true,if_true];exact⟨rfl,fun _=>rfl,fun h=>absurd h h0⟩
 have hne:(ex != 0)=true:=by simpa using h0
 have HB4:Hid (Below w.heap.size w (w1.alloc (.cells #[.int .i64 ex,.int .i64 (ea:Nat)] 69))):=aj HB1.out ((ak.refl _).alloc _).below HB1.out.size;clear HSE h0 HV HF HU;go_wp2
 go_quiet (fail)
 go_wp2;exact bodyPost_ret (v:=.tuple #[.slice none 0 0,.int .i64 ex]) (by simp[results,Tryz.results13,go_sem]) rfl ⟨_,ex,rfl,HT.out _,below_drewN HB4.out _⟩
def NZ {α:Type} (c:α→α→Int) (x:α):List α→List α
 |[]=>[x]
 |y::l=>if c x y≤0 then x::y::l else y::NZ c x l
def rH {α:Type} (c:α→α→Int):List α→List α
 |[]=>[]
 |x::l=>NZ c x (rH c l)
section
variable {α:Type} {c:α→α→Int}
theorem uK (x:α):∀l:List α,(NZ c x l).Perm (x::l)
 |[]=>List.Perm.refl _
 |y::l=>by
  unfold NZ;split;·exact List.Perm.refl _
  exact((uK x l).cons y).trans (List.Perm.swap x y l)
theorem uL:∀l:List α,(rH c l).Perm l
 |[]=>List.Perm.refl _
 |x::l=>(uK x _).trans ((uL l).cons x)
theorem uM (h:Three c) (x:α):∀l:List α,(l.Pairwise fun a b=>c a b≤0)→(NZ c x l).Pairwise fun a b=>c a b≤0
 |[],_=>by simp[NZ]
 |y::l,hl=>by
  have hl':=List.pairwise_cons.1 hl;unfold NZ;split
  ·rename_i hxy;refine List.pairwise_cons.2 ⟨fun z hz=>?_,hl⟩;rcases List.mem_cons.1 hz with rfl|hz
   ·exact hxy
   exact h.le_trans hxy (hl'.1 z hz)
  rename_i hxy;refine List.pairwise_cons.2 ⟨fun z hz=>?_,uM h x l hl'.2⟩;rcases List.mem_cons.1 ((uK x l).mem_iff.1 hz) with rfl|hz
  ·have:=h.swap z y;omega
  exact hl'.1 z hz
theorem pU (h:Three c):∀l:List α,(rH c l).Pairwise fun a b=>c a b≤0
 |[]=>List.Pairwise.nil
 |x::l=>uM h x _ (pU h l)
theorem qP (h:Three c) (l:List α):iU c l=rH c l:=(sU h (uL l) (pU h l)).symm
end
def eS (a b:ByteArray):Int:=if Op.bytesLess a.data.toList b.data.toList then-1 else if a.data.toList==b.data.toList then 0 else 1
def eL:List ByteArray→List ByteArray→Int
 |[],[]=>0
 |[],_::_=> -1
 |_::_,[]=>1
 |a::x,b::y=>if eS a b≠0 then eS a b else eL x y
def eF (f g:aA):Int:=if eS f.1 g.1≠0 then eS f.1 g.1 else if vP f.2.length g.2.length≠0 then vP f.2.length g.2.length else eL f.2 g.2
def eB (a b:aD):Int:=if eS a.1 b.1≠0 then eS a.1 b.1 else eS a.2 b.2
theorem N7:jg=eS:=by funext a b;unfold jg eS;rw[Lib.toList_data,Lib.toList_data]
theorem TL:cmpL=eL:=by
 funext x y
 induction x generalizing y with
 |nil=>cases y <;> rfl
 |cons a x ih=>cases y with
  |nil=>rfl
  |cons b y=>simp only[cmpL,eL,N7,ih]
theorem TM:fO=eF:=by funext f g;unfold fO eF;rw[N7,TL]
theorem Qx:lU=eB:=by funext a b;unfold lU eB;rw[N7]
def Ph (l:List aA):List aA:=rH eF (fZ l)
theorem ze (l:List aA):iA l=Ph l:=by unfold iA Ph;rw[qP aW,TM]
def allI (fs:List aA) (body:List aI):Option (List (List aD)):=match dF (fun _=>fs) 0 body [[]] with
 |none=>none
 |some ms=>some (rH (vM eB) ((ms.filter fun l=> !barredB (fun _=>fs) 0 body l).map (rH eB)))
theorem N8 (fs:List aA) (body:List aI):lF (fun _=>fs) body=allI fs body:=by
 have e1:(gX:List aD→List aD)=rH eB:=by funext l;show iU lU l=_;rw[qP eu,Qx]
 unfold lF allI;cases dF (fun _=>fs) 0 body [[]] with
 |none=>rfl
 |some ms=>
  dsimp only;rw[qP bF,e1,show gM=vM eB from by rw[←Qx]]
def DL (r:aG) (fs:List aA):Option (List aA):=match allI fs r.body with
 |none=>none
 |some R=>some (Ph (R.filterMap fun l=>bg r.head l))
theorem IW (r:aG) (fs:List aA):gq r fs=DL r fs:=by
 unfold gq DL;rw[N8];cases allI fs r.body with
 |none=>rfl
 |some R=>dsimp only;rw[ze]
def AR (n:Int) (fs:List aA):List aG→List Nat→List aA→Int×List aA
 |[],_,acc=>(0,Ph acc)
 |_::_,[],acc=>(0,Ph acc)
 |r::p,s::ss,acc=>if(s:Int)=n then
   match DL r fs with
   |none=>(4,[])
   |some x=>if 200<(Ph (acc++x)).length then(5,[]) else AR n fs p ss (acc++x)
  else AR n fs p ss acc
theorem zf (n:Int) (fs:List aA):∀(p:List aG) (ss:List Nat) (acc:List aA),gP n fs p ss acc=AR n fs p ss acc
 |[],_,acc=>by simp only[gP,AR,ze]
 |_::_,[],acc=>by simp only[gP,AR,ze]
 |r::p,s::ss,acc=>by
  simp only[gP,AR];rw[IW];split
  ·cases DL r fs with
   |none=>rfl
   |some x=>
    dsimp only;rw[ze,zf n fs p ss]
  exact zf n fs p ss acc
def IX (p:List aG) (ss:List Nat) (n:Int):Nat→List aA→Int×List aA
 |0,l=>(0,l)
 |k+1,l=>match AR n l p ss l with
  |(e,x)=>if e≠0 then(e,[]) else if x.length=l.length then(0,x) else IX p ss n k x
theorem DN (p:List aG) (ss:List Nat) (n:Int):∀(k:Nat) (l:List aA),dM p ss n k l=IX p ss n k l
 |0,l=>rfl
 |k+1,l=>by unfold dM IX bW;rw[zf];obtain⟨e,x,h⟩:∃e x,AR n l p ss l=(e,x):=⟨_,_,rfl⟩;rw[h];dsimp only;rw[DN p ss n k x]
def TN (p:List aG) (ss:List Nat):Nat→Nat→List aA→Int×List aA
 |0,_,l=>(0,l)
 |c+1,n,l=>match IX p ss n 201 l with
  |(e,x)=>if e≠0 then(e,[]) else TN p ss c (n+1) x
theorem N9 (p:List aG) (ss:List Nat):∀(c n:Nat) (l:List aA),kJ p ss c n l=TN p ss c n l
 |0,n,l=>rfl
 |c+1,n,l=>by unfold kJ TN;rw[DN];obtain⟨e,x,h⟩:∃e x,IX p ss n 201 l=(e,x):=⟨_,_,rfl⟩;rw[h];dsimp only;rw[N9 p ss c (n+1) x]
def pos (s:ByteArray) (l:Bs):Nat:=s.size-l.length
end Go.Proofs.YtaallngooaaonaaGreatDoor
