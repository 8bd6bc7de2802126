import Derived.Test.YtafmbokfkbccaaaGreatDoorJT20
import Derived.BigQuiet
import Derived.Test.YtafmbokfkbccaaaGreatDoorJT7
import Derived.Test.YtafmbokfkbccaaaGreatDoorJT3
import Derived.Test.YtafmbokfkbccaaaGreatDoorJT16
namespace Go.Proofs.YtafmbokfkbccaaaGreatDoor
open Go.RowKit Go.Sort Go.Maps
theorem pY {p:List aD} {m:dW} (hl:mo p m) (hs:Sol p (numOf m)):∀r∈p,numOf m r.head.name<p.length:=by
 have key:∀k,(∃r∈p,k≤numOf m r.head.name)→k≤(p.map fun r=>if numOf m r.head.name<k then 1 else 0).sum:=by
  intro k
  induction k with
  |zero=>intro _;exact Nat.zero_le _
  |succ k ih=>
   rintro⟨r,hr,hk⟩;have h1:=ih ⟨r,hr,by omega⟩;obtain⟨q,hq,hqk⟩:∃q∈p,numOf m q.head.name=k:=by
    refine Classical.byContradiction fun hn=> ?_;have:=Qc hl hs k (fun q hq e=>hn ⟨q,hq,e⟩) r hr;omega
   have h2:(p.map fun r=>if numOf m r.head.name<k then 1 else 0).sum<(p.map fun r=>if numOf m r.head.name<k+1 then 1 else 0).sum:=by
    refine sum_lt (fun x _=> ?_) ⟨q,hq,?_⟩
    ·split
     ·rw[if_pos (by omega)];exact Nat.le_refl _
     ·exact Nat.zero_le _
    ·rw[if_neg (by omega),if_pos (by omega)];exact Nat.one_pos
   omega
 intro r hr;have h1:=key _ ⟨r,hr,Nat.le_refl _⟩;have h2:(p.map fun q=>if numOf m q.head.name<numOf m r.head.name then 1 else 0).sum<(p.map fun _=>1).sum:=by
  refine sum_lt (fun x _=> ?_) ⟨r,hr,?_⟩
  ·split <;> omega
  ·rw[if_neg (by omega)];exact Nat.one_pos
 have h3:(p.map fun _=>1).sum=p.length:=by
  clear h1 h2 key hr hl hs
  induction p with
  |nil=>rfl
  |cons a p ih=>simp only[List.map_cons,List.sum_cons,List.length_cons,ih];omega
 omega
theorem below_drewN {n:Nat} {a b:World} (h:Below n a b) (q:Nat):Below n a (b.drewN q):=⟨h.os,h.tape,h.output,h.size,h.block⟩
def jM (p:List aD) (l:List au):Int×List au:=
 if(aW p).2.1≠0 then((aW p).2.1,[]) else if(fq p l).1≠0 then((fq p l).1,[]) else kN p (aW p).1 (countP (aW p).1) 0 l
set_option maxRecDepth 100000 in
set_option maxHeartbeats 4000000 in
theorem Jb (p:List aD) (l:List au) (pv fv:Value) (w:World) (hv:eU.sl bg w pv p) (hf:Facts w fv l):
  Calls Tryz.prog 22 #[pv,fv] w fun e w'=>∃v' er,e=.returned (.tuple #[v',.int .i64 er])∧lZ w' v' er (jM p l)∧Below w.heap.size w w':=by
 have HSt:=hide (I8 p pv w hv);obtain⟨pa,pc,rfl⟩:=Kind.slice hv;obtain⟨fa,fc,rfl⟩:=aC hf;have HV:=hide hv;have HF:=hide hf;clear hv hf;obtain⟨ss,ex,ea,hse⟩:∃ss ex ea,aW p=(ss,ex,ea):=⟨_,_,_,rfl⟩;rw[hse] at HSt;have HSE:=hide hse;clear hse
 go_enter Tryz.func22,Tryz.ntmps22
 go_wp2_with fail
 refine HSt.out.mono ?_;rintro e w1 ⟨u,rfl,hu,hB1⟩;dsimp only at hu⊢;have HU:Hid (lY.sl bg w1 u ss):=Kind.bT hu fun _ _ _=>trivial;obtain⟨ua,uc,rfl⟩:=Kind.slice hu;have HB1:=hide hB1;clear hu hB1 HSt
 by_cases h0:ex=0
 ·subst h0;obtain⟨hw0,m,hms,hdm,hlm,hsm⟩:=kJ HSE.out;have hp:=mX.1 hw0;have Jc:∀s∈ss,s<1000:=fun s hs=>by
   rw[hms] at hs;obtain⟨r,hr,rfl⟩:=List.mem_map.1 hs;have:=pY hlm hsm r hr;have:=hp.few;omega
  have hcs:countP ss≤1000:=countP_le Jc;have HMS:Hid (ss=p.map fun r=>numOf m r.head.name):=hms;have HRP:=hide hp;obtain⟨w2,hw2⟩:∃w2,w2=w1.alloc (.cells #[.int .i64 0,.int .i64 (ea:Nat)] 75):=⟨_,rfl⟩;have hL2:Later w1 w2:=by rw[hw2];exact(Later.refl _).alloc _
  have hB2:Below w.heap.size w w2:=aj HB1.out hL2.below HB1.out.size;have HFC:=hide (uP p hp (.slice pa p.length pc) (.slice fa l.length fc) l w2 (Kind.aF HV.out hB2) (HF.out.below hB2));obtain⟨fx,fe,hfe⟩:∃fx fe,fq p l=(fx,fe):=⟨_,_,rfl⟩;rw[hfe] at HFC;have HFE:=hide hfe;have HB2:=hide hB2;have HU2:=hide (Kind.aJ HU.out hL2);have HSm:=hide Jc;have HW2:=hide hw2;clear hw0 hms hdm hlm hsm hp Jc hL2 hB2 hfe hw2 HB1 HU
  go_wp2_with fail
  rw[←HW2.out];refine HFC.out.mono ?_;rintro e w3 ⟨rfl,hB3⟩;dsimp only;have HB3:Hid (Below w.heap.size w w3):=aj HB2.out hB3 HB2.out.size;have HU3:=hide (Kind.aF HU2.out hB3);clear hB3 HFC HW2 HB2 HU2
  by_cases h1:fx=0
  ·subst h1;have hgood:GoodS p l:=nA (by rw[HFE.out]);have HX:Hid (jM p l=kN p ss (countP ss) 0 l):=by show _=_;unfold jM;rw[HSE.out,HFE.out];simp
   obtain⟨w4,hw4⟩:∃w4,w4=w3.alloc (.cells #[.int .i64 0,.int .i64 fe] 75):=⟨_,rfl⟩;have hL4:Later w3 w4:=by rw[hw4];exact(Later.refl _).alloc _
   have hB4:Below w.heap.size w w4:=aj HB3.out hL4.below HB3.out.size;have HOw:=hide (Yj (.slice fa l.length fc) l w4 (HF.out.below hB4));have HB4:=hide hB4;have HU4:=hide (Kind.aJ HU3.out hL4);have HG:=hide hgood;have Oj:=hgood.few;have HW4:=hide hw4;clear hgood hL4 hB4 hw4 HB3 HU3 HSE HFE
   go_wp2_with fail
   rw[←HW4.out];refine HOw.out.mono ?_;rintro e w5 ⟨v5,rfl,hO5,hL5⟩;have HF5:Hid (Facts w5 v5 l):=hO5.facts (by omega);have HB5:Hid (Below w.heap.size w w5):=aj HB4.out hL5.below HB4.out.size;have HU5:=hide (Kind.aJ HU4.out hL5);have HCn:=hide (MW ss (.slice ua ss.length uc) w5 HU5.out HSm.out);obtain⟨a5,c5,rfl⟩:=aC HF5.out;clear hO5 hL5 HOw HW4 HB4 HU4
   go_wp2_with fail
   refine HCn.out.mono ?_;rintro e w6 ⟨rfl,hL6⟩;have HF6:Hid (Facts w6 (.slice a5 l.length c5) l):=HF5.out.later hL6;have HB6:Hid (Below w.heap.size w w6):=aj HB5.out hL6.below HB5.out.size;have HU6:=hide (Kind.aJ HU5.out hL6);have Li:Hid (Below w6.heap.size w6 w6):=Below.refl _ _;clear hL6 HCn HF5 HB5 HU5;generalize hc:countP ss=c at*;have HCC:=hide hc;clear hc;go_wp2
   go_loopg [9,34] c (fun g v9 i wr=>∃j k:Nat,k=g∧j+k=c∧i=.int .i64 j∧∃L,Hid (Facts wr v9 L)∧Hid (GoodS p L)∧Hid (Below w6.heap.size w6 wr)∧Hid (jM p l=kN p ss k j L))
   case atStart=>exact⟨0,c,rfl,by omega,rfl,l,HF6,HG,Li,HX⟩
   case round=>
    clear HF6 HG Li HX;obtain⟨j,k,hkg,hj,rfl,L,HFr,HG,HBr,HX⟩:=hrel;have Kw:Below w.heap.size w wr:=aj HB6.out HBr.out HB6.out.size
    by_cases hlt:j<c
    ·obtain⟨k',rfl⟩:∃k',k=k'+1:=⟨k-1,by omega⟩;have hltz:(j:Int)<(c:Int):=by omega
     have hUr:=Kind.aF HU6.out HBr.out;obtain⟨va,vc,hva⟩:=aC HFr.out;subst hva;have hOC:=TQ p HRP.out (fun r=>numOf m r.head.name) j L (.slice pa p.length pc) (.slice ua ss.length uc) (.slice va L.length vc) wr (Kind.aF HV.out Kw) (by rw[←HMS.out];exact hUr) HFr.out HG.out;rw[←HMS.out] at hOC;have HOC:=hide hOC;obtain⟨er,S,hS⟩:∃er S,dO p ss (j:Int) 201 L=(er,S):=⟨_,_,rfl⟩;rw[hS] at HOC;have hX:jM p l=if er≠0 then(er,[]) else kN p ss k' (j+1) S:=by rw[HX.out,kN,hS]
     have HXX:=hide hX;have Sn:=hide Kw;clear hUr hOC hS hX HX Kw
     go_wp2_with fail
     refine HOC.out.mono ?_;rintro e w7 ⟨v7,er',rfl,⟨her,hT1,hT2⟩,hG7,hB7⟩;dsimp only at her hT1 hT2 hG7⊢;have Ol:=her.symm;clear her;subst Ol;have HB7:Hid (Below w.heap.size w w7):=aj Sn.out hB7 Sn.out.size;have Yy:Hid (Below w6.heap.size w6 w7):=aj HBr.out hB7 HBr.out.size;clear HOC hB7
     by_cases he:er=0
     ·subst he;have HF7:=hide (hT2 rfl);have HG7:=hide (hG7 rfl);have HX7:Hid (jM p l=kN p ss k' (j+1) S):=by show _=_;rw[HXX.out,if_neg (by simp)]
      obtain⟨a7,c7,rfl⟩:=aC HF7.out;clear hT1 hT2 hG7 HXX;go_wp2
      go_roundg k'
      case measure=>omega
      case rel=>exact⟨j+1,k',rfl,by omega,by go_num,S,HF7,HG7,Yy,HX7⟩
     ·have e2:=hT1 he;subst e2;have HT:Hid (∀w',lZ w' (.slice none 0 0) er (jM p l)):=fun w'=>by rw[HXX.out,if_pos he];exact⟨rfl,fun _=>rfl,fun h=>absurd h he⟩
      have hne:(er != 0)=true:=by simpa using he
      clear hT1 hT2 hG7 HXX;go_wp2;exact bodyPost_ret (v:=.tuple #[.slice none 0 0,.int .i64 er]) (by simp[results,Tryz.results22,go_sem]) rfl ⟨_,er,rfl,HT.out _,HB7.out⟩
    ·have hk0:k=0:=by omega
     have Sn:=hide Kw;obtain⟨va,vc,hva⟩:=aC HFr.out;subst hva;have HT:Hid (lZ wr (.slice va L.length vc) 0 (jM p l)):=by
      show lZ wr _ 0 (jM p l);rw[HX.out,hk0];exact⟨rfl,fun h=>absurd rfl h,fun _=>HFr.out⟩
     clear Kw HX;go_wp2;exact bodyPost_ret (v:=.tuple #[.slice va L.length vc,.int .i64 0]) (by simp[results,Tryz.results22,go_sem]) rfl ⟨_,0,rfl,HT.out,Sn.out⟩
  ·have HT:Hid (∀w',lZ w' (.slice none 0 0) fx (jM p l)):=fun w'=>by unfold jM;rw[HSE.out,HFE.out];simp only[ne_eq,not_true_eq_false,if_false,h1,not_false_eq_true,if_true];exact⟨rfl,fun _=>rfl,fun h=>absurd h h1⟩
   have hne:(fx != 0)=true:=by simpa using h1
   have HB4:Hid (Below w.heap.size w (w3.alloc (.cells #[.int .i64 fx,.int .i64 fe] 75))):=aj HB3.out ((Later.refl _).alloc _).below HB3.out.size;clear HSE HFE h1 HV HF HU3;go_wp2
   go_quiet (fail)
   go_wp2;exact bodyPost_ret (v:=.tuple #[.slice none 0 0,.int .i64 fx]) (by simp[results,Tryz.results22,go_sem]) rfl ⟨_,fx,rfl,HT.out _,below_drewN HB4.out _⟩
 ·have HT:Hid (∀w',lZ w' (.slice none 0 0) ex (jM p l)):=fun w'=>by unfold jM;rw[HSE.out];simp only[ne_eq,h0,not_false_eq_true,if_true];exact⟨rfl,fun _=>rfl,fun h=>absurd h h0⟩
  have hne:(ex != 0)=true:=by simpa using h0
  have HB4:Hid (Below w.heap.size w (w1.alloc (.cells #[.int .i64 ex,.int .i64 (ea:Nat)] 75))):=aj HB1.out ((Later.refl _).alloc _).below HB1.out.size;clear HSE h0 HV HF HU;go_wp2
  go_quiet (fail)
  go_wp2;exact bodyPost_ret (v:=.tuple #[.slice none 0 0,.int .i64 ex]) (by simp[results,Tryz.results22,go_sem]) rfl ⟨_,ex,rfl,HT.out _,below_drewN HB4.out _⟩
end Go.Proofs.YtafmbokfkbccaaaGreatDoor
namespace Go.Proofs.YtafmbokfkbccaaaGreatDoor
def Oq {α:Type} (c:α→α→Int) (x:α):List α→List α
 |[]=>[x]
 |y::l=>if c x y≤0 then x::y::l else y::Oq c x l
def rR {α:Type} (c:α→α→Int):List α→List α
 |[]=>[]
 |x::l=>Oq c x (rR c l)
section
variable {α:Type} {c:α→α→Int}
theorem uQ (x:α):∀l:List α,(Oq c x l).Perm (x::l)
 |[]=>List.Perm.refl _
 |y::l=>by
  unfold Oq;split
  ·exact List.Perm.refl _
  ·exact((uQ x l).cons y).trans (List.Perm.swap x y l)
theorem uR:∀l:List α,(rR c l).Perm l
 |[]=>List.Perm.refl _
 |x::l=>(uQ x _).trans ((uR l).cons x)
theorem uS (h:Three c) (x:α):∀l:List α,(l.Pairwise fun a b=>c a b≤0)→(Oq c x l).Pairwise fun a b=>c a b≤0
 |[],_=>by simp[Oq]
 |y::l,hl=>by
  have hl':=List.pairwise_cons.1 hl;unfold Oq;split
  ·rename_i hxy;refine List.pairwise_cons.2 ⟨fun z hz=> ?_,hl⟩;rcases List.mem_cons.1 hz with rfl|hz
   ·exact hxy
   ·exact h.le_trans hxy (hl'.1 z hz)
  ·rename_i hxy;refine List.pairwise_cons.2 ⟨fun z hz=> ?_,uS h x l hl'.2⟩;rcases List.mem_cons.1 ((uQ x l).mem_iff.1 hz) with rfl|hz
   ·have:=h.swap z y;omega
   ·exact hl'.1 z hz
theorem qd (h:Three c):∀l:List α,(rR c l).Pairwise fun a b=>c a b≤0
 |[]=>List.Pairwise.nil
 |x::l=>uS h x _ (qd h l)
theorem qX (h:Three c) (l:List α):iY c l=rR c l:=(tC h (uR l) (qd h l)).symm
end
def eS (a b:ByteArray):Int:=if Op.bytesLess a.data.toList b.data.toList then-1 else if a.data.toList==b.data.toList then 0 else 1
def eL:List ByteArray→List ByteArray→Int
 |[],[]=>0
 |[],_::_=> -1
 |_::_,[]=>1
 |a::x,b::y=>if eS a b≠0 then eS a b else eL x y
def eF (f g:au):Int:=if eS f.1 g.1≠0 then eS f.1 g.1 else if vV f.2.length g.2.length≠0 then vV f.2.length g.2.length else eL f.2 g.2
def eB (a b:aB):Int:=if eS a.1 b.1≠0 then eS a.1 b.1 else eS a.2 b.2
theorem Ot:jl=eS:=by funext a b;unfold jl eS;rw[Lib.toList_data,Lib.toList_data]
theorem TT:cmpL=eL:=by
 funext x y
 induction x generalizing y with
 |nil=>cases y <;> rfl
 |cons a x ih=>cases y with
  |nil=>rfl
  |cons b y=>simp only[cmpL,eL,Ot,ih]
theorem TU:fQ=eF:=by funext f g;unfold fQ eF;rw[Ot,TT]
theorem QK:l7=eB:=by funext a b;unfold l7 eB;rw[Ot]
def PK (l:List au):List au:=rR eF (gu l)
theorem zq (l:List au):iE l=PK l:=by unfold iE PK;rw[qX aX,TU]
def allI (fs:List au) (body:List aI):Option (List (List aB)):=match dI (fun _=>fs) 0 body [[]] with
 |none=>none
 |some ms=>some (rR (vS eB) ((ms.filter fun l=> !barredB (fun _=>fs) 0 body l).map (rR eB)))
theorem Ou (fs:List au) (body:List aI):lM (fun _=>fs) body=allI fs body:=by
 have e1:(gZ:List aB→List aB)=rR eB:=by funext l;show iY l7 l=_;rw[qX eG,QK]
 unfold lM allI;cases dI (fun _=>fs) 0 body [[]] with
 |none=>rfl
 |some ms=>
  dsimp only;rw[qX bG,e1,show gP=vS eB from by rw[←QK]]
def DZ (r:aD) (fs:List au):Option (List au):=match allI fs r.body with
 |none=>none
 |some R=>some (PK (R.filterMap fun l=>bA r.head l))
theorem Jd (r:aD) (fs:List au):gy r fs=DZ r fs:=by
 unfold gy DZ;rw[Ou];cases allI fs r.body with
 |none=>rfl
 |some R=>dsimp only;rw[zq]
def Ba (n:Int) (fs:List au):List aD→List Nat→List au→Int×List au
 |[],_,acc=>(0,PK acc)
 |_::_,[],acc=>(0,PK acc)
 |r::p,s::ss,acc=>if(s:Int)=n then
   match DZ r fs with
   |none=>(4,[])
   |some x=>if 200<(PK (acc++x)).length then(5,[]) else Ba n fs p ss (acc++x)
  else Ba n fs p ss acc
theorem zw (n:Int) (fs:List au):∀(p:List aD) (ss:List Nat) (acc:List au),gT n fs p ss acc=Ba n fs p ss acc
 |[],_,acc=>by simp only[gT,Ba,zq]
 |_::_,[],acc=>by simp only[gT,Ba,zq]
 |r::p,s::ss,acc=>by
  simp only[gT,Ba];rw[Jd];split
  ·cases DZ r fs with
   |none=>rfl
   |some x=>
    dsimp only;rw[zq,zw n fs p ss]
  ·exact zw n fs p ss acc
def Je (p:List aD) (ss:List Nat) (n:Int):Nat→List au→Int×List au
 |0,l=>(0,l)
 |k+1,l=>match Ba n l p ss l with
  |(e,x)=>if e≠0 then(e,[]) else if x.length=l.length then(0,x) else Je p ss n k x
theorem D5 (p:List aD) (ss:List Nat) (n:Int):∀(k:Nat) (l:List au),dO p ss n k l=Je p ss n k l
 |0,l=>rfl
 |k+1,l=>by
  unfold dO Je bZ;rw[zw];obtain⟨e,x,h⟩:∃e x,Ba n l p ss l=(e,x):=⟨_,_,rfl⟩;rw[h];dsimp only;rw[D5 p ss n k x]
def TV (p:List aD) (ss:List Nat):Nat→Nat→List au→Int×List au
 |0,_,l=>(0,l)
 |c+1,n,l=>match Je p ss n 201 l with
  |(e,x)=>if e≠0 then(e,[]) else TV p ss c (n+1) x
theorem Ov (p:List aD) (ss:List Nat):∀(c n:Nat) (l:List au),kN p ss c n l=TV p ss c n l
 |0,n,l=>rfl
 |c+1,n,l=>by
  unfold kN TV;rw[D5];obtain⟨e,x,h⟩:∃e x,Je p ss n 201 l=(e,x):=⟨_,_,rfl⟩;rw[h];dsimp only;rw[Ov p ss c (n+1) x]
end Go.Proofs.YtafmbokfkbccaaaGreatDoor
namespace Go.Proofs.YtafmbokfkbccaaaGreatDoor
open Go.RowKit Go.Sort
def pos (s:ByteArray) (l:Bs):Nat:=s.size-l.length
structure Rd (w:World) (p:Nat) (s:ByteArray) (l:Bs):Prop where
 short:s.size≤3000
 suf:l<:+raw s
 lt:p<w.heap.size
 ne:1<p
 c0:w.cell? ⟨p,0,none⟩=some (.string s)
 c1:w.cell? ⟨p,1,none⟩=some (.int .i64 (pos s l))
 fz:w.frozen? ⟨p,1,none⟩=false
 g:∃m,w.cell? ⟨1,0,none⟩=some (.int .i64 m)
theorem QL {s:ByteArray} {l:Bs} (h:l<:+raw s):l.length≤s.size:=by rw[←cK];exact h.length_le
theorem Ow {s:ByteArray} {l:Bs} (h:l<:+raw s) {n:Nat} (hn:n≤l.length):pos s (l.drop n)=pos s l+n:=by
 have:=QL h;simp only[pos,List.length_drop];omega
theorem Lj {s:ByteArray} {l:Bs} (h:l<:+raw s) (n:Nat):l.drop n<:+raw s:=(List.drop_suffix n l).trans h
theorem Rd.turned {w w':World} {p q:Nat} {s:ByteArray} {l:Bs} (h:Rd w p s l) (k:Tn q w w') (hq:q≠p) (h0:p<q):Rd w' p s l:=
 ⟨h.short,h.suf,Nat.lt_of_lt_of_le h.lt k.size,h.ne,by rw[k.cell (x:=⟨p,0,none⟩) h.lt (fun e=>hq e.symm)];exact h.c0,by rw[k.cell (x:=⟨p,1,none⟩) h.lt (fun e=>hq e.symm)];exact h.c1,
  by rw[World.frozen?_of_block (w:=w) (a:=⟨p,1,none⟩) (k.block p h.lt (fun e=>hq e.symm))];exact h.fz,
  by obtain⟨m,e⟩:=h.g;exact⟨m,by rw[k.cell (x:=⟨1,0,none⟩) (by have:=h.lt;have:=h.ne;show 1<w.heap.size;omega) (fun e'=>by have h1:=h.ne;have e2:1=q:=e';omega)];exact e⟩⟩
theorem Rd.below {w w':World} {p:Nat} {s:ByteArray} {l:Bs} (h:Rd w p s l) (k:Below w.heap.size w w'):Rd w' p s l:=
 h.turned (Tn.of_below (p:=p+1) k) (by omega) (by omega)
theorem Rd.set {w:World} {p:Nat} {s:ByteArray} {l:Bs} (h:Rd w p s l) {r:Bs} (hr:r<:+raw s):Rd (w.setCell ⟨p,1,none⟩ (.int .i64 (pos s r))) p s r:=by
 have hc:=h.c1;refine⟨h.short,hr,by rw[size_setCell];exact h.lt,h.ne,?_,?_,?_,?_⟩
 ·rw[World.cell?_setCell_other _ _ _ _ (by simp)];exact h.c0
 ·exact World.cell?_setCell_same _ _ _ hc
 ·rw[World.frozen?_setCell];exact h.fz
 ·obtain⟨m,e⟩:=h.g;exact⟨m,by rw[World.cell?_setCell_other _ _ _ _ (by intro e;simp at e)];exact e⟩
theorem Rd.drewN {w:World} {p:Nat} {s:ByteArray} {l:Bs} (h:Rd w p s l) (q:Nat):Rd (w.drewN q) p s l:=⟨h.short,h.suf,h.lt,h.ne,h.c0,h.c1,h.fz,h.g⟩
theorem Rd.moved {w:World} {p:Nat} {s:ByteArray} {l:Bs} (h:Rd w p s l) {n:Nat} (hn:n≤l.length) {x:Int} (hx:x=(pos s l:Int)+n):Rd (w.setCell ⟨p,1,none⟩ (.int .i64 x)) p s (l.drop n):=by
 have:=h.set (Lj h.suf n);rw[Ow h.suf hn] at this;rw[hx];exact this
theorem Tn.moved {w w':World} {p:Nat} (h:Tn p w w') (v:Value) (o:Nat):Tn p w (w'.setCell ⟨p,o,none⟩ v):=h.setCell (Or.inl rfl) v
end Go.Proofs.YtafmbokfkbccaaaGreatDoor
namespace Go.Proofs.YtafmbokfkbccaaaGreatDoor
open Go.RowKit Go.Sort
end Go.Proofs.YtafmbokfkbccaaaGreatDoor
