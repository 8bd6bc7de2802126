import Derived.Test.YtafmbokfkbccaaaGreatDoorJN18
import Derived.Test.YtafmbokfkbccaaaGreatDoorJN17
import Derived.Test.YtafmbokfkbccaaaGreatDoorJN12
namespace Go.Proofs.YtafmbokfkbccaaaGreatDoor
open Go.RowKit Go.Sort Go.Maps
abbrev uq:=Bs→Option Int
def uq.put (m:uq) (s:Bs) (n:Int):uq:=fun t=>if t=s then some n else m t
def j5 (m:uq) (a:aF):uq:=match m a.name with
 |none=>m.put a.name a.terms.length
 |some n=>if n≠a.terms.length then m.put a.name (-1) else m.put a.name a.terms.length
def nZ (A:List aF) (m:uq):Prop:=∀s,(m s=none↔∀a∈A,a.name≠s)∧∀n,m s=some n→∀k:Nat,n=(k:Int)↔∀a∈A,a.name=s→a.terms.length=k
theorem nZ.nil:nZ [] (fun _=>none):=fun s=>⟨by simp,fun n h=>by cases h⟩
theorem nZ.step {A:List aF} {m:uq} (h:nZ A m) (a:aF):nZ (A++[a]) (j5 m a):=by
 have key:∀x:Int,j5 m a=m.put a.name x→(∀k:Nat,x=(k:Int)↔∀b∈A++[a],b.name=a.name→b.terms.length=k)→nZ (A++[a]) (j5 m a):=fun x hx hk s=>by
  rw[hx];unfold uq.put
  by_cases e:s=a.name
  ·subst e;simp only[if_true];refine⟨⟨fun h=>by simp at h,fun h=>absurd rfl (h a (by simp))⟩,fun n hn=> ?_⟩;cases hn;exact hk
  ·simp only[if_neg e];obtain⟨h1,h2⟩:=h s;refine⟨by rw[h1];exact⟨fun h b hb=>(List.mem_append.1 hb).elim (h b) (fun hb=>by simp only[List.mem_singleton] at hb;subst hb;exact fun e'=>e e'.symm),fun h b hb=>h b (by simp[hb])⟩,fun n hn k=> ?_⟩;rw[h2 n hn k];exact⟨fun h b hb hbs=>(List.mem_append.1 hb).elim (fun hb=>h b hb hbs) (fun hb=>by simp only[List.mem_singleton] at hb;subst hb;exact absurd hbs.symm e),fun h b hb=>h b (by simp[hb])⟩
 obtain⟨h1,h2⟩:=h a.name;unfold j5 at key⊢;cases e:m a.name with
 |none=>
  rw[e] at key;refine key _ rfl fun k=> ?_;have hn:=h1.1 e
  constructor
  ·intro hk b hb hbn;rcases List.mem_append.1 hb with hb|hb
   ·exact absurd hbn (hn b hb)
   ·simp only[List.mem_singleton] at hb;subst hb;omega
  ·intro hk;have:=hk a (by simp) rfl;omega
 |some n=>
  rw[e] at key;dsimp only at key⊢;have hA:=h2 n e
  by_cases hne:n≠a.terms.length
  ·rw[if_pos hne] at key⊢;refine key _ rfl fun k=>⟨fun hk=>by omega,fun hk=> ?_⟩
   exfalso
   have h3:=hk a (by simp) rfl;have h4:=(hA k).2 fun b hb=>hk b (by simp[hb]);omega
  ·rw[if_neg hne] at key⊢;have hne:n=a.terms.length:=by omega
   refine key _ rfl fun k=> ?_
   constructor
   ·intro hk b hb hbn;rcases List.mem_append.1 hb with hb|hb
    ·exact(hA k).1 (by omega) b hb hbn
    ·simp only[List.mem_singleton] at hb;subst hb;omega
   ·intro hk;have:=hk a (by simp) rfl;omega
def og (w:World) (b n:Nat) (m:uq):Prop:=∃D:DataW Unit,w.ownsMap Tryz.prog 9 (plainElem Tryz.prog 3) b n D∧∀s,Maps.has D (.string s)=(m s).isSome∧D.atKey (.string s) (.lit (.int .i64 0))=.lit (.int .i64 ((m s).getD 0))
theorem og.made (w:World):og (w.alloc (.map #[] 0)) w.heap.size 0 (fun _=>none):=⟨.map [],World.ownsMap_made _ _ _ _,fun _=>⟨rfl,rfl⟩⟩
theorem og.lt {w:World} {b n:Nat} {m:uq} (h:og w b n m):b<w.heap.size:=by obtain⟨D,h,_⟩:=h;exact h.lt
theorem og.block {w w':World} {b n:Nat} {m:uq} (h:og w b n m) (e:w'.heap[b]?=w.heap[b]?):og w' b n m:=by obtain⟨D,h,hf⟩:=h;exact⟨D,eP h e,hf⟩
theorem og.later {w w':World} {b n:Nat} {m:uq} (h:og w b n m) (k:Later w w'):og w' b n m:=h.block (k.block h.lt)
set_option maxRecDepth 100000 in
theorem og.look {w:World} {b n:Nat} {m:uq} (h:og w b n m) {s:Bs} (hs:s.length≤maxLen):
  (Instr.lookup 197 (.map (some b)) (.string (bs s)) true).run Tryz.prog w=.ok (.tuple #[.int .i64 ((m s).getD 0),.bool (m s).isSome]) w:=by
 obtain⟨D,hown,hf⟩:=h;obtain⟨v,ps,hrun,hv⟩:=hown.look_ok (string_keyed Tryz.underlying9) (t:=197) Tryz.underlying197 (tK _) (plainElem_int Tryz.underlying3 (by decide)) (nG Tryz.underlying9 hs);rw[(hf s).2] at hv;obtain⟨c,rfl,hc,_⟩:=plainElem_int_inv Tryz.underlying3 hv;simp only[Prod.mk.injEq] at hc;have hc:=hc.1
 injection hc with hc
 injection hc with _ hc
 subst hc;refine hrun.trans ?_;rw[(hf s).1]
theorem og.store {w:World} {b n:Nat} {m:uq} (h:og w b n m) (hn:n<maxLen) {s:Bs} (hs:s.length≤maxLen) {x:Int} (hx:(Lit.int .i64 x).wf=true):
  ∃w',(Instr.mapUpdate 197 (.map (some b)) (.string (bs s)) (.int .i64 x)).run Tryz.prog w=.ok () w'∧og w' b (n+1) (m.put s x)∧w.grownBy w' (some b):=by
 obtain⟨D,hown,hf⟩:=h;obtain⟨w',hrun,r1,r2⟩:=hown.update (string_keyed Tryz.underlying9) (t:=197) Tryz.underlying197 hn (nG Tryz.underlying9 hs) (plainElem_int Tryz.underlying3 hx);refine⟨w',hrun,⟨_,r1,fun t=> ?_⟩,r2⟩
 by_cases e:t=s
 ·subst e;exact⟨by rw[has_put_same hown.isMap (K4 _)];simp[uq.put],by rw[atKey_put_same hown.isMap (K4 _)];simp[uq.put]⟩
 ·exact⟨by rw[has_put_other (qR e),(hf t).1];simp[uq.put,e],by rw[atKey_put_other (qR e),(hf t).2];simp[uq.put,e]⟩
set_option maxRecDepth 100000 in
set_option maxHeartbeats 1000000 in
theorem G7 (b n:Nat) (m:uq) (a:aF) (v:Value) (w:World) (h:og w b n m) (hv:dL.sl bZ w v a.terms) (hs:a.name.length≤maxLen) (hn:n<maxLen):
  Calls Tryz.prog 193 #[.map (some b),.agg #[.bool a.no,.string (bs a.name),v]] w fun e w'=>(∃u,e=.returned u)∧og w' b (n+1) (j5 m a)∧Tn b w w':=by
 obtain⟨sa,cap,rfl⟩:=Kind.slice hv;have hl0:=hv.1.1;clear hv;have h1:=h.later ((Later.refl w).alloc (.cells #[.bool a.no,.string (bs a.name),.slice sa a.terms.length cap] 85));have hr:=h1.look hs;have hblt:=h.lt;cases hm:m a.name with
 |none=>
  obtain⟨w1,hst,hm1,hg⟩:=h1.store hn hs (x:=(a.terms.length:Nat)) (Ak (by omega));rw[hm] at hr;have F:Hid (j5 m a=m.put a.name a.terms.length):=by show _=_;unfold j5;rw[hm]
  have HM:Hid (og w1 b (n+1) (m.put a.name a.terms.length)):=hm1;have HT:Hid (Tn b w w1):=(Tn.of_below (p:=b) ((Later.refl w).alloc _).below).trans (gJ hg);have hst':=hide hst;clear h h1 hm1 hg hst hm;simp only[Option.getD_none,Option.isSome_none] at hr;generalize bs a.name=nm at*;generalize a.no=no at*
  go_enter Tryz.func193,Tryz.ntmps193
  go_wp2_with (first
   |(at_mapUpdate;refine bV _ rfl _ _ _ _ rfl _ _ _ _ rfl rfl rfl (bD hst') ?_)
   |go_in)
  go_end0;exact⟨⟨_,rfl⟩,by rw[F.out];exact HM.out,HT.out⟩
 |some k=>
  rw[hm] at hr;simp only[Option.getD_some,Option.isSome_some] at hr
  by_cases hne:k≠a.terms.length
  ·obtain⟨w1,hst,hm1,hg⟩:=h1.store hn hs (x:= -1) (by decide);have F:Hid (j5 m a=m.put a.name (-1)):=by show _=_;unfold j5;rw[hm];exact if_pos hne
   have HM:Hid (og w1 b (n+1) (m.put a.name (-1))):=hm1;have HT:Hid (Tn b w w1):=(Tn.of_below (p:=b) ((Later.refl w).alloc _).below).trans (gJ hg);have hst':=hide hst;have hq:(k != (a.terms.length:Int))=true:=by simpa using hne
   clear h h1 hm1 hg hst hm hne;generalize bs a.name=nm at*;generalize a.no=no at*
   go_enter Tryz.func193,Tryz.ntmps193
   go_wp2_with (first
    |(at_mapUpdate;refine bV _ rfl _ _ _ _ rfl _ _ _ _ rfl rfl rfl (bD hst') ?_)
    |go_in)
   exact bodyPost_ret (results_none rfl _ _ _) rfl ⟨⟨_,rfl⟩,by rw[F.out];exact HM.out,HT.out⟩
  ·have hk:k=(a.terms.length:Int):=by omega
   subst hk;obtain⟨w1,hst,hm1,hg⟩:=h1.store hn hs (x:=(a.terms.length:Nat)) (Ak (by omega));have F:Hid (j5 m a=m.put a.name a.terms.length):=by show _=_;unfold j5;rw[hm];exact if_neg (by simp)
   have HM:Hid (og w1 b (n+1) (m.put a.name a.terms.length)):=hm1;have HT:Hid (Tn b w w1):=(Tn.of_below (p:=b) ((Later.refl w).alloc _).below).trans (gJ hg);have hst':=hide hst;clear h h1 hm1 hg hst hm hne;generalize bs a.name=nm at*;generalize a.no=no at*
   go_enter Tryz.func193,Tryz.ntmps193
   go_wp2_with (first
    |(at_mapUpdate;refine bV _ rfl _ _ _ _ rfl _ _ _ _ rfl rfl rfl (bD hst') ?_)
    |go_in)
   go_end0;exact⟨⟨_,rfl⟩,by rw[F.out];exact HM.out,HT.out⟩
def uw (m:uq) (f:au):Bool:=match m (raw f.1) with|none=>true|some k=>decide (k=f.2.length)
set_option maxRecDepth 100000 in
set_option maxHeartbeats 1000000 in
theorem ME (b n:Nat) (m:uq) (f:au) (v:Value) (w:World) (h:og w b n m) (hv:dF w v f) (hs:f.1.size≤maxLen):
  Calls Tryz.prog 122 #[.map (some b),v] w fun e w'=>e=.returned (.bool (uw m f))∧Later w w':=by
 unfold uw;obtain⟨u,rfl,hu⟩:=hv;obtain⟨sa,cap,rfl⟩:=aW hu;obtain⟨nm,args⟩:=f;dsimp only at*;have h1:=h.later ((Later.refl w).alloc (.cells #[.string nm,.slice sa args.length cap] 27));have hr:=h1.look (s:=raw nm) (by rw[aP];exact hs);rw[jW] at hr;clear h h1 hu hs;cases hm:m (raw nm) with
 |none=>
  rw[hm] at hr;simp only[Option.getD_none,Option.isSome_none] at hr
  go_enter Tryz.func122,Tryz.ntmps122
  go_wp2;go_ret;exact⟨rfl,(by repeat (first|exact Later.refl _|assumption|refine Later.drewN ?_ _|refine Later.drew ?_|refine Later.alloc ?_ _|refine Later.grow ?_ _))⟩
 |some k=>
  rw[hm] at hr;simp only[Option.getD_some,Option.isSome_some] at hr
  go_enter Tryz.func122,Tryz.ntmps122
  go_wp2;go_ret;refine⟨cK ?_,(by repeat (first|exact Later.refl _|assumption|refine Later.drewN ?_ _|refine Later.drew ?_|refine Later.alloc ?_ _|refine Later.grow ?_ _))⟩;rw[Bool.eq_iff_iff];simp
end Go.Proofs.YtafmbokfkbccaaaGreatDoor
namespace Go.Proofs.YtafmbokfkbccaaaGreatDoor
open Go.RowKit Go.Sort Go.Maps
theorem yQ (p q:List aA):gu (p++q)=gu p++gu q:=by simp[gu]
theorem og.mono {w:World} {b n n':Nat} {m:uq} (h:og w b n m) (hn:n≤n'):og w b n' m:=by obtain⟨D,h,hf⟩:=h;exact⟨D,h.mono hn,hf⟩
set_option maxRecDepth 100000 in
set_option maxHeartbeats 4000000 in
theorem G8 (p:List aA) (v:Value) (w:World) (hv:dU.sl bZ w v p) (h16:p.length≤16) (h5:∀r∈p,r.body.length≤5) (hs:∀a∈gu p,a.name.length≤12):
  Calls Tryz.prog 121 #[v] w fun e w'=>∃n m,e=.returned (.map (some w.heap.size))∧og w' w.heap.size n m∧nZ (gu p) m∧Below w.heap.size w w':=by
 obtain⟨pa,pc,rfl⟩:=Kind.slice hv;have HV:=hide hv;have HS:=hide hs;have H5:=hide h5;have HM0:Hid (og (w.alloc (.map #[] 0)) w.heap.size 0 (fun _=>none)):=og.made w;have HB0:Hid (Below w.heap.size w (w.alloc (.map #[] 0))):=((Later.refl w).alloc _).below;have hmm:= @run_makeMap Tryz.prog;clear hv hs h5
 go_enter Tryz.func121,Tryz.ntmps121
 go_wp2
 go_loopg [11] p.length (fun g i wr=>∃j:Nat,j+g=p.length∧i=.int .i64 j∧w.heap.size<wr.heap.size∧∃m,Hid (og wr w.heap.size (6*j) m)∧Hid (nZ (gu (p.take j)) m)∧Hid (Below w.heap.size w wr))
 case atStart=>exact⟨0,by omega,rfl,by simp,_,HM0,nZ.nil,HB0⟩
 case round=>
  clear HM0 HB0 hmm;obtain⟨j,hj,rfl,hwr,m,HM,HO,HBr⟩:=hrel;obtain⟨wo,hwo⟩:∃wo,wo=wr:=⟨_,rfl⟩;subst hwo
  by_cases hlt:j<p.length
  ·obtain⟨r,hr⟩:∃x,p[j]?=some x:=⟨_,List.getElem?_eq_getElem hlt⟩;have hrm:r∈p:=List.mem_of_getElem? hr;obtain⟨b1,o1,_,rfl,hb1,⟨tv,bv,rfl,htv,hbv⟩,hc⟩:=Kind.fC HV.out hr;have d0:wo.cell? ⟨b1,o1+j*4,none⟩=some (.bool r.head.no):=by rw[HBr.out.cell (p:=⟨b1,o1+j*4,none⟩) hb1];exact hc 0 _ rfl
   have d1:wo.cell? ⟨b1,o1+j*4+1,none⟩=some (.string (bs r.head.name)):=by rw[HBr.out.cell (p:=⟨b1,o1+j*4+1,none⟩) hb1];exact hc 1 _ rfl
   have d2:wo.cell? ⟨b1,o1+j*4+2,none⟩=some tv:=by rw[HBr.out.cell (p:=⟨b1,o1+j*4+2,none⟩) hb1];exact hc 2 _ rfl
   have d3:wo.cell? ⟨b1,o1+j*4+3,none⟩=some bv:=by rw[HBr.out.cell (p:=⟨b1,o1+j*4+3,none⟩) hb1];exact hc 3 _ rfl
   obtain⟨ta,tc,rfl⟩:=Kind.slice htv;obtain⟨ba,bc,rfl⟩:=Kind.slice hbv;have hsz:=HBr.out.size;have htk:gu (p.take (j+1))=gu (p.take j)++(r.head::r.body):=by
    rw[List.take_add_one,hr,yQ];simp[gu]
   have Rp:∀a∈r.head::r.body,a.name.length≤12:=fun a ha=>HS.out a (List.mem_flatMap.2 ⟨r,hrm,ha⟩);have hb5:=H5.out r hrm;have Rq:=dW.made w.heap.size wo (.bool r.head.no) (.string (bs r.head.name)) (.slice ta r.head.terms.length tc) (.slice ba r.body.length bc);obtain⟨wb,hwb⟩:∃wb,wb=wo.alloc (.cells #[.bool r.head.no,.string (bs r.head.name),.slice ta r.head.terms.length tc,.slice ba r.body.length bc] 87):=⟨_,rfl⟩;rw[←hwb] at Rq;have hLb:Later wo wb:=by rw[hwb];exact(Later.refl _).alloc _
   have hBb:Below w.heap.size w wb:=aj HBr.out hLb.below hsz;have HC:=hide (G7 w.heap.size (6*j) m r.head (.slice ta r.head.terms.length tc) wb (HM.out.later hLb) (Kind.aY htv hBb) (by have:=Rp r.head (by simp);unfold maxLen;omega) (by unfold maxLen;omega));have HBx:=hide Rq;have HBb:=hide hBb;have HBV:=hide hbv;have HTK:=hide htk;have HRA:=hide Rp;have HWb:=hide hwb;clear hc hr htv hbv htk Rp Rq hLb hBb hwb hrm;generalize bs r.head.name=nm at*;generalize hno:r.head.no=no at*
   go_wp2_with fail
   rw[←HWb.out];refine HC.out.mono ?_;rintro e w2 ⟨⟨u2,rfl⟩,hM2,hT2⟩;have HX2:=hide (HBx.out.turned hT2 hwr);have HM2:=hide hM2;have HO2:Hid (nZ (gu (p.take j)++(r.head::r.body.take 0)) (j5 m r.head)):=by show nZ _ _;have:=HO.out.step r.head;simpa using this
   have HT2:Hid (Tn w.heap.size wb w2):=hT2;have x3:w2.cell? ⟨wo.heap.size,3,none⟩=some (.slice ba r.body.length bc):=HX2.out.z3;clear hM2 hT2 HC hno;go_wp2
   go_loopg [22] r.body.length (fun g i wz=>∃k:Nat,k+g=r.body.length∧i=.int .i64 k∧∃m',Hid (og wz w.heap.size (6*j+1+k) m')∧Hid (nZ (gu (p.take j)++(r.head::r.body.take k)) m')∧Hid (Tn w.heap.size wb wz))
   case atStart=>exact⟨0,by omega,rfl,_,HM2,HO2,HT2⟩
   case round=>
    clear HM2 HO2 HT2 x3;obtain⟨k,hk,rfl,m',HM',HO',HT'⟩:=hrel;have hbs:w.heap.size≤wb.heap.size:=by have:=HBb.out.size;omega
    have hBz:Below w.heap.size wb wr:=HT'.out.below (Nat.le_refl _) hbs;have hwz:=HT'.out.size;have hww:wo.heap.size<wb.heap.size:=HBx.out.lt
    by_cases hltk:k<r.body.length
    ·obtain⟨t,ht⟩:∃x,r.body[k]?=some x:=⟨_,List.getElem?_eq_getElem hltk⟩;obtain⟨b2,o2,_,rfl,hb2,⟨sv,rfl,hsv⟩,hc⟩:=Kind.fC HBV.out ht;have hBw:Below w.heap.size w wr:=HBb.out.trans hBz;have e0:wr.cell? ⟨b2,o2+k*3,none⟩=some (.bool t.no):=by rw[hBw.cell (p:=⟨b2,o2+k*3,none⟩) hb2];exact hc 0 _ rfl
     have e1:wr.cell? ⟨b2,o2+k*3+1,none⟩=some (.string (bs t.name)):=by rw[hBw.cell (p:=⟨b2,o2+k*3+1,none⟩) hb2];exact hc 1 _ rfl
     have e2:wr.cell? ⟨b2,o2+k*3+2,none⟩=some sv:=by rw[hBw.cell (p:=⟨b2,o2+k*3+2,none⟩) hb2];exact hc 2 _ rfl
     have hbr:b2<wr.heap.size:=by omega
     obtain⟨sva,svc,rfl⟩:=Kind.slice hsv;have hL5:Later wr (wr.alloc (.cells #[.bool t.no,.string (bs t.name),.slice sva t.terms.length svc] 85)):=(Later.refl _).alloc _;have htk:r.head::r.body.take (k+1)=(r.head::r.body.take k)++[t]:=by rw[List.take_add_one,ht];rfl
     have HC5:=hide (G7 w.heap.size (6*j+1+k) m' t (.slice sva t.terms.length svc) (wr.alloc (.cells #[.bool t.no,.string (bs t.name),.slice sva t.terms.length svc] 85)) (HM'.out.later hL5) (Kind.aY hsv (aj hBw hL5.below hBw.size)) (by have:=HRA.out t (List.mem_cons_of_mem _ (List.mem_of_getElem? ht));unfold maxLen;omega) (by unfold maxLen;omega));have HO5:Hid (nZ (gu (p.take j)++(r.head::r.body.take (k+1))) (j5 m' t)):=by show nZ _ _;rw[htk,←List.append_assoc];exact HO'.out.step t
     have HL5:=hide hL5;clear hc ht hsv hBw hL5 htk hBz;generalize bs t.name=nm5 at*;generalize t.no=no5 at*
     go_wp2_with fail
     refine HC5.out.mono ?_;rintro e w6 ⟨⟨u6,rfl⟩,hM6,hT6⟩;have HM6:Hid (og w6 w.heap.size (6*j+1+(k+1)) (j5 m' t)):=hM6;have HT6:Hid (Tn w.heap.size wb w6):=(HT'.out.trans (Tn.of_below HL5.out.below)).trans hT6;clear hM6 hT6 HC5;go_wp2
     go_roundg (r.body.length- (k+1))
     case measure=>omega
     case rel=>exact⟨k+1,by omega,by go_num,_,HM6,HO5,HT6⟩
    ·have hk':r.body.take k=r.body:=List.take_of_length_le (by omega);rw[hk',←HTK.out] at HO';have HB4:Hid (Below w.heap.size w wr):=HBb.out.trans hBz;have HM4:Hid (og wr w.heap.size (6*(j+1)) m'):=HM'.out.mono (by omega);have hws:w.heap.size<wr.heap.size:=by omega
     clear hk' hBz;go_wp2
     go_roundg (p.length- (j+1))
     case measure=>omega
     case rel=>exact⟨j+1,by omega,by go_num,hws,m',HM4,HO',HB4⟩
  ·have hj':p.take j=p:=List.take_of_length_le (by omega);rw[hj'] at HO;clear hj';go_wp2;go_ret;exact⟨_,m,rfl,HM.out,HO.out,HBr.out⟩
def ku (p:List aA) (l:List au):Nat→Nat→Int×Int
 |0,_=>(0,0)
 |n+1,k=>if zH p (l.getD k aC)=true then ku p l n (k+1) else(8,k)
def fU (p:List aA) (l:List au):Int×Int:=if(bA l).1≠0 then bA l else ku p l l.length 0
theorem qW {p:List aA} {l:List au}:∀(n k:Nat),(ku p l n k).1=0→∀i,k≤i→i<k+n→zH p (l.getD i aC)=true
 |0,k,_,i,h1,h2=>by omega
 |n+1,k,h,i,h1,h2=>by
  unfold ku at h;split at h
  ·rename_i hf
   by_cases e:i=k
   ·subst e;exact hf
   ·exact qW n (k+1) h i (by omega) (by omega)
  ·simp at h
theorem uy {p:List aA} {l:List au} (h:∀f∈l,zH p f=true):∀(n k:Nat),k+n=l.length→ku p l n k=(0,0)
 |0,_,_=>rfl
 |n+1,k,hk=>by
  unfold ku;rw[if_pos (h _ (by rw[List.getD_eq_getElem?_getD,List.getElem?_eq_getElem (by omega)];exact List.getElem_mem _))];exact uy h n (k+1) (by omega)
theorem qC {p:List aA} {l:List au} (h:(fU p l).1=0):GoodS p l:=by
 unfold fU at h;split at h
 ·rename_i h1;exact absurd h h1
 ·rename_i h1;refine yP (by simpa using h1) fun f hf=> ?_;obtain⟨i,hi,rfl⟩:=List.getElem_of_mem hf;have:=qW l.length 0 h i (Nat.zero_le _) (by omega)
  rwa [List.getD_eq_getElem?_getD,List.getElem?_eq_getElem hi] at this
theorem wU {p:List aA} {l:List au} (h:GoodS p l):fU p l=(0,0):=by
 unfold fU;rw[iZ h.up h.right h.few,if_neg (by simp)];exact uy h.fit _ 0 (by omega)
theorem MF {p:List aA} {m:uq} (h:nZ (gu p) m) (f:au):uw m f=zH p f:=by
 unfold uw;obtain⟨h1,h2⟩:=h (raw f.1);rw[Bool.eq_iff_iff,Dc];cases e:m (raw f.1) with
 |none=>
  simp only[true_iff];intro a ha hb;exact absurd (by rw[←hb,iD]) (h1.1 e a ha)
 |some k=>
  simp only[decide_eq_true_eq];rw[h2 k e f.2.length];exact⟨fun h a ha hb=>h a ha (by rw[←hb,iD]),fun h a ha hb=>h a ha (by rw[hb,jW])⟩
theorem uz {p:List aA} (hp:cZ p):(∀r∈p,r.body.length≤5)∧∀a∈gu p,a.name.length≤12:=by
 have hn:∀a:aF,aR a=0→a.name.length≤12:=fun a ha=>by
  have h1:=(sS ha).1;unfold isNamed at h1;simp only[Bool.and_eq_true,decide_eq_true_eq] at h1;exact h1.1.1
 have hb:∀l:List aF,bG l=0→∀a∈l,aR a=0:=fun l=>by
  induction l with
  |nil=>intro _ a ha;cases ha
  |cons x l ih=>
   intro h a ha;unfold bG at h;split at h
   ·rename_i hx;rcases List.mem_cons.1 ha with rfl|ha
    ·exact hx
    ·exact ih h a ha
   ·rename_i hx;exact absurd h hx
 have key:∀r∈p,r.body.length≤5∧∀a∈r.body,aR a=0:=fun r hr=>by
  have:=(hp.rules r hr).body;unfold aO at this;split at this
  ·cases this
  ·rename_i h5;split at this
   ·rename_i h0;exact⟨by omega,hb _ h0⟩
   ·rename_i h0;exact absurd this h0
 refine⟨fun r hr=>(key r hr).1,fun a ha=> ?_⟩;obtain⟨r,hr,ha⟩:=List.mem_flatMap.1 ha;rcases List.mem_cons.1 ha with rfl|ha
 ·exact hn _ (hp.rules r hr).head
 ·exact hn _ ((key r hr).2 a ha)
end Go.Proofs.YtafmbokfkbccaaaGreatDoor
namespace Go.Proofs.YtafmbokfkbccaaaGreatDoor
open Go.RowKit Go.Sort Go.Maps
set_option maxRecDepth 100000 in
set_option maxHeartbeats 4000000 in
theorem uD (p:List aA) (hp:cZ p) (pv fv:Value) (l:List au) (w:World) (hv:dU.sl bZ w pv p) (hf:Facts w fv l):
  Calls Tryz.prog 66 #[pv,fv] w fun e w'=>e=.returned (.agg #[.int .i64 (fU p l).1,.int .i64 (fU p l).2])∧Below w.heap.size w w':=by
 obtain⟨pa,pc,rfl⟩:=Kind.slice hv;obtain⟨a,cap,rfl,hln,hz⟩:=hf.addr;have hL0:Later w (w.alloc (.cells #[.int .i64 0,.int .i64 0] 75)):=(Later.refl w).alloc _;have hR0:(w.alloc (.cells #[.int .i64 0,.int .i64 0] 75)).heap[w.heap.size]?=some (.cells #[.int .i64 0,.int .i64 0] 75 (0,0)):=heap_alloc_new w _;have MG:=hide (Ql (.slice a l.length cap) l (w.alloc (.cells #[.int .i64 0,.int .i64 0] 75)) (hf.later hL0));have HL0:=hide hL0;have HR0:=hide hR0;have HV:=hide hv;have HF:=hide hf;have HRP:=hide hp;clear hv hf hp hL0 hR0;obtain⟨ex,ea,hse⟩:∃ex ea,bA l=(ex,ea):=⟨_,_,rfl⟩;rw[hse] at MG;have HSE:=hide hse;clear hse
 go_enter Tryz.func66,Tryz.ntmps66
 go_wp2_with fail
 refine MG.out.mono ?_;rintro e w1 ⟨rfl,hL1⟩;dsimp only;have hs1:w.heap.size<w1.heap.size:=by have:=hL1.size;simp at this;omega
 have HR1:Hid (w1.heap[w.heap.size]?=some (.cells #[.int .i64 0,.int .i64 0] 75 (0,0))):=by show _=_;rw[hL1.block (by simp)];exact HR0.out
 have HL1:Hid (Later w w1):=HL0.out.trans hL1;clear hL1 MG HL0 HR0
 by_cases h0:ex=0
 ·subst h0;have HX:Hid (fU p l=ku p l l.length 0):=by show _=_;unfold fU;rw[HSE.out,if_neg (by simp)]
  have hsr:=set_right (l:=l) (by rw[HSE.out]);have HSR:=hide hsr.2.2;obtain⟨hn5,TI⟩:=uz HRP.out;obtain⟨w2,hw2⟩:∃w2,w2=w1.alloc (.cells #[.int .i64 0,.int .i64 ea] 75):=⟨_,rfl⟩;have hL2:Later w1 w2:=by rw[hw2];exact(Later.refl _).alloc _
  have hB2:Below w.heap.size w w2:=(HL1.out.trans hL2).below;have HW:=hide (G8 p (.slice pa p.length pc) w2 (Kind.aY HV.out hB2) HRP.out.few hn5 TI);have HB2:=hide hB2;have HR2:Hid (w2.heap[w.heap.size]?=some (.cells #[.int .i64 0,.int .i64 0] 75 (0,0))):=by show _=_;rw[hL2.block hs1];exact HR1.out
  have hs2:w.heap.size<w2.heap.size:=by have:=hL2.size;omega
  have HW2:=hide hw2;clear hsr hn5 TI hL2 hB2 hw2 HSE HR1 HL1 HRP
  go_wp2_with fail
  rw[←HW2.out];refine HW.out.mono ?_;rintro e w3 ⟨n,m,rfl,hM3,hO3,hB3⟩;have HM3:=hide hM3;have VG:Hid (∀f,uw m f=zH p f):=fun f=>MF hO3 f;have HB3:Hid (Below w.heap.size w w3):=aj HB2.out hB3 HB2.out.size;have HR3:Hid (w3.heap[w.heap.size]?=some (.cells #[.int .i64 0,.int .i64 0] 75 (0,0))):=by show _=_;rw[hB3.block _ hs2];exact HR2.out
  have hs3:w.heap.size<w3.heap.size:=by have:=hB3.size;omega
  generalize w2.heap.size=bm at*;clear hM3 hO3 hB3 HB2 HR2 HW HW2 hs2 hs1;go_wp2
  go_loopg [19] l.length (fun g i wr=>∃j k:Nat,k=g∧j+k=l.length∧i=.int .i64 j∧Hid (Later w3 wr)∧Hid (fU p l=ku p l k j))
  case atStart=>exact⟨0,l.length,rfl,by omega,rfl,Later.refl _,HX⟩
  case round=>
   clear HX;obtain⟨j,k,hkg,hj,rfl,HL,HX⟩:=hrel;have hRr:wr.heap[w.heap.size]?=some (.cells #[.int .i64 0,.int .i64 0] 75 (0,0)):=by rw[HL.out.block hs3];exact HR3.out
   have hsr:w.heap.size<wr.heap.size:=by have:=HL.out.size;omega
   by_cases hlt:j<l.length
   ·rcases hz with rfl|⟨b,off,rfl⟩
    ·simp at hlt
    have hltz:(j:Int)<(l.length:Int):=by omega
    have hFr:Facts wr (.slice (some ⟨b,off,none⟩) l.length cap) l:=HF.out.below (aj HB3.out HL.out.below HB3.out.size);obtain⟨hb,ax,lx,cx,g1,g2,fx⟩:=hFr.at hlt;have hfm:l.getD j aC∈l:=by rw[List.getD_eq_getElem?_getD,List.getElem?_eq_getElem hlt];exact List.getElem_mem hlt
    have hfs:=nX (j4.1 (HSR.out _ hfm));obtain⟨wb,hwb⟩:∃wb,wb=wr.alloc (.cells #[.string (l.getD j aC).1,.slice ax lx cx] 27):=⟨_,rfl⟩;have hLb:Later wr wb:=by rw[hwb];exact(Later.refl _).alloc _
    have HC:=hide (ME bm n m (l.getD j aC) (.agg #[.string (l.getD j aC).1,.slice ax lx cx]) wb (HM3.out.later (HL.out.trans hLb)) (fx.later hLb) (by have:=hfs.1;unfold maxLen;omega));rw[VG.out] at HC;obtain⟨g,rfl⟩:∃g,k=g+1:=⟨k-1,by omega⟩;have hX:fU p l=if zH p (l.getD j aC)=true then ku p l g (j+1) else(8,j):=by
     rw[HX.out];rfl
    have HLb:Hid (Later w3 wb):=HL.out.trans hLb;have HRb:Hid (wb.heap[w.heap.size]?=some (.cells #[.int .i64 0,.int .i64 0] 75 (0,0))):=by show _=_;rw[hLb.block hsr];exact hRr
    have hsb:w.heap.size<wb.heap.size:=by have:=hLb.size;omega
    have HWb:=hide hwb;generalize hff:zH p (l.getD j aC)=ft at*;generalize(l.getD j aC).1=nk at*;clear hff hFr fx hfm hfs hLb hwb hRr HX;cases ft with
    |true=>
     have HX':Hid (fU p l=ku p l g (j+1)):=by show _=_;rw[hX];rfl
     clear hX
     go_wp2_with fail
     rw[←HWb.out];refine HC.out.mono ?_;rintro e w5 ⟨rfl,hL5⟩;have HL5:Hid (Later w3 w5):=HLb.out.trans hL5;clear hL5 HC;go_wp2
     go_roundg g
     case measure=>omega
     case rel=>exact⟨j+1,g,rfl,by omega,by go_num,HL5,HX'⟩
    |false=>
     have HX':Hid (fU p l=(8,(j:Int))):=by show _=_;rw[hX];rfl
     clear hX
     go_wp2_with fail
     rw[←HWb.out];refine HC.out.mono ?_;rintro e w5 ⟨rfl,hL5⟩;have HL5:Hid (Later w3 w5):=HLb.out.trans hL5;have hR5:w5.heap[w.heap.size]?=some (.cells #[.int .i64 0,.int .i64 0] 75 (0,0)):=by rw[hL5.block hsb];exact HRb.out
     have q0:w5.cell? ⟨w.heap.size,0,none⟩=some (.int .i64 0):=by rw[cell_of_row _ _ _ _ _ _ hR5];rfl
     have q1:w5.cell? ⟨w.heap.size,1,none⟩=some (.int .i64 0):=by rw[cell_of_row _ _ _ _ _ _ hR5];rfl
     have p0:w5.frozen? ⟨w.heap.size,0,none⟩=false:=bP 0 hR5;have p1:w5.frozen? ⟨w.heap.size,1,none⟩=false:=bP 1 hR5;have HR5:=hide hR5;clear hL5 HC hR5;go_wp2;obtain⟨r0,r1⟩:=jv HR5.out (.int .i64 8) (.int .i64 j);refine bodyPost_ret (v:=.agg #[.int .i64 8,.int .i64 j]) (by simp[results,Tryz.results66,go_sem,r0,r1]) rfl ⟨by rw[HX'.out],?_⟩;exact((aj HB3.out HL5.out.below HB3.out.size).setCell (Nat.le_refl _) _).setCell (Nat.le_refl _) _
   ·have hk0:k=0:=by omega
    have HX':Hid (fU p l=(0,0)):=by show _=_;rw[HX.out,hk0];rfl
    have q0:wr.cell? ⟨w.heap.size,0,none⟩=some (.int .i64 0):=by rw[cell_of_row _ _ _ _ _ _ hRr];rfl
    have q1:wr.cell? ⟨w.heap.size,1,none⟩=some (.int .i64 0):=by rw[cell_of_row _ _ _ _ _ _ hRr];rfl
    have p0:wr.frozen? ⟨w.heap.size,0,none⟩=false:=bP 0 hRr;have p1:wr.frozen? ⟨w.heap.size,1,none⟩=false:=bP 1 hRr;have HRr:=hide hRr;clear hRr HX;go_wp2;obtain⟨r0,r1⟩:=jv HRr.out (.int .i64 0) (.int .i64 0);refine bodyPost_ret (v:=.agg #[.int .i64 0,.int .i64 0]) (by simp[results,Tryz.results66,go_sem,r0,r1]) rfl ⟨by rw[HX'.out],?_⟩;exact((aj HB3.out HL.out.below HB3.out.size).setCell (Nat.le_refl _) _).setCell (Nat.le_refl _) _
 ·have HX:Hid (fU p l=(ex,ea)):=by show _=_;unfold fU;rw[HSE.out,if_pos h0]
  have hq:(ex != 0)=true:=by simpa using h0
  have hR2:=HR1.out;have q0:w1.cell? ⟨w.heap.size,0,none⟩=some (.int .i64 0):=by rw[cell_of_row _ _ _ _ _ _ hR2];rfl
  have q1:w1.cell? ⟨w.heap.size,1,none⟩=some (.int .i64 0):=by rw[cell_of_row _ _ _ _ _ _ hR2];rfl
  have p0:w1.frozen? ⟨w.heap.size,0,none⟩=false:=bP 0 hR2;have p1:w1.frozen? ⟨w.heap.size,1,none⟩=false:=bP 1 hR2;clear hR2 HSE h0 HV HF;go_wp2;obtain⟨r0,r1⟩:=jv HR1.out (.int .i64 ex) (.int .i64 ea);have hBX:Below w.heap.size w ((w1.setCell ⟨w.heap.size,0,none⟩ (.int .i64 ex)).setCell ⟨w.heap.size,1,none⟩ (.int .i64 ea)):=(HL1.out.below.setCell (Nat.le_refl _) _).setCell (Nat.le_refl _) _;have hzX:w.heap.size<((w1.setCell ⟨w.heap.size,0,none⟩ (.int .i64 ex)).setCell ⟨w.heap.size,1,none⟩ (.int .i64 ea)).heap.size:=by rw[size_setCell,size_setCell];exact hs1
  generalize(w1.setCell ⟨w.heap.size,0,none⟩ (.int .i64 ex)).setCell ⟨w.heap.size,1,none⟩ (.int .i64 ea)=wx at*;have s0:(wx.alloc (.cells #[.int .i64 ex,.int .i64 ea] 75)).cell? ⟨w.heap.size,0,none⟩=some (.int .i64 ex):=by rw[((Later.refl wx).alloc _).cell (p:=⟨w.heap.size,0,none⟩) hzX];exact r0
  have s1:(wx.alloc (.cells #[.int .i64 ex,.int .i64 ea] 75)).cell? ⟨w.heap.size,1,none⟩=some (.int .i64 ea):=by rw[((Later.refl wx).alloc _).cell (p:=⟨w.heap.size,1,none⟩) hzX];exact r1
  refine bodyPost_ret (v:=.agg #[.int .i64 ex,.int .i64 ea]) (by simp[results,Tryz.results66,go_sem,s0,s1]) rfl ⟨by rw[HX.out],?_⟩;exact hBX.alloc hBX.size _
theorem foldl_max (ss:List Nat):∀s:Nat,(ss.map fun x:Nat=>(x:Int)).foldl max (s:Int)+1=(max (s+1) (countP ss):Nat):=by
 induction ss with
 |nil=>intro s;simp[countP]
 |cons t ss ih=>
  intro s;rw[List.map_cons,List.foldl_cons,show(max (s:Int) (t:Int))=((max s t:Nat):Int) by omega,ih];simp only[countP];omega
theorem countP_le {c:Nat}:∀{ss:List Nat},(∀s∈ss,s<c)→countP ss≤c
 |[],_=>Nat.zero_le _
 |s::ss,h=>by
  have h1:=h s (by simp);have h2:=countP_le (ss:=ss) fun t ht=>h t (by simp[ht]);simp only[countP];omega
set_option maxHeartbeats 1000000 in
theorem Dw (ss:List Nat) (v:Value) (w:World) (hv:oG.sl bZ w v ss) (hs:∀s∈ss,s<1000):
  Calls Tryz.prog 68 #[v] w fun e w'=>e=.returned (.int .i64 (countP ss:Nat))∧Later w w':=by
 obtain⟨a,cap,rfl⟩:=Kind.slice hv;have hl:=hv.1.1;cases ss with
 |nil=>
  clear hv hs
  go_enter Tryz.func68,Tryz.ntmps68
  go_wp2;go_ret;exact⟨rfl,Later.refl _⟩
 |cons s ss=>
  obtain⟨b,off,_,rfl,hb,_,_⟩:=Kind.fC hv (i:=0) (x:=s) rfl;have hM:=Tryz.slices_Max_int b off (s::ss).length cap ((s::ss).map fun x:Nat=>(x:Int)) w (by simp) (by simp) (by omega) (fun j hj=>by
   rw[List.length_map] at hj;obtain⟨x,hx⟩:∃x,(s::ss)[j]?=some x:=⟨_,List.getElem?_eq_getElem hj⟩;obtain⟨b1,o1,_,e1,_,rfl,hc⟩:=Kind.fC hv hx;simp only[Option.some.injEq,Addr.mk.injEq,and_true] at e1;obtain⟨rfl,rfl⟩:=e1;rw[List.getD_eq_getElem?_getD,List.getElem?_map,hx];simpa[oG] using hc 0 _ rfl)
  have e:Lib.maxOf (((s::ss).map fun x:Nat=>(x:Int)).take (s::ss).length)+1=(countP (s::ss):Nat):=by
   rw[List.take_of_length_le (by simp)];unfold Lib.maxOf;rw[List.map_cons,List.headD_cons,List.foldl_cons,show max (s:Int) (s:Int)=(s:Int) by omega,foldl_max]
   rfl
  have hcp:countP (s::ss)≤1000:=countP_le hs;generalize Lib.maxOf (((s::ss).map fun x:Nat=>(x:Int)).take (s::ss).length)=mx at*;generalize countP (s::ss)=cp at*;have hmx:mx=(cp:Int)-1:=by omega
  subst hmx;have HM:=hide hM;have hne:¬((((s::ss).length:Nat):Int)=0):=by simp;omega
  clear hv hs hM e
  go_enter Tryz.func68,Tryz.ntmps68
  go_wp2_with fail
  refine HM.out.mono ?_;rintro e w1 ⟨rfl,rfl⟩;go_wp2;go_ret;refine⟨?_,Later.refl _⟩
  congr 2
end Go.Proofs.YtafmbokfkbccaaaGreatDoor
namespace Go.Proofs.YtafmbokfkbccaaaGreatDoor
open Go.RowKit Go.Sort Go.Maps
def Qn (w:World) (v:Value) (r:fG):Prop:=∃kv nv,v=.agg #[kv,nv,.int .i64 r.level,.int .i64 r.rounds,.bool r.done]∧Facts w kv r.known∧Facts w nv r.fresh
def oh (b:Nat) (w:World) (v:Value) (r:fG):Prop:=∃kv nv,v=.agg #[kv,nv,.int .i64 r.level,.int .i64 r.rounds,.bool r.done]∧bY w b kv r.known∧bY w b nv r.fresh
theorem oh.none (b:Nat) (w:World):oh b w (.agg #[.slice none 0 0,.slice none 0 0,.int .i64 0,.int .i64 0,.bool false]) dZ:=⟨_,_,rfl,bY.nil _ _,bY.nil _ _⟩
theorem Qn.below {w w':World} {v:Value} {r:fG} (h:Qn w v r) (k:Below w.heap.size w w'):Qn w' v r:=by
 obtain⟨kv,nv,h1,h2,h3⟩:=h;exact⟨kv,nv,h1,h2.below k,h3.below k⟩
theorem oh.stay {b:Nat} {w w':World} {v:Value} {r:fG} (h:oh b w v r) (hs:w.heap.size≤w'.heap.size) (hk:∀k,k<w.heap.size→b≤k→w'.heap[k]?=w.heap[k]?):oh b w' v r:=by
 obtain⟨kv,nv,h1,h2,h3⟩:=h;exact⟨kv,nv,h1,h2.stay hs hk,h3.stay hs hk⟩
theorem oh.base {b b':Nat} {w:World} {v:Value} {r:fG} (h:oh b w v r) (hb:b'≤b):oh b' w v r:=by
 obtain⟨kv,nv,h1,h2,h3⟩:=h;exact⟨kv,nv,h1,h2.base hb,h3.base hb⟩
theorem dR {w:World} {R:Nat} {u0 u1 u2 u3 u4:Value} {t:TypeId} (h:w.heap[R]?=some (.cells #[u0,u1,u2,u3,u4] t (0,0))):w.cell? ⟨R,0,none⟩=some u0∧w.cell? ⟨R,1,none⟩=some u1∧w.cell? ⟨R,2,none⟩=some u2∧w.cell? ⟨R,3,none⟩=some u3∧w.cell? ⟨R,4,none⟩=some u4∧
  (w.frozen? ⟨R,0,none⟩=false∧w.frozen? ⟨R,1,none⟩=false∧w.frozen? ⟨R,2,none⟩=false∧w.frozen? ⟨R,3,none⟩=false∧w.frozen? ⟨R,4,none⟩=false)∧R<w.heap.size:=
 ⟨by rw[cell_of_row _ _ _ _ _ _ h];rfl,by rw[cell_of_row _ _ _ _ _ _ h];rfl,by rw[cell_of_row _ _ _ _ _ _ h];rfl,by rw[cell_of_row _ _ _ _ _ _ h];rfl,by rw[cell_of_row _ _ _ _ _ _ h];rfl,
  ⟨by simp[World.frozen?,h],by simp[World.frozen?,h],by simp[World.frozen?,h],by simp[World.frozen?,h],by simp[World.frozen?,h]⟩,(Array.getElem?_eq_some_iff.1 h).1⟩
def gD (w:World) (R:Nat) (x0 x1 x2 x3 x4:Value):World:=((((w.setCell ⟨R,0,none⟩ x0).setCell ⟨R,1,none⟩ x1).setCell ⟨R,2,none⟩ x2).setCell ⟨R,3,none⟩ x3).setCell ⟨R,4,none⟩ x4
theorem pK {w:World} {R:Nat} {u0 u1 u2 u3 u4:Value} {t:TypeId} (h:w.heap[R]?=some (.cells #[u0,u1,u2,u3,u4] t (0,0))) (x0 x1 x2 x3 x4:Value):
  (gD w R x0 x1 x2 x3 x4).heap[R]?=some (.cells #[x0,x1,x2,x3,x4] t (0,0)):=by
 unfold gD;rw[eu (j:=4) (eu (j:=3) (eu (j:=2) (eu (j:=1) (eu (j:=0) h x0) x1) x2) x3) x4]
 rfl
theorem lG (w:World) (R:Nat) (x0 x1 x2 x3 x4:Value):Tn R w (gD w R x0 x1 x2 x3 x4):=
 (((((Tn.refl R w).setCell (Or.inl rfl) _).setCell (Or.inl rfl) _).setCell (Or.inl rfl) _).setCell (Or.inl rfl) _).setCell (Or.inl rfl) _
theorem yR {w:World} {R:Nat} {u0 u1 u2 u3 u4:Value} {t:TypeId} (h:w.heap[R]?=some (.cells #[u0,u1,u2,u3,u4] t (0,0))) (x0 x1 x2 x3 x4:Value):
  (((((w.setCell ⟨R,0,none⟩ x0).setCell ⟨R,1,none⟩ x1).setCell ⟨R,2,none⟩ x2).setCell ⟨R,3,none⟩ x3).setCell ⟨R,4,none⟩ x4).cell? ⟨R,0,none⟩=some x0∧
  (((((w.setCell ⟨R,0,none⟩ x0).setCell ⟨R,1,none⟩ x1).setCell ⟨R,2,none⟩ x2).setCell ⟨R,3,none⟩ x3).setCell ⟨R,4,none⟩ x4).cell? ⟨R,1,none⟩=some x1∧
  (((((w.setCell ⟨R,0,none⟩ x0).setCell ⟨R,1,none⟩ x1).setCell ⟨R,2,none⟩ x2).setCell ⟨R,3,none⟩ x3).setCell ⟨R,4,none⟩ x4).cell? ⟨R,2,none⟩=some x2∧
  (((((w.setCell ⟨R,0,none⟩ x0).setCell ⟨R,1,none⟩ x1).setCell ⟨R,2,none⟩ x2).setCell ⟨R,3,none⟩ x3).setCell ⟨R,4,none⟩ x4).cell? ⟨R,3,none⟩=some x3∧
  (((((w.setCell ⟨R,0,none⟩ x0).setCell ⟨R,1,none⟩ x1).setCell ⟨R,2,none⟩ x2).setCell ⟨R,3,none⟩ x3).setCell ⟨R,4,none⟩ x4).cell? ⟨R,4,none⟩=some x4:=by
 have:=dR (pK h x0 x1 x2 x3 x4);unfold gD at this;exact⟨this.1,this.2.1,this.2.2.1,this.2.2.2.1,this.2.2.2.2.1⟩
theorem bY.put {base R j:Nat} {w:World} {v x:Value} {l:List aI} (h:bY w base v l) (hR:R<base):bY (w.setCell ⟨R,j,none⟩ x) base v l:=
 h.stay (by rw[size_setCell];exact Nat.le_refl _) fun k _ hk=>heap_setCell_other _ _ _ (by show k≠R;omega)
theorem bY.gD {base R:Nat} {w:World} {v x0 x1 x2 x3 x4:Value} {l:List aI} (h:bY w base v l) (hR:R<base):bY (gD w R x0 x1 x2 x3 x4) base v l:=
 ((((h.put hR).put hR).put hR).put hR).put hR
theorem Below.put {n R j:Nat} {a b:World} {x:Value} (h:Below n a b) (hR:n≤R):Below n a (b.setCell ⟨R,j,none⟩ x):=h.setCell hR x
theorem Below.gD {n R:Nat} {a b:World} {x0 x1 x2 x3 x4:Value} (h:Below n a b) (hR:n≤R):Below n a (gD b R x0 x1 x2 x3 x4):=
 ((((Below.put h hR).setCell hR _).setCell hR _).setCell hR _).setCell hR _
theorem G9 {K D acc:List au} (hK:Up K) (h:rG K D acc):(200<(dK (K++D)).length→200<(dK (K++acc)).length)∧(¬200<(dK (K++D)).length→dK (K++D)=dK (K++acc)∧D=qd K acc):=by
 constructor
 ·intro h1;have:=sO (iI (K++D)) (t:=dK (K++acc)) fun f hf=>cu.2 (by
   rcases List.mem_append.1 (cu.1 hf) with h2|h2
   ·exact List.mem_append.2 (Or.inl h2)
   ·exact List.mem_append.2 (Or.inr (h.of f h2).1))
  omega
 ·intro h1;have hnd:(K++D).Nodup:=List.nodup_append.2 ⟨mU hK,mU h.up,fun a ha b hb e=>(h.of b hb).2 (e▸ha)⟩;have h2:=p9 hnd (t:=dK (K++D)) fun f hf=>cu.2 hf;rw[List.length_append] at h2;have hall:=h.all (by omega);refine⟨vS fun f=> ?_,?_⟩
  ·rw[List.mem_append,List.mem_append]
   constructor
   ·rintro(h3|h3)
    ·exact Or.inl h3
    ·exact Or.inr (h.of f h3).1
   ·rintro(h3|h3)
    ·exact Or.inl h3
    ·by_cases h4:f∈K
     ·exact Or.inl h4
     ·exact Or.inr (hall f h3 h4)
  ·exact vR h.up (iI _) fun f=>by
    show f∈D↔f∈qd K acc;rw[mo];exact⟨fun h3=>h.of f h3,fun h3=>hall f h3.1 h3.2⟩
def vE (b:Nat) (w:World) (v:Value) (er:Int) (x:Int×fG):Prop:=er=x.1∧oh b w v x.2
set_option maxRecDepth 100000 in
set_option maxHeartbeats 4000000 in
theorem Rs (p:List aA) (hp:cZ p) (σ:aA→Nat) (r:fG) (hr:jQ p (countP (p.map σ)) r) (hd:r.done=false) (hσ:∀s∈p.map σ,s<1000) (pv sv kv nv:Value) (w:World) (hpv:dU.sl bZ w pv p) (hsv:oG.sl bZ w sv (p.map σ)) (hk:Facts w kv r.known) (hn:Facts w nv r.fresh):
  Calls Tryz.prog 85 #[pv,sv,.agg #[kv,nv,.int .i64 r.level,.int .i64 r.rounds,.bool r.done]] w fun e w'=>∃v' er,e=.returned (.tuple #[v',.int .i64 er])∧vE (w.heap.size+2) w' v' er (iQ p (p.map σ) r)∧Below w.heap.size w w':=by
 have QT:=hr.lev;have hrnd:=hr.rnd;have hcs:countP (p.map σ)≤1000:=countP_le hσ;have HG:=hide hr.good;have HUp:=hide hr.up;have HSub:=hide hr.sub;obtain⟨K,N,lev,rn,dn⟩:=r;dsimp only at*;subst hd;have Rm:=HG.out.few;clear hr;obtain⟨pa,pc,rfl⟩:=Kind.slice hpv;obtain⟨sa,sc,hsa⟩:=Kind.slice hsv;subst hsa;obtain⟨ka,kc,rfl⟩:=aB hk;obtain⟨na,nc,rfl⟩:=aB hn;obtain⟨w2,hw2⟩:∃w2,w2=(w.alloc (.cells #[.slice ka K.length kc,.slice na N.length nc,.int .i64 lev,.int .i64 rn,.bool false] 47)).alloc (.cells #[.slice none 0 0,.slice none 0 0,.int .i64 0,.int .i64 0,.bool false] 47):=⟨_,rfl⟩;have hL2:Later w w2:=by rw[hw2];exact((Later.refl w).alloc _).alloc _
 have hz2:w2.heap.size=w.heap.size+2:=by rw[hw2];simp
 have HRb:Hid (w2.heap[w.heap.size]?=some (.cells #[.slice ka K.length kc,.slice na N.length nc,.int .i64 lev,.int .i64 rn,.bool false] 47 (0,0))):=by
  show _=_;rw[hw2,Below.heap_alloc _ _ _ (by simp)];exact heap_alloc_new w _
 have HRs:Hid (w2.heap[w.heap.size+1]?=some (.cells #[.slice none 0 0,.slice none 0 0,.int .i64 0,.int .i64 0,.bool false] 47 (0,0))):=by
  show _=_;have:=heap_alloc_new (w.alloc (.cells #[.slice ka K.length kc,.slice na N.length nc,.int .i64 lev,.int .i64 rn,.bool false] 47)) (.cells #[.slice none 0 0,.slice none 0 0,.int .i64 0,.int .i64 0,.bool false] 47);rw[hw2];simpa using this
 have HMk:=hide (OU p hp σ ⟨K,N,lev,rn,false⟩ HG.out HUp.out HSub.out (.slice pa p.length pc) (.slice sa (p.map σ).length sc) (.slice ka K.length kc) (.slice na N.length nc) w2 (Kind.aQ hpv hL2) (Kind.aQ hsv hL2) (hk.later hL2) (hn.later hL2));have HK2:=hide (hk.later hL2);have HSV:=hide hsv;have HL2:=hide hL2;have Qo:=hide hσ;have HGN:=hide HG.out.up;generalize hss:p.map σ=ss at*;clear hpv hsv hk hn hp hσ hss HUp HSub hL2
 by_cases MH:rn=1000
 ·subst MH;have HT:Hid (∀w' v',oh (w.heap.size+2) w' v' dZ→vE (w.heap.size+2) w' v' 5 (iQ p ss ⟨K,N,lev,1000,false⟩)):=fun w' v' h=>by unfold iQ;rw[if_pos rfl];exact⟨rfl,h⟩
  obtain⟨q0,q1,q2,q3,q4,_,_⟩:=dR HRs.out;rw[hw2] at q0 q1 q2 q3 q4;have HB2:Hid (Below w.heap.size w w2):=HL2.out.below;rw[hw2] at HB2;clear hw2 HRb HRs HMk HK2 HSV HL2 hz2
  go_enter Tryz.func85,Tryz.ntmps85
  go_wp2;exact bodyPost_ret (v:=.tuple #[.agg #[.slice none 0 0,.slice none 0 0,.int .i64 0,.int .i64 0,.bool false],.int .i64 5]) (by simp[results,Tryz.results85,go_sem,q0,q1,q2,q3,q4]) rfl ⟨_,5,rfl,HT.out _ _ (oh.none _ _),HB2.out⟩
 ·have hne:¬(rn=1000):=MH;have HW2:=hide hw2;clear hw2
  go_enter Tryz.func85,Tryz.ntmps85
  go_wp2_with fail
  rw[←HW2.out];refine HMk.out.mono ?_;rintro e w3 ⟨v3,er,rfl,hT3,hB3⟩;have HB3:Hid (Below w.heap.size w w3):=aj HL2.out.below hB3 (by omega);have MI:Hid (w3.heap[w.heap.size]?=some (.cells #[.slice ka K.length kc,.slice na N.length nc,.int .i64 lev,.int .i64 rn,.bool false] 47 (0,0))):=by show _=_;rw[hB3.block _ (by omega)];exact HRb.out
  have Jk:Hid (w3.heap[w.heap.size+1]?=some (.cells #[.slice none 0 0,.slice none 0 0,.int .i64 0,.int .i64 0,.bool false] 47 (0,0))):=by show _=_;rw[hB3.block _ (by omega)];exact HRs.out
  have HK3:=hide (HK2.out.below hB3);have hz3:w.heap.size+2≤w3.heap.size:=by have:=hB3.size;omega
  rw[hz2] at hT3;clear hB3 HMk HRb HRs HK2 HW2 HL2 hz2 w2;unfold uo at hT3;dsimp only at hT3;have hnx:iQ p ss ⟨K,N,lev,rn,false⟩=match dV K N lev p ss [] with
   |none=>(4,dZ)
   |some acc=>if 200<(dK (K++acc)).length then(5,dZ) else
    if qd K acc=[] then(0,⟨dK (K++acc),dK (K++acc),lev+1,rn+1,decide (lev+1=countP ss)⟩)
    else(0,⟨dK (K++acc),qd K acc,lev,rn+1,false⟩):=by unfold iQ;rw[if_neg hne];dsimp only;cases dV K N lev p ss [] <;> rfl
  have HNx:=hide hnx;clear hnx hne MH;cases hmk:dV K N lev p ss [] with
  |none=>
   rw[hmk] at hT3;obtain⟨rfl,rfl⟩:=hT3;have HT:Hid (∀w' v',oh (w.heap.size+2) w' v' dZ→vE (w.heap.size+2) w' v' 4 (iQ p ss ⟨K,N,lev,rn,false⟩)):=fun w' v' h=>by rw[HNx.out,hmk];exact⟨rfl,h⟩
   obtain⟨q0,q1,q2,q3,q4,⟨f0,f1,f2,f3,f4⟩,qz⟩:=dR Jk.out;clear hmk HNx HK3 HSV HG HGN Qo;go_wp2;obtain⟨r0,r1,r2,r3,r4⟩:=yR Jk.out (.slice none 0 0) (.slice none 0 0) (.int .i64 0) (.int .i64 0) (.bool false);exact bodyPost_ret (v:=.tuple #[.agg #[.slice none 0 0,.slice none 0 0,.int .i64 0,.int .i64 0,.bool false],.int .i64 4]) (by simp[results,Tryz.results85,go_sem,r0,r1,r2,r3,r4]) rfl ⟨_,4,rfl,HT.out _ _ (oh.none _ _),Below.gD HB3.out (Nat.le_succ _)⟩
  |some acc=>
   rw[hmk] at hT3;obtain⟨rfl,D,hO3,hM3⟩:=hT3;obtain⟨da,dc,rfl⟩:=hO3.slice;have hend:=G9 HGN.out hM3;have hDf:=hM3.few;have HJ:=hide (Mt (.slice ka K.length kc) (.slice da D.length dc) K D w3 HK3.out (hO3.facts (by omega)) (by omega));obtain⟨b0,b1,b2,b3,b4,_,_⟩:=dR MI.out;have HO3:=hide hO3;have OV:=hide hend;rw[hmk] at HNx;have NI:=hide HNx.out;clear hmk hO3 hM3 hend HNx HK3
   go_wp2_with fail
   refine HJ.out.mono ?_;rintro e w4 ⟨v4,s,rfl,hS,hO4,hL4⟩;obtain rfl:s=dK (K++D):=p8 hS.1 hS.2.1;have Xc:(dK (K++D)).length≤100000:=by have:=rY (K++D);rw[List.length_append] at this;omega
   obtain⟨a4,c4,rfl⟩:=hO4.slice;have HB4:Hid (Below w.heap.size w w4):=aj HB3.out hL4.below HB3.out.size;have Rt:Hid (w4.heap[w.heap.size]?=some (.cells #[.slice ka K.length kc,.slice na N.length nc,.int .i64 lev,.int .i64 rn,.bool false] 47 (0,0))):=by show _=_;rw[hL4.block (by omega)];exact MI.out
   have OW:Hid (w4.heap[w.heap.size+1]?=some (.cells #[.slice none 0 0,.slice none 0 0,.int .i64 0,.int .i64 0,.bool false] 47 (0,0))):=by show _=_;rw[hL4.block (by omega)];exact Jk.out
   have Ru:Hid (bY w4 (w.heap.size+2) (.slice da D.length dc) D):=(HO3.out.later hL4).base (by omega);have HO4:Hid (bY w4 (w.heap.size+2) (.slice a4 (dK (K++D)).length c4) (dK (K++D))):=hO4.base (by omega);have hz4:w.heap.size+2≤w4.heap.size:=by have:=hL4.size;omega
   clear b0 b1 b2 b3 b4 hS hO4 hL4 HO3 HB3 MI Jk HJ hz3;obtain⟨b0,b1,b2,b3,b4,⟨g0,g1,g2,g3,g4⟩,bz⟩:=dR Rt.out;obtain⟨q0,q1,q2,q3,q4,⟨f0,f1,f2,f3,f4⟩,qz⟩:=dR OW.out
   by_cases hbig:200<(dK (K++D)).length
   ·have HT:Hid (∀w' v',oh (w.heap.size+2) w' v' dZ→vE (w.heap.size+2) w' v' 5 (iQ p ss ⟨K,N,lev,rn,false⟩)):=fun w' v' h=>by rw[NI.out,if_pos (OV.out.1 hbig)];exact⟨rfl,h⟩
    have hbz:(200:Int)<((dK (K++D)).length:Int):=by omega
    have HR5:Hid ((w4.setCell ⟨w.heap.size,0,none⟩ (.slice a4 (dK (K++D)).length c4)).heap[w.heap.size+1]?=some (.cells #[.slice none 0 0,.slice none 0 0,.int .i64 0,.int .i64 0,.bool false] 47 (0,0))):=by show _=_;rw[heap_setCell_other _ _ _ (by show w.heap.size+1≠w.heap.size;omega)];exact OW.out
    clear OV NI HSV Ru HO4 HG HGN Qo;go_wp2;obtain⟨r0,r1,r2,r3,r4⟩:=yR HR5.out (.slice none 0 0) (.slice none 0 0) (.int .i64 0) (.int .i64 0) (.bool false);exact bodyPost_ret (v:=.tuple #[.agg #[.slice none 0 0,.slice none 0 0,.int .i64 0,.int .i64 0,.bool false],.int .i64 5]) (by simp[results,Tryz.results85,go_sem,r0,r1,r2,r3,r4]) rfl ⟨_,5,rfl,HT.out _ _ (oh.none _ _),Below.gD (Below.put HB4.out (Nat.le_refl _)) (Nat.le_succ _)⟩
   ·obtain⟨eK,eD⟩:=OV.out.2 hbig;have hbz:¬(200:Int)<((dK (K++D)).length:Int):=by omega
    by_cases hD0:D=[]
    ·have hd0:((D.length:Int)=0):=by rw[hD0];rfl
     have HT:Hid (∀w' v',oh (w.heap.size+2) w' v' ⟨dK (K++D),dK (K++D),lev+1,rn+1,lev+1==((countP ss:Nat):Int)⟩→vE (w.heap.size+2) w' v' 0 (iQ p ss ⟨K,N,lev,rn,false⟩)):=fun w' v' h=>by
      rw[NI.out,if_neg (by rw[←eK];exact hbig),if_pos (by rw[←eD];exact hD0),←eK];exact⟨rfl,h⟩
     clear hD0;generalize dK (K++D)=Z at*;obtain⟨w7,hw7⟩:∃w7,w7=((w4.setCell ⟨w.heap.size,0,none⟩ (.slice a4 Z.length c4)).setCell ⟨w.heap.size,1,none⟩ (.slice da D.length dc)).setCell ⟨w.heap.size,2,none⟩ (.int .i64 (lev+1)):=⟨_,rfl⟩;have hO7:bY w7 (w.heap.size+2) (.slice a4 Z.length c4) Z:=by rw[hw7];exact((HO4.out.put (by omega)).put (by omega)).put (by omega)
     have HB7:Hid (Below w.heap.size w w7):=by show Below _ _ _;rw[hw7];exact Below.put (Below.put (Below.put HB4.out (Nat.le_refl _)) (Nat.le_refl _)) (Nat.le_refl _)
     have hz7:w7.heap.size=w4.heap.size:=by rw[hw7,size_setCell,size_setCell,size_setCell]
     have hr7:w7.heap[w.heap.size]?=some (.cells #[.slice a4 Z.length c4,.slice da D.length dc,.int .i64 (lev+1),.int .i64 rn,.bool false] 47 (0,0)):=by
      rw[hw7,eu (j:=2) (eu (j:=1) (eu (j:=0) Rt.out _) _) _];rfl
     have hs7:w7.heap[w.heap.size+1]?=some (.cells #[.slice none 0 0,.slice none 0 0,.int .i64 0,.int .i64 0,.bool false] 47 (0,0)):=by
      rw[hw7,heap_setCell_other _ _ _ (by show w.heap.size+1≠w.heap.size;omega),heap_setCell_other _ _ _ (by show w.heap.size+1≠w.heap.size;omega),heap_setCell_other _ _ _ (by show w.heap.size+1≠w.heap.size;omega)];exact OW.out
     have HOw:=hide (ND (.slice a4 Z.length c4) Z w7 (hO7.facts (by omega)));have HO7:=hide hO7;have HR7:=hide hr7;have HS7:=hide hs7;have HW7:=hide hw7;clear OV NI HG HGN eK eD hO7 hr7 hs7 hw7 Ru HO4
     go_wp2_with fail
     rw[←HW7.out];refine HOw.out.mono ?_;rintro e w8 ⟨v8,rfl,hO8,hL8⟩;obtain⟨a8,c8,rfl⟩:=hO8.slice;clear b0 b1 b2 b3 b4 q0 q1 q2 q3 q4 g0 g1 g2 g3 g4 f0 f1 f2 f3 f4;have hr8:w8.heap[w.heap.size]?=some (.cells #[.slice a4 Z.length c4,.slice da D.length dc,.int .i64 (lev+1),.int .i64 rn,.bool false] 47 (0,0)):=by rw[hL8.block (by omega)];exact HR7.out
     have hs8:w8.heap[w.heap.size+1]?=some (.cells #[.slice none 0 0,.slice none 0 0,.int .i64 0,.int .i64 0,.bool false] 47 (0,0)):=by rw[hL8.block (by omega)];exact HS7.out
     have hz8:=hL8.size;obtain⟨w9,hw9⟩:∃w9,w9=w8.setCell ⟨w.heap.size,1,none⟩ (.slice a8 Z.length c8):=⟨_,rfl⟩;have hr9:w9.heap[w.heap.size]?=some (.cells #[.slice a4 Z.length c4,.slice a8 Z.length c8,.int .i64 (lev+1),.int .i64 rn,.bool false] 47 (0,0)):=by rw[hw9,eu (j:=1) hr8 _];rfl
     have hs9:w9.heap[w.heap.size+1]?=some (.cells #[.slice none 0 0,.slice none 0 0,.int .i64 0,.int .i64 0,.bool false] 47 (0,0)):=by rw[hw9,heap_setCell_other _ _ _ (by show w.heap.size+1≠w.heap.size;omega)];exact hs8
     have HB9:Hid (Below w.heap.size w w9):=by show Below _ _ _;rw[hw9];exact Below.put (aj HB7.out hL8.below HB7.out.size) (Nat.le_refl _)
     have TJ:Hid (bY w9 (w.heap.size+2) (.slice a4 Z.length c4) Z):=by show bY _ _ _ _;rw[hw9];exact(HO7.out.later hL8).put (by omega)
     have TK:Hid (bY w9 (w.heap.size+2) (.slice a8 Z.length c8) Z):=by show bY _ _ _ _;rw[hw9];exact(hO8.base (by omega)).put (by omega)
     have hz9:w9.heap.size=w8.heap.size:=by rw[hw9,size_setCell]
     have HR9:=hide hr9;have HS9:=hide hs9;have HW9:=hide hw9;obtain⟨b0,b1,b2,b3,b4,⟨g0,g1,g2,g3,g4⟩,_⟩:=dR hr8;have HCn:=hide (Dw ss (.slice sa ss.length sc) w9.drew (Kind.aY HSV.out HB9.out.drew) Qo.out);have c29:=(dR hr9).2.2.1;clear hO8 hL8 hr8 hs8 hr9 hs9 hw9 HOw HO7 HR7 HS7 HW7 Rt OW;go_wp2;rw[←HW9.out];clear b0 b1 b2 b3 b4 g0 g1 g2 g3 g4;refine wp_region_held_drew (S:=fun w'=>w'.cell? ⟨w.heap.size,2,none⟩=some (.int .i64 (lev+1))∧Tn w.heap.size w9 w') (by kernel_rfl) ⟨c29,(Tn.refl _ _).drew⟩ (fun hHeld=> ?_);refine ak (i:=0) (d:=some 48) (v:= ?_) rfl rfl hHeld ?_ ?_;rotate_left;focus intro w hSw;(try dsimp only at hSw);go_simp;try with_reducible rfl
     simp only[aK,aL,aze,asu];refine ak (i:=1) (d:=some 49) (v:= ?_) rfl rfl hHeld ?_ ?_;rotate_left;focus intro w hSw;(try dsimp only at hSw);have qq:=hSw.1;go_simp;try with_reducible rfl
     simp only[aK,aL,aze,asu];refine ak (i:=2) (d:=some 50) (v:= ?_) rfl rfl hHeld ?_ ?_;rotate_left;focus intro w hSw;(try dsimp only at hSw);go_simp;try with_reducible rfl
     simp only[aK,aL,aze,asu];refine wpAnyH_ready (rs:=[3]) (by kernel_rfl) (by simp) ?_;refine AllReadyH.cons rfl (fun K hK=> ?_) AllReadyH.nil;go_simp;refine HCn.out.mono ?_;rintro e w10 ⟨rfl,wV⟩;have vF:Below w9.heap.size w9 w10:=aj (Below.refl _ _).drew wV.below (Nat.le_refl _);have TL:w10.heap[w.heap.size]?=some (.cells #[.slice a4 Z.length c4,.slice a8 Z.length c8,.int .i64 (lev+1),.int .i64 rn,.bool false] 47 (0,0)):=by rw[vF.block _ (by omega)];exact HR9.out
     obtain⟨b0,b1,b2,b3,b4,⟨g0,g1,g2,g3,g4⟩,_⟩:=dR TL;refine hK.out _ _ ⟨b2,Tn.of_below vF⟩ (fun hHeld=> ?_);clear hK K;refine ak (i:=4) (d:=some 52) (v:= ?_) rfl rfl hHeld ?_ ?_;rotate_left;focus intro w hSw;(try dsimp only at hSw);go_simp;try with_reducible rfl
     simp only[aK,aL,aze,asu];refine ak (i:=5) (d:=some 53) (v:= ?_) rfl rfl hHeld ?_ ?_;rotate_left;focus intro w hSw;(try dsimp only at hSw);go_simp;try with_reducible rfl
     simp only[aK,aL,aze,asu];refine wpAnyH_ready (rs:=[6]) (by kernel_rfl) (by simp) ?_;refine AllReadyH.cons rfl (fun K hK=> ?_) AllReadyH.nil;go_simp;have Rv:w10.heap[w.heap.size+1]?=some (.cells #[.slice none 0 0,.slice none 0 0,.int .i64 0,.int .i64 0,.bool false] 47 (0,0)):=by rw[vF.block _ (by omega)];exact HS9.out
     refine hK.out _ _ ⟨by rw[World.cell?_setCell_other _ _ _ _ (by simp)];exact b2,Tn.setCell (p:=w.heap.size) (Tn.of_below vF) (x:=⟨w.heap.size,4,none⟩) (Or.inl rfl) _⟩ (fun hHeld=> ?_);clear hK K;refine wpAnyH_done (by kernel_rfl) ?_ _;have Rw:Hid (((w10.setCell ⟨w.heap.size,4,none⟩ (.bool (lev+1==((countP ss:Nat):Int)))).setCell ⟨w.heap.size,3,none⟩ (.int .i64 (rn+1))).heap[w.heap.size+1]?=some (.cells #[.slice none 0 0,.slice none 0 0,.int .i64 0,.int .i64 0,.bool false] 47 (0,0))):=by
      show _=_;rw[heap_setCell_other _ _ _ (by show w.heap.size+1≠w.heap.size;omega),heap_setCell_other _ _ _ (by show w.heap.size+1≠w.heap.size;omega)];exact Rv
     obtain⟨q0,q1,q2,q3,q4,⟨f0,f1,f2,f3,f4⟩,_⟩:=dR Rv;have VH:Hid (Below w.heap.size w w10):=aj HB9.out vF HB9.out.size;have Rx:Hid (bY w10 (w.heap.size+2) (.slice a4 Z.length c4) Z):=TJ.out.stay vF.size fun k hk _=>vF.block k hk;have Ry:Hid (bY w10 (w.heap.size+2) (.slice a8 Z.length c8) Z):=TK.out.stay vF.size fun k hk _=>vF.block k hk;clear hHeld wV vF TL Rv HB9 TJ TK HR9 HS9 HW9 HCn c29;go_wp2;obtain⟨r0,r1,r2,r3,r4⟩:=yR Rw.out (.slice a4 Z.length c4) (.slice a8 Z.length c8) (.int .i64 (lev+1)) (.int .i64 (rn+1)) (.bool (lev+1==((countP ss:Nat):Int)));exact bodyPost_ret (v:=.tuple #[.agg #[.slice a4 Z.length c4,.slice a8 Z.length c8,.int .i64 (lev+1),.int .i64 (rn+1),.bool (lev+1==((countP ss:Nat):Int))],.int .i64 0]) (by simp[results,Tryz.results85,go_sem,r0,r1,r2,r3,r4]) rfl
      ⟨_,0,rfl,HT.out _ _ ⟨_,_,rfl,(bY.gD ((Rx.out.put (by omega)).put (by omega)) (by omega)),(bY.gD ((Ry.out.put (by omega)).put (by omega)) (by omega))⟩,
       Below.gD (Below.put (Below.put VH.out (Nat.le_refl _)) (Nat.le_refl _)) (Nat.le_succ _)⟩
    ·have hd0:¬((D.length:Int)=0):=by
      cases D
      ·exact absurd rfl hD0
      ·simp;omega
     have HT:Hid (∀w' v',oh (w.heap.size+2) w' v' ⟨dK (K++D),D,lev,rn+1,false⟩→vE (w.heap.size+2) w' v' 0 (iQ p ss ⟨K,N,lev,rn,false⟩)):=fun w' v' h=>by
      rw[NI.out,if_neg (by rw[←eK];exact hbig),if_neg (by rw[←eD];exact hD0),←eK,←eD];exact⟨rfl,h⟩
     have HR5:Hid ((((w4.setCell ⟨w.heap.size,0,none⟩ (.slice a4 (dK (K++D)).length c4)).setCell ⟨w.heap.size,1,none⟩ (.slice da D.length dc)).setCell ⟨w.heap.size,3,none⟩ (.int .i64 (rn+1))).heap[w.heap.size+1]?=some (.cells #[.slice none 0 0,.slice none 0 0,.int .i64 0,.int .i64 0,.bool false] 47 (0,0))):=by
      show _=_;rw[heap_setCell_other _ _ _ (by show w.heap.size+1≠w.heap.size;omega),heap_setCell_other _ _ _ (by show w.heap.size+1≠w.heap.size;omega),heap_setCell_other _ _ _ (by show w.heap.size+1≠w.heap.size;omega)];exact OW.out
     clear OV NI HSV HG HGN Qo eK eD;go_wp2;obtain⟨r0,r1,r2,r3,r4⟩:=yR HR5.out (.slice a4 (dK (K++D)).length c4) (.slice da D.length dc) (.int .i64 lev) (.int .i64 (rn+1)) (.bool false);exact bodyPost_ret (v:=.tuple #[.agg #[.slice a4 (dK (K++D)).length c4,.slice da D.length dc,.int .i64 lev,.int .i64 (rn+1),.bool false],.int .i64 0]) (by simp[results,Tryz.results85,go_sem,r0,r1,r2,r3,r4]) rfl
      ⟨_,0,rfl,HT.out _ _ ⟨_,_,rfl,(bY.gD (((HO4.out.put (by omega)).put (by omega)).put (by omega)) (by omega)),(bY.gD (((Ru.out.put (by omega)).put (by omega)).put (by omega)) (by omega))⟩,
       Below.gD (Below.put (Below.put (Below.put HB4.out (Nat.le_refl _)) (Nat.le_refl _)) (Nat.le_refl _)) (Nat.le_succ _)⟩
end Go.Proofs.YtafmbokfkbccaaaGreatDoor
