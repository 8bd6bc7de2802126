import Derived.Test.YtafmbokfkbccaaaGreatDoorJW21
import Derived.Test.YtafmbokfkbccaaaGreatDoorJW20
import Derived.Test.YtafmbokfkbccaaaGreatDoorJW18
import Derived.BigQuiet
namespace Go.Proofs.YtafmbokfkbccaaaGreatDoor
open Go.RowKit Go.Sort Go.Maps
abbrev rP:=Bs→Option Int
def rP.put (m:rP) (s:Bs) (n:Int):rP:=fun t=>if t=s then some n else m t
def jw (m:rP) (a:aF):rP:=match m a.name with
 |none=>m.put a.name a.terms.length
 |some n=>if n≠a.terms.length then m.put a.name (-1) else m.put a.name a.terms.length
def mo (A:List aF) (m:rP):Prop:=∀s,(m s=none↔∀a∈A,a.name≠s)∧∀n,m s=some n→∀k:Nat,n=(k:Int)↔∀a∈A,a.name=s→a.terms.length=k
theorem mo.nil:mo [] (fun _=>none):=fun s=>⟨by simp,fun n h=>by cases h⟩
theorem mo.step {A:List aF} {m:rP} (h:mo A m) (a:aF):mo (A++[a]) (jw m a):=by
 have key:∀x:Int,jw m a=m.put a.name x→(∀k:Nat,x=(k:Int)↔∀b∈A++[a],b.name=a.name→b.terms.length=k)→mo (A++[a]) (jw m a):=fun x hx hk s=>by
  rw[hx];unfold rP.put
  by_cases e:s=a.name
  ·subst e;simp only[if_true];refine⟨⟨fun h=>by simp at h,fun h=>absurd rfl (h a (by simp))⟩,fun n hn=> ?_⟩;cases hn;exact hk
  ·simp only[if_neg e];obtain⟨h1,h2⟩:=h s;refine⟨by rw[h1];exact⟨fun h b hb=>(List.mem_append.1 hb).elim (h b) (fun hb=>by simp only[List.mem_singleton] at hb;subst hb;exact fun e'=>e e'.symm),fun h b hb=>h b (by simp[hb])⟩,fun n hn k=> ?_⟩;rw[h2 n hn k];exact⟨fun h b hb hbs=>(List.mem_append.1 hb).elim (fun hb=>h b hb hbs) (fun hb=>by simp only[List.mem_singleton] at hb;subst hb;exact absurd hbs.symm e),fun h b hb=>h b (by simp[hb])⟩
 obtain⟨h1,h2⟩:=h a.name;unfold jw at key⊢;cases e:m a.name with
 |none=>
  rw[e] at key;refine key _ rfl fun k=> ?_;have hn:=h1.1 e
  constructor
  ·intro hk b hb hbn;rcases List.mem_append.1 hb with hb|hb
   ·exact absurd hbn (hn b hb)
   ·simp only[List.mem_singleton] at hb;subst hb;omega
  ·intro hk;have:=hk a (by simp) rfl;omega
 |some n=>
  rw[e] at key;dsimp only at key⊢;have hA:=h2 n e
  by_cases hne:n≠a.terms.length
  ·rw[if_pos hne] at key⊢;refine key _ rfl fun k=>⟨fun hk=>by omega,fun hk=> ?_⟩
   exfalso
   have h3:=hk a (by simp) rfl;have h4:=(hA k).2 fun b hb=>hk b (by simp[hb]);omega
  ·rw[if_neg hne] at key⊢;have hne:n=a.terms.length:=by omega
   refine key _ rfl fun k=> ?_
   constructor
   ·intro hk b hb hbn;rcases List.mem_append.1 hb with hb|hb
    ·exact(hA k).1 (by omega) b hb hbn
    ·simp only[List.mem_singleton] at hb;subst hb;omega
   ·intro hk;have:=hk a (by simp) rfl;omega
def mq (w:World) (b n:Nat) (m:rP):Prop:=∃D:DataW Unit,w.ownsMap Tryz.prog 9 (plainElem Tryz.prog 3) b n D∧∀s,Maps.has D (.string s)=(m s).isSome∧D.atKey (.string s) (.lit (.int .i64 0))=.lit (.int .i64 ((m s).getD 0))
theorem mq.made (w:World):mq (w.alloc (.map #[] 0)) w.heap.size 0 (fun _=>none):=⟨.map [],World.ownsMap_made _ _ _ _,fun _=>⟨rfl,rfl⟩⟩
theorem mq.lt {w:World} {b n:Nat} {m:rP} (h:mq w b n m):b<w.heap.size:=by obtain⟨D,h,_⟩:=h;exact h.lt
theorem mq.block {w w':World} {b n:Nat} {m:rP} (h:mq w b n m) (e:w'.heap[b]?=w.heap[b]?):mq w' b n m:=by obtain⟨D,h,hf⟩:=h;exact⟨D,eT h e,hf⟩
theorem mq.later {w w':World} {b n:Nat} {m:rP} (h:mq w b n m) (k:Later w w'):mq w' b n m:=h.block (k.block h.lt)
set_option maxRecDepth 100000 in
theorem mq.look {w:World} {b n:Nat} {m:rP} (h:mq w b n m) {s:Bs} (hs:s.length≤maxLen):
  (Instr.lookup 197 (.map (some b)) (.string (bs s)) true).run Tryz.prog w=.ok (.tuple #[.int .i64 ((m s).getD 0),.bool (m s).isSome]) w:=by
 obtain⟨D,hown,hf⟩:=h;obtain⟨v,ps,hrun,hv⟩:=hown.look_ok (string_keyed Tryz.underlying9) (t:=197) Tryz.underlying197 (qw _) (plainElem_int Tryz.underlying3 (by decide)) (oN Tryz.underlying9 hs);rw[(hf s).2] at hv;obtain⟨c,rfl,hc,_⟩:=plainElem_int_inv Tryz.underlying3 hv;simp only[Prod.mk.injEq] at hc;have hc:=hc.1
 injection hc with hc
 injection hc with _ hc
 subst hc;refine hrun.trans ?_;rw[(hf s).1]
theorem mq.store {w:World} {b n:Nat} {m:rP} (h:mq w b n m) (hn:n<maxLen) {s:Bs} (hs:s.length≤maxLen) {x:Int} (hx:(Lit.int .i64 x).wf=true):
  ∃w',(Instr.mapUpdate 197 (.map (some b)) (.string (bs s)) (.int .i64 x)).run Tryz.prog w=.ok () w'∧mq w' b (n+1) (m.put s x)∧w.grownBy w' (some b):=by
 obtain⟨D,hown,hf⟩:=h;obtain⟨w',hrun,r1,r2⟩:=hown.update (string_keyed Tryz.underlying9) (t:=197) Tryz.underlying197 hn (oN Tryz.underlying9 hs) (plainElem_int Tryz.underlying3 hx);refine⟨w',hrun,⟨_,r1,fun t=> ?_⟩,r2⟩
 by_cases e:t=s
 ·subst e;exact⟨by rw[has_put_same hown.isMap (JL _)];simp[rP.put],by rw[atKey_put_same hown.isMap (JL _)];simp[rP.put]⟩
 ·exact⟨by rw[has_put_other (qp e),(hf t).1];simp[rP.put,e],by rw[atKey_put_other (qp e),(hf t).2];simp[rP.put,e]⟩
set_option maxRecDepth 100000 in
set_option maxHeartbeats 1000000 in
theorem FW (b n:Nat) (m:rP) (a:aF) (v:Value) (w:World) (h:mq w b n m) (hv:dn.sl bU w v a.terms) (hs:a.name.length≤maxLen) (hn:n<maxLen):
  Calls Tryz.prog 193 #[.map (some b),.agg #[.bool a.no,.string (bs a.name),v]] w fun e w'=>(∃u,e=.returned u)∧mq w' b (n+1) (jw m a)∧Tn b w w':=by
 obtain⟨sa,cap,rfl⟩:=Kind.slice hv;have hl0:=hv.1.1;clear hv;have h1:=h.later ((Later.refl w).alloc (.cells #[.bool a.no,.string (bs a.name),.slice sa a.terms.length cap] 85));have hr:=h1.look hs;have hblt:=h.lt;cases hm:m a.name with
 |none=>
  obtain⟨w1,hst,hm1,hg⟩:=h1.store hn hs (x:=(a.terms.length:Nat)) (y7 (by omega));rw[hm] at hr;have F:Hid (jw m a=m.put a.name a.terms.length):=by show _=_;unfold jw;rw[hm]
  have HM:Hid (mq w1 b (n+1) (m.put a.name a.terms.length)):=hm1;have HT:Hid (Tn b w w1):=(Tn.of_below (p:=b) ((Later.refl w).alloc _).below).trans (gq hg);have hst':=hide hst;clear h h1 hm1 hg hst hm;simp only[Option.getD_none,Option.isSome_none] at hr;generalize bs a.name=nm at*;generalize a.no=no at*
  go_enter Tryz.func193,Tryz.ntmps193
  go_wp2_with (first
   |(at_mapUpdate;refine cK _ rfl _ _ _ _ rfl _ _ _ _ rfl rfl rfl (bG hst') ?_)
   |go_in)
  go_end0;exact⟨⟨_,rfl⟩,by rw[F.out];exact HM.out,HT.out⟩
 |some k=>
  rw[hm] at hr;simp only[Option.getD_some,Option.isSome_some] at hr
  by_cases hne:k≠a.terms.length
  ·obtain⟨w1,hst,hm1,hg⟩:=h1.store hn hs (x:= -1) (by decide);have F:Hid (jw m a=m.put a.name (-1)):=by show _=_;unfold jw;rw[hm];exact if_pos hne
   have HM:Hid (mq w1 b (n+1) (m.put a.name (-1))):=hm1;have HT:Hid (Tn b w w1):=(Tn.of_below (p:=b) ((Later.refl w).alloc _).below).trans (gq hg);have hst':=hide hst;have hq:(k != (a.terms.length:Int))=true:=by simpa using hne
   clear h h1 hm1 hg hst hm hne;generalize bs a.name=nm at*;generalize a.no=no at*
   go_enter Tryz.func193,Tryz.ntmps193
   go_wp2_with (first
    |(at_mapUpdate;refine cK _ rfl _ _ _ _ rfl _ _ _ _ rfl rfl rfl (bG hst') ?_)
    |go_in)
   exact bodyPost_ret (results_none rfl _ _ _) rfl ⟨⟨_,rfl⟩,by rw[F.out];exact HM.out,HT.out⟩
  ·have hk:k=(a.terms.length:Int):=by omega
   subst hk;obtain⟨w1,hst,hm1,hg⟩:=h1.store hn hs (x:=(a.terms.length:Nat)) (y7 (by omega));have F:Hid (jw m a=m.put a.name a.terms.length):=by show _=_;unfold jw;rw[hm];exact if_neg (by simp)
   have HM:Hid (mq w1 b (n+1) (m.put a.name a.terms.length)):=hm1;have HT:Hid (Tn b w w1):=(Tn.of_below (p:=b) ((Later.refl w).alloc _).below).trans (gq hg);have hst':=hide hst;clear h h1 hm1 hg hst hm hne;generalize bs a.name=nm at*;generalize a.no=no at*
   go_enter Tryz.func193,Tryz.ntmps193
   go_wp2_with (first
    |(at_mapUpdate;refine cK _ rfl _ _ _ _ rfl _ _ _ _ rfl rfl rfl (bG hst') ?_)
    |go_in)
   go_end0;exact⟨⟨_,rfl⟩,by rw[F.out];exact HM.out,HT.out⟩
def rQ (m:rP) (f:aj):Bool:=match m (raw f.1) with|none=>true|some k=>decide (k=f.2.length)
set_option maxRecDepth 100000 in
set_option maxHeartbeats 1000000 in
theorem KF (b n:Nat) (m:rP) (f:aj) (v:Value) (w:World) (h:mq w b n m) (hv:bW w v f) (hs:f.1.size≤maxLen):
  Calls Tryz.prog 122 #[.map (some b),v] w fun e w'=>e=.returned (.bool (rQ m f))∧Later w w':=by
 unfold rQ;obtain⟨u,rfl,hu⟩:=hv;obtain⟨sa,cap,rfl⟩:=aW hu;obtain⟨nm,args⟩:=f;dsimp only at*;have h1:=h.later ((Later.refl w).alloc (.cells #[.string nm,.slice sa args.length cap] 27));have hr:=h1.look (s:=raw nm) (by rw[bq];exact hs);rw[ko] at hr;clear h h1 hu hs;cases hm:m (raw nm) with
 |none=>
  rw[hm] at hr;simp only[Option.getD_none,Option.isSome_none] at hr
  go_enter Tryz.func122,Tryz.ntmps122
  go_wp2;go_ret;exact⟨rfl,(by repeat (first|exact Later.refl _|assumption|refine Later.drewN ?_ _|refine Later.drew ?_|refine Later.alloc ?_ _|refine Later.grow ?_ _))⟩
 |some k=>
  rw[hm] at hr;simp only[Option.getD_some,Option.isSome_some] at hr
  go_enter Tryz.func122,Tryz.ntmps122
  go_wp2;go_ret;refine⟨dA ?_,(by repeat (first|exact Later.refl _|assumption|refine Later.drewN ?_ _|refine Later.drew ?_|refine Later.alloc ?_ _|refine Later.grow ?_ _))⟩;rw[Bool.eq_iff_iff];simp
end Go.Proofs.YtafmbokfkbccaaaGreatDoor
namespace Go.Proofs.YtafmbokfkbccaaaGreatDoor
open Go.RowKit Go.Sort Go.Maps
theorem wR (p q:List aA):fM (p++q)=fM p++fM q:=by simp[fM]
theorem mq.mono {w:World} {b n n':Nat} {m:rP} (h:mq w b n m) (hn:n≤n'):mq w b n' m:=by obtain⟨D,h,hf⟩:=h;exact⟨D,h.mono hn,hf⟩
set_option maxRecDepth 100000 in
set_option maxHeartbeats 4000000 in
theorem FY (p:List aA) (v:Value) (w:World) (hv:fB.sl bU w v p) (h16:p.length≤16) (h5:∀r∈p,r.body.length≤5) (hs:∀a∈fM p,a.name.length≤12):
  Calls Tryz.prog 121 #[v] w fun e w'=>∃n m,e=.returned (.map (some w.heap.size))∧mq w' w.heap.size n m∧mo (fM p) m∧Below w.heap.size w w':=by
 obtain⟨pa,pc,rfl⟩:=Kind.slice hv;have HV:=hide hv;have HS:=hide hs;have H5:=hide h5;have HM0:Hid (mq (w.alloc (.map #[] 0)) w.heap.size 0 (fun _=>none)):=mq.made w;have HB0:Hid (Below w.heap.size w (w.alloc (.map #[] 0))):=((Later.refl w).alloc _).below;have hmm:= @run_makeMap Tryz.prog;clear hv hs h5
 go_enter Tryz.func121,Tryz.ntmps121
 go_wp2
 go_loopg [11] p.length (fun g i wr=>∃j:Nat,j+g=p.length∧i=.int .i64 j∧w.heap.size<wr.heap.size∧∃m,Hid (mq wr w.heap.size (6*j) m)∧Hid (mo (fM (p.take j)) m)∧Hid (Below w.heap.size w wr))
 case atStart=>exact⟨0,by omega,rfl,by simp,_,HM0,mo.nil,HB0⟩
 case round=>
  clear HM0 HB0 hmm;obtain⟨j,hj,rfl,hwr,m,HM,HO,HBr⟩:=hrel;obtain⟨wo,hwo⟩:∃wo,wo=wr:=⟨_,rfl⟩;subst hwo
  by_cases hlt:j<p.length
  ·obtain⟨r,hr⟩:∃x,p[j]?=some x:=⟨_,List.getElem?_eq_getElem hlt⟩;have hrm:r∈p:=List.mem_of_getElem? hr;obtain⟨b1,o1,_,rfl,hb1,⟨tv,bv,rfl,htv,hbv⟩,hc⟩:=Kind.fQ HV.out hr;have d0:wo.cell? ⟨b1,o1+j*4,none⟩=some (.bool r.head.no):=by rw[HBr.out.cell (p:=⟨b1,o1+j*4,none⟩) hb1];exact hc 0 _ rfl
   have d1:wo.cell? ⟨b1,o1+j*4+1,none⟩=some (.string (bs r.head.name)):=by rw[HBr.out.cell (p:=⟨b1,o1+j*4+1,none⟩) hb1];exact hc 1 _ rfl
   have d2:wo.cell? ⟨b1,o1+j*4+2,none⟩=some tv:=by rw[HBr.out.cell (p:=⟨b1,o1+j*4+2,none⟩) hb1];exact hc 2 _ rfl
   have d3:wo.cell? ⟨b1,o1+j*4+3,none⟩=some bv:=by rw[HBr.out.cell (p:=⟨b1,o1+j*4+3,none⟩) hb1];exact hc 3 _ rfl
   obtain⟨ta,tc,rfl⟩:=Kind.slice htv;obtain⟨ba,bc,rfl⟩:=Kind.slice hbv;have hsz:=HBr.out.size;have htk:fM (p.take (j+1))=fM (p.take j)++(r.head::r.body):=by
    rw[List.take_add_one,hr,wR];simp[fM]
   have O6:∀a∈r.head::r.body,a.name.length≤12:=fun a ha=>HS.out a (List.mem_flatMap.2 ⟨r,hrm,ha⟩);have hb5:=H5.out r hrm;have O7:=dL.made w.heap.size wo (.bool r.head.no) (.string (bs r.head.name)) (.slice ta r.head.terms.length tc) (.slice ba r.body.length bc);obtain⟨wb,hwb⟩:∃wb,wb=wo.alloc (.cells #[.bool r.head.no,.string (bs r.head.name),.slice ta r.head.terms.length tc,.slice ba r.body.length bc] 87):=⟨_,rfl⟩;rw[←hwb] at O7;have hLb:Later wo wb:=by rw[hwb];exact(Later.refl _).alloc _
   have hBb:Below w.heap.size w wb:=ak HBr.out hLb.below hsz;have HC:=hide (FW w.heap.size (6*j) m r.head (.slice ta r.head.terms.length tc) wb (HM.out.later hLb) (Kind.aS htv hBb) (by have:=O6 r.head (by simp);unfold maxLen;omega) (by unfold maxLen;omega));have HBx:=hide O7;have HBb:=hide hBb;have HBV:=hide hbv;have HTK:=hide htk;have HRA:=hide O6;have HWb:=hide hwb;clear hc hr htv hbv htk O6 O7 hLb hBb hwb hrm;generalize bs r.head.name=nm at*;generalize hno:r.head.no=no at*
   go_wp2_with fail
   rw[←HWb.out];refine HC.out.mono ?_;rintro e w2 ⟨⟨u2,rfl⟩,hM2,hT2⟩;have HX2:=hide (HBx.out.turned hT2 hwr);have HM2:=hide hM2;have HO2:Hid (mo (fM (p.take j)++(r.head::r.body.take 0)) (jw m r.head)):=by show mo _ _;have:=HO.out.step r.head;simpa using this
   have HT2:Hid (Tn w.heap.size wb w2):=hT2;have x3:w2.cell? ⟨wo.heap.size,3,none⟩=some (.slice ba r.body.length bc):=HX2.out.z3;clear hM2 hT2 HC hno;go_wp2
   go_loopg [22] r.body.length (fun g i wz=>∃k:Nat,k+g=r.body.length∧i=.int .i64 k∧∃m',Hid (mq wz w.heap.size (6*j+1+k) m')∧Hid (mo (fM (p.take j)++(r.head::r.body.take k)) m')∧Hid (Tn w.heap.size wb wz))
   case atStart=>exact⟨0,by omega,rfl,_,HM2,HO2,HT2⟩
   case round=>
    clear HM2 HO2 HT2 x3;obtain⟨k,hk,rfl,m',HM',HO',HT'⟩:=hrel;have hbs:w.heap.size≤wb.heap.size:=by have:=HBb.out.size;omega
    have hBz:Below w.heap.size wb wr:=HT'.out.below (Nat.le_refl _) hbs;have hwz:=HT'.out.size;have hww:wo.heap.size<wb.heap.size:=HBx.out.lt
    by_cases hltk:k<r.body.length
    ·obtain⟨t,ht⟩:∃x,r.body[k]?=some x:=⟨_,List.getElem?_eq_getElem hltk⟩;obtain⟨b2,o2,_,rfl,hb2,⟨sv,rfl,hsv⟩,hc⟩:=Kind.fQ HBV.out ht;have hBw:Below w.heap.size w wr:=HBb.out.trans hBz;have e0:wr.cell? ⟨b2,o2+k*3,none⟩=some (.bool t.no):=by rw[hBw.cell (p:=⟨b2,o2+k*3,none⟩) hb2];exact hc 0 _ rfl
     have e1:wr.cell? ⟨b2,o2+k*3+1,none⟩=some (.string (bs t.name)):=by rw[hBw.cell (p:=⟨b2,o2+k*3+1,none⟩) hb2];exact hc 1 _ rfl
     have e2:wr.cell? ⟨b2,o2+k*3+2,none⟩=some sv:=by rw[hBw.cell (p:=⟨b2,o2+k*3+2,none⟩) hb2];exact hc 2 _ rfl
     have hbr:b2<wr.heap.size:=by omega
     obtain⟨sva,svc,rfl⟩:=Kind.slice hsv;have hL5:Later wr (wr.alloc (.cells #[.bool t.no,.string (bs t.name),.slice sva t.terms.length svc] 85)):=(Later.refl _).alloc _;have htk:r.head::r.body.take (k+1)=(r.head::r.body.take k)++[t]:=by rw[List.take_add_one,ht];rfl
     have HC5:=hide (FW w.heap.size (6*j+1+k) m' t (.slice sva t.terms.length svc) (wr.alloc (.cells #[.bool t.no,.string (bs t.name),.slice sva t.terms.length svc] 85)) (HM'.out.later hL5) (Kind.aS hsv (ak hBw hL5.below hBw.size)) (by have:=HRA.out t (List.mem_cons_of_mem _ (List.mem_of_getElem? ht));unfold maxLen;omega) (by unfold maxLen;omega));have HO5:Hid (mo (fM (p.take j)++(r.head::r.body.take (k+1))) (jw m' t)):=by show mo _ _;rw[htk,←List.append_assoc];exact HO'.out.step t
     have HL5:=hide hL5;clear hc ht hsv hBw hL5 htk hBz;generalize bs t.name=nm5 at*;generalize t.no=no5 at*
     go_wp2_with fail
     refine HC5.out.mono ?_;rintro e w6 ⟨⟨u6,rfl⟩,hM6,hT6⟩;have HM6:Hid (mq w6 w.heap.size (6*j+1+(k+1)) (jw m' t)):=hM6;have HT6:Hid (Tn w.heap.size wb w6):=(HT'.out.trans (Tn.of_below HL5.out.below)).trans hT6;clear hM6 hT6 HC5;go_wp2
     go_roundg (r.body.length- (k+1))
     case measure=>omega
     case rel=>exact⟨k+1,by omega,by go_num,_,HM6,HO5,HT6⟩
    ·have hk':r.body.take k=r.body:=List.take_of_length_le (by omega);rw[hk',←HTK.out] at HO';have HB4:Hid (Below w.heap.size w wr):=HBb.out.trans hBz;have HM4:Hid (mq wr w.heap.size (6*(j+1)) m'):=HM'.out.mono (by omega);have hws:w.heap.size<wr.heap.size:=by omega
     clear hk' hBz;go_wp2
     go_roundg (p.length- (j+1))
     case measure=>omega
     case rel=>exact⟨j+1,by omega,by go_num,hws,m',HM4,HO',HB4⟩
  ·have hj':p.take j=p:=List.take_of_length_le (by omega);rw[hj'] at HO;clear hj';go_wp2;go_ret;exact⟨_,m,rfl,HM.out,HO.out,HBr.out⟩
def jF (p:List aA) (l:List aj):Nat→Nat→Int×Int
 |0,_=>(0,0)
 |n+1,k=>if sS p (l.getD k aB)=true then jF p l n (k+1) else(8,k)
def fE (p:List aA) (l:List aj):Int×Int:=if(bB l).1≠0 then bB l else jF p l l.length 0
theorem o9 {p:List aA} {l:List aj}:∀(n k:Nat),(jF p l n k).1=0→∀i,k≤i→i<k+n→sS p (l.getD i aB)=true
 |0,k,_,i,h1,h2=>by omega
 |n+1,k,h,i,h1,h2=>by
  unfold jF at h;split at h
  ·rename_i hf
   by_cases e:i=k
   ·subst e;exact hf
   ·exact o9 n (k+1) h i (by omega) (by omega)
  ·simp at h
theorem rR {p:List aA} {l:List aj} (h:∀f∈l,sS p f=true):∀(n k:Nat),k+n=l.length→jF p l n k=(0,0)
 |0,_,_=>rfl
 |n+1,k,hk=>by
  unfold jF;rw[if_pos (h _ (by rw[List.getD_eq_getElem?_getD,List.getElem?_eq_getElem (by omega)];exact List.getElem_mem _))];exact rR h n (k+1) (by omega)
theorem oD {p:List aA} {l:List aj} (h:(fE p l).1=0):GoodS p l:=by
 unfold fE at h;split at h
 ·rename_i h1;exact absurd h h1
 ·rename_i h1;refine wQ (by simpa using h1) fun f hf=> ?_;obtain⟨i,hi,rfl⟩:=List.getElem_of_mem hf;have:=o9 l.length 0 h i (Nat.zero_le _) (by omega)
  rwa [List.getD_eq_getElem?_getD,List.getElem?_eq_getElem hi] at this
theorem uP {p:List aA} {l:List aj} (h:GoodS p l):fE p l=(0,0):=by
 unfold fE;rw[mh h.up h.right h.few,if_neg (by simp)];exact rR h.fit _ 0 (by omega)
theorem KH {p:List aA} {m:rP} (h:mo (fM p) m) (f:aj):rQ m f=sS p f:=by
 unfold rQ;obtain⟨h1,h2⟩:=h (raw f.1);rw[Bool.eq_iff_iff,BJ];cases e:m (raw f.1) with
 |none=>
  simp only[true_iff];intro a ha hb;exact absurd (by rw[←hb,ig]) (h1.1 e a ha)
 |some k=>
  simp only[decide_eq_true_eq];rw[h2 k e f.2.length];exact⟨fun h a ha hb=>h a ha (by rw[←hb,ig]),fun h a ha hb=>h a ha (by rw[hb,ko])⟩
theorem AY {p:List aA} (hp:bZ p):(∀r∈p,r.body.length≤5)∧∀a∈fM p,a.name.length≤12:=by
 have hn:∀a:aF,aO a=0→a.name.length≤12:=fun a ha=>by
  have h1:=(qP ha).1;unfold isNamed at h1;simp only[Bool.and_eq_true,decide_eq_true_eq] at h1;exact h1.1.1
 have hb:∀l:List aF,bD l=0→∀a∈l,aO a=0:=fun l=>by
  induction l with
  |nil=>intro _ a ha;cases ha
  |cons x l ih=>
   intro h a ha;unfold bD at h;split at h
   ·rename_i hx;rcases List.mem_cons.1 ha with rfl|ha
    ·exact hx
    ·exact ih h a ha
   ·rename_i hx;exact absurd h hx
 have key:∀r∈p,r.body.length≤5∧∀a∈r.body,aO a=0:=fun r hr=>by
  have:=(hp.rules r hr).body;unfold aM at this;split at this
  ·cases this
  ·rename_i h5;split at this
   ·rename_i h0;exact⟨by omega,hb _ h0⟩
   ·rename_i h0;exact absurd this h0
 refine⟨fun r hr=>(key r hr).1,fun a ha=> ?_⟩;obtain⟨r,hr,ha⟩:=List.mem_flatMap.1 ha;rcases List.mem_cons.1 ha with rfl|ha
 ·exact hn _ (hp.rules r hr).head
 ·exact hn _ ((key r hr).2 a ha)
end Go.Proofs.YtafmbokfkbccaaaGreatDoor
namespace Go.Proofs.YtafmbokfkbccaaaGreatDoor
open Go.RowKit Go.Sort Go.Maps
set_option maxRecDepth 100000 in
set_option maxHeartbeats 4000000 in
theorem rT (p:List aA) (hp:bZ p) (pv fv:Value) (l:List aj) (w:World) (hv:fB.sl bU w pv p) (hf:Facts w fv l):
  Calls Tryz.prog 66 #[pv,fv] w fun e w'=>e=.returned (.agg #[.int .i64 (fE p l).1,.int .i64 (fE p l).2])∧Below w.heap.size w w':=by
 obtain⟨pa,pc,rfl⟩:=Kind.slice hv;obtain⟨a,cap,rfl,hln,hz⟩:=hf.addr;have hL0:Later w (w.alloc (.cells #[.int .i64 0,.int .i64 0] 75)):=(Later.refl w).alloc _;have hR0:(w.alloc (.cells #[.int .i64 0,.int .i64 0] 75)).heap[w.heap.size]?=some (.cells #[.int .i64 0,.int .i64 0] 75 (0,0)):=heap_alloc_new w _;have O8:=hide (OP (.slice a l.length cap) l (w.alloc (.cells #[.int .i64 0,.int .i64 0] 75)) (hf.later hL0));have HL0:=hide hL0;have HR0:=hide hR0;have HV:=hide hv;have HF:=hide hf;have HRP:=hide hp;clear hv hf hp hL0 hR0;obtain⟨ex,ea,hse⟩:∃ex ea,bB l=(ex,ea):=⟨_,_,rfl⟩;rw[hse] at O8;have HSE:=hide hse;clear hse
 go_enter Tryz.func66,Tryz.ntmps66
 go_wp2_with fail
 refine O8.out.mono ?_;rintro e w1 ⟨rfl,hL1⟩;dsimp only;have hs1:w.heap.size<w1.heap.size:=by have:=hL1.size;simp at this;omega
 have HR1:Hid (w1.heap[w.heap.size]?=some (.cells #[.int .i64 0,.int .i64 0] 75 (0,0))):=by show _=_;rw[hL1.block (by simp)];exact HR0.out
 have HL1:Hid (Later w w1):=HL0.out.trans hL1;clear hL1 O8 HL0 HR0
 by_cases h0:ex=0
 ·subst h0;have HX:Hid (fE p l=jF p l l.length 0):=by show _=_;unfold fE;rw[HSE.out,if_neg (by simp)]
  have hsr:=set_right (l:=l) (by rw[HSE.out]);have HSR:=hide hsr.2.2;obtain⟨hn5,O9⟩:=AY HRP.out;obtain⟨w2,hw2⟩:∃w2,w2=w1.alloc (.cells #[.int .i64 0,.int .i64 ea] 75):=⟨_,rfl⟩;have hL2:Later w1 w2:=by rw[hw2];exact(Later.refl _).alloc _
  have hB2:Below w.heap.size w w2:=(HL1.out.trans hL2).below;have HW:=hide (FY p (.slice pa p.length pc) w2 (Kind.aS HV.out hB2) HRP.out.few hn5 O9);have HB2:=hide hB2;have HR2:Hid (w2.heap[w.heap.size]?=some (.cells #[.int .i64 0,.int .i64 0] 75 (0,0))):=by show _=_;rw[hL2.block hs1];exact HR1.out
  have hs2:w.heap.size<w2.heap.size:=by have:=hL2.size;omega
  have HW2:=hide hw2;clear hsr hn5 O9 hL2 hB2 hw2 HSE HR1 HL1 HRP
  go_wp2_with fail
  rw[←HW2.out];refine HW.out.mono ?_;rintro e w3 ⟨n,m,rfl,hM3,hO3,hB3⟩;have HM3:=hide hM3;have SY:Hid (∀f,rQ m f=sS p f):=fun f=>KH hO3 f;have HB3:Hid (Below w.heap.size w w3):=ak HB2.out hB3 HB2.out.size;have HR3:Hid (w3.heap[w.heap.size]?=some (.cells #[.int .i64 0,.int .i64 0] 75 (0,0))):=by show _=_;rw[hB3.block _ hs2];exact HR2.out
  have hs3:w.heap.size<w3.heap.size:=by have:=hB3.size;omega
  generalize w2.heap.size=bm at*;clear hM3 hO3 hB3 HB2 HR2 HW HW2 hs2 hs1;go_wp2
  go_loopg [19] l.length (fun g i wr=>∃j k:Nat,k=g∧j+k=l.length∧i=.int .i64 j∧Hid (Later w3 wr)∧Hid (fE p l=jF p l k j))
  case atStart=>exact⟨0,l.length,rfl,by omega,rfl,Later.refl _,HX⟩
  case round=>
   clear HX;obtain⟨j,k,hkg,hj,rfl,HL,HX⟩:=hrel;have hRr:wr.heap[w.heap.size]?=some (.cells #[.int .i64 0,.int .i64 0] 75 (0,0)):=by rw[HL.out.block hs3];exact HR3.out
   have hsr:w.heap.size<wr.heap.size:=by have:=HL.out.size;omega
   by_cases hlt:j<l.length
   ·rcases hz with rfl|⟨b,off,rfl⟩
    ·simp at hlt
    have hltz:(j:Int)<(l.length:Int):=by omega
    have hFr:Facts wr (.slice (some ⟨b,off,none⟩) l.length cap) l:=HF.out.below (ak HB3.out HL.out.below HB3.out.size);obtain⟨hb,ax,lx,cx,g1,g2,fx⟩:=hFr.at hlt;have hfm:l.getD j aB∈l:=by rw[List.getD_eq_getElem?_getD,List.getElem?_eq_getElem hlt];exact List.getElem_mem hlt
    have hfs:=kg (gY.1 (HSR.out _ hfm));obtain⟨wb,hwb⟩:∃wb,wb=wr.alloc (.cells #[.string (l.getD j aB).1,.slice ax lx cx] 27):=⟨_,rfl⟩;have hLb:Later wr wb:=by rw[hwb];exact(Later.refl _).alloc _
    have HC:=hide (KF bm n m (l.getD j aB) (.agg #[.string (l.getD j aB).1,.slice ax lx cx]) wb (HM3.out.later (HL.out.trans hLb)) (fx.later hLb) (by have:=hfs.1;unfold maxLen;omega));rw[SY.out] at HC;obtain⟨g,rfl⟩:∃g,k=g+1:=⟨k-1,by omega⟩;have hX:fE p l=if sS p (l.getD j aB)=true then jF p l g (j+1) else(8,j):=by
     rw[HX.out];rfl
    have HLb:Hid (Later w3 wb):=HL.out.trans hLb;have HRb:Hid (wb.heap[w.heap.size]?=some (.cells #[.int .i64 0,.int .i64 0] 75 (0,0))):=by show _=_;rw[hLb.block hsr];exact hRr
    have hsb:w.heap.size<wb.heap.size:=by have:=hLb.size;omega
    have HWb:=hide hwb;generalize hff:sS p (l.getD j aB)=ft at*;generalize(l.getD j aB).1=nk at*;clear hff hFr fx hfm hfs hLb hwb hRr HX;cases ft with
    |true=>
     have HX':Hid (fE p l=jF p l g (j+1)):=by show _=_;rw[hX];rfl
     clear hX
     go_wp2_with fail
     rw[←HWb.out];refine HC.out.mono ?_;rintro e w5 ⟨rfl,hL5⟩;have HL5:Hid (Later w3 w5):=HLb.out.trans hL5;clear hL5 HC;go_wp2
     go_roundg g
     case measure=>omega
     case rel=>exact⟨j+1,g,rfl,by omega,by go_num,HL5,HX'⟩
    |false=>
     have HX':Hid (fE p l=(8,(j:Int))):=by show _=_;rw[hX];rfl
     clear hX
     go_wp2_with fail
     rw[←HWb.out];refine HC.out.mono ?_;rintro e w5 ⟨rfl,hL5⟩;have HL5:Hid (Later w3 w5):=HLb.out.trans hL5;have hR5:w5.heap[w.heap.size]?=some (.cells #[.int .i64 0,.int .i64 0] 75 (0,0)):=by rw[hL5.block hsb];exact HRb.out
     have q0:w5.cell? ⟨w.heap.size,0,none⟩=some (.int .i64 0):=by rw[cell_of_row _ _ _ _ _ _ hR5];rfl
     have q1:w5.cell? ⟨w.heap.size,1,none⟩=some (.int .i64 0):=by rw[cell_of_row _ _ _ _ _ _ hR5];rfl
     have p0:w5.frozen? ⟨w.heap.size,0,none⟩=false:=bK 0 hR5;have p1:w5.frozen? ⟨w.heap.size,1,none⟩=false:=bK 1 hR5;have HR5:=hide hR5;clear hL5 HC hR5;go_wp2;obtain⟨r0,r1⟩:=iP HR5.out (.int .i64 8) (.int .i64 j);refine bodyPost_ret (v:=.agg #[.int .i64 8,.int .i64 j]) (by simp[results,Tryz.results66,go_sem,r0,r1]) rfl ⟨by rw[HX'.out],?_⟩;exact((ak HB3.out HL5.out.below HB3.out.size).setCell (Nat.le_refl _) _).setCell (Nat.le_refl _) _
   ·have hk0:k=0:=by omega
    have HX':Hid (fE p l=(0,0)):=by show _=_;rw[HX.out,hk0];rfl
    have q0:wr.cell? ⟨w.heap.size,0,none⟩=some (.int .i64 0):=by rw[cell_of_row _ _ _ _ _ _ hRr];rfl
    have q1:wr.cell? ⟨w.heap.size,1,none⟩=some (.int .i64 0):=by rw[cell_of_row _ _ _ _ _ _ hRr];rfl
    have p0:wr.frozen? ⟨w.heap.size,0,none⟩=false:=bK 0 hRr;have p1:wr.frozen? ⟨w.heap.size,1,none⟩=false:=bK 1 hRr;have HRr:=hide hRr;clear hRr HX;go_wp2;obtain⟨r0,r1⟩:=iP HRr.out (.int .i64 0) (.int .i64 0);refine bodyPost_ret (v:=.agg #[.int .i64 0,.int .i64 0]) (by simp[results,Tryz.results66,go_sem,r0,r1]) rfl ⟨by rw[HX'.out],?_⟩;exact((ak HB3.out HL.out.below HB3.out.size).setCell (Nat.le_refl _) _).setCell (Nat.le_refl _) _
 ·have HX:Hid (fE p l=(ex,ea)):=by show _=_;unfold fE;rw[HSE.out,if_pos h0]
  have hq:(ex != 0)=true:=by simpa using h0
  have hR2:=HR1.out;have q0:w1.cell? ⟨w.heap.size,0,none⟩=some (.int .i64 0):=by rw[cell_of_row _ _ _ _ _ _ hR2];rfl
  have q1:w1.cell? ⟨w.heap.size,1,none⟩=some (.int .i64 0):=by rw[cell_of_row _ _ _ _ _ _ hR2];rfl
  have p0:w1.frozen? ⟨w.heap.size,0,none⟩=false:=bK 0 hR2;have p1:w1.frozen? ⟨w.heap.size,1,none⟩=false:=bK 1 hR2;clear hR2 HSE h0 HV HF;go_wp2;obtain⟨r0,r1⟩:=iP HR1.out (.int .i64 ex) (.int .i64 ea);have hBX:Below w.heap.size w ((w1.setCell ⟨w.heap.size,0,none⟩ (.int .i64 ex)).setCell ⟨w.heap.size,1,none⟩ (.int .i64 ea)):=(HL1.out.below.setCell (Nat.le_refl _) _).setCell (Nat.le_refl _) _;have hzX:w.heap.size<((w1.setCell ⟨w.heap.size,0,none⟩ (.int .i64 ex)).setCell ⟨w.heap.size,1,none⟩ (.int .i64 ea)).heap.size:=by rw[size_setCell,size_setCell];exact hs1
  generalize(w1.setCell ⟨w.heap.size,0,none⟩ (.int .i64 ex)).setCell ⟨w.heap.size,1,none⟩ (.int .i64 ea)=wx at*;have s0:(wx.alloc (.cells #[.int .i64 ex,.int .i64 ea] 75)).cell? ⟨w.heap.size,0,none⟩=some (.int .i64 ex):=by rw[((Later.refl wx).alloc _).cell (p:=⟨w.heap.size,0,none⟩) hzX];exact r0
  have s1:(wx.alloc (.cells #[.int .i64 ex,.int .i64 ea] 75)).cell? ⟨w.heap.size,1,none⟩=some (.int .i64 ea):=by rw[((Later.refl wx).alloc _).cell (p:=⟨w.heap.size,1,none⟩) hzX];exact r1
  refine bodyPost_ret (v:=.agg #[.int .i64 ex,.int .i64 ea]) (by simp[results,Tryz.results66,go_sem,s0,s1]) rfl ⟨by rw[HX.out],?_⟩;exact hBX.alloc hBX.size _
theorem foldl_max (ss:List Nat):∀s:Nat,(ss.map fun x:Nat=>(x:Int)).foldl max (s:Int)+1=(max (s+1) (countP ss):Nat):=by
 induction ss with
 |nil=>intro s;simp[countP]
 |cons t ss ih=>
  intro s;rw[List.map_cons,List.foldl_cons,show(max (s:Int) (t:Int))=((max s t:Nat):Int) by omega,ih];simp only[countP];omega
theorem countP_le {c:Nat}:∀{ss:List Nat},(∀s∈ss,s<c)→countP ss≤c
 |[],_=>Nat.zero_le _
 |s::ss,h=>by
  have h1:=h s (by simp);have h2:=countP_le (ss:=ss) fun t ht=>h t (by simp[ht]);simp only[countP];omega
set_option maxHeartbeats 1000000 in
theorem Jv (ss:List Nat) (v:Value) (w:World) (hv:pY.sl bU w v ss) (hs:∀s∈ss,s<1000):
  Calls Tryz.prog 68 #[v] w fun e w'=>e=.returned (.int .i64 (countP ss:Nat))∧Later w w':=by
 obtain⟨a,cap,rfl⟩:=Kind.slice hv;have hl:=hv.1.1;cases ss with
 |nil=>
  clear hv hs
  go_enter Tryz.func68,Tryz.ntmps68
  go_wp2;go_ret;exact⟨rfl,Later.refl _⟩
 |cons s ss=>
  obtain⟨b,off,_,rfl,hb,_,_⟩:=Kind.fQ hv (i:=0) (x:=s) rfl;have hM:=Tryz.slices_Max_int b off (s::ss).length cap ((s::ss).map fun x:Nat=>(x:Int)) w (by simp) (by simp) (by omega) (fun j hj=>by
   rw[List.length_map] at hj;obtain⟨x,hx⟩:∃x,(s::ss)[j]?=some x:=⟨_,List.getElem?_eq_getElem hj⟩;obtain⟨b1,o1,_,e1,_,rfl,hc⟩:=Kind.fQ hv hx;simp only[Option.some.injEq,Addr.mk.injEq,and_true] at e1;obtain⟨rfl,rfl⟩:=e1;rw[List.getD_eq_getElem?_getD,List.getElem?_map,hx];simpa[pY] using hc 0 _ rfl)
  have e:Lib.maxOf (((s::ss).map fun x:Nat=>(x:Int)).take (s::ss).length)+1=(countP (s::ss):Nat):=by
   rw[List.take_of_length_le (by simp)];unfold Lib.maxOf;rw[List.map_cons,List.headD_cons,List.foldl_cons,show max (s:Int) (s:Int)=(s:Int) by omega,foldl_max]
   rfl
  have hcp:countP (s::ss)≤1000:=countP_le hs;generalize Lib.maxOf (((s::ss).map fun x:Nat=>(x:Int)).take (s::ss).length)=mx at*;generalize countP (s::ss)=cp at*;have hmx:mx=(cp:Int)-1:=by omega
  subst hmx;have HM:=hide hM;have hne:¬((((s::ss).length:Nat):Int)=0):=by simp;omega
  clear hv hs hM e
  go_enter Tryz.func68,Tryz.ntmps68
  go_wp2_with fail
  refine HM.out.mono ?_;rintro e w1 ⟨rfl,rfl⟩;go_wp2;go_ret;refine⟨?_,Later.refl _⟩
  congr 2
end Go.Proofs.YtafmbokfkbccaaaGreatDoor
namespace Go.Proofs.YtafmbokfkbccaaaGreatDoor
open Go.RowKit Go.Sort Go.Maps
theorem rU {p:List aA} {m:fC} (hl:pF p m) (hs:Sol p (numOf m)):∀r∈p,numOf m r.head.name<p.length:=by
 have key:∀k,(∃r∈p,k≤numOf m r.head.name)→k≤(p.map fun r=>if numOf m r.head.name<k then 1 else 0).sum:=by
  intro k
  induction k with
  |zero=>intro _;exact Nat.zero_le _
  |succ k ih=>
   rintro⟨r,hr,hk⟩;have h1:=ih ⟨r,hr,by omega⟩;obtain⟨q,hq,hqk⟩:∃q∈p,numOf m q.head.name=k:=by
    refine Classical.byContradiction fun hn=> ?_;have:=LQ hl hs k (fun q hq e=>hn ⟨q,hq,e⟩) r hr;omega
   have h2:(p.map fun r=>if numOf m r.head.name<k then 1 else 0).sum<(p.map fun r=>if numOf m r.head.name<k+1 then 1 else 0).sum:=by
    refine sum_lt (fun x _=> ?_) ⟨q,hq,?_⟩
    ·split
     ·rw[if_pos (by omega)];exact Nat.le_refl _
     ·exact Nat.zero_le _
    ·rw[if_neg (by omega),if_pos (by omega)];exact Nat.one_pos
   omega
 intro r hr;have h1:=key _ ⟨r,hr,Nat.le_refl _⟩;have h2:(p.map fun q=>if numOf m q.head.name<numOf m r.head.name then 1 else 0).sum<(p.map fun _=>1).sum:=by
  refine sum_lt (fun x _=> ?_) ⟨r,hr,?_⟩
  ·split <;> omega
  ·rw[if_neg (by omega)];exact Nat.one_pos
 have h3:(p.map fun _=>1).sum=p.length:=by
  clear h1 h2 key hr hl hs
  induction p with
  |nil=>rfl
  |cons a p ih=>simp only[List.map_cons,List.sum_cons,List.length_cons,ih];omega
 omega
theorem below_drewN {n:Nat} {a b:World} (h:Below n a b) (q:Nat):Below n a (b.drewN q):=⟨h.os,h.tape,h.output,h.size,h.block⟩
def lD (p:List aA) (l:List aj):Int×List aj:=
 if(aK p).2.1≠0 then((aK p).2.1,[]) else if(fE p l).1≠0 then((fE p l).1,[]) else gZ p (aK p).1 (countP (aK p).1) 0 l
set_option maxRecDepth 100000 in
set_option maxHeartbeats 4000000 in
theorem rV (p:List aA) (l:List aj) (pv fv:Value) (w:World) (hv:fB.sl bU w pv p) (hf:Facts w fv l):
  Calls Tryz.prog 22 #[pv,fv] w fun e w'=>∃v' er,e=.returned (.tuple #[v',.int .i64 er])∧nG w' v' er (lD p l)∧Below w.heap.size w w':=by
 have HSt:=hide (FV p pv w hv);obtain⟨pa,pc,rfl⟩:=Kind.slice hv;obtain⟨fa,fc,rfl⟩:=aD hf;have HV:=hide hv;have HF:=hide hf;clear hv hf;obtain⟨ss,ex,ea,hse⟩:∃ss ex ea,aK p=(ss,ex,ea):=⟨_,_,_,rfl⟩;rw[hse] at HSt;have HSE:=hide hse;clear hse
 go_enter Tryz.func22,Tryz.ntmps22
 go_wp2_with fail
 refine HSt.out.mono ?_;rintro e w1 ⟨u,rfl,hu,hB1⟩;dsimp only at hu⊢;have HU:Hid (pY.sl bU w1 u ss):=Kind.aX hu fun _ _ _=>trivial;obtain⟨ua,uc,rfl⟩:=Kind.slice hu;have HB1:=hide hB1;clear hu hB1 HSt
 by_cases h0:ex=0
 ·subst h0;obtain⟨hw0,m,hms,hdm,hlm,hsm⟩:=kZ HSE.out;have hp:=lq.1 hw0;have KI:∀s∈ss,s<1000:=fun s hs=>by
   rw[hms] at hs;obtain⟨r,hr,rfl⟩:=List.mem_map.1 hs;have:=rU hlm hsm r hr;have:=hp.few;omega
  have hcs:countP ss≤1000:=countP_le KI;have HMS:Hid (ss=p.map fun r=>numOf m r.head.name):=hms;have HRP:=hide hp;obtain⟨w2,hw2⟩:∃w2,w2=w1.alloc (.cells #[.int .i64 0,.int .i64 (ea:Nat)] 75):=⟨_,rfl⟩;have hL2:Later w1 w2:=by rw[hw2];exact(Later.refl _).alloc _
  have hB2:Below w.heap.size w w2:=ak HB1.out hL2.below HB1.out.size;have HFC:=hide (rT p hp (.slice pa p.length pc) (.slice fa l.length fc) l w2 (Kind.aS HV.out hB2) (HF.out.below hB2));obtain⟨fx,fe,hfe⟩:∃fx fe,fE p l=(fx,fe):=⟨_,_,rfl⟩;rw[hfe] at HFC;have HFE:=hide hfe;have HB2:=hide hB2;have HU2:=hide (Kind.aH HU.out hL2);have HSm:=hide KI;have HW2:=hide hw2;clear hw0 hms hdm hlm hsm hp KI hL2 hB2 hfe hw2 HB1 HU
  go_wp2_with fail
  rw[←HW2.out];refine HFC.out.mono ?_;rintro e w3 ⟨rfl,hB3⟩;dsimp only;have HB3:Hid (Below w.heap.size w w3):=ak HB2.out hB3 HB2.out.size;have HU3:=hide (Kind.aS HU2.out hB3);clear hB3 HFC HW2 HB2 HU2
  by_cases h1:fx=0
  ·subst h1;have hgood:GoodS p l:=oD (by rw[HFE.out]);have HX:Hid (lD p l=gZ p ss (countP ss) 0 l):=by show _=_;unfold lD;rw[HSE.out,HFE.out];simp
   obtain⟨w4,hw4⟩:∃w4,w4=w3.alloc (.cells #[.int .i64 0,.int .i64 fe] 75):=⟨_,rfl⟩;have hL4:Later w3 w4:=by rw[hw4];exact(Later.refl _).alloc _
   have hB4:Below w.heap.size w w4:=ak HB3.out hL4.below HB3.out.size;have HOw:=hide (Sm (.slice fa l.length fc) l w4 (HF.out.below hB4));have HB4:=hide hB4;have HU4:=hide (Kind.aH HU3.out hL4);have HG:=hide hgood;have Lu:=hgood.few;have HW4:=hide hw4;clear hgood hL4 hB4 hw4 HB3 HU3 HSE HFE
   go_wp2_with fail
   rw[←HW4.out];refine HOw.out.mono ?_;rintro e w5 ⟨v5,rfl,hO5,hL5⟩;have HF5:Hid (Facts w5 v5 l):=hO5.facts (by omega);have HB5:Hid (Below w.heap.size w w5):=ak HB4.out hL5.below HB4.out.size;have HU5:=hide (Kind.aH HU4.out hL5);have HCn:=hide (Jv ss (.slice ua ss.length uc) w5 HU5.out HSm.out);obtain⟨a5,c5,rfl⟩:=aD HF5.out;clear hO5 hL5 HOw HW4 HB4 HU4
   go_wp2_with fail
   refine HCn.out.mono ?_;rintro e w6 ⟨rfl,hL6⟩;have HF6:Hid (Facts w6 (.slice a5 l.length c5) l):=HF5.out.later hL6;have HB6:Hid (Below w.heap.size w w6):=ak HB5.out hL6.below HB5.out.size;have HU6:=hide (Kind.aH HU5.out hL6);have QH:Hid (Below w6.heap.size w6 w6):=Below.refl _ _;clear hL6 HCn HF5 HB5 HU5;generalize hc:countP ss=c at*;have HCC:=hide hc;clear hc;go_wp2
   go_loopg [9,34] c (fun g v9 i wr=>∃j k:Nat,k=g∧j+k=c∧i=.int .i64 j∧∃L,Hid (Facts wr v9 L)∧Hid (GoodS p L)∧Hid (Below w6.heap.size w6 wr)∧Hid (lD p l=gZ p ss k j L))
   case atStart=>exact⟨0,c,rfl,by omega,rfl,l,HF6,HG,QH,HX⟩
   case round=>
    clear HF6 HG QH HX;obtain⟨j,k,hkg,hj,rfl,L,HFr,HG,HBr,HX⟩:=hrel;have GN:Below w.heap.size w wr:=ak HB6.out HBr.out HB6.out.size
    by_cases hlt:j<c
    ·obtain⟨k',rfl⟩:∃k',k=k'+1:=⟨k-1,by omega⟩;have hltz:(j:Int)<(c:Int):=by omega
     have hUr:=Kind.aS HU6.out HBr.out;obtain⟨va,vc,hva⟩:=aD HFr.out;subst hva;have hOC:=O4 p HRP.out (fun r=>numOf m r.head.name) j L (.slice pa p.length pc) (.slice ua ss.length uc) (.slice va L.length vc) wr (Kind.aS HV.out GN) (by rw[←HMS.out];exact hUr) HFr.out HG.out;rw[←HMS.out] at hOC;have HOC:=hide hOC;obtain⟨er,S,hS⟩:∃er S,dI p ss (j:Int) 201 L=(er,S):=⟨_,_,rfl⟩;rw[hS] at HOC;have hX:lD p l=if er≠0 then(er,[]) else gZ p ss k' (j+1) S:=by rw[HX.out,gZ,hS]
     have HXX:=hide hX;have NU:=hide GN;clear hUr hOC hS hX HX GN
     go_wp2_with fail
     refine HOC.out.mono ?_;rintro e w7 ⟨v7,er',rfl,⟨her,hT1,hT2⟩,hG7,hB7⟩;dsimp only at her hT1 hT2 hG7⊢;have O5:=her.symm;clear her;subst O5;have HB7:Hid (Below w.heap.size w w7):=ak NU.out hB7 NU.out.size;have S9:Hid (Below w6.heap.size w6 w7):=ak HBr.out hB7 HBr.out.size;clear HOC hB7
     by_cases he:er=0
     ·subst he;have HF7:=hide (hT2 rfl);have HG7:=hide (hG7 rfl);have HX7:Hid (lD p l=gZ p ss k' (j+1) S):=by show _=_;rw[HXX.out,if_neg (by simp)]
      obtain⟨a7,c7,rfl⟩:=aD HF7.out;clear hT1 hT2 hG7 HXX;go_wp2
      go_roundg k'
      case measure=>omega
      case rel=>exact⟨j+1,k',rfl,by omega,by go_num,S,HF7,HG7,S9,HX7⟩
     ·have e2:=hT1 he;subst e2;have HT:Hid (∀w',nG w' (.slice none 0 0) er (lD p l)):=fun w'=>by rw[HXX.out,if_pos he];exact⟨rfl,fun _=>rfl,fun h=>absurd h he⟩
      have hne:(er != 0)=true:=by simpa using he
      clear hT1 hT2 hG7 HXX;go_wp2;exact bodyPost_ret (v:=.tuple #[.slice none 0 0,.int .i64 er]) (by simp[results,Tryz.results22,go_sem]) rfl ⟨_,er,rfl,HT.out _,HB7.out⟩
    ·have hk0:k=0:=by omega
     have NU:=hide GN;obtain⟨va,vc,hva⟩:=aD HFr.out;subst hva;have HT:Hid (nG wr (.slice va L.length vc) 0 (lD p l)):=by
      show nG wr _ 0 (lD p l);rw[HX.out,hk0];exact⟨rfl,fun h=>absurd rfl h,fun _=>HFr.out⟩
     clear GN HX;go_wp2;exact bodyPost_ret (v:=.tuple #[.slice va L.length vc,.int .i64 0]) (by simp[results,Tryz.results22,go_sem]) rfl ⟨_,0,rfl,HT.out,NU.out⟩
  ·have HT:Hid (∀w',nG w' (.slice none 0 0) fx (lD p l)):=fun w'=>by unfold lD;rw[HSE.out,HFE.out];simp only[ne_eq,not_true_eq_false,if_false,h1,not_false_eq_true,if_true];exact⟨rfl,fun _=>rfl,fun h=>absurd h h1⟩
   have hne:(fx != 0)=true:=by simpa using h1
   have HB4:Hid (Below w.heap.size w (w3.alloc (.cells #[.int .i64 fx,.int .i64 fe] 75))):=ak HB3.out ((Later.refl _).alloc _).below HB3.out.size;clear HSE HFE h1 HV HF HU3;go_wp2
   go_quiet (fail)
   go_wp2;exact bodyPost_ret (v:=.tuple #[.slice none 0 0,.int .i64 fx]) (by simp[results,Tryz.results22,go_sem]) rfl ⟨_,fx,rfl,HT.out _,below_drewN HB4.out _⟩
 ·have HT:Hid (∀w',nG w' (.slice none 0 0) ex (lD p l)):=fun w'=>by unfold lD;rw[HSE.out];simp only[ne_eq,h0,not_false_eq_true,if_true];exact⟨rfl,fun _=>rfl,fun h=>absurd h h0⟩
  have hne:(ex != 0)=true:=by simpa using h0
  have HB4:Hid (Below w.heap.size w (w1.alloc (.cells #[.int .i64 ex,.int .i64 (ea:Nat)] 75))):=ak HB1.out ((Later.refl _).alloc _).below HB1.out.size;clear HSE h0 HV HF HU;go_wp2
  go_quiet (fail)
  go_wp2;exact bodyPost_ret (v:=.tuple #[.slice none 0 0,.int .i64 ex]) (by simp[results,Tryz.results22,go_sem]) rfl ⟨_,ex,rfl,HT.out _,below_drewN HB4.out _⟩
end Go.Proofs.YtafmbokfkbccaaaGreatDoor
