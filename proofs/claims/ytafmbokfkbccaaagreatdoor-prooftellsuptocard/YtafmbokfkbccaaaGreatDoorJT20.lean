import Derived.Test.YtafmbokfkbccaaaGreatDoorJT15
import Derived.Test.YtafmbokfkbccaaaGreatDoorJT19
import Derived.Test.YtafmbokfkbccaaaGreatDoorJT18
import Derived.Test.YtafmbokfkbccaaaGreatDoorJT16
namespace Go.Proofs.YtafmbokfkbccaaaGreatDoor
open Go.RowKit Go.Sort Go.Maps
theorem lH {f:au} (h:nG f):mP f:=
 ⟨by have:=jf h.1;omega,h.2.1,fun s hs=>by have:=jf (h.2.2 s hs);omega⟩
theorem mR {l:List au} (hw:∀f∈l,fI f=0) (hu:Up l):∀(n k:Nat),k+n=l.length→bV l n k=(0,0)
 |0,_,_=>rfl
 |n+1,k,h=>by
  have hk:k<l.length:=by omega
  unfold bV;have e1:fI (l.getD k aA)=0:=hw _ (by rw[List.getD_eq_getElem?_getD,List.getElem?_eq_getElem hk];exact List.getElem_mem hk);rw[if_neg (by rw[e1];simp),if_neg,mR hw hu n (k+1) (by omega)];rintro⟨h0,h1⟩;have:=List.pairwise_iff_getElem.1 hu (k-1) k (by omega) hk (by omega);rw[List.getD_eq_getElem?_getD,List.getD_eq_getElem?_getD,List.getElem?_eq_getElem (by omega),List.getElem?_eq_getElem hk] at h1;simp only[Option.getD_some] at h1;omega
theorem om {l:List au} (hu:Up l) (hr:∀f∈l,nG f) (hl:l.length≤200):aT l=(0,0):=by
 unfold aT;rw[if_neg (by omega)];exact mR (fun f hf=>ko.2 (hr f hf)) hu _ 0 (by omega)
theorem zm {p:List aD} {l:List au} (h:(aT l).1=0) (hf:∀f∈l,Ch p f=true):GoodS p l:=by
 obtain⟨h1,h2,h3⟩:=set_right h;exact⟨h2,fun f hf=>ko.1 (h3 f hf),h1,hf⟩
theorem xP {p:List aD} (hp:dR p) {L:List au} (hL:GoodS p L):∀r∈p,pU r.body L []=0:=fun r hr=>by
 unfold pU;rw[if_neg (by simp[(hp.rules r hr).body]),if_neg (by rw[om hL.up hL.right hL.few];simp)]
 rfl
theorem uM {p:List aD} (hp:dR p) {L:List au} (hL:GoodS p L):∀r∈p,∀R,lM (fun _=>L) r.body=some R→∀l∈R,∀f,bA r.head l=some f→mP f:=fun r hr _ hR l hl _ hf=>
 lH (xg (hp.rules r hr) hL.right ((qG (fC (hp.rules r hr)) hR l).1 hl) hf).1
set_option maxRecDepth 100000 in
set_option maxHeartbeats 2000000 in
theorem TQ (p:List aD) (hp:dR p) (σ:aD→Nat) (n:Int) (fs:List au) (pv sv fv:Value) (w:World) (hpv:eU.sl bg w pv p) (hsv:lY.sl bg w sv (p.map σ)) (hf:Facts w fv fs) (hg:GoodS p fs):
  Calls Tryz.prog 69 #[pv,sv,.int .i64 n,fv] w fun e w'=>∃v' er,e=.returned (.tuple #[v',.int .i64 er])∧lZ w' v' er (dO p (p.map σ) n 201 fs)∧((dO p (p.map σ) n 201 fs).1=0→GoodS p (dO p (p.map σ) n 201 fs).2)∧Below w.heap.size w w':=by
 generalize hss:p.map σ=ss at*;have HSS:=hide hss;clear hss;obtain⟨pa,pc,rfl⟩:=Kind.slice hpv;obtain⟨sa,sc,rfl⟩:=Kind.slice hsv;have HP:=hide hpv;have HSV:=hide hsv;have HF:=hide hf;have HG:=hide hg;have HRP:=hide hp;have Oj:=hg.few;clear hpv hsv hf hg hp
 go_enter Tryz.func69,Tryz.ntmps69
 go_wp2
 go_loopg [3] 201 (fun g v wr=>∃k L,k=g∧200<L.length+k∧Hid (Facts wr v L)∧Hid (GoodS p L)∧Hid (Below w.heap.size w wr)∧Hid (dO p ss n 201 fs=dO p ss n k L))
 case atStart=>exact⟨201,fs,rfl,by omega,HF,HG,Below.refl _ _,(rfl:_=_)⟩
 case round=>
  clear HF HG;obtain⟨k,L,hkg,hk,HF,HG,HBr,HE⟩:=hrel;have hL:=HG.out.few;obtain⟨k',rfl⟩:∃k',k=k'+1:=⟨k-1,by omega⟩;have HC:=hide (QJ p ss n L _ _ _ wr (Kind.aF HP.out HBr.out) (Kind.aF HSV.out HBr.out) HF.out HRP.out.few hL (xP HRP.out HG.out) (uM HRP.out HG.out) (fun f hf=>lH (HG.out.right f hf)));obtain⟨la,lc,rfl⟩:=aC HF.out;obtain⟨er,S,hS⟩:∃er S,bZ p ss n L=(er,S):=⟨_,_,rfl⟩;have hst:dO p ss n 201 fs=if er≠0 then(er,[]) else if S.length=L.length then(0,S) else dO p ss n k' S:=by
   rw[HE.out,dO,hS]
  rw[hS] at HC;have HSt:=hide hst;have HGS:Hid (er=0→GoodS p S∧L.length≤S.length):=fun e=>by
   subst e;obtain⟨g1,g2⟩:=jr HRP.out σ HG.out (by rw[HSS.out];exact hS);exact⟨g1,E8 HG.out.up g2⟩
  clear hst hS HE
  go_wp2_with fail
  refine HC.out.mono ?_;rintro e w2 ⟨v2,er',rfl,⟨her,hT1,hT2⟩,hB2⟩;dsimp only at her hT1 hT2⊢;have Ol:=her.symm;clear her;subst Ol;have HB2:Hid (Below w.heap.size w w2):=aj HBr.out hB2 HBr.out.size;clear HC hB2
  by_cases h0:er=0
  ·subst h0;have hF2:=hT2 rfl;have HF2:=hide hF2;obtain⟨hgS,hlS⟩:=HGS.out rfl;have VN:=hide hgS;obtain⟨xa,xc,rfl⟩:=aC hF2;have hSt:=HSt.out;rw[if_neg (by simp)] at hSt
   by_cases hlen:S.length=L.length
   ·rw[if_pos hlen] at hSt;have HR:=hide hSt;have hli:((S.length:Nat):Int)=(L.length:Nat):=by omega
    clear hSt hlen hT1 hT2 hF2 hgS HSt HGS;go_wp2;exact bodyPost_ret (v:=.tuple #[.slice xa S.length xc,.int .i64 0]) (by simp[results,Tryz.results69,go_sem]) rfl ⟨_,0,rfl,by rw[HR.out];exact⟨rfl,fun h=>absurd rfl h,fun _=>HF2.out⟩,by rw[HR.out];exact fun _=>VN.out,HB2.out⟩
   ·rw[if_neg hlen] at hSt;have HR:=hide hSt;have hli:¬((S.length:Nat):Int)=(L.length:Nat):=by omega
    have hk':200<S.length+k':=by omega
    clear hSt hlen hT1 hT2 hF2 hgS HSt HGS;go_wp2
    go_roundg k'
    case measure=>omega
    case rel=>exact⟨k',S,rfl,hk',HF2,VN,HB2,HR⟩
  ·have e2:=hT1 h0;subst e2;have HR:Hid (dO p ss n 201 fs=(er,[])):=by show _=_;rw[HSt.out,if_pos h0]
   have HT:Hid (∀w',lZ w' (.slice none 0 0) er (dO p ss n 201 fs)∧((dO p ss n 201 fs).1=0→GoodS p (dO p ss n 201 fs).2)):=fun w'=>by rw[HR.out];exact⟨⟨rfl,fun _=>rfl,fun h=>absurd h h0⟩,fun h=>absurd h h0⟩
   have hne:(er != 0)=true:=by simpa using h0
   clear hT1 hT2 HSt HGS HR;go_wp2;exact bodyPost_ret (v:=.tuple #[.slice none 0 0,.int .i64 er]) (by simp[results,Tryz.results69,go_sem]) rfl ⟨_,er,rfl,(HT.out _).1,(HT.out w2).2,HB2.out⟩
end Go.Proofs.YtafmbokfkbccaaaGreatDoor
namespace Go.Proofs.YtafmbokfkbccaaaGreatDoor
open Go.RowKit Go.Sort Go.Maps
abbrev uN:=Bs→Option Int
def uN.put (m:uN) (s:Bs) (n:Int):uN:=fun t=>if t=s then some n else m t
def kr (m:uN) (a:aI):uN:=match m a.name with
 |none=>m.put a.name a.terms.length
 |some n=>if n≠a.terms.length then m.put a.name (-1) else m.put a.name a.terms.length
def oo (A:List aI) (m:uN):Prop:=∀s,(m s=none↔∀a∈A,a.name≠s)∧∀n,m s=some n→∀k:Nat,n=(k:Int)↔∀a∈A,a.name=s→a.terms.length=k
theorem oo.nil:oo [] (fun _=>none):=fun s=>⟨by simp,fun n h=>by cases h⟩
theorem oo.step {A:List aI} {m:uN} (h:oo A m) (a:aI):oo (A++[a]) (kr m a):=by
 have key:∀x:Int,kr m a=m.put a.name x→(∀k:Nat,x=(k:Int)↔∀b∈A++[a],b.name=a.name→b.terms.length=k)→oo (A++[a]) (kr m a):=fun x hx hk s=>by
  rw[hx];unfold uN.put
  by_cases e:s=a.name
  ·subst e;simp only[if_true];refine⟨⟨fun h=>by simp at h,fun h=>absurd rfl (h a (by simp))⟩,fun n hn=> ?_⟩;cases hn;exact hk
  ·simp only[if_neg e];obtain⟨h1,h2⟩:=h s;refine⟨by rw[h1];exact⟨fun h b hb=>(List.mem_append.1 hb).elim (h b) (fun hb=>by simp only[List.mem_singleton] at hb;subst hb;exact fun e'=>e e'.symm),fun h b hb=>h b (by simp[hb])⟩,fun n hn k=> ?_⟩;rw[h2 n hn k];exact⟨fun h b hb hbs=>(List.mem_append.1 hb).elim (fun hb=>h b hb hbs) (fun hb=>by simp only[List.mem_singleton] at hb;subst hb;exact absurd hbs.symm e),fun h b hb=>h b (by simp[hb])⟩
 obtain⟨h1,h2⟩:=h a.name;unfold kr at key⊢;cases e:m a.name with
 |none=>
  rw[e] at key;refine key _ rfl fun k=> ?_;have hn:=h1.1 e
  constructor
  ·intro hk b hb hbn;rcases List.mem_append.1 hb with hb|hb
   ·exact absurd hbn (hn b hb)
   ·simp only[List.mem_singleton] at hb;subst hb;omega
  ·intro hk;have:=hk a (by simp) rfl;omega
 |some n=>
  rw[e] at key;dsimp only at key⊢;have hA:=h2 n e
  by_cases hne:n≠a.terms.length
  ·rw[if_pos hne] at key⊢;refine key _ rfl fun k=>⟨fun hk=>by omega,fun hk=> ?_⟩
   exfalso
   have h3:=hk a (by simp) rfl;have h4:=(hA k).2 fun b hb=>hk b (by simp[hb]);omega
  ·rw[if_neg hne] at key⊢;have hne:n=a.terms.length:=by omega
   refine key _ rfl fun k=> ?_
   constructor
   ·intro hk b hb hbn;rcases List.mem_append.1 hb with hb|hb
    ·exact(hA k).1 (by omega) b hb hbn
    ·simp only[List.mem_singleton] at hb;subst hb;omega
   ·intro hk;have:=hk a (by simp) rfl;omega
def oq (w:World) (b n:Nat) (m:uN):Prop:=∃D:DataW Unit,w.ownsMap Tryz.prog 9 (plainElem Tryz.prog 3) b n D∧∀s,Maps.has D (.string s)=(m s).isSome∧D.atKey (.string s) (.lit (.int .i64 0))=.lit (.int .i64 ((m s).getD 0))
theorem oq.made (w:World):oq (w.alloc (.map #[] 0)) w.heap.size 0 (fun _=>none):=⟨.map [],World.ownsMap_made _ _ _ _,fun _=>⟨rfl,rfl⟩⟩
theorem oq.lt {w:World} {b n:Nat} {m:uN} (h:oq w b n m):b<w.heap.size:=by obtain⟨D,h,_⟩:=h;exact h.lt
theorem oq.block {w w':World} {b n:Nat} {m:uN} (h:oq w b n m) (e:w'.heap[b]?=w.heap[b]?):oq w' b n m:=by obtain⟨D,h,hf⟩:=h;exact⟨D,dP h e,hf⟩
theorem oq.later {w w':World} {b n:Nat} {m:uN} (h:oq w b n m) (k:Later w w'):oq w' b n m:=h.block (k.block h.lt)
set_option maxRecDepth 100000 in
theorem oq.look {w:World} {b n:Nat} {m:uN} (h:oq w b n m) {s:Bs} (hs:s.length≤maxLen):
  (Instr.lookup 197 (.map (some b)) (.string (bs s)) true).run Tryz.prog w=.ok (.tuple #[.int .i64 ((m s).getD 0),.bool (m s).isSome]) w:=by
 obtain⟨D,hown,hf⟩:=h;obtain⟨v,ps,hrun,hv⟩:=hown.look_ok (string_keyed Tryz.underlying9) (t:=197) Tryz.underlying197 (lF _) (plainElem_int Tryz.underlying3 (by decide)) (lQ Tryz.underlying9 hs);rw[(hf s).2] at hv;obtain⟨c,rfl,hc,_⟩:=plainElem_int_inv Tryz.underlying3 hv;simp only[Prod.mk.injEq] at hc;have hc:=hc.1
 injection hc with hc
 injection hc with _ hc
 subst hc;refine hrun.trans ?_;rw[(hf s).1]
theorem oq.store {w:World} {b n:Nat} {m:uN} (h:oq w b n m) (hn:n<maxLen) {s:Bs} (hs:s.length≤maxLen) {x:Int} (hx:(Lit.int .i64 x).wf=true):
  ∃w',(Instr.mapUpdate 197 (.map (some b)) (.string (bs s)) (.int .i64 x)).run Tryz.prog w=.ok () w'∧oq w' b (n+1) (m.put s x)∧w.grownBy w' (some b):=by
 obtain⟨D,hown,hf⟩:=h;obtain⟨w',hrun,r1,r2⟩:=hown.update (string_keyed Tryz.underlying9) (t:=197) Tryz.underlying197 hn (lQ Tryz.underlying9 hs) (plainElem_int Tryz.underlying3 hx);refine⟨w',hrun,⟨_,r1,fun t=> ?_⟩,r2⟩
 by_cases e:t=s
 ·subst e;exact⟨by rw[has_put_same hown.isMap (Iu _)];simp[uN.put],by rw[atKey_put_same hown.isMap (Iu _)];simp[uN.put]⟩
 ·exact⟨by rw[has_put_other (nI e),(hf t).1];simp[uN.put,e],by rw[atKey_put_other (nI e),(hf t).2];simp[uN.put,e]⟩
set_option maxRecDepth 100000 in
set_option maxHeartbeats 1000000 in
theorem I9 (b n:Nat) (m:uN) (a:aI) (v:Value) (w:World) (h:oq w b n m) (hv:eH.sl bg w v a.terms) (hs:a.name.length≤maxLen) (hn:n<maxLen):
  Calls Tryz.prog 193 #[.map (some b),.agg #[.bool a.no,.string (bs a.name),v]] w fun e w'=>(∃u,e=.returned u)∧oq w' b (n+1) (kr m a)∧Tn b w w':=by
 obtain⟨sa,cap,rfl⟩:=Kind.slice hv;have hl0:=hv.1.1;clear hv;have h1:=h.later ((Later.refl w).alloc (.cells #[.bool a.no,.string (bs a.name),.slice sa a.terms.length cap] 85));have hr:=h1.look hs;have hblt:=h.lt;cases hm:m a.name with
 |none=>
  obtain⟨w1,hst,hm1,hg⟩:=h1.store hn hs (x:=(a.terms.length:Nat)) (uI (by omega));rw[hm] at hr;have F:Hid (kr m a=m.put a.name a.terms.length):=by show _=_;unfold kr;rw[hm]
  have HM:Hid (oq w1 b (n+1) (m.put a.name a.terms.length)):=hm1;have HT:Hid (Tn b w w1):=(Tn.of_below (p:=b) ((Later.refl w).alloc _).below).trans (gX hg);have hst':=hide hst;clear h h1 hm1 hg hst hm;simp only[Option.getD_none,Option.isSome_none] at hr;generalize bs a.name=nm at*;generalize a.no=no at*
  go_enter Tryz.func193,Tryz.ntmps193
  go_wp2_with (first
   |(at_mapUpdate;refine aN _ rfl _ _ _ _ rfl _ _ _ _ rfl rfl rfl (bL hst') ?_)
   |go_in)
  go_end0;exact⟨⟨_,rfl⟩,by rw[F.out];exact HM.out,HT.out⟩
 |some k=>
  rw[hm] at hr;simp only[Option.getD_some,Option.isSome_some] at hr
  by_cases hne:k≠a.terms.length
  ·obtain⟨w1,hst,hm1,hg⟩:=h1.store hn hs (x:= -1) (by decide);have F:Hid (kr m a=m.put a.name (-1)):=by show _=_;unfold kr;rw[hm];exact if_pos hne
   have HM:Hid (oq w1 b (n+1) (m.put a.name (-1))):=hm1;have HT:Hid (Tn b w w1):=(Tn.of_below (p:=b) ((Later.refl w).alloc _).below).trans (gX hg);have hst':=hide hst;have hq:(k != (a.terms.length:Int))=true:=by simpa using hne
   clear h h1 hm1 hg hst hm hne;generalize bs a.name=nm at*;generalize a.no=no at*
   go_enter Tryz.func193,Tryz.ntmps193
   go_wp2_with (first
    |(at_mapUpdate;refine aN _ rfl _ _ _ _ rfl _ _ _ _ rfl rfl rfl (bL hst') ?_)
    |go_in)
   exact bodyPost_ret (results_none rfl _ _ _) rfl ⟨⟨_,rfl⟩,by rw[F.out];exact HM.out,HT.out⟩
  ·have hk:k=(a.terms.length:Int):=by omega
   subst hk;obtain⟨w1,hst,hm1,hg⟩:=h1.store hn hs (x:=(a.terms.length:Nat)) (uI (by omega));have F:Hid (kr m a=m.put a.name a.terms.length):=by show _=_;unfold kr;rw[hm];exact if_neg (by simp)
   have HM:Hid (oq w1 b (n+1) (m.put a.name a.terms.length)):=hm1;have HT:Hid (Tn b w w1):=(Tn.of_below (p:=b) ((Later.refl w).alloc _).below).trans (gX hg);have hst':=hide hst;clear h h1 hm1 hg hst hm hne;generalize bs a.name=nm at*;generalize a.no=no at*
   go_enter Tryz.func193,Tryz.ntmps193
   go_wp2_with (first
    |(at_mapUpdate;refine aN _ rfl _ _ _ _ rfl _ _ _ _ rfl rfl rfl (bL hst') ?_)
    |go_in)
   go_end0;exact⟨⟨_,rfl⟩,by rw[F.out];exact HM.out,HT.out⟩
def uO (m:uN) (f:au):Bool:=match m (raw f.1) with|none=>true|some k=>decide (k=f.2.length)
set_option maxRecDepth 100000 in
set_option maxHeartbeats 1000000 in
theorem Om (b n:Nat) (m:uN) (f:au) (v:Value) (w:World) (h:oq w b n m) (hv:dH w v f) (hs:f.1.size≤maxLen):
  Calls Tryz.prog 122 #[.map (some b),v] w fun e w'=>e=.returned (.bool (uO m f))∧Later w w':=by
 unfold uO;obtain⟨u,rfl,hu⟩:=hv;obtain⟨sa,cap,rfl⟩:=bB hu;obtain⟨nm,args⟩:=f;dsimp only at*;have h1:=h.later ((Later.refl w).alloc (.cells #[.string nm,.slice sa args.length cap] 27));have hr:=h1.look (s:=raw nm) (by rw[cK];exact hs);rw[iX] at hr;clear h h1 hu hs;cases hm:m (raw nm) with
 |none=>
  rw[hm] at hr;simp only[Option.getD_none,Option.isSome_none] at hr
  go_enter Tryz.func122,Tryz.ntmps122
  go_wp2;go_ret;exact⟨rfl,(by repeat (first|exact Later.refl _|assumption|refine Later.drewN ?_ _|refine Later.drew ?_|refine Later.alloc ?_ _|refine Later.grow ?_ _))⟩
 |some k=>
  rw[hm] at hr;simp only[Option.getD_some,Option.isSome_some] at hr
  go_enter Tryz.func122,Tryz.ntmps122
  go_wp2;go_ret;refine⟨bW ?_,(by repeat (first|exact Later.refl _|assumption|refine Later.drewN ?_ _|refine Later.drew ?_|refine Later.alloc ?_ _|refine Later.grow ?_ _))⟩;rw[Bool.eq_iff_iff];simp
end Go.Proofs.YtafmbokfkbccaaaGreatDoor
namespace Go.Proofs.YtafmbokfkbccaaaGreatDoor
open Go.RowKit Go.Sort Go.Maps
theorem zo (p q:List aD):gF (p++q)=gF p++gF q:=by simp[gF]
theorem oq.mono {w:World} {b n n':Nat} {m:uN} (h:oq w b n m) (hn:n≤n'):oq w b n' m:=by obtain⟨D,h,hf⟩:=h;exact⟨D,h.mono hn,hf⟩
set_option maxRecDepth 100000 in
set_option maxHeartbeats 4000000 in
theorem Ja (p:List aD) (v:Value) (w:World) (hv:eU.sl bg w v p) (h16:p.length≤16) (h5:∀r∈p,r.body.length≤5) (hs:∀a∈gF p,a.name.length≤12):
  Calls Tryz.prog 121 #[v] w fun e w'=>∃n m,e=.returned (.map (some w.heap.size))∧oq w' w.heap.size n m∧oo (gF p) m∧Below w.heap.size w w':=by
 obtain⟨pa,pc,rfl⟩:=Kind.slice hv;have HV:=hide hv;have HS:=hide hs;have H5:=hide h5;have HM0:Hid (oq (w.alloc (.map #[] 0)) w.heap.size 0 (fun _=>none)):=oq.made w;have HB0:Hid (Below w.heap.size w (w.alloc (.map #[] 0))):=((Later.refl w).alloc _).below;have hmm:= @run_makeMap Tryz.prog;clear hv hs h5
 go_enter Tryz.func121,Tryz.ntmps121
 go_wp2
 go_loopg [11] p.length (fun g i wr=>∃j:Nat,j+g=p.length∧i=.int .i64 j∧w.heap.size<wr.heap.size∧∃m,Hid (oq wr w.heap.size (6*j) m)∧Hid (oo (gF (p.take j)) m)∧Hid (Below w.heap.size w wr))
 case atStart=>exact⟨0,by omega,rfl,by simp,_,HM0,oo.nil,HB0⟩
 case round=>
  clear HM0 HB0 hmm;obtain⟨j,hj,rfl,hwr,m,HM,HO,HBr⟩:=hrel;obtain⟨wo,hwo⟩:∃wo,wo=wr:=⟨_,rfl⟩;subst hwo
  by_cases hlt:j<p.length
  ·obtain⟨r,hr⟩:∃x,p[j]?=some x:=⟨_,List.getElem?_eq_getElem hlt⟩;have hrm:r∈p:=List.mem_of_getElem? hr;obtain⟨b1,o1,_,rfl,hb1,⟨tv,bv,rfl,htv,hbv⟩,hc⟩:=Kind.bQ HV.out hr;have d0:wo.cell? ⟨b1,o1+j*4,none⟩=some (.bool r.head.no):=by rw[HBr.out.cell (p:=⟨b1,o1+j*4,none⟩) hb1];exact hc 0 _ rfl
   have d1:wo.cell? ⟨b1,o1+j*4+1,none⟩=some (.string (bs r.head.name)):=by rw[HBr.out.cell (p:=⟨b1,o1+j*4+1,none⟩) hb1];exact hc 1 _ rfl
   have d2:wo.cell? ⟨b1,o1+j*4+2,none⟩=some tv:=by rw[HBr.out.cell (p:=⟨b1,o1+j*4+2,none⟩) hb1];exact hc 2 _ rfl
   have d3:wo.cell? ⟨b1,o1+j*4+3,none⟩=some bv:=by rw[HBr.out.cell (p:=⟨b1,o1+j*4+3,none⟩) hb1];exact hc 3 _ rfl
   obtain⟨ta,tc,rfl⟩:=Kind.slice htv;obtain⟨ba,bc,rfl⟩:=Kind.slice hbv;have hsz:=HBr.out.size;have htk:gF (p.take (j+1))=gF (p.take j)++(r.head::r.body):=by
    rw[List.take_add_one,hr,zo];simp[gF]
   have TR:∀a∈r.head::r.body,a.name.length≤12:=fun a ha=>HS.out a (List.mem_flatMap.2 ⟨r,hrm,ha⟩);have hb5:=H5.out r hrm;have MV:=eP.made w.heap.size wo (.bool r.head.no) (.string (bs r.head.name)) (.slice ta r.head.terms.length tc) (.slice ba r.body.length bc);obtain⟨wb,hwb⟩:∃wb,wb=wo.alloc (.cells #[.bool r.head.no,.string (bs r.head.name),.slice ta r.head.terms.length tc,.slice ba r.body.length bc] 87):=⟨_,rfl⟩;rw[←hwb] at MV;have hLb:Later wo wb:=by rw[hwb];exact(Later.refl _).alloc _
   have hBb:Below w.heap.size w wb:=aj HBr.out hLb.below hsz;have HC:=hide (I9 w.heap.size (6*j) m r.head (.slice ta r.head.terms.length tc) wb (HM.out.later hLb) (Kind.aF htv hBb) (by have:=TR r.head (by simp);unfold maxLen;omega) (by unfold maxLen;omega));have HBx:=hide MV;have HBb:=hide hBb;have HBV:=hide hbv;have HTK:=hide htk;have HRA:=hide TR;have HWb:=hide hwb;clear hc hr htv hbv htk TR MV hLb hBb hwb hrm;generalize bs r.head.name=nm at*;generalize hno:r.head.no=no at*
   go_wp2_with fail
   rw[←HWb.out];refine HC.out.mono ?_;rintro e w2 ⟨⟨u2,rfl⟩,hM2,hT2⟩;have HX2:=hide (HBx.out.turned hT2 hwr);have HM2:=hide hM2;have HO2:Hid (oo (gF (p.take j)++(r.head::r.body.take 0)) (kr m r.head)):=by show oo _ _;have:=HO.out.step r.head;simpa using this
   have HT2:Hid (Tn w.heap.size wb w2):=hT2;have x3:w2.cell? ⟨wo.heap.size,3,none⟩=some (.slice ba r.body.length bc):=HX2.out.z3;clear hM2 hT2 HC hno;go_wp2
   go_loopg [22] r.body.length (fun g i wz=>∃k:Nat,k+g=r.body.length∧i=.int .i64 k∧∃m',Hid (oq wz w.heap.size (6*j+1+k) m')∧Hid (oo (gF (p.take j)++(r.head::r.body.take k)) m')∧Hid (Tn w.heap.size wb wz))
   case atStart=>exact⟨0,by omega,rfl,_,HM2,HO2,HT2⟩
   case round=>
    clear HM2 HO2 HT2 x3;obtain⟨k,hk,rfl,m',HM',HO',HT'⟩:=hrel;have hbs:w.heap.size≤wb.heap.size:=by have:=HBb.out.size;omega
    have hBz:Below w.heap.size wb wr:=HT'.out.below (Nat.le_refl _) hbs;have hwz:=HT'.out.size;have hww:wo.heap.size<wb.heap.size:=HBx.out.lt
    by_cases hltk:k<r.body.length
    ·obtain⟨t,ht⟩:∃x,r.body[k]?=some x:=⟨_,List.getElem?_eq_getElem hltk⟩;obtain⟨b2,o2,_,rfl,hb2,⟨sv,rfl,hsv⟩,hc⟩:=Kind.bQ HBV.out ht;have hBw:Below w.heap.size w wr:=HBb.out.trans hBz;have e0:wr.cell? ⟨b2,o2+k*3,none⟩=some (.bool t.no):=by rw[hBw.cell (p:=⟨b2,o2+k*3,none⟩) hb2];exact hc 0 _ rfl
     have e1:wr.cell? ⟨b2,o2+k*3+1,none⟩=some (.string (bs t.name)):=by rw[hBw.cell (p:=⟨b2,o2+k*3+1,none⟩) hb2];exact hc 1 _ rfl
     have e2:wr.cell? ⟨b2,o2+k*3+2,none⟩=some sv:=by rw[hBw.cell (p:=⟨b2,o2+k*3+2,none⟩) hb2];exact hc 2 _ rfl
     have hbr:b2<wr.heap.size:=by omega
     obtain⟨sva,svc,rfl⟩:=Kind.slice hsv;have hL5:Later wr (wr.alloc (.cells #[.bool t.no,.string (bs t.name),.slice sva t.terms.length svc] 85)):=(Later.refl _).alloc _;have htk:r.head::r.body.take (k+1)=(r.head::r.body.take k)++[t]:=by rw[List.take_add_one,ht];rfl
     have HC5:=hide (I9 w.heap.size (6*j+1+k) m' t (.slice sva t.terms.length svc) (wr.alloc (.cells #[.bool t.no,.string (bs t.name),.slice sva t.terms.length svc] 85)) (HM'.out.later hL5) (Kind.aF hsv (aj hBw hL5.below hBw.size)) (by have:=HRA.out t (List.mem_cons_of_mem _ (List.mem_of_getElem? ht));unfold maxLen;omega) (by unfold maxLen;omega));have HO5:Hid (oo (gF (p.take j)++(r.head::r.body.take (k+1))) (kr m' t)):=by show oo _ _;rw[htk,←List.append_assoc];exact HO'.out.step t
     have HL5:=hide hL5;clear hc ht hsv hBw hL5 htk hBz;generalize bs t.name=nm5 at*;generalize t.no=no5 at*
     go_wp2_with fail
     refine HC5.out.mono ?_;rintro e w6 ⟨⟨u6,rfl⟩,hM6,hT6⟩;have HM6:Hid (oq w6 w.heap.size (6*j+1+(k+1)) (kr m' t)):=hM6;have HT6:Hid (Tn w.heap.size wb w6):=(HT'.out.trans (Tn.of_below HL5.out.below)).trans hT6;clear hM6 hT6 HC5;go_wp2
     go_roundg (r.body.length- (k+1))
     case measure=>omega
     case rel=>exact⟨k+1,by omega,by go_num,_,HM6,HO5,HT6⟩
    ·have hk':r.body.take k=r.body:=List.take_of_length_le (by omega);rw[hk',←HTK.out] at HO';have HB4:Hid (Below w.heap.size w wr):=HBb.out.trans hBz;have HM4:Hid (oq wr w.heap.size (6*(j+1)) m'):=HM'.out.mono (by omega);have hws:w.heap.size<wr.heap.size:=by omega
     clear hk' hBz;go_wp2
     go_roundg (p.length- (j+1))
     case measure=>omega
     case rel=>exact⟨j+1,by omega,by go_num,hws,m',HM4,HO',HB4⟩
  ·have hj':p.take j=p:=List.take_of_length_le (by omega);rw[hj'] at HO;clear hj';go_wp2;go_ret;exact⟨_,m,rfl,HM.out,HO.out,HBr.out⟩
def jT (p:List aD) (l:List au):Nat→Nat→Int×Int
 |0,_=>(0,0)
 |n+1,k=>if Ch p (l.getD k aA)=true then jT p l n (k+1) else(8,k)
def fq (p:List aD) (l:List au):Int×Int:=if(aT l).1≠0 then aT l else jT p l l.length 0
theorem rQ {p:List aD} {l:List au}:∀(n k:Nat),(jT p l n k).1=0→∀i,k≤i→i<k+n→Ch p (l.getD i aA)=true
 |0,k,_,i,h1,h2=>by omega
 |n+1,k,h,i,h1,h2=>by
  unfold jT at h;split at h
  ·rename_i hf
   by_cases e:i=k
   ·subst e;exact hf
   ·exact rQ n (k+1) h i (by omega) (by omega)
  ·simp at h
theorem nA {p:List aD} {l:List au} (h:(fq p l).1=0):GoodS p l:=by
 unfold fq at h;split at h
 ·rename_i h1;exact absurd h h1
 ·rename_i h1;refine zm (by simpa using h1) fun f hf=> ?_;obtain⟨i,hi,rfl⟩:=List.getElem_of_mem hf;have:=rQ l.length 0 h i (Nat.zero_le _) (by omega)
  rwa [List.getD_eq_getElem?_getD,List.getElem?_eq_getElem hi] at this
theorem Oo {p:List aD} {m:uN} (h:oo (gF p) m) (f:au):uO m f=Ch p f:=by
 unfold uO;obtain⟨h1,h2⟩:=h (raw f.1);rw[Bool.eq_iff_iff,Dx];cases e:m (raw f.1) with
 |none=>
  simp only[true_iff];intro a ha hb;exact absurd (by rw[←hb,jC]) (h1.1 e a ha)
 |some k=>
  simp only[decide_eq_true_eq];rw[h2 k e f.2.length];exact⟨fun h a ha hb=>h a ha (by rw[←hb,jC]),fun h a ha hb=>h a ha (by rw[hb,iX])⟩
theorem Cz {p:List aD} (hp:dR p):(∀r∈p,r.body.length≤5)∧∀a∈gF p,a.name.length≤12:=by
 have hn:∀a:aI,aP a=0→a.name.length≤12:=fun a ha=>by
  have h1:=(gU ha).1;unfold isNamed at h1;simp only[Bool.and_eq_true,decide_eq_true_eq] at h1;exact h1.1.1
 have hb:∀l:List aI,bI l=0→∀a∈l,aP a=0:=fun l=>by
  induction l with
  |nil=>intro _ a ha;cases ha
  |cons x l ih=>
   intro h a ha;unfold bI at h;split at h
   ·rename_i hx;rcases List.mem_cons.1 ha with rfl|ha
    ·exact hx
    ·exact ih h a ha
   ·rename_i hx;exact absurd h hx
 have key:∀r∈p,r.body.length≤5∧∀a∈r.body,aP a=0:=fun r hr=>by
  have:=(hp.rules r hr).body;unfold aM at this;split at this
  ·cases this
  ·rename_i h5;split at this
   ·rename_i h0;exact⟨by omega,hb _ h0⟩
   ·rename_i h0;exact absurd this h0
 refine⟨fun r hr=>(key r hr).1,fun a ha=> ?_⟩;obtain⟨r,hr,ha⟩:=List.mem_flatMap.1 ha;rcases List.mem_cons.1 ha with rfl|ha
 ·exact hn _ (hp.rules r hr).head
 ·exact hn _ ((key r hr).2 a ha)
end Go.Proofs.YtafmbokfkbccaaaGreatDoor
namespace Go.Proofs.YtafmbokfkbccaaaGreatDoor
open Go.RowKit Go.Sort Go.Maps
set_option maxRecDepth 100000 in
set_option maxHeartbeats 4000000 in
theorem uP (p:List aD) (hp:dR p) (pv fv:Value) (l:List au) (w:World) (hv:eU.sl bg w pv p) (hf:Facts w fv l):
  Calls Tryz.prog 66 #[pv,fv] w fun e w'=>e=.returned (.agg #[.int .i64 (fq p l).1,.int .i64 (fq p l).2])∧Below w.heap.size w w':=by
 obtain⟨pa,pc,rfl⟩:=Kind.slice hv;obtain⟨a,cap,rfl,hln,hz⟩:=hf.addr;have hL0:Later w (w.alloc (.cells #[.int .i64 0,.int .i64 0] 75)):=(Later.refl w).alloc _;have hR0:(w.alloc (.cells #[.int .i64 0,.int .i64 0] 75)).heap[w.heap.size]?=some (.cells #[.int .i64 0,.int .i64 0] 75 (0,0)):=heap_alloc_new w _;have TS:=hide (TA (.slice a l.length cap) l (w.alloc (.cells #[.int .i64 0,.int .i64 0] 75)) (hf.later hL0));have HL0:=hide hL0;have HR0:=hide hR0;have HV:=hide hv;have HF:=hide hf;have HRP:=hide hp;clear hv hf hp hL0 hR0;obtain⟨ex,ea,hse⟩:∃ex ea,aT l=(ex,ea):=⟨_,_,rfl⟩;rw[hse] at TS;have HSE:=hide hse;clear hse
 go_enter Tryz.func66,Tryz.ntmps66
 go_wp2_with fail
 refine TS.out.mono ?_;rintro e w1 ⟨rfl,hL1⟩;dsimp only;have hs1:w.heap.size<w1.heap.size:=by have:=hL1.size;simp at this;omega
 have HR1:Hid (w1.heap[w.heap.size]?=some (.cells #[.int .i64 0,.int .i64 0] 75 (0,0))):=by show _=_;rw[hL1.block (by simp)];exact HR0.out
 have HL1:Hid (Later w w1):=HL0.out.trans hL1;clear hL1 TS HL0 HR0
 by_cases h0:ex=0
 ·subst h0;have HX:Hid (fq p l=jT p l l.length 0):=by show _=_;unfold fq;rw[HSE.out,if_neg (by simp)]
  have hsr:=set_right (l:=l) (by rw[HSE.out]);have HSR:=hide hsr.2.2;obtain⟨hn5,VO⟩:=Cz HRP.out;obtain⟨w2,hw2⟩:∃w2,w2=w1.alloc (.cells #[.int .i64 0,.int .i64 ea] 75):=⟨_,rfl⟩;have hL2:Later w1 w2:=by rw[hw2];exact(Later.refl _).alloc _
  have hB2:Below w.heap.size w w2:=(HL1.out.trans hL2).below;have HW:=hide (Ja p (.slice pa p.length pc) w2 (Kind.aF HV.out hB2) HRP.out.few hn5 VO);have HB2:=hide hB2;have HR2:Hid (w2.heap[w.heap.size]?=some (.cells #[.int .i64 0,.int .i64 0] 75 (0,0))):=by show _=_;rw[hL2.block hs1];exact HR1.out
  have hs2:w.heap.size<w2.heap.size:=by have:=hL2.size;omega
  have HW2:=hide hw2;clear hsr hn5 VO hL2 hB2 hw2 HSE HR1 HL1 HRP
  go_wp2_with fail
  rw[←HW2.out];refine HW.out.mono ?_;rintro e w3 ⟨n,m,rfl,hM3,hO3,hB3⟩;have HM3:=hide hM3;have Yx:Hid (∀f,uO m f=Ch p f):=fun f=>Oo hO3 f;have HB3:Hid (Below w.heap.size w w3):=aj HB2.out hB3 HB2.out.size;have HR3:Hid (w3.heap[w.heap.size]?=some (.cells #[.int .i64 0,.int .i64 0] 75 (0,0))):=by show _=_;rw[hB3.block _ hs2];exact HR2.out
  have hs3:w.heap.size<w3.heap.size:=by have:=hB3.size;omega
  generalize w2.heap.size=bm at*;clear hM3 hO3 hB3 HB2 HR2 HW HW2 hs2 hs1;go_wp2
  go_loopg [19] l.length (fun g i wr=>∃j k:Nat,k=g∧j+k=l.length∧i=.int .i64 j∧Hid (Later w3 wr)∧Hid (fq p l=jT p l k j))
  case atStart=>exact⟨0,l.length,rfl,by omega,rfl,Later.refl _,HX⟩
  case round=>
   clear HX;obtain⟨j,k,hkg,hj,rfl,HL,HX⟩:=hrel;have hRr:wr.heap[w.heap.size]?=some (.cells #[.int .i64 0,.int .i64 0] 75 (0,0)):=by rw[HL.out.block hs3];exact HR3.out
   have hsr:w.heap.size<wr.heap.size:=by have:=HL.out.size;omega
   by_cases hlt:j<l.length
   ·rcases hz with rfl|⟨b,off,rfl⟩
    ·simp at hlt
    have hltz:(j:Int)<(l.length:Int):=by omega
    have hFr:Facts wr (.slice (some ⟨b,off,none⟩) l.length cap) l:=HF.out.below (aj HB3.out HL.out.below HB3.out.size);obtain⟨hb,ax,lx,cx,g1,g2,fx⟩:=hFr.at hlt;have hfm:l.getD j aA∈l:=by rw[List.getD_eq_getElem?_getD,List.getElem?_eq_getElem hlt];exact List.getElem_mem hlt
    have hfs:=lH (ko.1 (HSR.out _ hfm));obtain⟨wb,hwb⟩:∃wb,wb=wr.alloc (.cells #[.string (l.getD j aA).1,.slice ax lx cx] 27):=⟨_,rfl⟩;have hLb:Later wr wb:=by rw[hwb];exact(Later.refl _).alloc _
    have HC:=hide (Om bm n m (l.getD j aA) (.agg #[.string (l.getD j aA).1,.slice ax lx cx]) wb (HM3.out.later (HL.out.trans hLb)) (fx.later hLb) (by have:=hfs.1;unfold maxLen;omega));rw[Yx.out] at HC;obtain⟨g,rfl⟩:∃g,k=g+1:=⟨k-1,by omega⟩;have hX:fq p l=if Ch p (l.getD j aA)=true then jT p l g (j+1) else(8,j):=by
     rw[HX.out];rfl
    have HLb:Hid (Later w3 wb):=HL.out.trans hLb;have HRb:Hid (wb.heap[w.heap.size]?=some (.cells #[.int .i64 0,.int .i64 0] 75 (0,0))):=by show _=_;rw[hLb.block hsr];exact hRr
    have hsb:w.heap.size<wb.heap.size:=by have:=hLb.size;omega
    have HWb:=hide hwb;generalize hff:Ch p (l.getD j aA)=ft at*;generalize(l.getD j aA).1=nk at*;clear hff hFr fx hfm hfs hLb hwb hRr HX;cases ft with
    |true=>
     have HX':Hid (fq p l=jT p l g (j+1)):=by show _=_;rw[hX];rfl
     clear hX
     go_wp2_with fail
     rw[←HWb.out];refine HC.out.mono ?_;rintro e w5 ⟨rfl,hL5⟩;have HL5:Hid (Later w3 w5):=HLb.out.trans hL5;clear hL5 HC;go_wp2
     go_roundg g
     case measure=>omega
     case rel=>exact⟨j+1,g,rfl,by omega,by go_num,HL5,HX'⟩
    |false=>
     have HX':Hid (fq p l=(8,(j:Int))):=by show _=_;rw[hX];rfl
     clear hX
     go_wp2_with fail
     rw[←HWb.out];refine HC.out.mono ?_;rintro e w5 ⟨rfl,hL5⟩;have HL5:Hid (Later w3 w5):=HLb.out.trans hL5;have hR5:w5.heap[w.heap.size]?=some (.cells #[.int .i64 0,.int .i64 0] 75 (0,0)):=by rw[hL5.block hsb];exact HRb.out
     have q0:w5.cell? ⟨w.heap.size,0,none⟩=some (.int .i64 0):=by rw[cell_of_row _ _ _ _ _ _ hR5];rfl
     have q1:w5.cell? ⟨w.heap.size,1,none⟩=some (.int .i64 0):=by rw[cell_of_row _ _ _ _ _ _ hR5];rfl
     have p0:w5.frozen? ⟨w.heap.size,0,none⟩=false:=aS 0 hR5;have p1:w5.frozen? ⟨w.heap.size,1,none⟩=false:=aS 1 hR5;have HR5:=hide hR5;clear hL5 HC hR5;go_wp2;obtain⟨r0,r1⟩:=dY HR5.out (.int .i64 8) (.int .i64 j);refine bodyPost_ret (v:=.agg #[.int .i64 8,.int .i64 j]) (by simp[results,Tryz.results66,go_sem,r0,r1]) rfl ⟨by rw[HX'.out],?_⟩;exact((aj HB3.out HL5.out.below HB3.out.size).setCell (Nat.le_refl _) _).setCell (Nat.le_refl _) _
   ·have hk0:k=0:=by omega
    have HX':Hid (fq p l=(0,0)):=by show _=_;rw[HX.out,hk0];rfl
    have q0:wr.cell? ⟨w.heap.size,0,none⟩=some (.int .i64 0):=by rw[cell_of_row _ _ _ _ _ _ hRr];rfl
    have q1:wr.cell? ⟨w.heap.size,1,none⟩=some (.int .i64 0):=by rw[cell_of_row _ _ _ _ _ _ hRr];rfl
    have p0:wr.frozen? ⟨w.heap.size,0,none⟩=false:=aS 0 hRr;have p1:wr.frozen? ⟨w.heap.size,1,none⟩=false:=aS 1 hRr;have HRr:=hide hRr;clear hRr HX;go_wp2;obtain⟨r0,r1⟩:=dY HRr.out (.int .i64 0) (.int .i64 0);refine bodyPost_ret (v:=.agg #[.int .i64 0,.int .i64 0]) (by simp[results,Tryz.results66,go_sem,r0,r1]) rfl ⟨by rw[HX'.out],?_⟩;exact((aj HB3.out HL.out.below HB3.out.size).setCell (Nat.le_refl _) _).setCell (Nat.le_refl _) _
 ·have HX:Hid (fq p l=(ex,ea)):=by show _=_;unfold fq;rw[HSE.out,if_pos h0]
  have hq:(ex != 0)=true:=by simpa using h0
  have hR2:=HR1.out;have q0:w1.cell? ⟨w.heap.size,0,none⟩=some (.int .i64 0):=by rw[cell_of_row _ _ _ _ _ _ hR2];rfl
  have q1:w1.cell? ⟨w.heap.size,1,none⟩=some (.int .i64 0):=by rw[cell_of_row _ _ _ _ _ _ hR2];rfl
  have p0:w1.frozen? ⟨w.heap.size,0,none⟩=false:=aS 0 hR2;have p1:w1.frozen? ⟨w.heap.size,1,none⟩=false:=aS 1 hR2;clear hR2 HSE h0 HV HF;go_wp2;obtain⟨r0,r1⟩:=dY HR1.out (.int .i64 ex) (.int .i64 ea);have hBX:Below w.heap.size w ((w1.setCell ⟨w.heap.size,0,none⟩ (.int .i64 ex)).setCell ⟨w.heap.size,1,none⟩ (.int .i64 ea)):=(HL1.out.below.setCell (Nat.le_refl _) _).setCell (Nat.le_refl _) _;have hzX:w.heap.size<((w1.setCell ⟨w.heap.size,0,none⟩ (.int .i64 ex)).setCell ⟨w.heap.size,1,none⟩ (.int .i64 ea)).heap.size:=by rw[size_setCell,size_setCell];exact hs1
  generalize(w1.setCell ⟨w.heap.size,0,none⟩ (.int .i64 ex)).setCell ⟨w.heap.size,1,none⟩ (.int .i64 ea)=wx at*;have s0:(wx.alloc (.cells #[.int .i64 ex,.int .i64 ea] 75)).cell? ⟨w.heap.size,0,none⟩=some (.int .i64 ex):=by rw[((Later.refl wx).alloc _).cell (p:=⟨w.heap.size,0,none⟩) hzX];exact r0
  have s1:(wx.alloc (.cells #[.int .i64 ex,.int .i64 ea] 75)).cell? ⟨w.heap.size,1,none⟩=some (.int .i64 ea):=by rw[((Later.refl wx).alloc _).cell (p:=⟨w.heap.size,1,none⟩) hzX];exact r1
  refine bodyPost_ret (v:=.agg #[.int .i64 ex,.int .i64 ea]) (by simp[results,Tryz.results66,go_sem,s0,s1]) rfl ⟨by rw[HX.out],?_⟩;exact hBX.alloc hBX.size _
theorem foldl_max (ss:List Nat):∀s:Nat,(ss.map fun x:Nat=>(x:Int)).foldl max (s:Int)+1=(max (s+1) (countP ss):Nat):=by
 induction ss with
 |nil=>intro s;simp[countP]
 |cons t ss ih=>
  intro s;rw[List.map_cons,List.foldl_cons,show(max (s:Int) (t:Int))=((max s t:Nat):Int) by omega,ih];simp only[countP];omega
theorem countP_le {c:Nat}:∀{ss:List Nat},(∀s∈ss,s<c)→countP ss≤c
 |[],_=>Nat.zero_le _
 |s::ss,h=>by
  have h1:=h s (by simp);have h2:=countP_le (ss:=ss) fun t ht=>h t (by simp[ht]);simp only[countP];omega
set_option maxHeartbeats 1000000 in
theorem MW (ss:List Nat) (v:Value) (w:World) (hv:lY.sl bg w v ss) (hs:∀s∈ss,s<1000):
  Calls Tryz.prog 68 #[v] w fun e w'=>e=.returned (.int .i64 (countP ss:Nat))∧Later w w':=by
 obtain⟨a,cap,rfl⟩:=Kind.slice hv;have hl:=hv.1.1;cases ss with
 |nil=>
  clear hv hs
  go_enter Tryz.func68,Tryz.ntmps68
  go_wp2;go_ret;exact⟨rfl,Later.refl _⟩
 |cons s ss=>
  obtain⟨b,off,_,rfl,hb,_,_⟩:=Kind.bQ hv (i:=0) (x:=s) rfl;have hM:=Tryz.slices_Max_int b off (s::ss).length cap ((s::ss).map fun x:Nat=>(x:Int)) w (by simp) (by simp) (by omega) (fun j hj=>by
   rw[List.length_map] at hj;obtain⟨x,hx⟩:∃x,(s::ss)[j]?=some x:=⟨_,List.getElem?_eq_getElem hj⟩;obtain⟨b1,o1,_,e1,_,rfl,hc⟩:=Kind.bQ hv hx;simp only[Option.some.injEq,Addr.mk.injEq,and_true] at e1;obtain⟨rfl,rfl⟩:=e1;rw[List.getD_eq_getElem?_getD,List.getElem?_map,hx];simpa[lY] using hc 0 _ rfl)
  have e:Lib.maxOf (((s::ss).map fun x:Nat=>(x:Int)).take (s::ss).length)+1=(countP (s::ss):Nat):=by
   rw[List.take_of_length_le (by simp)];unfold Lib.maxOf;rw[List.map_cons,List.headD_cons,List.foldl_cons,show max (s:Int) (s:Int)=(s:Int) by omega,foldl_max]
   rfl
  have hcp:countP (s::ss)≤1000:=countP_le hs;generalize Lib.maxOf (((s::ss).map fun x:Nat=>(x:Int)).take (s::ss).length)=mx at*;generalize countP (s::ss)=cp at*;have hmx:mx=(cp:Int)-1:=by omega
  subst hmx;have HM:=hide hM;have hne:¬((((s::ss).length:Nat):Int)=0):=by simp;omega
  clear hv hs hM e
  go_enter Tryz.func68,Tryz.ntmps68
  go_wp2_with fail
  refine HM.out.mono ?_;rintro e w1 ⟨rfl,rfl⟩;go_wp2;go_ret;refine⟨?_,Later.refl _⟩
  congr 2
end Go.Proofs.YtafmbokfkbccaaaGreatDoor
