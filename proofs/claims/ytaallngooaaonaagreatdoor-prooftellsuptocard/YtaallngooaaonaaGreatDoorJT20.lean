import Derived.Test.YtaallngooaaonaaGreatDoorJT15
import Derived.Test.YtaallngooaaonaaGreatDoorJT19
import Derived.Test.YtaallngooaaonaaGreatDoorJT18
import Derived.Test.YtaallngooaaonaaGreatDoorJT16
open Go.RowKit Go.Sort Go.Maps
set_option maxHeartbeats 4000000
set_option maxRecDepth 100000
namespace Go.Proofs.YtaallngooaaonaaGreatDoor
theorem lu {f:aA} (h:ni f):mH f:=
 ⟨by have:=iZ h.1;omega,h.2.1,fun s hs=>by have:=iZ (h.2.2 s hs);omega⟩
theorem mJ {l:List aA} (hw:∀f∈l,fG f=0) (hu:Up l):∀(n k:Nat),k+n=l.length→bT l n k=(0,0)
 |0,_,_=>rfl
 |n+1,k,h=>by
  have hk:k<l.length:=by omega
  unfold bT;have e1:fG (l.getD k aC)=0:=hw _ (by rw[List.getD_eq_getElem?_getD,List.getElem?_eq_getElem hk];exact List.getElem_mem hk);rw[if_neg (by rw[e1];simp),if_neg,mJ hw hu n (k+1) (by omega)];rintro⟨h0,h1⟩;have:=List.pairwise_iff_getElem.1 hu (k-1) k (by omega) hk (by omega);rw[List.getD_eq_getElem?_getD,List.getD_eq_getElem?_getD,List.getElem?_eq_getElem (by omega),List.getElem?_eq_getElem hk] at h1;simp only[Option.getD_some] at h1;omega
theorem nW {l:List aA} (hu:Up l) (hr:∀f∈l,ni f) (hl:l.length≤200):aT l=(0,0):=by unfold aT;rw[if_neg (by omega)];exact mJ (fun f hf=>j4.2 (hr f hf)) hu _ 0 (by omega)
theorem y8 {p:List aG} {l:List aA} (h:(aT l).1=0) (hf:∀f∈l,BR p f=true):GoodS p l:=by obtain⟨h1,h2,h3⟩:=set_right h;exact⟨h2,fun f hf=>j4.1 (h3 f hf),h1,hf⟩
theorem xH {p:List aG} (hp:dP p) {L:List aA} (hL:GoodS p L):∀r∈p,pJ r.body L []=0:=fun r hr=>by
 unfold pJ;rw[if_neg (by simp[(hp.rules r hr).body]),if_neg (by rw[nW hL.up hL.right hL.few];simp)]
 rfl
theorem uG {p:List aG} (hp:dP p) {L:List aA} (hL:GoodS p L):∀r∈p,∀R,lF (fun _=>L) r.body=some R→∀l∈R,∀f,bg r.head l=some f→mH f:=fun r hr _ hR l hl _ hf=>
 lu (wT (hp.rules r hr) hL.right ((qA (fA (hp.rules r hr)) hR l).1 hl) hf).1
theorem TI (p:List aG) (hp:dP p) (σ:aG→Nat) (n:Int) (fs:List aA) (pv sv fv:Value) (w:World) (hpv:eP.sl bf w pv p) (hsv:lS.sl bf w sv (p.map σ)) (hf:Facts w fv fs) (hg:GoodS p fs):
  Calls Tryz.prog 31 #[pv,sv,.int .i64 n,fv] w fun e w'=>∃v' er,e=.returned (.tuple #[v',.int .i64 er])∧lT w' v' er (dM p (p.map σ) n 201 fs)∧((dM p (p.map σ) n 201 fs).1=0→GoodS p (dM p (p.map σ) n 201 fs).2)∧Below w.heap.size w w':=by
 generalize hss:p.map σ=ss at*;have HSS:=au hss;clear hss;obtain⟨pa,pc,rfl⟩:=aB.slice hpv;obtain⟨sa,sc,rfl⟩:=aB.slice hsv;have HP:=au hpv;have HSV:=au hsv;have HF:=au hf;have HG:=au hg;have HRP:=au hp;have NU:=hg.few;clear hpv hsv hf hg hp
 go_enter Tryz.func31,Tryz.ntmps31
 go_wp2
 go_loopg [3] 201 (fun g v wr=>∃k L,k=g∧200<L.length+k∧Hid (Facts wr v L)∧Hid (GoodS p L)∧Hid (Below w.heap.size w wr)∧Hid (dM p ss n 201 fs=dM p ss n k L))
 case atStart=>exact⟨201,fs,rfl,by omega,HF,HG,Below.refl _ _,(rfl:_=_)⟩
 clear HF HG;obtain⟨k,L,hkg,hk,HF,HG,HBr,HE⟩:=hrel;have hL:=HG.out.few;obtain⟨k',rfl⟩:∃k',k=k'+1:=⟨k-1,by omega⟩;have HC:=au (Qw p ss n L _ _ _ wr (aB.aJ HP.out HBr.out) (aB.aJ HSV.out HBr.out) HF.out HRP.out.few hL (xH HRP.out HG.out) (uG HRP.out HG.out) (fun f hf=>lu (HG.out.right f hf)));obtain⟨la,lc,rfl⟩:=aF HF.out;obtain⟨er,S,hS⟩:∃er S,bW p ss n L=(er,S):=⟨_,_,rfl⟩;have hst:dM p ss n 201 fs=if er≠0 then(er,[]) else if S.length=L.length then(0,S) else dM p ss n k' S:=by rw[HE.out,dM,hS]
 rw[hS] at HC;have HSt:=au hst;have HGS:Hid (er=0→GoodS p S∧L.length≤S.length):=fun e=>by subst e;obtain⟨g1,g2⟩:=jl HRP.out σ HG.out (by rw[HSS.out];exact hS);exact⟨g1,EN HG.out.up g2⟩
 clear hst hS HE
 go_wp2_with fail
 refine HC.out.mono ?_;rintro e w2 ⟨v2,er',rfl,⟨her,hT1,hT2⟩,hB2⟩;dsimp only at her hT1 hT2⊢;have NV:=her.symm;clear her;subst NV;have HB2:Hid (Below w.heap.size w w2):=aj HBr.out hB2 HBr.out.size;clear HC hB2
 by_cases h0:er=0
 ·subst h0;have hF2:=hT2 rfl;have HF2:=au hF2;obtain⟨hgS,hlS⟩:=HGS.out rfl;have VI:=au hgS;obtain⟨xa,xc,rfl⟩:=aF hF2;have hSt:=HSt.out;rw[if_neg (by simp)] at hSt
  by_cases hlen:S.length=L.length
  ·rw[if_pos hlen] at hSt;have HR:=au hSt;have hli:((S.length:Nat):Int)=(L.length:Nat):=by omega
   clear hSt hlen hT1 hT2 hF2 hgS HSt HGS;go_wp2;exact bodyPost_ret (v:=.tuple #[.slice xa S.length xc,.int .i64 0]) (by simp[results,Tryz.results31,go_sem]) rfl ⟨_,0,rfl,by rw[HR.out];exact⟨rfl,fun h=>absurd rfl h,fun _=>HF2.out⟩,by rw[HR.out];exact fun _=>VI.out,HB2.out⟩
  rw[if_neg hlen] at hSt;have HR:=au hSt;have hli:¬((S.length:Nat):Int)=(L.length:Nat):=by omega
  have hk':200<S.length+k':=by omega
  clear hSt hlen hT1 hT2 hF2 hgS HSt HGS;go_wp2
  go_roundg k'
  case measure=>omega
  case rel=>exact⟨k',S,rfl,hk',HF2,VI,HB2,HR⟩
 have e2:=hT1 h0;subst e2;have HR:Hid (dM p ss n 201 fs=(er,[])):=by show _=_;rw[HSt.out,if_pos h0]
 have HT:Hid (∀w',lT w' (.slice none 0 0) er (dM p ss n 201 fs)∧((dM p ss n 201 fs).1=0→GoodS p (dM p ss n 201 fs).2)):=fun w'=>by rw[HR.out];exact⟨⟨rfl,fun _=>rfl,fun h=>absurd h h0⟩,fun h=>absurd h h0⟩
 have hne:(er != 0)=true:=by simpa using h0
 clear hT1 hT2 HSt HGS HR;go_wp2;exact bodyPost_ret (v:=.tuple #[.slice none 0 0,.int .i64 er]) (by simp[results,Tryz.results31,go_sem]) rfl ⟨_,er,rfl,(HT.out _).1,(HT.out w2).2,HB2.out⟩
abbrev uH:=Bs→Option Int
def uH.put (m:uH) (s:Bs) (n:Int):uH:=fun t=>if t=s then some n else m t
def j5 (m:uH) (a:aI):uH:=match m a.name with
 |none=>m.put a.name a.terms.length
 |some n=>if n≠a.terms.length then m.put a.name (-1) else m.put a.name a.terms.length
def nX (A:List aI) (m:uH):Prop:=∀s,(m s=none↔∀a∈A,a.name≠s)∧∀n,m s=some n→∀k:Nat,n=(k:Int)↔∀a∈A,a.name=s→a.terms.length=k
theorem nX.nil:nX [] (fun _=>none):=fun s=>⟨by simp,fun n h=>by cases h⟩
theorem nX.step {A:List aI} {m:uH} (h:nX A m) (a:aI):nX (A++[a]) (j5 m a):=by
 have key:∀x:Int,j5 m a=m.put a.name x→(∀k:Nat,x=(k:Int)↔∀b∈A++[a],b.name=a.name→b.terms.length=k)→nX (A++[a]) (j5 m a):=fun x hx hk s=>by
  rw[hx];unfold uH.put
  by_cases e:s=a.name
  ·subst e;simp only[if_true];refine⟨⟨fun h=>by simp at h,fun h=>absurd rfl (h a (by simp))⟩,fun n hn=>?_⟩;cases hn;exact hk
  simp only[if_neg e];obtain⟨h1,h2⟩:=h s;refine⟨by rw[h1];exact⟨fun h b hb=>(List.mem_append.1 hb).elim (h b) (fun hb=>by simp only[List.mem_singleton] at hb;subst hb;exact fun e'=>e e'.symm),fun h b hb=>h b (by simp[hb])⟩,fun n hn k=>?_⟩;rw[h2 n hn k];exact⟨fun h b hb hbs=>(List.mem_append.1 hb).elim (fun hb=>h b hb hbs) (fun hb=>by simp only[List.mem_singleton] at hb;subst hb;exact absurd hbs.symm e),fun h b hb=>h b (by simp[hb])⟩
 obtain⟨h1,h2⟩:=h a.name;unfold j5 at key⊢;cases e:m a.name with
 |none=>
  rw[e] at key;refine key _ rfl fun k=>?_;have hn:=h1.1 e
  constructor
  ·intro hk b hb hbn;rcases List.mem_append.1 hb with hb|hb
   ·exact absurd hbn (hn b hb)
   simp only[List.mem_singleton] at hb;subst hb;omega
  intro hk;have:=hk a (by simp) rfl;omega
 |some n=>
  rw[e] at key;dsimp only at key⊢;have hA:=h2 n e
  by_cases hne:n≠a.terms.length
  ·rw[if_pos hne] at key⊢;refine key _ rfl fun k=>⟨fun hk=>by omega,fun hk=>?_⟩
   exfalso
   have h3:=hk a (by simp) rfl;have h4:=(hA k).2 fun b hb=>hk b (by simp[hb]);omega
  rw[if_neg hne] at key⊢;have hne:n=a.terms.length:=by omega
  refine key _ rfl fun k=>?_
  constructor
  ·intro hk b hb hbn;rcases List.mem_append.1 hb with hb|hb
   ·exact(hA k).1 (by omega) b hb hbn
   simp only[List.mem_singleton] at hb;subst hb;omega
  intro hk;have:=hk a (by simp) rfl;omega
def nY (w:World) (b n:Nat) (m:uH):Prop:=∃D:DataW Unit,w.ownsMap Tryz.prog 9 (plainElem Tryz.prog 3) b n D∧∀s,Maps.has D (.string s)=(m s).isSome∧D.atKey (.string s) (.lit (.int .i64 0))=.lit (.int .i64 ((m s).getD 0))
theorem nY.made (w:World):nY (w.alloc (.map #[] 0)) w.heap.size 0 (fun _=>none):=⟨.map [],World.ownsMap_made _ _ _ _,fun _=>⟨rfl,rfl⟩⟩
theorem nY.lt {w:World} {b n:Nat} {m:uH} (h:nY w b n m):b<w.heap.size:=by obtain⟨D,h,_⟩:=h;exact h.lt
theorem nY.block {w w':World} {b n:Nat} {m:uH} (h:nY w b n m) (e:w'.heap[b]?=w.heap[b]?):nY w' b n m:=by obtain⟨D,h,hf⟩:=h;exact⟨D,dN h e,hf⟩
theorem nY.later {w w':World} {b n:Nat} {m:uH} (h:nY w b n m) (k:ak w w'):nY w' b n m:=h.block (k.block h.lt)
theorem nY.look {w:World} {b n:Nat} {m:uH} (h:nY w b n m) {s:Bs} (hs:s.length≤maxLen):
  (Instr.lookup 115 (.map (some b)) (.string (bs s)) true).run Tryz.prog w=.ok (.tuple #[.int .i64 ((m s).getD 0),.bool (m s).isSome]) w:=by
 obtain⟨D,hown,hf⟩:=h;obtain⟨v,ps,hrun,hv⟩:=hown.look_ok (string_keyed Tryz.underlying9) (t:=115) Tryz.underlying115 (lg _) (plainElem_int Tryz.underlying3 (by decide)) (lH Tryz.underlying9 hs);rw[(hf s).2] at hv;obtain⟨c,rfl,hc,_⟩:=plainElem_int_inv Tryz.underlying3 hv;simp only[Prod.mk.injEq] at hc;have hc:=hc.1
 injection hc with hc
 injection hc with _ hc
 subst hc;refine hrun.trans ?_;rw[(hf s).1]
theorem nY.store {w:World} {b n:Nat} {m:uH} (h:nY w b n m) (hn:n<maxLen) {s:Bs} (hs:s.length≤maxLen) {x:Int} (hx:(Lit.int .i64 x).wf=true):
  ∃w',(Instr.mapUpdate 115 (.map (some b)) (.string (bs s)) (.int .i64 x)).run Tryz.prog w=.ok () w'∧nY w' b (n+1) (m.put s x)∧w.grownBy w' (some b):=by
 obtain⟨D,hown,hf⟩:=h;obtain⟨w',hrun,r1,r2⟩:=hown.update (string_keyed Tryz.underlying9) (t:=115) Tryz.underlying115 hn (lH Tryz.underlying9 hs) (plainElem_int Tryz.underlying3 hx);refine⟨w',hrun,⟨_,r1,fun t=>?_⟩,r2⟩
 by_cases e:t=s
 ·subst e;exact⟨by rw[has_put_same hown.isMap (Ic _)];simp[uH.put],by rw[atKey_put_same hown.isMap (Ic _)];simp[uH.put]⟩
 exact⟨by rw[has_put_other (nA e),(hf t).1];simp[uH.put,e],by rw[atKey_put_other (nA e),(hf t).2];simp[uH.put,e]⟩
theorem IL (b n:Nat) (m:uH) (a:aI) (v:Value) (w:World) (h:nY w b n m) (hv:eD.sl bf w v a.terms) (hs:a.name.length≤maxLen) (hn:n<maxLen):
  Calls Tryz.prog 83 #[.map (some b),.agg #[.bool a.no,.string (bs a.name),v]] w fun e w'=>(∃u,e=.returned u)∧nY w' b (n+1) (j5 m a)∧Tn b w w':=by
 obtain⟨sa,cap,rfl⟩:=aB.slice hv;have hl0:=hv.1.1;clear hv;have h1:=h.later ((ak.refl w).alloc (.cells #[.bool a.no,.string (bs a.name),.slice sa a.terms.length cap] 79));have hr:=h1.look hs;have hblt:=h.lt;cases hm:m a.name with
 |none=>
  obtain⟨w1,hst,hm1,hg⟩:=h1.store hn hs (x:=(a.terms.length:Nat)) (uz (by omega));rw[hm] at hr;have F:Hid (j5 m a=m.put a.name a.terms.length):=by show _=_;unfold j5;rw[hm]
  have HM:Hid (nY w1 b (n+1) (m.put a.name a.terms.length)):=hm1;have HT:Hid (Tn b w w1):=(Tn.of_below (p:=b) ((ak.refl w).alloc _).below).trans (gV hg);have hst':=au hst;clear h h1 hm1 hg hst hm;simp only[Option.getD_none,Option.isSome_none] at hr;generalize bs a.name=nm at*;generalize a.no=no at*
  go_enter Tryz.func83,Tryz.ntmps83
  go_wp2_with (first
   |(at_mapUpdate;refine aM _ rfl _ _ _ _ rfl _ _ _ _ rfl rfl rfl (bK hst') ?_)
   |go_in)
  go_end0;exact⟨⟨_,rfl⟩,by rw[F.out];exact HM.out,HT.out⟩
 |some k=>
  rw[hm] at hr;simp only[Option.getD_some,Option.isSome_some] at hr
  by_cases hne:k≠a.terms.length
  ·obtain⟨w1,hst,hm1,hg⟩:=h1.store hn hs (x:= -1) (by decide);have F:Hid (j5 m a=m.put a.name (-1)):=by show _=_;unfold j5;rw[hm];exact if_pos hne
   have HM:Hid (nY w1 b (n+1) (m.put a.name (-1))):=hm1;have HT:Hid (Tn b w w1):=(Tn.of_below (p:=b) ((ak.refl w).alloc _).below).trans (gV hg);have hst':=au hst;have hq:(k != (a.terms.length:Int))=true:=by simpa using hne
   clear h h1 hm1 hg hst hm hne;generalize bs a.name=nm at*;generalize a.no=no at*
   go_enter Tryz.func83,Tryz.ntmps83
   go_wp2_with (first
    |(at_mapUpdate;refine aM _ rfl _ _ _ _ rfl _ _ _ _ rfl rfl rfl (bK hst') ?_)
    |go_in)
   exact bodyPost_ret (results_none rfl _ _ _) rfl ⟨⟨_,rfl⟩,by rw[F.out];exact HM.out,HT.out⟩
  have hk:k=(a.terms.length:Int):=by omega
  subst hk;obtain⟨w1,hst,hm1,hg⟩:=h1.store hn hs (x:=(a.terms.length:Nat)) (uz (by omega));have F:Hid (j5 m a=m.put a.name a.terms.length):=by show _=_;unfold j5;rw[hm];exact if_neg (by simp)
  have HM:Hid (nY w1 b (n+1) (m.put a.name a.terms.length)):=hm1;have HT:Hid (Tn b w w1):=(Tn.of_below (p:=b) ((ak.refl w).alloc _).below).trans (gV hg);have hst':=au hst;clear h h1 hm1 hg hst hm hne;generalize bs a.name=nm at*;generalize a.no=no at*
  go_enter Tryz.func83,Tryz.ntmps83
  go_wp2_with (first
   |(at_mapUpdate;refine aM _ rfl _ _ _ _ rfl _ _ _ _ rfl rfl rfl (bK hst') ?_)
   |go_in)
  go_end0;exact⟨⟨_,rfl⟩,by rw[F.out];exact HM.out,HT.out⟩
def uI (m:uH) (f:aA):Bool:=match m (raw f.1) with|none=>true|some k=>decide (k=f.2.length)
theorem NW (b n:Nat) (m:uH) (f:aA) (v:Value) (w:World) (h:nY w b n m) (hv:dD w v f) (hs:f.1.size≤maxLen):
  Calls Tryz.prog 56 #[.map (some b),v] w fun e w'=>e=.returned (.bool (uI m f))∧ak w w':=by
 unfold uI;obtain⟨u,rfl,hu⟩:=hv;obtain⟨sa,cap,rfl⟩:=bA hu;obtain⟨nm,args⟩:=f;dsimp only at*;have h1:=h.later ((ak.refl w).alloc (.cells #[.string nm,.slice sa args.length cap] 27));have hr:=h1.look (s:=raw nm) (by rw[bZ];exact hs);rw[iT] at hr;clear h h1 hu hs;cases hm:m (raw nm) with
 |none=>
  rw[hm] at hr;simp only[Option.getD_none,Option.isSome_none] at hr
  go_enter Tryz.func56,Tryz.ntmps56
  go_wp2;go_ret;exact⟨rfl,(by repeat (first|exact ak.refl _|assumption|refine ak.drewN ?_ _|refine ak.drew ?_|refine ak.alloc ?_ _|refine ak.grow ?_ _))⟩
 |some k=>
  rw[hm] at hr;simp only[Option.getD_some,Option.isSome_some] at hr
  go_enter Tryz.func56,Tryz.ntmps56
  go_wp2;go_ret;refine⟨bU ?_,(by repeat (first|exact ak.refl _|assumption|refine ak.drewN ?_ _|refine ak.drew ?_|refine ak.alloc ?_ _|refine ak.grow ?_ _))⟩;rw[Bool.eq_iff_iff];simp
theorem y9 (p q:List aG):gB (p++q)=gB p++gB q:=by simp[gB]
theorem nY.mono {w:World} {b n n':Nat} {m:uH} (h:nY w b n m) (hn:n≤n'):nY w b n' m:=by obtain⟨D,h,hf⟩:=h;exact⟨D,h.mono hn,hf⟩
theorem IQ (p:List aG) (v:Value) (w:World) (hv:eP.sl bf w v p) (h16:p.length≤16) (h5:∀r∈p,r.body.length≤5) (hs:∀a∈gB p,a.name.length≤12):
  Calls Tryz.prog 55 #[v] w fun e w'=>∃n m,e=.returned (.map (some w.heap.size))∧nY w' w.heap.size n m∧nX (gB p) m∧Below w.heap.size w w':=by
 obtain⟨pa,pc,rfl⟩:=aB.slice hv;have HV:=au hv;have HS:=au hs;have H5:=au h5;have HM0:Hid (nY (w.alloc (.map #[] 0)) w.heap.size 0 (fun _=>none)):=nY.made w;have HB0:Hid (Below w.heap.size w (w.alloc (.map #[] 0))):=((ak.refl w).alloc _).below;have hmm:= @run_makeMap Tryz.prog;clear hv hs h5
 go_enter Tryz.func55,Tryz.ntmps55
 go_wp2
 go_loopg [11] p.length (fun g i wr=>∃j:Nat,j+g=p.length∧i=.int .i64 j∧w.heap.size<wr.heap.size∧∃m,Hid (nY wr w.heap.size (6*j) m)∧Hid (nX (gB (p.take j)) m)∧Hid (Below w.heap.size w wr))
 case atStart=>exact⟨0,by omega,rfl,by simp,_,HM0,nX.nil,HB0⟩
 clear HM0 HB0 hmm;obtain⟨j,hj,rfl,hwr,m,HM,HO,HBr⟩:=hrel;obtain⟨wo,hwo⟩:∃wo,wo=wr:=⟨_,rfl⟩;subst hwo
 by_cases hlt:j<p.length
 ·obtain⟨r,hr⟩:∃x,p[j]?=some x:=⟨_,List.getElem?_eq_getElem hlt⟩;have hrm:r∈p:=List.mem_of_getElem? hr;obtain⟨b1,o1,_,rfl,hb1,⟨tv,bv,rfl,htv,hbv⟩,hc⟩:=aB.bO HV.out hr;have d0:wo.cell? ⟨b1,o1+j*4,none⟩=some (.bool r.head.no):=by rw[HBr.out.cell (p:=⟨b1,o1+j*4,none⟩) hb1];exact hc 0 _ rfl
  have d1:wo.cell? ⟨b1,o1+j*4+1,none⟩=some (.string (bs r.head.name)):=by rw[HBr.out.cell (p:=⟨b1,o1+j*4+1,none⟩) hb1];exact hc 1 _ rfl
  have d2:wo.cell? ⟨b1,o1+j*4+2,none⟩=some tv:=by rw[HBr.out.cell (p:=⟨b1,o1+j*4+2,none⟩) hb1];exact hc 2 _ rfl
  have d3:wo.cell? ⟨b1,o1+j*4+3,none⟩=some bv:=by rw[HBr.out.cell (p:=⟨b1,o1+j*4+3,none⟩) hb1];exact hc 3 _ rfl
  obtain⟨ta,tc,rfl⟩:=aB.slice htv;obtain⟨ba,bc,rfl⟩:=aB.slice hbv;have hsz:=HBr.out.size;have htk:gB (p.take (j+1))=gB (p.take j)++(r.head::r.body):=by rw[List.take_add_one,hr,y9];simp[gB]
  have TJ:∀a∈r.head::r.body,a.name.length≤12:=fun a ha=>HS.out a (List.mem_flatMap.2 ⟨r,hrm,ha⟩);have hb5:=H5.out r hrm;have MH:=eG.made w.heap.size wo (.bool r.head.no) (.string (bs r.head.name)) (.slice ta r.head.terms.length tc) (.slice ba r.body.length bc);obtain⟨wb,hwb⟩:∃wb,wb=wo.alloc (.cells #[.bool r.head.no,.string (bs r.head.name),.slice ta r.head.terms.length tc,.slice ba r.body.length bc] 82):=⟨_,rfl⟩;rw[←hwb] at MH;have hLb:ak wo wb:=by rw[hwb];exact(ak.refl _).alloc _
  have hBb:Below w.heap.size w wb:=aj HBr.out hLb.below hsz;have HC:=au (IL w.heap.size (6*j) m r.head (.slice ta r.head.terms.length tc) wb (HM.out.later hLb) (aB.aJ htv hBb) (by have:=TJ r.head (by simp);unfold maxLen;omega) (by unfold maxLen;omega));have HBx:=au MH;have HBb:=au hBb;have HBV:=au hbv;have HTK:=au htk;have HRA:=au TJ;have HWb:=au hwb;clear hc hr htv hbv htk TJ MH hLb hBb hwb hrm;generalize bs r.head.name=nm at*;generalize hno:r.head.no=no at*
  go_wp2_with fail
  rw[←HWb.out];refine HC.out.mono ?_;rintro e w2 ⟨⟨u2,rfl⟩,hM2,hT2⟩;have HX2:=au (HBx.out.turned hT2 hwr);have HM2:=au hM2;have HO2:Hid (nX (gB (p.take j)++(r.head::r.body.take 0)) (j5 m r.head)):=by show nX _ _;have:=HO.out.step r.head;simpa using this
  have HT2:Hid (Tn w.heap.size wb w2):=hT2;have x3:w2.cell? ⟨wo.heap.size,3,none⟩=some (.slice ba r.body.length bc):=HX2.out.z3;clear hM2 hT2 HC hno;go_wp2
  go_loopg [22] r.body.length (fun g i wz=>∃k:Nat,k+g=r.body.length∧i=.int .i64 k∧∃m',Hid (nY wz w.heap.size (6*j+1+k) m')∧Hid (nX (gB (p.take j)++(r.head::r.body.take k)) m')∧Hid (Tn w.heap.size wb wz))
  case atStart=>exact⟨0,by omega,rfl,_,HM2,HO2,HT2⟩
  clear HM2 HO2 HT2 x3;obtain⟨k,hk,rfl,m',HM',HO',HT'⟩:=hrel;have hbs:w.heap.size≤wb.heap.size:=by have:=HBb.out.size;omega
  have hBz:Below w.heap.size wb wr:=HT'.out.below (Nat.le_refl _) hbs;have hwz:=HT'.out.size;have hww:wo.heap.size<wb.heap.size:=HBx.out.lt
  by_cases hltk:k<r.body.length
  ·obtain⟨t,ht⟩:∃x,r.body[k]?=some x:=⟨_,List.getElem?_eq_getElem hltk⟩;obtain⟨b2,o2,_,rfl,hb2,⟨sv,rfl,hsv⟩,hc⟩:=aB.bO HBV.out ht;have hBw:Below w.heap.size w wr:=HBb.out.trans hBz;have e0:wr.cell? ⟨b2,o2+k*3,none⟩=some (.bool t.no):=by rw[hBw.cell (p:=⟨b2,o2+k*3,none⟩) hb2];exact hc 0 _ rfl
   have e1:wr.cell? ⟨b2,o2+k*3+1,none⟩=some (.string (bs t.name)):=by rw[hBw.cell (p:=⟨b2,o2+k*3+1,none⟩) hb2];exact hc 1 _ rfl
   have e2:wr.cell? ⟨b2,o2+k*3+2,none⟩=some sv:=by rw[hBw.cell (p:=⟨b2,o2+k*3+2,none⟩) hb2];exact hc 2 _ rfl
   have hbr:b2<wr.heap.size:=by omega
   obtain⟨sva,svc,rfl⟩:=aB.slice hsv;have hL5:ak wr (wr.alloc (.cells #[.bool t.no,.string (bs t.name),.slice sva t.terms.length svc] 79)):=(ak.refl _).alloc _;have htk:r.head::r.body.take (k+1)=(r.head::r.body.take k)++[t]:=by rw[List.take_add_one,ht];rfl
   have HC5:=au (IL w.heap.size (6*j+1+k) m' t (.slice sva t.terms.length svc) (wr.alloc (.cells #[.bool t.no,.string (bs t.name),.slice sva t.terms.length svc] 79)) (HM'.out.later hL5) (aB.aJ hsv (aj hBw hL5.below hBw.size)) (by have:=HRA.out t (List.mem_cons_of_mem _ (List.mem_of_getElem? ht));unfold maxLen;omega) (by unfold maxLen;omega));have HO5:Hid (nX (gB (p.take j)++(r.head::r.body.take (k+1))) (j5 m' t)):=by show nX _ _;rw[htk,←List.append_assoc];exact HO'.out.step t
   have HL5:=au hL5;clear hc ht hsv hBw hL5 htk hBz;generalize bs t.name=nm5 at*;generalize t.no=no5 at*
   go_wp2_with fail
   refine HC5.out.mono ?_;rintro e w6 ⟨⟨u6,rfl⟩,hM6,hT6⟩;have HM6:Hid (nY w6 w.heap.size (6*j+1+(k+1)) (j5 m' t)):=hM6;have HT6:Hid (Tn w.heap.size wb w6):=(HT'.out.trans (Tn.of_below HL5.out.below)).trans hT6;clear hM6 hT6 HC5;go_wp2
   go_roundg (r.body.length- (k+1))
   case measure=>omega
   case rel=>exact⟨k+1,by omega,by go_num,_,HM6,HO5,HT6⟩
  have hk':r.body.take k=r.body:=List.take_of_length_le (by omega);rw[hk',←HTK.out] at HO';have HB4:Hid (Below w.heap.size w wr):=HBb.out.trans hBz;have HM4:Hid (nY wr w.heap.size (6*(j+1)) m'):=HM'.out.mono (by omega);have hws:w.heap.size<wr.heap.size:=by omega
  clear hk' hBz;go_wp2
  go_roundg (p.length- (j+1))
  case measure=>omega
  case rel=>exact⟨j+1,by omega,by go_num,hws,m',HM4,HO',HB4⟩
 have hj':p.take j=p:=List.take_of_length_le (by omega);rw[hj'] at HO;clear hj';go_wp2;go_ret;exact⟨_,m,rfl,HM.out,HO.out,HBr.out⟩
def jO (p:List aG) (l:List aA):Nat→Nat→Int×Int
 |0,_=>(0,0)
 |n+1,k=>if BR p (l.getD k aC)=true then jO p l n (k+1) else(8,k)
def eY (p:List aG) (l:List aA):Int×Int:=if(aT l).1≠0 then aT l else jO p l l.length 0
theorem rG {p:List aG} {l:List aA}:∀(n k:Nat),(jO p l n k).1=0→∀i,k≤i→i<k+n→BR p (l.getD i aC)=true
 |0,k,_,i,h1,h2=>by omega
 |n+1,k,h,i,h1,h2=>by
  unfold jO at h;split at h
  ·rename_i hf
   by_cases e:i=k
   ·subst e;exact hf
   exact rG n (k+1) h i (by omega) (by omega)
  simp at h
theorem mX {p:List aG} {l:List aA} (h:(eY p l).1=0):GoodS p l:=by
 unfold eY at h;split at h;·rename_i h1;exact absurd h h1
 rename_i h1;refine y8 (by simpa using h1) fun f hf=>?_;obtain⟨i,hi,rfl⟩:=List.getElem_of_mem hf;have:=rG l.length 0 h i (Nat.zero_le _) (by omega)
 rwa [List.getD_eq_getElem?_getD,List.getElem?_eq_getElem hi] at this
theorem NY {p:List aG} {m:uH} (h:nX (gB p) m) (f:aA):uI m f=BR p f:=by
 unfold uI;obtain⟨h1,h2⟩:=h (raw f.1);rw[Bool.eq_iff_iff,Dm];cases e:m (raw f.1) with
 |none=>
  simp only[true_iff];intro a ha hb;exact absurd (by rw[←hb,jI]) (h1.1 e a ha)
 |some k=>
  simp only[decide_eq_true_eq];rw[h2 k e f.2.length];exact⟨fun h a ha hb=>h a ha (by rw[←hb,jI]),fun h a ha hb=>h a ha (by rw[hb,iT])⟩
theorem Cn {p:List aG} (hp:dP p):(∀r∈p,r.body.length≤5)∧∀a∈gB p,a.name.length≤12:=by
 have hn:∀a:aI,aP a=0→a.name.length≤12:=fun a ha=>by have h1:=(gQ ha).1;unfold isNamed at h1;simp only[Bool.and_eq_true,decide_eq_true_eq] at h1;exact h1.1.1
 have hb:∀l:List aI,bH l=0→∀a∈l,aP a=0:=fun l=>by
  induction l with
  |nil=>intro _ a ha;cases ha
  |cons x l ih=>
   intro h a ha;unfold bH at h;split at h
   ·rename_i hx;rcases List.mem_cons.1 ha with rfl|ha
    ·exact hx
    exact ih h a ha
   rename_i hx;exact absurd h hx
 have key:∀r∈p,r.body.length≤5∧∀a∈r.body,aP a=0:=fun r hr=>by
  have:=(hp.rules r hr).body;unfold aL at this;split at this;·cases this
  rename_i h5;split at this;·rename_i h0;exact⟨by omega,hb _ h0⟩
  rename_i h0;exact absurd this h0
 refine⟨fun r hr=>(key r hr).1,fun a ha=>?_⟩;obtain⟨r,hr,ha⟩:=List.mem_flatMap.1 ha;rcases List.mem_cons.1 ha with rfl|ha
 ·exact hn _ (hp.rules r hr).head
 exact hn _ ((key r hr).2 a ha)
theorem uJ (p:List aG) (hp:dP p) (pv fv:Value) (l:List aA) (w:World) (hv:eP.sl bf w pv p) (hf:Facts w fv l):
  Calls Tryz.prog 28 #[pv,fv] w fun e w'=>e=.returned (.agg #[.int .i64 (eY p l).1,.int .i64 (eY p l).2])∧Below w.heap.size w w':=by
 obtain⟨pa,pc,rfl⟩:=aB.slice hv;obtain⟨a,cap,rfl,hln,hz⟩:=hf.addr;have hL0:ak w (w.alloc (.cells #[.int .i64 0,.int .i64 0] 69)):=(ak.refl w).alloc _;have hR0:(w.alloc (.cells #[.int .i64 0,.int .i64 0] 69)).heap[w.heap.size]?=some (.cells #[.int .i64 0,.int .i64 0] 69 (0,0)):=heap_alloc_new w _;have TK:=au (Tp (.slice a l.length cap) l (w.alloc (.cells #[.int .i64 0,.int .i64 0] 69)) (hf.later hL0));have HL0:=au hL0;have HR0:=au hR0;have HV:=au hv;have HF:=au hf;have HRP:=au hp;clear hv hf hp hL0 hR0;obtain⟨ex,ea,hse⟩:∃ex ea,aT l=(ex,ea):=⟨_,_,rfl⟩;rw[hse] at TK;have HSE:=au hse;clear hse
 go_enter Tryz.func28,Tryz.ntmps28
 go_wp2_with fail
 refine TK.out.mono ?_;rintro e w1 ⟨rfl,hL1⟩;dsimp only;have hs1:w.heap.size<w1.heap.size:=by have:=hL1.size;simp at this;omega
 have HR1:Hid (w1.heap[w.heap.size]?=some (.cells #[.int .i64 0,.int .i64 0] 69 (0,0))):=by show _=_;rw[hL1.block (by simp)];exact HR0.out
 have HL1:Hid (ak w w1):=HL0.out.trans hL1;clear hL1 TK HL0 HR0
 by_cases h0:ex=0
 ·subst h0;have HX:Hid (eY p l=jO p l l.length 0):=by show _=_;unfold eY;rw[HSE.out,if_neg (by simp)]
  have hsr:=set_right (l:=l) (by rw[HSE.out]);have HSR:=au hsr.2.2;obtain⟨hn5,VJ⟩:=Cn HRP.out;obtain⟨w2,hw2⟩:∃w2,w2=w1.alloc (.cells #[.int .i64 0,.int .i64 ea] 69):=⟨_,rfl⟩;have hL2:ak w1 w2:=by rw[hw2];exact(ak.refl _).alloc _
  have hB2:Below w.heap.size w w2:=(HL1.out.trans hL2).below;have HW:=au (IQ p (.slice pa p.length pc) w2 (aB.aJ HV.out hB2) HRP.out.few hn5 VJ);have HB2:=au hB2;have HR2:Hid (w2.heap[w.heap.size]?=some (.cells #[.int .i64 0,.int .i64 0] 69 (0,0))):=by show _=_;rw[hL2.block hs1];exact HR1.out
  have hs2:w.heap.size<w2.heap.size:=by have:=hL2.size;omega
  have HW2:=au hw2;clear hsr hn5 VJ hL2 hB2 hw2 HSE HR1 HL1 HRP
  go_wp2_with fail
  rw[←HW2.out];refine HW.out.mono ?_;rintro e w3 ⟨n,m,rfl,hM3,hO3,hB3⟩;have HM3:=au hM3;have Yv:Hid (∀f,uI m f=BR p f):=fun f=>NY hO3 f;have HB3:Hid (Below w.heap.size w w3):=aj HB2.out hB3 HB2.out.size;have HR3:Hid (w3.heap[w.heap.size]?=some (.cells #[.int .i64 0,.int .i64 0] 69 (0,0))):=by show _=_;rw[hB3.block _ hs2];exact HR2.out
  have hs3:w.heap.size<w3.heap.size:=by have:=hB3.size;omega
  generalize w2.heap.size=bm at*;clear hM3 hO3 hB3 HB2 HR2 HW HW2 hs2 hs1;go_wp2
  go_loopg [19] l.length (fun g i wr=>∃j k:Nat,k=g∧j+k=l.length∧i=.int .i64 j∧Hid (ak w3 wr)∧Hid (eY p l=jO p l k j))
  case atStart=>exact⟨0,l.length,rfl,by omega,rfl,ak.refl _,HX⟩
  clear HX;obtain⟨j,k,hkg,hj,rfl,HL,HX⟩:=hrel;have hRr:wr.heap[w.heap.size]?=some (.cells #[.int .i64 0,.int .i64 0] 69 (0,0)):=by rw[HL.out.block hs3];exact HR3.out
  have hsr:w.heap.size<wr.heap.size:=by have:=HL.out.size;omega
  by_cases hlt:j<l.length
  ·rcases hz with rfl|⟨b,off,rfl⟩;·simp at hlt
   have hltz:(j:Int)<(l.length:Int):=by omega
   have hFr:Facts wr (.slice (some ⟨b,off,none⟩) l.length cap) l:=HF.out.below (aj HB3.out HL.out.below HB3.out.size);obtain⟨hb,ax,lx,cx,g1,g2,fx⟩:=hFr.at hlt;have hfm:l.getD j aC∈l:=by rw[List.getD_eq_getElem?_getD,List.getElem?_eq_getElem hlt];exact List.getElem_mem hlt
   have hfs:=lu (j4.1 (HSR.out _ hfm));obtain⟨wb,hwb⟩:∃wb,wb=wr.alloc (.cells #[.string (l.getD j aC).1,.slice ax lx cx] 27):=⟨_,rfl⟩;have hLb:ak wr wb:=by rw[hwb];exact(ak.refl _).alloc _
   have HC:=au (NW bm n m (l.getD j aC) (.agg #[.string (l.getD j aC).1,.slice ax lx cx]) wb (HM3.out.later (HL.out.trans hLb)) (fx.later hLb) (by have:=hfs.1;unfold maxLen;omega));rw[Yv.out] at HC;obtain⟨g,rfl⟩:∃g,k=g+1:=⟨k-1,by omega⟩;have hX:eY p l=if BR p (l.getD j aC)=true then jO p l g (j+1) else(8,j):=by rw[HX.out];rfl
   have HLb:Hid (ak w3 wb):=HL.out.trans hLb;have HRb:Hid (wb.heap[w.heap.size]?=some (.cells #[.int .i64 0,.int .i64 0] 69 (0,0))):=by show _=_;rw[hLb.block hsr];exact hRr
   have hsb:w.heap.size<wb.heap.size:=by have:=hLb.size;omega
   have HWb:=au hwb;generalize hff:BR p (l.getD j aC)=ft at*;generalize(l.getD j aC).1=nk at*;clear hff hFr fx hfm hfs hLb hwb hRr HX;cases ft with
   |true=>
    have HX':Hid (eY p l=jO p l g (j+1)):=by show _=_;rw[hX];rfl
    clear hX
    go_wp2_with fail
    rw[←HWb.out];refine HC.out.mono ?_;rintro e w5 ⟨rfl,hL5⟩;have HL5:Hid (ak w3 w5):=HLb.out.trans hL5;clear hL5 HC;go_wp2
    go_roundg g
    case measure=>omega
    case rel=>exact⟨j+1,g,rfl,by omega,by go_num,HL5,HX'⟩
   |false=>
    have HX':Hid (eY p l=(8,(j:Int))):=by show _=_;rw[hX];rfl
    clear hX
    go_wp2_with fail
    rw[←HWb.out];refine HC.out.mono ?_;rintro e w5 ⟨rfl,hL5⟩;have HL5:Hid (ak w3 w5):=HLb.out.trans hL5;have hR5:w5.heap[w.heap.size]?=some (.cells #[.int .i64 0,.int .i64 0] 69 (0,0)):=by rw[hL5.block hsb];exact HRb.out
    have q0:w5.cell? ⟨w.heap.size,0,none⟩=some (.int .i64 0):=by rw[cell_of_row _ _ _ _ _ _ hR5];rfl
    have q1:w5.cell? ⟨w.heap.size,1,none⟩=some (.int .i64 0):=by rw[cell_of_row _ _ _ _ _ _ hR5];rfl
    have p0:w5.frozen? ⟨w.heap.size,0,none⟩=false:=aS 0 hR5;have p1:w5.frozen? ⟨w.heap.size,1,none⟩=false:=aS 1 hR5;have HR5:=au hR5;clear hL5 HC hR5;go_wp2;obtain⟨r0,r1⟩:=dW HR5.out (.int .i64 8) (.int .i64 j);refine bodyPost_ret (v:=.agg #[.int .i64 8,.int .i64 j]) (by simp[results,Tryz.results28,go_sem,r0,r1]) rfl ⟨by rw[HX'.out],?_⟩;exact((aj HB3.out HL5.out.below HB3.out.size).setCell (Nat.le_refl _) _).setCell (Nat.le_refl _) _
  have hk0:k=0:=by omega
  have HX':Hid (eY p l=(0,0)):=by show _=_;rw[HX.out,hk0];rfl
  have q0:wr.cell? ⟨w.heap.size,0,none⟩=some (.int .i64 0):=by rw[cell_of_row _ _ _ _ _ _ hRr];rfl
  have q1:wr.cell? ⟨w.heap.size,1,none⟩=some (.int .i64 0):=by rw[cell_of_row _ _ _ _ _ _ hRr];rfl
  have p0:wr.frozen? ⟨w.heap.size,0,none⟩=false:=aS 0 hRr;have p1:wr.frozen? ⟨w.heap.size,1,none⟩=false:=aS 1 hRr;have HRr:=au hRr;clear hRr HX;go_wp2;obtain⟨r0,r1⟩:=dW HRr.out (.int .i64 0) (.int .i64 0);refine bodyPost_ret (v:=.agg #[.int .i64 0,.int .i64 0]) (by simp[results,Tryz.results28,go_sem,r0,r1]) rfl ⟨by rw[HX'.out],?_⟩;exact((aj HB3.out HL.out.below HB3.out.size).setCell (Nat.le_refl _) _).setCell (Nat.le_refl _) _
 have HX:Hid (eY p l=(ex,ea)):=by show _=_;unfold eY;rw[HSE.out,if_pos h0]
 have hq:(ex != 0)=true:=by simpa using h0
 have hR2:=HR1.out;have q0:w1.cell? ⟨w.heap.size,0,none⟩=some (.int .i64 0):=by rw[cell_of_row _ _ _ _ _ _ hR2];rfl
 have q1:w1.cell? ⟨w.heap.size,1,none⟩=some (.int .i64 0):=by rw[cell_of_row _ _ _ _ _ _ hR2];rfl
 have p0:w1.frozen? ⟨w.heap.size,0,none⟩=false:=aS 0 hR2;have p1:w1.frozen? ⟨w.heap.size,1,none⟩=false:=aS 1 hR2;clear hR2 HSE h0 HV HF;go_wp2;obtain⟨r0,r1⟩:=dW HR1.out (.int .i64 ex) (.int .i64 ea);have hBX:Below w.heap.size w ((w1.setCell ⟨w.heap.size,0,none⟩ (.int .i64 ex)).setCell ⟨w.heap.size,1,none⟩ (.int .i64 ea)):=(HL1.out.below.setCell (Nat.le_refl _) _).setCell (Nat.le_refl _) _;have hzX:w.heap.size<((w1.setCell ⟨w.heap.size,0,none⟩ (.int .i64 ex)).setCell ⟨w.heap.size,1,none⟩ (.int .i64 ea)).heap.size:=by rw[size_setCell,size_setCell];exact hs1
 generalize(w1.setCell ⟨w.heap.size,0,none⟩ (.int .i64 ex)).setCell ⟨w.heap.size,1,none⟩ (.int .i64 ea)=wx at*;have s0:(wx.alloc (.cells #[.int .i64 ex,.int .i64 ea] 69)).cell? ⟨w.heap.size,0,none⟩=some (.int .i64 ex):=by rw[((ak.refl wx).alloc _).cell (p:=⟨w.heap.size,0,none⟩) hzX];exact r0
 have s1:(wx.alloc (.cells #[.int .i64 ex,.int .i64 ea] 69)).cell? ⟨w.heap.size,1,none⟩=some (.int .i64 ea):=by rw[((ak.refl wx).alloc _).cell (p:=⟨w.heap.size,1,none⟩) hzX];exact r1
 refine bodyPost_ret (v:=.agg #[.int .i64 ex,.int .i64 ea]) (by simp[results,Tryz.results28,go_sem,s0,s1]) rfl ⟨by rw[HX.out],?_⟩;exact hBX.alloc hBX.size _
theorem foldl_max (ss:List Nat):∀s:Nat,(ss.map fun x:Nat=>(x:Int)).foldl max (s:Int)+1=(max (s+1) (countP ss):Nat):=by
 induction ss with
 |nil=>intro s;simp[countP]
 |cons t ss ih=>
  intro s;rw[List.map_cons,List.foldl_cons,show(max (s:Int) (t:Int))=((max s t:Nat):Int) by omega,ih];simp only[countP];omega
theorem countP_le {c:Nat}:∀{ss:List Nat},(∀s∈ss,s<c)→countP ss≤c
 |[],_=>Nat.zero_le _
 |s::ss,h=>by have h1:=h s (by simp);have h2:=countP_le (ss:=ss) fun t ht=>h t (by simp[ht]);simp only[countP];omega
theorem MI (ss:List Nat) (v:Value) (w:World) (hv:lS.sl bf w v ss) (hs:∀s∈ss,s<1000):
  Calls Tryz.prog 30 #[v] w fun e w'=>e=.returned (.int .i64 (countP ss:Nat))∧ak w w':=by
 obtain⟨a,cap,rfl⟩:=aB.slice hv;have hl:=hv.1.1;cases ss with
 |nil=>
  clear hv hs
  go_enter Tryz.func30,Tryz.ntmps30
  go_wp2;go_ret;exact⟨rfl,ak.refl _⟩
 |cons s ss=>
  obtain⟨b,off,_,rfl,hb,_,_⟩:=aB.bO hv (i:=0) (x:=s) rfl;have hM:=Tryz.slices_Max_int b off (s::ss).length cap ((s::ss).map fun x:Nat=>(x:Int)) w (by simp) (by simp) (by omega) (fun j hj=>by rw[List.length_map] at hj;obtain⟨x,hx⟩:∃x,(s::ss)[j]?=some x:=⟨_,List.getElem?_eq_getElem hj⟩;obtain⟨b1,o1,_,e1,_,rfl,hc⟩:=aB.bO hv hx;simp only[Option.some.injEq,Addr.mk.injEq,and_true] at e1;obtain⟨rfl,rfl⟩:=e1;rw[List.getD_eq_getElem?_getD,List.getElem?_map,hx];simpa[lS] using hc 0 _ rfl)
  have e:Lib.maxOf (((s::ss).map fun x:Nat=>(x:Int)).take (s::ss).length)+1=(countP (s::ss):Nat):=by
   rw[List.take_of_length_le (by simp)];unfold Lib.maxOf;rw[List.map_cons,List.headD_cons,List.foldl_cons,show max (s:Int) (s:Int)=(s:Int) by omega,foldl_max]
   rfl
  have hcp:countP (s::ss)≤1000:=countP_le hs;generalize Lib.maxOf (((s::ss).map fun x:Nat=>(x:Int)).take (s::ss).length)=mx at*;generalize countP (s::ss)=cp at*;have hmx:mx=(cp:Int)-1:=by omega
  subst hmx;have HM:=au hM;have hne:¬((((s::ss).length:Nat):Int)=0):=by simp;omega
  clear hv hs hM e
  go_enter Tryz.func30,Tryz.ntmps30
  go_wp2_with fail
  refine HM.out.mono ?_;rintro e w1 ⟨rfl,rfl⟩;go_wp2;go_ret;refine⟨?_,ak.refl _⟩
  congr 2
end Go.Proofs.YtaallngooaaonaaGreatDoor
