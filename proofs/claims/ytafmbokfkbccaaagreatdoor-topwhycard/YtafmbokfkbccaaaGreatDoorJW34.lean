import Derived.Test.YtafmbokfkbccaaaGreatDoorJW4
import Derived.Test.YtafmbokfkbccaaaGreatDoorJW33
import Derived.Test.YtafmbokfkbccaaaGreatDoorJW17
import Derived.Test.YtafmbokfkbccaaaGreatDoorJW26
import Derived.Shelf.Spec.SlicesGrow
import Derived.Test.YtafmbokfkbccaaaGreatDoorProg
import Derived.Test.YtafmbokfkbccaaaGreatDoorJW19
namespace Go.Proofs.YtafmbokfkbccaaaGreatDoor
theorem sG {a:aF} {l:List aF} {ks:List aj} {b b':List aC} (hno:a.no=false) (h:dN (a::l) ks b=(0,b')):∃k ks' b1,ks=k::ks'∧dH a k b=some b1∧dN l ks' b1=(0,b'):=by
 unfold dN at h;rw[hno] at h;simp only[Bool.false_eq_true,if_false] at h;cases ks with
 |nil=>simp at h
 |cons k ks=>
  dsimp only at h;cases hm:dH a k b with
  |none=>rw[hm] at h;simp at h
  |some b1=>rw[hm] at h;exact⟨k,ks,b1,rfl,hm,h⟩
theorem Ct {ks:List aj} {b b':List aC} (h:dN [] ks b=(0,b')):ks=[]:=by
 cases ks with
 |nil=>rfl
 |cons k ks=>simp[dN] at h
theorem sH {all:List aj} {r:aA} {f:aj} {of:List aj} (h:jk all r f of=0):∃b b',dH r.head f []=some b∧dN r.body of b=(0,b'):=by
 unfold jk at h;cases hm:dH r.head f [] with
 |none=>rw[hm] at h;cases h
 |some b=>
  rw[hm] at h;dsimp only at h;split at h
  ·rename_i h0;exact absurd h h0
  ·rename_i h0;exact⟨b,_,rfl,Prod.ext (Classical.not_not.1 h0) rfl⟩
theorem lG {b r:List aC} {v s:ByteArray} (h:bQ b v=some s):bQ (b++r) v=some s:=by rw[dZ,h]
theorem step0 {all of:List aj} {u v:ByteArray} (h:jk all I7 (wyF u v) of=0):of=[rdF u v]:=by
 obtain⟨b,b',hm,hk⟩:=sH h;obtain⟨_,k0,f0⟩:=iy (K:=[]) rfl hm;obtain⟨u',v',g1,g2,e⟩:=jP.1 f0;obtain⟨_,e⟩:=Prod.ext_iff.1 e;simp only[wyF,List.cons.injEq,and_true] at e;obtain⟨rfl,rfl⟩:=e;obtain⟨k,ks,b1,rfl,hm1,hk1⟩:=sG rfl hk;obtain rfl:=Ct hk1;obtain⟨⟨r,rfl⟩,_,f1⟩:=iy k0 hm1;obtain⟨u',v',g3,g4,rfl⟩:=jP.1 f1;rw[lG g1] at g3;rw[lG g2] at g4;cases g3;cases g4
 rfl
theorem step1 {all of:List aj} {u t:ByteArray} (h:jk all Gl (wyF u t) of=0):∃v,of=[wyF u v,rdF v t]:=by
 obtain⟨b,b',hm,hk⟩:=sH h;obtain⟨_,k0,f0⟩:=iy (K:=[]) rfl hm;obtain⟨u',t',g1,g2,e⟩:=jP.1 f0;obtain⟨_,e⟩:=Prod.ext_iff.1 e;simp only[wyF,List.cons.injEq,and_true] at e;obtain⟨rfl,rfl⟩:=e;obtain⟨k,ks,b1,rfl,hm1,hk1⟩:=sG rfl hk;obtain⟨⟨r,rfl⟩,k1,f1⟩:=iy k0 hm1;obtain⟨u',v,g3,g4,rfl⟩:=jP.1 f1;rw[lG g1] at g3;cases g3;obtain⟨k,ks,b2,rfl,hm2,hk2⟩:=sG rfl hk1;obtain rfl:=Ct hk2;obtain⟨⟨r',rfl⟩,_,f2⟩:=iy k1 hm2;obtain⟨v',t',g5,g6,rfl⟩:=jP.1 f2;rw[lG g4] at g5;rw[lG (lG g2)] at g6;cases g5;cases g6;exact⟨_,rfl⟩
theorem step2 {all of:List aj} {u t:ByteArray} (h:jk all D5 (wyF u t) of=0):False:=by
 obtain⟨b,b',hm,hk⟩:=sH h;obtain⟨_,k0,f0⟩:=iy (K:=[]) rfl hm;obtain⟨u',t',g1,g2,e⟩:=jP.1 f0;have e:=(Prod.ext_iff.1 e).1;simp[wyF,bs] at e
theorem NA {ps:List (List aj)} {f:aj} {j:Nat} (h:f∈ps.getD j []):fK ps f≤j:=by
 refine Nat.le_of_not_lt fun hlt=> ?_;unfold fK at hlt;have h1:=List.not_of_lt_findIdx hlt;have hj:j<ps.length:=Nat.lt_of_lt_of_le hlt List.findIdx_le_length;rw[List.getD_eq_getElem?_getD,List.getElem?_eq_getElem hj,Option.getD_some] at h;have h2:inB ps[j] f=true:=aN.2 h;simp only[h2] at h1;simp at h1
theorem uY {g:aA→Option (List aj)}:∀(p:List aA) (i j:Nat) (of:List aj),iC g i p=((j:Int),of)→∃r,i≤j∧p[j-i]?=some r∧g r=some of
 |[],i,j,of,h=>by
  have:=(Prod.ext_iff.1 h).1;simp only[iC] at this;omega
 |r::p,i,j,of,h=>by
  unfold iC at h;cases hg:g r with
  |some o=>
   rw[hg] at h;simp only[Prod.mk.injEq] at h;obtain⟨h1,rfl⟩:=h;have:i=j:=by omega
   subst this;exact⟨r,Nat.le_refl _,by simp,hg⟩
  |none=>
   rw[hg] at h;obtain⟨q,h1,h2,h3⟩:=uY p (i+1) j of h;refine⟨q,by omega,?_,h3⟩;rw[show j-i=(j- (i+1))+1 by omega,List.getElem?_cons_succ];exact h2
theorem Lc {p:List aA} {told all:List aj} {ps:List (List aj)} {err:List aF→Int} (hp:bZ p) (Js:∀b,err b=0↔aM b=0) (H:H9 p told all (lK err p told all ps)) {f:aj} (hf:f∈all) (hn:inB told f=false) (h1:1≤fK ps f):
  ∃(i:Nat) (r:aA) (of:List aj),p[i]?=some r∧lK err p told all ps f=((i:Int),of)∧jk all r f of=0∧(∀k∈of,k∈all)∧∀k∈of,fK ps k<fK ps f:=by
 rcases H.ok f hf with⟨h,_⟩|⟨i,r,of,hi,hh,hs,hk⟩
 ·rw[hn] at h;cases h
 ·refine⟨i,r,of,hi,hh,hs,hk,?_⟩;unfold lK at hh;rw[if_neg (by rw[hn];simp)] at hh;obtain⟨q,_,hq,hg⟩:=uY p 0 i of hh;obtain⟨_,s2⟩:=yK (fun b hb=>(Js b).1 hb) (hp.rules q (List.mem_of_getElem? hq)) hg;intro k hk';have:=NA (s2 k hk');omega
def dh:Nat→bE→List aj
 |0,_=>[]
 |n+1,x=>if x.rule<0 then[x.fact] else x.kids.flatMap (dh n)
theorem Ld {c d:Nat} (h1:c≤400) (h2:d≤60):j5 (c,d)=false:=by
 unfold j5;simp only[Bool.or_eq_false_iff,decide_eq_false_iff_not];omega
theorem oJ {how:aj→Int×List aj} {N d:Nat} {f:aj} {s s':Nat×Nat} {of:List aj} {r:Int} {ks:List bE} (hh:how f=(r,of)) (h1:s.1+1≤400) (h2:max s.2 d≤60) (hk:iF (fun g s=>bC how N g (d+1) s) of (s.1+1,max s.2 d)=(some ks,s')):bC how (N+1) f d s=(some (.mk f r ks),s'):=by
 unfold bC;rw[if_neg (by rw[Ld h1 h2];simp),hh];dsimp only;rw[hk]
theorem uZ {how:aj→Int×List aj} {N d:Nat} {f:aj} {s:Nat×Nat} (hh:how f=(-1,[])) (h1:s.1+1≤400) (h2:max s.2 d≤60):bC how (N+1) f d s=(some (.mk f (-1) []),(s.1+1,max s.2 d)):=oJ hh h1 h2 rfl
theorem Gs {g:aj→Nat×Nat→Option bE×(Nat×Nat)} {f:aj} {s s1:Nat×Nat} {k:bE} (h:g f s=(some k,s1)):iF g [f] s=(some [k],s1):=by
 simp[iF,h]
theorem Gt {g:aj→Nat×Nat→Option bE×(Nat×Nat)} {f f':aj} {s s1 s2:Nat×Nat} {k k':bE} (h:g f s=(some k,s1)) (h':g f' s1=(some k',s2)):iF g [f,f'] s=(some [k,k'],s2):=by
 simp[iF,h,h']
variable {n:Nat} {E:Nat→Nat→Prop} {L:List aj}
theorem Net.why (h:Net n E L) (hE:∀a b,E a b→a<n∧b<n) {all:List aj} {how:aj→Int×List aj} {age:aj→Nat} (hU:∀f∈all,InU n E L f) (hL:∀f∈L,how f=(-1,[]))
  (hW:∀f∈all,f∉L→∃(i:Nat) (r:aA) (of:List aj),chR[i]?=some r∧how f=((i:Int),of)∧jk all r f of=0∧(∀k∈of,k∈all)∧∀k∈of,age k<age f):
  ∀(r a b:Nat),a<8→b<8→wyF (chN a) (chN b)∈all→age (wyF (chN a) (chN b))<r→∃(x:bE) (c:Nat) (T:List Nat) (l:List aj),T.Nodup∧T.length=c∧(∀t∈T,t<n∧age (wyF (chN a) (chN t))≤age (wyF (chN a) (chN b)))∧l.length=c∧
   (∀f∈l,∃u v,E u v∧f=rdF (chN u) (chN v))∧jo (fun u v=>E u v∧rdF (chN u) (chN v)∈l) a b∧(∀m,c+1≤m→dh m x=l)∧
   ∀(N d:Nat) (s:Nat×Nat),c+1≤N→s.1+2*c≤400→max s.2 (d+c)≤60→bC how N (wyF (chN a) (chN b)) d s=(some x,(s.1+2*c,max s.2 (d+c)))
 |0,a,b,_,_,_,hr=>by omega
 |r+1,a,b,ha,hb,hf,hr=>by
  have hn:wyF (chN a) (chN b)∉L:=fun hc=>by
   rcases(h.mem _).1 hc with⟨_,_,_,e⟩|⟨_,_,e⟩
   ·simp[rdF,wyF] at e
   ·simp[wyF,twF] at e
  obtain⟨i,rr,of,hi,hh,hs,hk,hag⟩:=hW _ hf hn;have hir:i=0∧rr=I7∨i=1∧rr=Gl∨i=2∧rr=D5:=by
   rw[sw] at hi;rcases i with _|_|_|i
   ·simp at hi;simp[hi]
   ·simp at hi;simp[hi]
   ·simp at hi;simp[hi]
   ·simp at hi
  rcases hir with⟨rfl,rfl⟩|⟨rfl,rfl⟩|⟨rfl,rfl⟩
  ·obtain rfl:=step0 hs;obtain⟨a',b',he,e1,e2⟩:=h.rd (hU _ (hk (rdF (chN a) (chN b)) (by simp)));obtain rfl:=oI ha (h.e8 _ _ he).1 e1;obtain rfl:=oI hb (h.e8 _ _ he).2 e2;have hro:=hL _ ((h.mem _).2 (Or.inl ⟨_,_,he,rfl⟩));refine⟨.mk (wyF (chN a) (chN b)) 0 [.mk (rdF (chN a) (chN b)) (-1) []],1,[b],[rdF (chN a) (chN b)],by simp,rfl,?_,rfl,?_,.one ⟨he,by simp⟩,?_,?_⟩
   ·intro t ht;simp at ht;subst ht;exact⟨(hE _ _ he).2,Nat.le_refl _⟩
   ·intro f hf;simp at hf;exact⟨a,b,he,hf⟩
   ·intro m hm;obtain⟨m,rfl⟩:∃m',m=m'+1+1:=⟨m-2,by omega⟩;simp[dh,bE.rule,bE.kids,bE.fact]
   ·intro N d s hN hs1 hs2;obtain⟨N,rfl⟩:∃N',N=N'+1+1:=⟨N-2,by omega⟩;refine oJ hh (by omega) (by omega) (Gs ?_);rw[uZ hro (by show s.1+1+1≤400;omega) (by show max (max s.2 d) (d+1)≤60;omega)];refine Prod.ext rfl (Prod.ext ?_ ?_)
    ·show s.1+1+1=s.1+2*1;omega
    ·show max (max s.2 d) (d+1)=max s.2 (d+1);omega
  ·obtain⟨v,rfl⟩:=step1 hs;obtain⟨c',b',he,rfl,e2⟩:=h.rd (hU _ (hk (rdF v (chN b)) (by simp)));obtain rfl:=oI hb (h.e8 _ _ he).2 e2;have hro:=hL _ ((h.mem _).2 (Or.inl ⟨_,_,he,rfl⟩));have UJ:=hag (wyF (chN a) (chN c')) (by simp);obtain⟨x,c,T,l,t1,t2,t3,t4,t5,t6,t7,t8⟩:=h.why hE hU hL hW r a c' ha (h.e8 _ _ he).1 (hk _ (by simp)) (by omega);refine⟨.mk (wyF (chN a) (chN b)) 1 [x,.mk (rdF (chN c') (chN b)) (-1) []],c+1,b::T,l++[rdF (chN c') (chN b)],?_,by simp[t2],?_,by simp[t4],?_,?_,?_,?_⟩
   ·refine List.nodup_cons.2 ⟨fun hc=> ?_,t1⟩;have:=(t3 b hc).2;omega
   ·intro t ht;rcases List.mem_cons.1 ht with rfl|ht
    ·exact⟨(hE _ _ he).2,Nat.le_refl _⟩
    ·exact⟨(t3 t ht).1,by have:=(t3 t ht).2;omega⟩
   ·intro f hf;rcases List.mem_append.1 hf with hf|hf
    ·exact t5 f hf
    ·simp at hf;exact⟨c',b,he,hf⟩
   ·exact .more (t6.mono fun u v ⟨h1,h2⟩=>⟨h1,List.mem_append.2 (Or.inl h2)⟩) ⟨he,by simp⟩
   ·intro m hm;obtain⟨m,rfl⟩:∃m',m=m'+1+1:=⟨m-2,by omega⟩;have e:=t7 (m+1) (by omega);show(if(1:Int)<0 then _ else List.flatMap (dh (m+1)) [x,.mk (rdF (chN c') (chN b)) (-1) []])=_;rw[if_neg (by decide),List.flatMap_cons,e,List.flatMap_cons,List.flatMap_nil,List.append_nil]
    rfl
   ·intro N d s hN hs1 hs2;obtain⟨N,rfl⟩:∃N',N=N'+1+1:=⟨N-2,by omega⟩;have e1:=t8 (N+1) (d+1) (s.1+1,max s.2 d) (by omega) (by show s.1+1+2*c≤400;omega) (by show max (max s.2 d) (d+1+c)≤60;omega);refine oJ hh (by omega) (by omega) (Gt e1 ?_);dsimp only;rw[uZ hro (by show s.1+1+2*c+1≤400;omega) (by show max (max (max s.2 d) (d+1+c)) (d+1)≤60;omega)];refine Prod.ext rfl (Prod.ext ?_ ?_)
    ·show s.1+1+2*c+1=s.1+2*(c+1);omega
    ·show max (max (max s.2 d) (d+1+c)) (d+1)=max s.2 (d+(c+1));omega
  ·exact(step2 hs).elim
theorem sI:∀{n:Nat} {T:List Nat},T.Nodup→(∀t∈T,t<n)→T.length≤n
 |0,T,_,h=>by
  cases T with
  |nil=>simp
  |cons t T=>exact absurd (h t (by simp)) (by omega)
 |n+1,T,hT,h=>by
  have h1:=sI (n:=n) (T:=T.erase n) (hT.erase n) fun t ht=>by
   have h2:=h t (List.mem_of_mem_erase ht);have h3:t≠n:=fun e=>by subst e;exact(List.Nodup.not_mem_erase hT) ht
   omega
  have h4:=List.length_erase (a:=n) (l:=T);split at h4 <;> omega
theorem NC {a b:Nat} (ha:a<8) (hb:b<8):gV (wyF (chN a) (chN b)):=by
 have k1:∀p∈sF,gV (wyF (chN p.1) (chN p.2)):=by unfold gV;decide+kernel
 exact k1 (a,b) (nM ha hb)
theorem Net.Le (h:Net n E L):∃M,lD chR L=(0,M)∧Up M∧(∀f∈M,InU n E L f)∧∀a b,a<8→b<8→(wyF (chN a) (chN b)∈M↔jo E a b):=by
 obtain⟨M,k1,k2,k3,k4,k5,k6⟩:=h.follows;have e0:aK chR=([0,0,1],0,0):=kX;have e1:(aK chR).2.1=0:=by rw[e0]
 have e2:(aK chR).1=[0,0,1]:=by rw[e0]
 refine⟨M,?_,k2,k3,k5⟩;unfold lD;rw[if_neg (fun h=>h e1),uP h.good,if_neg (by simp),e2];exact k1
theorem Net.whyNot (h:Net n E L) {a b:Nat} (ha:a<8) (hb:b<8) (hl:¬jo E a b):kC chR L (wyF (chN a) (chN b))=(6,none):=by
 obtain⟨M,k1,k2,k3,k4⟩:=h.Le;have h0:gG chR L=0:=by rw[←(oF chR L).1,k1]
 obtain⟨_,_,_,hall,_⟩:=nH h0;rw[k1] at hall;have e:M=aY L (eO chR L):=(Prod.ext_iff.1 hall).2;have hi:inB M (wyF (chN a) (chN b))=false:=by
  cases e:inB M (wyF (chN a) (chN b)) with
  |false=>rfl
  |true=>exact absurd ((k4 a b ha hb).1 (aN.1 e)) hl
 unfold kC;rw[if_neg (fun hn=>hn h0),if_neg (fun hn=>hn (gY.2 (NC ha hb))),←e,if_pos hi]
theorem Net.Qe (h:Net n E L) (hE:∀a b,E a b→a<n∧b<n) {a b:Nat} (ha:a<8) (hb:b<8) (hl:jo E a b):∃x l M,kC chR L (wyF (chN a) (chN b))=(0,some x)∧(∀m,61≤m→dh m x=l)∧l.length≤n∧lD chR (eY l)=(0,M)∧Up M∧inB M (wyF (chN a) (chN b))=true:=by
 obtain⟨M,k1,k2,k3,k4⟩:=h.Le;have h0:gG chR L=0:=by rw[←(oF chR L).1,k1]
 obtain⟨hp,_,hg,hall,hho,_,_,hold,_⟩:=nH h0;rw[k1] at hall;have e:M=aY L (eO chR L):=(Prod.ext_iff.1 hall).2;rw[←e] at hg hho hold;have hi:=(k4 a b ha hb).2 hl;obtain⟨x,c,T,l,t1,t2,t3,t4,t5,t6,t7,t8⟩:=h.why hE (all:=M) (how:=lK (lF M) chR L M (L::eO chR L)) (age:=fK (L::eO chR L)) k3 (fun f hf=>by unfold lK;rw[if_pos (aN.2 hf)])
  (fun f hf hn=>by
   have hn':inB L f=false:=by
    cases e:inB L f with
    |false=>rfl
    |true=>exact absurd (aN.1 e) hn
   exact Lc hp (Cm hg) hho hf hn' (hold f hf hn').1) _ a b ha hb hi (Nat.lt_succ_self _)
 have hc:c≤n:=by rw[←t2];exact sI t1 fun t ht=>(t3 t ht).1
 have h6:=h.n6;have hN:Net 0 (fun u v=>E u v∧rdF (chN u) (chN v)∈l) (eY l):=by
  refine⟨by omega,fun a b hab=>h.e8 a b hab.1,gF l,?_,fun f=> ?_⟩
  ·have:=mU l;omega
  ·rw[bO]
   constructor
   ·intro hf;obtain⟨u,v,he,rfl⟩:=t5 f hf;exact Or.inl ⟨u,v,⟨he,hf⟩,rfl⟩
   ·rintro(⟨u,v,⟨_,hf⟩,rfl⟩|⟨k,hk,_⟩)
    ·exact hf
    ·omega
 obtain⟨M',j1,j2,j3,j4⟩:=hN.Le;refine⟨x,l,M',?_,fun m hm=>t7 m (by omega),by omega,j1,j2,aN.2 ((j4 a b ha hb).2 t6)⟩;have hgo:=t8 61 1 (0,0) (by omega) (by show 0+2*c≤400;omega) (by show max 0 (1+c)≤60;omega);unfold kC;rw[if_neg (fun hn=>hn h0),if_neg (fun hn=>hn (gY.2 (NC ha hb))),←e,if_neg (by rw[aN.2 hi];simp),hgo]
end Go.Proofs.YtafmbokfkbccaaaGreatDoor
namespace Go.Proofs.YtafmbokfkbccaaaGreatDoor
open Go.RowKit Go.Sort Go.Maps
theorem Gu:∃i z,Tryz.prog.info? 27=some i∧i.zero=some z∧i.size=2∧i.bytes=40∧z.cells.size=2:=⟨Tryz.t27,.agg #[.string ByteArray.empty,.slice none 0 0],by kernel_rfl,by kernel_rfl,by kernel_rfl,by kernel_rfl,by kernel_rfl⟩
def Ea (N:Nat):Kind aG where
 size:=2
 is:=fun B w c f=>(∀k,k<N→B k)∧N≤w.heap.size∧xY.is (fun k=>k<N) w c f
 len:=fun h=>xY.len h.2.2
 one:=fun h=>xY.one h.2.2
 kept:=fun⟨h1,h2,h3⟩ k1 k2=>⟨h1,Nat.le_trans h2 k1,xY.kept h3 k1 fun k hk hB=>k2 k hk (h1 k hB)⟩
 mono:=fun⟨h1,h2,h3⟩ k=>⟨fun i hi=>k i (Nat.lt_of_lt_of_le hi h2) (h1 i hi),h2,h3⟩
structure nN (N:Nat) (w0 w:World) (v:Value) (l:List aG):Prop where
 own:(Ea N).own 27 0 w v l
 far:∀k,v.ownBlock=some k→w0.heap.size≤k
 below:Below w0.heap.size w0 w
theorem nN.nil (N:Nat) {w0 w:World} (h:Below w0.heap.size w0 w):nN N w0 w (.slice none 0 0) []:=⟨(Ea N).iT _ _ _,fun k e=>by simp[Value.ownBlock] at e,h⟩
theorem nN.later {N:Nat} {w0 w w':World} {v:Value} {l:List aG} (h:nN N w0 w v l) (k:Below w.heap.size w w'):nN N w0 w' v l:=by
 refine⟨?_,h.far,ak h.below k h.below.size⟩;obtain⟨xs,ho,hx⟩:=h.own;refine⟨xs,⟨ho.1,?_⟩,fun i x hi=> ?_⟩
 ·rcases ho.2 with e|⟨g,cap,cur,rfl,hbg,hg,r⟩
  ·exact Or.inl e
  ·exact Or.inr ⟨g,cap,cur,rfl,hbg,by rw[k.block g (Array.getElem?_eq_some_iff.1 hg).1];exact hg,r⟩
 ·obtain⟨c,c1,c2⟩:=hx i x hi;exact⟨c,(Ea N).kept c1 k.size fun j hj _=>k.block j hj,c2⟩
theorem nN.slice {N:Nat} {w0 w:World} {v:Value} {l:List aG} (h:nN N w0 w v l):∃a c,v=.slice a l.length c:=Kind.bY h.own
theorem nN.sl {N:Nat} {w0 w:World} {v:Value} {l:List aG} (h:nN N w0 w v l) (hl:l.length≤1000) {B:Nat→Prop} (h1:∀k,k<N→B k) (h2:∀k,v.ownBlock=some k→B k):(Ea N).sl B w v l:=by
 obtain⟨xs,ho,hx⟩:=h.own;rcases ho.2 with⟨rfl,e⟩|⟨g,cap,cur,rfl,hbg,hg,hnc,_⟩
 ·have:l=[]:=List.eq_nil_of_length_eq_zero e;subst this;exact Kind.iq _ _ _ _ _
 ·refine⟨⟨by omega,hnc⟩,_,cap,rfl,fun _=>⟨g,0,rfl,h2 g rfl,(Array.getElem?_eq_some_iff.1 hg).1,fun i x hi=> ?_⟩⟩;obtain⟨c,⟨_,c1,c2⟩,c3⟩:=hx i x hi;refine⟨c,⟨h1,c1,c2⟩,fun j u hu=> ?_⟩;have:=ho.cells (g:=g) rfl _ u (c3 j u hu);rw[Addr.add_lit] at this;rw[Nat.add_assoc];exact this
theorem nN.facts {N:Nat} {w0 w:World} {v:Value} {l:List aG} (h:nN N w0 w v l) (hl:l.length≤1000):Facts w v l:=by
 obtain⟨h0,a,cap,e,h1⟩:=h.sl (B:=bU) hl (fun _ _=>trivial) fun _ _=>trivial;refine Ho (B:=bU) ⟨h0,a,cap,e,fun hne=> ?_⟩ (by omega);obtain⟨b,off,e,hB,hb,hc⟩:=h1 hne;refine⟨b,off,e,hB,hb,fun i x hi=> ?_⟩;obtain⟨c,c1,c2⟩:=hc i x hi;exact⟨c,xY.mono c1.2.2 fun _ _ _=>trivial,c2⟩
theorem zM {w0 w w':World} {o:Option Nat} (h:Below w0.heap.size w0 w) (hg:w.grownBy w' o) (hf:∀k,o=some k→w0.heap.size≤k):Below w0.heap.size w0 w':=
 ⟨hg.os.trans h.os,hg.tape.trans h.tape,hg.output.trans h.output,Nat.le_trans h.size hg.size,fun k hk=>(hg.block k (Nat.lt_of_lt_of_le hk h.size) (fun e=>by have:=hf k e.symm;omega)).trans (h.block k hk)⟩
theorem nN.many {N:Nat} {w0 w:World} {v:Value} {l:List aG} (h:nN N w0 w v l) {m:List aG} {a:Option Addr} {cap:Nat} (hs:(Ea N).sl (fun k=>v.ownBlock≠some k) w (.slice a m.length cap) m) (hl:l.length+m.length≤1099511627776):
  ∃a' n c w',(Builtin.append_ #[24,24] 24 #[v,.slice a m.length cap]).run Tryz.prog w=.ok (.slice a' n c) w'∧nN N w0 w' (.slice a' n c) (l++m):=by
 obtain⟨i,z,i1,i2,i3,i4,i5⟩:=Gu;obtain⟨v',w',hrun,hO,hg,hk⟩:=Kind.mE (P:=Tryz.prog) (e':=24) h.own Tryz.underlying24 i1 i2 i3 i4 i5 (by show 0<2;decide) (by decide) (Kind.aX hs fun k _ hb=>⟨Nat.zero_le _,hb⟩) hl (Nat.zero_le _) rfl;obtain⟨a',c,rfl⟩:=Kind.bY hO;have hsz:=h.below.size;refine⟨a',_,c,w',hrun,hO,fun k e=> ?_,zM h.below hg h.far⟩;rcases hk k e with e|e
 ·exact h.far k e
 ·omega
theorem nN.one {N:Nat} {w0 w:World} {nm:ByteArray} {s:Value} {l:List ByteArray} (h:Below w0.heap.size w0 w) (hN:N≤w0.heap.size) (hs:bsK.sl (fun k=>k<N) w s l):nN N w0 (w.alloc (.cells #[.string nm,s] 27)) (.slice (some ⟨w.heap.size,0,none⟩) 1 1) [(nm,l)]:=by
 refine⟨Kind.vL (K:=Ea N) (c:=[.string nm,s]) ⟨fun k _=>Nat.zero_le _,Nat.le_trans hN h.size,s,rfl,hs⟩ (Nat.zero_le _),fun k e=> ?_,ak h ((Later.refl w).alloc _).below h.size⟩;simp[Value.ownBlock] at e;have:=h.size;omega
theorem nN.base {N:Nat} {w0 w1 w:World} {v:Value} {l:List aG} (h:nN N w1 w v l) (hb:Below w0.heap.size w0 w1):nN N w0 w v l:=⟨h.own,fun k e=>Nat.le_trans hb.size (h.far k e),ak hb h.below hb.size⟩
theorem nN.lt {N:Nat} {w0 w:World} {v:Value} {l:List aG} (h:nN N w0 w v l) {k:Nat} (e:v.ownBlock=some k):k<w.heap.size:=by
 obtain⟨xs,ho,_⟩:=h.own;exact(ho.lt k e).2
theorem Gv {α β:Type} {g:α→List β} {l:List α} {j:Nat} {k:α} (hk:l[j]?=some k):(l.take (j+1)).flatMap g=(l.take j).flatMap g++g k∧((l.take j).flatMap g).length+(g k).length≤(l.flatMap g).length:=by
 have h1:(l.take (j+1)).flatMap g=(l.take j).flatMap g++g k:=by
  rw[List.take_add_one,hk,List.flatMap_append];simp
 refine⟨h1,?_⟩;have h2:l.flatMap g=(l.take (j+1)).flatMap g++(l.drop (j+1)).flatMap g:=by rw[←List.flatMap_append,List.take_append_drop]
 rw[h2,h1,List.length_append,List.length_append];omega
set_option maxRecDepth 100000 in
set_option maxHeartbeats 8000000 in
theorem Gw (N:Nat):∀(n:Nat) (x:bE) (v:Value) (w:World),sN n (fun k=>k<N) w v x→N≤w.heap.size→(dh (n+1) x).length≤1000→
  Calls Tryz.prog 49 #[v] w fun e w'=>∃v',e=.returned v'∧nN N w w' v' (dh (n+1) x)
 |n,x,v,w,hx,hN,hlen=>by
  have IH:∀m,n=m+1→∀(k:bE) (kv:Value) (w':World),w.heap.size≤w'.heap.size→sN m (fun k=>k<N) w' kv k→(dh n k).length≤1000→Calls Tryz.prog 49 #[kv] w' fun e w''=>∃v',e=.returned v'∧nN N w' w'' v' (dh n k):=fun m hm k kv w' hs hk hl=>by
   have:=Gw N m k kv w' hk (by omega) (by rw[←hm];exact hl);rw[←hm] at this;exact this
  obtain⟨s,kv,rfl,hs,hkv⟩:=hx;obtain⟨sa,sc,rfl⟩:=Kind.slice hs;obtain⟨ka,kc,rfl⟩:=Kind.slice hkv;have hkl:=hkv.1.1;obtain⟨w1,hw1⟩:∃w1,w1=w.alloc (.cells #[.string x.fact.1,.slice sa x.fact.2.length sc,.int .i64 x.rule,.slice ka x.kids.length kc] 30):=⟨_,rfl⟩;have hL1:Later w w1:=by rw[hw1];exact(Later.refl w).alloc _
  have hr1:w1.heap[w.heap.size]?=some (.cells #[.string x.fact.1,.slice sa x.fact.2.length sc,.int .i64 x.rule,.slice ka x.kids.length kc] 30 (0,0)):=by rw[hw1];exact heap_alloc_new w _
  obtain⟨⟨x0,x1,x2,x3⟩,⟨x4,x5,x6⟩,_,_⟩:=iV hr1;have HS1:=hide (Kind.aT hs hL1.size fun k hk _=>hL1.block hk);have HKv:=hide (Kind.aT hkv hL1.size fun k hk _=>hL1.block hk);have HIH:=hide IH;have HL1:=hide hL1;have HW1:=hide hw1;clear hs hkv hL1 hr1 hw1 IH;obtain⟨⟨fn,aI⟩,rl,kids⟩:=x;dsimp only[bE.fact,bE.rule,bE.kids] at*
  by_cases hneg:rl<0
  ·have e:dh (n+1) (.mk (fn,aI) rl kids)=[(fn,aI)]:=if_pos hneg;rw[e];obtain⟨w2,hw2⟩:∃w2,w2=w1.alloc (.cells #[.string fn,.slice sa aI.length sc] 27):=⟨_,rfl⟩;have hF:nN N w w2 (.slice (some ⟨w1.heap.size,0,none⟩) 1 1) [(fn,aI)]:=by rw[hw2];exact nN.one HL1.out.below hN HS1.out
   have HF:=hide hF;have HW2:=hide hw2;clear e hF hw2 HIH HKv HS1 hlen
   go_enter Tryz.func49,Tryz.ntmps49
   go_wp2_with (first|(rw[←HW1.out])|(rw[←HW2.out])|fail)
   go_ret;exact⟨_,rfl,HF.out⟩
  ·have e:dh (n+1) (.mk (fn,aI) rl kids)=kids.flatMap (dh n):=if_neg hneg;rw[e] at hlen⊢;have HLen:=hide hlen;clear e hlen HS1
   go_enter Tryz.func49,Tryz.ntmps49
   go_wp2_with (first|(rw[←HW1.out])|fail)
   go_loopg [3,15] kids.length (fun g o i wr=>∃j:Nat,j+g=kids.length∧i=.int .i64 j∧Hid (nN N w1 wr o ((kids.take j).flatMap (dh n))))
   case atStart=>exact⟨0,by omega,rfl,nN.nil N (Below.refl _ _)⟩
   case round=>
    obtain⟨j,hj,rfl,HF⟩:=hrel;have HB:=hide HF.out.below;obtain⟨oa,oc,rfl⟩:=HF.out.slice
    by_cases hlt:j<kids.length
    ·obtain⟨k,hk⟩:∃k,kids[j]?=some k:=⟨_,List.getElem?_eq_getElem hlt⟩;obtain⟨m,hm⟩:=yO HKv.out (by intro e;rw[e] at hlt;simp at hlt);have hKv:=HKv.out;rw[hm] at hKv;obtain⟨b2,o2,s2,kv2,e2,hb2,_,q0,q1,q2,q3,hs2,hk2⟩:=yL hKv hk;simp only[Value.slice.injEq] at e2;obtain⟨rfl,_,_⟩:=e2;obtain⟨sa2,sc2,rfl⟩:=Kind.slice hs2;obtain⟨ka2,kc2,rfl⟩:=Kind.slice hk2;have d0:wr.cell? ⟨b2,o2+j*4,none⟩=some (.string k.fact.1):=by rw[HB.out.cell (p:=⟨b2,o2+j*4,none⟩) hb2];exact q0
     have d1:wr.cell? ⟨b2,o2+j*4+1,none⟩=some (.slice sa2 k.fact.2.length sc2):=by rw[HB.out.cell (p:=⟨b2,o2+j*4+1,none⟩) hb2];exact q1
     have d2:wr.cell? ⟨b2,o2+j*4+2,none⟩=some (.int .i64 k.rule):=by rw[HB.out.cell (p:=⟨b2,o2+j*4+2,none⟩) hb2];exact q2
     have d3:wr.cell? ⟨b2,o2+j*4+3,none⟩=some (.slice ka2 k.kids.length kc2):=by rw[HB.out.cell (p:=⟨b2,o2+j*4+3,none⟩) hb2];exact q3
     obtain⟨wk,hwk⟩:∃wk,wk=wr.alloc (.cells #[.string k.fact.1,.slice sa2 k.fact.2.length sc2,.int .i64 k.rule,.slice ka2 k.kids.length kc2] 30):=⟨_,rfl⟩;have hLk:Later wr wk:=by rw[hwk];exact(Later.refl wr).alloc _
     have hRk:wk.heap[wr.heap.size]?=some (.cells #[.string k.fact.1,.slice sa2 k.fact.2.length sc2,.int .i64 k.rule,.slice ka2 k.kids.length kc2] 30 (0,0)):=by rw[hwk];exact heap_alloc_new wr _
     have hBK:Below w1.heap.size w1 wk:=ak HB.out hLk.below HB.out.size;have hFk:=HF.out.later hLk.below;obtain⟨⟨k0,k1,k2,k3⟩,⟨k4,k5,k6⟩,_,_⟩:=iV hRk;obtain⟨hp1,hp2⟩:=Gv (g:=dh n) hk;have hlen:=HLen.out;have HCl:=hide (HIH.out m hm k (.agg #[.string k.fact.1,.slice sa2 k.fact.2.length sc2,.int .i64 k.rule,.slice ka2 k.kids.length kc2]) wk (Nat.le_trans HL1.out.size hBK.size) ⟨_,_,rfl,Kind.aT hs2 hBK.size fun q hq _=>hBK.block q hq,Kind.aT hk2 hBK.size fun q hq _=>hBK.block q hq⟩ (by omega));have RJ:Hid (∀w3 v3,nN N wk w3 v3 (dh n k)→∃a3 c3,v3=.slice a3 (dh n k).length c3∧∃a' n' c' w4,(Builtin.append_ #[24,24] 24 #[.slice oa ((kids.take j).flatMap (dh n)).length oc,.slice a3 (dh n k).length c3]).run Tryz.prog w3=.ok (.slice a' n' c') w4∧nN N w1 w4 (.slice a' n' c') ((kids.take (j+1)).flatMap (dh n))):=fun w3 v3 h3=>by
      obtain⟨a3,c3,rfl⟩:=h3.slice;refine⟨a3,c3,rfl,?_⟩;have h4:=hFk.later h3.below;have hsl:=h3.sl (B:=fun q=>(Value.slice oa ((kids.take j).flatMap (dh n)).length oc).ownBlock≠some q) (by omega) (fun q hq e=>by have:=hFk.far q e;have:=HL1.out.size;omega) (fun q hq e=>by
       have g1:=h3.far q hq;have g2:=hFk.lt e;omega)
      obtain⟨a',n',c',w4,hrun,h5⟩:=h4.many hsl (by omega);rw[←hp1] at h5;exact⟨a',n',c',w4,hrun,h5⟩
     have HWk:=hide hwk;obtain⟨⟨kn,Kj⟩,krl,kk⟩:=k;dsimp only[bE.fact,bE.rule,bE.kids] at*;generalize((kids.take j).flatMap (dh n)).length=on at*;generalize dh n (.mk (kn,Kj) krl kk)=G at*;clear hk hKv q0 q1 q2 q3 hs2 hk2 hwk hLk hRk hBK hFk hm hp1 hp2 hlen HF
     go_wp2_with (first|(rw[←HWk.out])|fail)
     refine HCl.out.mono ?_;rintro e w3 ⟨v3,rfl,hF3⟩;obtain⟨a3,c3,rfl,a',n',c',w4,hrun,hF4⟩:=RJ.out w3 v3 hF3;have PK:=hide hrun;have HF4:=hide hF4;clear hF3 hrun hF4 HCl RJ HB HWk d0 d1 d2 d3 k0 k1 k2 k3 k4 k5 k6
     go_wp2_with (first|(at_builtin;refine wpList_append_run rfl (.tmp 19) (.tmp 21) 24 rfl _ _ _ _ rfl rfl PK.out ?_)|fail)
     go_roundg (kids.length- (j+1))
     case measure=>omega
     case rel=>exact⟨j+1,by omega,by go_num,HF4⟩
    ·have HE:Hid ((kids.take j).flatMap (dh n)=kids.flatMap (dh n)):=by show _=_;rw[List.take_of_length_le (by omega)]
     have HE2:=hide (HF.out.base HL1.out.below);rw[HE.out] at HE2⊢;generalize(kids.flatMap (dh n)).length=on at*;clear HE HF HB;go_wp2;go_ret;exact⟨_,rfl,HE2.out⟩
end Go.Proofs.YtafmbokfkbccaaaGreatDoor
namespace Go.Proofs
open Go.Shelf
def Tryz.growFacts_ren:Go.Shelf.Ren:=⟨fun|4=>267|n=>n,fun|22=>24|25=>27|3=>3|4=>4|9=>9|20=>20|0=>0|n=>n,fun|n=>n⟩
theorem Tryz.growFacts:Go.Proofs.Lays8.n4 Tryz.prog Tryz.growFacts_ren:={
 mixed:=by kernel_rfl
 f4:=⟨Tryz.f267.name,by decide,Tryz.func267.trans (congrArg some (by kernel_rfl))⟩
 t0:=Tryz.underlying0
 a0:=Tryz.isAgg0
 z0:=Tryz.sizeOf0
 v0:=Tryz.zeroValue0
 t3:=Tryz.underlying3
 a3:=Tryz.isAgg3
 z3:=Tryz.sizeOf3
 v3:=Tryz.zeroValue3
 t4:=Tryz.underlying4
 a4:=Tryz.isAgg4
 z4:=Tryz.sizeOf4
 v4:=Tryz.zeroValue4
 t9:=Tryz.underlying9
 a9:=Tryz.isAgg9
 z9:=Tryz.sizeOf9
 v9:=Tryz.zeroValue9
 t20:=Tryz.underlying20
 a20:=Tryz.isAgg20
 z20:=Tryz.sizeOf20
 v20:=Tryz.zeroValue20
 t22:=Tryz.underlying24
 a22:=Tryz.isAgg24
 z22:=Tryz.sizeOf24
 v22:=Tryz.zeroValue24}
end Go.Proofs
namespace Go.Proofs.YtafmbokfkbccaaaGreatDoor
open Go.RowKit Go.Sort Go.Shelf
end Go.Proofs.YtafmbokfkbccaaaGreatDoor
