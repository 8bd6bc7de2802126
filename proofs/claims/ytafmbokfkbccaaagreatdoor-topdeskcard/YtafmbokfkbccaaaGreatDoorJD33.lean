import Derived.Test.YtafmbokfkbccaaaGreatDoorJD32
import Derived.Test.YtafmbokfkbccaaaGreatDoorJD29
import Derived.Test.YtafmbokfkbccaaaGreatDoorJD24
import Derived.Test.YtafmbokfkbccaaaGreatDoorJD8
namespace Go.Proofs.YtafmbokfkbccaaaGreatDoor
open Go.RowKit Go.Sort
theorem load_save {p:List RuleD} {r:RunD} (h:wrongRunP p r=0):loadP p (wRun r)=(0,r):=by
 unfold loadP;rw[read_wrun (byteR_of h).1,if_neg (by simp),if_neg (by rw[h];simp)]
theorem RunO.run {b:Nat} {w:World} {v:Value} {r:RunD} (h:RunO b w v r) (h1:r.known.length≤200) (h2:r.fresh.length≤200):RunV w v r:=by
 obtain⟨kv,nv,e,h3,h4⟩:=h;exact⟨kv,nv,e,h3.facts (by omega),h4.facts (by omega)⟩
end Go.Proofs.YtafmbokfkbccaaaGreatDoor
namespace Go.Proofs.YtafmbokfkbccaaaGreatDoor
theorem playGo_append (φ:Prover):∀(l m:List DoD) (d:DeskD),playGo φ d (l++m)=((playGo φ (playGo φ d l).1 m).1,(playGo φ d l).2++(playGo φ (playGo φ d l).1 m).2)
 |[],m,d=>by simp[playGo]
 |x::l,m,d=>by
  have h:=playGo_append φ l m (doP φ d x).1;simp only[List.cons_append,playGo,h]
def goodP:List DoD→List AnsD→List DoD
 |x::l,a::as'=>if a.err=0∧x.kind≠5∧x.kind≠6 then x::goodP l as' else goodP l as'
 |_,_=>[]
end Go.Proofs.YtafmbokfkbccaaaGreatDoor
namespace Go.Proofs.YtafmbokfkbccaaaGreatDoor
theorem nodup_le {α:Type}:∀{s t:List α},s.Nodup→(∀x∈s,x∈t)→s.length≤t.length
 |[],_,_,_=>Nat.zero_le _
 |a::s,t,hn,h=>by
  have hn':=List.nodup_cons.1 hn;obtain⟨t1,t2,rfl⟩:=List.append_of_mem (h a (by simp));have:=nodup_le (t:=t1++t2) hn'.2 fun f hf=>by
   have h1:=h f (by simp[hf]);simp only[List.mem_append,List.mem_cons] at h1⊢;rcases h1 with h1|rfl|h1
   ·exact Or.inl h1
   ·exact absurd hf hn'.1
   ·exact Or.inr h1
  simp only[List.length_cons,List.length_append] at this⊢;omega
def cntB (F:Nat→Nat→Bool) (a:Nat):Nat→Nat
 |0=>0
 |b+1=>if F a b then cntB F a b+1 else cntB F a b
def cntA (F:Nat→Nat→Bool) (n:Nat):Nat→Nat
 |0=>0
 |a+1=>cntA F n a+cntB F a n
def rowW (F:Nat→Nat→Bool) (a:Nat):Nat→List (Nat×Nat)
 |0=>[]
 |b+1=>if F a b then rowW F a b++[(a,b)] else rowW F a b
def allWy (F:Nat→Nat→Bool) (n:Nat):Nat→List (Nat×Nat)
 |0=>[]
 |a+1=>allWy F n a++rowW F a n
theorem rowW_len (F:Nat→Nat→Bool) (a:Nat):∀b,(rowW F a b).length=cntB F a b
 |0=>rfl
 |b+1=>by unfold rowW cntB;split <;> simp[rowW_len F a b]
theorem allWy_len (F:Nat→Nat→Bool) (n:Nat):∀a,(allWy F n a).length=cntA F n a
 |0=>rfl
 |a+1=>by unfold allWy cntA;rw[List.length_append,allWy_len F n a,rowW_len]
theorem mem_rowW {F:Nat→Nat→Bool} {a:Nat} {p:Nat×Nat}:∀{b:Nat},p∈rowW F a b↔p.1=a∧p.2<b∧F a p.2=true
 |0=>by simp[rowW]
 |b+1=>by
  unfold rowW;split
  ·rename_i h;rw[List.mem_append,mem_rowW,List.mem_singleton]
   constructor
   ·rintro(⟨h1,h2,h3⟩|rfl)
    ·exact⟨h1,by omega,h3⟩
    ·exact⟨rfl,by omega,h⟩
   ·rintro⟨h1,h2,h3⟩
    by_cases e:p.2=b
    ·exact Or.inr (Prod.ext h1 e)
    ·exact Or.inl ⟨h1,by omega,h3⟩
  ·rename_i h;rw[mem_rowW]
   constructor
   ·rintro⟨h1,h2,h3⟩;exact⟨h1,by omega,h3⟩
   ·rintro⟨h1,h2,h3⟩;refine⟨h1,?_,h3⟩
    by_cases e:p.2=b
    ·rw[e] at h3;exact absurd h3 h
    ·omega
theorem mem_allWy {F:Nat→Nat→Bool} {n:Nat} {p:Nat×Nat}:∀{a:Nat},p∈allWy F n a↔p.1<a∧p.2<n∧F p.1 p.2=true
 |0=>by simp[allWy]
 |a+1=>by
  rw[allWy,List.mem_append,mem_allWy,mem_rowW]
  constructor
  ·rintro(⟨h1,h2,h3⟩|⟨h1,h2,h3⟩)
   ·exact⟨by omega,h2,h3⟩
   ·exact⟨by omega,h2,by rw[h1];exact h3⟩
  ·rintro⟨h1,h2,h3⟩
   by_cases e:p.1=a
   ·exact Or.inr ⟨e,h2,by rw[←e];exact h3⟩
   ·exact Or.inl ⟨by omega,h2,h3⟩
theorem rowW_nodup (F:Nat→Nat→Bool) (a:Nat):∀b,(rowW F a b).Nodup
 |0=>List.nodup_nil
 |b+1=>by
  unfold rowW;split
  ·refine List.nodup_append.2 ⟨rowW_nodup F a b,by simp,fun x hx y hy=> ?_⟩;have h1:=(mem_rowW.1 hx).2.1;rw[List.mem_singleton] at hy;intro e;rw[e,hy] at h1;simp at h1
  ·exact rowW_nodup F a b
theorem allWy_nodup (F:Nat→Nat→Bool) (n:Nat):∀a,(allWy F n a).Nodup
 |0=>List.nodup_nil
 |a+1=>by
  rw[allWy];refine List.nodup_append.2 ⟨allWy_nodup F n a,rowW_nodup F a n,fun x hx y hy e=> ?_⟩;have h1:=(mem_allWy.1 hx).1;have h2:=(mem_rowW.1 hy).1;rw[e] at h1;omega
theorem cntB_le (F:Nat→Nat→Bool) (a:Nat):∀b,cntB F a b≤b
 |0=>Nat.le_refl _
 |b+1=>by have:=cntB_le F a b;unfold cntB;split <;> omega
theorem cntA_le (F:Nat→Nat→Bool) (n:Nat):∀a,cntA F n a≤a*n
 |0=>by simp[cntA]
 |a+1=>by have:=cntA_le F n a;have:=cntB_le F a n;unfold cntA;rw[Nat.succ_mul];omega
def askT:Bs:=[119,97,121,40,88,44,89,41]
theorem told_ask:toldAtom askT=([aWy false [88] [89]],0,0):=by kernel_rfl
def bdW (u v:ByteArray):List BindD:=[(bs [88],u),(bs [89],v)]
theorem fits_wy {fs:List FactB} {env:List BindD}:FitsB (fun _=>fs) [aWy false [88] [89]] env↔∃u v,wyF u v∈fs∧env=bdW u v:=by
 have hp:posVars [] [aWy false [88] [89]]=[[88],[89]]:=by rfl
 have fit:∀u v,wyF u v∈fs→FitsB (fun _=>fs) [aWy false [88] [89]] (bdW u v):=fun u v hm=>by
  refine⟨by simp[bdW,cmpXY],by simp[bdW,keysB,bsX],fun x=> ?_,SoB_const.2 fun a ha=> ?_⟩
  ·rw[hp];simp[bdW,keysB]
  ·rw[List.mem_singleton] at ha;subst ha;exact⟨wyF u v,fill2.2 ⟨u,v,by simp[bdW,getB],by simp[bdW,getB,bsX],rfl⟩,inB_iff.2 hm⟩
 constructor
 ·rintro h;obtain⟨g,hg,hi⟩:=SoB_const.1 h.2.2.2 _ (by simp:aWy false [88] [89]∈[aWy false [88] [89]]);obtain⟨u,v,h1,h2,rfl⟩:=fill2.1 hg;have hm:wyF u v∈fs:=inB_iff.1 hi;refine⟨u,v,hm,?_⟩;have h':=fit u v hm;refine rise_ext three_cmpB h.1 h'.1 fun b=> ?_;obtain⟨x,s⟩:=b
  constructor
  ·intro hb;have hg:=getB_of_mem h.2.1 hb;have hx:x∈keysB env:=List.mem_map.2 ⟨(x,s),hb,rfl⟩;rw[h.2.2.1,hp] at hx;simp only[List.map_cons,List.map_nil,List.mem_cons,List.not_mem_nil,or_false] at hx;rcases hx with rfl|rfl
   ·rw[h1] at hg;cases hg;simp[bdW]
   ·rw[h2] at hg;cases hg;simp[bdW]
  ·intro hb;simp only[bdW,List.mem_cons,List.not_mem_nil,or_false,Prod.mk.injEq] at hb;rcases hb with⟨rfl,rfl⟩|⟨rfl,rfl⟩
   ·exact getB_mem h1
   ·exact getB_mem h2
 ·rintro⟨u,v,hm,rfl⟩;exact fit u v hm
theorem ask_len {K:List FactB} (hu:Up K) {R:List (List BindD)} (hR:allB (fun _=>K) [aWy false [88] [89]]=some R) {B:List (ByteArray×ByteArray)} (hn:B.Nodup) (hB:∀u v,(u,v)∈B↔wyF u v∈K):R.length=B.length:=by
 have hc:Covers [aWy false [88] [89]]:=covers_of (by decide+kernel);have hR1:R.Nodup:=strict_nodup three_cmpBs (all_strict hc (fun _=>up_nodup hu) hR);have hm:=all_mem hc hR;have hB1:(B.map fun p=>bdW p.1 p.2).Nodup:=by
  refine List.pairwise_map.2 (hn.imp fun {a b} hab e=>hab ?_);simp only[bdW,List.cons.injEq,Prod.mk.injEq,true_and,and_true] at e;exact Prod.ext e.1 e.2
 have h1:=nodup_le hR1 (t:=B.map fun p=>bdW p.1 p.2) fun r hr=>by
  obtain⟨u,v,h1,rfl⟩:=fits_wy.1 ((hm r).1 hr);exact List.mem_map.2 ⟨(u,v),(hB u v).2 h1,rfl⟩
 have h2:=nodup_le hB1 (t:=R) fun r hr=>by
  obtain⟨p,hp,rfl⟩:=List.mem_map.1 hr;exact(hm _).2 (fits_wy.2 ⟨_,_,(hB _ _).1 hp,rfl⟩)
 rw[List.length_map] at h1 h2;omega
theorem Net.ends {n:Nat} {E:Nat→Nat→Prop} {L:List FactB} (h:Net n E L) {U:List FactB} (hU:∀f,InU n E L f→f∈U):∀(m:Nat) {r:RunD},RightN chR 2 r→(∀f∈r.known,InU n E L f)→r.rounds+m≤1000→(U.length:Int)-r.known.length+(2-r.level)≤m→
  ∃x,stepsP chR [0,0,1] m r=(0,x)∧RightN chR 2 x∧(∀f∈x.known,InU n E L f)∧x.done=true
 |0,r,hr,hK,_,hm=>by
  have h1:=up_le hr.good.up fun f hf=>hU f (hK f hf);have h2:=hr.lev;refine⟨r,rfl,hr,hK,?_⟩;rw[hr.done];simp only[decide_eq_true_eq];omega
 |m+1,r,hr,hK,h0,hm=>by
  unfold stepsP;split
  ·rename_i hd;exact⟨r,rfl,hr,hK,hd⟩
  ·rename_i hd;obtain⟨x,hx,hxK⟩:=h.next hr hK (by omega)
   have hx':=hx;rw[←lv_map] at hx';have ec:countP (chR.map fun r=>lvC r.head.name)=2:=by decide
   have hn:=next_right ch_rightP (fun r=>lvC r.head.name) (by rw[ec];exact hr) (by simpa using hd) hx';rw[ec] at hn;rw[hx];dsimp only;rw[if_neg (by simp)];obtain⟨n1,n2,n3,n4⟩:=hn;refine h.ends hU m n1 hxK (by omega) ?_;rcases n4 with⟨n4,n5⟩|⟨n4,n5⟩
   ·omega
   ·rw[n5];omega
def tellDo (f:FactB):DoD:=⟨1,0,f,⟨#[]⟩⟩
def plainDo (k n:Int) (s:ByteArray):DoD:=⟨k,n,(⟨#[]⟩,[]),s⟩
def rd67:FactB:=rdF (chN 6) (chN 7)
def dosD (at_:Int):List DoD:=[plainDo 2 0 (bs roadsT),plainDo 3 0 ⟨#[]⟩,plainDo 4 at_ ⟨#[]⟩,plainDo 7 0 ⟨#[]⟩,tellDo rd67,plainDo 3 0 ⟨#[]⟩,plainDo 4 90 ⟨#[]⟩,plainDo 5 0 (bs askT),plainDo 8 0 ⟨#[]⟩,plainDo 4 90 ⟨#[]⟩,plainDo 5 0 (bs askT)]
theorem play_tells (φ:Prover):∀(L pre:List FactB),Up (pre++L)→(∀f∈L,wrongF f=0)→(pre++L).length≤200→∃ans,playGo φ {noDesk with told:=pre} (L.map tellDo)=({noDesk with told:=pre++L},ans)∧ans.length=L.length
 |[],pre,_,_,_=>⟨[],by simp[playGo],rfl⟩
 |f::L,pre,hu,hw,hl=>by
  have e:pre++f::L=(pre++[f])++L:=by simp
  rw[e] at hu hl;obtain⟨ans,h1,h2⟩:=play_tells φ L (pre++[f]) hu (fun x hx=>hw x (by simp[hx])) hl;have hs:setF (pre++[f])=pre++[f]:=setF_up_self (List.pairwise_append.1 hu).1;have hd:doP φ {noDesk with told:=pre} (tellDo f)=({noDesk with told:=pre++[f]},ansN (pre++[f]).length):=by
   show tellP _ f=_;unfold tellP;rw[if_neg (by rw[hw f (by simp)];simp)];dsimp only;rw[hs,if_neg (by rw[List.length_append] at hl;omega)]
  refine⟨ansN (pre++[f]).length::ans,?_,by simp[h2]⟩;rw[List.map_cons,playGo,hd];dsimp only;rw[h1,e]
def pairs5:List (Nat×Nat):=(List.range 5).flatMap fun a=>(List.range 5).map fun b=>(a,b)
theorem mem_pairs5 {a b:Nat} (ha:a<5) (hb:b<5):(a,b)∈pairs5:=by
 simp only[pairs5,List.mem_flatMap,List.mem_map,List.mem_range];exact⟨a,ha,b,hb,rfl⟩
theorem pairs5_len:pairs5.length=25:=by decide
def fewU (L:List FactB):List FactB:=L++((pairs5.map fun p=>wyF (chN p.1) (chN p.2))++[wyF (chN 6) (chN 7)]++pairs5.map fun p=>cuF (chN p.1) (chN p.2))
theorem fewU_len (L:List FactB):(fewU L).length=L.length+51:=by simp[fewU,pairs5_len]
theorem leads_few {n:Nat} (h5:n≤5) {E:Nat→Nat→Prop} (hE:∀a b,E a b→(a<n∧b<n)∨(a=6∧b=7)) {a b:Nat} (h:Leads E a b):(a<n∧b<n)∨(a=6∧b=7):=by
 induction h with
 |one e=>exact hE _ _ e
 |more _ e ih=>
  rcases hE _ _ e with e|e
  ·rcases ih with ih|ih
   ·exact Or.inl ⟨ih.1,e.2⟩
   ·omega
  ·rcases ih with ih|ih <;> omega
theorem inU_few {n:Nat} (h5:n≤5) {E:Nat→Nat→Prop} {L:List FactB} (hE:∀a b,E a b→(a<n∧b<n)∨(a=6∧b=7)) (f:FactB) (h:InU n E L f):f∈fewU L:=by
 simp only[fewU,List.mem_append,List.mem_map,List.mem_singleton];rcases h with h|⟨a,b,_,_,hl,rfl⟩|⟨a,b,ha,hb,rfl⟩
 ·exact Or.inl h
 ·rcases leads_few h5 hE hl with h|⟨rfl,rfl⟩
  ·exact Or.inr (Or.inl (Or.inl ⟨(a,b),mem_pairs5 (by omega) (by omega),rfl⟩))
  ·exact Or.inr (Or.inl (Or.inr rfl))
 ·exact Or.inr (Or.inr ⟨(a,b),mem_pairs5 (by omega) (by omega),rfl⟩)
theorem ch_strata0:strataP chR=([0,0,1],0,0):=strata_roads
theorem ch_forE {K:List FactB} (hg:GoodS chR K):forE chR K=0:=by
 unfold forE;rw[if_neg (by rw[ch_strata0];simp),good_facts hg]
theorem ch_wrongRun {r:RunD} (hr:RightN chR 2 r):wrongRunP chR r=0:=wrongRun_right (ch_forE hr.good) (by rw[ch_strata0];exact hr)
theorem ch_stepsF {r x:RunD} {k:Nat} (hr:RightN chR 2 r) (hk:k≤1000) (h:stepsP chR [0,0,1] k r=(0,x)):stepsF chR r (k:Int)=(0,x):=by
 unfold stepsF;rw[if_neg (by rw[ch_wrongRun hr];simp),if_neg (by simp;omega),ch_strata0];exact h
theorem ch_begin {K:List FactB} (hg:GoodS chR K):beginP chR K=(0,⟨K,K,0,0,false⟩):=by
 unfold beginP;rw[if_neg (by rw[ch_forE hg];simp)];unfold runOf;rw[ch_strata0]
 rfl
theorem Net.done_all {n:Nat} {E:Nat→Nat→Prop} {L:List FactB} (h:Net n E L) {M:List FactB} (hM:runGo chR [0,0,1] 2 0 L=(0,M)) {k:Nat} (hk:k≤1000) {x:RunD} (hx:stepsP chR [0,0,1] k ⟨L,L,0,0,false⟩=(0,x)) (hd:x.done=true):x.known=M:=by
 obtain⟨y,hy,e⟩:=h.rounds hM;have hs:=steps_add (p:=chR) (ss:=[0,0,1]) k (1000-k) ⟨L,L,0,0,false⟩ (by rw[hx]);rw[show k+(1000-k)=1000 by omega,hx,hy,steps_done hd] at hs;simp only[Prod.mk.injEq,true_and] at hs;rw[←e,hs]
theorem Net.asked {n:Nat} {E:Nat→Nat→Prop} {L:List FactB} (h:Net n E L) {d:DeskD} (hr:d.running=true) (hd:d.run.done=true) {M:List FactB} (hM:runGo chR [0,0,1] 2 0 L=(0,M)) (hK:d.run.known=M) {B:List (Nat×Nat)} (hn:B.Nodup) (h8:∀p∈B,p.1<8∧p.2<8) (hB:∀a b,a<8→b<8→((a,b)∈B↔Leads E a b)):
  ∃R,askD d (bs askT)=⟨0,0,B.length,R,noPrf⟩:=by
 obtain⟨M',k1,k2,k3,k4,k5,_⟩:=h.follows;rw[hM] at k1;simp only[Prod.mk.injEq,true_and] at k1;subst k1;have hg:GoodS chR M:=by
  have e1:runGo chR (chR.map fun r=>lvC r.head.name) (countP (chR.map fun r=>lvC r.head.name)) 0 L=(0,M):=by rw[show countP (chR.map fun r=>lvC r.head.name)=2 by decide,lv_map];exact hM
  exact(run_way ch_rightP ch_sol h.good e1).1
 obtain⟨ms,hms⟩:=met_some (pick:=fun _=>M) (fun _=>h.len k2 k3) [aWy false [88] [89]] 0 [[]] 1 (by simp) fun k hk=>by
  have:k=0∨k=1:=by simp[posN,aWy] at hk;omega
  rcases this with rfl|rfl <;> decide
 obtain⟨R,hR⟩:∃R,allB (fun _=>M) [aWy false [88] [89]]=some R:=⟨_,by unfold allB;rw[hms]⟩;have hpk:pickB M (-1) []=fun _=>M:=by
  funext i
  unfold pickB;rw[if_neg (by omega)]
 have hew:errW [aWy false [88] [89]] M []=0:=by
  unfold errW;rw[if_neg (by decide+kernel),if_neg (by rw[fault_right hg.up hg.right hg.few];simp)]
  rfl
 have hall:allW [aWy false [88] [89]] M=(0,R):=by
  unfold allW;rw[if_neg (by rw[hew];simp),hpk,hR]
 have hlen:R.length=B.length:=by
  have:=ask_len k2 hR (B:=B.map fun p=>(chN p.1,chN p.2)) (List.pairwise_map.2 ?_) fun u v=> ?_
  ·rw[List.length_map] at this;exact this
  ·have key:∀{l:List (Nat×Nat)},l.Nodup→(∀p∈l,p.1<8∧p.2<8)→l.Pairwise fun a b=>(chN a.1,chN a.2)≠(chN b.1,chN b.2):=by
    intro l
    induction l with
    |nil=>intro _ _;exact List.Pairwise.nil
    |cons a l ih=>
     intro hl h8;have hl':=List.nodup_cons.1 hl;refine List.pairwise_cons.2 ⟨fun b hb e=>hl'.1 ?_,ih hl'.2 fun p hp=>h8 p (by simp[hp])⟩;simp only[Prod.mk.injEq] at e;have e1:=chN_inj (h8 a (by simp)).1 (h8 b (by simp[hb])).1 e.1;have e2:=chN_inj (h8 a (by simp)).2 (h8 b (by simp[hb])).2 e.2;rw[show a=b from Prod.ext e1 e2];exact hb
   exact key hn h8
  ·rw[List.mem_map]
   constructor
   ·rintro⟨p,hp,e⟩;simp only[Prod.mk.injEq] at e;obtain⟨rfl,rfl⟩:=e;exact(k5 _ _ (h8 p hp).1 (h8 p hp).2).2 ((hB _ _ (h8 p hp).1 (h8 p hp).2).1 hp)
   ·intro hm;obtain⟨a,b,ha,hb,hl,rfl,rfl⟩:=h.wy (k3 _ hm);exact⟨(a,b),(hB a b ha hb).2 hl,rfl⟩
 refine⟨R,?_⟩;unfold askD;rw[raw_bs,told_ask];dsimp only;rw[if_neg (by simp),if_neg (by rw[hr,hd];simp),hK,hall,if_neg (by simp),hlen]
theorem leads_lt {n:Nat} {E:Nat→Nat→Prop} (hE:∀a b,E a b→a<n∧b<n) {a b:Nat} (h:Leads E a b):a<n∧b<n:=by
 induction h with
 |one e=>exact hE _ _ e
 |more _ e ih=>exact⟨ih.1,(hE _ _ e).2⟩
theorem leads_67 {n:Nat} (h5:n≤5) {E:Nat→Nat→Prop} (hE:∀a b,E a b→a<n∧b<n) {a b:Nat}:Leads (fun a b=>E a b∨(a=6∧b=7)) a b↔Leads E a b∨(a=6∧b=7):=by
 constructor
 ·intro h
  induction h with
  |one e=>exact e.elim (fun e=>Or.inl (.one e)) Or.inr
  |more _ e ih=>
   rcases ih with ih|ih
   ·have hb:=(leads_lt hE ih).2;rcases e with e|e
    ·exact Or.inl (.more ih e)
    ·omega
   ·rcases e with e|e
    ·have:=(hE _ _ e).1;omega
    ·omega
 ·rintro(h|h)
  ·exact h.mono fun _ _ e=>Or.inl e
  ·exact .one (Or.inr h)
theorem dod1 (φ:Prover) (d:DeskD) (f:FactB):doP φ d (tellDo f)=tellP d f:=rfl
theorem dod2 (φ:Prover) (d:DeskD) (n:Int) (s:ByteArray):doP φ d (plainDo 2 n s)=ruleP d s:=rfl
theorem dod3 (φ:Prover) (d:DeskD) (n:Int) (s:ByteArray):doP φ d (plainDo 3 n s)=runsP d (beginP d.rules d.told):=rfl
theorem dod4 (φ:Prover) (d:DeskD) (n:Int) (s:ByteArray):doP φ d (plainDo 4 n s)=stepD d n:=rfl
theorem dod5 (φ:Prover) (d:DeskD) (n:Int) (s:ByteArray):doP φ d (plainDo 5 n s)=(d,askD d s):=rfl
theorem dod7 (φ:Prover) (d:DeskD) (n:Int) (s:ByteArray):doP φ d (plainDo 7 n s)=saveD d:=rfl
theorem dod8 (φ:Prover) (d:DeskD) (n:Int) (s:ByteArray):doP φ d (plainDo 8 n s)=backD d:=rfl
theorem play_two (φ:Prover) (d:DeskD) (x:DoD) (l:List DoD) {d':DeskD} {a:AnsD} (h:doP φ d x=(d',a)):playGo φ d (x::l)=((playGo φ d' l).1,a::(playGo φ d' l).2):=by
 rw[playGo,h]
set_option maxHeartbeats 1000000 in
theorem desk_plays (φ:Prover) {n:Nat} (h1:1≤n) (h5:n≤5) {g h:Nat→Int} {m j:Nat} (hj:j≤8) {L:List FactB} (hL:L=setF (rdsL n g h m j++twsL n)) {F:Nat→Nat→Bool} (hF:F=passN n (rdsF n g h m j) n) {k:Nat} (hk:k≤20):
  L.length≤13∧∃d ans R R',playP φ (L.map tellDo++dosD (k:Nat))=(d,ans,0)∧ans.length=L.length+11∧ans[L.length+10]?=some ⟨0,0,cntA F n n,R,noPrf⟩∧ans[L.length+7]?=some ⟨0,0,(cntA F n n:Nat)+1,R',noPrf⟩:=by
 have hl13:L.length≤13:=by
  have h2:=setF_len (rdsL n g h m j++twsL n);have h3:=rdsL_len n g h m j;rw[List.length_append,twsL_len,←hL] at h2;omega
 obtain⟨E,hE⟩:∃E:Nat→Nat→Prop,E=fun a b=>rdsF n g h m j a b=true:=⟨_,rfl⟩;have N0:Net n E L:=by rw[hE,hL];exact net_of h1 (by omega) (by omega)
 have hEl:∀a b,E a b→a<n∧b<n:=fun a b e=>by rw[hE] at e;exact rdsF_lt h1 e
 have hFl:∀a b,a<n→b<n→(F a b=true↔Leads E a b):=fun a b ha hb=>by rw[hF,hE];exact pass_leads (fun a b e=>rdsF_lt h1 e) ha hb
 obtain⟨L',hL'⟩:∃L',L'=setF (L++[rd67]):=⟨_,rfl⟩;obtain⟨E',hE'⟩:∃E':Nat→Nat→Prop,E'=fun a b=>E a b∨(a=6∧b=7):=⟨_,rfl⟩;have N1:Net n E' L':=by
  refine⟨by omega,fun a b e=> ?_,by rw[hL'];exact setF_up _,?_,fun f=> ?_⟩
  ·rw[hE'] at e;rcases e with e|e
   ·have:=hEl a b e;omega
   ·omega
  ·have:=setF_len (L++[rd67]);rw[←hL',List.length_append] at this;simp at this;omega
  ·rw[hL',mem_setF,List.mem_append,N0.mem,List.mem_singleton,hE']
   constructor
   ·rintro((⟨a,b,e,rfl⟩|⟨i,hi,rfl⟩)|rfl)
    ·exact Or.inl ⟨a,b,Or.inl e,rfl⟩
    ·exact Or.inr ⟨i,hi,rfl⟩
    ·exact Or.inl ⟨6,7,Or.inr ⟨rfl,rfl⟩,rfl⟩
   ·rintro(⟨a,b,e|⟨rfl,rfl⟩,rfl⟩|⟨i,hi,rfl⟩)
    ·exact Or.inl (Or.inl ⟨a,b,e,rfl⟩)
    ·exact Or.inr rfl
    ·exact Or.inl (Or.inr ⟨i,hi,rfl⟩)
 have hl14:L'.length≤14:=by
  have:=setF_len (L++[rd67]);rw[←hL',List.length_append] at this;simp at this;omega
 obtain⟨M,k1,_⟩:=N0.follows;obtain⟨M',k1',_⟩:=N1.follows;have R0:RightN chR 2 ⟨L,L,0,0,false⟩:=right_begin (c:=2) N0.good;have R0':RightN chR 2 ⟨L',L',0,0,false⟩:=right_begin (c:=2) N1.good;obtain⟨x1,hx1,Rx1,_⟩:=N0.steps k (r:=⟨L,L,0,0,false⟩) R0 (fun f hf=>Or.inl hf) (by simp;omega);obtain⟨y,hy,Ry,_,hyd⟩:=N0.ends (U:=fewU L) (inU_few h5 fun a b e=>Or.inl (hEl a b e)) (k+90) (r:=⟨L,L,0,0,false⟩) R0 (fun f hf=>Or.inl hf) (by simp;omega) (by rw[fewU_len];simp;omega);obtain⟨y',hy',Ry',_,hyd'⟩:=N1.ends (U:=fewU L') (inU_few h5 fun a b e=>by rw[hE'] at e;exact e.imp (hEl a b) id) 90 (r:=⟨L',L',0,0,false⟩) R0' (fun f hf=>Or.inl hf) (by simp) (by rw[fewU_len];simp;omega);have hy1:stepsP chR [0,0,1] 90 x1=(0,y):=by
  have:=steps_add (p:=chR) (ss:=[0,0,1]) k 90 ⟨L,L,0,0,false⟩ (by rw[hx1]);rw[hx1] at this;rw[←this];exact hy
 have hyM:=N0.done_all k1 (by omega) hy hyd;have hyM':=N1.done_all k1' (by omega) hy' hyd';have hright:∀f∈L,wrongF f=0:=fun f hf=>wrongF_right.2 (N0.good.right f hf);obtain⟨a0,ht,ha0⟩:=play_tells φ L [] (by simpa using N0.up) hright (by simp;omega);obtain⟨R,hask⟩:=N0.asked (d:=⟨L',chR,true,y,wRun x1⟩) rfl hyd k1 hyM (B:=allWy F n n) (allWy_nodup F n n) (fun p hp=>by have:=mem_allWy.1 hp;omega) (fun a b _ _=>by
  rw[mem_allWy]
  constructor
  ·rintro⟨ha,hb,e⟩;exact(hFl a b ha hb).1 e
  ·intro hl;have:=leads_lt hEl hl;exact⟨this.1,this.2,(hFl a b this.1 this.2).2 hl⟩)
 obtain⟨R',hask'⟩:=N1.asked (d:=⟨L',chR,true,y',wRun x1⟩) rfl hyd' k1' hyM' (B:=allWy F n n++[(6,7)]) (List.nodup_append.2 ⟨allWy_nodup F n n,by simp,fun p hp q hq e=>by
   have:=mem_allWy.1 hp;rw[List.mem_singleton] at hq;rw[e,hq] at this;simp at this;omega⟩) (fun p hp=>by
   rcases List.mem_append.1 hp with hp|hp
   ·have:=mem_allWy.1 hp;omega
   ·rw[List.mem_singleton] at hp;rw[hp];simp) (fun a b _ _=>by
  rw[List.mem_append,mem_allWy,List.mem_singleton,hE',leads_67 h5 hEl,Prod.mk.injEq];refine or_congr ?_ Iff.rfl
  constructor
  ·rintro⟨ha,hb,e⟩;exact(hFl a b ha hb).1 e
  ·intro hl;have:=leads_lt hEl hl;exact⟨this.1,this.2,(hFl a b this.1 this.2).2 hl⟩)
 rw[allWy_len] at hask;rw[List.length_append,allWy_len] at hask';have s0:doP φ {noDesk with told:=[]++L} (plainDo 2 0 (bs roadsT))=(⟨L,chR,false,noRun,[]⟩,ansN chR.length):=by
  rw[dod2];unfold ruleP;rw[raw_bs,told_roads];dsimp only;rw[if_neg (by simp),if_neg (by rw[strata_roads];simp)]
  rfl
 have s1:doP φ ⟨L,chR,false,noRun,[]⟩ (plainDo 3 0 ⟨#[]⟩)=(⟨L,chR,true,⟨L,L,0,0,false⟩,[]⟩,ansN L.length):=by
  rw[dod3];dsimp only;rw[ch_begin N0.good]
  rfl
 have s2:doP φ ⟨L,chR,true,⟨L,L,0,0,false⟩,[]⟩ (plainDo 4 (k:Nat) ⟨#[]⟩)=(⟨L,chR,true,x1,[]⟩,ansN x1.known.length):=by
  rw[dod4];unfold stepD;rw[if_neg (by simp)];dsimp only;rw[ch_stepsF R0 (by omega) hx1]
  rfl
 have s3:doP φ ⟨L,chR,true,x1,[]⟩ (plainDo 7 0 ⟨#[]⟩)=(⟨L,chR,true,x1,wRun x1⟩,ansN (wRun x1).length):=by
  rw[dod7];have hs:saveP chR x1=(0,wRun x1):=by unfold saveP;rw[if_neg (by rw[ch_wrongRun Rx1];simp)]
  unfold saveD;rw[if_neg (by simp)];dsimp only;rw[hs,if_neg (by simp)]
 have s4:doP φ ⟨L,chR,true,x1,wRun x1⟩ (tellDo rd67)=(⟨L',chR,true,x1,wRun x1⟩,ansN L'.length):=by
  rw[dod1];unfold tellP;rw[if_neg (by decide+kernel)];dsimp only;rw[←hL',if_neg (by omega)]
 have s5:doP φ ⟨L',chR,true,x1,wRun x1⟩ (plainDo 3 0 ⟨#[]⟩)=(⟨L',chR,true,⟨L',L',0,0,false⟩,wRun x1⟩,ansN L'.length):=by
  rw[dod3];dsimp only;rw[ch_begin N1.good]
  rfl
 have s6:doP φ ⟨L',chR,true,⟨L',L',0,0,false⟩,wRun x1⟩ (plainDo 4 90 ⟨#[]⟩)=(⟨L',chR,true,y',wRun x1⟩,ansN y'.known.length):=by
  rw[dod4,show(90:Int)=((90:Nat):Int) from rfl];unfold stepD;rw[if_neg (by simp)];dsimp only;rw[ch_stepsF R0' (by omega) hy']
  rfl
 have s7:doP φ ⟨L',chR,true,y',wRun x1⟩ (plainDo 5 0 (bs askT))=(⟨L',chR,true,y',wRun x1⟩,⟨0,0,((cntA F n n+1:Nat):Int),R',noPrf⟩):=by
  rw[dod5,hask']
  rfl
 have s8:doP φ ⟨L',chR,true,y',wRun x1⟩ (plainDo 8 0 ⟨#[]⟩)=(⟨L',chR,true,x1,wRun x1⟩,ansN x1.known.length):=by
  rw[dod8];unfold backD;rw[if_neg (by show wRun x1≠[];unfold wRun wHead;simp)];dsimp only;rw[load_save (ch_wrongRun Rx1)]
  rfl
 have s9:doP φ ⟨L',chR,true,x1,wRun x1⟩ (plainDo 4 90 ⟨#[]⟩)=(⟨L',chR,true,y,wRun x1⟩,ansN y.known.length):=by
  rw[dod4,show(90:Int)=((90:Nat):Int) from rfl];unfold stepD;rw[if_neg (by simp)];dsimp only;rw[ch_stepsF Rx1 (by omega) hy1]
  rfl
 have s10:doP φ ⟨L',chR,true,y,wRun x1⟩ (plainDo 5 0 (bs askT))=(⟨L',chR,true,y,wRun x1⟩,⟨0,0,((cntA F n n:Nat):Int),R,noPrf⟩):=by
  rw[dod5,hask]
 have hgo:=playGo_append φ (L.map tellDo) (dosD (k:Nat)) noDesk;rw[show playGo φ noDesk (L.map tellDo)=({noDesk with told:=[]++L},a0) from ht] at hgo;dsimp only at hgo;unfold dosD at hgo;rw[play_two _ _ _ _ s0,play_two _ _ _ _ s1,play_two _ _ _ _ s2,play_two _ _ _ _ s3,play_two _ _ _ _ s4,play_two _ _ _ _ s5,play_two _ _ _ _ s6,play_two _ _ _ _ s7,play_two _ _ _ _ s8,play_two _ _ _ _ s9,play_two _ _ _ _ s10] at hgo;simp only[playGo] at hgo;have hpl:playP φ (L.map tellDo++dosD (k:Nat))=((playGo φ noDesk (L.map tellDo++dosD (k:Nat))).1,(playGo φ noDesk (L.map tellDo++dosD (k:Nat))).2,0):=by
  unfold playP;rw[if_neg (by rw[List.length_append,List.length_map];simp[dosD];omega)]
 unfold dosD at hpl;rw[hgo] at hpl;refine⟨hl13,_,_,R,R',hpl,?_,?_,?_⟩
 ·rw[List.length_append,ha0];rfl
 ·rw[←ha0,List.getElem?_append_right (by omega)];simp
 ·rw[←ha0,List.getElem?_append_right (by omega)];simp
end Go.Proofs.YtafmbokfkbccaaaGreatDoor
namespace Go.Proofs.YtafmbokfkbccaaaGreatDoor
open Go.RowKit Go.Sort Go.Maps
def noR:Nat→Nat→Bool:=fun _ _=>false
theorem cells_noR:cellsR noR=#[.bool false,.bool false,.bool false,.bool false,.bool false,.bool false,.bool false,.bool false,.bool false,.bool false,.bool false,.bool false,.bool false,.bool false,.bool false,.bool false,.bool false,.bool false,.bool false,.bool false,.bool false,.bool false,.bool false,.bool false,.bool false,.bool false,.bool false,.bool false,.bool false,.bool false,.bool false,.bool false,.bool false,.bool false,.bool false,.bool false,.bool false,.bool false,.bool false,.bool false,.bool false,.bool false,.bool false,.bool false,.bool false,.bool false,.bool false,.bool false,.bool false,.bool false,.bool false,.bool false,.bool false,.bool false,.bool false,.bool false,.bool false,.bool false,.bool false,.bool false,.bool false,.bool false,.bool false,.bool false]:=by kernel_rfl
theorem exec_load {P:Program} {ρ:Operand→Value} {o:Oper} {t:TypeId} {a:Operand} {w:World} {v x:Value} (ho:o.op=.load t a) (hx:ρ a=x) (h:(Instr.loadAt t x).run P w=.ok v w):(execOp ρ o).run P w=.ok (.value v) w:=by
 unfold execOp;rw[ho];simp[hx,h,Result.andThen]
theorem step_store {P:Program} {ops:Array Oper} {o:Oper} {a:Act} {w:World} {K:Act→World→Prop} {Q:Exit→Act→World→Prop} {E:Prop} (hg:o.guard=none) (hd:o.dst=none) (t:TypeId) (p x:Operand) (hop:o.op=Op.store t p x)
  (v1 v2:Value) (w':World) (hp:a.eval p=v1) (hx:a.eval x=v2) (hrun:(Instr.storeAt t v1 v2).run P w=.ok () w') (hK:K a w'):
  if Region.wanted o (yielded ops a.tmps)=true then Oper.wp P o a w K Q else E:=by
 have hw:Region.wanted o (yielded ops a.tmps)=true:=by simp[Region.wanted,hg]
 rw[if_pos hw];unfold Oper.wp;simp[execOp,hop,hp,hx,hrun,Result.andThen];rw[Oper.upon_skip,hd];exact hK
theorem results_tmp_cell {fn:Func} {p u:Tmp} {ty:TypeId} (h:fn.results=#[.tmp u,.cell p ty]) (tmps:Array Value) (P:Program) (w:World) {x y:Value} {a:Addr} (hu:tmps.getD u undef=x) (hp:tmps.getD p undef=.pointer (some a)) (hl:(loadVar ty a).run P w=.ok y w):
  (results fn tmps).run P w=.ok (.tuple #[x,y]) w:=by
 rw[Array.getD_eq_getD_getElem?] at hp hu;simp only[results,h];simp[Result.andThen,asAddr,hp,hu,hl]
theorem row_new {w:World} {g:Nat} {cs cs':Array Value} {t:TypeId} (h:w.heap[g]?=some (.cells cs t (0,0))):(w.setRow g cs').heap[g]?=some (.cells cs' t (0,0))∧Tn g w (w.setRow g cs'):=
 ⟨by simp[World.setRow,Array.getElem?_modify,h],rfl,rfl,rfl,by simp[World.setRow],fun k _ hk=>by simp only[World.setRow,Array.getElem?_modify];rw[if_neg (fun e=>hk e.symm)]⟩
set_option maxRecDepth 100000 in
set_option maxHeartbeats 4000000 in
theorem netsC (n:Nat) (h1:1≤n) (h6:n≤6) (fv tv:Value) (g h:Nat→Int) (nf nt:Nat) (hnf:nf≤12) (w:World) (hF:IntsZ w fv g nf) (hT:IntsZ w tv h nt):
  Calls Tryz.prog 45 #[.int .i64 (n:Nat),fv,tv] w fun e w'=>∃v,e=.returned (.tuple #[v,.agg (cellsR (passN n (rdsF n g h nt nf) n))])∧OwnF w' w.heap.size v (setF (rdsL n g h nt nf++twsL n))∧Below w.heap.size w w':=by
 obtain⟨fa,fc,rfl,hFa⟩:=hF;obtain⟨ta,tc,rfl,hTa⟩:=hT;obtain⟨w2,hw2⟩:∃w2,w2=(w.alloc (.cells (cellsR noR) 92)).alloc (.cells (cellsR noR) 92):=⟨_,rfl⟩;have hz2:w2.heap.size=w.heap.size+2:=by rw[hw2];simp
 have hb2:w.heap.size+1<w2.heap.size:=by omega
 have hL2:Later w w2:=by rw[hw2];exact((Later.refl _).alloc _).alloc _
 have HS2:Hid (NetS w2 w2 (w.heap.size+1) noR (.slice none 0 0) []):=⟨Tn.refl _ _,by unfold RowR;rw[hw2,heap_at,if_pos (by simp)],OwnF.nil _ _⟩;have HP2:Hid (w2.heap[w.heap.size]?=some (.cells (cellsR noR) 92 (0,0))):=by show _=_;rw[hw2,heap_at,if_neg (by simp)];exact heap_alloc_new _ _
 have HFa:=hide hFa;have HTa:=hide hTa;rw[cells_noR] at hw2;have HW2:=hide hw2;have HL2:=hide hL2;have HZ2:=hide hz2;clear hFa hTa hw2 hL2 hz2;generalize hB:w.heap.size+1=b at*
 go_enter Tryz.func45,Tryz.ntmps45
 go_wp2_with (first|(rw[←HW2.out])|fail)
 clear HW2
 go_loopg [8,19] nf (fun k v i wr=>∃j:Nat,j+k=nf∧i=.int .i64 j∧Hid (NetS w2 wr b (rdsF n g h nt j) v (rdsL n g h nt j)))
 case atStart=>exact⟨0,by omega,rfl,HS2⟩
 case round=>
  obtain⟨j,hj,rfl,HS⟩:=hrel;clear HS2;obtain⟨va,vn,vc,rfl⟩:∃a n c,u8=.slice a n c:=by obtain⟨a,c,e⟩:=HS.out.own.slice;exact⟨a,_,c,e⟩
  by_cases hlt:j<nf
  ·have hltz:(j:Int)<(nf:Int):=by omega
   by_cases hmt:j<nt
   ·have hmtz:(j:Int)<(nt:Int):=by omega
    obtain⟨fb,fo,rfl,hfb,hfc⟩:=HFa.out (by omega);obtain⟨tb,to',rfl,htb,htc⟩:=HTa.out (by omega);have c1:wr.cell? ⟨fb,fo+j,none⟩=some (.int .i64 (g j)):=by rw[HS.out.tn.cell (x:=⟨fb,fo+j,none⟩) (Nat.lt_of_lt_of_le hfb HL2.out.size) (by show fb≠b;omega),HL2.out.cell (p:=⟨fb,fo+j,none⟩) hfb];exact hfc j hlt
    have c2:wr.cell? ⟨tb,to'+j,none⟩=some (.int .i64 (h j)):=by rw[HS.out.tn.cell (x:=⟨tb,to'+j,none⟩) (Nat.lt_of_lt_of_le htb HL2.out.size) (by show tb≠b;omega),HL2.out.cell (p:=⟨tb,to'+j,none⟩) htb];exact htc j hmt
    have hn0:((n:Int)==0)=false:=beq_eq_false_iff_ne.2 (by omega);have hnear:=tmod_near h1 (g j);have hnear2:=tmod_near h1 (h j);have ea:=townN_eq h1 (g j);have eb:=townN_eq h1 (h j);have ha:=townN_lt h1 (g j);have hb:=townN_lt h1 (h j);have HRF:Hid (rdsF n g h nt (j+1)=fun x y=>if x=townN n (g j)∧y=townN n (h j) then true else rdsF n g h nt j x y):=by show _=_;rw[rdsF,if_pos hmt]
    have HRL:Hid (rdsL n g h nt (j+1)=rdsL n g h nt j++[rdF (chN (townN n (g j))) (chN (townN n (h j)))]):=by show _=_;rw[rdsL,if_pos hmt]
    generalize townN n (g j)=A at*;generalize townN n (h j)=B at*;obtain⟨x1,hx1⟩:∃x,Int.tmod (g j) n=x:=⟨_,rfl⟩;obtain⟨x2,hx2⟩:∃x,Int.tmod (h j) n=x:=⟨_,rfl⟩;rw[hx1] at hnear ea;rw[hx2] at hnear2 eb;have hw1:wrap64 (x1+(n:Int))=x1+(n:Int):=IntWalk.wrap64_in _ ⟨by omega,by omega⟩;have hw2:wrap64 (x2+(n:Int))=x2+(n:Int):=IntWalk.wrap64_in _ ⟨by omega,by omega⟩;go_wp2
    go_quiet (fail)
    go_wp2_with fail
    refine(roadL A B (by omega) (by omega) _).mono ?_;rintro e w3 ⟨v3,rfl,hF3,hL3,hfar⟩;obtain⟨s,rfl,hs⟩:=hF3;obtain⟨_,s',es,hfar⟩:=hfar;simp only[Value.agg.injEq,Array.mk.injEq,List.cons.injEq,and_true] at es;obtain⟨rfl,rfl⟩:=es;obtain⟨sA',sC',rfl⟩:=sliceStr hs;have hS3:=HS.out.later (((Later.refl _).drewN _).trans hL3);obtain⟨a5,n5,c5,w5,hrun,hS5⟩:=hS3.more hb2 (⟨#[114,111,97,100]⟩,[nmB A,nmB B]) _ hs (fun k e=>by
     have h1:wr.heap.size≤k∧k<w3.heap.size:=hfar k e;have h2:=HS.out.tn.size;refine⟨by omega,by omega,fun e'=> ?_⟩;have h3:=(HS.out.own.lt e').2;omega) (by have:=rdsL_len n g h nt j;omega)
    have HR5:=hide hrun;have HS5:=hide hS5;have d1:=hS5.row.cell (a:=A) (c:=B) (by omega) (by omega);have d2:=hS5.row.free (j:=A*8+B);clear hfar hs hS3 hrun hS5 hL3
    go_wp2_with (at_builtin;refine wpList_append_run rfl (.tmp 46) (.tmp 50) 24 rfl _ _ _ _ rfl rfl HR5.out ?_)
    have HS6:=hide (HS5.out.set hb2 (a:=A) (c:=B) (by omega) (by omega) true)
    go_roundg (nf- (j+1))
    case measure=>omega
    case rel=>exact⟨j+1,by omega,by go_num,by rw[HRF.out,HRL.out];exact HS6⟩
   ·have hmtz:¬(j:Int)<(nt:Int):=by omega
    go_wp2
    go_roundg (nf- (j+1))
    case measure=>omega
    case rel=>exact⟨j+1,by omega,by go_num,by rw[rdsF,rdsL,if_neg hmt,if_neg hmt];exact HS⟩
  ·obtain rfl:j=nf:=by omega
   have hll:=rdsL_len n g h nt j;have hnz:¬(j:Int)<(j:Int):=by omega
   go_wp2;obtain⟨f0,hf0⟩:∃f,f=rdsF n g h nt j:=⟨_,rfl⟩;obtain⟨L0,hL0⟩:∃l,l=rdsL n g h nt j:=⟨_,rfl⟩;rw[←hf0,←hL0] at HS;rw[←hL0] at hll;have HF0:=hide hf0;have HL0:=hide hL0;clear hf0 hL0
   go_loopg [58] n (fun k i wr=>∃q:Nat,q+k=n∧i=.int .i64 q∧Hid (NetS w2 wr b (passN n f0 q) (.slice va vn vc) L0))
   case atStart=>exact⟨0,by omega,rfl,HS⟩
   case round=>
    clear HS;obtain⟨q,hq,rfl,HQ⟩:=hrel
    by_cases hqn:q<n
    ·have hqz:(q:Int)<(n:Int):=by omega
     go_wp2;obtain⟨F,hF⟩:∃F,F=passN n f0 q:=⟨_,rfl⟩;rw[←hF] at HQ
     go_loopg [61] n (fun k i wr=>∃a:Nat,a+k=n∧i=.int .i64 a∧Hid (NetS w2 wr b (passA n F a) (.slice va vn vc) L0))
     case atStart=>exact⟨0,by omega,rfl,HQ⟩
     case round=>
      clear HQ;obtain⟨a,ha,rfl,HA⟩:=hrel
      by_cases han:a<n
      ·have haz:(a:Int)<(n:Int):=by omega
       go_wp2;obtain⟨F',hF'⟩:∃F',F'=passA n F a:=⟨_,rfl⟩;rw[←hF'] at HA
       go_loopg [65] n (fun k i wr=>∃d:Nat,d+k=n∧i=.int .i64 d∧Hid (NetS w2 wr b (passB n F' a d) (.slice va vn vc) L0))
       case atStart=>exact⟨0,by omega,rfl,HA⟩
       case round=>
        clear HA;obtain⟨d,hd,rfl,HD⟩:=hrel
        by_cases hdn:d<n
        ·have hdz:(d:Int)<(n:Int):=by omega
         go_wp2;obtain⟨F'',hF''⟩:∃F'',F''=passB n F' a d:=⟨_,rfl⟩;rw[←hF''] at HD
         go_loopg [69] n (fun k i wr=>∃c:Nat,c+k=n∧i=.int .i64 c∧Hid (NetS w2 wr b (passC F'' a d c) (.slice va vn vc) L0))
         case atStart=>exact⟨0,by omega,rfl,HD⟩
         case round=>
          clear HD;obtain⟨c,hc,rfl,HC⟩:=hrel
          by_cases hcn:c<n
          ·have hcz:(c:Int)<(n:Int):=by omega
           obtain⟨f,hf⟩:∃f,f=passC F'' a d c:=⟨_,rfl⟩;rw[←hf] at HC;obtain⟨u,hu⟩:∃u,u=(f a c||(f a d&&f d c)):=⟨_,rfl⟩;have HN:Hid (NetS w2 (wr.drew.setCell ⟨b,a*8+c,none⟩ (.bool u)) b (passC F'' a d (c+1)) (.slice va vn vc) L0):=by
            have:=(HC.out.later (Later.refl _).drew).set hb2 (a:=a) (c:=c) (by omega) (by omega) u;rw[passC,←hf];unfold updR;rw[←hu];exact this
           have hrow:RowR 92 wr.drew b f:=HC.out.row;have HK:=hide (hrow.keep (a:=a) (d:=d) (c:=c) (by omega) (by omega) (by omega) hu);have q0:=hrow.cell (a:=a) (c:=c) (by omega) (by omega);have q1:=hrow.cell (a:=a) (c:=d) (by omega) (by omega);have q2:=hrow.cell (a:=d) (c:=c) (by omega) (by omega);have q3:=hrow.free (j:=a*8+c);have a8:(a:Int)<8:=by omega
           have c8:(c:Int)<8:=by omega
           have d8:(d:Int)<8:=by omega
           clear hrow HC hf;generalize f a c=x0 at*;generalize f a d=x1 at*;generalize f d c=x2 at*;go_wp2;refine wp_region_held_drew (S:=fun w'=>KeepS b a d c x0 x1 x2 w') (by kernel_rfl) ⟨fun _=>q1,fun _ _=>q2⟩ (fun hHeld=> ?_);refine take_yes (i:=0) (d:=some 72) (v:= ?_) rfl rfl hHeld ?_ ?_;rotate_left;focus intro w hSw;(try dsimp only at hSw);go_simp;try with_reducible rfl
           simp only[aput,aset,aze,asu];refine take_yes (i:=1) (d:=some 73) (v:= ?_) rfl rfl hHeld ?_ ?_;rotate_left;focus intro w hSw;(try dsimp only at hSw);go_simp;try with_reducible rfl
           simp only[aput,aset,aze,asu];refine take_yes (i:=2) (d:=some 74) (v:= ?_) rfl rfl hHeld ?_ ?_;rotate_left;focus intro w hSw;(try dsimp only at hSw);go_simp;try with_reducible rfl
           simp only[aput,aset,aze,asu];refine take_yes (i:=3) (d:=some 75) (v:= ?_) rfl rfl hHeld ?_ ?_;rotate_left;focus intro w hSw;(try dsimp only at hSw);go_simp;try with_reducible rfl
           simp only[aput,aset,aze,asu];refine take_yes (i:=4) (d:=some 76) (v:= ?_) rfl rfl hHeld ?_ ?_;rotate_left;focus intro w hSw;(try dsimp only at hSw);go_simp;try with_reducible rfl
           simp only[aput,aset,aze,asu];refine take_yes (i:=5) (d:=some 77) (v:= ?_) rfl rfl hHeld ?_ ?_;rotate_left;focus intro w hSw;(try dsimp only at hSw);go_simp;try with_reducible rfl
           simp only[aput,aset,aze,asu];refine take_yes (i:=21) (d:=some 93) (v:= ?_) rfl rfl hHeld ?_ ?_;rotate_left;focus intro w hSw;(try dsimp only at hSw);go_simp;try with_reducible rfl
           simp only[aput,aset,aze,asu];refine wpAnyH_ready (rs:=[6]) (by kernel_rfl) (by simp) ?_;refine AllReadyH.cons rfl (fun K hK=> ?_) AllReadyH.nil;go_simp;refine hK.out _ _ hHeld (fun hHeld=> ?_);clear hK K;refine take_yes (i:=7) (d:=some 79) (v:= ?_) rfl rfl hHeld ?_ ?_;rotate_left;focus intro w hSw;(try dsimp only at hSw);go_simp;try with_reducible rfl
           simp only[aput,aset,aze,asu];cases x0
           ·skip
            refine take_yes (i:=8) (d:=some 80) (v:= ?_) rfl rfl hHeld ?_ ?_;rotate_left;focus intro w hSw;(try dsimp only at hSw);go_simp;try with_reducible rfl
            simp only[aput,aset,aze,asu];refine take_yes (i:=9) (d:=some 81) (v:= ?_) rfl rfl hHeld ?_ ?_;rotate_left;focus intro w hSw;(try dsimp only at hSw);go_simp;try with_reducible rfl
            simp only[aput,aset,aze,asu];refine take_yes (i:=10) (d:=some 82) (v:= ?_) rfl rfl hHeld ?_ ?_;rotate_left;focus intro w hSw;(try dsimp only at hSw);go_simp;try with_reducible rfl
            simp only[aput,aset,aze,asu];refine take_yes (i:=11) (d:=some 83) (v:= ?_) rfl rfl hHeld ?_ ?_;rotate_left;focus intro w hSw;(try dsimp only at hSw);go_simp;try with_reducible rfl
            simp only[aput,aset,aze,asu];refine take_yes (i:=12) (d:=some 84) (v:= ?_) rfl rfl hHeld ?_ ?_;rotate_left;focus intro w hSw;(try dsimp only at hSw);have s1:=hSw.one;go_simp;try with_reducible rfl
            simp only[aput,aset,aze,asu];refine take_yes (i:=13) (d:=some 85) (v:= ?_) rfl rfl hHeld ?_ ?_;rotate_left;focus intro w hSw;(try dsimp only at hSw);go_simp;try with_reducible rfl
            simp only[aput,aset,aze,asu];cases x1
            ·skip
             refine take_no (i:=14) (d:=some 86) rfl rfl hHeld ?_;simp only[aput,aset,aze,asu];refine take_no (i:=15) (d:=some 87) rfl rfl hHeld ?_;simp only[aput,aset,aze,asu];refine take_no (i:=16) (d:=some 88) rfl rfl hHeld ?_;simp only[aput,aset,aze,asu];refine take_no (i:=17) (d:=some 89) rfl rfl hHeld ?_;simp only[aput,aset,aze,asu];refine take_no (i:=18) (d:=some 90) rfl rfl hHeld ?_;simp only[aput,aset,aze,asu];refine take_yes (i:=19) (d:=some 91) (v:= ?_) rfl rfl hHeld ?_ ?_;rotate_left;focus intro w hSw;(try dsimp only at hSw);go_simp;try with_reducible rfl
             simp only[aput,aset,aze,asu];refine take_yes (i:=20) (d:=some 92) (v:= ?_) rfl rfl hHeld ?_ ?_;rotate_left;focus intro w hSw;(try dsimp only at hSw);go_simp;try with_reducible rfl
             simp only[aput,aset,aze,asu];refine take_yes (i:=22) (d:=some 94) (v:= ?_) rfl rfl hHeld ?_ ?_;rotate_left;focus intro w hSw;(try dsimp only at hSw);go_simp;try with_reducible rfl
             simp only[aput,aset,aze,asu];obtain rfl:u=false:=hu;refine wpAnyH_ready (rs:=[23]) (by kernel_rfl) (by simp) ?_;refine AllReadyH.cons rfl (fun K hK=> ?_) AllReadyH.nil;go_simp;refine hK.out _ _ HK.out (fun hHeld=> ?_);clear hK K;refine wpAnyH_done (by kernel_rfl) ?_ _;clear q0 q1 q2 q3 hHeld;go_wp2
             go_roundg (n- (c+1))
             case measure=>omega
             case rel=>exact⟨c+1,by omega,by go_num,HN⟩
            ·skip
             refine take_yes (i:=14) (d:=some 86) (v:= ?_) rfl rfl hHeld ?_ ?_;rotate_left;focus intro w hSw;(try dsimp only at hSw);go_simp;try with_reducible rfl
             simp only[aput,aset,aze,asu];refine take_yes (i:=15) (d:=some 87) (v:= ?_) rfl rfl hHeld ?_ ?_;rotate_left;focus intro w hSw;(try dsimp only at hSw);go_simp;try with_reducible rfl
             simp only[aput,aset,aze,asu];refine take_yes (i:=16) (d:=some 88) (v:= ?_) rfl rfl hHeld ?_ ?_;rotate_left;focus intro w hSw;(try dsimp only at hSw);go_simp;try with_reducible rfl
             simp only[aput,aset,aze,asu];refine take_yes (i:=17) (d:=some 89) (v:= ?_) rfl rfl hHeld ?_ ?_;rotate_left;focus intro w hSw;(try dsimp only at hSw);go_simp;try with_reducible rfl
             simp only[aput,aset,aze,asu];refine take_yes (i:=18) (d:=some 90) (v:= ?_) rfl rfl hHeld ?_ ?_;rotate_left;focus intro w hSw;(try dsimp only at hSw);have s1:=hSw.two;go_simp;try with_reducible rfl
             simp only[aput,aset,aze,asu];refine take_yes (i:=19) (d:=some 91) (v:= ?_) rfl rfl hHeld ?_ ?_;rotate_left;focus intro w hSw;(try dsimp only at hSw);go_simp;try with_reducible rfl
             simp only[aput,aset,aze,asu];refine take_yes (i:=20) (d:=some 92) (v:= ?_) rfl rfl hHeld ?_ ?_;rotate_left;focus intro w hSw;(try dsimp only at hSw);go_simp;try with_reducible rfl
             simp only[aput,aset,aze,asu];refine take_yes (i:=22) (d:=some 94) (v:= ?_) rfl rfl hHeld ?_ ?_;rotate_left;focus intro w hSw;(try dsimp only at hSw);go_simp;try with_reducible rfl
             simp only[aput,aset,aze,asu];obtain rfl:u=x2:=hu;refine wpAnyH_ready (rs:=[23]) (by kernel_rfl) (by simp) ?_;refine AllReadyH.cons rfl (fun K hK=> ?_) AllReadyH.nil;go_simp;refine hK.out _ _ HK.out (fun hHeld=> ?_);clear hK K;refine wpAnyH_done (by kernel_rfl) ?_ _;clear q0 q1 q2 q3 hHeld;go_wp2
             go_roundg (n- (c+1))
             case measure=>omega
             case rel=>exact⟨c+1,by omega,by go_num,HN⟩
           ·skip
            refine take_no (i:=8) (d:=some 80) rfl rfl hHeld ?_;simp only[aput,aset,aze,asu];refine take_no (i:=9) (d:=some 81) rfl rfl hHeld ?_;simp only[aput,aset,aze,asu];refine take_no (i:=10) (d:=some 82) rfl rfl hHeld ?_;simp only[aput,aset,aze,asu];refine take_no (i:=11) (d:=some 83) rfl rfl hHeld ?_;simp only[aput,aset,aze,asu];refine take_no (i:=12) (d:=some 84) rfl rfl hHeld ?_;simp only[aput,aset,aze,asu];refine take_no (i:=13) (d:=some 85) rfl rfl hHeld ?_;simp only[aput,aset,aze,asu];refine take_no (i:=14) (d:=some 86) rfl rfl hHeld ?_;simp only[aput,aset,aze,asu];refine take_no (i:=15) (d:=some 87) rfl rfl hHeld ?_;simp only[aput,aset,aze,asu];refine take_no (i:=16) (d:=some 88) rfl rfl hHeld ?_;simp only[aput,aset,aze,asu];refine take_no (i:=17) (d:=some 89) rfl rfl hHeld ?_;simp only[aput,aset,aze,asu];refine take_no (i:=18) (d:=some 90) rfl rfl hHeld ?_;simp only[aput,aset,aze,asu];refine take_no (i:=19) (d:=some 91) rfl rfl hHeld ?_;simp only[aput,aset,aze,asu];refine take_yes (i:=20) (d:=some 92) (v:= ?_) rfl rfl hHeld ?_ ?_;rotate_left;focus intro w hSw;(try dsimp only at hSw);go_simp;try with_reducible rfl
            simp only[aput,aset,aze,asu];refine take_yes (i:=22) (d:=some 94) (v:= ?_) rfl rfl hHeld ?_ ?_;rotate_left;focus intro w hSw;(try dsimp only at hSw);go_simp;try with_reducible rfl
            simp only[aput,aset,aze,asu];obtain rfl:u=true:=hu;refine wpAnyH_ready (rs:=[23]) (by kernel_rfl) (by simp) ?_;refine AllReadyH.cons rfl (fun K hK=> ?_) AllReadyH.nil;go_simp;refine hK.out _ _ HK.out (fun hHeld=> ?_);clear hK K;refine wpAnyH_done (by kernel_rfl) ?_ _;clear q0 q1 q2 q3 hHeld;go_wp2
            go_roundg (n- (c+1))
            case measure=>omega
            case rel=>exact⟨c+1,by omega,by go_num,HN⟩
          ·have hcz:¬(c:Int)<(n:Int):=by omega
           obtain rfl:c=n:=by omega
           go_wp2
           go_roundg (c- (d+1))
           case measure=>omega
           case rel=>exact⟨d+1,by omega,by go_num,by rw[passB,←hF''];exact HC⟩
        ·have hdz:¬(d:Int)<(n:Int):=by omega
         obtain rfl:d=n:=by omega
         go_wp2
         go_roundg (d- (a+1))
         case measure=>omega
         case rel=>exact⟨a+1,by omega,by go_num,by rw[passA,←hF'];exact HD⟩
      ·have haz:¬(a:Int)<(n:Int):=by omega
       obtain rfl:a=n:=by omega
       go_wp2
       go_roundg (a- (q+1))
       case measure=>omega
       case rel=>exact⟨q+1,by omega,by go_num,by rw[passN,←hF];exact HA⟩
    ·have hqz:¬(q:Int)<(n:Int):=by omega
     obtain rfl:q=n:=by omega
     go_wp2;obtain⟨F,hF⟩:∃F,F=passN q f0 q:=⟨_,rfl⟩;rw[←hF] at HQ;have HFe:=hide hF;clear hF;have HQ0:Hid (NetS w2 wr b F (.slice va vn vc) (L0++twsL 0)):=by rw[show L0++twsL 0=L0 from List.append_nil _];exact HQ
     clear HQ
     go_loopg [8,100] q (fun k v i wr=>∃t:Nat,t+k=q∧i=.int .i64 t∧Hid (NetS w2 wr b F v (L0++twsL t)))
     case atStart=>exact⟨0,by omega,rfl,HQ0⟩
     case round=>
      clear HQ0;obtain⟨t,ht,rfl,HT⟩:=hrel;obtain⟨va,vn,vc,rfl⟩:∃a n c,u8=.slice a n c:=by obtain⟨a,c,e⟩:=HT.out.own.slice;exact⟨a,_,c,e⟩
      have htl:=twsL_len t
      by_cases htn:t<q
      ·have htz:(t:Int)<(q:Int):=by omega
       have HNm:=hide (nameC t (by omega) wr);have HLt:=hide htl;clear htl
       go_wp2_with fail
       refine HNm.out.mono ?_;rintro e w3 ⟨rfl,hL3⟩;obtain⟨w4,hw4⟩:∃w4,w4=w3.alloc (.cells #[.string (nmB t)] 9):=⟨_,rfl⟩;have hL4:Later w3 w4:=by rw[hw4];exact(Later.refl _).alloc _
       have hr4:w4.heap[w3.heap.size]?=some (.cells #[.string (nmB t)] 9 (0,0)):=by rw[hw4];exact heap_alloc_new _ _
       have hz4:w4.heap.size=w3.heap.size+1:=by rw[hw4];simp
       have hs4:Strs w4 (.slice (some ⟨w3.heap.size,0,none⟩) 1 1) [nmB t]:=by
        refine⟨by simp,_,1,rfl,fun _=>⟨_,0,rfl,by omega,fun i hi=> ?_⟩⟩;obtain rfl:i=0:=by simpa using hi
        rw[cell_of_row _ _ _ _ _ _ hr4];rfl
       obtain⟨a5,n5,c5,w5,hrun,hS5⟩:=(HT.out.later (hL3.trans hL4)).more hb2 (⟨#[116,111,119,110]⟩,[nmB t]) _ hs4 (fun k e=>by
        have e:w3.heap.size=k:=by simpa[Value.ownBlock] using e
        have h2:=HT.out.tn.size;have h3:=hL3.size;refine⟨by omega,by omega,fun e'=> ?_⟩;have h3:=(HT.out.own.lt e').2;omega) (by rw[List.length_append,HLt.out];omega)
       have HR5:=hide hrun;have HS5:Hid (NetS w2 w5 b F (.slice a5 n5 c5) (L0++twsL (t+1))):=by rw[twsL,←List.append_assoc];exact hS5
       have HW4:=hide hw4;have HZ4:=hide hz4;clear hL3 hL4 hr4 hs4 hrun hS5 hw4 HNm hz4
       go_wp2_with (first|(rw[←HW4.out])|(at_builtin;refine wpList_append_run rfl (.tmp 103) (.tmp 108) 24 rfl _ _ _ _ rfl rfl HR5.out ?_)|fail)
       go_roundg (q- (t+1))
       case measure=>omega
       case rel=>exact⟨t+1,by omega,by go_num,HS5⟩
      ·obtain rfl:t=q:=by omega
       have htz:¬(t:Int)<(t:Int):=by omega
       have HFs:Hid (∀w',Tn w.heap.size wr w'→Facts w' (.slice va vn vc) (L0++twsL t)):=fun w' h=>
        (HT.out.own.stay h.size fun k hk hb=>h.block k hk (by have:=HZ2.out;omega)).facts (by rw[List.length_append,htl];omega)
       have HLd:Hid (∀w',RowR 92 w' b F→(Instr.loadAt 92 (.pointer (some ⟨b,0,none⟩))).run Tryz.prog w'=.ok (.agg (cellsR F)) w'):=fun w' h=>by
        simp only[Instr.loadAt,Instr.sureAddr,Sem.run_bind,Sem.run_pure,Result.andThen];exact run_loadVar_row _ _ 92 92 (cellsR F) (0,0) _ h Tryz.underlying92 rfl (by rw[cellsR_size];kernel_rfl)
       go_wp2;refine wp_region_held_drew (S:=fun w'=>RowR 92 w' b F∧Tn w.heap.size wr w') (by kernel_rfl) ⟨HT.out.row,(Tn.refl _ _).drew⟩ (fun hHeld=> ?_);refine take_yes (i:=0) (d:=some 111) (v:= ?_) rfl rfl hHeld ?_ ?_;rotate_left;focus intro w hSw;(try dsimp only at hSw);go_simp;try with_reducible rfl
       simp only[aput,aset,aze,asu];refine take_yes (i:=2) (d:=some 113) (v:=.agg (cellsR F)) rfl rfl hHeld (fun w hSw=>exec_load rfl rfl (HLd.out w hSw.1)) ?_;simp only[aput,aset,aze,asu];refine wpAnyH_ready (rs:=[1]) (by kernel_rfl) (by simp) ?_;refine AllReadyH.cons rfl (fun K hK=> ?_) AllReadyH.nil;go_simp;refine(ofC _ _ _ (HFs.out _ hHeld.2)).mono ?_;rintro e w3 ⟨v3,s,rfl,hSet,hO3,hL3⟩;obtain⟨a3,n3,c3,rfl⟩:∃a n c,v3=.slice a n c:=by obtain⟨a,c,e⟩:=hO3.slice;exact⟨a,_,c,e⟩
       have hT3:Tn w.heap.size wr w3:=hHeld.2.trans (Tn.of_below hL3.below);have hR3:RowR 92 w3 b F:=(hL3.block hHeld.1.lt).trans hHeld.1;refine hK.out _ _ ⟨hR3,hT3⟩ (fun hHeld=> ?_);clear hK K;refine take_yes (i:=3) (d:=some 6) (v:= ?_) rfl rfl hHeld ?_ ?_;rotate_left;focus intro w hSw;(try dsimp only at hSw);go_simp;try with_reducible rfl
       simp only[aput,aset,aze,asu];refine wpAnyH_ready (rs:=[4]) (by kernel_rfl) (by simp) ?_;have hp3:w3.heap[w.heap.size]?=some (.cells (cellsR noR) 92 (0,0)):=by
        rw[hL3.block (by show w.heap.size<wr.heap.size;have:=HT.out.tn.size;have:=HZ2.out;omega)];exact(HT.out.tn.block _ (by have:=HZ2.out;omega) (by omega)).trans HP2.out
       obtain⟨hrn,hTn⟩:=row_new (cs':=cellsR F) hp3;have hst:(Instr.storeAt 92 (.pointer (some ⟨w.heap.size,0,none⟩)) (.agg (cellsR F))).run Tryz.prog w3=.ok () (w3.setRow w.heap.size (cellsR F)):=by
        simp only[Instr.storeAt,Instr.sureAddr,Sem.run_bind,Sem.run_pure,Result.andThen];exact run_storeVar_row _ _ 92 92 _ _ hp3 (by rw[cellsR_size];kernel_rfl) (by rw[cellsR_size,cellsR_size]) (Array.all_eq_true_iff_forall_mem.2 fun v hv=>cellsR_one F v (by simpa using hv))
       have hO4:OwnF (w3.setRow w.heap.size (cellsR F)) wr.heap.size (.slice a3 n3 c3) s:=hO3.stay hTn.size fun k hk hb=>hTn.block k hk (by have hb:wr.heap.size≤k:=hb;have:=HT.out.tn.size;have:=HZ2.out;omega);generalize w3.setRow w.heap.size (cellsR F)=w4 at*;refine AllReadyH.cons rfl (fun K hK=>step_store rfl rfl 92 (.tmp 7) (.tmp 113) rfl _ _ w4 rfl rfl hst (hK.out _ _ ⟨(hTn.block b (hR3.lt) (by omega)).trans hR3,hT3.trans hTn⟩ (fun hHeld=> ?_))) AllReadyH.nil;refine wpAnyH_done (by kernel_rfl) ?_ _;have HLv:Hid ((loadVar 92 ⟨w.heap.size,0,none⟩).run Tryz.prog w4=.ok (.agg (cellsR F)) w4):=run_loadVar_row _ _ 92 92 (cellsR F) (0,0) _ hrn Tryz.underlying92 rfl (by rw[cellsR_size];kernel_rfl);have HEnd:Hid (Below w.heap.size w w4):=below_trans (below_trans HL2.out.below (HT.out.tn.below (n:=w.heap.size) (by omega) HL2.out.size) (Nat.le_refl _)) ((hT3.trans hTn).below (Nat.le_refl _) (by have:=HT.out.tn.size;have:=HZ2.out;omega)) (Nat.le_refl _);have HO4:=hide hO4;have HSt:=hide hSet;clear hrn hTn hst hO4 hp3 hT3 hR3 hHeld hL3 hO3 hSet;go_wp2;refine bodyPost_ret (v:=.tuple #[.slice a3 n3 c3,.agg (cellsR F)]) (results_tmp_cell Tryz.results45 _ _ _ rfl rfl HLv.out) rfl ⟨_,by rw[HFe.out,HF0.out],?_,HEnd.out⟩;rw[←HL0.out,←setF_of HSt.out.1 HSt.out.2.1];exact HO4.out.base (by have:=HT.out.tn.size;have:=HZ2.out;omega)
end Go.Proofs.YtafmbokfkbccaaaGreatDoor
