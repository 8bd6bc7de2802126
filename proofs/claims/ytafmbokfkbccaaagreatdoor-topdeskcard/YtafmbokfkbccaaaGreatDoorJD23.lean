import Derived.Test.YtafmbokfkbccaaaGreatDoorJD1
import Derived.Laws.Rows
import Derived.Test.YtafmbokfkbccaaaGreatDoorJD21
import Derived.Test.YtafmbokfkbccaaaGreatDoorJD18
namespace Go.Proofs.YtafmbokfkbccaaaGreatDoor
open Go.RowKit Go.Sort
def cellsR (f:Nat→Nat→Bool):Array Value:=((List.range 64).map fun i=>Value.bool (f (i/8) (i%8))).toArray
theorem cellsR_size (f:Nat→Nat→Bool):(cellsR f).size=64:=by simp[cellsR]
theorem cellsR_at (f:Nat→Nat→Bool) {i:Nat} (h:i<64):(cellsR f)[i]?=some (.bool (f (i/8) (i%8))):=by simp[cellsR,h]
theorem cellsR_set (f:Nat→Nat→Bool) {a c:Nat} (ha:a<8) (hc:c<8) (v:Bool):(cellsR f).setIfInBounds (a*8+c) (.bool v)=cellsR fun x y=>if x=a∧y=c then v else f x y:=by
 refine Array.ext_getElem? fun i=> ?_;rw[Array.getElem?_setIfInBounds,cellsR_size]
 by_cases hi:i<64
 ·rw[cellsR_at _ hi,cellsR_at _ hi]
  by_cases e:a*8+c=i
  ·rw[if_pos e,if_pos (by omega),if_pos (by omega)]
  ·rw[if_neg e,if_neg (by omega)]
 ·rw[if_neg (by omega),Array.getElem?_eq_none (by rw[cellsR_size];omega),Array.getElem?_eq_none (by rw[cellsR_size];omega)]
theorem cellsR_one (f:Nat→Nat→Bool):∀v∈(cellsR f).toList,v.oneCell'=true:=by
 intro v hv;simp only[cellsR,List.mem_map] at hv;obtain⟨_,_,rfl⟩:=hv
 rfl
def RowR (T:TypeId) (w:World) (b:Nat) (f:Nat→Nat→Bool):Prop:=w.heap[b]?=some (.cells (cellsR f) T (0,0))
theorem RowR.cell {T:TypeId} {w:World} {b a c:Nat} {f:Nat→Nat→Bool} (h:RowR T w b f) (ha:a<8) (hc:c<8):w.cell? ⟨b,a*8+c,none⟩=some (.bool (f a c)):=by
 rw[cell_of_row _ _ _ _ _ _ h,cellsR_at _ (by omega),show(a*8+c)/8=a by omega,show(a*8+c)%8=c by omega]
theorem RowR.free {T:TypeId} {w:World} {b j:Nat} {f:Nat→Nat→Bool} (h:RowR T w b f):w.frozen? ⟨b,j,none⟩=false:=by unfold RowR at h;simp[World.frozen?,h]
theorem RowR.lt {T:TypeId} {w:World} {b:Nat} {f:Nat→Nat→Bool} (h:RowR T w b f):b<w.heap.size:=(Array.getElem?_eq_some_iff.1 h).1
theorem RowR.set {T:TypeId} {w:World} {b a c:Nat} {f:Nat→Nat→Bool} (h:RowR T w b f) (ha:a<8) (hc:c<8) (v:Bool):RowR T (w.setCell ⟨b,a*8+c,none⟩ (.bool v)) b fun x y=>if x=a∧y=c then v else f x y:=by
 unfold RowR at*;rw[←cellsR_set f ha hc];simp[World.setCell,Array.getElem?_modify,h]
def KeepS (b a d c:Nat) (x0 x1 x2:Bool) (w:World):Prop:=(x0=false→w.cell? ⟨b,a*8+d,none⟩=some (.bool x1))∧(x0=false→x1=true→w.cell? ⟨b,d*8+c,none⟩=some (.bool x2))
theorem KeepS.one {b a d c:Nat} {x1 x2:Bool} {w:World} (h:KeepS b a d c false x1 x2 w):w.cell? ⟨b,a*8+d,none⟩=some (.bool x1):=h.1 rfl
theorem KeepS.two {b a d c:Nat} {x2:Bool} {w:World} (h:KeepS b a d c false true x2 w):w.cell? ⟨b,d*8+c,none⟩=some (.bool x2):=h.2 rfl rfl
theorem RowR.keep {T:TypeId} {w:World} {b a d c:Nat} {f:Nat→Nat→Bool} (h:RowR T w b f) (ha:a<8) (hd:d<8) (hc:c<8) {u:Bool} (hu:u=(f a c||(f a d&&f d c))):
  KeepS b a d c (f a c) (f a d) (f d c) (w.setCell ⟨b,a*8+c,none⟩ (.bool u)):=by
 have h':=h.set ha hc u;subst hu;refine⟨fun h0=> ?_,fun h0 h1=> ?_⟩
 ·rw[h'.cell ha hd]
  by_cases e:d=c
  ·subst e;simp[h0]
  ·simp[e]
 ·rw[h'.cell hd hc]
  by_cases e:d=a
  ·subst e;simp[h0]
  ·simp[e]
end Go.Proofs.YtafmbokfkbccaaaGreatDoor
namespace Go.Proofs.YtafmbokfkbccaaaGreatDoor
theorem onceGo_many {n:Int} {fs:List FactB} (σ:RuleD→Nat):∀{p:List RuleD} {acc:List FactB},onceGo n fs p (p.map σ) acc=(5,[])→
  ∃A:List FactB,200<(setF A).length∧∀f∈A,f∈acc∨∃r∈p,(σ r:Int)=n∧∃x,headsP r fs=some x∧f∈x
 |[],acc,h=>by simp[onceGo] at h
 |r::p,acc,h=>by
  simp only[onceGo,List.map_cons] at h;split at h
  ·rename_i hs;split at h
   ·simp at h
   ·rename_i x hx;have key:∀f∈acc++x,f∈acc∨∃q∈r::p,(σ q:Int)=n∧∃x,headsP q fs=some x∧f∈x:=fun f hf=>by
     rcases List.mem_append.1 hf with hf|hf
     ·exact Or.inl hf
     ·exact Or.inr ⟨r,by simp,hs,x,hx,hf⟩
    split at h
    ·rename_i hl;exact⟨acc++x,hl,key⟩
    ·obtain⟨A,h1,h2⟩:=onceGo_many σ h;refine⟨A,h1,fun f hf=> ?_⟩;rcases h2 f hf with h3|⟨q,hq,h3⟩
     ·exact key f h3
     ·exact Or.inr ⟨q,by simp[hq],h3⟩
  ·obtain⟨A,h1,h2⟩:=onceGo_many σ h;refine⟨A,h1,fun f hf=> ?_⟩;rcases h2 f hf with h3|⟨q,hq,h3⟩
   ·exact Or.inl h3
   ·exact Or.inr ⟨q,by simp[hq],h3⟩
theorem once_next {p:List RuleD} (hp:RightP p) (σ:RuleD→Nat) {n:Int} {K N M:List FactB} (hK:GoodS p K) (hN:∀f∈N,f∈K) (hS:∀r∈p,(σ r:Int)=n→Semi K N r)
  (hM:makesGo K N n p (p.map σ) []=some M) (h4:(onceP p (p.map σ) n K).1≠4):onceP p (p.map σ) n K=if 200<(setF (K++M)).length then(5,[]) else(0,setF (K++M)):=by
 have hsub:∀r∈p,(σ r:Int)=n→∀x,headsP r K=some x→∀f∈x,f∈K++M:=fun r hr hs x hx f hf=>by
  obtain⟨env,he,hh⟩:=(heads_mem (covers_right (hp.rules r hr)) hx f).1 hf;rw[List.mem_append];exact(hS r hr hs env f he hh).imp id fun h=>(makes_mem σ hp.rules hM f).2 (Or.inr ⟨r,hr,hs,h⟩)
 rcases onceGo_err (n:=n) (fs:=K) (p:=p) (ss:=p.map σ) (acc:=K) with h0|h|h
 ·obtain⟨S,hSS⟩:∃S,onceP p (p.map σ) n K=(0,S):=⟨(onceP p (p.map σ) n K).2,by rw[←show(onceP p (p.map σ) n K).1=0 from h0]⟩;obtain⟨h1,h2,h3,h5,h6⟩:=onceGo_ok σ hSS;have e:S=setF (K++M):=setF_of h5 fun f=>by
   rw[List.mem_append]
   constructor
   ·intro hf;rcases h3 f hf with h|⟨r,hr,hs,x,hx,hf⟩
    ·exact Or.inl h
    ·exact List.mem_append.1 (hsub r hr hs x hx f hf)
   ·rintro(hf|hf)
    ·exact h2 f hf
    ·rcases(makes_mem σ hp.rules hM f).1 hf with h|⟨r,hr,hs,hm⟩
     ·cases h
     ·obtain⟨x,hx,hxS⟩:=h1 r hr hs;obtain⟨env,he,hh⟩:=makes_fits hN hm;exact hxS f ((heads_mem (covers_right (hp.rules r hr)) hx f).2 ⟨env,he,hh⟩)
  have hl:=h6 (by rw[setF_up_self hK.up];exact hK.few);rw[e] at hl hSS;rw[if_neg (by omega),hSS]
 ·exact absurd (show(onceP p (p.map σ) n K).1=4 by unfold onceP;rw[h]) h4
 ·obtain⟨A,h1,h2⟩:=onceGo_many σ h;have h3:(setF A).length≤(setF (K++M)).length:=up_le (setF_up A) fun f hf=>mem_setF.2 (by
   rcases h2 f (mem_setF.1 hf) with h|⟨r,hr,hs,x,hx,hf⟩
   ·exact List.mem_append.2 (Or.inl h)
   ·exact hsub r hr hs x hx f hf)
  rw[if_pos (by omega)];exact h
def restP (p:List RuleD) (ss:List Nat) (c k n:Nat) (K:List FactB):Int×List FactB:=if(overGo p ss n k K).1≠0 then((overGo p ss n k K).1,[]) else runGo p ss c (n+1) (overGo p ss n k K).2
theorem restP_next {p:List RuleD} {ss:List Nat} {c k n:Nat} {K:List FactB}:restP p ss c (k+1) n K=if(onceP p ss n K).1≠0 then((onceP p ss n K).1,[]) else if(onceP p ss n K).2.length=K.length then runGo p ss c (n+1) (onceP p ss n K).2 else restP p ss c k n (onceP p ss n K).2:=by
 unfold restP;rw[overGo];split
 ·rfl
 ·split
  ·rfl
  ·rfl
theorem runGo_rest {p:List RuleD} {ss:List Nat} {c n:Nat} {K:List FactB}:runGo p ss (c+1) n K=restP p ss c 201 n K:=rfl
theorem steps_rest {p:List RuleD} (hp:RightP p) (σ:RuleD→Nat):∀(m c k n:Nat) {r:RunD},RightN p (countP (p.map σ)) r→r.level=(n:Nat)→n+(c+1)=countP (p.map σ)→200<r.known.length+k→
  (∀q∈p,(σ q:Int)=n→Semi r.known r.fresh q)→(200:Int)-r.known.length+(countP (p.map σ)-r.level)≤m→(200:Int)-r.known.length+(countP (p.map σ)-r.level)+r.rounds≤999→
  (stepsP p (p.map σ) m r).1≠4→(restP p (p.map σ) c k n r.known).1≠4→(stepsP p (p.map σ) m r).1=(restP p (p.map σ) c k n r.known).1∧((stepsP p (p.map σ) m r).1=0→(stepsP p (p.map σ) m r).2.known=(restP p (p.map σ) c k n r.known).2)
 |0,c,k,n,r,hr,hn,hc,_,_,hm,_,_,_=>by have:=hr.good.few;omega
 |m+1,c,0,n,r,hr,hn,hc,hk,_,_,_,_,_=>by have:=hr.good.few;omega
 |m+1,c,k+1,n,r,hr,hn,hc,hk,hS,hm,h9,h4,h4'=>by
  have hd:r.done=false:=by rw[hr.done];simp;omega
  rw[steps_next hd] at h4⊢;rw[restP_next] at h4'⊢;have hSt:∀q∈p,(σ q:Int)=r.level→Semi r.known r.fresh q:=fun q hq h=>hS q hq (h.trans hn);have hfew:=hr.good.few;have hrn:r.rounds≠1000:=by omega
  cases hM:makesGo r.known r.fresh r.level p (p.map σ) [] with
  |none=>
   have e:nextP p (p.map σ) r=(4,noRun):=by unfold nextP;rw[if_neg hrn,hM]
   rw[e] at h4;simp at h4
  |some M=>
   have ho4:(onceP p (p.map σ) n r.known).1≠4:=fun e=>h4' (by rw[e];simp);have ho:=once_next hp σ (n:=(n:Int)) hr.good hr.sub hS (hn▸hM) ho4
   by_cases hl:200<(setF (r.known++M)).length
   ·have e:nextP p (p.map σ) r=(5,noRun):=by unfold nextP;rw[if_neg hrn,hM];simp[hl]
    rw[if_pos hl] at ho;rw[ho,e];simp
   ·rw[if_neg hl] at ho;have hsub:∀f∈r.known,f∈setF (r.known++M):=fun f hf=>mem_setF.2 (List.mem_append.2 (Or.inl hf))
    by_cases hnew:newOf r.known M=[]
    ·have eK:=(new_nil hr.good.up).1 hnew;have e:nextP p (p.map σ) r=(0,⟨setF (r.known++M),setF (r.known++M),r.level+1,r.rounds+1,decide (r.level+1=countP (p.map σ))⟩):=by unfold nextP;rw[if_neg hrn,hM];simp[hl,hnew]
     obtain⟨g1,g2,g3,g4⟩:=next_right hp σ hr hd e;rw[e] at h4⊢;rw[ho] at h4'⊢;simp only[ne_eq,not_true_eq_false,if_false] at h4 h4'⊢;rw[if_pos (by rw[eK])] at h4'⊢;rw[eK] at h4 h4' g1⊢;cases c with
     |zero=>
      have hdn:(⟨r.known,r.known,r.level+1,r.rounds+1,decide (r.level+1=countP (p.map σ))⟩:RunD).done=true:=by simp only[decide_eq_true_eq];omega
      rw[steps_done hdn];exact⟨rfl,fun _=>rfl⟩
     |succ c=>
      rw[runGo_rest] at h4'⊢;refine steps_rest hp σ m c 201 (n+1) g1 (by dsimp only;omega) (by omega) (by dsimp only;omega) (fun q _ _=>semi_all _ q) (by dsimp only;omega) (by dsimp only;omega) h4 h4'
    ·have e:nextP p (p.map σ) r=(0,⟨setF (r.known++M),newOf r.known M,r.level,r.rounds+1,false⟩):=by unfold nextP;rw[if_neg hrn,hM];simp[hl,hnew]
     obtain⟨g1,g2,g3,g4⟩:=next_right hp σ hr hd e;have g5:r.known.length<(setF (r.known++M)).length:=by
      rcases g4 with⟨_,h⟩|⟨h,_⟩
      ·exact h
      ·dsimp only at h;omega
     rw[e] at h4⊢;rw[ho] at h4'⊢;simp only[ne_eq,not_true_eq_false,if_false] at h4 h4'⊢;rw[if_neg (by omega)] at h4'⊢;refine steps_rest hp σ m c k n g1 hn hc (by dsimp only;omega) (fun q hq hs=> ?_) (by dsimp only;omega) (by dsimp only;omega) h4 h4';refine semi_next hsub (hS q hq hs) (fun f hf=>mem_setF.2 (List.mem_append.2 (Or.inr ((makes_mem σ hp.rules hM f).2 (Or.inr ⟨q,hq,hs.trans hn.symm,hf⟩))))) fun f hf hn'=> ?_;exact mem_newOf.2 ⟨(List.mem_append.1 (mem_setF.1 hf)).resolve_left hn',hn'⟩
theorem countP_le' {c:Nat}:∀{ss:List Nat},(∀s∈ss,s<c)→countP ss≤c
 |[],_=>Nat.zero_le _
 |s::ss,h=>by
  have h1:=h s (by simp);have h2:=countP_le' (ss:=ss) fun t ht=>h t (by simp[ht]);simp only[countP];omega
theorem begin_rest {p:List RuleD} (hp:RightP p) (σ:RuleD→Nat) (hσ:∀r∈p,σ r<16) {l:List FactB} (hl:GoodS p l) (h4:(stepsP p (p.map σ) 1000 ⟨l,l,0,0,decide (countP (p.map σ)=0)⟩).1≠4) (h4':(runGo p (p.map σ) (countP (p.map σ)) 0 l).1≠4):
  (stepsP p (p.map σ) 1000 ⟨l,l,0,0,decide (countP (p.map σ)=0)⟩).1=(runGo p (p.map σ) (countP (p.map σ)) 0 l).1∧((stepsP p (p.map σ) 1000 ⟨l,l,0,0,decide (countP (p.map σ)=0)⟩).1=0→(stepsP p (p.map σ) 1000 ⟨l,l,0,0,decide (countP (p.map σ)=0)⟩).2.known=(runGo p (p.map σ) (countP (p.map σ)) 0 l).2):=by
 have hcs:countP (p.map σ)≤16:=countP_le' fun s hs=>by
  obtain⟨r,hr,rfl⟩:=List.mem_map.1 hs;exact hσ r hr
 have hr:=right_begin (c:=countP (p.map σ)) hl;have hfew:=hl.few;cases e:countP (p.map σ) with
 |zero=>
  rw[steps_done (by simp)];exact⟨rfl,fun _=>rfl⟩
 |succ c=>
  rw[e] at h4 h4' hr;rw[runGo_rest] at h4'⊢;refine steps_rest hp σ 1000 c 201 0 (by rw[e];exact hr) rfl (by omega) (by dsimp only;omega) (fun q _ _=>semi_all _ q) (by dsimp only;omega) (by dsimp only;omega) h4 h4'
end Go.Proofs.YtafmbokfkbccaaaGreatDoor
namespace Go.Proofs.YtafmbokfkbccaaaGreatDoor
def allJ (pick:Nat→List FactB) (body:List AtomD):Option (List (List BindD)):=match metGo pick 0 body [[]] with
 |none=>none
 |some ms=>some (isortB (cmpX eB) ((ms.filter fun l=> !barredB pick 0 body l).map (isortB eB)))
theorem allJ_eq (pick:Nat→List FactB) (body:List AtomD):allB pick body=allJ pick body:=by
 have e1:(sortB:List BindD→List BindD)=isortB eB:=by funext l;show sortBy cmpB l=_;rw[sortBy_ins three_cmpB,eB_eq]
 unfold allB allJ;cases metGo pick 0 body [[]] with
 |none=>rfl
 |some ms=>
  dsimp only;rw[sortBy_ins three_cmpBs,e1,show cmpBs=cmpX eB from by rw[←eB_eq]]
def atJ (K N:List FactB) (r:RuleD):Nat→List AtomD→List FactB→Option (List FactB)
 |_,[],acc=>some acc
 |k,a::l,acc=>if a.no then atJ K N r (k+1) l acc else
  match allJ (pickB K k N) r.body with
  |none=>none
  |some R=>atJ K N r (k+1) l (acc++R.filterMap fun e=>fillB r.head e)
theorem atJ_eq (K N:List FactB) (r:RuleD):∀(l:List AtomD) (k:Nat) (acc:List FactB),atGo K N r k l acc=atJ K N r k l acc
 |[],_,_=>rfl
 |a::l,k,acc=>by
  unfold atGo atJ;split
  ·exact atJ_eq K N r l (k+1) acc
  ·rw[allJ_eq];cases allJ (pickB K k N) r.body with
   |none=>rfl
   |some R=>exact atJ_eq K N r l (k+1) _
def askJ (K N:List FactB) (r:RuleD) (acc:List FactB):Option (List FactB):=if r.body.all (·.no) then
  match headsI r K with
  |none=>none
  |some x=>some (acc++x)
 else atJ K N r 0 r.body acc
theorem askJ_eq (K N:List FactB) (r:RuleD) (acc:List FactB):askP K N r acc=askJ K N r acc:=by
 unfold askP askJ;rw[headsI_eq,atJ_eq];split
 ·cases headsI r K <;> rfl
 ·rfl
def makesJ (K N:List FactB) (st:Int):List RuleD→List Nat→List FactB→Option (List FactB)
 |[],_,acc=>some acc
 |_::_,[],acc=>some acc
 |r::p,s::ss,acc=>if(s:Int)=st then
   match askJ K N r acc with
   |none=>none
   |some acc'=>makesJ K N st p ss acc'
  else makesJ K N st p ss acc
theorem makesJ_eq (K N:List FactB) (st:Int):∀(p:List RuleD) (ss:List Nat) (acc:List FactB),makesGo K N st p ss acc=makesJ K N st p ss acc
 |[],_,_=>by simp only[makesGo,makesJ]
 |_::_,[],_=>by simp only[makesGo,makesJ]
 |r::p,s::ss,acc=>by
  simp only[makesGo,makesJ];rw[askJ_eq];split
  ·cases askJ K N r acc with
   |none=>rfl
   |some x=>exact makesJ_eq K N st p ss x
  ·exact makesJ_eq K N st p ss acc
def nextJ (p:List RuleD) (ss:List Nat) (r:RunD):Int×RunD:=if r.rounds=1000 then(5,noRun) else
 match makesJ r.known r.fresh r.level p ss [] with
 |none=>(4,noRun)
 |some acc=>if 200<(setI (r.known++acc)).length then(5,noRun) else
  if setI (acc.filter fun f=> !inB r.known f)=[] then(0,⟨setI (r.known++acc),setI (r.known++acc),r.level+1,r.rounds+1,decide (r.level+1=countP ss)⟩)
  else(0,⟨setI (r.known++acc),setI (acc.filter fun f=> !inB r.known f),r.level,r.rounds+1,false⟩)
theorem nextJ_eq (p:List RuleD) (ss:List Nat) (r:RunD):nextP p ss r=nextJ p ss r:=by
 unfold nextP nextJ newOf;rw[makesJ_eq];split
 ·rfl
 ·cases makesJ r.known r.fresh r.level p ss [] with
  |none=>rfl
  |some acc=>simp only[setI_eq]
def stepsJ (p:List RuleD) (ss:List Nat):Nat→RunD→Int×RunD
 |0,r=>(0,r)
 |n+1,r=>if r.done then(0,r) else match nextJ p ss r with
  |(e,x)=>if e≠0 then(e,noRun) else stepsJ p ss n x
theorem stepsJ_eq (p:List RuleD) (ss:List Nat):∀(n:Nat) (r:RunD),stepsP p ss n r=stepsJ p ss n r
 |0,r=>rfl
 |n+1,r=>by
  unfold stepsP stepsJ;rw[nextJ_eq];split
  ·rfl
  ·obtain⟨e,x,h⟩:∃e x,nextJ p ss r=(e,x):=⟨_,_,rfl⟩;rw[h];dsimp only;rw[stepsJ_eq p ss n x]
end Go.Proofs.YtafmbokfkbccaaaGreatDoor
namespace Go.Proofs.YtafmbokfkbccaaaGreatDoor
def chR : List RuleD :=
  [⟨⟨false, [119, 97, 121], [(true, [88]), (true, [89])]⟩, [⟨false, [114, 111, 97, 100], [(true, [88]), (true, [89])]⟩]⟩,
   ⟨⟨false, [119, 97, 121], [(true, [88]), (true, [90])]⟩, [⟨false, [119, 97, 121], [(true, [88]), (true, [89])]⟩, ⟨false, [114, 111, 97, 100], [(true, [89]), (true, [90])]⟩]⟩,
   ⟨⟨false, [99, 117, 116], [(true, [88]), (true, [89])]⟩, [⟨false, [116, 111, 119, 110], [(true, [88])]⟩, ⟨false, [116, 111, 119, 110], [(true, [89])]⟩, ⟨true, [119, 97, 121], [(true, [88]), (true, [89])]⟩]⟩]
def chN (i:Nat):ByteArray:=⟨#[116,UInt8.ofNat (97+i)]⟩
def chRoad (a b:Nat):FactB:=(⟨#[114,111,97,100]⟩,[chN a,chN b])
def chWay (a b:Nat):FactB:=(⟨#[119,97,121]⟩,[chN a,chN b])
def chL:Nat→List FactB
 |0=>[]
 |n+1=>chL n++[chRoad n (n+1)]
def chRun (n:Nat):RunD:=⟨chL n,chL n,0,0,false⟩
def upB:List FactB→Bool
 |a::b::l=>decide (eF a b<0)&&upB (b::l)
 |_=>true
def chOk (n:Nat):Bool:=upB (chL n)&&((chL n).all fun f=>fitF chR f)&&(match stepsJ chR [0,0,1] (n-1) (chRun n) with
  |(e,x)=>decide (e=0)&& !inB x.known (chWay 0 n))&&(match stepsJ chR [0,0,1] n (chRun n) with
  |(e,x)=>decide (e=0)&&inB x.known (chWay 0 n))
end Go.Proofs.YtafmbokfkbccaaaGreatDoor
