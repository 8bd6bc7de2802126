/- Texts of this claim, one behind the other. -/
import Derived.Test.YtafmbokfkbccaaaGreatDoorJA23
namespace Go.Proofs.YtafmbokfkbccaaaGreatDoor
def overPast (p:List RuleD) (ss:List Nat) (n:Int):Nat→List FactB→Int×List (List FactB)
 |0,_=>(0,[])
 |k+1,l=>if(onceP p ss n l).1≠0 then((onceP p ss n l).1,[]) else if(onceP p ss n l).2.length=l.length then(0,[(onceP p ss n l).2])
  else((overPast p ss n k (onceP p ss n l).2).1,(onceP p ss n l).2::(overPast p ss n k (onceP p ss n l).2).2)
def lastL (l:List FactB) (ps:List (List FactB)):List FactB:=ps.getLast?.getD l
theorem lastL_cons (l m:List FactB) (ps:List (List FactB)):lastL l (m::ps)=lastL m ps:=by
 unfold lastL
 cases ps with
 |nil=>rfl
 |cons a ps=>rw[List.getLast?_cons_cons];rw[List.getLast?_cons];rfl
theorem lastL_append (l:List FactB) (ps qs:List (List FactB)):lastL l (ps++qs)=lastL (lastL l ps) qs:=by
 induction ps generalizing l with
 |nil=>rfl
 |cons a ps ih=>rw[List.cons_append,lastL_cons,lastL_cons,ih]
def runPast (p:List RuleD) (ss:List Nat):Nat→Nat→List FactB→Int×List (List FactB)
 |0,_,_=>(0,[])
 |c+1,n,l=>if(overPast p ss n 201 l).1≠0 then((overPast p ss n 201 l).1,[])
  else((runPast p ss c (n+1) (lastL l (overPast p ss n 201 l).2)).1,(overPast p ss n 201 l).2++(runPast p ss c (n+1) (lastL l (overPast p ss n 201 l).2)).2)
theorem over_past (p:List RuleD) (ss:List Nat) (n:Int):∀(k:Nat) (l:List FactB),(overGo p ss n k l).1=(overPast p ss n k l).1∧((overPast p ss n k l).1=0→overGo p ss n k l=(0,lastL l (overPast p ss n k l).2))
 |0,l=>⟨rfl,fun _=>rfl⟩
 |k+1,l=>by
  unfold overGo overPast
  by_cases h0:(onceP p ss n l).1=0
  ·have h0':¬(onceP p ss n l).1≠0:=fun h=>h h0
   simp only[if_neg h0']
   by_cases h1:(onceP p ss n l).2.length=l.length
   ·simp only[if_pos h1]
    exact⟨trivial,fun _=>rfl⟩
   ·simp only[if_neg h1]
    obtain⟨h2,h3⟩:=over_past p ss n k (onceP p ss n l).2
    exact⟨h2,fun h=>by rw[h3 h,lastL_cons]⟩
  ·have h0':(onceP p ss n l).1≠0:=h0
   simp only[if_pos h0']
   exact⟨trivial,fun h=>absurd h h0⟩
theorem run_past (p:List RuleD) (ss:List Nat):∀(c n:Nat) (l:List FactB),(runGo p ss c n l).1=(runPast p ss c n l).1∧((runPast p ss c n l).1=0→runGo p ss c n l=(0,lastL l (runPast p ss c n l).2))
 |0,n,l=>⟨rfl,fun _=>rfl⟩
 |c+1,n,l=>by
  obtain⟨o1,o2⟩:=over_past p ss n 201 l
  unfold runGo runPast
  by_cases h0:(overPast p ss n 201 l).1=0
  ·have o3:=o2 h0
   have h1:¬(overGo p ss n 201 l).1≠0:=fun h=>h (o1.trans h0)
   have h2:¬(overPast p ss n 201 l).1≠0:=fun h=>h h0
   simp only[if_neg h1,if_neg h2]
   rw[o3]
   obtain⟨h2,h3⟩:=run_past p ss c (n+1) (lastL l (overPast p ss n 201 l).2)
   exact⟨h2,fun h=>by rw[h3 h,lastL_append]⟩
  ·have h1:(overGo p ss n 201 l).1≠0:=fun h=>h0 (o1.symm.trans h)
   have h2:(overPast p ss n 201 l).1≠0:=h0
   simp only[if_pos h1,if_pos h2]
   exact⟨o1,fun h=>absurd h h0⟩
def boundT (b:List BindD) (t:TermD):TermD:=if t.1 then(match getB b (bs t.2) with|some s=>(false,raw s)|none=>t) else t
def boundA (b:List BindD) (a:AtomD):AtomD:=⟨a.no,a.name,a.terms.map (boundT b)⟩
def boundB (b:List BindD) (body:List AtomD):List AtomD:=body.map (boundA b)
def filledL (body:List AtomD) (l:List BindD):List FactB:=body.filterMap fun a=>if a.no then none else fillB a l
def listsP (body:List AtomD) (all:List FactB) (er:Int):List (List BindD):=if er≠0 then[] else(allB (fun _=>all) body).getD []
def byP (err:List AtomD→Int) (all old:List FactB) (r:RuleD) (f:FactB):Option (List FactB):=match meetB r.head f [] with
 |none=>none
 |some b=>((listsP (boundB b r.body) all (err (boundB b r.body))).map (filledL (boundB b r.body))).find? fun of=>of.all (inB old)
def oldOf (ps:List (List FactB)) (f:FactB):Nat:=ps.findIdx fun l=>inB l f
def firstBy (g:RuleD→Option (List FactB)):Nat→List RuleD→Int×List FactB
 |_,[]=>(-1,[])
 |i,r::p=>match g r with
  |some of=>(i,of)
  |none=>firstBy g (i+1) p
def wayP (err:List AtomD→Int) (p:List RuleD) (told all:List FactB) (ps:List (List FactB)) (f:FactB):Int×List FactB:=
 if inB told f then(-1,[]) else firstBy (fun r=>byP err all (ps.getD (oldOf ps f-1) []) r f) 0 p
def kidsP (g:FactB→Nat×Nat→Option PrfD×(Nat×Nat)):List FactB→Nat×Nat→Option (List PrfD)×(Nat×Nat)
 |[],s=>(some [],s)
 |f::fs,s=>match(g f s).1 with
  |none=>(none,(g f s).2)
  |some k=>match(kidsP g fs (g f s).2).1 with
   |none=>(none,(kidsP g fs (g f s).2).2)
   |some ks=>(some (k::ks),(kidsP g fs (g f s).2).2)
def proveGo (how:FactB→Int×List FactB):Nat→FactB→Nat→Nat×Nat→Option PrfD×(Nat×Nat)
 |0,_,_,s=>(none,s)
 |n+1,f,d,s=>if muchS (s.1+1,max s.2 d) then(none,(s.1+1,max s.2 d))
  else match(kidsP (fun g s=>proveGo how n g (d+1) s) (how f).2 (s.1+1,max s.2 d)).1 with
   |none=>(none,(kidsP (fun g s=>proveGo how n g (d+1) s) (how f).2 (s.1+1,max s.2 d)).2)
   |some ks=>(some (.mk f (how f).1 ks),(kidsP (fun g s=>proveGo how n g (d+1) s) (how f).2 (s.1+1,max s.2 d)).2)
end Go.Proofs.YtafmbokfkbccaaaGreatDoor
namespace Go.Proofs.YtafmbokfkbccaaaGreatDoor
theorem filterMap_same {α β:Type} {g h:α→Option β}:∀{l:List α},(∀x∈l,g x=h x)→l.filterMap g=l.filterMap h
 |[],_=>rfl
 |a::l,e=>by
  rw[List.filterMap_cons,List.filterMap_cons,e a (by simp),filterMap_same fun x hx=>e x (by simp[hx])]
theorem worth_bound (b l:List BindD) (t:TermD):worthB l (boundT b t)=worthB (b++l) t:=by
 unfold boundT
 obtain⟨v,n⟩:=t
 cases v with
 |false=>simp[worthB]
 |true=>
  simp only[if_true]
  unfold worthB
  rw[getB_append]
  cases getB b (bs n) with
  |none=>rfl
  |some s=>simp[bs_raw]
theorem fillArgs_bound (b l:List BindD):∀ts:List TermD,fillArgs l (ts.map (boundT b))=fillArgs (b++l) ts
 |[]=>rfl
 |t::ts=>by
  rw[List.map_cons]
  unfold fillArgs
  rw[worth_bound,fillArgs_bound b l ts]
theorem fill_bound (b l:List BindD) (a:AtomD):fillB (boundA b a) l=fillB a (b++l):=by
 unfold fillB boundA
 rw[fillArgs_bound]
theorem meetGo_agree {G:List BindD}:∀(ts:List TermD) (xs:List ByteArray) (c:List BindD),(∀v s,getB c v=some s→getB G v=some s)→fillArgs G ts=some xs→
  ∃m,meetGo c ts xs=some m∧∀v s,getB m v=some s→getB G v=some s
 |[],xs,c,h,_=>⟨c,rfl,h⟩
 |t::ts,xs,c,h,hf=>by
  unfold fillArgs at hf
  cases hw:worthB G t with
  |none=>rw[hw] at hf;cases hf
  |some x=>
   rw[hw] at hf
   dsimp only at hf
   cases hr:fillArgs G ts with
   |none=>rw[hr] at hf;cases hf
   |some r=>
    rw[hr] at hf
    cases hf
    unfold meetGo
    cases hc:worthB c t with
    |none=>
     refine meetGo_agree ts r (c++[(bs t.2,x)]) (fun v s hv=> ?_) hr
     rw[getB_append] at hv
     cases hg:getB c v with
     |some u=>rw[hg] at hv;cases hv;exact h v _ hg
     |none=>
      rw[hg] at hv
      dsimp only at hv
      unfold getB at hv
      split at hv
      ·rename_i e
       cases hv
       dsimp only at e
       subst e
       unfold worthB at hw hc
       cases ht:t.1 with
       |true=>rw[ht] at hw;simpa using hw
       |false=>rw[ht] at hc;simp at hc
      ·cases hv
    |some s=>
     have e:s=x:=by
      unfold worthB at hw hc
      cases ht:t.1 with
      |true=>
       rw[ht] at hw hc
       simp only[if_true] at hw hc
       have:=h _ _ hc
       rw[hw] at this
       exact(Option.some.inj this).symm
      |false=>
       rw[ht] at hw hc
       simp only[Bool.false_eq_true,if_false] at hw hc
       exact Option.some.inj (hc.symm.trans hw)
     dsimp only
     rw[if_pos e]
     exact meetGo_agree ts r c h hr
theorem meet_agree {G c:List BindD} {a:AtomD} {f:FactB} (h:∀v s,getB c v=some s→getB G v=some s) (hf:fillB a G=some f):∃m,meetB a f c=some m∧∀v s,getB m v=some s→getB G v=some s:=by
 obtain⟨h1,h2⟩:=fill_name hf
 obtain⟨m,hm,hm2⟩:=meetGo_agree a.terms f.2 c h h2
 exact⟨m,by unfold meetB;rw[if_pos ⟨h1.symm,(fillArgs_len h2).symm⟩,hm],hm2⟩
theorem kids_agree {G:List BindD}:∀(body:List AtomD) (c:List BindD),(∀v s,getB c v=some s→getB G v=some s)→(∀a∈body,∃k,fillB a G=some k)→
  ∃b',kidsGo body (body.filterMap fun a=>if a.no then none else fillB a G) c=(0,b')∧∀v s,getB b' v=some s→getB G v=some s
 |[],c,h,_=>⟨c,rfl,h⟩
 |a::body,c,h,hf=>by
  obtain⟨k,hk⟩:=hf a (by simp)
  cases hno:a.no with
  |true=>
   have e:((a::body).filterMap fun a=>if a.no then none else fillB a G)=body.filterMap fun a=>if a.no then none else fillB a G:=List.filterMap_cons_none (by simp[hno])
   rw[e]
   unfold kidsGo
   rw[if_pos hno]
   exact kids_agree body c h fun x hx=>hf x (by simp[hx])
  |false=>
   have e:((a::body).filterMap fun a=>if a.no then none else fillB a G)=k::body.filterMap fun a=>if a.no then none else fillB a G:=List.filterMap_cons_some (by simp[hno,hk])
   rw[e]
   obtain⟨m,hm,hm2⟩:=meet_agree h hk
   unfold kidsGo
   rw[if_neg (by simp[hno])]
   dsimp only
   rw[hm]
   exact kids_agree body m hm2 fun x hx=>hf x (by simp[hx])
theorem filled_bound (b l:List BindD) (body:List AtomD):filledL (boundB b body) l=body.filterMap fun a=>if a.no then none else fillB a (b++l):=by
 unfold filledL boundB
 rw[List.filterMap_map]
 refine filterMap_same fun a _=> ?_
 show(if a.no then none else fillB (boundA b a) l)=_
 rw[fill_bound]
theorem step_of {all:List FactB} {r:RuleD} {f:FactB} {b l:List BindD} (hR:RightR r) (hm:meetB r.head f []=some b) (hso:∀a∈r.body,∃g,fillB a (b++l)=some g∧inB all g= !a.no):stepE all r f (filledL (boundB b r.body) l)=0:=by
 obtain⟨_,hk0,_⟩:=meetB_ok (K:=[]) rfl hm
 obtain⟨b',hb',hag⟩:=kids_agree (G:=b++l) r.body b (fun v s h=>by rw[getB_append,h]) fun a ha=>by obtain⟨g,hg,_⟩:=hso a ha;exact⟨g,hg⟩
 rw[←filled_bound] at hb'
 obtain⟨_,hkb,_⟩:=kidsGo_ok hk0 hb'
 unfold stepE
 rw[hm]
 dsimp only
 rw[hb']
 dsimp only
 rw[if_neg (by simp)]
 refine barX_of fun a ha hno=> ?_
 obtain⟨g,hg,hi⟩:=hso a ha
 refine⟨g,?_,by rw[hi,hno];rfl⟩
 rw[←hg]
 refine fillB_congr fun t ht ht1=> ?_
 have hc:=covers_right hR a ha t ht ht1
 have hkey:bs t.2∈keysB b':=by
  rw[hkb]
  refine mem_map_bs.2 ((mem_posVars r.body).2 (Or.inr ?_))
  rcases(mem_posVars r.body).1 hc with h1|h1
  ·cases h1
  ·exact h1
 obtain⟨s,hs⟩:=getB_isSome hkey
 rw[hs,hag _ _ hs]
def rest (b l:List BindD):List BindD:=l.filter fun x=>(getB b x.1).isNone
def agree (b l:List BindD):Bool:=l.all fun x=>match getB b x.1 with|none=>true|some s=>decide (s=x.2)
theorem rest_get {b l:List BindD} {v:ByteArray} (h:getB b v=none):getB (rest b l) v=getB l v:=by
 unfold rest
 induction l with
 |nil=>rfl
 |cons x l ih=>
  rw[List.filter_cons]
  by_cases e:x.1=v
  ·have:(getB b x.1).isNone=true:=by rw[e,h];rfl
   rw[if_pos this]
   simp[getB,e]
  ·cases hx:(getB b x.1).isNone with
   |true=>rw[if_pos rfl];simp only[getB,if_neg e,ih]
   |false=>rw[if_neg (by simp)];simp only[getB,if_neg e,ih]
theorem agree_get {b l:List BindD} (h:agree b l=true) {v s u:ByteArray} (hb:getB b v=some s) (hl:getB l v=some u):u=s:=by
 have:=List.all_eq_true.1 h _ (getB_mem hl)
 dsimp only at this
 rw[hb] at this
 exact(of_decide_eq_true this).symm
theorem agree_append {b l:List BindD} {x:BindD}:agree b (l++[x])=(agree b l&&(match getB b x.1 with|none=>true|some s=>decide (s=x.2))):=by
 unfold agree
 rw[List.all_append]
 simp
theorem meetGo_pre:∀(ts:List TermD) (xs:List ByteArray) (l m:List BindD),meetGo l ts xs=some m→∃r,m=l++r
 |[],_,l,m,h=>⟨[],by cases h;simp⟩
 |_::_,[],l,m,h=>by cases h
 |t::ts,x::xs,l,m,h=>by
  unfold meetGo at h
  split at h
  ·obtain⟨r,e⟩:=meetGo_pre ts xs _ m h
   exact⟨(bs t.2,x)::r,by rw[e];simp⟩
  ·split at h
   ·exact meetGo_pre ts xs l m h
   ·cases h
theorem not_agree {b l m:List BindD} (h:agree b l=false) (e:∃r,m=l++r):agree b m=false:=by
 obtain⟨r,rfl⟩:=e
 unfold agree at*
 rw[List.all_append,h];rfl
def pass (b:List BindD):Option (List BindD)→Option (List BindD)
 |none=>none
 |some m=>if agree b m then some (rest b m) else none
theorem pass_no {b:List BindD} {o:Option (List BindD)} (h:∀m,o=some m→agree b m=false):pass b o=none:=by
 cases o with
 |none=>rfl
 |some m=>
  show(if agree b m=true then some (rest b m) else none)=none
  rw[if_neg (by rw[h m rfl];simp)]
theorem meetGo_bound (b:List BindD):∀(ts:List TermD) (xs:List ByteArray) (l:List BindD),agree b l=true→meetGo (rest b l) (ts.map (boundT b)) xs=pass b (meetGo l ts xs)
 |[],xs,l,h=>by
  show some (rest b l)=(if agree b l=true then some (rest b l) else none)
  rw[if_pos h]
 |t::ts,[],l,h=>rfl
 |t::ts,x::xs,l,h=>by
  rw[List.map_cons]
  unfold meetGo
  obtain⟨v,n⟩:=t
  cases v with
  |false=>
   have e1:boundT b (false,n)=(false,n):=by simp[boundT]
   have e2:∀q:List BindD,worthB q (false,n)=some (bs n):=fun q=>by simp[worthB]
   rw[e1,e2,e2]
   dsimp only
   by_cases hx:bs n=x
   ·rw[if_pos hx,if_pos hx];exact meetGo_bound b ts xs l h
   ·rw[if_neg hx,if_neg hx];rfl
  |true=>
   cases hb:getB b (bs n) with
   |some s=>
    have e1:boundT b (true,n)=(false,raw s):=by simp[boundT,hb]
    have e2:∀q:List BindD,worthB q (false,raw s)=some s:=fun q=>by simp[worthB,bs_raw]
    have e3:∀q:List BindD,worthB q (true,n)=getB q (bs n):=fun q=>by simp[worthB]
    rw[e1,e2,e3]
    dsimp only
    cases hl:getB l (bs n) with
    |some u=>
     have:=agree_get h hb hl
     subst this
     dsimp only
     by_cases hx:u=x
     ·rw[if_pos hx,if_pos hx];exact meetGo_bound b ts xs l h
     ·rw[if_neg hx,if_neg hx];rfl
    |none=>
     dsimp only
     by_cases hx:s=x
     ·subst hx
      rw[if_pos rfl]
      have h2:agree b (l++[(bs n,s)])=true:=by rw[agree_append,h];simp[hb]
      have h3:rest b (l++[(bs n,s)])=rest b l:=by unfold rest;rw[List.filter_append];simp[hb]
      rw[←h3]
      exact meetGo_bound b ts xs _ h2
     ·rw[if_neg hx]
      have h2:agree b (l++[(bs n,x)])=false:=by rw[agree_append,h];simp[hb,hx]
      exact(pass_no fun m hm=>not_agree h2 (meetGo_pre _ _ _ _ hm)).symm
   |none=>
    have e1:boundT b (true,n)=(true,n):=by simp[boundT,hb]
    have e3:∀q:List BindD,worthB q (true,n)=getB q (bs n):=fun q=>by simp[worthB]
    rw[e1,e3,e3,rest_get hb]
    cases hl:getB l (bs n) with
    |some u=>
     dsimp only
     by_cases hx:u=x
     ·rw[if_pos hx,if_pos hx];exact meetGo_bound b ts xs l h
     ·rw[if_neg hx,if_neg hx];rfl
    |none=>
     dsimp only
     have h2:agree b (l++[(bs n,x)])=true:=by rw[agree_append,h];simp[hb]
     have h3:rest b (l++[(bs n,x)])=rest b l++[(bs n,x)]:=by unfold rest;rw[List.filter_append];simp[hb]
     rw[←h3]
     exact meetGo_bound b ts xs _ h2
theorem meetB_bound (b:List BindD) {a:AtomD} {f:FactB} {l:List BindD} (h:agree b l=true):meetB (boundA b a) f (rest b l)=pass b (meetB a f l):=by
 unfold meetB boundA
 dsimp only
 rw[List.length_map]
 split
 ·exact meetGo_bound b a.terms f.2 l h
 ·rfl
def passes (b:List BindD) (ls:List (List BindD)):List (List BindD):=(ls.filter (agree b)).map (rest b)
theorem passes_filterMap (b:List BindD) (fs:List FactB) (g:FactB→Option (List BindD)):passes b (fs.filterMap g)=fs.filterMap fun f=>pass b (g f):=by
 unfold passes
 induction fs with
 |nil=>rfl
 |cons f fs ih=>
  cases hg:g f with
  |none=>rw[List.filterMap_cons_none hg,List.filterMap_cons_none (by simp[hg,pass])];exact ih
  |some m=>
   rw[List.filterMap_cons_some hg,List.filter_cons]
   cases ha:agree b m with
   |true=>rw[if_pos rfl,List.map_cons,List.filterMap_cons_some (b:=rest b m) (by simp[hg,pass,ha]),ih]
   |false=>rw[if_neg (by simp),List.filterMap_cons_none (by simp[hg,pass,ha]),ih]
theorem meetAll_bound (b:List BindD) (a:AtomD) (fs:List FactB):∀ls:List (List BindD),meetAllB (boundA b a) fs (passes b ls)=passes b (meetAllB a fs ls)
 |[]=>rfl
 |l::ls=>by
  have ih:=meetAll_bound b a fs ls
  unfold meetAllB at ih⊢
  have e:passes b ((l::ls).flatMap fun l=>fs.filterMap fun f=>meetB a f l)=passes b (fs.filterMap fun f=>meetB a f l)++passes b (ls.flatMap fun l=>fs.filterMap fun f=>meetB a f l):=by
   rw[List.flatMap_cons];unfold passes;rw[List.filter_append,List.map_append]
  rw[e,←ih,passes_filterMap]
  cases ha:agree b l with
  |true=>
   have e2:passes b (l::ls)=rest b l::passes b ls:=by unfold passes;rw[List.filter_cons,if_pos ha,List.map_cons]
   rw[e2,List.flatMap_cons]
   congr 1
   exact filterMap_same fun f _=>meetB_bound b ha
  |false=>
   have e2:passes b (l::ls)=passes b ls:=by unfold passes;rw[List.filter_cons,if_neg (by simp[ha])]
   rw[e2]
   have e3:(fs.filterMap fun f=>pass b (meetB a f l))=[]:=by
    rw[List.filterMap_eq_nil_iff]
    intro f _
    refine pass_no fun m hm=>not_agree ha ?_
    unfold meetB at hm
    split at hm
    ·exact meetGo_pre _ _ _ _ hm
    ·cases hm
   rw[e3,List.nil_append]
theorem met_bound (b:List BindD) (fs:List FactB):∀(body:List AtomD) (n:Nat) (ls ms:List (List BindD)),metGo (fun _=>fs) n body ls=some ms→metGo (fun _=>fs) n (boundB b body) (passes b ls)=some (passes b ms)
 |[],n,ls,ms,h=>by cases h;rfl
 |a::body,n,ls,ms,h=>by
  show metGo _ n (boundA b a::boundB b body) _=_
  unfold metGo at h⊢
  rw[show(boundA b a).no=a.no from rfl]
  cases hno:a.no with
  |true=>
   rw[hno] at h
   simp only[if_true] at h⊢
   exact met_bound b fs body (n+1) ls ms h
  |false=>
   rw[hno] at h
   simp only[Bool.false_eq_true,if_false] at h⊢
   split at h
   ·cases h
   ·rename_i hlen
    have hle:(passes b (meetAllB a fs ls)).length≤(meetAllB a fs ls).length:=by
     unfold passes
     rw[List.length_map]
     exact List.length_filter_le _ _
    rw[meetAll_bound,if_neg (by omega)]
    exact met_bound b fs body (n+1) _ ms h
theorem all_bound {b:List BindD} {fs:List FactB} {body:List AtomD} (h:metGo (fun _=>fs) 0 body [[]]≠none):∃R,allB (fun _=>fs) (boundB b body)=some R:=by
 cases e:metGo (fun _=>fs) 0 body [[]] with
 |none=>exact absurd e h
 |some ms=>
  have:=met_bound b fs body 0 [[]] ms e
  have e2:passes b [[]]=[[]]:=rfl
  rw[e2] at this
  unfold allB
  rw[this]
  exact⟨_,rfl⟩
end Go.Proofs.YtafmbokfkbccaaaGreatDoor
namespace Go.Proofs.YtafmbokfkbccaaaGreatDoor
def Steps (Q:List FactB→List FactB→Prop):List FactB→List (List FactB)→Prop
 |_,[]=>True
 |L,M::ps=>Q L M∧Steps Q M ps
theorem Steps.append {Q:List FactB→List FactB→Prop}:∀{ps qs:List (List FactB)} {L:List FactB},Steps Q L ps→Steps Q (lastL L ps) qs→Steps Q L (ps++qs)
 |[],_,_,_,h=>h
 |M::ps,qs,L,h,h2=>⟨h.1,Steps.append h.2 (by rw[lastL_cons] at h2;exact h2)⟩
theorem heads_name {r:RuleD} (hR:RightR r) {L x:List FactB} (h:headsP r L=some x) {f:FactB} (hf:f∈x):f.1=bs r.head.name:=by
 obtain⟨env,_,he⟩:=(heads_mem (covers_right hR) h f).1 hf
 exact(fill_name he).1
theorem over_good {p:List RuleD} (hp:RightP p) (σ:RuleD→Nat) {n:Int}:∀(k:Nat) {L:List FactB} {ps:List (List FactB)},GoodS p L→overPast p (p.map σ) n k L=(0,ps)→200<L.length+k→
  GoodS p (lastL L ps)∧(∀f∈L,f∈lastL L ps)∧(∀f∈lastL L ps,f∉L→∃r∈p,(σ r:Int)=n∧f.1=bs r.head.name)∧onceP p (p.map σ) n (lastL L ps)=(0,lastL L ps)
 |0,L,ps,hL,_,hk=>by have:=hL.few;omega
 |k+1,L,ps,hL,h,hk=>by
  unfold overPast at h
  obtain⟨e,x,hx⟩:∃e x,onceP p (p.map σ) n L=(e,x):=⟨_,_,rfl⟩
  rw[hx] at h
  dsimp only at h
  split at h
  ·rename_i he
   simp at h
   exact absurd h.1 he
  ·rename_i he
   have he:e=0:=by simpa using he
   subst he
   obtain⟨g1,g2⟩:=once_good hp σ hL hx
   obtain⟨_,_,o3,_,_⟩:=onceGo_ok σ hx
   have hnew:∀f∈x,f∉L→∃r∈p,(σ r:Int)=n∧f.1=bs r.head.name:=fun f hf hn=>by
    rcases o3 f hf with h1|⟨r,hr,h1,y,hy,hfy⟩
    ·exact absurd h1 hn
    ·exact⟨r,hr,h1,heads_name (hp.rules r hr) hy hfy⟩
   split at h
   ·rename_i hlen
    have e:L=x:=up_same hL.up g1.up g2 (by omega)
    simp at h
    subst h
    rw[lastL_cons]
    show GoodS p x∧(∀f∈L,f∈x)∧(∀f∈x,f∉L→_)∧onceP p (p.map σ) n x=(0,x)
    exact⟨g1,g2,hnew,by rw[←e] at hx⊢;exact hx⟩
   ·rename_i hlen
    have hle:=up_le hL.up g2
    obtain⟨e2,qs,hq⟩:∃e qs,overPast p (p.map σ) n k x=(e,qs):=⟨_,_,rfl⟩
    rw[hq] at h
    simp only[Prod.mk.injEq] at h
    obtain⟨rfl,rfl⟩:=h
    obtain⟨a1,a2,a3,a4⟩:=over_good hp σ k g1 hq (by omega)
    rw[lastL_cons]
    refine⟨a1,fun f hf=>a2 f (g2 f hf),fun f hf hn=> ?_,a4⟩
    by_cases hfx:f∈x
    ·exact hnew f hfx hn
    ·exact a3 f hf hfx
theorem run_good {p:List RuleD} (hp:RightP p) (σ:RuleD→Nat):∀(c n:Nat) {L:List FactB} {ps:List (List FactB)},GoodS p L→runPast p (p.map σ) c n L=(0,ps)→
  GoodS p (lastL L ps)∧(∀f∈L,f∈lastL L ps)∧∀f∈lastL L ps,f∉L→∃r∈p,n≤σ r∧f.1=bs r.head.name
 |0,n,L,ps,hL,h=>by
  simp only[runPast,Prod.mk.injEq,true_and] at h
  subst h
  exact⟨hL,fun _ h=>h,fun f hf hn=>absurd hf hn⟩
 |c+1,n,L,ps,hL,h=>by
  unfold runPast at h
  obtain⟨e,os,ho⟩:∃e os,overPast p (p.map σ) n 201 L=(e,os):=⟨_,_,rfl⟩
  rw[ho] at h
  dsimp only at h
  split at h
  ·rename_i he
   simp at h
   exact absurd h.1 he
  ·rename_i he
   have he:e=0:=by simpa using he
   subst he
   obtain⟨e2,rs,hr⟩:∃e qs,runPast p (p.map σ) c (n+1) (lastL L os)=(e,qs):=⟨_,_,rfl⟩
   rw[hr] at h
   simp only[Prod.mk.injEq] at h
   obtain⟨rfl,rfl⟩:=h
   obtain⟨a1,a2,a3,_⟩:=over_good hp σ 201 hL ho (by omega)
   obtain⟨b1,b2,b3⟩:=run_good hp σ c (n+1) a1 hr
   rw[lastL_append]
   refine⟨b1,fun f hf=>b2 f (a2 f hf),fun f hf hn=> ?_⟩
   by_cases hm:f∈lastL L os
   ·obtain⟨r,hr,e,hname⟩:=a3 f hm hn
    exact⟨r,hr,by omega,hname⟩
   ·obtain⟨r,hr,e,hname⟩:=b3 f hf hm
    exact⟨r,hr,by omega,hname⟩
def Came (p:List RuleD) (all L M:List FactB):Prop:=GoodS p L∧(∀f∈L,f∈all)∧
 ∀f∈M,f∉L→∃r∈p,∃env,FitsB (fun _=>L) r.body env∧fillB r.head env=some f∧∀a∈r.body,a.no=true→∀g,fillB a env=some g→g∉all
theorem over_came {p:List RuleD} (hp:RightP p) {τ:Bs→Nat} (hτ:Sol p τ) {n:Nat} {all:List FactB}:∀(k:Nat) {L:List FactB} {ps:List (List FactB)},GoodS p L→overPast p (p.map fun r=>τ r.head.name) n k L=(0,ps)→200<L.length+k→
  (∀f∈lastL L ps,f∈all)→(∀f∈all,f∉L→∃r∈p,n≤τ r.head.name∧f.1=bs r.head.name)→Steps (Came p all) L ps
 |0,L,ps,hL,_,hk,_,_=>by have:=hL.few;omega
 |k+1,L,ps,hL,h,hk,hsub,hall=>by
  have hsubL:∀f∈L,f∈all:=fun f hf=>hsub f ((over_good hp _ (k+1) hL h hk).2.1 f hf)
  unfold overPast at h
  obtain⟨e,x,hx⟩:∃e x,onceP p (p.map fun r=>τ r.head.name) n L=(e,x):=⟨_,_,rfl⟩
  rw[hx] at h
  dsimp only at h
  split at h
  ·rename_i he
   simp at h
   exact absurd h.1 he
  ·rename_i he
   have he:e=0:=by simpa using he
   subst he
   obtain⟨g1,g2⟩:=once_good hp (fun r=>τ r.head.name) hL hx
   obtain⟨_,_,o3,_,_⟩:=onceGo_ok (fun r=>τ r.head.name) hx
   have hcame:Came p all L x:=⟨hL,hsubL,fun f hf hn=>by
    rcases o3 f hf with h1|⟨r,hr,hrn,y,hy,hfy⟩
    ·exact absurd h1 hn
    ·obtain⟨env,he,hfill⟩:=(heads_mem (covers_right (hp.rules r hr)) hy f).1 hfy
     refine⟨r,hr,env,he,hfill,fun a ha hno g hg hga=> ?_⟩
     obtain⟨g',hg',hi⟩:=SoB_const.1 he.2.2.2 a ha
     rw[hg] at hg'
     cases hg'
     rw[hno] at hi
     have hgl:g∉L:=fun hc=>by rw[inB_iff.2 hc] at hi;cases hi
     obtain⟨q,hq,hqn,hqname⟩:=hall g hga hgl
     have e1:a.name=q.head.name:=bs_inj ((fill_name hg).1.symm.trans hqname)
     have h2:=hτ r hr a ha ⟨q,hq,e1.symm⟩
     have h3:step a=1:=by unfold step;rw[if_pos hno]
     have h4:τ r.head.name=n:=by exact_mod_cast hrn
     rw[e1,h3,h4] at h2
     omega⟩
   split at h
   ·simp at h
    subst h
    exact⟨hcame,trivial⟩
   ·rename_i hlen
    have hle:=up_le hL.up g2
    obtain⟨e2,qs,hq⟩:∃e qs,overPast p (p.map fun r=>τ r.head.name) n k x=(e,qs):=⟨_,_,rfl⟩
    rw[hq] at h
    simp only[Prod.mk.injEq] at h
    obtain⟨rfl,rfl⟩:=h
    rw[lastL_cons] at hsub
    exact⟨hcame,over_came hp hτ k g1 hq (by omega) hsub fun f hf hn=>hall f hf fun hc=>hn (g2 f hc)⟩
theorem run_came {p:List RuleD} (hp:RightP p) {τ:Bs→Nat} (hτ:Sol p τ):∀(c n:Nat) {L:List FactB} {ps:List (List FactB)},GoodS p L→runPast p (p.map fun r=>τ r.head.name) c n L=(0,ps)→Steps (Came p (lastL L ps)) L ps
 |0,n,L,ps,hL,h=>by
  simp only[runPast,Prod.mk.injEq,true_and] at h
  subst h
  trivial
 |c+1,n,L,ps,hL,h=>by
  have hg:=run_good hp _ (c+1) n hL h
  unfold runPast at h
  obtain⟨e,os,ho⟩:∃e os,overPast p (p.map fun r=>τ r.head.name) n 201 L=(e,os):=⟨_,_,rfl⟩
  rw[ho] at h
  dsimp only at h
  split at h
  ·rename_i he
   simp at h
   exact absurd h.1 he
  ·rename_i he
   have he:e=0:=by simpa using he
   subst he
   obtain⟨e2,rs,hr⟩:∃e qs,runPast p (p.map fun r=>τ r.head.name) c (n+1) (lastL L os)=(e,qs):=⟨_,_,rfl⟩
   rw[hr] at h
   simp only[Prod.mk.injEq] at h
   obtain⟨rfl,rfl⟩:=h
   obtain⟨a1,a2,a3,_⟩:=over_good hp _ 201 hL ho (by omega)
   obtain⟨b1,b2,b3⟩:=run_good hp _ c (n+1) a1 hr
   have ih:=run_came hp hτ c (n+1) a1 hr
   rw[lastL_append] at hg⊢
   exact Steps.append (over_came hp hτ 201 hL ho (by omega) b2 fun f hf hn=>hg.2.2 f hf hn) ih
theorem filterMap_filter {α β:Type} {g:α→Option β} {P:α→Bool}:∀{l:List α},(∀x∈l,P x=false→g x=none)→l.filterMap g=(l.filter P).filterMap g
 |[],_=>rfl
 |a::l,h=>by
  have ih:=filterMap_filter (g:=g) (P:=P) (l:=l) fun x hx=>h x (by simp[hx])
  rw[List.filter_cons]
  cases hp:P a with
  |true=>rw[if_pos rfl,List.filterMap_cons,List.filterMap_cons,ih]
  |false=>rw[if_neg (by simp),List.filterMap_cons_none (h a (by simp) hp),ih]
theorem meetAll_names {a:AtomD} {fs gs:List FactB} (h:(fs.filter fun f=>decide (f.1=bs a.name))=gs.filter fun f=>decide (f.1=bs a.name)) (ls:List (List BindD)):meetAllB a fs ls=meetAllB a gs ls:=by
 unfold meetAllB
 have key:∀(l:List BindD) (q:List FactB),(q.filterMap fun f=>meetB a f l)=((q.filter fun f=>decide (f.1=bs a.name)).filterMap fun f=>meetB a f l):=fun l q=>
  filterMap_filter fun x _ hx=>by
   unfold meetB
   rw[if_neg]
   rintro⟨e,_⟩
   rw[decide_eq_false_iff_not] at hx
   exact hx e.symm
 have e:(fun l=>fs.filterMap fun f=>meetB a f l)=fun l=>gs.filterMap fun f=>meetB a f l:=by
  funext l
  rw[key l fs,key l gs,h]
 rw[e]
theorem met_names {fs gs:List FactB}:∀(body:List AtomD) (n:Nat) (ls:List (List BindD)),(∀a∈body,(fs.filter fun f=>decide (f.1=bs a.name))=gs.filter fun f=>decide (f.1=bs a.name))→metGo (fun _=>fs) n body ls=metGo (fun _=>gs) n body ls
 |[],_,_,_=>rfl
 |a::body,n,ls,h=>by
  unfold metGo
  rw[meetAll_names (h a (by simp)),met_names body _ _ fun x hx=>h x (by simp[hx]),met_names body _ _ fun x hx=>h x (by simp[hx])]
theorem run_ways {p:List RuleD} (hp:RightP p) {τ:Bs→Nat} (hτ:Sol p τ):∀(c n:Nat) {L:List FactB} {ps:List (List FactB)},GoodS p L→runPast p (p.map fun r=>τ r.head.name) c n L=(0,ps)→
  ∀r∈p,n≤τ r.head.name→τ r.head.name<n+c→metGo (fun _=>lastL L ps) 0 r.body [[]]≠none
 |0,n,L,ps,_,_,r,_,h1,h2=>by omega
 |c+1,n,L,ps,hL,h,r,hr,h1,h2=>by
  unfold runPast at h
  obtain⟨e,os,ho⟩:∃e os,overPast p (p.map fun r=>τ r.head.name) n 201 L=(e,os):=⟨_,_,rfl⟩
  rw[ho] at h
  dsimp only at h
  split at h
  ·rename_i he
   simp at h
   exact absurd h.1 he
  ·rename_i he
   have he:e=0:=by simpa using he
   subst he
   obtain⟨e2,rs,hrs⟩:∃e qs,runPast p (p.map fun r=>τ r.head.name) c (n+1) (lastL L os)=(e,qs):=⟨_,_,rfl⟩
   rw[hrs] at h
   simp only[Prod.mk.injEq] at h
   obtain⟨rfl,rfl⟩:=h
   obtain⟨a1,a2,a3,a4⟩:=over_good hp _ 201 hL ho (by omega)
   rw[lastL_append]
   by_cases hn:τ r.head.name=n
   ·obtain⟨b1,b2,b3⟩:=run_good hp _ c (n+1) a1 hrs
    have hsame:∀a∈r.body,((lastL (lastL L os) rs).filter fun f=>decide (f.1=bs a.name))=(lastL L os).filter fun f=>decide (f.1=bs a.name):=fun a ha=>by
     refine up_ext (b1.up.filter _) (a1.up.filter _) fun f=> ?_
     rw[List.mem_filter,List.mem_filter]
     constructor
     ·rintro⟨hf,hname⟩
      refine⟨Classical.byContradiction fun hno=> ?_,hname⟩
      obtain⟨q,hq,hqn,hqname⟩:=b3 f hf hno
      have e1:a.name=q.head.name:=bs_inj ((of_decide_eq_true hname).symm.trans hqname)
      have h3:=hτ r hr a ha ⟨q,hq,e1.symm⟩
      rw[e1,hn] at h3
      omega
     ·rintro⟨hf,hname⟩
      exact⟨b2 f hf,hname⟩
    rw[met_names r.body 0 [[]] hsame]
    obtain⟨o1,_⟩:=onceGo_ok (fun r=>τ r.head.name) a4
    obtain⟨x,hx,_⟩:=o1 r hr (by exact_mod_cast hn)
    intro hnone
    unfold headsP allB at hx
    rw[hnone] at hx
    cases hx
   ·exact run_ways hp hτ c (n+1) a1 hrs r hr (by omega) (by omega)
end Go.Proofs.YtafmbokfkbccaaaGreatDoor
namespace Go.Proofs.YtafmbokfkbccaaaGreatDoor
theorem came_at {Q:List FactB→List FactB→Prop} {f:FactB}:∀{ps:List (List FactB)} {L:List FactB},Steps Q L ps→f∈lastL L ps→f∉L→
  ∃A B,Q A B∧f∉A∧f∈B∧(L::ps).getD (oldOf (L::ps) f-1) []=A∧1≤oldOf (L::ps) f∧oldOf (L::ps) f<(L::ps).length
 |[],L,_,h,hn=>absurd h hn
 |M::ps,L,hs,h,hn=>by
  rw[lastL_cons] at h
  have hL:inB L f=false:=by
   cases e:inB L f with
   |false=>rfl
   |true=>exact absurd (inB_iff.1 e) hn
  have e1:oldOf (L::M::ps) f=oldOf (M::ps) f+1:=by
   unfold oldOf
   rw[List.findIdx_cons,hL]
   rfl
  by_cases hM:f∈M
  ·have e2:oldOf (M::ps) f=0:=by
    unfold oldOf
    rw[List.findIdx_cons,inB_iff.2 hM]
    rfl
   rw[e1,e2]
   exact⟨L,M,hs.1,hn,hM,rfl,by omega,by simp⟩
  ·obtain⟨A,B,h1,h2,h3,h4,h5,h6⟩:=came_at hs.2 h hM
   rw[e1]
   refine⟨A,B,h1,h2,h3,?_,by omega,by simp only[List.length_cons] at h6⊢;omega⟩
   rw[show oldOf (M::ps) f+1-1=(oldOf (M::ps) f-1)+1 by omega,List.getD_cons_succ]
   exact h4
theorem firstBy_some {g:RuleD→Option (List FactB)}:∀(p:List RuleD) (i:Nat),(∃r∈p,g r≠none)→∃j r of,p[j]?=some r∧g r=some of∧firstBy g i p=(((i+j:Nat):Int),of)
 |[],_,h=>by obtain⟨r,hr,_⟩:=h;cases hr
 |r::p,i,h=>by
  unfold firstBy
  cases hg:g r with
  |some of=>exact⟨0,r,of,rfl,hg,rfl⟩
  |none=>
   obtain⟨q,hq,hne⟩:=h
   have hq':q∈p:=by
    rcases List.mem_cons.1 hq with rfl|hq
    ·exact absurd hg hne
    ·exact hq
   obtain⟨j,s,of,h1,h2,h3⟩:=firstBy_some p (i+1) ⟨q,hq',hne⟩
   exact⟨j+1,s,of,by simpa using h1,h2,by dsimp only;rw[h3];congr 2;omega⟩
theorem byP_right {err:List AtomD→Int} (herr:∀b,err b=0→wrongBody b=0) {all old:List FactB} {r:RuleD} (hR:RightR r) {f:FactB} {of:List FactB} (h:byP err all old r f=some of):stepE all r f of=0∧∀k∈of,k∈old:=by
 unfold byP at h
 cases hm:meetB r.head f [] with
 |none=>rw[hm] at h;cases h
 |some b=>
  rw[hm] at h
  dsimp only at h
  have h1:=List.find?_some h
  have h2:=List.mem_of_find?_eq_some h
  obtain⟨l,hl,rfl⟩:=List.mem_map.1 h2
  refine⟨?_,fun k hk=>inB_iff.1 (List.all_eq_true.1 h1 k hk)⟩
  unfold listsP at hl
  split at hl
  ·cases hl
  ·rename_i he
   have he:=Classical.not_not.1 he
   cases hR':allB (fun _=>all) (boundB b r.body) with
   |none=>rw[hR'] at hl;cases hl
   |some R=>
    rw[hR'] at hl
    have hfit:=(all_mem (covers_of (herr _ he)) hR' l).1 hl
    refine step_of hR hm fun a ha=> ?_
    obtain⟨g,hg,hi⟩:=SoB_const.1 hfit.2.2.2 (boundA b a) (List.mem_map.2 ⟨a,ha,rfl⟩)
    exact⟨g,by rw[←fill_bound];exact hg,hi⟩
theorem bound_var {b:List BindD} {a:AtomD} {k:Bs}:(∃t∈(boundA b a).terms,t.1=true∧t.2=k)↔(∃t∈a.terms,t.1=true∧t.2=k)∧getB b (bs k)=none:=by
 constructor
 ·rintro⟨t,ht,h1,h2⟩
  obtain⟨u,hu,rfl⟩:=List.mem_map.1 ht
  unfold boundT at h1 h2
  cases hu1:u.1 with
  |false=>rw[hu1] at h1;simp at h1;rw[hu1] at h1;cases h1
  |true=>
   rw[hu1] at h1 h2
   simp only[if_true] at h1 h2
   cases hg:getB b (bs u.2) with
   |some s=>rw[hg] at h1;cases h1
   |none=>
    rw[hg] at h2
    dsimp only at h2
    exact⟨⟨u,hu,hu1,h2⟩,by rw[←h2];exact hg⟩
 ·rintro⟨⟨u,hu,h1,h2⟩,hg⟩
  refine⟨u,List.mem_map.2 ⟨u,hu,?_⟩,h1,h2⟩
  unfold boundT
  rw[h1,if_pos rfl,h2,hg]
theorem vars_bound {b:List BindD} {body:List AtomD} {k:Bs}:k∈posVars [] (boundB b body)↔k∈posVars [] body∧getB b (bs k)=none:=by
 rw[mem_posVars,mem_posVars]
 constructor
 ·rintro(h|⟨a,ha,hno,h⟩)
  ·cases h
  ·obtain⟨c,hc,rfl⟩:=List.mem_map.1 ha
   obtain⟨h1,h2⟩:=bound_var.1 h
   exact⟨Or.inr ⟨c,hc,hno,h1⟩,h2⟩
 ·rintro⟨h|⟨a,ha,hno,h⟩,hg⟩
  ·cases h
  ·exact Or.inr ⟨boundA b a,List.mem_map.2 ⟨a,ha,rfl⟩,hno,bound_var.2 ⟨h,hg⟩⟩
theorem wrongAtoms_iff7:∀{l:List AtomD},wrongAtoms l=0↔∀a∈l,wrongAtom a=0
 |[]=>by simp[wrongAtoms]
 |a::l=>by
  unfold wrongAtoms
  constructor
  ·intro h
   split at h
   ·rename_i h0
    intro x hx
    rcases List.mem_cons.1 hx with rfl|hx
    ·exact h0
    ·exact wrongAtoms_iff7.1 h x hx
   ·rename_i h0;exact absurd h h0
  ·intro h
   rw[if_pos (h a (by simp))]
   exact wrongAtoms_iff7.2 fun x hx=>h x (by simp[hx])
theorem bound_right {b:List BindD} {body:List AtomD} (h:wrongBody body=0) (hb:∀v s,getB b v=some s→isNamed (raw s)=true):wrongBody (boundB b body)=0:=by
 unfold wrongBody at h⊢
 have el:(boundB b body).length=body.length:=List.length_map _
 rw[el]
 split at h
 ·cases h
 ·rename_i h5
  rw[if_neg h5]
  split at h
  ·rename_i h0
   split at h
   ·rename_i hv
    have ha:wrongAtoms (boundB b body)=0:=wrongAtoms_iff7.2 fun x hx=>by
     obtain⟨a,ha,rfl⟩:=List.mem_map.1 hx
     obtain⟨h1,h2,h3⟩:=atom_zero (wrongAtoms_iff7.1 h0 a ha)
     unfold wrongAtom
     rw[if_neg (by show¬isNamed a.name=false;rw[h1];simp),if_neg (by show¬4<(a.terms.map (boundT b)).length;rw[List.length_map];omega),if_neg]
     intro hc
     obtain⟨t,ht,hw⟩:=List.any_eq_true.1 hc
     obtain⟨u,hu,rfl⟩:=List.mem_map.1 ht
     have hwu:=h3 u hu
     unfold boundT at hw
     split at hw
     ·split at hw
      ·rename_i s hs
       unfold wrongTerm at hw
       simp[hb _ s hs] at hw
      ·rw[hwu] at hw;cases hw
     ·rw[hwu] at hw;cases hw
    rw[if_pos ha,if_pos]
    refine List.all_eq_true.2 fun x hx=> ?_
    obtain⟨a,ha,rfl⟩:=List.mem_map.1 hx
    refine List.all_eq_true.2 fun k hk=> ?_
    have hk':∃t∈(boundA b a).terms,t.1=true∧t.2=k:=by
     rcases(mem_varsGo _).1 hk with h1|h1
     ·cases h1
     ·exact h1
    obtain⟨h1,h2⟩:=bound_var.1 hk'
    have h3:k∈vars a:=(mem_varsGo _).2 (Or.inr h1)
    have h4:=List.all_eq_true.1 (List.all_eq_true.1 hv a ha) k h3
    unfold givenBy at h4⊢
    obtain⟨c,hc,h5⟩:=List.any_eq_true.1 h4
    simp only[Bool.and_eq_true,Bool.not_eq_true'] at h5
    have h6:k∈vars c:=by simpa using h5.2
    refine List.any_eq_true.2 ⟨boundA b c,List.mem_map.2 ⟨c,hc,rfl⟩,?_⟩
    simp only[Bool.and_eq_true,Bool.not_eq_true']
    refine⟨h5.1,?_⟩
    have h7:k∈vars (boundA b c):=by
     refine(mem_varsGo _).2 (Or.inr (bound_var.2 ⟨?_,h2⟩))
     rcases(mem_varsGo _).1 h6 with h8|h8
     ·cases h8
     ·exact h8
    simpa using h7
   ·cases h
  ·rename_i h0;exact absurd h h0
theorem rest_keys {b l:List BindD} {v:ByteArray}:v∈keysB (rest b l)↔v∈keysB l∧getB b v=none:=by
 unfold keysB rest
 constructor
 ·intro h
  obtain⟨x,hx,rfl⟩:=List.mem_map.1 h
  obtain⟨h1,h2⟩:=List.mem_filter.1 hx
  exact⟨List.mem_map.2 ⟨x,h1,rfl⟩,by simpa using h2⟩
 ·rintro⟨h,hg⟩
  obtain⟨x,hx,rfl⟩:=List.mem_map.1 h
  exact List.mem_map.2 ⟨x,List.mem_filter.2 ⟨hx,by rw[hg];rfl⟩,rfl⟩
theorem byP_some {p:List RuleD} {err:List AtomD→Int} (herr:∀b,wrongBody b=0→err b=0) {all L:List FactB} {r:RuleD} (hR:RightR r) (hL:GoodS p L) (hsub:∀f∈L,f∈all) (hways:metGo (fun _=>all) 0 r.body [[]]≠none)
  {f:FactB} {env:List BindD} (hfit:FitsB (fun _=>L) r.body env) (hfill:fillB r.head env=some f) (hneg:∀a∈r.body,a.no=true→∀g,fillB a env=some g→g∉all):byP err all L r f≠none:=by
 obtain⟨b,hm,hag⟩:=meet_agree (G:=env) (c:=[]) (a:=r.head) (f:=f) (fun v s h=>by cases h) hfill
 have hnames:∀v s,getB b v=some s→isNamed (raw s)=true:=fun v s h=>env_right hL.right hfit (hag v s h)
 have hwb:=bound_right (b:=b) hR.body hnames
 obtain⟨R,hRR⟩:=all_bound (b:=b) hways
 obtain⟨f1,f2,f3,f4⟩:=hfit
 have hget:∀v∈keysB env,getB (b++rest b env) v=getB env v:=fun v hv=>by
  rw[getB_append]
  cases hg:getB b v with
  |some s=>exact(hag v s hg).symm
  |none=>exact rest_get hg
 have hfa:∀a∈r.body,fillB (boundA b a) (rest b env)=fillB a env:=fun a ha=>by
  rw[fill_bound]
  refine fillB_congr fun t ht ht1=>hget _ ((f3 _).2 (mem_map_bs.2 (covers_right hR a ha t ht ht1)))
 have hfit':FitsB (fun _=>all) (boundB b r.body) (rest b env):=by
  refine⟨f1.filter _,?_,fun v=> ?_,SoB_const.2 fun x hx=> ?_⟩
  ·exact(List.Sublist.map _ List.filter_sublist).nodup f2
  ·rw[rest_keys,f3]
   constructor
   ·rintro⟨hv,hg⟩
    obtain⟨k,hk,rfl⟩:=List.mem_map.1 hv
    exact mem_map_bs.2 (vars_bound.2 ⟨hk,hg⟩)
   ·intro hv
    obtain⟨k,hk,rfl⟩:=List.mem_map.1 hv
    obtain⟨h1,h2⟩:=vars_bound.1 hk
    exact⟨mem_map_bs.2 h1,h2⟩
  ·obtain⟨a,ha,rfl⟩:=List.mem_map.1 hx
   obtain⟨g,hg,hi⟩:=SoB_const.1 f4 a ha
   refine⟨g,by rw[hfa a ha];exact hg,?_⟩
   show inB all g= !a.no
   cases hno:a.no with
   |true=>
    have:=hneg a ha hno g hg
    cases e:inB all g with
    |false=>rfl
    |true=>exact absurd (inB_iff.1 e) this
   |false=>
    rw[hno] at hi
    exact inB_iff.2 (hsub g (inB_iff.1 hi))
 have hmem:=(all_mem (covers_of hwb) hRR _).2 hfit'
 intro hnone
 unfold byP at hnone
 rw[hm] at hnone
 dsimp only at hnone
 rw[List.find?_eq_none] at hnone
 refine hnone (filledL (boundB b r.body) (rest b env)) (List.mem_map.2 ⟨_,?_,rfl⟩) (List.all_eq_true.2 fun k hk=> ?_)
 ·unfold listsP
  rw[if_neg (by rw[herr _ hwb];simp),hRR]
  exact hmem
 ·unfold filledL at hk
  obtain⟨x,hx,he⟩:=List.mem_filterMap.1 hk
  obtain⟨a,ha,rfl⟩:=List.mem_map.1 hx
  obtain⟨g,hg,hi⟩:=SoB_const.1 f4 a ha
  rw[show(boundA b a).no=a.no from rfl] at he
  cases hno:a.no with
  |true=>rw[hno] at he;cases he
  |false=>
   rw[hno] at he hi
   simp only[Bool.false_eq_true,if_false] at he
   rw[hfa a ha,hg] at he
   cases he
   exact hi
structure HowOk (p:List RuleD) (told all:List FactB) (how:FactB→Int×List FactB):Prop where
 ok:∀f∈all,(inB told f=true∧how f=(-1,[]))∨∃(i:Nat) (r:RuleD) (of:List FactB),p[i]?=some r∧how f=((i:Int),of)∧stepE all r f of=0∧∀k∈of,k∈all
theorem how_ok {p:List RuleD} (hp:RightP p) {err:List AtomD→Int} (herr:∀b,err b=0↔wrongBody b=0) {told:List FactB} {ps:List (List FactB)} (hs:Steps (Came p (lastL told ps)) told ps) (hways:∀r∈p,metGo (fun _=>lastL told ps) 0 r.body [[]]≠none):
  HowOk p told (lastL told ps) (wayP err p told (lastL told ps) (told::ps)):=⟨fun f hf=>by
 by_cases ht:inB told f=true
 ·exact Or.inl ⟨ht,by unfold wayP;rw[if_pos ht]⟩
 ·right
  have hn:f∉told:=fun hc=>ht (inB_iff.2 hc)
  obtain⟨A,B,⟨g1,g2,g3⟩,h2,h3,h4,_,_⟩:=came_at hs hf hn
  obtain⟨r,hr,env,he,hfill,hneg⟩:=g3 f h3 h2
  have hby:byP err (lastL told ps) ((told::ps).getD (oldOf (told::ps) f-1) []) r f≠none:=by
   rw[h4]
   exact byP_some (fun b hb=>(herr b).2 hb) (hp.rules r hr) g1 g2 (hways r hr) he hfill hneg
  obtain⟨j,q,of,k1,k2,k3⟩:=firstBy_some (g:=fun r=>byP err (lastL told ps) ((told::ps).getD (oldOf (told::ps) f-1) []) r f) p 0 ⟨r,hr,hby⟩
  obtain⟨s1,s2⟩:=byP_right (fun b hb=>(herr b).1 hb) (hp.rules q (List.mem_of_getElem? k1)) k2
  refine⟨j,q,of,k1,?_,s1,fun k hk=> ?_⟩
  ·unfold wayP
   rw[if_neg ht,k3]
   simp
  ·have:=s2 k hk
   rw[h4] at this
   exact g2 k this⟩
def cnt:Nat→PrfD→Nat
 |0,_=>0
 |n+1,x=>1+(x.kids.map (cnt n)).sum
end Go.Proofs.YtafmbokfkbccaaaGreatDoor
