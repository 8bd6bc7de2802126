import Derived.Test.YtafmbokfkbccaaaGreatDoorJF3
import Derived.Test.YtafmbokfkbccaaaGreatDoorJF28
import Derived.Test.YtafmbokfkbccaaaGreatDoorJF5
import Derived.Test.YtafmbokfkbccaaaGreatDoorJF21
import Derived.Test.YtafmbokfkbccaaaGreatDoorJF26
import Derived.Test.YtafmbokfkbccaaaGreatDoorJF7
namespace Go.Proofs.YtafmbokfkbccaaaGreatDoor
open Go.RowKit Go.Sort
theorem flat_get {size:Nat}:∀(cs:List (List Value)),(∀c∈cs,c.length=size)→∀i c j,cs[i]?=some c→j<size→cs.flatten[i*size+j]?=c[j]?
 |[],_,i,c,j,h,_=>by simp at h
 |d::cs,hl,i,c,j,h,hj=>by
  have hd:d.length=size:=hl d (by simp);cases i with
  |zero=>
   simp at h;subst h;rw[List.flatten_cons,Nat.zero_mul,Nat.zero_add,List.getElem?_append_left (by omega)]
  |succ i=>
   have ih:=flat_get cs (fun c hc=>hl c (by simp[hc])) i c j (by simpa using h) hj;rw[List.flatten_cons,List.getElem?_append_right (by rw[Nat.add_mul];omega),show(i+1)*size+j-d.length=i*size+j by rw[Nat.add_mul];omega];exact ih
theorem yR {size:Nat}:∀(cs:List (List Value)),(∀c∈cs,c.length=size)→cs.flatten.length=cs.length*size
 |[],_=>by simp
 |d::cs,hl=>by
  have:=yR cs (fun c hc=>hl c (by simp[hc]));have hd:d.length=size:=hl d (by simp);rw[List.flatten_cons,List.length_append,this,hd,List.length_cons,Nat.add_mul];omega
theorem Kind.yt {α:Type} {K:Kind α} {B:Nat→Prop} {w:World} {a:Addr} {n cap:Nat} {m:List α} (h:K.sl B w (.slice (some a) n cap) m) (hsz:0<K.size):
  ∃cs:List (List Value),cs.length=m.length∧(∀c∈cs,c.length=K.size)∧(∀c∈cs,∀u∈c,u.oneCell'=true)∧(∀(j:Nat) (u:Value),cs.flatten[j]?=some u→w.cell? (a.add j)=some u)∧∀(i:Nat) (c:List Value) (x:α),cs[i]?=some c→m[i]?=some x→K.is B w c x:=by
 by_cases hm:m=[]
 ·subst hm;exact⟨[],rfl,by simp,by simp,by simp,fun i c x h=>by simp at h⟩
 obtain⟨_,a',cap',e,h1⟩:=h;simp only[Value.slice.injEq] at e;obtain⟨rfl,_,_⟩:=e;obtain⟨b,off,e,_,hb,hc⟩:=h1 hm;simp only[Option.some.injEq] at e;subst e;have key:∀i:Fin m.length,∃c,K.is B w c m[i.1]∧∀j u,c[j]?=some u→w.cell? ⟨b,off+i.1*K.size+j,none⟩=some u:=fun i=>hc i.1 _ (List.getElem?_eq_getElem i.2);have get:∀i,(List.ofFn fun i:Fin m.length=>Classical.choose (key i))[i]?=if h:i<m.length then some (Classical.choose (key ⟨i,h⟩)) else none:=fun i=>by rw[List.getElem?_ofFn]
 have hl:∀c∈List.ofFn fun i:Fin m.length=>Classical.choose (key i),c.length=K.size:=fun c hc=>by
  rw[List.mem_ofFn] at hc;obtain⟨i,rfl⟩:=hc;exact K.len (Classical.choose_spec (key i)).1
 refine⟨List.ofFn fun i:Fin m.length=>Classical.choose (key i),by simp,hl,fun c hc=> ?_,fun j u hu=> ?_,fun i c x hi hx=> ?_⟩
 ·rw[List.mem_ofFn] at hc;obtain⟨i,rfl⟩:=hc;exact K.one (Classical.choose_spec (key i)).1
 ·have hj:=(List.getElem?_eq_some_iff.1 hu).1;rw[yR _ hl,List.length_ofFn] at hj;have hq:j/K.size<m.length:=(Nat.div_lt_iff_lt_mul hsz).2 hj;have hr:j%K.size<K.size:=Nat.mod_lt _ hsz;have hjq:j/K.size*K.size+j%K.size=j:=by rw[Nat.mul_comm];exact Nat.div_add_mod j K.size
  have hg:=get (j/K.size);rw[dif_pos hq] at hg;have:=flat_get _ hl _ _ (j%K.size) hg hr;rw[hjq,hu] at this;have hcell:=(Classical.choose_spec (key ⟨j/K.size,hq⟩)).2 _ u this.symm;rw[Addr.add_lit];rw[show off+j/K.size*K.size+j%K.size=off+j by omega] at hcell;exact hcell
 ·rw[get] at hi;split at hi
  ·rename_i h;rw[List.getElem?_eq_getElem h] at hx;cases hi;cases hx;exact(Classical.choose_spec (key ⟨i,h⟩)).1
  ·cases hi
theorem Kind.uG {α:Type} {P:Program} {K:Kind α} {t ty e':TypeId} {lo bytes:Nat} {w:World} {v:Value} {l m:List α} {a:Option Addr} {cap:Nat} (h:K.own ty lo w v l) {i:TypeInfo} {z:Value}
  (ht:P.underlying t=some (.slice ty)) (hi:P.info? ty=some i) (hz:i.zero=some z) (hsize:i.size=K.size) (hby:i.bytes=bytes) (hzs:z.cells.size=K.size) (hsz:0<K.size) (hb:bytes≤100)
  (hs:K.sl (fun k=>lo≤k∧v.ownBlock≠some k) w (.slice a m.length cap) m) (hl:l.length+m.length≤1099511627776) (hlo:lo≤w.heap.size) (_:e'=t):
  ∃v' w',(Builtin.append_ #[t,t] t #[v,.slice a m.length cap]).run P w=.ok v' w'∧K.own ty lo w' v' (l++m)∧w.grownBy w' v.ownBlock∧∀k,v'.ownBlock=some k→v.ownBlock=some k∨w.heap.size≤k:=by
 cases a with
 |none=>
  have hm:m=[]:=by
   refine Classical.byContradiction fun hne=> ?_;obtain⟨_,a',_,e,h1⟩:=hs;simp only[Value.slice.injEq] at e;obtain⟨b,off,e',_⟩:=h1 hne;rw[e'] at e;cases e.1
  subst hm;refine⟨v,w,?_,by rw[List.append_nil];exact h,⟨rfl,rfl,rfl,Nat.le_refl _,fun _ _ _=>rfl⟩,fun k hk=>Or.inl hk⟩;obtain⟨xs,ho,_⟩:=h;rcases ho.2 with⟨rfl,e0⟩|⟨g,c,cur,rfl,_,_,hnc,_⟩
  ·simp[Builtin.append_,run_underlying ht,sizeOf,typeInfo,hi,Builtin.lenOf,Builtin.firstCells]
  ·simp[Builtin.append_,run_underlying ht,sizeOf,typeInfo,hi,Builtin.lenOf,Builtin.firstCells,hnc,storeCells]
 |some a=>
  obtain⟨cs,cl,Sb,V9,Sc,cis⟩:=Kind.yt hs hsz;obtain⟨xs,ho,hx⟩:=h;have hxl:xs.length=l.length*K.size:=ho.1;obtain⟨v',w',hrun,r1,r2,r3,r4⟩:=dX (P:=P) w lo t t ty i z K.size bytes ht hi hz hsize hby hzs hsz v l.length xs ho a m.length cap cs.flatten (by rw[yR _ Sb,cl]) Sc
   (fun u hu=>by rw[List.mem_flatten] at hu;obtain⟨c,hc,hu⟩:=hu;exact V9 c hc u hu) (by simp only[maxLen];omega) (Nat.le_trans (Nat.mul_le_mul hl hb) (by omega)) hlo
  have own':∀k,k<w.heap.size→v'.ownBlock=some k→v.ownBlock=some k:=fun k hk e=>(r4 k e).elim id fun h=>by omega
  have keep:∀k,k<w.heap.size→(lo≤k∧v.ownBlock≠some k)→w'.heap[k]?=w.heap[k]?:=fun k hk hB=>r2.block k hk (fun e=>hB.2 e.symm);have move:∀{c:List Value} {y:α},K.is (fun k=>lo≤k∧v.ownBlock≠some k) w c y→K.is (fun k=>lo≤k∧v'.ownBlock≠some k) w' c y:=fun {c y} hy=>
   K.kept (K.mono hy fun k hk hB=>(⟨⟨hB.1,fun e=>hB.2 (own' k hk e)⟩,hB⟩:(lo≤k∧v'.ownBlock≠some k)∧(lo≤k∧v.ownBlock≠some k))) r2.size (fun k hk hB=>keep k hk hB.2) |> fun h=>K.mono h fun _ _ hB=>hB.1
  refine⟨v',w',hrun,⟨xs++cs.flatten,by rw[List.length_append];exact r1,fun j y hj=> ?_⟩,r2,r4⟩
  by_cases hjl:j<l.length
  ·rw[List.getElem?_append_left hjl] at hj;obtain⟨d,d1,d2⟩:=hx j y hj;refine⟨d,move d1,fun q u hu=> ?_⟩;have:=d2 q u hu;rw[List.getElem?_append_left (List.getElem?_eq_some_iff.1 this).1];exact this
  ·rw[List.getElem?_append_right (by omega)] at hj;have hjm:=(List.getElem?_eq_some_iff.1 hj).1;have hc:cs[j-l.length]?=some (cs[j-l.length]'(by omega)):=List.getElem?_eq_getElem (by omega);refine⟨_,move (cis _ _ y hc hj),fun q u hu=> ?_⟩;have hq:q<K.size:=by rw[←Sb _ (List.getElem_mem (by omega:j-l.length<cs.length))];exact(List.getElem?_eq_some_iff.1 hu).1
   have:=flat_get cs Sb _ _ q hc hq;rw[List.getElem?_append_right (by rw[hxl];have:=Nat.mul_le_mul_right K.size (Nat.le_of_not_lt hjl);omega),hxl,
    show j*K.size+q-l.length*K.size=(j-l.length)*K.size+q by rw[Nat.sub_mul];have:=Nat.mul_le_mul_right K.size (Nat.le_of_not_lt hjl);omega,this]
   exact hu
end Go.Proofs.YtafmbokfkbccaaaGreatDoor
namespace Go.Proofs.YtafmbokfkbccaaaGreatDoor
open Go.RowKit Go.Sort
theorem PZ:∃i z,Tryz.prog.info? 72=some i∧i.zero=some z∧i.size=doK.size∧i.bytes=72∧z.cells.size=doK.size:=⟨Tryz.t72,.agg #[.int .i64 0,.int .i64 0,.string ByteArray.empty,.slice none 0 0,.string ByteArray.empty],by kernel_rfl,by kernel_rfl,by kernel_rfl,by kernel_rfl,by kernel_rfl⟩
structure vH (w0 w:World) (v:Value) (l:List DoD):Prop where
 own:doK.own 72 0 w v l
 far:∀k,v.ownBlock=some k→w0.heap.size≤k
 below:Below w0.heap.size w0 w
theorem vH.nil (w:World):vH w w (.slice none 0 0) []:=⟨doK.iI _ _ _,fun k e=>by simp[Value.ownBlock] at e,Below.refl _ _⟩
theorem vH.later {w0 w w':World} {v:Value} {l:List DoD} (h:vH w0 w v l) (k:Below w.heap.size w w'):vH w0 w' v l:=by
 refine⟨?_,h.far,aj h.below k h.below.size⟩;obtain⟨xs,ho,hx⟩:=h.own;refine⟨xs,⟨ho.1,?_⟩,fun i x hi=> ?_⟩
 ·rcases ho.2 with e|⟨g,cap,cur,rfl,hbg,hg,r⟩
  ·exact Or.inl e
  ·exact Or.inr ⟨g,cap,cur,rfl,hbg,by rw[k.block g (Array.getElem?_eq_some_iff.1 hg).1];exact hg,r⟩
 ·obtain⟨c,c1,c2⟩:=hx i x hi;exact⟨c,doK.kept c1 k.size fun j hj _=>k.block j hj,c2⟩
theorem vH.slice {w0 w:World} {v:Value} {l:List DoD} (h:vH w0 w v l):∃a c,v=.slice a l.length c:=Kind.bO h.own
theorem vH.sl {w0 w:World} {v:Value} {l:List DoD} (h:vH w0 w v l) (hl:l.length≤8796093022208):doK.sl bY w v l:=Kind.bW (Kind.iJ h.own hl)
theorem CQ {w0 w w':World} {o:Option Nat} (h:Below w0.heap.size w0 w) (hg:w.grownBy w' o) (hf:∀k,o=some k→w0.heap.size≤k):Below w0.heap.size w0 w':=
 ⟨hg.os.trans h.os,hg.tape.trans h.tape,hg.output.trans h.output,Nat.le_trans h.size hg.size,fun k hk=>(hg.block k (Nat.lt_of_lt_of_le hk h.size) (fun e=>by have:=hf k e.symm;omega)).trans (h.block k hk)⟩
theorem vH.more {w0 w:World} {v:Value} {l:List DoD} (h:vH w0 w v l) (hl:l.length≤1000) {x:DoD} {s:Value} (hs:vG (fun k=>v.ownBlock≠some k) w s x.fact.2):
  ∃a n c w',(Builtin.append_ #[49,49] 49 #[v,.slice (some ⟨w.heap.size,0,none⟩) 1 1]).run Tryz.prog (w.alloc (.cells #[.int .i64 x.kind,.int .i64 x.n,.string x.fact.1,s,.string x.text] 72))=.ok (.slice a n c) w'∧vH w0 w' (.slice a n c) (l++[x]):=by
 obtain⟨i,z,i1,i2,i3,i4,i5⟩:=PZ;obtain⟨v',w',hrun,hO,hg,_,hk⟩:=Kind.o8 (P:=Tryz.prog) (t:=49) h.own Tryz.underlying49 i1 i2 i3 i4 i5 (by show 0<5;decide) (x:=x) (c:=[.int .i64 x.kind,.int .i64 x.n,.string x.fact.1,s,.string x.text])
  ⟨s,rfl,hs.mono fun k _ hb=>⟨Nat.zero_le _,hb⟩⟩ (by omega) (by simp only[maxLen];omega) (Nat.zero_le _)
 obtain⟨a,c,rfl⟩:=Kind.bO hO;have hsz:=h.below.size;refine⟨a,_,c,w',hrun,hO,fun k e=> ?_,?_⟩
 ·rcases hk k e with e|e
  ·exact h.far k e
  ·omega
 ·exact CQ (aj h.below ((Later.refl w).alloc _).below h.below.size) hg h.far
def Sd (p:DoD×Value):List Value:=[.int .i64 p.1.kind,.int .i64 p.1.n,.string p.1.fact.1,p.2,.string p.1.text]
end Go.Proofs.YtafmbokfkbccaaaGreatDoor
namespace Go.Proofs.YtafmbokfkbccaaaGreatDoor
def Na {α:Type} (c:α→α→Int) (x:α):List α→List α
 |[]=>[x]
 |y::l=>if c x y≤0 then x::y::l else y::Na c x l
def mI {α:Type} (c:α→α→Int):List α→List α
 |[]=>[]
 |x::l=>Na c x (mI c l)
section
variable {α:Type} {c:α→α→Int}
theorem uH (x:α):∀l:List α,(Na c x l).Perm (x::l)
 |[]=>List.Perm.refl _
 |y::l=>by
  unfold Na;split
  ·exact List.Perm.refl _
  ·exact((uH x l).cons y).trans (List.Perm.swap x y l)
theorem uI:∀l:List α,(mI c l).Perm l
 |[]=>List.Perm.refl _
 |x::l=>(uH x _).trans ((uI l).cons x)
theorem uJ (h:Three c) (x:α):∀l:List α,(l.Pairwise fun a b=>c a b≤0)→(Na c x l).Pairwise fun a b=>c a b≤0
 |[],_=>by simp[Na]
 |y::l,hl=>by
  have hl':=List.pairwise_cons.1 hl;unfold Na;split
  ·rename_i hxy;refine List.pairwise_cons.2 ⟨fun z hz=> ?_,hl⟩;rcases List.mem_cons.1 hz with rfl|hz
   ·exact hxy
   ·exact h.le_trans hxy (hl'.1 z hz)
  ·rename_i hxy;refine List.pairwise_cons.2 ⟨fun z hz=> ?_,uJ h x l hl'.2⟩;rcases List.mem_cons.1 ((uH x l).mem_iff.1 hz) with rfl|hz
   ·have:=h.swap z y;omega
   ·exact hl'.1 z hz
theorem pQ (h:Three c):∀l:List α,(mI c l).Pairwise fun a b=>c a b≤0
 |[]=>List.Pairwise.nil
 |x::l=>uJ h x _ (pQ h l)
theorem kU (h:Three c) (l:List α):jE c l=mI c l:=(sG h (uI l) (pQ h l)).symm
end
def eS (a b:ByteArray):Int:=if Op.bytesLess a.data.toList b.data.toList then-1 else if a.data.toList==b.data.toList then 0 else 1
def eL:List ByteArray→List ByteArray→Int
 |[],[]=>0
 |[],_::_=> -1
 |_::_,[]=>1
 |a::x,b::y=>if eS a b≠0 then eS a b else eL x y
def eF (f g:au):Int:=if eS f.1 g.1≠0 then eS f.1 g.1 else if uY f.2.length g.2.length≠0 then uY f.2.length g.2.length else eL f.2 g.2
def eB (a b:aD):Int:=if eS a.1 b.1≠0 then eS a.1 b.1 else eS a.2 b.2
theorem Nb:jf=eS:=by funext a b;unfold jf eS;rw[Lib.toList_data,Lib.toList_data]
theorem Sg:cmpL=eL:=by
 funext x y
 induction x generalizing y with
 |nil=>cases y <;> rfl
 |cons a x ih=>cases y with
  |nil=>rfl
  |cons b y=>simp only[cmpL,eL,Nb,ih]
theorem P5:gF=eF:=by funext f g;unfold gF eF;rw[Nb,Sg]
theorem Ku:xU=eB:=by funext a b;unfold xU eB;rw[Nb]
def Gb (l:List au):List au:=mI eF (fQ l)
theorem qF (l:List au):dP l=Gb l:=by unfold dP Gb;rw[kU aQ,P5]
def allI (fs:List au) (body:List aF):Option (List (List aD)):=match fG (fun _=>fs) 0 body [[]] with
 |none=>none
 |some ms=>some (mI (sH eB) ((ms.filter fun l=> !barredB (fun _=>fs) 0 body l).map (mI eB)))
theorem Nc (fs:List au) (body:List aF):lY (fun _=>fs) body=allI fs body:=by
 have e1:(kK:List aD→List aD)=mI eB:=by funext l;show jE xU l=_;rw[kU gN,Ku]
 unfold lY allI;cases fG (fun _=>fs) 0 body [[]] with
 |none=>rfl
 |some ms=>
  dsimp only;rw[kU iA,e1,show iZ=sH eB from by rw[←Ku]]
def xk (r:aB) (fs:List au):Option (List au):=match allI fs r.body with
 |none=>none
 |some R=>some (Gb (R.filterMap fun l=>aW r.head l))
theorem A8 (r:aB) (fs:List au):gZ r fs=xk r fs:=by
 unfold gZ xk;rw[Nc];cases allI fs r.body with
 |none=>rfl
 |some R=>dsimp only;rw[qF]
def A9 (n:Int) (fs:List au):List aB→List Nat→List au→Int×List au
 |[],_,acc=>(0,Gb acc)
 |_::_,[],acc=>(0,Gb acc)
 |r::p,s::ss,acc=>if(s:Int)=n then
   match xk r fs with
   |none=>(4,[])
   |some x=>if 200<(Gb (acc++x)).length then(5,[]) else A9 n fs p ss (acc++x)
  else A9 n fs p ss acc
theorem yS (n:Int) (fs:List au):∀(p:List aB) (ss:List Nat) (acc:List au),jm n fs p ss acc=A9 n fs p ss acc
 |[],_,acc=>by simp only[jm,A9,qF]
 |_::_,[],acc=>by simp only[jm,A9,qF]
 |r::p,s::ss,acc=>by
  simp only[jm,A9];rw[A8];split
  ·cases xk r fs with
   |none=>rfl
   |some x=>
    dsimp only;rw[qF,yS n fs p ss]
  ·exact yS n fs p ss acc
def IC (p:List aB) (ss:List Nat) (n:Int):Nat→List au→Int×List au
 |0,l=>(0,l)
 |k+1,l=>match A9 n l p ss l with
  |(e,x)=>if e≠0 then(e,[]) else if x.length=l.length then(0,x) else IC p ss n k x
theorem DY (p:List aB) (ss:List Nat) (n:Int):∀(k:Nat) (l:List au),jo p ss n k l=IC p ss n k l
 |0,l=>rfl
 |k+1,l=>by
  unfold jo IC fu;rw[yS];obtain⟨e,x,h⟩:∃e x,A9 n l p ss l=(e,x):=⟨_,_,rfl⟩;rw[h];dsimp only;rw[DY p ss n k x]
def Si (p:List aB) (ss:List Nat):Nat→Nat→List au→Int×List au
 |0,_,l=>(0,l)
 |c+1,n,l=>match IC p ss n 201 l with
  |(e,x)=>if e≠0 then(e,[]) else Si p ss c (n+1) x
theorem Nf (p:List aB) (ss:List Nat):∀(c n:Nat) (l:List au),oO p ss c n l=Si p ss c n l
 |0,n,l=>rfl
 |c+1,n,l=>by
  unfold oO Si;rw[DY];obtain⟨e,x,h⟩:∃e x,IC p ss n 201 l=(e,x):=⟨_,_,rfl⟩;rw[h];dsimp only;rw[Nf p ss c (n+1) x]
end Go.Proofs.YtafmbokfkbccaaaGreatDoor
namespace Go.Proofs.YtafmbokfkbccaaaGreatDoor
open Go.RowKit Go.Sort
def kb (l:Bs):ByteArray:=⟨l.toArray⟩
def Wd : List aB :=
  [⟨⟨false, [116], [(true, [88]), (true, [89])]⟩, [⟨false, [101], [(true, [88]), (true, [89])]⟩]⟩,
   ⟨⟨false, [116], [(true, [88]), (true, [90])]⟩, [⟨false, [116], [(true, [88]), (true, [89])]⟩, ⟨false, [101], [(true, [89]), (true, [90])]⟩]⟩,
   ⟨⟨false, [110], [(true, [88])]⟩, [⟨false, [118], [(true, [88])]⟩, ⟨true, [116], [(false, [97]), (true, [88])]⟩]⟩]
def Wh:List au:=[(kb [101],[kb [97],kb [98]]),(kb [101],[kb [98],kb [99]]),(kb [118],[kb [97]]),(kb [118],[kb [99]])]
def Xu:List au:=[(kb [101],[kb [97],kb [98]]),(kb [101],[kb [98],kb [99]]),(kb [110],[kb [97]]),(kb [116],[kb [97],kb [98]]),(kb [116],[kb [97],kb [99]]),(kb [116],[kb [98],kb [99]]),(kb [118],[kb [97]]),(kb [118],[kb [99]])]
def Xv:Bs:=[116,40,88,44,89,41,32,58,45,32,101,40,88,44,89,41,46,32,116,40,88,44,90,41,32,58,45,32,116,40,88,44,89,41,44,32,101,40,89,44,90,41,46,32,110,40,88,41,32,58,45,32,118,40,88,41,44,32,33,116,40,97,44,88,41,46]
end Go.Proofs.YtafmbokfkbccaaaGreatDoor
