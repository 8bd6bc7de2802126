import Derived.Test.YtafmbokfkbccaaaGreatDoorJF29
import Derived.Test.YtafmbokfkbccaaaGreatDoorJF22
import Derived.Test.YtafmbokfkbccaaaGreatDoorJF28
namespace Go.Proofs.YtafmbokfkbccaaaGreatDoor
open Go.RowKit Go.Sort Go.Maps
def gQ:List aB:=[⟨⟨false,[98],[(true,[88])]⟩,[⟨false,[97],[(true,[88])]⟩]⟩]
def fZ:List au:=[(kb [97],[kb [113]])]
def Lv:List au:=[(kb [97],[kb [113]]),(kb [98],[kb [113]])]
def QF:Bs:=[98,40,88,41,32,58,45,32,97,40,88,41,46]
theorem IE:bB QF=(gQ,0,0):=by kernel_rfl
theorem qG:aG gQ=([0],0,0):=by kernel_rfl
theorem Kv:Up fZ:=by show List.Pairwise _ _;rw[P5];decide+kernel
theorem uK:∀f∈fZ,fA f=0:=by decide+kernel
theorem IG:∀f∈fZ,zH gQ f=true:=by decide+kernel
theorem FM:GoodS gQ fZ:=⟨Kv,fun f hf=>j3.1 (uK f hf),by decide,IG⟩
end Go.Proofs.YtafmbokfkbccaaaGreatDoor
namespace Go.Proofs.YtafmbokfkbccaaaGreatDoor
def QG (pick:Nat→List au) (body:List aF):Option (List (List aD)):=match fG pick 0 body [[]] with
 |none=>none
 |some ms=>some (mI (sH eB) ((ms.filter fun l=> !barredB pick 0 body l).map (mI eB)))
theorem II (pick:Nat→List au) (body:List aF):lY pick body=QG pick body:=by
 have e1:(kK:List aD→List aD)=mI eB:=by funext l;show jE xU l=_;rw[kU gN,Ku]
 unfold lY QG;cases fG pick 0 body [[]] with
 |none=>rfl
 |some ms=>
  dsimp only;rw[kU iA,e1,show iZ=sH eB from by rw[←Ku]]
def atJ (K N:List au) (r:aB):Nat→List aF→List au→Option (List au)
 |_,[],acc=>some acc
 |k,a::l,acc=>if a.no then atJ K N r (k+1) l acc else
  match QG (gW K k N) r.body with
  |none=>none
  |some R=>atJ K N r (k+1) l (acc++R.filterMap fun e=>aW r.head e)
theorem IJ (K N:List au) (r:aB):∀(l:List aF) (k:Nat) (acc:List au),vT K N r k l acc=atJ K N r k l acc
 |[],_,_=>rfl
 |a::l,k,acc=>by
  unfold vT atJ;split
  ·exact IJ K N r l (k+1) acc
  ·rw[II];cases QG (gW K k N) r.body with
   |none=>rfl
   |some R=>exact IJ K N r l (k+1) _
def QH (K N:List au) (r:aB) (acc:List au):Option (List au):=if r.body.all (·.no) then
  match xk r K with
  |none=>none
  |some x=>some (acc++x)
 else atJ K N r 0 r.body acc
theorem Ng (K N:List au) (r:aB) (acc:List au):Bz K N r acc=QH K N r acc:=by
 unfold Bz QH;rw[A8,IJ];split
 ·cases xk r K <;> rfl
 ·rfl
def qX (K N:List au) (st:Int):List aB→List Nat→List au→Option (List au)
 |[],_,acc=>some acc
 |_::_,[],acc=>some acc
 |r::p,s::ss,acc=>if(s:Int)=st then
   match QH K N r acc with
   |none=>none
   |some acc'=>qX K N st p ss acc'
  else qX K N st p ss acc
theorem uL (K N:List au) (st:Int):∀(p:List aB) (ss:List Nat) (acc:List au),dS K N st p ss acc=qX K N st p ss acc
 |[],_,_=>by simp only[dS,qX]
 |_::_,[],_=>by simp only[dS,qX]
 |r::p,s::ss,acc=>by
  simp only[dS,qX];rw[Ng];split
  ·cases QH K N r acc with
   |none=>rfl
   |some x=>exact uL K N st p ss x
  ·exact uL K N st p ss acc
def Kw (p:List aB) (ss:List Nat) (r:gH):Int×gH:=if r.rounds=1000 then(5,dZ) else
 match qX r.known r.fresh r.level p ss [] with
 |none=>(4,dZ)
 |some acc=>if 200<(Gb (r.known++acc)).length then(5,dZ) else
  if Gb (acc.filter fun f=> !inB r.known f)=[] then(0,⟨Gb (r.known++acc),Gb (r.known++acc),r.level+1,r.rounds+1,decide (r.level+1=countP ss)⟩)
  else(0,⟨Gb (r.known++acc),Gb (acc.filter fun f=> !inB r.known f),r.level,r.rounds+1,false⟩)
theorem Ky (p:List aB) (ss:List Nat) (r:gH):jJ p ss r=Kw p ss r:=by
 unfold jJ Kw qb;rw[uL];split
 ·rfl
 ·cases qX r.known r.fresh r.level p ss [] with
  |none=>rfl
  |some acc=>simp only[qF]
def IK (p:List aB) (ss:List Nat):Nat→gH→Int×gH
 |0,r=>(0,r)
 |n+1,r=>if r.done then(0,r) else match Kw p ss r with
  |(e,x)=>if e≠0 then(e,dZ) else IK p ss n x
theorem Ba (p:List aB) (ss:List Nat):∀(n:Nat) (r:gH),ig p ss n r=IK p ss n r
 |0,r=>rfl
 |n+1,r=>by
  unfold ig IK;rw[Ky];split
  ·rfl
  ·obtain⟨e,x,h⟩:∃e x,Kw p ss r=(e,x):=⟨_,_,rfl⟩;rw[h];dsimp only;rw[Ba p ss n x]
end Go.Proofs.YtafmbokfkbccaaaGreatDoor
namespace Go.Proofs.YtafmbokfkbccaaaGreatDoor
open Go.RowKit Go.Sort
theorem QI:pK gQ fZ=0:=by
 have e1:(aG gQ).2.1=0:=by rw[qG]
 unfold pK;rw[if_neg (fun h=>h e1),wR FM]
theorem IL:CF gQ fZ=⟨fZ,fZ,0,0,false⟩:=by
 unfold CF;rw[qG]
 rfl
def og:gH:=⟨Lv,Lv,1,2,true⟩
theorem Lx:ig gQ [0] 9 ⟨fZ,fZ,0,0,false⟩=(0,og):=by rw[Ba];kernel_rfl
theorem Nh:jF gQ ⟨fZ,fZ,0,0,false⟩ 9=(0,og):=by
 unfold jF;rw[if_neg (by rw[←IL,uz QI];simp),if_neg (by simp),qG];exact Lx
theorem Ni:iW gQ fZ=(0,⟨fZ,fZ,0,0,false⟩):=by unfold iW;rw[if_neg (by rw[QI];simp),IL]
theorem IQ:aZ gQ og=0:=by
 have h:=uz QI;obtain⟨h1,h2⟩:=iO h;obtain⟨hp,_,τ,_,hs,_⟩:=iN QI;have e:(aG gQ).1=gQ.map fun r=>τ r.head.name:=by rw[hs]
 have hr:kN gQ (countP (aG gQ).1) og:=by
  have h3:=Lx;rw[←IL,show([0]:List Nat)=(aG gQ).1 by rw[qG]] at h3;rw[e] at h2 h3⊢;exact nQ hp _ 9 h2 h3
 refine nK ?_ hr;have e1:(aG gQ).2.1=0:=by rw[qG]
 unfold pK;rw[if_neg (fun h=>h e1),wR hr.good]
theorem Sj:mG gQ (y7 og)=(0,og):=by
 unfold mG;rw[GH (yO IQ).1,if_neg (by simp),if_neg (by rw[IQ];simp)]
theorem Sk:jU gQ og=(0,y7 og):=by
 unfold jU;rw[if_neg (by rw[IQ];simp)]
def CR:List aF:=[⟨false,[98],[(true,[88])]⟩]
theorem Sl:bK [98,40,88,41]=(CR,0,0):=by kernel_rfl
theorem Wi:pG CR Lv []=0:=by decide+kernel
theorem Wj:qD CR Lv=(0,[[(kb [88],kb [113])]]):=by
 have e:lY (gW Lv (-1) []) CR=some [[(kb [88],kb [113])]]:=by rw[II];kernel_rfl
 unfold qD;rw[if_neg (by rw[Wi];simp),e]
def do8:List DoD:=[⟨1,0,(⟨#[97]⟩,[⟨#[113]⟩]),⟨#[]⟩⟩,⟨2,0,(⟨#[]⟩,[]),bs QF⟩,⟨3,0,(⟨#[]⟩,[]),⟨#[]⟩⟩,⟨4,9,(⟨#[]⟩,[]),⟨#[]⟩⟩,⟨7,0,(⟨#[]⟩,[]),⟨#[]⟩⟩,⟨5,0,(⟨#[]⟩,[]),bs [98,40,88,41]⟩]
def gT:dH:=⟨fZ,gQ,true,og,y7 og⟩
theorem Sm:rO iP (⟨#[97]⟩,[⟨#[113]⟩])=(⟨fZ,[],false,dZ,[]⟩,qC 1):=by
 have h1:fA (⟨#[97]⟩,[⟨#[113]⟩])=0:=uK _ (by simp[fZ,kb]);have h2:dP ([]++[((⟨#[97]⟩,[⟨#[113]⟩]):au)])=fZ:=by rw[qF];decide+kernel
 unfold rO;rw[if_neg (by rw[h1];simp)];show(if 200<(dP ([]++[((⟨#[97]⟩,[⟨#[113]⟩]):au)])).length then _ else(dH.mk (dP ([]++[((⟨#[97]⟩,[⟨#[113]⟩]):au)])) [] false dZ [],qC (dP ([]++[((⟨#[97]⟩,[⟨#[113]⟩]):au)])).length))=_;rw[h2]
 rfl
theorem Sn:rP ⟨fZ,[],false,dZ,[]⟩ (bs QF)=(⟨fZ,gQ,false,dZ,[]⟩,qC 1):=by
 unfold rP;rw[iG,IE];dsimp only;rw[if_neg (by simp),qG]
 rfl
def Um:Prover:=fun _ _ _=>(0,none)
theorem no6:∀x∈do8,x.kind≠6:=by
 intro x hx;simp only[do8,List.mem_cons,List.not_mem_nil,or_false] at hx;rcases hx with rfl|rfl|rfl|rfl|rfl|rfl <;> decide
theorem Sq (φ:Prover):∃l,mZ φ do8=(gT,l,0)∧l.length=6∧(l[5]?.map pV.n)=some 1:=by
 have e1:doP φ iP ⟨1,0,(⟨#[97]⟩,[⟨#[113]⟩]),⟨#[]⟩⟩=(⟨fZ,[],false,dZ,[]⟩,qC 1):=Sm;have e2:doP φ ⟨fZ,[],false,dZ,[]⟩ ⟨2,0,(⟨#[]⟩,[]),bs QF⟩=(⟨fZ,gQ,false,dZ,[]⟩,qC 1):=Sn;have e3:doP φ ⟨fZ,gQ,false,dZ,[]⟩ ⟨3,0,(⟨#[]⟩,[]),⟨#[]⟩⟩=(⟨fZ,gQ,true,⟨fZ,fZ,0,0,false⟩,[]⟩,qC 1):=by
  show ku _ (iW gQ fZ)=_;rw[Ni];rfl
 have e4:doP φ ⟨fZ,gQ,true,⟨fZ,fZ,0,0,false⟩,[]⟩ ⟨4,9,(⟨#[]⟩,[]),⟨#[]⟩⟩=(⟨fZ,gQ,true,og,[]⟩,qC 2):=by
  unfold doP;rw[if_neg (show¬(4:Int)=1 by decide),if_neg (show¬(4:Int)=2 by decide),if_neg (show¬(4:Int)=3 by decide),if_pos rfl];unfold vF;rw[if_neg (by simp)];show ku _ (jF gQ ⟨fZ,fZ,0,0,false⟩ 9)=_;rw[Nh];rfl
 have e5:doP φ ⟨fZ,gQ,true,og,[]⟩ ⟨7,0,(⟨#[]⟩,[]),⟨#[]⟩⟩=(gT,qC (y7 og).length):=by
  unfold doP;rw[if_neg (show¬(7:Int)=1 by decide),if_neg (show¬(7:Int)=2 by decide),if_neg (show¬(7:Int)=3 by decide),if_neg (show¬(7:Int)=4 by decide),if_neg (show¬(7:Int)=5 by decide),if_neg (show¬(7:Int)=6 by decide),if_pos rfl];unfold rQ;rw[if_neg (by simp)];show(if(jU gQ og).1≠0 then _ else(dH.mk fZ gQ true og (jU gQ og).2,qC (jU gQ og).2.length))=_;rw[Sk];rfl
 have e6:doP φ gT ⟨5,0,(⟨#[]⟩,[]),bs [98,40,88,41]⟩=(gT,⟨0,0,1,[[(kb [88],kb [113])]],rM⟩):=by
  show(gT,FI gT (bs [98,40,88,41]))=_;unfold FI;rw[iG,Sl];dsimp only;rw[if_neg (by simp),if_neg (by simp[gT,og])];show(gT,if(qD CR Lv).1≠0 then _ else(pV.mk 0 0 (qD CR Lv).2.length (qD CR Lv).2 rM))=_;rw[Wj];rfl
 refine⟨[qC 1,qC 1,qC 1,qC 2,qC (y7 og).length,⟨0,0,1,[[(kb [88],kb [113])]],rM⟩],?_,rfl,rfl⟩;unfold mZ;rw[if_neg (by simp[do8])];simp only[do8,eG,e1,e2,e3,e4,e5,e6]
end Go.Proofs.YtafmbokfkbccaaaGreatDoor
namespace Go.Proofs.YtafmbokfkbccaaaGreatDoor
open Go.RowKit Go.Sort
set_option maxRecDepth 100000 in
set_option maxHeartbeats 1000000 in
theorem Sr (nm:ByteArray) (a:Option Addr) (n c:Nat) (w:World):
  Calls Tryz.prog 80 #[.string nm,.slice a n c] w fun e w'=>e=.returned (.agg #[.int .i64 1,.int .i64 0,.string nm,.slice a n c,.string ⟨#[]⟩])∧Below w.heap.size w w':=by
 obtain⟨w1,hw1⟩:∃w1,w1=w.alloc (.cells #[.int .i64 0,.int .i64 0,.string ⟨#[]⟩,.slice none 0 0,.string ⟨#[]⟩] 72):=⟨_,rfl⟩;have hL1:Later w w1:=by rw[hw1];exact(Later.refl w).alloc _
 have hr1:w1.heap[w.heap.size]?=some (.cells #[.int .i64 0,.int .i64 0,.string ⟨#[]⟩,.slice none 0 0,.string ⟨#[]⟩] 72 (0,0)):=by rw[hw1];exact heap_alloc_new w _
 obtain⟨q0,q1,q2,q3,q4,⟨f0,f1,f2,f3,f4⟩,hlt⟩:=dJ hr1;have HR:=hide hr1;have HW1:=hide hw1;have HL1:=hide hL1;clear hw1 hr1 hL1
 go_enter Tryz.func80,Tryz.ntmps80
 go_wp2_with (rw[←HW1.out])
 obtain⟨r0,r1,r2,r3,r4⟩:=yN HR.out (.int .i64 1) (.int .i64 0) (.string nm) (.slice a n c) (.string ⟨#[]⟩);exact bodyPost_ret (v:=.agg #[.int .i64 1,.int .i64 0,.string nm,.slice a n c,.string ⟨#[]⟩]) (by simp[results,Tryz.results80,go_sem,r0,r1,r2,r3,r4]) rfl ⟨rfl,Below.gy HL1.out.below (Nat.le_refl _)⟩
theorem P6 {w:World} {b:Nat} {a:Option Addr} {n c:Nat} (h:w.heap[b]?=some (.cells #[.int .i64 1,.int .i64 0,.string ⟨#[97]⟩,.slice a n c,.string ⟨#[]⟩,.int .i64 2,.int .i64 0,.string ⟨#[]⟩,.slice none 0 0,.string ⟨#[98,40,88,41,32,58,45,32,97,40,88,41,46]⟩,.int .i64 3,.int .i64 0,.string ⟨#[]⟩,.slice none 0 0,.string ⟨#[]⟩,.int .i64 4,.int .i64 9,.string ⟨#[]⟩,.slice none 0 0,.string ⟨#[]⟩,.int .i64 7,.int .i64 0,.string ⟨#[]⟩,.slice none 0 0,.string ⟨#[]⟩,.int .i64 5,.int .i64 0,.string ⟨#[]⟩,.slice none 0 0,.string ⟨#[98,40,88,41]⟩] 72 (0,0))) (hs:bsK.sl bY w (.slice a n c) [⟨#[113]⟩]):doK.sl bY w (.slice (some ⟨b,0,none⟩) 6 6) do8:=by
 refine⟨⟨by simp[do8],Nat.le_refl _⟩,_,6,rfl,fun _=>⟨b,0,rfl,trivial,(Array.getElem?_eq_some_iff.1 h).1,fun i x hi=> ?_⟩⟩;have cellOf:∀j,w.cell? ⟨b,j,none⟩=_:=fun j=>cell_of_row w b j _ _ _ h;have hlt:i<6:=(List.getElem?_eq_some_iff.1 hi).1;have nil:bsK.sl bY w (.slice none 0 0) []:=bsK.dh _ _ _ _;have fin:∀(k:Nat) (y:DoD) (s:Value),do8[k]?=some y→bsK.sl bY w s y.fact.2→(∀j u,([.int .i64 y.kind,.int .i64 y.n,.string y.fact.1,s,.string y.text]:List Value)[j]?=some u→w.cell? ⟨b,0+k*5+j,none⟩=some u)→∀x,do8[k]?=some x→∃c,doK.is bY w c x∧∀j u,c[j]?=some u→w.cell? ⟨b,0+k*doK.size+j,none⟩=some u:=fun k y s hy hs' hc x hx=>by
  rw[hy] at hx;cases hx;exact⟨_,⟨s,rfl,AY hs'⟩,hc⟩
 have:i=0∨i=1∨i=2∨i=3∨i=4∨i=5:=by omega
 rcases this with rfl|rfl|rfl|rfl|rfl|rfl
 ·refine fin 0 _ (.slice a n c) rfl hs (fun j u hu=> ?_) x hi;rw[cellOf]
  match j,hu with
  |0,hu|1,hu|2,hu|3,hu|4,hu=>cases hu;rfl
 ·refine fin 1 _ (.slice none 0 0) rfl nil (fun j u hu=> ?_) x hi;rw[cellOf]
  match j,hu with
  |0,hu|1,hu|2,hu|3,hu|4,hu=>cases hu;rfl
 ·refine fin 2 _ (.slice none 0 0) rfl nil (fun j u hu=> ?_) x hi;rw[cellOf]
  match j,hu with
  |0,hu|1,hu|2,hu|3,hu|4,hu=>cases hu;rfl
 ·refine fin 3 _ (.slice none 0 0) rfl nil (fun j u hu=> ?_) x hi;rw[cellOf]
  match j,hu with
  |0,hu|1,hu|2,hu|3,hu|4,hu=>cases hu;rfl
 ·refine fin 4 _ (.slice none 0 0) rfl nil (fun j u hu=> ?_) x hi;rw[cellOf]
  match j,hu with
  |0,hu|1,hu|2,hu|3,hu|4,hu=>cases hu;rfl
 ·refine fin 5 _ (.slice none 0 0) rfl nil (fun j u hu=> ?_) x hi;rw[cellOf]
  match j,hu with
  |0,hu|1,hu|2,hu|3,hu|4,hu=>cases hu;rfl
theorem Sv:5<(y7 og).length:=by decide+kernel
set_option maxRecDepth 100000 in
set_option maxHeartbeats 4000000 in
theorem P7 (w:World) (m:Int) (hm:w.cell? ⟨1,0,none⟩=some (.int .i64 m)) (hmw:1<w.heap.size):Calls Tryz.prog 34 #[] w fun e w'=>e=.returned (.bool true)∧Below w.heap.size w w':=by
 obtain⟨w1,hw1⟩:∃w1,w1=w.alloc (.cells #[.string ⟨#[113]⟩] 9):=⟨_,rfl⟩;have hL1:Later w w1:=by rw[hw1];exact(Later.refl w).alloc _
 have hr1:w1.heap[w.heap.size]?=some (.cells #[.string ⟨#[113]⟩] 9 (0,0)):=by rw[hw1];exact heap_alloc_new w _
 have HT:=hide (Sr ⟨#[97]⟩ (some ⟨w.heap.size,0,none⟩) 1 1 w1);have HW1:=hide hw1;have HR1:=hide hr1;have HL1:=hide hL1;have HM:=hide hm;clear hw1 hr1 hL1 hm
 go_enter Tryz.func34,Tryz.ntmps34
 go_wp2_with (first|(rw[←HW1.out])|fail)
 refine HT.out.mono ?_;rintro e w2 ⟨rfl,hB2⟩;have hlt1:=(Array.getElem?_eq_some_iff.1 HR1.out).1;have hr2:=(hB2.block _ hlt1).trans HR1.out;obtain⟨w3,hw3⟩:∃w3,w3=w2.alloc (.cells #[.int .i64 1,.int .i64 0,.string ⟨#[97]⟩,.slice (some ⟨w.heap.size,0,none⟩) 1 1,.string ⟨#[]⟩,.int .i64 2,.int .i64 0,.string ⟨#[]⟩,.slice none 0 0,.string ⟨#[98,40,88,41,32,58,45,32,97,40,88,41,46]⟩,.int .i64 3,.int .i64 0,.string ⟨#[]⟩,.slice none 0 0,.string ⟨#[]⟩,.int .i64 4,.int .i64 9,.string ⟨#[]⟩,.slice none 0 0,.string ⟨#[]⟩,.int .i64 7,.int .i64 0,.string ⟨#[]⟩,.slice none 0 0,.string ⟨#[]⟩,.int .i64 5,.int .i64 0,.string ⟨#[]⟩,.slice none 0 0,.string ⟨#[98,40,88,41]⟩] 72):=⟨_,rfl⟩;have hL3:Later w2 w3:=by rw[hw3];exact(Later.refl w2).alloc _
 have Un:Below w1.heap.size w1 w3:=aj hB2 hL3.below hB2.size;have hB3:Below w.heap.size w w3:=aj HL1.out.below Un HL1.out.size;have hr3:=(hL3.block (Array.getElem?_eq_some_iff.1 hr2).1).trans hr2;have hs3:bsK.sl bY w3 (.slice (some ⟨w.heap.size,0,none⟩) 1 1) [⟨#[113]⟩]:=by
  refine⟨⟨by simp,Nat.le_refl _⟩,_,1,rfl,fun _=>⟨w.heap.size,0,rfl,trivial,(Array.getElem?_eq_some_iff.1 hr3).1,fun i x hi=> ?_⟩⟩;have h0:i=0:=by have:=(List.getElem?_eq_some_iff.1 hi).1;simp at this;exact this
  subst h0;cases hi;refine⟨_,rfl,fun j u hu=> ?_⟩;have h0:j=0:=by have:=(List.getElem?_eq_some_iff.1 hu).1;simp at this;exact this
  subst h0;cases hu;rw[cell_of_row _ _ _ _ _ _ hr3];rfl
 have hd3:doK.sl bY w3 (.slice (some ⟨w2.heap.size,0,none⟩) 6 6) do8:=P6 (by rw[hw3];exact heap_alloc_new w2 _) hs3;have hz3:=hB3.size;have HP:=hide (M8 Um do8 _ w3 hd3 m (by rw[hB3.cell (p:=⟨1,0,none⟩) hmw];exact HM.out) (by omega) (fun x hx h=>absurd h (no6 x hx)));obtain⟨l8,hp8,hl8,hn8⟩:=Sq Um;rw[hp8] at HP;have HB3:=hide hB3;have HW3:=hide hw3;have HN8:=hide hn8;have HL8:=hide hl8;clear hB2 hr2 hw3 hL3 Un hB3 hr3 hs3 hd3 hp8 hn8 hl8 HT HR1 HW1 HL1 HM;dsimp only at HP
 go_wp2_with (first|(rw[←HW3.out])|fail)
 refine HP.out.mono ?_;rintro e w4 ⟨dv,ov,rfl,⟨tv,rv,kv,nv,sv,rfl,hD1,hD2,hD3,hD4,hD5⟩,hO4,hB4⟩;obtain⟨ta,tc,rfl⟩:=hD1.slice;obtain⟨ra,rc,rfl⟩:=Kind.slice hD2;obtain⟨ka,kc,rfl⟩:=hD3.slice;obtain⟨na,nc,rfl⟩:=hD4.slice;obtain⟨sa,sc,rfl⟩:=Kind.slice hD5;obtain⟨oa,oc,rfl⟩:=Kind.slice hO4;obtain⟨a5,ha5⟩:∃a,l8[5]?=some a:=⟨_,List.getElem?_eq_getElem (by rw[HL8.out];omega)⟩;have hn5:a5.n=1:=by have:=HN8.out;rw[ha5] at this;simpa using this
 obtain⟨ob,oo,_,rfl,hob,⟨_,_,_,rfl,_,_,_⟩,hoc⟩:=Kind.dY hO4 ha5;have o2:w4.cell? ⟨ob,oo+42,none⟩=some (.int .i64 1):=by
  have:=hoc 2 _ rfl;rw[hn5] at this;simpa[Lu,Nat.add_assoc] using this
 obtain⟨w5,hw5⟩:∃w5,w5=w4.alloc (.cells #[.slice ta gT.told.length tc,.slice ra gT.rules.length rc,.bool gT.running,.slice ka gT.run.known.length kc,.slice na gT.run.fresh.length nc,.int .i64 gT.run.level,.int .i64 gT.run.rounds,.bool gT.run.done,.slice sa gT.saved.length sc] 56):=⟨_,rfl⟩;have hL5:Later w4 w5:=by rw[hw5];exact(Later.refl w4).alloc _
 have hr5:w5.heap[w4.heap.size]?=some (.cells #[.slice ta gT.told.length tc,.slice ra gT.rules.length rc,.bool gT.running,.slice ka gT.run.known.length kc,.slice na gT.run.fresh.length nc,.int .i64 gT.run.level,.int .i64 gT.run.rounds,.bool gT.run.done,.slice sa gT.saved.length sc] 56 (0,0)):=by rw[hw5];exact heap_alloc_new w4 _
 have hlo:=Po gQ (y7 og) (.slice ra gT.rules.length rc) (.slice sa gT.saved.length sc) w5 (Kind.aN (Kind.bW hD2) hL5) (dI.of (Kind.aN (Kind.bW hD5) hL5));rw[Sj] at hlo;have HLo:=hide hlo;have AX:=aj hB4 hL5.below hB4.size;have HB5:=hide (aj HB3.out AX HB3.out.size);have HW5:=hide hw5;have HR5:=hide hr5;have o5:w5.cell? ⟨ob,oo+42,none⟩=some (.int .i64 1):=by rw[hL5.cell (p:=⟨ob,oo+42,none⟩) hob];exact o2
 have Wl:ob<w5.heap.size:=Nat.lt_of_lt_of_le hob hL5.size;have Uj:=(Array.getElem?_eq_some_iff.1 hr5).1;have hsl:5<gT.saved.length:=Sv;have hol:l8.length=6:=HL8.out;have HOl:=hide hol;obtain⟨⟨q0,q1,q2,q3,q4,q5,q6,q7,q8⟩,_,_⟩:=iX hr5;clear hD1 hD2 hD3 hD4 hD5 hO4 hoc ha5 hn5 hw5 hL5 hlo AX hB4 o2 hr5 HP HW3 HN8 HL8 hol;generalize gT.saved.length=sn at*;generalize gT.rules.length=rn at*;generalize gT.told.length=tn at*;generalize gT.run.known.length=kn at*;generalize gT.run.fresh.length=nn at*;rw[HOl.out]
 go_wp2_with (first|(rw[←HW5.out])|fail)
 refine HLo.out.mono ?_;rintro e w6 ⟨v6,rfl,⟨k6,n6,rfl,hk6,hn6⟩,hB6⟩;obtain⟨k6a,k6c,rfl⟩:=hk6.slice;obtain⟨n6a,n6c,rfl⟩:=hn6.slice;obtain⟨w7,hw7⟩:∃w7,w7=w6.alloc (.cells #[.slice k6a og.known.length k6c,.slice n6a og.fresh.length n6c,.int .i64 og.level,.int .i64 og.rounds,.bool og.done] 47):=⟨_,rfl⟩;have hL7:Later w6 w7:=by rw[hw7];exact(Later.refl w6).alloc _
 have hr7:w7.heap[w6.heap.size]?=some (.cells #[.slice k6a og.known.length k6c,.slice n6a og.fresh.length n6c,.int .i64 og.level,.int .i64 og.rounds,.bool og.done] 47 (0,0)):=by rw[hw7];exact heap_alloc_new w6 _
 have QJ:=aj hB6 hL7.below hB6.size;have o7:w7.cell? ⟨ob,oo+42,none⟩=some (.int .i64 1):=by rw[QJ.cell (p:=⟨ob,oo+42,none⟩) Wl];exact o5
 have Uo:=(QJ.block _ Uj).trans HR5.out;have s7:=(iX Uo).1.2.2.2.2.2.2.2.2;have d7:=(dJ hr7).2.2.2.2.1;have d7':w7.cell? ⟨w6.heap.size,4,none⟩=some (.bool true):=d7;have HB7:=hide (aj HB5.out QJ HB5.out.size);have HW7:=hide hw7;clear hk6 hn6 hw7 hL7 hr7 QJ Uo hB6 o5 q0 q1 q2 q3 q4 q5 q6 q7 q8 HLo HW5 HR5 d7
 go_wp2_with (first|(rw[←HW7.out])|fail)
 go_ret;exact⟨rfl,HB7.out⟩
end Go.Proofs.YtafmbokfkbccaaaGreatDoor
