import Derived.Test.YtafmbokfkbccaaaGreatDoorJN29
import Derived.Test.YtafmbokfkbccaaaGreatDoorJN22
import Derived.Test.YtafmbokfkbccaaaGreatDoorJN6
namespace Go.Proofs.YtafmbokfkbccaaaGreatDoor
def Qv (pick:Nat→List au) (body:List aF):Option (List (List aD)):=match fF pick 0 body [[]] with
 |none=>none
 |some ms=>some (mM (sM eB) ((ms.filter fun l=> !barredB pick 0 body l).map (mM eB)))
theorem Ik (pick:Nat→List au) (body:List aF):lX pick body=Qv pick body:=by
 have e1:(kI:List aD→List aD)=mM eB:=by funext l;show jI xX l=_;rw[kR gN,Kn]
 unfold lX Qv;cases fF pick 0 body [[]] with
 |none=>rfl
 |some ms=>
  dsimp only;rw[kR iy,e1,show iY=sM eB from by rw[←Kn]]
def atJ (K N:List au) (r:aA):Nat→List aF→List au→Option (List au)
 |_,[],acc=>some acc
 |k,a::l,acc=>if a.no then atJ K N r (k+1) l acc else
  match Qv (gG K k N) r.body with
  |none=>none
  |some R=>atJ K N r (k+1) l (acc++R.filterMap fun e=>aV r.head e)
theorem Il (K N:List au) (r:aA):∀(l:List aF) (k:Nat) (acc:List au),vV K N r k l acc=atJ K N r k l acc
 |[],_,_=>rfl
 |a::l,k,acc=>by
  unfold vV atJ;split
  ·exact Il K N r l (k+1) acc
  ·rw[Ik];cases Qv (gG K k N) r.body with
   |none=>rfl
   |some R=>exact Il K N r l (k+1) _
def Qw (K N:List au) (r:aA) (acc:List au):Option (List au):=if r.body.all (·.no) then
  match xw r K with
  |none=>none
  |some x=>some (acc++x)
 else atJ K N r 0 r.body acc
theorem M9 (K N:List au) (r:aA) (acc:List au):BA K N r acc=Qw K N r acc:=by
 unfold BA Qw;rw[A9,Il];split
 ·cases xw r K <;> rfl
 ·rfl
def qZ (K N:List au) (st:Int):List aA→List Nat→List au→Option (List au)
 |[],_,acc=>some acc
 |_::_,[],acc=>some acc
 |r::p,s::ss,acc=>if(s:Int)=st then
   match Qw K N r acc with
   |none=>none
   |some acc'=>qZ K N st p ss acc'
  else qZ K N st p ss acc
theorem uO (K N:List au) (st:Int):∀(p:List aA) (ss:List Nat) (acc:List au),dV K N st p ss acc=qZ K N st p ss acc
 |[],_,_=>by simp only[dV,qZ]
 |_::_,[],_=>by simp only[dV,qZ]
 |r::p,s::ss,acc=>by
  simp only[dV,qZ];rw[M9];split
  ·cases Qw K N r acc with
   |none=>rfl
   |some x=>exact uO K N st p ss x
  ·exact uO K N st p ss acc
def Kr (p:List aA) (ss:List Nat) (r:fG):Int×fG:=if r.rounds=1000 then(5,dZ) else
 match qZ r.known r.fresh r.level p ss [] with
 |none=>(4,dZ)
 |some acc=>if 200<(FW (r.known++acc)).length then(5,dZ) else
  if FW (acc.filter fun f=> !inB r.known f)=[] then(0,⟨FW (r.known++acc),FW (r.known++acc),r.level+1,r.rounds+1,decide (r.level+1=countP ss)⟩)
  else(0,⟨FW (r.known++acc),FW (acc.filter fun f=> !inB r.known f),r.level,r.rounds+1,false⟩)
theorem Kt (p:List aA) (ss:List Nat) (r:fG):iQ p ss r=Kr p ss r:=by
 unfold iQ Kr qd;rw[uO];split
 ·rfl
 ·cases qZ r.known r.fresh r.level p ss [] with
  |none=>rfl
  |some acc=>simp only[qJ]
def Im (p:List aA) (ss:List Nat):Nat→fG→Int×fG
 |0,r=>(0,r)
 |n+1,r=>if r.done then(0,r) else match Kr p ss r with
  |(e,x)=>if e≠0 then(e,dZ) else Im p ss n x
theorem Bb (p:List aA) (ss:List Nat):∀(n:Nat) (r:fG),eU p ss n r=Im p ss n r
 |0,r=>rfl
 |n+1,r=>by
  unfold eU Im;rw[Kt];split
  ·rfl
  ·obtain⟨e,x,h⟩:∃e x,Kr p ss r=(e,x):=⟨_,_,rfl⟩;rw[h];dsimp only;rw[Bb p ss n x]
end Go.Proofs.YtafmbokfkbccaaaGreatDoor
namespace Go.Proofs.YtafmbokfkbccaaaGreatDoor
open Go.RowKit Go.Sort
theorem Qx:oH gQ fZ=0:=by
 have e1:(aG gQ).2.1=0:=by rw[qK]
 unfold oH;rw[if_neg (fun h=>h e1),wU Fh]
theorem Io:vG gQ fZ=⟨fZ,fZ,0,0,false⟩:=by
 unfold vG;rw[qK]
 rfl
def ow:fG:=⟨Ls,Ls,1,2,true⟩
theorem Lu:eU gQ [0] 9 ⟨fZ,fZ,0,0,false⟩=(0,ow):=by rw[Bb];kernel_rfl
theorem Na:jw gQ ⟨fZ,fZ,0,0,false⟩ 9=(0,ow):=by
 unfold jw;rw[if_neg (by rw[←Io,uG Qx];simp),if_neg (by simp),qK];exact Lu
theorem Nb:iN gQ fZ=(0,⟨fZ,fZ,0,0,false⟩):=by unfold iN;rw[if_neg (by rw[Qx];simp),Io]
theorem Ip:aX gQ ow=0:=by
 have h:=uG Qx;obtain⟨h1,h2⟩:=iM h;obtain⟨hp,_,τ,_,hs,_⟩:=gZ Qx;have e:(aG gQ).1=gQ.map fun r=>τ r.head.name:=by rw[hs]
 have hr:jQ gQ (countP (aG gQ).1) ow:=by
  have h3:=Lu;rw[←Io,show([0]:List Nat)=(aG gQ).1 by rw[qK]] at h3;rw[e] at h2 h3⊢;exact lq hp _ 9 h2 h3
 refine nO ?_ hr;have e1:(aG gQ).2.1=0:=by rw[qK]
 unfold oH;rw[if_neg (fun h=>h e1),wU hr.good]
theorem R4:lI gQ (vk ow)=(0,ow):=by
 unfold lI;rw[zQ (r9 Ip).1,if_neg (by simp),if_neg (by rw[Ip];simp)]
theorem R5:jF gQ ow=(0,vk ow):=by
 unfold jF;rw[if_neg (by rw[Ip];simp)]
def CJ:List aF:=[⟨false,[98],[(true,[88])]⟩]
theorem R6:bJ [98,40,88,41]=(CJ,0,0):=by kernel_rfl
theorem V3:pJ CJ Ls []=0:=by decide+kernel
theorem V4:qH CJ Ls=(0,[[(kb [88],kb [113])]]):=by
 have e:lX (gG Ls (-1) []) CJ=some [[(kb [88],kb [113])]]:=by rw[Ik];kernel_rfl
 unfold qH;rw[if_neg (by rw[V3];simp),e]
def do8:List DoD:=[⟨1,0,(⟨#[97]⟩,[⟨#[113]⟩]),⟨#[]⟩⟩,⟨2,0,(⟨#[]⟩,[]),bs Qu⟩,⟨3,0,(⟨#[]⟩,[]),⟨#[]⟩⟩,⟨4,9,(⟨#[]⟩,[]),⟨#[]⟩⟩,⟨7,0,(⟨#[]⟩,[]),⟨#[]⟩⟩,⟨5,0,(⟨#[]⟩,[]),bs [98,40,88,41]⟩]
def gT:dD:=⟨fZ,gQ,true,ow,vk ow⟩
theorem R7:rP jy (⟨#[97]⟩,[⟨#[113]⟩])=(⟨fZ,[],false,dZ,[]⟩,qG 1):=by
 have h1:fA (⟨#[97]⟩,[⟨#[113]⟩])=0:=uN _ (by simp[fZ,kb]);have h2:dK ([]++[((⟨#[97]⟩,[⟨#[113]⟩]):au)])=fZ:=by rw[qJ];decide+kernel
 unfold rP;rw[if_neg (by rw[h1];simp)];show(if 200<(dK ([]++[((⟨#[97]⟩,[⟨#[113]⟩]):au)])).length then _ else(dD.mk (dK ([]++[((⟨#[97]⟩,[⟨#[113]⟩]):au)])) [] false dZ [],qG (dK ([]++[((⟨#[97]⟩,[⟨#[113]⟩]):au)])).length))=_;rw[h2]
 rfl
theorem R8:rQ ⟨fZ,[],false,dZ,[]⟩ (bs Qu)=(⟨fZ,gQ,false,dZ,[]⟩,qG 1):=by
 unfold rQ;rw[iD,Ii];dsimp only;rw[if_neg (by simp),qK]
 rfl
def Uf:Prover:=fun _ _ _=>(0,none)
theorem no6:∀x∈do8,x.kind≠6:=by
 intro x hx;simp only[do8,List.mem_cons,List.not_mem_nil,or_false] at hx;rcases hx with rfl|rfl|rfl|rfl|rfl|rfl <;> decide
theorem R9 (φ:Prover):∃l,pQ φ do8=(gT,l,0)∧l.length=6∧(l[5]?.map rM.n)=some 1:=by
 have e1:doP φ jy ⟨1,0,(⟨#[97]⟩,[⟨#[113]⟩]),⟨#[]⟩⟩=(⟨fZ,[],false,dZ,[]⟩,qG 1):=R7;have e2:doP φ ⟨fZ,[],false,dZ,[]⟩ ⟨2,0,(⟨#[]⟩,[]),bs Qu⟩=(⟨fZ,gQ,false,dZ,[]⟩,qG 1):=R8;have e3:doP φ ⟨fZ,gQ,false,dZ,[]⟩ ⟨3,0,(⟨#[]⟩,[]),⟨#[]⟩⟩=(⟨fZ,gQ,true,⟨fZ,fZ,0,0,false⟩,[]⟩,qG 1):=by
  show kP _ (iN gQ fZ)=_;rw[Nb];rfl
 have e4:doP φ ⟨fZ,gQ,true,⟨fZ,fZ,0,0,false⟩,[]⟩ ⟨4,9,(⟨#[]⟩,[]),⟨#[]⟩⟩=(⟨fZ,gQ,true,ow,[]⟩,qG 2):=by
  unfold doP;rw[if_neg (show¬(4:Int)=1 by decide),if_neg (show¬(4:Int)=2 by decide),if_neg (show¬(4:Int)=3 by decide),if_pos rfl];unfold vI;rw[if_neg (by simp)];show kP _ (jw gQ ⟨fZ,fZ,0,0,false⟩ 9)=_;rw[Na];rfl
 have e5:doP φ ⟨fZ,gQ,true,ow,[]⟩ ⟨7,0,(⟨#[]⟩,[]),⟨#[]⟩⟩=(gT,qG (vk ow).length):=by
  unfold doP;rw[if_neg (show¬(7:Int)=1 by decide),if_neg (show¬(7:Int)=2 by decide),if_neg (show¬(7:Int)=3 by decide),if_neg (show¬(7:Int)=4 by decide),if_neg (show¬(7:Int)=5 by decide),if_neg (show¬(7:Int)=6 by decide),if_pos rfl];unfold rR;rw[if_neg (by simp)];show(if(jF gQ ow).1≠0 then _ else(dD.mk fZ gQ true ow (jF gQ ow).2,qG (jF gQ ow).2.length))=_;rw[R5];rfl
 have e6:doP φ gT ⟨5,0,(⟨#[]⟩,[]),bs [98,40,88,41]⟩=(gT,⟨0,0,1,[[(kb [88],kb [113])]],rO⟩):=by
  show(gT,Fa gT (bs [98,40,88,41]))=_;unfold Fa;rw[iD,R6];dsimp only;rw[if_neg (by simp),if_neg (by simp[gT,ow])];show(gT,if(qH CJ Ls).1≠0 then _ else(rM.mk 0 0 (qH CJ Ls).2.length (qH CJ Ls).2 rO))=_;rw[V4];rfl
 refine⟨[qG 1,qG 1,qG 1,qG 2,qG (vk ow).length,⟨0,0,1,[[(kb [88],kb [113])]],rO⟩],?_,rfl,rfl⟩;unfold pQ;rw[if_neg (by simp[do8])];simp only[do8,ig,e1,e2,e3,e4,e5,e6]
end Go.Proofs.YtafmbokfkbccaaaGreatDoor
namespace Go.Proofs.YtafmbokfkbccaaaGreatDoor
open Go.RowKit Go.Sort
set_option maxRecDepth 100000 in
set_option maxHeartbeats 1000000 in
theorem Sb (nm:ByteArray) (a:Option Addr) (n c:Nat) (w:World):
  Calls Tryz.prog 80 #[.string nm,.slice a n c] w fun e w'=>e=.returned (.agg #[.int .i64 1,.int .i64 0,.string nm,.slice a n c,.string ⟨#[]⟩])∧Below w.heap.size w w':=by
 obtain⟨w1,hw1⟩:∃w1,w1=w.alloc (.cells #[.int .i64 0,.int .i64 0,.string ⟨#[]⟩,.slice none 0 0,.string ⟨#[]⟩] 72):=⟨_,rfl⟩;have hL1:Later w w1:=by rw[hw1];exact(Later.refl w).alloc _
 have hr1:w1.heap[w.heap.size]?=some (.cells #[.int .i64 0,.int .i64 0,.string ⟨#[]⟩,.slice none 0 0,.string ⟨#[]⟩] 72 (0,0)):=by rw[hw1];exact heap_alloc_new w _
 obtain⟨q0,q1,q2,q3,q4,⟨f0,f1,f2,f3,f4⟩,hlt⟩:=dR hr1;have HR:=hide hr1;have HW1:=hide hw1;have HL1:=hide hL1;clear hw1 hr1 hL1
 go_enter Tryz.func80,Tryz.ntmps80
 go_wp2_with (rw[←HW1.out])
 obtain⟨r0,r1,r2,r3,r4⟩:=yR HR.out (.int .i64 1) (.int .i64 0) (.string nm) (.slice a n c) (.string ⟨#[]⟩);exact bodyPost_ret (v:=.agg #[.int .i64 1,.int .i64 0,.string nm,.slice a n c,.string ⟨#[]⟩]) (by simp[results,Tryz.results80,go_sem,r0,r1,r2,r3,r4]) rfl ⟨rfl,Below.gD HL1.out.below (Nat.le_refl _)⟩
theorem PE {w:World} {b:Nat} {a:Option Addr} {n c:Nat} (h:w.heap[b]?=some (.cells #[.int .i64 1,.int .i64 0,.string ⟨#[97]⟩,.slice a n c,.string ⟨#[]⟩,.int .i64 2,.int .i64 0,.string ⟨#[]⟩,.slice none 0 0,.string ⟨#[98,40,88,41,32,58,45,32,97,40,88,41,46]⟩,.int .i64 3,.int .i64 0,.string ⟨#[]⟩,.slice none 0 0,.string ⟨#[]⟩,.int .i64 4,.int .i64 9,.string ⟨#[]⟩,.slice none 0 0,.string ⟨#[]⟩,.int .i64 7,.int .i64 0,.string ⟨#[]⟩,.slice none 0 0,.string ⟨#[]⟩,.int .i64 5,.int .i64 0,.string ⟨#[]⟩,.slice none 0 0,.string ⟨#[98,40,88,41]⟩] 72 (0,0))) (hs:bsK.sl bZ w (.slice a n c) [⟨#[113]⟩]):doK.sl bZ w (.slice (some ⟨b,0,none⟩) 6 6) do8:=by
 refine⟨⟨by simp[do8],Nat.le_refl _⟩,_,6,rfl,fun _=>⟨b,0,rfl,trivial,(Array.getElem?_eq_some_iff.1 h).1,fun i x hi=> ?_⟩⟩;have cellOf:∀j,w.cell? ⟨b,j,none⟩=_:=fun j=>cell_of_row w b j _ _ _ h;have hlt:i<6:=(List.getElem?_eq_some_iff.1 hi).1;have nil:bsK.sl bZ w (.slice none 0 0) []:=bsK.dw _ _ _ _;have fin:∀(k:Nat) (y:DoD) (s:Value),do8[k]?=some y→bsK.sl bZ w s y.fact.2→(∀j u,([.int .i64 y.kind,.int .i64 y.n,.string y.fact.1,s,.string y.text]:List Value)[j]?=some u→w.cell? ⟨b,0+k*5+j,none⟩=some u)→∀x,do8[k]?=some x→∃c,doK.is bZ w c x∧∀j u,c[j]?=some u→w.cell? ⟨b,0+k*doK.size+j,none⟩=some u:=fun k y s hy hs' hc x hx=>by
  rw[hy] at hx;cases hx;exact⟨_,⟨s,rfl,A8 hs'⟩,hc⟩
 have:i=0∨i=1∨i=2∨i=3∨i=4∨i=5:=by omega
 rcases this with rfl|rfl|rfl|rfl|rfl|rfl
 ·refine fin 0 _ (.slice a n c) rfl hs (fun j u hu=> ?_) x hi;rw[cellOf]
  match j,hu with
  |0,hu|1,hu|2,hu|3,hu|4,hu=>cases hu;rfl
 ·refine fin 1 _ (.slice none 0 0) rfl nil (fun j u hu=> ?_) x hi;rw[cellOf]
  match j,hu with
  |0,hu|1,hu|2,hu|3,hu|4,hu=>cases hu;rfl
 ·refine fin 2 _ (.slice none 0 0) rfl nil (fun j u hu=> ?_) x hi;rw[cellOf]
  match j,hu with
  |0,hu|1,hu|2,hu|3,hu|4,hu=>cases hu;rfl
 ·refine fin 3 _ (.slice none 0 0) rfl nil (fun j u hu=> ?_) x hi;rw[cellOf]
  match j,hu with
  |0,hu|1,hu|2,hu|3,hu|4,hu=>cases hu;rfl
 ·refine fin 4 _ (.slice none 0 0) rfl nil (fun j u hu=> ?_) x hi;rw[cellOf]
  match j,hu with
  |0,hu|1,hu|2,hu|3,hu|4,hu=>cases hu;rfl
 ·refine fin 5 _ (.slice none 0 0) rfl nil (fun j u hu=> ?_) x hi;rw[cellOf]
  match j,hu with
  |0,hu|1,hu|2,hu|3,hu|4,hu=>cases hu;rfl
theorem Sc:5<(vk ow).length:=by decide+kernel
set_option maxRecDepth 100000 in
set_option maxHeartbeats 4000000 in
theorem PI (w:World) (m:Int) (hm:w.cell? ⟨1,0,none⟩=some (.int .i64 m)) (hmw:1<w.heap.size):Calls Tryz.prog 34 #[] w fun e w'=>e=.returned (.bool true)∧Below w.heap.size w w':=by
 obtain⟨w1,hw1⟩:∃w1,w1=w.alloc (.cells #[.string ⟨#[113]⟩] 9):=⟨_,rfl⟩;have hL1:Later w w1:=by rw[hw1];exact(Later.refl w).alloc _
 have hr1:w1.heap[w.heap.size]?=some (.cells #[.string ⟨#[113]⟩] 9 (0,0)):=by rw[hw1];exact heap_alloc_new w _
 have HT:=hide (Sb ⟨#[97]⟩ (some ⟨w.heap.size,0,none⟩) 1 1 w1);have HW1:=hide hw1;have HR1:=hide hr1;have HL1:=hide hL1;have HM:=hide hm;clear hw1 hr1 hL1 hm
 go_enter Tryz.func34,Tryz.ntmps34
 go_wp2_with (first|(rw[←HW1.out])|fail)
 refine HT.out.mono ?_;rintro e w2 ⟨rfl,hB2⟩;have hlt1:=(Array.getElem?_eq_some_iff.1 HR1.out).1;have hr2:=(hB2.block _ hlt1).trans HR1.out;obtain⟨w3,hw3⟩:∃w3,w3=w2.alloc (.cells #[.int .i64 1,.int .i64 0,.string ⟨#[97]⟩,.slice (some ⟨w.heap.size,0,none⟩) 1 1,.string ⟨#[]⟩,.int .i64 2,.int .i64 0,.string ⟨#[]⟩,.slice none 0 0,.string ⟨#[98,40,88,41,32,58,45,32,97,40,88,41,46]⟩,.int .i64 3,.int .i64 0,.string ⟨#[]⟩,.slice none 0 0,.string ⟨#[]⟩,.int .i64 4,.int .i64 9,.string ⟨#[]⟩,.slice none 0 0,.string ⟨#[]⟩,.int .i64 7,.int .i64 0,.string ⟨#[]⟩,.slice none 0 0,.string ⟨#[]⟩,.int .i64 5,.int .i64 0,.string ⟨#[]⟩,.slice none 0 0,.string ⟨#[98,40,88,41]⟩] 72):=⟨_,rfl⟩;have hL3:Later w2 w3:=by rw[hw3];exact(Later.refl w2).alloc _
 have Ug:Below w1.heap.size w1 w3:=aj hB2 hL3.below hB2.size;have hB3:Below w.heap.size w w3:=aj HL1.out.below Ug HL1.out.size;have hr3:=(hL3.block (Array.getElem?_eq_some_iff.1 hr2).1).trans hr2;have hs3:bsK.sl bZ w3 (.slice (some ⟨w.heap.size,0,none⟩) 1 1) [⟨#[113]⟩]:=by
  refine⟨⟨by simp,Nat.le_refl _⟩,_,1,rfl,fun _=>⟨w.heap.size,0,rfl,trivial,(Array.getElem?_eq_some_iff.1 hr3).1,fun i x hi=> ?_⟩⟩;have h0:i=0:=by have:=(List.getElem?_eq_some_iff.1 hi).1;simp at this;exact this
  subst h0;cases hi;refine⟨_,rfl,fun j u hu=> ?_⟩;have h0:j=0:=by have:=(List.getElem?_eq_some_iff.1 hu).1;simp at this;exact this
  subst h0;cases hu;rw[cell_of_row _ _ _ _ _ _ hr3];rfl
 have hd3:doK.sl bZ w3 (.slice (some ⟨w2.heap.size,0,none⟩) 6 6) do8:=PE (by rw[hw3];exact heap_alloc_new w2 _) hs3;have hz3:=hB3.size;have HP:=hide (Pz Uf do8 _ w3 hd3 m (by rw[hB3.cell (p:=⟨1,0,none⟩) hmw];exact HM.out) (by omega) (fun x hx h=>absurd h (no6 x hx)));obtain⟨l8,hp8,hl8,hn8⟩:=R9 Uf;rw[hp8] at HP;have HB3:=hide hB3;have HW3:=hide hw3;have HN8:=hide hn8;have HL8:=hide hl8;clear hB2 hr2 hw3 hL3 Ug hB3 hr3 hs3 hd3 hp8 hn8 hl8 HT HR1 HW1 HL1 HM;dsimp only at HP
 go_wp2_with (first|(rw[←HW3.out])|fail)
 refine HP.out.mono ?_;rintro e w4 ⟨dv,ov,rfl,⟨tv,rv,kv,nv,sv,rfl,hD1,hD2,hD3,hD4,hD5⟩,hO4,hB4⟩;obtain⟨ta,tc,rfl⟩:=hD1.slice;obtain⟨ra,rc,rfl⟩:=Kind.slice hD2;obtain⟨ka,kc,rfl⟩:=hD3.slice;obtain⟨na,nc,rfl⟩:=hD4.slice;obtain⟨sa,sc,rfl⟩:=Kind.slice hD5;obtain⟨oa,oc,rfl⟩:=Kind.slice hO4;obtain⟨a5,ha5⟩:∃a,l8[5]?=some a:=⟨_,List.getElem?_eq_getElem (by rw[HL8.out];omega)⟩;have hn5:a5.n=1:=by have:=HN8.out;rw[ha5] at this;simpa using this
 obtain⟨ob,oo,_,rfl,hob,⟨_,_,_,rfl,_,_,_⟩,hoc⟩:=Kind.fC hO4 ha5;have o2:w4.cell? ⟨ob,oo+42,none⟩=some (.int .i64 1):=by
  have:=hoc 2 _ rfl;rw[hn5] at this;simpa[Lr,Nat.add_assoc] using this
 obtain⟨w5,hw5⟩:∃w5,w5=w4.alloc (.cells #[.slice ta gT.told.length tc,.slice ra gT.rules.length rc,.bool gT.running,.slice ka gT.run.known.length kc,.slice na gT.run.fresh.length nc,.int .i64 gT.run.level,.int .i64 gT.run.rounds,.bool gT.run.done,.slice sa gT.saved.length sc] 56):=⟨_,rfl⟩;have hL5:Later w4 w5:=by rw[hw5];exact(Later.refl w4).alloc _
 have hr5:w5.heap[w4.heap.size]?=some (.cells #[.slice ta gT.told.length tc,.slice ra gT.rules.length rc,.bool gT.running,.slice ka gT.run.known.length kc,.slice na gT.run.fresh.length nc,.int .i64 gT.run.level,.int .i64 gT.run.rounds,.bool gT.run.done,.slice sa gT.saved.length sc] 56 (0,0)):=by rw[hw5];exact heap_alloc_new w4 _
 have hlo:=O7 gQ (vk ow) (.slice ra gT.rules.length rc) (.slice sa gT.saved.length sc) w5 (Kind.aQ (Kind.dz hD2) hL5) (dQ.of (Kind.aQ (Kind.dz hD5) hL5));rw[R4] at hlo;have HLo:=hide hlo;have FV:=aj hB4 hL5.below hB4.size;have HB5:=hide (aj HB3.out FV HB3.out.size);have HW5:=hide hw5;have HR5:=hide hr5;have o5:w5.cell? ⟨ob,oo+42,none⟩=some (.int .i64 1):=by rw[hL5.cell (p:=⟨ob,oo+42,none⟩) hob];exact o2
 have V5:ob<w5.heap.size:=Nat.lt_of_lt_of_le hob hL5.size;have Uc:=(Array.getElem?_eq_some_iff.1 hr5).1;have hsl:5<gT.saved.length:=Sc;have hol:l8.length=6:=HL8.out;have HOl:=hide hol;obtain⟨⟨q0,q1,q2,q3,q4,q5,q6,q7,q8⟩,_,_⟩:=jd hr5;clear hD1 hD2 hD3 hD4 hD5 hO4 hoc ha5 hn5 hw5 hL5 hlo FV hB4 o2 hr5 HP HW3 HN8 HL8 hol;generalize gT.saved.length=sn at*;generalize gT.rules.length=rn at*;generalize gT.told.length=tn at*;generalize gT.run.known.length=kn at*;generalize gT.run.fresh.length=nn at*;rw[HOl.out]
 go_wp2_with (first|(rw[←HW5.out])|fail)
 refine HLo.out.mono ?_;rintro e w6 ⟨v6,rfl,⟨k6,n6,rfl,hk6,hn6⟩,hB6⟩;obtain⟨k6a,k6c,rfl⟩:=hk6.slice;obtain⟨n6a,n6c,rfl⟩:=hn6.slice;obtain⟨w7,hw7⟩:∃w7,w7=w6.alloc (.cells #[.slice k6a ow.known.length k6c,.slice n6a ow.fresh.length n6c,.int .i64 ow.level,.int .i64 ow.rounds,.bool ow.done] 47):=⟨_,rfl⟩;have hL7:Later w6 w7:=by rw[hw7];exact(Later.refl w6).alloc _
 have hr7:w7.heap[w6.heap.size]?=some (.cells #[.slice k6a ow.known.length k6c,.slice n6a ow.fresh.length n6c,.int .i64 ow.level,.int .i64 ow.rounds,.bool ow.done] 47 (0,0)):=by rw[hw7];exact heap_alloc_new w6 _
 have Qy:=aj hB6 hL7.below hB6.size;have o7:w7.cell? ⟨ob,oo+42,none⟩=some (.int .i64 1):=by rw[Qy.cell (p:=⟨ob,oo+42,none⟩) V5];exact o5
 have Uh:=(Qy.block _ Uc).trans HR5.out;have s7:=(jd Uh).1.2.2.2.2.2.2.2.2;have d7:=(dR hr7).2.2.2.2.1;have d7':w7.cell? ⟨w6.heap.size,4,none⟩=some (.bool true):=d7;have HB7:=hide (aj HB5.out Qy HB5.out.size);have HW7:=hide hw7;clear hk6 hn6 hw7 hL7 hr7 Qy Uh hB6 o5 q0 q1 q2 q3 q4 q5 q6 q7 q8 HLo HW5 HR5 d7
 go_wp2_with (first|(rw[←HW7.out])|fail)
 go_ret;exact⟨rfl,HB7.out⟩
end Go.Proofs.YtafmbokfkbccaaaGreatDoor
namespace Go.Proofs.YtafmbokfkbccaaaGreatDoor
open Go.RowKit Go.Sort
end Go.Proofs.YtafmbokfkbccaaaGreatDoor
