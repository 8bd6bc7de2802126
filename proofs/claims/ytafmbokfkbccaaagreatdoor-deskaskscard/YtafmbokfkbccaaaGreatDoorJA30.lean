/- Texts of this claim, one behind the other. -/
import Derived.Test.YtafmbokfkbccaaaGreatDoorJA29
import Derived.Test.YtafmbokfkbccaaaGreatDoorJA22
import Derived.Test.YtafmbokfkbccaaaGreatDoorJA28
namespace Go.Proofs.YtafmbokfkbccaaaGreatDoor
open Go.RowKit Go.Sort Go.Maps
def ruls7:List RuleD:=[⟨⟨false,[98],[(true,[88])]⟩,[⟨false,[97],[(true,[88])]⟩]⟩]
def told7:List FactB:=[(kb [97],[kb [113]])]
def all7:List FactB:=[(kb [97],[kb [113]]),(kb [98],[kb [113]])]
def txt7:Bs:=[98,40,88,41,32,58,45,32,97,40,88,41,46]
theorem told_txt7:toldRule txt7=(ruls7,0,0):=by kernel_rfl
theorem strata7:strataP ruls7=([0],0,0):=by kernel_rfl
theorem up_told7:Up told7:=by show List.Pairwise _ _;rw[eF_eq];decide+kernel
theorem right_told7:∀f∈told7,wrongF f=0:=by decide+kernel
theorem fit_told7:∀f∈told7,fitF ruls7 f=true:=by decide+kernel
theorem good_told7:GoodS ruls7 told7:=⟨up_told7,fun f hf=>wrongF_right.1 (right_told7 f hf),by decide,fit_told7⟩
end Go.Proofs.YtafmbokfkbccaaaGreatDoor
namespace Go.Proofs.YtafmbokfkbccaaaGreatDoor
def allJ (pick:Nat→List FactB) (body:List AtomD):Option (List (List BindD)):=match metGo pick 0 body [[]] with
 |none=>none
 |some ms=>some (isortB (cmpX eB) ((ms.filter fun l=> !barredB pick 0 body l).map (isortB eB)))
theorem allJ_eq (pick:Nat→List FactB) (body:List AtomD):allB pick body=allJ pick body:=by
 have e1:(sortB:List BindD→List BindD)=isortB eB:=by funext l;show sortBy cmpB l=_;rw[sortBy_ins three_cmpB,eB_eq]
 unfold allB allJ
 cases metGo pick 0 body [[]] with
 |none=>rfl
 |some ms=>
  dsimp only
  rw[sortBy_ins three_cmpBs,e1,show cmpBs=cmpX eB from by rw[←eB_eq]]
def atJ (K N:List FactB) (r:RuleD):Nat→List AtomD→List FactB→Option (List FactB)
 |_,[],acc=>some acc
 |k,a::l,acc=>if a.no then atJ K N r (k+1) l acc else
  match allJ (pickB K k N) r.body with
  |none=>none
  |some R=>atJ K N r (k+1) l (acc++R.filterMap fun e=>fillB r.head e)
theorem atJ_eq (K N:List FactB) (r:RuleD):∀(l:List AtomD) (k:Nat) (acc:List FactB),atGo K N r k l acc=atJ K N r k l acc
 |[],_,_=>rfl
 |a::l,k,acc=>by
  unfold atGo atJ
  split
  ·exact atJ_eq K N r l (k+1) acc
  ·rw[allJ_eq]
   cases allJ (pickB K k N) r.body with
   |none=>rfl
   |some R=>exact atJ_eq K N r l (k+1) _
def askJ (K N:List FactB) (r:RuleD) (acc:List FactB):Option (List FactB):=if r.body.all (·.no) then
  match headsI r K with
  |none=>none
  |some x=>some (acc++x)
 else atJ K N r 0 r.body acc
theorem askJ_eq (K N:List FactB) (r:RuleD) (acc:List FactB):askP K N r acc=askJ K N r acc:=by
 unfold askP askJ
 rw[headsI_eq,atJ_eq]
 split
 ·cases headsI r K <;> rfl
 ·rfl
def makesJ (K N:List FactB) (st:Int):List RuleD→List Nat→List FactB→Option (List FactB)
 |[],_,acc=>some acc
 |_::_,[],acc=>some acc
 |r::p,s::ss,acc=>if(s:Int)=st then
   match askJ K N r acc with
   |none=>none
   |some acc'=>makesJ K N st p ss acc'
  else makesJ K N st p ss acc
theorem makesJ_eq (K N:List FactB) (st:Int):∀(p:List RuleD) (ss:List Nat) (acc:List FactB),makesGo K N st p ss acc=makesJ K N st p ss acc
 |[],_,_=>by simp only[makesGo,makesJ]
 |_::_,[],_=>by simp only[makesGo,makesJ]
 |r::p,s::ss,acc=>by
  simp only[makesGo,makesJ]
  rw[askJ_eq]
  split
  ·cases askJ K N r acc with
   |none=>rfl
   |some x=>exact makesJ_eq K N st p ss x
  ·exact makesJ_eq K N st p ss acc
def nextJ (p:List RuleD) (ss:List Nat) (r:RunD):Int×RunD:=if r.rounds=1000 then(5,noRun) else
 match makesJ r.known r.fresh r.level p ss [] with
 |none=>(4,noRun)
 |some acc=>if 200<(setI (r.known++acc)).length then(5,noRun) else
  if setI (acc.filter fun f=> !inB r.known f)=[] then(0,⟨setI (r.known++acc),setI (r.known++acc),r.level+1,r.rounds+1,decide (r.level+1=countP ss)⟩)
  else(0,⟨setI (r.known++acc),setI (acc.filter fun f=> !inB r.known f),r.level,r.rounds+1,false⟩)
theorem nextJ_eq (p:List RuleD) (ss:List Nat) (r:RunD):nextP p ss r=nextJ p ss r:=by
 unfold nextP nextJ newOf
 rw[makesJ_eq]
 split
 ·rfl
 ·cases makesJ r.known r.fresh r.level p ss [] with
  |none=>rfl
  |some acc=>simp only[setI_eq]
def stepsJ (p:List RuleD) (ss:List Nat):Nat→RunD→Int×RunD
 |0,r=>(0,r)
 |n+1,r=>if r.done then(0,r) else match nextJ p ss r with
  |(e,x)=>if e≠0 then(e,noRun) else stepsJ p ss n x
theorem stepsJ_eq (p:List RuleD) (ss:List Nat):∀(n:Nat) (r:RunD),stepsP p ss n r=stepsJ p ss n r
 |0,r=>rfl
 |n+1,r=>by
  unfold stepsP stepsJ
  rw[nextJ_eq]
  split
  ·rfl
  ·obtain⟨e,x,h⟩:∃e x,nextJ p ss r=(e,x):=⟨_,_,rfl⟩
   rw[h]
   dsimp only
   rw[stepsJ_eq p ss n x]
end Go.Proofs.YtafmbokfkbccaaaGreatDoor
namespace Go.Proofs.YtafmbokfkbccaaaGreatDoor
open Go.RowKit Go.Sort
theorem for7:forE ruls7 told7=0:=by
 have e1:(strataP ruls7).2.1=0:=by rw[strata7]
 unfold forE
 rw[if_neg (fun h=>h e1),good_facts good_told7]
theorem begin7:runOf ruls7 told7=⟨told7,told7,0,0,false⟩:=by
 unfold runOf
 rw[strata7]
 rfl
def run8:RunD:=⟨all7,all7,1,2,true⟩
theorem steps8:stepsP ruls7 [0] 9 ⟨told7,told7,0,0,false⟩=(0,run8):=by rw[stepsJ_eq];kernel_rfl
theorem stepsF8:stepsF ruls7 ⟨told7,told7,0,0,false⟩ 9=(0,run8):=by
 unfold stepsF
 rw[if_neg (by rw[←begin7,begin_right for7];simp),if_neg (by simp),strata7]
 exact steps8
theorem beginP8:beginP ruls7 told7=(0,⟨told7,told7,0,0,false⟩):=by unfold beginP;rw[if_neg (by rw[for7];simp),begin7]
theorem wrong8:wrongRunP ruls7 run8=0:=by
 have h:=begin_right for7
 obtain⟨h1,h2⟩:=wrongRun_zero h
 obtain⟨hp,_,τ,_,hs,_⟩:=forE_zero for7
 have e:(strataP ruls7).1=ruls7.map fun r=>τ r.head.name:=by rw[hs]
 have hr:RightN ruls7 (countP (strataP ruls7).1) run8:=by
  have h3:=steps8
  rw[←begin7,show([0]:List Nat)=(strataP ruls7).1 by rw[strata7]] at h3
  rw[e] at h2 h3⊢
  exact steps_right hp _ 9 h2 h3
 refine wrongRun_right ?_ hr
 have e1:(strataP ruls7).2.1=0:=by rw[strata7]
 unfold forE
 rw[if_neg (fun h=>h e1),good_facts hr.good]
theorem load8:loadP ruls7 (wRun run8)=(0,run8):=by
 unfold loadP
 rw[read_wrun (byteR_of wrong8).1,if_neg (by simp),if_neg (by rw[wrong8];simp)]
theorem save8:saveP ruls7 run8=(0,wRun run8):=by
 unfold saveP
 rw[if_neg (by rw[wrong8];simp)]
def body8:List AtomD:=[⟨false,[98],[(true,[88])]⟩]
theorem atom8:toldAtom [98,40,88,41]=(body8,0,0):=by kernel_rfl
theorem err8:errW body8 all7 []=0:=by decide+kernel
theorem all8:allW body8 all7=(0,[[(kb [88],kb [113])]]):=by
 have e:allB (pickB all7 (-1) []) body8=some [[(kb [88],kb [113])]]:=by rw[allJ_eq];kernel_rfl
 unfold allW
 rw[if_neg (by rw[err8];simp),e]
def do8:List DoD:=[⟨1,0,(⟨#[97]⟩,[⟨#[113]⟩]),⟨#[]⟩⟩,⟨2,0,(⟨#[]⟩,[]),bs txt7⟩,⟨3,0,(⟨#[]⟩,[]),⟨#[]⟩⟩,⟨4,9,(⟨#[]⟩,[]),⟨#[]⟩⟩,⟨7,0,(⟨#[]⟩,[]),⟨#[]⟩⟩,⟨5,0,(⟨#[]⟩,[]),bs [98,40,88,41]⟩]
def desk8:DeskD:=⟨told7,ruls7,true,run8,wRun run8⟩
theorem tell8:tellP noDesk (⟨#[97]⟩,[⟨#[113]⟩])=(⟨told7,[],false,noRun,[]⟩,ansN 1):=by
 have h1:wrongF (⟨#[97]⟩,[⟨#[113]⟩])=0:=right_told7 _ (by simp[told7,kb])
 have h2:setF ([]++[((⟨#[97]⟩,[⟨#[113]⟩]):FactB)])=told7:=by rw[setI_eq];decide+kernel
 unfold tellP
 rw[if_neg (by rw[h1];simp)]
 show(if 200<(setF ([]++[((⟨#[97]⟩,[⟨#[113]⟩]):FactB)])).length then _ else(DeskD.mk (setF ([]++[((⟨#[97]⟩,[⟨#[113]⟩]):FactB)])) [] false noRun [],ansN (setF ([]++[((⟨#[97]⟩,[⟨#[113]⟩]):FactB)])).length))=_
 rw[h2]
 rfl
theorem rule8:ruleP ⟨told7,[],false,noRun,[]⟩ (bs txt7)=(⟨told7,ruls7,false,noRun,[]⟩,ansN 1):=by
 unfold ruleP
 rw[raw_bs,told_txt7]
 dsimp only
 rw[if_neg (by simp),strata7]
 rfl
def noPr:Prover:=fun _ _ _=>(0,none)
theorem no6:∀x∈do8,x.kind≠6:=by
 intro x hx
 simp only[do8,List.mem_cons,List.not_mem_nil,or_false] at hx
 rcases hx with rfl|rfl|rfl|rfl|rfl|rfl <;> decide
theorem play8 (φ:Prover):∃l,playP φ do8=(desk8,l,0)∧l.length=6∧(l[5]?.map AnsD.n)=some 1:=by
 have e1:doP φ noDesk ⟨1,0,(⟨#[97]⟩,[⟨#[113]⟩]),⟨#[]⟩⟩=(⟨told7,[],false,noRun,[]⟩,ansN 1):=tell8
 have e2:doP φ ⟨told7,[],false,noRun,[]⟩ ⟨2,0,(⟨#[]⟩,[]),bs txt7⟩=(⟨told7,ruls7,false,noRun,[]⟩,ansN 1):=rule8
 have e3:doP φ ⟨told7,ruls7,false,noRun,[]⟩ ⟨3,0,(⟨#[]⟩,[]),⟨#[]⟩⟩=(⟨told7,ruls7,true,⟨told7,told7,0,0,false⟩,[]⟩,ansN 1):=by
  show runsP _ (beginP ruls7 told7)=_
  rw[beginP8];rfl
 have e4:doP φ ⟨told7,ruls7,true,⟨told7,told7,0,0,false⟩,[]⟩ ⟨4,9,(⟨#[]⟩,[]),⟨#[]⟩⟩=(⟨told7,ruls7,true,run8,[]⟩,ansN 2):=by
  unfold doP
  rw[if_neg (show¬(4:Int)=1 by decide),if_neg (show¬(4:Int)=2 by decide),if_neg (show¬(4:Int)=3 by decide),if_pos rfl]
  unfold stepD
  rw[if_neg (by simp)]
  show runsP _ (stepsF ruls7 ⟨told7,told7,0,0,false⟩ 9)=_
  rw[stepsF8];rfl
 have e5:doP φ ⟨told7,ruls7,true,run8,[]⟩ ⟨7,0,(⟨#[]⟩,[]),⟨#[]⟩⟩=(desk8,ansN (wRun run8).length):=by
  unfold doP
  rw[if_neg (show¬(7:Int)=1 by decide),if_neg (show¬(7:Int)=2 by decide),if_neg (show¬(7:Int)=3 by decide),if_neg (show¬(7:Int)=4 by decide),if_neg (show¬(7:Int)=5 by decide),if_neg (show¬(7:Int)=6 by decide),if_pos rfl]
  unfold saveD
  rw[if_neg (by simp)]
  show(if(saveP ruls7 run8).1≠0 then _ else(DeskD.mk told7 ruls7 true run8 (saveP ruls7 run8).2,ansN (saveP ruls7 run8).2.length))=_
  rw[save8];rfl
 have e6:doP φ desk8 ⟨5,0,(⟨#[]⟩,[]),bs [98,40,88,41]⟩=(desk8,⟨0,0,1,[[(kb [88],kb [113])]],noPrf⟩):=by
  show(desk8,askD desk8 (bs [98,40,88,41]))=_
  unfold askD
  rw[raw_bs,atom8]
  dsimp only
  rw[if_neg (by simp),if_neg (by simp[desk8,run8])]
  show(desk8,if(allW body8 all7).1≠0 then _ else(AnsD.mk 0 0 (allW body8 all7).2.length (allW body8 all7).2 noPrf))=_
  rw[all8];rfl
 refine⟨[ansN 1,ansN 1,ansN 1,ansN 2,ansN (wRun run8).length,⟨0,0,1,[[(kb [88],kb [113])]],noPrf⟩],?_,rfl,rfl⟩
 unfold playP
 rw[if_neg (by simp[do8])]
 simp only[do8,playGo,e1,e2,e3,e4,e5,e6]
end Go.Proofs.YtafmbokfkbccaaaGreatDoor
namespace Go.Proofs.YtafmbokfkbccaaaGreatDoor
open Go.RowKit Go.Sort
set_option maxRecDepth 100000 in
set_option maxHeartbeats 1000000 in
theorem tellA (nm:ByteArray) (a:Option Addr) (n c:Nat) (w:World):
  Calls Tryz.prog 80 #[.string nm,.slice a n c] w fun e w'=>e=.returned (.agg #[.int .i64 1,.int .i64 0,.string nm,.slice a n c,.string ⟨#[]⟩])∧Below w.heap.size w w':=by
 obtain⟨w1,hw1⟩:∃w1,w1=w.alloc (.cells #[.int .i64 0,.int .i64 0,.string ⟨#[]⟩,.slice none 0 0,.string ⟨#[]⟩] 72):=⟨_,rfl⟩
 have hL1:Later w w1:=by rw[hw1];exact(Later.refl w).alloc _
 have hr1:w1.heap[w.heap.size]?=some (.cells #[.int .i64 0,.int .i64 0,.string ⟨#[]⟩,.slice none 0 0,.string ⟨#[]⟩] 72 (0,0)):=by rw[hw1];exact heap_alloc_new w _
 obtain⟨q0,q1,q2,q3,q4,⟨f0,f1,f2,f3,f4⟩,hlt⟩:=row5 hr1
 have HR:=hide hr1
 have HW1:=hide hw1
 have HL1:=hide hL1
 clear hw1 hr1 hL1
 go_enter Tryz.func80,Tryz.ntmps80
 go_wp2_with (rw[←HW1.out])
 obtain⟨r0,r1,r2,r3,r4⟩:=set5 HR.out (.int .i64 1) (.int .i64 0) (.string nm) (.slice a n c) (.string ⟨#[]⟩)
 exact bodyPost_ret (v:=.agg #[.int .i64 1,.int .i64 0,.string nm,.slice a n c,.string ⟨#[]⟩]) (by simp[results,Tryz.results80,go_sem,r0,r1,r2,r3,r4]) rfl ⟨rfl,Below.put5 HL1.out.below (Nat.le_refl _)⟩
theorem row8do {w:World} {b:Nat} {a:Option Addr} {n c:Nat} (h:w.heap[b]?=some (.cells #[.int .i64 1,.int .i64 0,.string ⟨#[97]⟩,.slice a n c,.string ⟨#[]⟩,.int .i64 2,.int .i64 0,.string ⟨#[]⟩,.slice none 0 0,.string ⟨#[98,40,88,41,32,58,45,32,97,40,88,41,46]⟩,.int .i64 3,.int .i64 0,.string ⟨#[]⟩,.slice none 0 0,.string ⟨#[]⟩,.int .i64 4,.int .i64 9,.string ⟨#[]⟩,.slice none 0 0,.string ⟨#[]⟩,.int .i64 7,.int .i64 0,.string ⟨#[]⟩,.slice none 0 0,.string ⟨#[]⟩,.int .i64 5,.int .i64 0,.string ⟨#[]⟩,.slice none 0 0,.string ⟨#[98,40,88,41]⟩] 72 (0,0))) (hs:bsK.sl Anyw w (.slice a n c) [⟨#[113]⟩]):doK.sl Anyw w (.slice (some ⟨b,0,none⟩) 6 6) do8:=by
 refine⟨⟨by simp[do8],Nat.le_refl _⟩,_,6,rfl,fun _=>⟨b,0,rfl,trivial,(Array.getElem?_eq_some_iff.1 h).1,fun i x hi=> ?_⟩⟩
 have cellOf:∀j,w.cell? ⟨b,j,none⟩=_:=fun j=>cell_of_row w b j _ _ _ h
 have hlt:i<6:=(List.getElem?_eq_some_iff.1 hi).1
 have nil:bsK.sl Anyw w (.slice none 0 0) []:=bsK.sl_nil _ _ _ _
 have fin:∀(k:Nat) (y:DoD) (s:Value),do8[k]?=some y→bsK.sl Anyw w s y.fact.2→(∀j u,([.int .i64 y.kind,.int .i64 y.n,.string y.fact.1,s,.string y.text]:List Value)[j]?=some u→w.cell? ⟨b,0+k*5+j,none⟩=some u)→∀x,do8[k]?=some x→∃c,doK.is Anyw w c x∧∀j u,c[j]?=some u→w.cell? ⟨b,0+k*doK.size+j,none⟩=some u:=fun k y s hy hs' hc x hx=>by
  rw[hy] at hx;cases hx
  exact⟨_,⟨s,rfl,bsK_strsB hs'⟩,hc⟩
 have:i=0∨i=1∨i=2∨i=3∨i=4∨i=5:=by omega
 rcases this with rfl|rfl|rfl|rfl|rfl|rfl
 ·refine fin 0 _ (.slice a n c) rfl hs (fun j u hu=> ?_) x hi
  rw[cellOf]
  match j,hu with
  |0,hu|1,hu|2,hu|3,hu|4,hu=>cases hu;rfl
 ·refine fin 1 _ (.slice none 0 0) rfl nil (fun j u hu=> ?_) x hi
  rw[cellOf]
  match j,hu with
  |0,hu|1,hu|2,hu|3,hu|4,hu=>cases hu;rfl
 ·refine fin 2 _ (.slice none 0 0) rfl nil (fun j u hu=> ?_) x hi
  rw[cellOf]
  match j,hu with
  |0,hu|1,hu|2,hu|3,hu|4,hu=>cases hu;rfl
 ·refine fin 3 _ (.slice none 0 0) rfl nil (fun j u hu=> ?_) x hi
  rw[cellOf]
  match j,hu with
  |0,hu|1,hu|2,hu|3,hu|4,hu=>cases hu;rfl
 ·refine fin 4 _ (.slice none 0 0) rfl nil (fun j u hu=> ?_) x hi
  rw[cellOf]
  match j,hu with
  |0,hu|1,hu|2,hu|3,hu|4,hu=>cases hu;rfl
 ·refine fin 5 _ (.slice none 0 0) rfl nil (fun j u hu=> ?_) x hi
  rw[cellOf]
  match j,hu with
  |0,hu|1,hu|2,hu|3,hu|4,hu=>cases hu;rfl
theorem long8:5<(wRun run8).length:=by decide+kernel
set_option maxRecDepth 100000 in
set_option maxHeartbeats 4000000 in
theorem alive8 (w:World) (m:Int) (hm:w.cell? ⟨1,0,none⟩=some (.int .i64 m)) (hmw:1<w.heap.size):Calls Tryz.prog 34 #[] w fun e w'=>e=.returned (.bool true)∧Below w.heap.size w w':=by
 obtain⟨w1,hw1⟩:∃w1,w1=w.alloc (.cells #[.string ⟨#[113]⟩] 9):=⟨_,rfl⟩
 have hL1:Later w w1:=by rw[hw1];exact(Later.refl w).alloc _
 have hr1:w1.heap[w.heap.size]?=some (.cells #[.string ⟨#[113]⟩] 9 (0,0)):=by rw[hw1];exact heap_alloc_new w _
 have HT:=hide (tellA ⟨#[97]⟩ (some ⟨w.heap.size,0,none⟩) 1 1 w1)
 have HW1:=hide hw1
 have HR1:=hide hr1
 have HL1:=hide hL1
 have HM:=hide hm
 clear hw1 hr1 hL1 hm
 go_enter Tryz.func34,Tryz.ntmps34
 go_wp2_with (first|(rw[←HW1.out])|fail)
 refine HT.out.mono ?_
 rintro e w2 ⟨rfl,hB2⟩
 have hlt1:=(Array.getElem?_eq_some_iff.1 HR1.out).1
 have hr2:=(hB2.block _ hlt1).trans HR1.out
 obtain⟨w3,hw3⟩:∃w3,w3=w2.alloc (.cells #[.int .i64 1,.int .i64 0,.string ⟨#[97]⟩,.slice (some ⟨w.heap.size,0,none⟩) 1 1,.string ⟨#[]⟩,.int .i64 2,.int .i64 0,.string ⟨#[]⟩,.slice none 0 0,.string ⟨#[98,40,88,41,32,58,45,32,97,40,88,41,46]⟩,.int .i64 3,.int .i64 0,.string ⟨#[]⟩,.slice none 0 0,.string ⟨#[]⟩,.int .i64 4,.int .i64 9,.string ⟨#[]⟩,.slice none 0 0,.string ⟨#[]⟩,.int .i64 7,.int .i64 0,.string ⟨#[]⟩,.slice none 0 0,.string ⟨#[]⟩,.int .i64 5,.int .i64 0,.string ⟨#[]⟩,.slice none 0 0,.string ⟨#[98,40,88,41]⟩] 72):=⟨_,rfl⟩
 have hL3:Later w2 w3:=by rw[hw3];exact(Later.refl w2).alloc _
 have hB23:Below w1.heap.size w1 w3:=below_trans hB2 hL3.below hB2.size
 have hB3:Below w.heap.size w w3:=below_trans HL1.out.below hB23 HL1.out.size
 have hr3:=(hL3.block (Array.getElem?_eq_some_iff.1 hr2).1).trans hr2
 have hs3:bsK.sl Anyw w3 (.slice (some ⟨w.heap.size,0,none⟩) 1 1) [⟨#[113]⟩]:=by
  refine⟨⟨by simp,Nat.le_refl _⟩,_,1,rfl,fun _=>⟨w.heap.size,0,rfl,trivial,(Array.getElem?_eq_some_iff.1 hr3).1,fun i x hi=> ?_⟩⟩
  have h0:i=0:=by have:=(List.getElem?_eq_some_iff.1 hi).1;simp at this;exact this
  subst h0
  cases hi
  refine⟨_,rfl,fun j u hu=> ?_⟩
  have h0:j=0:=by have:=(List.getElem?_eq_some_iff.1 hu).1;simp at this;exact this
  subst h0
  cases hu
  rw[cell_of_row _ _ _ _ _ _ hr3];rfl
 have hd3:doK.sl Anyw w3 (.slice (some ⟨w2.heap.size,0,none⟩) 6 6) do8:=row8do (by rw[hw3];exact heap_alloc_new w2 _) hs3
 have hz3:=hB3.size
 have HP:=hide (playC noPr do8 _ w3 hd3 m (by rw[hB3.cell (p:=⟨1,0,none⟩) hmw];exact HM.out) (by omega) (fun x hx h=>absurd h (no6 x hx)))
 obtain⟨l8,hp8,hl8,hn8⟩:=play8 noPr
 rw[hp8] at HP
 have HB3:=hide hB3
 have HW3:=hide hw3
 have HN8:=hide hn8
 have HL8:=hide hl8
 clear hB2 hr2 hw3 hL3 hB23 hB3 hr3 hs3 hd3 hp8 hn8 hl8 HT HR1 HW1 HL1 HM
 dsimp only at HP
 go_wp2_with (first|(rw[←HW3.out])|fail)
 refine HP.out.mono ?_
 rintro e w4 ⟨dv,ov,rfl,⟨tv,rv,kv,nv,sv,rfl,hD1,hD2,hD3,hD4,hD5⟩,hO4,hB4⟩
 obtain⟨ta,tc,rfl⟩:=hD1.slice
 obtain⟨ra,rc,rfl⟩:=Kind.slice hD2
 obtain⟨ka,kc,rfl⟩:=hD3.slice
 obtain⟨na,nc,rfl⟩:=hD4.slice
 obtain⟨sa,sc,rfl⟩:=Kind.slice hD5
 obtain⟨oa,oc,rfl⟩:=Kind.slice hO4
 obtain⟨a5,ha5⟩:∃a,l8[5]?=some a:=⟨_,List.getElem?_eq_getElem (by rw[HL8.out];omega)⟩
 have hn5:a5.n=1:=by have:=HN8.out;rw[ha5] at this;simpa using this
 obtain⟨ob,oo,_,rfl,hob,⟨_,_,_,rfl,_,_,_⟩,hoc⟩:=Kind.sl_at hO4 ha5
 have o2:w4.cell? ⟨ob,oo+42,none⟩=some (.int .i64 1):=by
  have:=hoc 2 _ rfl
  rw[hn5] at this
  simpa[ansK,Nat.add_assoc] using this
 obtain⟨w5,hw5⟩:∃w5,w5=w4.alloc (.cells #[.slice ta desk8.told.length tc,.slice ra desk8.rules.length rc,.bool desk8.running,.slice ka desk8.run.known.length kc,.slice na desk8.run.fresh.length nc,.int .i64 desk8.run.level,.int .i64 desk8.run.rounds,.bool desk8.run.done,.slice sa desk8.saved.length sc] 56):=⟨_,rfl⟩
 have hL5:Later w4 w5:=by rw[hw5];exact(Later.refl w4).alloc _
 have hr5:w5.heap[w4.heap.size]?=some (.cells #[.slice ta desk8.told.length tc,.slice ra desk8.rules.length rc,.bool desk8.running,.slice ka desk8.run.known.length kc,.slice na desk8.run.fresh.length nc,.int .i64 desk8.run.level,.int .i64 desk8.run.rounds,.bool desk8.run.done,.slice sa desk8.saved.length sc] 56 (0,0)):=by rw[hw5];exact heap_alloc_new w4 _
 have hlo:=loadC ruls7 (wRun run8) (.slice ra desk8.rules.length rc) (.slice sa desk8.saved.length sc) w5 (Kind.sl_later (Kind.sl_any hD2) hL5) (LongB.of (Kind.sl_later (Kind.sl_any hD5) hL5))
 rw[load8] at hlo
 have HLo:=hide hlo
 have hB35:=below_trans hB4 hL5.below hB4.size
 have HB5:=hide (below_trans HB3.out hB35 HB3.out.size)
 have HW5:=hide hw5
 have HR5:=hide hr5
 have o5:w5.cell? ⟨ob,oo+42,none⟩=some (.int .i64 1):=by rw[hL5.cell (p:=⟨ob,oo+42,none⟩) hob];exact o2
 have hob5:ob<w5.heap.size:=Nat.lt_of_lt_of_le hob hL5.size
 have hlt5:=(Array.getElem?_eq_some_iff.1 hr5).1
 have hsl:5<desk8.saved.length:=long8
 have hol:l8.length=6:=HL8.out
 have HOl:=hide hol
 obtain⟨⟨q0,q1,q2,q3,q4,q5,q6,q7,q8⟩,_,_⟩:=row9 hr5
 clear hD1 hD2 hD3 hD4 hD5 hO4 hoc ha5 hn5 hw5 hL5 hlo hB35 hB4 o2 hr5 HP HW3 HN8 HL8 hol
 generalize desk8.saved.length=sn at*
 generalize desk8.rules.length=rn at*
 generalize desk8.told.length=tn at*
 generalize desk8.run.known.length=kn at*
 generalize desk8.run.fresh.length=nn at*
 rw[HOl.out]
 go_wp2_with (first|(rw[←HW5.out])|fail)
 refine HLo.out.mono ?_
 rintro e w6 ⟨v6,rfl,⟨k6,n6,rfl,hk6,hn6⟩,hB6⟩
 obtain⟨k6a,k6c,rfl⟩:=hk6.slice
 obtain⟨n6a,n6c,rfl⟩:=hn6.slice
 obtain⟨w7,hw7⟩:∃w7,w7=w6.alloc (.cells #[.slice k6a run8.known.length k6c,.slice n6a run8.fresh.length n6c,.int .i64 run8.level,.int .i64 run8.rounds,.bool run8.done] 47):=⟨_,rfl⟩
 have hL7:Later w6 w7:=by rw[hw7];exact(Later.refl w6).alloc _
 have hr7:w7.heap[w6.heap.size]?=some (.cells #[.slice k6a run8.known.length k6c,.slice n6a run8.fresh.length n6c,.int .i64 run8.level,.int .i64 run8.rounds,.bool run8.done] 47 (0,0)):=by rw[hw7];exact heap_alloc_new w6 _
 have hB57:=below_trans hB6 hL7.below hB6.size
 have o7:w7.cell? ⟨ob,oo+42,none⟩=some (.int .i64 1):=by rw[hB57.cell (p:=⟨ob,oo+42,none⟩) hob5];exact o5
 have hr57:=(hB57.block _ hlt5).trans HR5.out
 have s7:=(row9 hr57).1.2.2.2.2.2.2.2.2
 have d7:=(row5 hr7).2.2.2.2.1
 have d7':w7.cell? ⟨w6.heap.size,4,none⟩=some (.bool true):=d7
 have HB7:=hide (below_trans HB5.out hB57 HB5.out.size)
 have HW7:=hide hw7
 clear hk6 hn6 hw7 hL7 hr7 hB57 hr57 hB6 o5 q0 q1 q2 q3 q4 q5 q6 q7 q8 HLo HW5 HR5 d7
 go_wp2_with (first|(rw[←HW7.out])|fail)
 go_ret
 exact⟨rfl,HB7.out⟩
end Go.Proofs.YtafmbokfkbccaaaGreatDoor
