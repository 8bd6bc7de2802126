import Derived.Test.YtafmbokfkbccaaaGreatDoorJD31
import Derived.Test.YtafmbokfkbccaaaGreatDoorJD23
import Derived.Test.YtafmbokfkbccaaaGreatDoorJD13
import Derived.Test.YtafmbokfkbccaaaGreatDoorJD28
import Derived.Test.YtafmbokfkbccaaaGreatDoorJD20
namespace Go.Proofs.YtafmbokfkbccaaaGreatDoor
open Go.RowKit Go.Sort
theorem for7:forE ruls7 told7=0:=by
 have e1:(strataP ruls7).2.1=0:=by rw[strata7]
 unfold forE;rw[if_neg (fun h=>h e1),good_facts good_told7]
theorem begin7:runOf ruls7 told7=⟨told7,told7,0,0,false⟩:=by
 unfold runOf;rw[strata7]
 rfl
def run8:RunD:=⟨all7,all7,1,2,true⟩
theorem steps8:stepsP ruls7 [0] 9 ⟨told7,told7,0,0,false⟩=(0,run8):=by rw[stepsJ_eq];kernel_rfl
theorem stepsF8:stepsF ruls7 ⟨told7,told7,0,0,false⟩ 9=(0,run8):=by
 unfold stepsF;rw[if_neg (by rw[←begin7,begin_right for7];simp),if_neg (by simp),strata7];exact steps8
theorem beginP8:beginP ruls7 told7=(0,⟨told7,told7,0,0,false⟩):=by unfold beginP;rw[if_neg (by rw[for7];simp),begin7]
theorem wrong8:wrongRunP ruls7 run8=0:=by
 have h:=begin_right for7;obtain⟨h1,h2⟩:=wrongRun_zero h;obtain⟨hp,_,τ,_,hs,_⟩:=forE_zero for7;have e:(strataP ruls7).1=ruls7.map fun r=>τ r.head.name:=by rw[hs]
 have hr:RightN ruls7 (countP (strataP ruls7).1) run8:=by
  have h3:=steps8;rw[←begin7,show([0]:List Nat)=(strataP ruls7).1 by rw[strata7]] at h3;rw[e] at h2 h3⊢;exact steps_right hp _ 9 h2 h3
 refine wrongRun_right ?_ hr;have e1:(strataP ruls7).2.1=0:=by rw[strata7]
 unfold forE;rw[if_neg (fun h=>h e1),good_facts hr.good]
theorem load8:loadP ruls7 (wRun run8)=(0,run8):=by
 unfold loadP;rw[read_wrun (byteR_of wrong8).1,if_neg (by simp),if_neg (by rw[wrong8];simp)]
theorem save8:saveP ruls7 run8=(0,wRun run8):=by
 unfold saveP;rw[if_neg (by rw[wrong8];simp)]
def body8:List AtomD:=[⟨false,[98],[(true,[88])]⟩]
theorem atom8:toldAtom [98,40,88,41]=(body8,0,0):=by kernel_rfl
theorem err8:errW body8 all7 []=0:=by decide+kernel
theorem all8:allW body8 all7=(0,[[(kb [88],kb [113])]]):=by
 have e:allB (pickB all7 (-1) []) body8=some [[(kb [88],kb [113])]]:=by rw[allJ_eq];kernel_rfl
 unfold allW;rw[if_neg (by rw[err8];simp),e]
def do8:List DoD:=[⟨1,0,(⟨#[97]⟩,[⟨#[113]⟩]),⟨#[]⟩⟩,⟨2,0,(⟨#[]⟩,[]),bs txt7⟩,⟨3,0,(⟨#[]⟩,[]),⟨#[]⟩⟩,⟨4,9,(⟨#[]⟩,[]),⟨#[]⟩⟩,⟨7,0,(⟨#[]⟩,[]),⟨#[]⟩⟩,⟨5,0,(⟨#[]⟩,[]),bs [98,40,88,41]⟩]
def desk8:DeskD:=⟨told7,ruls7,true,run8,wRun run8⟩
theorem tell8:tellP noDesk (⟨#[97]⟩,[⟨#[113]⟩])=(⟨told7,[],false,noRun,[]⟩,ansN 1):=by
 have h1:wrongF (⟨#[97]⟩,[⟨#[113]⟩])=0:=right_told7 _ (by simp[told7,kb]);have h2:setF ([]++[((⟨#[97]⟩,[⟨#[113]⟩]):FactB)])=told7:=by rw[setI_eq];decide+kernel
 unfold tellP;rw[if_neg (by rw[h1];simp)];show(if 200<(setF ([]++[((⟨#[97]⟩,[⟨#[113]⟩]):FactB)])).length then _ else(DeskD.mk (setF ([]++[((⟨#[97]⟩,[⟨#[113]⟩]):FactB)])) [] false noRun [],ansN (setF ([]++[((⟨#[97]⟩,[⟨#[113]⟩]):FactB)])).length))=_;rw[h2]
 rfl
theorem rule8:ruleP ⟨told7,[],false,noRun,[]⟩ (bs txt7)=(⟨told7,ruls7,false,noRun,[]⟩,ansN 1):=by
 unfold ruleP;rw[raw_bs,told_txt7];dsimp only;rw[if_neg (by simp),strata7]
 rfl
def noPr:Prover:=fun _ _ _=>(0,none)
theorem no6:∀x∈do8,x.kind≠6:=by
 intro x hx;simp only[do8,List.mem_cons,List.not_mem_nil,or_false] at hx;rcases hx with rfl|rfl|rfl|rfl|rfl|rfl <;> decide
theorem play8 (φ:Prover):∃l,playP φ do8=(desk8,l,0)∧l.length=6∧(l[5]?.map AnsD.n)=some 1:=by
 have e1:doP φ noDesk ⟨1,0,(⟨#[97]⟩,[⟨#[113]⟩]),⟨#[]⟩⟩=(⟨told7,[],false,noRun,[]⟩,ansN 1):=tell8;have e2:doP φ ⟨told7,[],false,noRun,[]⟩ ⟨2,0,(⟨#[]⟩,[]),bs txt7⟩=(⟨told7,ruls7,false,noRun,[]⟩,ansN 1):=rule8;have e3:doP φ ⟨told7,ruls7,false,noRun,[]⟩ ⟨3,0,(⟨#[]⟩,[]),⟨#[]⟩⟩=(⟨told7,ruls7,true,⟨told7,told7,0,0,false⟩,[]⟩,ansN 1):=by
  show runsP _ (beginP ruls7 told7)=_;rw[beginP8];rfl
 have e4:doP φ ⟨told7,ruls7,true,⟨told7,told7,0,0,false⟩,[]⟩ ⟨4,9,(⟨#[]⟩,[]),⟨#[]⟩⟩=(⟨told7,ruls7,true,run8,[]⟩,ansN 2):=by
  unfold doP;rw[if_neg (show¬(4:Int)=1 by decide),if_neg (show¬(4:Int)=2 by decide),if_neg (show¬(4:Int)=3 by decide),if_pos rfl];unfold stepD;rw[if_neg (by simp)];show runsP _ (stepsF ruls7 ⟨told7,told7,0,0,false⟩ 9)=_;rw[stepsF8];rfl
 have e5:doP φ ⟨told7,ruls7,true,run8,[]⟩ ⟨7,0,(⟨#[]⟩,[]),⟨#[]⟩⟩=(desk8,ansN (wRun run8).length):=by
  unfold doP;rw[if_neg (show¬(7:Int)=1 by decide),if_neg (show¬(7:Int)=2 by decide),if_neg (show¬(7:Int)=3 by decide),if_neg (show¬(7:Int)=4 by decide),if_neg (show¬(7:Int)=5 by decide),if_neg (show¬(7:Int)=6 by decide),if_pos rfl];unfold saveD;rw[if_neg (by simp)];show(if(saveP ruls7 run8).1≠0 then _ else(DeskD.mk told7 ruls7 true run8 (saveP ruls7 run8).2,ansN (saveP ruls7 run8).2.length))=_;rw[save8];rfl
 have e6:doP φ desk8 ⟨5,0,(⟨#[]⟩,[]),bs [98,40,88,41]⟩=(desk8,⟨0,0,1,[[(kb [88],kb [113])]],noPrf⟩):=by
  show(desk8,askD desk8 (bs [98,40,88,41]))=_;unfold askD;rw[raw_bs,atom8];dsimp only;rw[if_neg (by simp),if_neg (by simp[desk8,run8])];show(desk8,if(allW body8 all7).1≠0 then _ else(AnsD.mk 0 0 (allW body8 all7).2.length (allW body8 all7).2 noPrf))=_;rw[all8];rfl
 refine⟨[ansN 1,ansN 1,ansN 1,ansN 2,ansN (wRun run8).length,⟨0,0,1,[[(kb [88],kb [113])]],noPrf⟩],?_,rfl,rfl⟩;unfold playP;rw[if_neg (by simp[do8])];simp only[do8,playGo,e1,e2,e3,e4,e5,e6]
end Go.Proofs.YtafmbokfkbccaaaGreatDoor
namespace Go.Proofs.YtafmbokfkbccaaaGreatDoor
open Go.RowKit Go.Sort
end Go.Proofs.YtafmbokfkbccaaaGreatDoor
namespace Go.Proofs.YtafmbokfkbccaaaGreatDoor
open Go.RowKit Go.Sort
end Go.Proofs.YtafmbokfkbccaaaGreatDoor
namespace Go.Proofs.YtafmbokfkbccaaaGreatDoor
open Go.RowKit Go.Sort Go.Maps
def ruls6 : List RuleD :=
  [⟨⟨false, [116], [(true, [88]), (true, [89])]⟩, [⟨false, [101], [(true, [88]), (true, [89])]⟩]⟩,
   ⟨⟨false, [116], [(true, [88]), (true, [90])]⟩, [⟨false, [116], [(true, [88]), (true, [89])]⟩, ⟨false, [101], [(true, [89]), (true, [90])]⟩]⟩]
def told6:List FactB:=[(kb [101],[kb [97],kb [98]])]
def all6:List FactB:=[(kb [101],[kb [97],kb [98]]),(kb [116],[kb [97],kb [98]])]
def txt6:Bs:=[116,40,88,44,89,41,32,58,45,32,101,40,88,44,89,41,46,32,116,40,88,44,90,41,32,58,45,32,116,40,88,44,89,41,44,32,101,40,89,44,90,41,46]
def run6:RunD:=⟨all6,all6,1,2,true⟩
end Go.Proofs.YtafmbokfkbccaaaGreatDoor
