/- DeskRefused: without what is refused the desk comes to the same. Whatever is handed in (each list within the form's own reach), in whatever memory, the listed variables being as the program's text lays them: the call returns true and what was handed in reads as it did. The card ties that to the program's text. -/
import Derived.Test.YtafmbokfkbccaaaGreatDoorJF33
import Derived.Test.YtafmbokfkbccaaaGreatDoorJF41
import Derived.Test.YtafmbokfkbccaaaGreatDoorJF42
import Derived.Test.YtafmbokfkbccaaaGreatDoorJF43
import Derived.Test.YtafmbokfkbccaaaGreatDoorRows
import Derived.Test.YtafmbokfkbccaaaGreatDoorCards
import Derived.Test.YtafmbokfkbccaaaGreatDoorTie
import Derived.SevenTiedAt
namespace Go.Proofs.YtafmbokfkbccaaaGreatDoor
open Go.ChangeShapes Go.WideShapes Go.ChangeAt Go.RowKit
open Go.ChangeMaps (open_string shut_string)
set_option maxRecDepth 100000 in
theorem uW (os:Os) (started:os.Started) (H:Type) (enc:TypeId×Value→H):
  ReturnsInHanded {} Tryz.checked os 10 .any (fun w args=>(Rows.deskRefusedSpec.pre enc Tryz.prog Tryz.f10 [] false w args∧laidMetH Tryz.prog KV w)∧sizedMet enc Tryz.prog Tryz.f10 (OpenSpec.ofChange Rows.deskRefusedSpec) false w args)
   (Rows.deskRefusedSpec.post enc Tryz.prog Tryz.f10 false true false false):=by
 refine Df (C:=Tryz.checked) (X:=fun w _=>laidMetH Tryz.prog KV w) V3 started (by kernel_rfl) Tryz.func10
  (ChangeSpec.witness_shaped (enc:=enc) (C:=Tryz.checked) (os:=os) (X:=fun w _=>laidMetH Tryz.prog KV w) false (World.doorLaid Tryz.prog 1000 os) #[.slice none 0 0] 8 rfl (World.shaped_of_RefB (by kernel_rfl) (by kernel_rfl)) (by kernel_rfl) (by kernel_rfl) (by kernel_rfl) (Jm os _)) ?_
 intro W base args ds gs before hval0 hW hsz0 hsh;have hval:∀(j:Nat) t v,Tryz.f10.params[j]?=some t→args[j]?=some v→Value.okWide Tryz.prog W .any base t v:=hval0;have hsz:(DataW.weightsEach Tryz.prog (Tryz.f10.params.toList++Rows.deskRefusedSpec.plain.varTypes Tryz.prog) (ds++gs)).all (· ≤reachBytes)=true:=hsz0;have hW':=hW;obtain⟨p,q,hA0,hV,rfl,hfz,hnd⟩:=hW;have hA:DataW.TrodAll enc Tryz.prog W 0 (fun _=>true) true Tryz.f10.params.toList args.toList ds p:=hA0;rw[Tryz.params10] at hA hval hsz;obtain⟨v0,vs0,d0,ds0,p0,q0,hargs,rfl,rfl,h0,r0⟩:=trodAll_cons hA;obtain⟨rfl,rfl,rfl⟩:=trodAll_nil r0;obtain rfl:args=#[v0]:=by cases args;simp_all
 obtain⟨rfl,rfl⟩:=trodVars_none hV;clear hA0 hval0 hsz0;simp only[List.append_nil] at hW';have Xb:∀x∈p0,x.block<W.heap.size:=fun x hx=>hW'.lt x (by simp[hx]);obtain⟨l,hl⟩:=NK (hval 0 49 v0 rfl rfl) h0 (Ka hsz (j:=0) rfl rfl);obtain⟨mx,hmx⟩:=NM W hsh;have hmw:1<W.heap.size:=lt_of_cell hmx;refine(Bc fq Qt l v0 W hl mx hmx hmw).mono fun e W' ⟨he,bel⟩=> ?_;subst he;refine⟨_,rfl,_,_,_,[],p0,[],hW',?_,?_,rfl,bel.frame _,fun h=>by cases h⟩
 ·exact trodAll_mk1 (shut_bool Tryz.underlying4 true)
 ·exact trodAll_mk1 (Below.trod DU (by kernel_rfl) (of_decide_eq_true (by kernel_rfl)) h0 bel Xb)
theorem Dh:(Rows.deskRefusedRow.inPlace==Tryz.prog.inPlace 10)=true:=by kernel_rfl
theorem Di:(Rows.deskRefusedRow.unfollowed==Tryz.prog.unfollowed 10)=true:=by kernel_rfl
theorem Dj:(Rows.deskRefusedRow.recurses==Tryz.prog.recurses 10)=true:=by kernel_rfl
theorem Br:(Rows.deskRefusedRow.named==Tryz.prog.varsNamed 10)=true:=by kernel_rfl
theorem Bt:(Rows.deskRefusedRow.lifted==Tryz.prog.liftsFinal)=true:=by kernel_rfl
theorem Bu:(Tryz.prog.make==some Rows.deskRefusedRow.make)=true:=by kernel_rfl
theorem Bv:false=Rows.deskRefusedRow.goesBy Tryz.prog:=by kernel_rfl
theorem rA:Tryz.prog.funcNamed "corollary/corolaw8.DeskRefused" =some 10:=by kernel_rfl
theorem uX:joinedFacts Tryz.prog 10 Tryz.f10 Rows.deskRefusedSpec Rows.deskRefusedRow=true:=
 Jo (by kernel_rfl) DU F5 (by kernel_rfl) (by kernel_rfl) (by kernel_rfl) Dh Di Dj Br (by kernel_rfl) (by kernel_rfl) (by kernel_rfl) (by kernel_rfl) (by kernel_rfl) (by kernel_rfl) Dg Jp Bt Bu (by kernel_rfl) (by kernel_rfl)
theorem yY:Tryz.f10.isInstance Tryz.prog Rows.deskRefusedRow.origin Rows.deskRefusedRow.targs:=of_decide_eq_true (by kernel_rfl)
theorem yZ:Tryz.f10.isWrapper Tryz.prog Rows.deskRefusedRow.wrapper Rows.deskRefusedRow.mainSum:=by unfold Func.isWrapper;first|(rw[if_pos (by decide+kernel)];kernel_rfl)|(rw[if_neg (by decide+kernel)];exact⟨rfl,rfl⟩)
theorem y5:Rows.DeskRefusedSaid:=
 OpenClaim.holds_of_wide 10 Tryz.f10 rfl rfl rfl rfl rfl rfl rfl ⟨rfl,rfl,rfl,rfl,rfl⟩ rfl rfl rfl rfl rfl rA Tryz.func10 uX yY yZ
  (fun os started H enc _=>uW os started H enc)
theorem drefused_holds:Rows.DeskRefusedCardSaid:=
 Claim7.holds_tied_plain_at .later [] [.data,.data,.data] true (true, "e76fd24520ba4795eb7a2cecdf2239fb7aed378c08519b991bb398be843b7320") true
  y5 (fun _ h=>by cases h) (by kernel_rfl) (fun _ h=>by cases h) deskRefused_row_tie rfl ⟨rfl,rfl⟩ NN rfl
  (fun f fn hf hfn=>by
   obtain rfl:f=10:=(Option.some.inj (rA.symm.trans hf)).symm;obtain rfl:fn=Tryz.f10:=(Option.some.inj (Tryz.func10.symm.trans hfn)).symm;exact⟨Qu,fun j t ht=>by
    rw[Tryz.params10] at ht;rcases j with _|j
    ·have h3:t=49:=by simpa using ht.symm
     subst h3;exact(show Tryz.prog.wantsStandIn 49=false by kernel_rfl)
    ·simp at ht⟩)
  Bv
#print axioms drefused_holds
end Go.Proofs.YtafmbokfkbccaaaGreatDoor
