/- DeskDone: of what a run knows that is done no rule makes anything more; what no rule makes was told. Whatever is handed in (each list within the form's own reach), in whatever memory, the listed variables being as the program's text lays them: the call returns true and what was handed in reads as it did. The card ties that to the program's text. -/
import Derived.Test.YtafmbokfkbccaaaGreatDoorJN34
import Derived.Test.YtafmbokfkbccaaaGreatDoorJN42
import Derived.Test.YtafmbokfkbccaaaGreatDoorJN43
import Derived.Test.YtafmbokfkbccaaaGreatDoorJN44
import Derived.Test.YtafmbokfkbccaaaGreatDoorRows
import Derived.Test.YtafmbokfkbccaaaGreatDoorCards
import Derived.Test.YtafmbokfkbccaaaGreatDoorTie
import Derived.SevenTiedAt
namespace Go.Proofs.YtafmbokfkbccaaaGreatDoor
open Go.ChangeShapes Go.WideShapes Go.ChangeAt Go.RowKit
open Go.ChangeMaps (open_string shut_string)
set_option maxRecDepth 100000 in
theorem Bu (os:Os) (started:os.Started) (H:Type) (enc:TypeId×Value→H):
  ReturnsInHanded {} Tryz.checked os 9 .any (fun w args=>(Rows.deskDoneSpec.pre enc Tryz.prog Tryz.f9 [] false w args∧laidMetH Tryz.prog KP w)∧sizedMet enc Tryz.prog Tryz.f9 (OpenSpec.ofChange Rows.deskDoneSpec) false w args)
   (Rows.deskDoneSpec.post enc Tryz.prog Tryz.f9 false true false false):=by
 refine CY (C:=Tryz.checked) (X:=fun w _=>laidMetH Tryz.prog KP w) VQ started (by kernel_rfl) Tryz.func9
  (ChangeSpec.witness_shaped (enc:=enc) (C:=Tryz.checked) (os:=os) (X:=fun w _=>laidMetH Tryz.prog KP w) false (World.doorLaid Tryz.prog 1000 os) #[.slice none 0 0] 8 rfl (World.shaped_of_RefB (by kernel_rfl) (by kernel_rfl)) (by kernel_rfl) (by kernel_rfl) (by kernel_rfl) (Jc os _)) ?_
 intro W base args ds gs before hval0 hW hsz0 hsh;have hval:∀(j:Nat) t v,Tryz.f9.params[j]?=some t→args[j]?=some v→Value.okWide Tryz.prog W .any base t v:=hval0;have hsz:(DataW.weightsEach Tryz.prog (Tryz.f9.params.toList++Rows.deskDoneSpec.plain.varTypes Tryz.prog) (ds++gs)).all (· ≤reachBytes)=true:=hsz0;have hW':=hW;obtain⟨p,q,hA0,hV,rfl,hfz,hnd⟩:=hW;have hA:DataW.TrodAll enc Tryz.prog W 0 (fun _=>true) true Tryz.f9.params.toList args.toList ds p:=hA0;rw[Tryz.params9] at hA hval hsz;obtain⟨v0,vs0,d0,ds0,p0,q0,hargs,rfl,rfl,h0,r0⟩:=trodAll_cons hA;obtain⟨rfl,rfl,rfl⟩:=trodAll_nil r0;obtain rfl:args=#[v0]:=by cases args;simp_all
 obtain⟨rfl,rfl⟩:=trodVars_none hV;clear hA0 hval0 hsz0;simp only[List.append_nil] at hW';have WV:∀x∈p0,x.block<W.heap.size:=fun x hx=>hW'.lt x (by simp[hx]);obtain⟨l,hl⟩:=Nz (hval 0 49 v0 rfl rfl) h0 (J6 hsz (j:=0) rfl rfl);obtain⟨mx,hmx⟩:=NA W hsh;have hmw:1<W.heap.size:=lt_of_cell hmx;refine(IE fq Qh l v0 W hl mx hmx hmw).mono fun e W' ⟨he,bel⟩=> ?_;subst he;refine⟨_,rfl,_,_,_,[],p0,[],hW',?_,?_,rfl,bel.frame _,fun h=>by cases h⟩
 ·exact trodAll_mk1 (shut_bool Tryz.underlying4 true)
 ·exact trodAll_mk1 (Below.trod Dz (by kernel_rfl) (of_decide_eq_true (by kernel_rfl)) h0 bel WV)
theorem KQ:(Rows.deskDoneRow.inPlace==Tryz.prog.inPlace 9)=true:=by kernel_rfl
theorem KR:(Rows.deskDoneRow.unfollowed==Tryz.prog.unfollowed 9)=true:=by kernel_rfl
theorem KS:(Rows.deskDoneRow.recurses==Tryz.prog.recurses 9)=true:=by kernel_rfl
theorem Jf:(Rows.deskDoneRow.named==Tryz.prog.varsNamed 9)=true:=by kernel_rfl
theorem Jg:(Rows.deskDoneRow.lifted==Tryz.prog.liftsFinal)=true:=by kernel_rfl
theorem Jh:(Tryz.prog.make==some Rows.deskDoneRow.make)=true:=by kernel_rfl
theorem Ji:false=Rows.deskDoneRow.goesBy Tryz.prog:=by kernel_rfl
theorem Bv:Tryz.prog.funcNamed "corollary/corolaw8.DeskDone" =some 9:=by kernel_rfl
theorem Bw:joinedFacts Tryz.prog 9 Tryz.f9 Rows.deskDoneSpec Rows.deskDoneRow=true:=
 Jd (by kernel_rfl) Dz FJ (by kernel_rfl) (by kernel_rfl) (by kernel_rfl) KQ KR KS Jf (by kernel_rfl) (by kernel_rfl) (by kernel_rfl) (by kernel_rfl) (by kernel_rfl) (by kernel_rfl) CZ Je Jg Jh (by kernel_rfl) (by kernel_rfl)
theorem FK:Tryz.f9.isInstance Tryz.prog Rows.deskDoneRow.origin Rows.deskDoneRow.targs:=of_decide_eq_true (by kernel_rfl)
theorem FM:Tryz.f9.isWrapper Tryz.prog Rows.deskDoneRow.wrapper Rows.deskDoneRow.mainSum:=by unfold Func.isWrapper;first|(rw[if_pos (by decide+kernel)];kernel_rfl)|(rw[if_neg (by decide+kernel)];exact⟨rfl,rfl⟩)
theorem FN:Rows.DeskDoneSaid:=
 OpenClaim.holds_of_wide 9 Tryz.f9 rfl rfl rfl rfl rfl rfl rfl ⟨rfl,rfl,rfl,rfl,rfl⟩ rfl rfl rfl rfl rfl Bv Tryz.func9 Bw FK FM
  (fun os started H enc _=>Bu os started H enc)
theorem ddone_holds:Rows.DeskDoneCardSaid:=
 Claim7.holds_tied_plain_at .later [] [.data,.data,.data] true (true, "e76fd24520ba4795eb7a2cecdf2239fb7aed378c08519b991bb398be843b7320") true
  FN (fun _ h=>by cases h) (by kernel_rfl) (fun _ h=>by cases h) deskDone_row_tie rfl ⟨rfl,rfl⟩ NC rfl
  (fun f fn hf hfn=>by
   obtain rfl:f=9:=(Option.some.inj (Bv.symm.trans hf)).symm;obtain rfl:fn=Tryz.f9:=(Option.some.inj (Tryz.func9.symm.trans hfn)).symm;exact⟨Qi,fun j t ht=>by
    rw[Tryz.params9] at ht;rcases j with _|j
    ·have h3:t=49:=by simpa using ht.symm
     subst h3;exact(show Tryz.prog.wantsStandIn 49=false by kernel_rfl)
    ·simp at ht⟩)
  Ji
#print axioms ddone_holds
end Go.Proofs.YtafmbokfkbccaaaGreatDoor
