/- DeskAsks: of a run that is done, whatever was done ahead, a body is so as it is of what that knows; ahead of that it is said that it is too soon. Whatever is handed in (each list within the form's own reach), in whatever memory, the listed variables being as the program's text lays them: the call returns true and what was handed in reads as it did. The card ties that to the program's text. -/
import Derived.Test.YtafmbokfkbccaaaGreatDoorJA32
import Derived.Test.YtafmbokfkbccaaaGreatDoorJA41
import Derived.Test.YtafmbokfkbccaaaGreatDoorJA42
import Derived.Test.YtafmbokfkbccaaaGreatDoorRows
import Derived.Test.YtafmbokfkbccaaaGreatDoorCards
import Derived.Test.YtafmbokfkbccaaaGreatDoorTie
import Derived.SevenTiedAt
namespace Go.Proofs.YtafmbokfkbccaaaGreatDoor
open Go.ChangeShapes Go.WideShapes Go.ChangeAt Go.RowKit
open Go.ChangeMaps (open_string shut_string)
set_option maxRecDepth 100000 in
theorem Bf (os:Os) (started:os.Started) (H:Type) (enc:TypeId×Value→H):
  ReturnsInHanded {} Tryz.checked os 8 .any (fun w args=>(Rows.deskAsksSpec.pre enc Tryz.prog Tryz.f8 [] false w args∧laidMetH Tryz.prog KD w)∧sizedMet enc Tryz.prog Tryz.f8 (OpenSpec.ofChange Rows.deskAsksSpec) false w args)
   (Rows.deskAsksSpec.post enc Tryz.prog Tryz.f8 false true false false):=by
 refine CR (C:=Tryz.checked) (X:=fun w _=>laidMetH Tryz.prog KD w) VN started (by kernel_rfl) Tryz.func8
  (ChangeSpec.witness_shaped (enc:=enc) (C:=Tryz.checked) (os:=os) (X:=fun w _=>laidMetH Tryz.prog KD w) false (World.doorLaid Tryz.prog 1000 os) #[.slice none 0 0,.string ByteArray.empty] 8 rfl (World.shaped_of_RefB (by kernel_rfl) (by kernel_rfl)) (by kernel_rfl) (by kernel_rfl) (by kernel_rfl) (IX os _)) ?_
 intro W base args ds gs before hval0 hW hsz0 hsh;have hval:∀(j:Nat) t v,Tryz.f8.params[j]?=some t→args[j]?=some v→Value.okWide Tryz.prog W .any base t v:=hval0;have hsz:(DataW.weightsEach Tryz.prog (Tryz.f8.params.toList++Rows.deskAsksSpec.plain.varTypes Tryz.prog) (ds++gs)).all (· ≤reachBytes)=true:=hsz0;have hW':=hW;obtain⟨p,q,hA0,hV,rfl,hfz,hnd⟩:=hW;have hA:DataW.TrodAll enc Tryz.prog W 0 (fun _=>true) true Tryz.f8.params.toList args.toList ds p:=hA0;rw[Tryz.params8] at hA hval hsz;obtain⟨v0,v1,d0,d1,p0,p1,rfl,rfl,rfl,h0,h1⟩:=trodAll_two hA;obtain⟨rfl,rfl⟩:=trodVars_none hV;clear hA0 hval0 hsz0;simp only[List.append_nil] at hW';have WQ:∀x∈p0,x.block<W.heap.size:=fun x hx=>hW'.lt x (by simp[hx]);obtain⟨l,hl⟩:=Nu (hval 0 49 v0 rfl rfl) h0 (JO hsz (j:=0) rfl rfl);obtain⟨s,rfl,rfl,rfl,ws⟩:=open_string Tryz.underlying9 (hval 1 9 v1 rfl rfl) h1;obtain⟨mx,hmx⟩:=Nv W hsh;have hmw:1<W.heap.size:=lt_of_cell hmx;refine(Ij eZ Qd l s v0 W hl mx hmx hmw).mono fun e W' ⟨he,bel⟩=> ?_;subst he;refine⟨_,rfl,_,_,_,[],p0++[],[],hW',?_,?_,rfl,bel.frame _,fun h=>by cases h⟩
 ·exact trodAll_mk1 (shut_bool Tryz.underlying4 true)
 ·exact trodAll_mk2 (Below.trod Dt (by kernel_rfl) (of_decide_eq_true (by kernel_rfl)) h0 bel WQ) (shut_string Tryz.underlying9 ws)
theorem KE:(Rows.deskAsksRow.inPlace==Tryz.prog.inPlace 8)=true:=by kernel_rfl
theorem KF:(Rows.deskAsksRow.unfollowed==Tryz.prog.unfollowed 8)=true:=by kernel_rfl
theorem KG:(Rows.deskAsksRow.recurses==Tryz.prog.recurses 8)=true:=by kernel_rfl
theorem I4:(Rows.deskAsksRow.named==Tryz.prog.varsNamed 8)=true:=by kernel_rfl
theorem I5:(Rows.deskAsksRow.lifted==Tryz.prog.liftsFinal)=true:=by kernel_rfl
theorem I6:(Tryz.prog.make==some Rows.deskAsksRow.make)=true:=by kernel_rfl
theorem I7:false=Rows.deskAsksRow.goesBy Tryz.prog:=by kernel_rfl
theorem Bg:Tryz.prog.funcNamed "corollary/corolaw8.DeskAsks" =some 8:=by kernel_rfl
theorem Bh:joinedFacts Tryz.prog 8 Tryz.f8 Rows.deskAsksSpec Rows.deskAsksRow=true:=
 IY (by kernel_rfl) Dt Fy (by kernel_rfl) (by kernel_rfl) (by kernel_rfl) KE KF KG I4 (by kernel_rfl) (by kernel_rfl) (by kernel_rfl) (by kernel_rfl) (by kernel_rfl) (by kernel_rfl) CS IZ I5 I6 (by kernel_rfl) (by kernel_rfl)
theorem Fz:Tryz.f8.isInstance Tryz.prog Rows.deskAsksRow.origin Rows.deskAsksRow.targs:=of_decide_eq_true (by kernel_rfl)
theorem FB:Tryz.f8.isWrapper Tryz.prog Rows.deskAsksRow.wrapper Rows.deskAsksRow.mainSum:=by unfold Func.isWrapper;first|(rw[if_pos (by decide+kernel)];kernel_rfl)|(rw[if_neg (by decide+kernel)];exact⟨rfl,rfl⟩)
theorem FC:Rows.DeskAsksSaid:=
 OpenClaim.holds_of_wide 8 Tryz.f8 rfl rfl rfl rfl rfl rfl rfl ⟨rfl,rfl,rfl,rfl,rfl⟩ rfl rfl rfl rfl rfl Bg Tryz.func8 Bh Fz FB
  (fun os started H enc _=>Bf os started H enc)
theorem dasks_holds:Rows.DeskAsksCardSaid:=
 Claim7.holds_tied_plain_at .later [] [.data,.data,.data] true (true, "e76fd24520ba4795eb7a2cecdf2239fb7aed378c08519b991bb398be843b7320") true
  FC (fun _ h=>by cases h) (by kernel_rfl) (fun _ h=>by cases h) deskAsks_row_tie rfl ⟨rfl,rfl⟩ Nw rfl
  (fun f fn hf hfn=>by
   obtain rfl:f=8:=(Option.some.inj (Bg.symm.trans hf)).symm;obtain rfl:fn=Tryz.f8:=(Option.some.inj (Tryz.func8.symm.trans hfn)).symm;exact⟨Qe,fun j t ht=>by
    rw[Tryz.params8] at ht;rcases j with _|_|j
    ·have h3:t=49:=by simpa using ht.symm
     subst h3;exact(show Tryz.prog.wantsStandIn 49=false by kernel_rfl)
    ·have h3:t=9:=by simpa using ht.symm
     subst h3;exact(show Tryz.prog.wantsStandIn 9=false by kernel_rfl)
    ·simp at ht⟩)
  I7
#print axioms dasks_holds
end Go.Proofs.YtafmbokfkbccaaaGreatDoor
