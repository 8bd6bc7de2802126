/- TopDesk: what is asked of a run that was saved, other facts told, and brought back, is as it was ahead of that. Whatever towns, roads and rounds are handed in (each list within the form's own reach), in whatever memory, the listed variables being as the program's text lays them: the call returns true and what was handed in reads as it did. The card ties that to the program's text. -/
import Derived.Test.YtafmbokfkbccaaaGreatDoorJD34
import Derived.Test.YtafmbokfkbccaaaGreatDoorJD35
import Derived.Test.YtafmbokfkbccaaaGreatDoorJD36
import Derived.Test.YtafmbokfkbccaaaGreatDoorRows
import Derived.Test.YtafmbokfkbccaaaGreatDoorCards
import Derived.Test.YtafmbokfkbccaaaGreatDoorTie
import Derived.SevenTiedAt
import Derived.Carry
namespace Go.Proofs.YtafmbokfkbccaaaGreatDoor
open Go.ChangeShapes Go.WideShapes Go.ChangeAt Go.RowKit
set_option maxRecDepth 100000 in
theorem tdesk_lifted (os:Os) (started:os.Started) (H:Type) (enc:TypeId×Value→H):
  ReturnsInHanded {} Tryz.checked os 13 .any (fun w args=>(Rows.topDeskSpec.pre enc Tryz.prog Tryz.f13 [] false w args∧laidMetH Tryz.prog laid5 w)∧sizedMet enc Tryz.prog Tryz.f13 (OpenSpec.ofChange Rows.topDeskSpec) false w args)
   (Rows.topDeskSpec.post enc Tryz.prog Tryz.f13 false true false false):=by
 refine handed_laid (C:=Tryz.checked) (X:=fun w _=>laidMetH Tryz.prog laid5 w) ownP started (by kernel_rfl) Tryz.func13
  (ChangeSpec.witness_shaped (enc:=enc) (C:=Tryz.checked) (os:=os) (X:=fun w _=>laidMetH Tryz.prog laid5 w) false (World.doorLaid Tryz.prog 1000 os) #[.int .i64 0,.slice none 0 0,.slice none 0 0,.int .i64 0] 8 rfl (World.shaped_of_RefB (by kernel_rfl) (by kernel_rfl)) (by kernel_rfl) (by kernel_rfl) (by kernel_rfl) (door5_met os _)) ?_
 intro W base args ds gs before hval0 hW hsz0 hsh;have hval:∀(j:Nat) t v,Tryz.f13.params[j]?=some t→args[j]?=some v→Value.okWide Tryz.prog W .any base t v:=hval0;have hW':=hW;obtain⟨p,q,hA0,hV,rfl,hfz,hnd⟩:=hW;have hA:DataW.TrodAll enc Tryz.prog W 0 (fun _=>true) true Tryz.f13.params.toList args.toList ds p:=hA0;rw[Tryz.params13] at hA hval;obtain⟨v0,v1,v2,v3,d0,d1,d2,d3,p0,p1,p2,p3,rfl,rfl,rfl,h0,h1,h2,h3⟩:=trodAll_four hA;obtain⟨rfl,rfl⟩:=trodVars_none hV;clear hA0 hval0 hsz0;simp only[List.append_nil] at hW';have hlt1:∀x∈p1,x.block<W.heap.size:=fun x hx=>hW'.lt x (by simp[hx]);have hlt2:∀x∈p2,x.block<W.heap.size:=fun x hx=>hW'.lt x (by simp[hx]);obtain⟨n,rfl,rfl,rfl,wn⟩:=open_int Tryz.underlying3 (hval 0 3 v0 rfl rfl) h0;obtain⟨g1,n1,hi1⟩:=openInts (hval 1 39 v1 rfl rfl) h1;obtain⟨g2,n2,hi2⟩:=openInts (hval 2 39 v2 rfl rfl) h2;obtain⟨a,rfl,rfl,rfl,wa⟩:=open_int Tryz.underlying3 (hval 3 3 v3 rfl rfl) h3;obtain⟨mx,hmx⟩:=maxLenN W hsh;refine(topDeskW n a v1 v2 g1 g2 n1 n2 W mx hmx (lt_of_cell hmx) hi1 hi2).mono fun e W' ⟨he,bel⟩=> ?_;subst he;refine⟨_,rfl,_,_,_,[],[]++(p1++(p2++[])),[],hW',?_,?_,rfl,bel.frame _,fun h=>by cases h⟩
 ·exact trodAll_mk1 (shut_bool Tryz.underlying4 true)
 ·exact trodAll_mk4 (shut_int Tryz.underlying3 wn) (Below.trod laidOutP (by kernel_rfl) (of_decide_eq_true (by kernel_rfl)) h1 bel hlt1) (Below.trod laidOutP (by kernel_rfl) (of_decide_eq_true (by kernel_rfl)) h2 bel hlt2) (shut_int Tryz.underlying3 wa)
theorem tdesk_c7:(Rows.topDeskRow.inPlace==Tryz.prog.inPlace 13)=true:=by kernel_rfl
theorem tdesk_c8:(Rows.topDeskRow.unfollowed==Tryz.prog.unfollowed 13)=true:=by kernel_rfl
theorem tdesk_c9:(Rows.topDeskRow.recurses==Tryz.prog.recurses 13)=true:=by kernel_rfl
theorem tdesk_c10:(Rows.topDeskRow.named==Tryz.prog.varsNamed 13)=true:=by kernel_rfl
theorem tdesk_c19:(Rows.topDeskRow.lifted==Tryz.prog.liftsFinal)=true:=by kernel_rfl
theorem tdesk_c20:(Tryz.prog.make==some Rows.topDeskRow.make)=true:=by kernel_rfl
theorem tdesk_c33:false=Rows.topDeskRow.goesBy Tryz.prog:=by kernel_rfl
theorem tdesk_c34:Tryz.prog.funcNamed "corollary/corotop.TopDesk" =some 13:=by kernel_rfl
theorem tdesk_closed:joinedFacts Tryz.prog 13 Tryz.f13 Rows.topDeskSpec Rows.topDeskRow=true:=
 joined_of (by kernel_rfl) laidOutP mapsRowedP (by kernel_rfl) (by kernel_rfl) (by kernel_rfl) tdesk_c7 tdesk_c8 tdesk_c9 tdesk_c10 (by kernel_rfl) (by kernel_rfl) (by kernel_rfl) (by kernel_rfl) (by kernel_rfl) (by kernel_rfl) stopsHeardP mayEnterP tdesk_c19 tdesk_c20 (by kernel_rfl) (by kernel_rfl)
theorem tdesk_inst:Tryz.f13.isInstance Tryz.prog Rows.topDeskRow.origin Rows.topDeskRow.targs:=of_decide_eq_true (by kernel_rfl)
theorem tdesk_wrap:Tryz.f13.isWrapper Tryz.prog Rows.topDeskRow.wrapper Rows.topDeskRow.mainSum:=by unfold Func.isWrapper;first|(rw[if_pos (by decide+kernel)];kernel_rfl)|(rw[if_neg (by decide+kernel)];exact⟨rfl,rfl⟩)
theorem tdesk_said:Rows.TopDeskSaid:=
 OpenClaim.holds_of_wide 13 Tryz.f13 rfl rfl rfl rfl rfl rfl rfl ⟨rfl,rfl,rfl,rfl,rfl⟩ rfl rfl rfl rfl rfl tdesk_c34 Tryz.func13 tdesk_closed tdesk_inst tdesk_wrap
  (fun os started H enc _=>tdesk_lifted os started H enc)
theorem tdesk_holds:Rows.TopDeskCardSaid:=
 Claim7.holds_tied_plain_at .later [] [.data,.data,.data] true (true, "e76fd24520ba4795eb7a2cecdf2239fb7aed378c08519b991bb398be843b7320") true
  tdesk_said (fun _ h=>by cases h) (by kernel_rfl) (fun _ h=>by cases h) topDesk_row_tie rfl ⟨rfl,rfl⟩ mainIsP rfl
  (fun f fn hf hfn=>by
   obtain rfl:f=13:=(Option.some.inj (tdesk_c34.symm.trans hf)).symm;obtain rfl:fn=Tryz.f13:=(Option.some.inj (Tryz.func13.symm.trans hfn)).symm;exact⟨looksP,fun j t ht=>by
    rw[Tryz.params13] at ht;rcases j with _|_|_|_|j
    ·have h3:t=3:=by simpa using ht.symm
     subst h3;exact(show Tryz.prog.wantsStandIn 3=false by kernel_rfl)
    ·have h3:t=39:=by simpa using ht.symm
     subst h3;exact(show Tryz.prog.wantsStandIn 39=false by kernel_rfl)
    ·have h3:t=39:=by simpa using ht.symm
     subst h3;exact(show Tryz.prog.wantsStandIn 39=false by kernel_rfl)
    ·have h3:t=3:=by simpa using ht.symm
     subst h3;exact(show Tryz.prog.wantsStandIn 3=false by kernel_rfl)
    ·simp at ht⟩)
  tdesk_c33
#print axioms tdesk_holds
end Go.Proofs.YtafmbokfkbccaaaGreatDoor
