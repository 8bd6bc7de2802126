/- ProofTells: Size, Check and Prove tell how great any proof is, what is wrong with it, and why any fact is so, as the document's own answer does. Whatever program, facts, fact and proof are handed in, of bulk at most 1048576 together, in whatever memory, the listed variables being as the program's text lays them: the call returns true and what was handed in reads as it did. The card ties that to the program's text. -/
import Derived.Test.YtaallngooaaonaaGreatDoorJT42
import Derived.Test.YtaallngooaaonaaGreatDoorJT43
import Derived.Test.YtaallngooaaonaaGreatDoorJT44
import Derived.Test.YtaallngooaaonaaGreatDoorRows
import Derived.Test.YtaallngooaaonaaGreatDoorCards
import Derived.Test.YtaallngooaaonaaGreatDoorTie
import Derived.SevenTiedAt
import Derived.Carry
import Derived.Deep.DeepHandedRow
namespace Go.Proofs.YtaallngooaaonaaGreatDoor
open Go.ChangeShapes Go.WideShapes Go.ChangeAt Go.RowKit
set_option maxRecDepth 100000 in
theorem wh (H:Type) (enc:TypeId×Value→H) (W:World) (base:Nat) (args:Array Value) (ds gs:List (DataW H)) (before:List MemPlace)
  (hval:∀(j:Nat) t v,Tryz.f3.params[j]?=some t→args[j]?=some v→Value.okWide Tryz.prog W .any base t v)
  (hW:DataW.Whole enc Tryz.prog Tryz.f3.params.toList Rows.proofTellsSpec.vars false W args.toList ds gs before) (hk:Rows.uptoSmall H (ds++gs)=true)
  (hsz:(DataW.weightsEach Tryz.prog (Tryz.f3.params.toList++Rows.proofTellsSpec.plain.varTypes Tryz.prog) (ds++gs)).all (· ≤reachBytes)=true):
  Calls Tryz.prog 3 args W fun e W'=>∃v,e=.returned v∧Rows.proofTellsSpec.post enc Tryz.prog Tryz.f3 false true false false W args v W':=by
 have hW':=hW;obtain⟨p,q,hA0,hV,rfl,hfz,hnd⟩:=hW;have hA:DataW.TrodAll enc Tryz.prog W 0 (fun _=>true) true Tryz.f3.params.toList args.toList ds p:=hA0;rw[Tryz.params3] at hA hval hsz;obtain⟨v0,v1,v2,v3,d0,d1,d2,d3,p0,p1,p2,p3,rfl,rfl,rfl,h0,h1,h2,h3⟩:=trodAll_four hA;obtain⟨rfl,rfl⟩:=trodVars_none hV;clear hA0;simp only[List.append_nil] at hW' hk;have hB:Rows.uptoBulkAll [d0,d1,d2,d3]≤1048576:=of_decide_eq_true hk;simp only[Rows.uptoBulkAll] at hB;have ZL:∀x∈p0,x.block<W.heap.size:=fun x hx=>hW'.lt x (by simp[hx]);have hlt1:∀x∈p1,x.block<W.heap.size:=fun x hx=>hW'.lt x (by simp[hx]);have hlt2:∀x∈p2,x.block<W.heap.size:=fun x hx=>hW'.lt x (by simp[hx]);have hlt3:∀x∈p3,x.block<W.heap.size:=fun x hx=>hW'.lt x (by simp[hx]);obtain⟨l,hl,hlo⟩:=GQ (hval 0 23 v0 rfl rfl) h0 (rX hsz (j:=0) rfl rfl);obtain⟨fs,hf,hfo⟩:=EL (hval 1 24 v1 rfl rfl) h1 (rX hsz (j:=1) rfl rfl);obtain⟨f,sf,rfl,hfs,hft⟩:=JZ (hval 2 27 v2 rfl rfl) h2 (rX hsz (j:=2) rfl rfl);obtain⟨M,hM⟩:∃M,M=1048575:=⟨_,rfl⟩;obtain⟨x,hx,hcx,hox⟩:=Gh M (hval 3 30 v3 rfl rfl) h3 (rX hsz (j:=3) rfl rfl) (by omega);refine(CY M v0 v1 sf v3 l fs f x W hl hf hfs hx (by omega) (by omega) hox (fun r hr=>J2 (hlo r hr)) (Pb hfo) (Nb hft)).mono fun e W' ⟨he,bel⟩=>?_;subst he;refine⟨_,rfl,_,_,_,[],p0++(p1++(p2++p3)),[],hW',?_,?_,rfl,bel.frame _,fun h=>by cases h⟩;·exact trodAll_mk1 (shut_bool Tryz.underlying4 true)
 exact trodAll_mk4 (Below.trod oF (by kernel_rfl) (of_decide_eq_true (by kernel_rfl)) h0 bel ZL) (Below.trod oF (by kernel_rfl) (of_decide_eq_true (by kernel_rfl)) h1 bel hlt1) (Below.trod oF (by kernel_rfl) (of_decide_eq_true (by kernel_rfl)) h2 bel hlt2) (Below.trod oF (by kernel_rfl) (of_decide_eq_true (by kernel_rfl)) h3 bel hlt3)
set_option maxRecDepth 100000 in
theorem J5 (os:Os):laidMet Tryz.prog Rows.proofTellsUptoRow.laid ((World.doorLaid Tryz.prog 1000 os).forCall (fun _ _=>0) ⟨#[],#[.slice none 0 0,.slice none 0 0,.agg #[.string ByteArray.empty,.slice none 0 0],.agg #[.string ByteArray.empty,.slice none 0 0,.int .i64 0,.slice none 0 0]],[]⟩).memory:=
 laidMet_of_run' 8 (by kernel_rfl) (by kernel_rfl)
set_option maxRecDepth 100000 in
theorem C9 (os:Os) {H:Type} (enc:TypeId×Value→H):∃places,DataW.whole enc Tryz.prog ((World.doorLaid Tryz.prog 1000 os).forCall (fun _ _=>0) ⟨#[],#[.slice none 0 0,.slice none 0 0,.agg #[.string ByteArray.empty,.slice none 0 0],.agg #[.string ByteArray.empty,.slice none 0 0,.int .i64 0,.slice none 0 0]],[]⟩).memory Tryz.f3.params.toList Rows.proofTellsSpec.vars false (#[.slice none 0 0,.slice none 0 0,.agg #[.string ByteArray.empty,.slice none 0 0],.agg #[.string ByteArray.empty,.slice none 0 0,.int .i64 0,.slice none 0 0]]:Array Value).toList 8=some ([.nil,.nil,.agg [.lit (.string []),.nil],.agg [.agg [.lit (.string []),.nil],.lit (.int .i64 0),.nil]],[],places):=
 ⟨[],by kernel_rfl⟩
set_option maxRecDepth 100000 in
theorem Bz (os:Os) (started:os.Started) (H:Type) (enc:TypeId×Value→H) (G:Stop.Interp):
  ReturnsInHanded {} Tryz.checked os 3 .any ((Rows.OpenSpec.upto Rows.proofTellsSpec).preRow enc Tryz.prog Tryz.f3 Rows.proofTellsUptoRow.domain false Rows.proofTellsUptoRow.laid) (((Rows.OpenSpec.upto Rows.proofTellsSpec).at G).post enc Tryz.prog Tryz.f3 false true false false):=by
 obtain⟨places,hx⟩:=C9 os enc;refine returnsInHanded_of_row (C:=Tryz.checked) (s:=Rows.OpenSpec.upto Rows.proofTellsSpec) XZ started (by kernel_rfl) Tryz.func3
  (witness_row_at (enc:=enc) (C:=Tryz.checked) false (World.doorLaid Tryz.prog 1000 os) #[.slice none 0 0,.slice none 0 0,.agg #[.string ByteArray.empty,.slice none 0 0],.agg #[.string ByteArray.empty,.slice none 0 0,.int .i64 0,.slice none 0 0]] rfl (by kernel_rfl) (by kernel_rfl) (by kernel_rfl)
   (OpenSpec.preRow_of_cond 8 hx (by kernel_rfl) (fun k hk=>by cases hk;kernel_rfl) (by kernel_rfl) (J5 os))) ?_
 intro W base args ds gs before hval hW _ hcond hsz _ _ _;exact wh H enc W base args ds gs before hval hW (hcond _ rfl) hsz
theorem Mj:(Rows.proofTellsUptoRow.inPlace==Tryz.prog.inPlace 3)=true:=by kernel_rfl
theorem Mk:(Rows.proofTellsUptoRow.unfollowed==Tryz.prog.unfollowed 3)=true:=by kernel_rfl
theorem Ml:(Rows.proofTellsUptoRow.recurses==Tryz.prog.recurses 3)=true:=by kernel_rfl
theorem J6:(Rows.proofTellsUptoRow.named==Tryz.prog.varsNamed 3)=true:=by kernel_rfl
theorem J7:(Rows.proofTellsUptoRow.lifted==Tryz.prog.liftsFinal)=true:=by kernel_rfl
theorem J8:(Tryz.prog.make==some Rows.proofTellsUptoRow.make)=true:=by kernel_rfl
theorem J9:false=Rows.proofTellsUptoRow.goesBy Tryz.prog:=by kernel_rfl
theorem BA:Tryz.prog.funcNamed "corollary/corolaw7.ProofTells" =some 3:=by kernel_rfl
theorem BD:joinedFacts Tryz.prog 3 Tryz.f3 (Rows.OpenSpec.upto Rows.proofTellsSpec).bare Rows.proofTellsUptoRow=true:=
 J3 (by kernel_rfl) oF Gi (by kernel_rfl) (by kernel_rfl) (by kernel_rfl) Mj Mk Ml J6 (by kernel_rfl) (by kernel_rfl) (by kernel_rfl) (by kernel_rfl) (by kernel_rfl) (by kernel_rfl) C8 J4 J7 J8 (by kernel_rfl) (by kernel_rfl)
theorem Gj:Tryz.f3.isInstance Tryz.prog Rows.proofTellsUptoRow.origin Rows.proofTellsUptoRow.targs:=of_decide_eq_true (by kernel_rfl)
theorem Gl:Tryz.f3.isWrapper Tryz.prog Rows.proofTellsUptoRow.wrapper Rows.proofTellsUptoRow.mainSum:=by unfold Func.isWrapper;first|(rw[if_pos (by decide+kernel)];kernel_rfl)|(rw[if_neg (by decide+kernel)];exact⟨rfl,rfl⟩)
theorem Gm:Rows.ProofTellsUptoSaid:=
 OpenClaim.holds_of_cond 3 Tryz.f3 rfl rfl rfl rfl rfl rfl rfl ⟨rfl,rfl,rfl,rfl,rfl⟩ rfl rfl rfl rfl rfl BA Tryz.func3 BD Gj Gl
  (fun os started H enc _ G=>by rw[OpenClaim.pre_eq_preRow];exact Bz os started H enc G)
theorem ptell_holds:Rows.ProofTellsUptoCardSaid:=
 Claim7.holds_tied_plain_at .later [] [.data,.data,.data] true (true, "3da6296230f9edefd5728d5248f4159ce08fbc5be9be1946e56f3d1e588ea1c0") false
  Gm (fun _ h=>by cases h) (by kernel_rfl) (fun _ h=>by cases h) proofTellsUpto_row_tie rfl ⟨rfl,rfl⟩ Pd rfl
  (fun f fn hf hfn=>by
   obtain rfl:f=3:=(Option.some.inj (BA.symm.trans hf)).symm;obtain rfl:fn=Tryz.f3:=(Option.some.inj (Tryz.func3.symm.trans hfn)).symm;exact⟨RS,fun j t ht=>by
    rw[Tryz.params3] at ht;rcases j with _|_|_|_|j
    ·have h3:t=23:=by simpa using ht.symm
     subst h3;exact(show Tryz.prog.wantsStandIn 23=false by kernel_rfl)
    ·have h3:t=24:=by simpa using ht.symm
     subst h3;exact(show Tryz.prog.wantsStandIn 24=false by kernel_rfl)
    ·have h3:t=27:=by simpa using ht.symm
     subst h3;exact(show Tryz.prog.wantsStandIn 27=false by kernel_rfl)
    ·have h3:t=30:=by simpa using ht.symm
     subst h3;exact(show Tryz.prog.wantsStandIn 30=false by kernel_rfl)
    simp at ht⟩)
  J9
#print axioms ptell_holds
end Go.Proofs.YtaallngooaaonaaGreatDoor
