/- ProofTells: Size, Check and Prove tell how great any proof is, what is wrong with it, and why any fact is so, as the document's own answer does. Whatever program, facts, fact and proof are handed in, of bulk at most 1048576 together, in whatever memory, the listed variables being as the program's text lays them: the call returns true and what was handed in reads as it did. The card ties that to the program's text. -/
import Derived.Test.YtafmbokfkbccaaaGreatDoorJT42
import Derived.Test.YtafmbokfkbccaaaGreatDoorJT43
import Derived.Test.YtafmbokfkbccaaaGreatDoorJT44
import Derived.Test.YtafmbokfkbccaaaGreatDoorRows
import Derived.Test.YtafmbokfkbccaaaGreatDoorCards
import Derived.Test.YtafmbokfkbccaaaGreatDoorTie
import Derived.SevenTiedAt
import Derived.Carry
import Derived.Deep.DeepHandedRow
namespace Go.Proofs.YtafmbokfkbccaaaGreatDoor
open Go.ChangeShapes Go.WideShapes Go.ChangeAt Go.RowKit
set_option maxRecDepth 100000 in
theorem wL (H:Type) (enc:TypeId×Value→H) (W:World) (base:Nat) (args:Array Value) (ds gs:List (DataW H)) (before:List MemPlace)
  (hval:∀(j:Nat) t v,Tryz.f3.params[j]?=some t→args[j]?=some v→Value.okWide Tryz.prog W .any base t v)
  (hW:DataW.Whole enc Tryz.prog Tryz.f3.params.toList Rows.proofTellsSpec.vars false W args.toList ds gs before) (hk:Rows.uptoSmall H (ds++gs)=true)
  (hsz:(DataW.weightsEach Tryz.prog (Tryz.f3.params.toList++Rows.proofTellsSpec.plain.varTypes Tryz.prog) (ds++gs)).all (· ≤reachBytes)=true):
  Calls Tryz.prog 3 args W fun e W'=>∃v,e=.returned v∧Rows.proofTellsSpec.post enc Tryz.prog Tryz.f3 false true false false W args v W':=by
 have hW':=hW;obtain⟨p,q,hA0,hV,rfl,hfz,hnd⟩:=hW;have hA:DataW.TrodAll enc Tryz.prog W 0 (fun _=>true) true Tryz.f3.params.toList args.toList ds p:=hA0;rw[Tryz.params3] at hA hval hsz;obtain⟨v0,v1,v2,v3,d0,d1,d2,d3,p0,p1,p2,p3,rfl,rfl,rfl,h0,h1,h2,h3⟩:=trodAll_four hA;obtain⟨rfl,rfl⟩:=trodVars_none hV;clear hA0;simp only[List.append_nil] at hW' hk;have hB:Rows.uptoBulkAll [d0,d1,d2,d3]≤1048576:=of_decide_eq_true hk;simp only[Rows.uptoBulkAll] at hB;have ZJ:∀x∈p0,x.block<W.heap.size:=fun x hx=>hW'.lt x (by simp[hx]);have hlt1:∀x∈p1,x.block<W.heap.size:=fun x hx=>hW'.lt x (by simp[hx]);have hlt2:∀x∈p2,x.block<W.heap.size:=fun x hx=>hW'.lt x (by simp[hx]);have hlt3:∀x∈p3,x.block<W.heap.size:=fun x hx=>hW'.lt x (by simp[hx]);obtain⟨l,hl,hlo⟩:=Hf (hval 0 23 v0 rfl rfl) h0 (sD hsz (j:=0) rfl rfl);obtain⟨fs,hf,hfo⟩:=E5 (hval 1 24 v1 rfl rfl) h1 (sD hsz (j:=1) rfl rfl);obtain⟨f,sf,rfl,hfs,hft⟩:=Ki (hval 2 27 v2 rfl rfl) h2 (sD hsz (j:=2) rfl rfl);obtain⟨M,hM⟩:∃M,M=1048575:=⟨_,rfl⟩;obtain⟨x,hx,hcx,hox⟩:=Gx M (hval 3 30 v3 rfl rfl) h3 (sD hsz (j:=3) rfl rfl) (by omega);refine(Dh M v0 v1 sf v3 l fs f x W hl hf hfs hx (by omega) (by omega) hox (fun r hr=>Kj (hlo r hr)) (Pw hfo) (Nw hft)).mono fun e W' ⟨he,bel⟩=> ?_;subst he;refine⟨_,rfl,_,_,_,[],p0++(p1++(p2++p3)),[],hW',?_,?_,rfl,bel.frame _,fun h=>by cases h⟩
 ·exact trodAll_mk1 (shut_bool Tryz.underlying4 true)
 ·exact trodAll_mk4 (Below.trod oL (by kernel_rfl) (of_decide_eq_true (by kernel_rfl)) h0 bel ZJ) (Below.trod oL (by kernel_rfl) (of_decide_eq_true (by kernel_rfl)) h1 bel hlt1) (Below.trod oL (by kernel_rfl) (of_decide_eq_true (by kernel_rfl)) h2 bel hlt2) (Below.trod oL (by kernel_rfl) (of_decide_eq_true (by kernel_rfl)) h3 bel hlt3)
set_option maxRecDepth 100000 in
theorem Km (os:Os):laidMet Tryz.prog Rows.proofTellsUptoRow.laid ((World.doorLaid Tryz.prog 1000 os).forCall (fun _ _=>0) ⟨#[],#[.slice none 0 0,.slice none 0 0,.agg #[.string ByteArray.empty,.slice none 0 0],.agg #[.string ByteArray.empty,.slice none 0 0,.int .i64 0,.slice none 0 0]],[]⟩).memory:=
 laidMet_of_run' 8 (by kernel_rfl) (by kernel_rfl)
set_option maxRecDepth 100000 in
theorem Dk (os:Os) {H:Type} (enc:TypeId×Value→H):∃places,DataW.whole enc Tryz.prog ((World.doorLaid Tryz.prog 1000 os).forCall (fun _ _=>0) ⟨#[],#[.slice none 0 0,.slice none 0 0,.agg #[.string ByteArray.empty,.slice none 0 0],.agg #[.string ByteArray.empty,.slice none 0 0,.int .i64 0,.slice none 0 0]],[]⟩).memory Tryz.f3.params.toList Rows.proofTellsSpec.vars false (#[.slice none 0 0,.slice none 0 0,.agg #[.string ByteArray.empty,.slice none 0 0],.agg #[.string ByteArray.empty,.slice none 0 0,.int .i64 0,.slice none 0 0]]:Array Value).toList 8=some ([.nil,.nil,.agg [.lit (.string []),.nil],.agg [.agg [.lit (.string []),.nil],.lit (.int .i64 0),.nil]],[],places):=
 ⟨[],by kernel_rfl⟩
set_option maxRecDepth 100000 in
theorem BM (os:Os) (started:os.Started) (H:Type) (enc:TypeId×Value→H) (G:Stop.Interp):
  ReturnsInHanded {} Tryz.checked os 3 .any ((Rows.OpenSpec.upto Rows.proofTellsSpec).preRow enc Tryz.prog Tryz.f3 Rows.proofTellsUptoRow.domain false Rows.proofTellsUptoRow.laid) (((Rows.OpenSpec.upto Rows.proofTellsSpec).at G).post enc Tryz.prog Tryz.f3 false true false false):=by
 obtain⟨places,hx⟩:=Dk os enc;refine returnsInHanded_of_row (C:=Tryz.checked) (s:=Rows.OpenSpec.upto Rows.proofTellsSpec) X3 started (by kernel_rfl) Tryz.func3
  (witness_row_at (enc:=enc) (C:=Tryz.checked) false (World.doorLaid Tryz.prog 1000 os) #[.slice none 0 0,.slice none 0 0,.agg #[.string ByteArray.empty,.slice none 0 0],.agg #[.string ByteArray.empty,.slice none 0 0,.int .i64 0,.slice none 0 0]] rfl (by kernel_rfl) (by kernel_rfl) (by kernel_rfl)
   (OpenSpec.preRow_of_cond 8 hx (by kernel_rfl) (fun k hk=>by cases hk;kernel_rfl) (by kernel_rfl) (Km os))) ?_
 intro W base args ds gs before hval hW _ hcond hsz _ _ _;exact wL H enc W base args ds gs before hval hW (hcond _ rfl) hsz
theorem ME:(Rows.proofTellsUptoRow.inPlace==Tryz.prog.inPlace 3)=true:=by kernel_rfl
theorem MF:(Rows.proofTellsUptoRow.unfollowed==Tryz.prog.unfollowed 3)=true:=by kernel_rfl
theorem MG:(Rows.proofTellsUptoRow.recurses==Tryz.prog.recurses 3)=true:=by kernel_rfl
theorem Kn:(Rows.proofTellsUptoRow.named==Tryz.prog.varsNamed 3)=true:=by kernel_rfl
theorem Ko:(Rows.proofTellsUptoRow.lifted==Tryz.prog.liftsFinal)=true:=by kernel_rfl
theorem Kr:(Tryz.prog.make==some Rows.proofTellsUptoRow.make)=true:=by kernel_rfl
theorem Kt:false=Rows.proofTellsUptoRow.goesBy Tryz.prog:=by kernel_rfl
theorem BN:Tryz.prog.funcNamed "corollary/corolaw7.ProofTells" =some 3:=by kernel_rfl
theorem BO:joinedFacts Tryz.prog 3 Tryz.f3 (Rows.OpenSpec.upto Rows.proofTellsSpec).bare Rows.proofTellsUptoRow=true:=
 Kk (by kernel_rfl) oL Gy (by kernel_rfl) (by kernel_rfl) (by kernel_rfl) ME MF MG Kn (by kernel_rfl) (by kernel_rfl) (by kernel_rfl) (by kernel_rfl) (by kernel_rfl) (by kernel_rfl) Dj Kl Ko Kr (by kernel_rfl) (by kernel_rfl)
theorem Gz:Tryz.f3.isInstance Tryz.prog Rows.proofTellsUptoRow.origin Rows.proofTellsUptoRow.targs:=of_decide_eq_true (by kernel_rfl)
theorem GA:Tryz.f3.isWrapper Tryz.prog Rows.proofTellsUptoRow.wrapper Rows.proofTellsUptoRow.mainSum:=by unfold Func.isWrapper;first|(rw[if_pos (by decide+kernel)];kernel_rfl)|(rw[if_neg (by decide+kernel)];exact⟨rfl,rfl⟩)
theorem GD:Rows.ProofTellsUptoSaid:=
 OpenClaim.holds_of_cond 3 Tryz.f3 rfl rfl rfl rfl rfl rfl rfl ⟨rfl,rfl,rfl,rfl,rfl⟩ rfl rfl rfl rfl rfl BN Tryz.func3 BO Gz GA
  (fun os started H enc _ G=>by rw[OpenClaim.pre_eq_preRow];exact BM os started H enc G)
theorem ptell_holds:Rows.ProofTellsUptoCardSaid:=
 Claim7.holds_tied_plain_at .later [] [.data,.data,.data] true (true, "e76fd24520ba4795eb7a2cecdf2239fb7aed378c08519b991bb398be843b7320") true
  GD (fun _ h=>by cases h) (by kernel_rfl) (fun _ h=>by cases h) proofTellsUpto_row_tie rfl ⟨rfl,rfl⟩ Px rfl
  (fun f fn hf hfn=>by
   obtain rfl:f=3:=(Option.some.inj (BN.symm.trans hf)).symm;obtain rfl:fn=Tryz.f3:=(Option.some.inj (Tryz.func3.symm.trans hfn)).symm;exact⟨Sd,fun j t ht=>by
    rw[Tryz.params3] at ht;rcases j with _|_|_|_|j
    ·have h3:t=23:=by simpa using ht.symm
     subst h3;exact(show Tryz.prog.wantsStandIn 23=false by kernel_rfl)
    ·have h3:t=24:=by simpa using ht.symm
     subst h3;exact(show Tryz.prog.wantsStandIn 24=false by kernel_rfl)
    ·have h3:t=27:=by simpa using ht.symm
     subst h3;exact(show Tryz.prog.wantsStandIn 27=false by kernel_rfl)
    ·have h3:t=30:=by simpa using ht.symm
     subst h3;exact(show Tryz.prog.wantsStandIn 30=false by kernel_rfl)
    ·simp at ht⟩)
  Kt
#print axioms ptell_holds
end Go.Proofs.YtafmbokfkbccaaaGreatDoor
