/- ProofBent: a proof into which another fact is written, one that does not follow, is wrong, wherever that stands. Whatever program, facts, fact, other fact and way are handed in (each list within the form's own reach), in whatever memory, the listed variables being as the program's text lays them: the call returns true and what was handed in reads as it did. The card ties that to the program's text. -/
import Derived.Test.YtafmbokfkbccaaaGreatDoorJB36
import Derived.Test.YtafmbokfkbccaaaGreatDoorJB37
import Derived.Test.YtafmbokfkbccaaaGreatDoorRows
import Derived.Test.YtafmbokfkbccaaaGreatDoorCards
import Derived.Test.YtafmbokfkbccaaaGreatDoorTie
import Derived.SevenTiedAt
import Derived.Carry
namespace Go.Proofs.YtafmbokfkbccaaaGreatDoor
open Go.ChangeShapes Go.WideShapes Go.ChangeAt Go.RowKit Go.Deep
section
variable {H:Type} {enc:TypeId×Value→H} {P:Program} {w:World} {base:Nat} {spare:Nat→Bool} {held:Bool}
theorem GX {t0 t1 t2 t3 t4:TypeId} {args:Array Value} {ds:List (DataW H)} {ps:List MemPlace} (h:DataW.TrodAll enc P w base spare held [t0,t1,t2,t3,t4] args.toList ds ps):
  ∃v0 v1 v2 v3 v4 d0 d1 d2 d3 d4 p0 p1 p2 p3 p4,args=#[v0,v1,v2,v3,v4]∧ds=[d0,d1,d2,d3,d4]∧ps=p0++p1++p2++p3++p4∧DataW.Trod enc P w base spare held t0 v0 d0 p0∧DataW.Trod enc P w base spare held t1 v1 d1 p1∧DataW.Trod enc P w base spare held t2 v2 d2 p2∧DataW.Trod enc P w base spare held t3 v3 d3 p3∧DataW.Trod enc P w base spare held t4 v4 d4 p4:=by
 obtain⟨v0,vs0,d0,ds0,p0,q0,hargs,rfl,rfl,h0,r0⟩:=trodAll_cons h;obtain⟨v1,vs1,d1,ds1,p1,q1,rfl,rfl,rfl,h1,r1⟩:=trodAll_cons r0;obtain⟨v2,vs2,d2,ds2,p2,q2,rfl,rfl,rfl,h2,r2⟩:=trodAll_cons r1;obtain⟨v3,vs3,d3,ds3,p3,q3,rfl,rfl,rfl,h3,r3⟩:=trodAll_cons r2;obtain⟨v4,vs4,d4,ds4,p4,q4,rfl,rfl,rfl,h4,r4⟩:=trodAll_cons r3;obtain⟨rfl,rfl,rfl⟩:=trodAll_nil r4;exact⟨v0,v1,v2,v3,v4,d0,d1,d2,d3,d4,p0,p1,p2,p3,p4,by cases args;simp_all,rfl,by simp,h0,h1,h2,h3,h4⟩
theorem Jy {t0 t1 t2 t3 t4:TypeId} {v0 v1 v2 v3 v4:Value} {d0 d1 d2 d3 d4:DataW H} {p0 p1 p2 p3 p4:List MemPlace} (h0:DataW.Trod enc P w base spare held t0 v0 d0 p0) (h1:DataW.Trod enc P w base spare held t1 v1 d1 p1) (h2:DataW.Trod enc P w base spare held t2 v2 d2 p2) (h3:DataW.Trod enc P w base spare held t3 v3 d3 p3) (h4:DataW.Trod enc P w base spare held t4 v4 d4 p4):
  DataW.TrodAll enc P w base spare held [t0,t1,t2,t3,t4] [v0,v1,v2,v3,v4] [d0,d1,d2,d3,d4] (p0++(p1++(p2++(p3++p4)))):=⟨p0,_,h0,trodAll_mk4 h1 h2 h3 h4,rfl⟩
end
set_option maxRecDepth 100000 in
theorem zu {H:Type} {enc:TypeId×Value→H} {W:World} {b0:Nat} {v:Value} {d:DataW H} {p:List MemPlace} (hv:Value.okWide Tryz.prog W .any b0 27 v) (h:DataW.Trod enc Tryz.prog W 0 (fun _=>true) true 27 v d p) (hw:lC 27 d):∃(f:aj) (s:Value),v=.agg #[.string f.1,s]∧bsK.sl bJ W s f.2:=by
 obtain⟨cs,rfl,hsz⟩:=okWide_struct Tryz.underlying27 hv;obtain⟨fuel,hf⟩:=h;obtain⟨f,⟨s,e,h1⟩,_⟩:=xM fuel cs.toList (d,p) (by simpa[Value.cells] using hf) hw;refine⟨f,s,?_,h1⟩;have:cs=#[.string f.1,s]:=by cases cs;simp_all
 rw[this]
set_option maxRecDepth 100000 in
theorem LP {H:Type} {enc:TypeId×Value→H} {W:World} {b0:Nat} {v:Value} {d:DataW H} {p:List MemPlace} (hval:Value.okWide Tryz.prog W .any b0 39 v) (h0:DataW.Trod enc Tryz.prog W 0 (fun _=>true) true 39 v d p) {g:Nat→Int} {n:Nat} (h:LJ W v g n):n≤9223372036854775807:=by
 obtain⟨a0,Mr,cap0,rfl⟩:=okWide_slice Tryz.underlying39 hval;obtain⟨fuel,hf⟩:=h0;have hf:DataW.trod enc Tryz.prog W 0 (fun _=>true) true fuel 39 [.slice a0 Mr cap0]=some (d,p):=by simpa[Value.cells] using hf
 obtain⟨a',c',e,_⟩:=h;cases e;rcases open_slice Tryz.underlying39 hf with⟨hcs,_⟩|⟨a,len,cap,m,k,D,Pl,hcs,_,hl,hm,_⟩
 ·simp only[List.cons.injEq,and_true,Value.slice.injEq] at hcs;omega
 ·simp only[List.cons.injEq,and_true,Value.slice.injEq] at hcs;unfold maxLen at hm;omega
set_option maxRecDepth 100000 in
theorem Bb (os:Os) (started:os.Started) (H:Type) (enc:TypeId×Value→H):
  ReturnsInHanded {} Tryz.checked os 4 .any (fun w args=>(Rows.proofBentSpec.pre enc Tryz.prog Tryz.f4 [] false w args∧laidMetH Tryz.prog Jw w)∧sizedMet enc Tryz.prog Tryz.f4 (OpenSpec.ofChange Rows.proofBentSpec) false w args)
   (Rows.proofBentSpec.post enc Tryz.prog Tryz.f4 false true false false):=by
 refine A9 (C:=Tryz.checked) (X:=fun w _=>laidMetH Tryz.prog Jw w) Sl started (by kernel_rfl) Tryz.func4
  (ChangeSpec.witness_shaped (enc:=enc) (C:=Tryz.checked) (os:=os) (X:=fun w _=>laidMetH Tryz.prog Jw w) false (World.doorLaid Tryz.prog 1000 os) #[.slice none 0 0,.slice none 0 0,.agg #[.string ByteArray.empty,.slice none 0 0],.agg #[.string ByteArray.empty,.slice none 0 0],.slice none 0 0] 8 rfl (World.shaped_of_RefB (by kernel_rfl) (by kernel_rfl)) (by kernel_rfl) (by kernel_rfl) (by kernel_rfl) (GR os _)) ?_
 intro W base args ds gs before hval0 hW hsz0 hsh;have hval:∀(j:Nat) t v,Tryz.f4.params[j]?=some t→args[j]?=some v→Value.okWide Tryz.prog W .any base t v:=hval0;have hsz:(DataW.weightsEach Tryz.prog (Tryz.f4.params.toList++Rows.proofBentSpec.plain.varTypes Tryz.prog) (ds++gs)).all (· ≤reachBytes)=true:=hsz0;have hW':=hW;obtain⟨p,q,hA0,hV,rfl,hfz,hnd⟩:=hW;have hA:DataW.TrodAll enc Tryz.prog W 0 (fun _=>true) true Tryz.f4.params.toList args.toList ds p:=hA0;rw[Tryz.params4] at hA hval hsz;obtain⟨v0,v1,v2,v3,v4,d0,d1,d2,d3,d4,p0,p1,p2,p3,p4,rfl,rfl,rfl,h0,h1,h2,h3,h4⟩:=GX hA;obtain⟨rfl,rfl⟩:=trodVars_none hV;clear hA0 hval0 hsz0;simp only[List.append_nil] at hW';have Ui:∀x∈p0,x.block<W.heap.size:=fun x hx=>hW'.lt x (by simp[hx]);have hlt1:∀x∈p1,x.block<W.heap.size:=fun x hx=>hW'.lt x (by simp[hx]);have hlt2:∀x∈p2,x.block<W.heap.size:=fun x hx=>hW'.lt x (by simp[hx]);have hlt3:∀x∈p3,x.block<W.heap.size:=fun x hx=>hW'.lt x (by simp[hx]);have Uj:∀x∈p4,x.block<W.heap.size:=fun x hx=>hW'.lt x (by simp[hx]);obtain⟨l,hl,_⟩:=EG (hval 0 23 v0 rfl rfl) h0 (pI hsz (j:=0) rfl rfl);obtain⟨fs,hf,_⟩:=CP (hval 1 24 v1 rfl rfl) h1 (pI hsz (j:=1) rfl rfl);obtain⟨f,sf,hfe,hfs⟩:=zu (hval 2 27 v2 rfl rfl) h2 (pI hsz (j:=2) rfl rfl);obtain⟨g,sg,hge,hgs⟩:=zu (hval 3 27 v3 rfl rfl) h3 (pI hsz (j:=3) rfl rfl);obtain⟨gw,nw,hi4⟩:=Jv (hval 4 39 v4 rfl rfl) h4;have hnw:=LP (hval 4 39 v4 rfl rfl) h4 hi4;obtain⟨mx,hmx⟩:=LK W hsh
 refine(D7 v0 v1 v2 v3 v4 l fs f g gw nw W mx hmx hl hf ⟨sf,hfe,kJ hfs⟩ ⟨sg,hge,hgs⟩ hi4 hnw).mono fun e W' ⟨he,bel⟩=> ?_;subst he;refine⟨_,rfl,_,_,_,[],p0++(p1++(p2++(p3++p4))),[],hW',?_,?_,rfl,bel.frame _,fun h=>by cases h⟩
 ·exact trodAll_mk1 (shut_bool Tryz.underlying4 true)
 ·exact Jy (Below.trod kY (by kernel_rfl) (of_decide_eq_true (by kernel_rfl)) h0 bel Ui) (Below.trod kY (by kernel_rfl) (of_decide_eq_true (by kernel_rfl)) h1 bel hlt1) (Below.trod kY (by kernel_rfl) (of_decide_eq_true (by kernel_rfl)) h2 bel hlt2) (Below.trod kY (by kernel_rfl) (of_decide_eq_true (by kernel_rfl)) h3 bel hlt3) (Below.trod kY (by kernel_rfl) (of_decide_eq_true (by kernel_rfl)) h4 bel Uj)
theorem LQ:(Rows.proofBentRow.inPlace==Tryz.prog.inPlace 4)=true:=by kernel_rfl
theorem LU:(Rows.proofBentRow.unfollowed==Tryz.prog.unfollowed 4)=true:=by kernel_rfl
theorem LV:(Rows.proofBentRow.recurses==Tryz.prog.recurses 4)=true:=by kernel_rfl
theorem Jz:(Rows.proofBentRow.named==Tryz.prog.varsNamed 4)=true:=by kernel_rfl
theorem JA:(Rows.proofBentRow.lifted==Tryz.prog.liftsFinal)=true:=by kernel_rfl
theorem JB:(Tryz.prog.make==some Rows.proofBentRow.make)=true:=by kernel_rfl
theorem JC:false=Rows.proofBentRow.goesBy Tryz.prog:=by kernel_rfl
theorem Ch:Tryz.prog.funcNamed "corollary/corolaw7.ProofBent" =some 4:=by kernel_rfl
theorem Bc:joinedFacts Tryz.prog 4 Tryz.f4 Rows.proofBentSpec Rows.proofBentRow=true:=
 GU (by kernel_rfl) kY D8 (by kernel_rfl) (by kernel_rfl) (by kernel_rfl) LQ LU LV Jz (by kernel_rfl) (by kernel_rfl) (by kernel_rfl) (by kernel_rfl) (by kernel_rfl) (by kernel_rfl) Ba GV JA JB (by kernel_rfl) (by kernel_rfl)
theorem GY:Tryz.f4.isInstance Tryz.prog Rows.proofBentRow.origin Rows.proofBentRow.targs:=of_decide_eq_true (by kernel_rfl)
theorem GZ:Tryz.f4.isWrapper Tryz.prog Rows.proofBentRow.wrapper Rows.proofBentRow.mainSum:=by unfold Func.isWrapper;first|(rw[if_pos (by decide+kernel)];kernel_rfl)|(rw[if_neg (by decide+kernel)];exact⟨rfl,rfl⟩)
theorem G5:Rows.ProofBentSaid:=
 OpenClaim.holds_of_wide 4 Tryz.f4 rfl rfl rfl rfl rfl rfl rfl ⟨rfl,rfl,rfl,rfl,rfl⟩ rfl rfl rfl rfl rfl Ch Tryz.func4 Bc GY GZ
  (fun os started H enc _=>Bb os started H enc)
theorem bent_holds:Rows.ProofBentCardSaid:=
 Claim7.holds_tied_plain_at .later [] [.data,.data,.data] true (true, "e76fd24520ba4795eb7a2cecdf2239fb7aed378c08519b991bb398be843b7320") true
  G5 (fun _ h=>by cases h) (by kernel_rfl) (fun _ h=>by cases h) proofBent_row_tie rfl ⟨rfl,rfl⟩ LM rfl
  (fun f fn hf hfn=>by
   obtain rfl:f=4:=(Option.some.inj (Ch.symm.trans hf)).symm;obtain rfl:fn=Tryz.f4:=(Option.some.inj (Tryz.func4.symm.trans hfn)).symm;exact⟨Oa,fun j t ht=>by
    rw[Tryz.params4] at ht;rcases j with _|_|_|_|_|j
    ·have h3:t=23:=by simpa using ht.symm
     subst h3;exact(show Tryz.prog.wantsStandIn 23=false by kernel_rfl)
    ·have h3:t=24:=by simpa using ht.symm
     subst h3;exact(show Tryz.prog.wantsStandIn 24=false by kernel_rfl)
    ·have h3:t=27:=by simpa using ht.symm
     subst h3;exact(show Tryz.prog.wantsStandIn 27=false by kernel_rfl)
    ·have h3:t=27:=by simpa using ht.symm
     subst h3;exact(show Tryz.prog.wantsStandIn 27=false by kernel_rfl)
    ·have h3:t=39:=by simpa using ht.symm
     subst h3;exact(show Tryz.prog.wantsStandIn 39=false by kernel_rfl)
    ·simp at ht⟩)
  JC
#print axioms bent_holds
end Go.Proofs.YtafmbokfkbccaaaGreatDoor
