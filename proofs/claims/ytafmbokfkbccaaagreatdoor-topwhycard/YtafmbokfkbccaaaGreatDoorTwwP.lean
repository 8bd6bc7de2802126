/- TopWhy: each way is proved by roads, no more of them than there are towns, and these, told alone, are enough; where no roads lead nothing is proved. Whatever towns and roads are handed in (each list within the form's own reach), in whatever memory, the listed variables being as the program's text lays them: the call returns true and what was handed in reads as it did. The card ties that to the program's text. -/
import Derived.Test.YtafmbokfkbccaaaGreatDoorJW38
import Derived.Test.YtafmbokfkbccaaaGreatDoorJW39
import Derived.Test.YtafmbokfkbccaaaGreatDoorRows
import Derived.Test.YtafmbokfkbccaaaGreatDoorCards
import Derived.Test.YtafmbokfkbccaaaGreatDoorTie
import Derived.SevenTiedAt
import Derived.Carry
namespace Go.Proofs.YtafmbokfkbccaaaGreatDoor
open Go.ChangeShapes Go.WideShapes Go.ChangeAt Go.RowKit
section
variable {H:Type} {enc:TypeId×Value→H} {P:Program} {w:World} {base:Nat} {spare:Nat→Bool} {held:Bool}
theorem GJ {t0 t1 t2 t3 t4:TypeId} {args:Array Value} {ds:List (DataW H)} {ps:List MemPlace} (h:DataW.TrodAll enc P w base spare held [t0,t1,t2,t3,t4] args.toList ds ps):
  ∃v0 v1 v2 v3 v4 d0 d1 d2 d3 d4 p0 p1 p2 p3 p4,args=#[v0,v1,v2,v3,v4]∧ds=[d0,d1,d2,d3,d4]∧ps=p0++p1++p2++p3++p4∧DataW.Trod enc P w base spare held t0 v0 d0 p0∧DataW.Trod enc P w base spare held t1 v1 d1 p1∧DataW.Trod enc P w base spare held t2 v2 d2 p2∧DataW.Trod enc P w base spare held t3 v3 d3 p3∧DataW.Trod enc P w base spare held t4 v4 d4 p4:=by
 obtain⟨v0,vs0,d0,ds0,p0,q0,hargs,rfl,rfl,h0,r0⟩:=trodAll_cons h;obtain⟨v1,vs1,d1,ds1,p1,q1,rfl,rfl,rfl,h1,r1⟩:=trodAll_cons r0;obtain⟨v2,vs2,d2,ds2,p2,q2,rfl,rfl,rfl,h2,r2⟩:=trodAll_cons r1;obtain⟨v3,vs3,d3,ds3,p3,q3,rfl,rfl,rfl,h3,r3⟩:=trodAll_cons r2;obtain⟨v4,vs4,d4,ds4,p4,q4,rfl,rfl,rfl,h4,r4⟩:=trodAll_cons r3;obtain⟨rfl,rfl,rfl⟩:=trodAll_nil r4;exact⟨v0,v1,v2,v3,v4,d0,d1,d2,d3,d4,p0,p1,p2,p3,p4,by cases args;simp_all,rfl,by simp,h0,h1,h2,h3,h4⟩
theorem Jc {t0 t1 t2 t3 t4:TypeId} {v0 v1 v2 v3 v4:Value} {d0 d1 d2 d3 d4:DataW H} {p0 p1 p2 p3 p4:List MemPlace} (h0:DataW.Trod enc P w base spare held t0 v0 d0 p0) (h1:DataW.Trod enc P w base spare held t1 v1 d1 p1) (h2:DataW.Trod enc P w base spare held t2 v2 d2 p2) (h3:DataW.Trod enc P w base spare held t3 v3 d3 p3) (h4:DataW.Trod enc P w base spare held t4 v4 d4 p4):
  DataW.TrodAll enc P w base spare held [t0,t1,t2,t3,t4] [v0,v1,v2,v3,v4] [d0,d1,d2,d3,d4] (p0++(p1++(p2++(p3++p4)))):=⟨p0,_,h0,trodAll_mk4 h1 h2 h3 h4,rfl⟩
end
set_option maxRecDepth 100000 in
theorem Eh (os:Os) (started:os.Started) (H:Type) (enc:TypeId×Value→H):
  ReturnsInHanded {} Tryz.checked os 12 .any (fun w args=>(Rows.topWhySpec.pre enc Tryz.prog Tryz.f12 [] false w args∧laidMetH Tryz.prog Jb w)∧sizedMet enc Tryz.prog Tryz.f12 (OpenSpec.ofChange Rows.topWhySpec) false w args)
   (Rows.topWhySpec.post enc Tryz.prog Tryz.f12 false true false false):=by
 refine Bo (C:=Tryz.checked) (X:=fun w _=>laidMetH Tryz.prog Jb w) Sb started (by kernel_rfl) Tryz.func12
  (ChangeSpec.witness_shaped (enc:=enc) (C:=Tryz.checked) (os:=os) (X:=fun w _=>laidMetH Tryz.prog Jb w) false (World.doorLaid Tryz.prog 1000 os) #[.int .i64 0,.slice none 0 0,.slice none 0 0,.int .i64 0,.int .i64 0] 8 rfl (World.shaped_of_RefB (by kernel_rfl) (by kernel_rfl)) (by kernel_rfl) (by kernel_rfl) (by kernel_rfl) (GD os _)) ?_
 intro W base args ds gs before hval0 hW hsz0 hsh;have hval:∀(j:Nat) t v,Tryz.f12.params[j]?=some t→args[j]?=some v→Value.okWide Tryz.prog W .any base t v:=hval0;have hW':=hW;obtain⟨p,q,hA0,hV,rfl,hfz,hnd⟩:=hW;have hA:DataW.TrodAll enc Tryz.prog W 0 (fun _=>true) true Tryz.f12.params.toList args.toList ds p:=hA0;rw[Tryz.params12] at hA hval;obtain⟨v0,v1,v2,v3,v4,d0,d1,d2,d3,d4,p0,p1,p2,p3,p4,rfl,rfl,rfl,h0,h1,h2,h3,h4⟩:=GJ hA;obtain⟨rfl,rfl⟩:=trodVars_none hV;clear hA0 hval0 hsz0;simp only[List.append_nil] at hW';have hlt1:∀x∈p1,x.block<W.heap.size:=fun x hx=>hW'.lt x (by simp[hx]);have hlt2:∀x∈p2,x.block<W.heap.size:=fun x hx=>hW'.lt x (by simp[hx]);obtain⟨n,rfl,rfl,rfl,wn⟩:=open_int Tryz.underlying3 (hval 0 3 v0 rfl rfl) h0;obtain⟨g1,n1,hi1⟩:=Cv (hval 1 39 v1 rfl rfl) h1;obtain⟨g2,n2,hi2⟩:=Cv (hval 2 39 v2 rfl rfl) h2;obtain⟨a,rfl,rfl,rfl,wa⟩:=open_int Tryz.underlying3 (hval 3 3 v3 rfl rfl) h3;obtain⟨b,rfl,rfl,rfl,wb⟩:=open_int Tryz.underlying3 (hval 4 3 v4 rfl rfl) h4;obtain⟨mx,hmx⟩:=Lj W hsh;refine(Lh n a b v1 v2 g1 g2 n1 n2 W mx hmx hi1 hi2).mono fun e W' ⟨he,bel⟩=> ?_;subst he;refine⟨_,rfl,_,_,_,[],[]++(p1++(p2++([]++[]))),[],hW',?_,?_,rfl,bel.frame _,fun h=>by cases h⟩
 ·exact trodAll_mk1 (shut_bool Tryz.underlying4 true)
 ·exact Jc (shut_int Tryz.underlying3 wn) (Below.trod vP (by kernel_rfl) (of_decide_eq_true (by kernel_rfl)) h1 bel hlt1) (Below.trod vP (by kernel_rfl) (of_decide_eq_true (by kernel_rfl)) h2 bel hlt2) (shut_int Tryz.underlying3 wa) (shut_int Tryz.underlying3 wb)
theorem NJ:(Rows.topWhyRow.inPlace==Tryz.prog.inPlace 12)=true:=by kernel_rfl
theorem NK:(Rows.topWhyRow.unfollowed==Tryz.prog.unfollowed 12)=true:=by kernel_rfl
theorem NM:(Rows.topWhyRow.recurses==Tryz.prog.recurses 12)=true:=by kernel_rfl
theorem Lm:(Rows.topWhyRow.named==Tryz.prog.varsNamed 12)=true:=by kernel_rfl
theorem Lp:(Rows.topWhyRow.lifted==Tryz.prog.liftsFinal)=true:=by kernel_rfl
theorem Lr:(Tryz.prog.make==some Rows.topWhyRow.make)=true:=by kernel_rfl
theorem Ls:false=Rows.topWhyRow.goesBy Tryz.prog:=by kernel_rfl
theorem GK:Tryz.prog.funcNamed "corollary/corotop.TopWhy" =some 12:=by kernel_rfl
theorem Ei:joinedFacts Tryz.prog 12 Tryz.f12 Rows.topWhySpec Rows.topWhyRow=true:=
 GH (by kernel_rfl) vP Ef (by kernel_rfl) (by kernel_rfl) (by kernel_rfl) NJ NK NM Lm (by kernel_rfl) (by kernel_rfl) (by kernel_rfl) (by kernel_rfl) (by kernel_rfl) (by kernel_rfl) Bp GI Lp Lr (by kernel_rfl) (by kernel_rfl)
theorem Jd:Tryz.f12.isInstance Tryz.prog Rows.topWhyRow.origin Rows.topWhyRow.targs:=of_decide_eq_true (by kernel_rfl)
theorem Je:Tryz.f12.isWrapper Tryz.prog Rows.topWhyRow.wrapper Rows.topWhyRow.mainSum:=by unfold Func.isWrapper;first|(rw[if_pos (by decide+kernel)];kernel_rfl)|(rw[if_neg (by decide+kernel)];exact⟨rfl,rfl⟩)
theorem Jf:Rows.TopWhySaid:=
 OpenClaim.holds_of_wide 12 Tryz.f12 rfl rfl rfl rfl rfl rfl rfl ⟨rfl,rfl,rfl,rfl,rfl⟩ rfl rfl rfl rfl rfl GK Tryz.func12 Ei Jd Je
  (fun os started H enc _=>Eh os started H enc)
theorem why_holds:Rows.TopWhyCardSaid:=
 Claim7.holds_tied_plain_at .later [] [.data,.data,.data] true (true, "e76fd24520ba4795eb7a2cecdf2239fb7aed378c08519b991bb398be843b7320") true
  Jf (fun _ h=>by cases h) (by kernel_rfl) (fun _ h=>by cases h) topWhy_row_tie rfl ⟨rfl,rfl⟩ Ll rfl
  (fun f fn hf hfn=>by
   obtain rfl:f=12:=(Option.some.inj (GK.symm.trans hf)).symm;obtain rfl:fn=Tryz.f12:=(Option.some.inj (Tryz.func12.symm.trans hfn)).symm;exact⟨NI,fun j t ht=>by
    rw[Tryz.params12] at ht;rcases j with _|_|_|_|_|j
    ·have h3:t=3:=by simpa using ht.symm
     subst h3;exact(show Tryz.prog.wantsStandIn 3=false by kernel_rfl)
    ·have h3:t=39:=by simpa using ht.symm
     subst h3;exact(show Tryz.prog.wantsStandIn 39=false by kernel_rfl)
    ·have h3:t=39:=by simpa using ht.symm
     subst h3;exact(show Tryz.prog.wantsStandIn 39=false by kernel_rfl)
    ·have h3:t=3:=by simpa using ht.symm
     subst h3;exact(show Tryz.prog.wantsStandIn 3=false by kernel_rfl)
    ·have h3:t=3:=by simpa using ht.symm
     subst h3;exact(show Tryz.prog.wantsStandIn 3=false by kernel_rfl)
    ·simp at ht⟩)
  Ls
#print axioms why_holds
end Go.Proofs.YtafmbokfkbccaaaGreatDoor
