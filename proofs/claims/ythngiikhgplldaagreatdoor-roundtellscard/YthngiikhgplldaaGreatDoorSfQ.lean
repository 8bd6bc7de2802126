/- RoundTells: Begin, Wrong, Step and Steps tell what is wrong with any run of any program, and what comes of it, as the document's own answer does. Whatever program, facts, run and number are handed in, each list within the form's own reach, in whatever memory, the listed variables being as the program's text lays them: the call returns true and what was handed in reads as it did. The card ties that to the program's text. -/
import Derived.Test.YthngiikhgplldaaGreatDoorJR30
import Derived.Test.YthngiikhgplldaaGreatDoorJR31
import Derived.Test.YthngiikhgplldaaGreatDoorRows
import Derived.Test.YthngiikhgplldaaGreatDoorCards
import Derived.Test.YthngiikhgplldaaGreatDoorTie
import Derived.SevenTiedAt
import Derived.Carry
import Derived.Deep.DeepHandedRow
namespace Go.Proofs.YthngiikhgplldaaGreatDoor
open Go.ChangeShapes Go.WideShapes Go.ChangeAt Go.RowKit
theorem zi {a:aJ} (h:okA a):Cg a:=⟨by have:=h.1;unfold maxLen at this;omega,fun t ht=>by have:t.2.length≤maxLen:=h.2 t ht;unfold maxLen at this;show t.2.length≤_;omega⟩
theorem Ee {r:aD} (h:okR r):wD r:=⟨zi h.1,fun a ha=>zi (h.2 a ha)⟩
theorem Gi {l:List aG} (h:∀f∈l,Gt f):∀k,okF (l.getD k aA):=fun k=>by
 rw[List.getD_eq_getElem?_getD];cases e:l[k]? with
 |none=>exact⟨by simp[aA],fun s hs=>by simp[aA] at hs⟩
 |some f=>
  have hf:=h f (List.mem_of_getElem? e);exact⟨by simpa[okS,maxLen] using hf.1,fun s hs=>by simpa[okS,maxLen] using hf.2 s hs⟩
theorem CW:Tryz.prog.cellsOf 26=5:=by kernel_rfl
theorem qB:Tryz.prog.cellsOf 24=1:=by kernel_rfl
theorem wR:Tryz.prog.cellsOf 3=1:=by kernel_rfl
section
variable {H:Type} {enc:TypeId×Value→H} {W:World}
theorem CX {n:Nat} {v:Value} {x:DataW H×List MemPlace} (hf:DataW.trod enc Tryz.prog W 0 (fun _=>true) true n 24 [v]=some x) (hw:jo 24 x.1):∃l,Facts W v l∧∀f∈l,Gt f:=by obtain⟨l,h1,h2,h3⟩:=yg Tryz.underlying24 nL (by rw[kH];decide) (by decide) wQ hf hw;rw[kH] at h3;exact⟨l,zh h1 (by unfold reachBytes at h3;omega),h2⟩
set_option maxRecDepth 100000 in
theorem Gj {b0:Nat} {v:Value} {d:DataW H} {p:List MemPlace} (hv:Value.okWide Tryz.prog W .any b0 26 v) (h:DataW.Trod enc Tryz.prog W 0 (fun _=>true) true 26 v d p) (hw:jo 26 d):
  ∃(r:gM) (kv nv:Value),v=.agg #[kv,nv,.int .i64 r.level,.int .i64 r.rounds,.bool r.done]∧Facts W kv r.known∧Facts W nv r.fresh∧(∀f∈r.known,Gt f)∧∀f∈r.fresh,Gt f:=by
 obtain⟨cs,rfl,hsz⟩:=okWide_struct Tryz.underlying26 hv;obtain⟨fuel,hf⟩:=h;obtain⟨xs,n,_,hx,hl,hlen,hp⟩:=DataW.trod_struct Tryz.underlying26 hf;rw[CW] at hsz;obtain⟨cs⟩:=cs
 match cs,hsz with
 |[c0,c1,c2,c3,c4],_=>
  match xs,hlen with
  |[y0,y1,y2,y3,y4],_=>
   have hp0:DataW.trod enc Tryz.prog W 0 (fun _=>true) true n 24 [c0]=some y0:=by have:=hp 0 _ rfl;simpa[Value.cells,qB] using this
   have hp1:DataW.trod enc Tryz.prog W 0 (fun _=>true) true n 24 [c1]=some y1:=by have:=hp 1 _ rfl;simpa[Value.cells,qB] using this
   have hp2:DataW.trod enc Tryz.prog W 0 (fun _=>true) true n 3 [c2]=some y2:=by have:=hp 2 _ rfl;simpa[Value.cells,wR] using this
   have hp3:DataW.trod enc Tryz.prog W 0 (fun _=>true) true n 3 [c3]=some y3:=by have:=hp 3 _ rfl;simpa[Value.cells,wR] using this
   have hp4:DataW.trod enc Tryz.prog W 0 (fun _=>true) true n 4 [c4]=some y4:=by have:=hp 4 _ rfl;simpa[Value.cells,qA] using this
   have hws:jo 24 y0.1∧jo 24 y1.1:=by
    have hd:d=.agg [y0.1,y1.1,y2.1,y3.1,y4.1]:=by simpa using congrArg Prod.fst hx
    unfold jo at hw⊢;rw[hd,DataW.weights,Tryz.underlying26] at hw;simp only[List.map_cons,List.map_nil,DataW.weightsEach,List.all_append,Bool.and_eq_true] at hw;exact⟨hw.1,hw.2.1⟩
   obtain⟨k,hk,hk1⟩:=CX hp0 hws.1;obtain⟨f,hf',hf1⟩:=CX hp1 hws.2;obtain⟨lev,h2,_,_⟩:=DataW.trod_int Tryz.underlying3 hp2;obtain⟨rn,h3,_,_⟩:=DataW.trod_int Tryz.underlying3 hp3;obtain⟨dn,h4,_⟩:=DataW.trod_bool Tryz.underlying4 hp4;simp only[List.cons.injEq,and_true] at h2 h3 h4;exact⟨⟨k,f,lev,rn,dn⟩,c0,c1,by rw[h2,h3,h4],hk,hf',hk1,hf1⟩
end
set_option maxRecDepth 100000 in
theorem uG (os:Os) (started:os.Started) (H:Type) (enc:TypeId×Value→H):
  ReturnsInHanded {} Tryz.checked os 3 .any (fun w args=>(Rows.roundTellsSpec.pre enc Tryz.prog Tryz.f3 [] false w args∧laidMetH Tryz.prog Ed w)∧sizedMet enc Tryz.prog Tryz.f3 (OpenSpec.ofChange Rows.roundTellsSpec) false w args)
   (Rows.roundTellsSpec.post enc Tryz.prog Tryz.f3 false true false false):=by
 refine yh (C:=Tryz.checked) (X:=fun w _=>laidMetH Tryz.prog Ed w) MR started (by kernel_rfl) Tryz.func3
  (ChangeSpec.witness_shaped (enc:=enc) (C:=Tryz.checked) (os:=os) (X:=fun w _=>laidMetH Tryz.prog Ed w) false (World.doorLaid Tryz.prog 1000 os) #[.slice none 0 0,.slice none 0 0,.agg #[.slice none 0 0,.slice none 0 0,.int .i64 0,.int .i64 0,.bool false],.int .i64 0] 8 rfl (World.shaped_of_RefB (by kernel_rfl) (by kernel_rfl)) (by kernel_rfl) (by kernel_rfl) (by kernel_rfl) (CV os _)) ?_
 intro W base args ds gs before hval0 hW hsz0 hsh;have hval:∀(j:Nat) t v,Tryz.f3.params[j]?=some t→args[j]?=some v→Value.okWide Tryz.prog W .any base t v:=hval0;have hsz:(DataW.weightsEach Tryz.prog (Tryz.f3.params.toList++Rows.roundTellsSpec.plain.varTypes Tryz.prog) (ds++gs)).all (· ≤reachBytes)=true:=hsz0;have hW':=hW;obtain⟨p,q,hA0,hV,rfl,hfz,hnd⟩:=hW;have hA:DataW.TrodAll enc Tryz.prog W 0 (fun _=>true) true Tryz.f3.params.toList args.toList ds p:=hA0;rw[Tryz.params3] at hA hval hsz;obtain⟨v0,v1,v2,v3,d0,d1,d2,d3,p0,p1,p2,p3,rfl,rfl,rfl,h0,h1,h2,h3⟩:=trodAll_four hA;obtain⟨rfl,rfl⟩:=trodVars_none hV;clear hA0 hval0 hsz0;simp only[List.append_nil] at hW';have MU:∀x∈p0,x.block<W.heap.size:=fun x hx=>hW'.lt x (by simp[hx]);have hlt1:∀x∈p1,x.block<W.heap.size:=fun x hx=>hW'.lt x (by simp[hx]);have hlt2:∀x∈p2,x.block<W.heap.size:=fun x hx=>hW'.lt x (by simp[hx]);obtain⟨l,hl,hr⟩:=CS (hval 0 23 v0 rfl rfl) h0 (uF hsz (j:=0) rfl rfl);obtain⟨fs,ha,hok⟩:=Ap (hval 1 24 v1 rfl rfl) h1 (uF hsz (j:=1) rfl rfl);obtain⟨r,kv,nv,rfl,hk1,hn1,hok1,MV⟩:=Gj (hval 2 26 v2 rfl rfl) h2 (uF hsz (j:=2) rfl rfl);obtain⟨n,rfl,rfl,rfl,wn⟩:=open_int Tryz.underlying3 (hval 3 3 v3 rfl rfl) h3;refine(xZ v0 v1 kv nv n l fs r W hl ha hk1 hn1 (fun r h=>Ee (hr r h)) (Gi hok) (Gi hok1) (Gi MV)).mono fun e W' ⟨he,bel⟩=>?_;subst he;refine⟨_,rfl,_,_,_,[],p0++(p1++(p2++[])),[],hW',?_,?_,rfl,bel.frame _,fun h=>by cases h⟩;·exact trodAll_mk1 (shut_bool Tryz.underlying4 true)
 exact trodAll_mk4 (Below.trod uE (by kernel_rfl) (of_decide_eq_true (by kernel_rfl)) h0 bel MU) (Below.trod uE (by kernel_rfl) (of_decide_eq_true (by kernel_rfl)) h1 bel hlt1) (Below.trod uE (by kernel_rfl) (of_decide_eq_true (by kernel_rfl)) h2 bel hlt2) (shut_int Tryz.underlying3 wn)
theorem yj:Rows.RoundTellsSaid:=
 OpenClaim.holds_of_wide 3 Tryz.f3 rfl rfl rfl rfl rfl rfl rfl ⟨rfl,rfl,rfl,rfl,rfl⟩ rfl rfl rfl rfl rfl (by kernel_rfl) Tryz.func3 (by kernel_rfl)
  (of_decide_eq_true (by kernel_rfl)) (by unfold Func.isWrapper;first|(rw[if_pos (by decide+kernel)];kernel_rfl)|(rw[if_neg (by decide+kernel)];exact⟨rfl,rfl⟩))
  (fun os started H enc _=>uG os started H enc)
theorem rtellq_holds:Rows.RoundTellsCardSaid:=
 Claim7.holds_tied_plain_at .later [] [.data,.data,.data] true (true, "6ab875babe70b2d813628c9d52180a3792801a1547c4f32173de28e1dd059719") false
  yj (fun _ h=>by cases h) (by kernel_rfl) (fun _ h=>by cases h) roundTells_row_tie rfl ⟨rfl,rfl⟩ (by kernel_rfl) rfl
  (fun f fn hf hfn=>by
   obtain rfl:f=3:=Option.some.inj ((show Tryz.prog.funcNamed "corollary/corolaw6.RoundTells" =some 3 by kernel_rfl).symm.trans hf) |>.symm;obtain rfl:fn=Tryz.f3:=(Option.some.inj (Tryz.func3.symm.trans hfn)).symm;exact⟨by kernel_rfl,fun j t ht=>by
    rw[Tryz.params3] at ht;rcases j with _|_|_|_|j
    ·have h3:t=23:=by simpa using ht.symm
     subst h3;exact(show Tryz.prog.wantsStandIn 23=false by kernel_rfl)
    ·have h3:t=24:=by simpa using ht.symm
     subst h3;exact(show Tryz.prog.wantsStandIn 24=false by kernel_rfl)
    ·have h3:t=26:=by simpa using ht.symm
     subst h3;exact(show Tryz.prog.wantsStandIn 26=false by kernel_rfl)
    ·have h3:t=3:=by simpa using ht.symm
     subst h3;exact(show Tryz.prog.wantsStandIn 3=false by kernel_rfl)
    simp at ht⟩)
  (by kernel_rfl)
#print axioms rtellq_holds
end Go.Proofs.YthngiikhgplldaaGreatDoor
