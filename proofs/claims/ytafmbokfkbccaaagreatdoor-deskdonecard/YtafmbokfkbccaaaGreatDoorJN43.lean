import Derived.Test.YtafmbokfkbccaaaGreatDoorJN29
import Derived.Test.YtafmbokfkbccaaaGreatDoorJN23
import Derived.Shelf.LaysM
import Derived.Test.YtafmbokfkbccaaaGreatDoorProg
import Derived.Test.YtafmbokfkbccaaaGreatDoorRows
import Derived.HandedShaped
import Derived.LaidHandle
import Derived.LaidLaws
import Derived.LaidMore
import Derived.JoinedOf
namespace Go.Proofs.YtafmbokfkbccaaaGreatDoor
open Go.ChangeShapes Go.WideShapes Go.RowKit Go.Sort
theorem DZ:Tryz.prog.cellsOf 72=5:=by kernel_rfl
theorem KO:16≤Tryz.prog.bytesOf 72:=of_decide_eq_true (by kernel_rfl)
theorem ni:Tryz.prog.cellsOf 3=1:=by kernel_rfl
section
variable {H:Type} {enc:TypeId×Value→H} {W:World}
set_option maxRecDepth 100000 in
theorem Ny:Opens enc W 72 doK (fun _=>True):=by
 intro n cs x h hw;obtain⟨xs,n,_,hx,hl,hlen,hp⟩:=DataW.trod_struct Tryz.underlying72 h;rw[DZ] at hl
 match cs,hl with
 |[c0,c1,c2,c3,c4],_=>
  match xs,hlen with
  |[y0,y1,y2,y3],_=>
   have hp0:DataW.trod enc Tryz.prog W 0 (fun _=>true) true n 3 [c0]=some y0:=by
    have:=hp 0 _ rfl;simpa[ni] using this
   have hp1:DataW.trod enc Tryz.prog W 0 (fun _=>true) true n 3 [c1]=some y1:=by
    have:=hp 1 _ rfl;simpa[ni] using this
   have hp2:DataW.trod enc Tryz.prog W 0 (fun _=>true) true n 27 [c2,c3]=some y2:=by
    have:=hp 2 _ rfl;simpa[ni,xk] using this
   have hp3:DataW.trod enc Tryz.prog W 0 (fun _=>true) true n 9 [c4]=some y3:=by
    have:=hp 3 _ rfl;simpa[ni,xk,uI] using this
   have hws:vH 27 y2.1:=by
    have hd:x.1=.agg [y0.1,y1.1,y2.1,y3.1]:=by simpa using congrArg Prod.fst hx
    unfold vH at hw⊢;rw[hd,DataW.weights,Tryz.underlying72] at hw;simp only[List.map_cons,List.map_nil,DataW.weightsEach,List.all_append,Bool.and_eq_true] at hw;exact hw.2.2.1
   obtain⟨k,h0,_,_⟩:=DataW.trod_int Tryz.underlying3 hp0;obtain⟨j,h1,_,_⟩:=DataW.trod_int Tryz.underlying3 hp1;obtain⟨t,h3,_,_⟩:=DataW.trod_string Tryz.underlying9 hp3;obtain⟨z0,z1,m,hx2,hl2,g0,g1⟩:=trod_struct2 Tryz.underlying27 hp2;have e0:Tryz.prog.cellsOf 9=1:=uI;have e1:Tryz.prog.cellsOf 25=1:=EW;simp only[e0,e1,List.drop_zero,List.drop_succ_cons,List.take_succ_cons,List.take_zero] at g0 g1;obtain⟨s,hs,_,_⟩:=DataW.trod_string Tryz.underlying9 g0;have hw2:vH 25 z1.1:=by
    unfold vH at hws⊢;rw[hx2,DataW.weights,Tryz.underlying27] at hws;simp only[List.map_cons,List.map_nil,DataW.weightsEach,List.all_append,Bool.and_eq_true] at hws;exact hws.2.1
   obtain⟨l,q1,_,_⟩:=Hl Tryz.underlying25 uI (by rw[Ho];decide) (by decide) J7 g1 hw2;simp only[List.cons.injEq,and_true] at h0 h1 h3 hs;exact⟨⟨k,j,(s,l),t⟩,⟨c3,by rw[h0,h1,h3,hs],A8 q1⟩,trivial⟩
set_option maxRecDepth 100000 in
theorem Nz {b0:Nat} {v:Value} {d:DataW H} {p:List MemPlace} (hv:Value.okWide Tryz.prog W .any b0 49 v) (h:DataW.Trod enc Tryz.prog W 0 (fun _=>true) true 49 v d p) (hw:vH 49 d):∃l,doK.sl bZ W v l:=by
 obtain⟨a0,XE,cap0,rfl⟩:=okWide_slice Tryz.underlying49 hv;obtain⟨fuel,hf⟩:=h;obtain⟨l,h1,_,_⟩:=Hl Tryz.underlying49 DZ KO (by decide) Ny (x:=(d,p)) (by simpa[Value.cells] using hf) hw;exact⟨l,h1⟩
end
end Go.Proofs.YtafmbokfkbccaaaGreatDoor
namespace Go.Proofs
open Go.Shelf
def Tryz.laysM145_ren:Go.Shelf.Ren:=⟨fun|145=>299|220=>331|219=>344|217=>351|225=>352|224=>353|267=>354|266=>357|314=>358|n=>n,fun|9=>9|4=>4|59=>355|3=>3|5=>5|46=>202|146=>398|51=>343|n=>n,fun|1=>1|n=>n⟩
theorem Tryz.laysM145:Go.Proofs.LaysM.n145 Tryz.prog Tryz.laysM145_ren:={
 mixed:=by kernel_rfl
 f145:=Tryz.func299.trans (congrArg some (by kernel_rfl))
 f217:=Tryz.func351.trans (congrArg some (by kernel_rfl))
 f219:=Tryz.func344.trans (congrArg some (by kernel_rfl))
 f220:=Tryz.func331.trans (congrArg some (by kernel_rfl))
 f224:=Tryz.func353.trans (congrArg some (by kernel_rfl))
 f225:=Tryz.func352.trans (congrArg some (by kernel_rfl))
 f266:=Tryz.func357.trans (congrArg some (by kernel_rfl))
 f267:=Tryz.func354.trans (congrArg some (by kernel_rfl))
 f314:=Tryz.func358.trans (congrArg some (by kernel_rfl))
 t3:=Tryz.underlying3
 a3:=Tryz.isAgg3
 z3:=Tryz.sizeOf3
 v3:=Tryz.zeroValue3
 t4:=Tryz.underlying4
 a4:=Tryz.isAgg4
 z4:=Tryz.sizeOf4
 v4:=Tryz.zeroValue4
 t5:=Tryz.underlying5
 a5:=Tryz.isAgg5
 z5:=Tryz.sizeOf5
 v5:=Tryz.zeroValue5
 t9:=Tryz.underlying9
 a9:=Tryz.isAgg9
 z9:=Tryz.sizeOf9
 v9:=Tryz.zeroValue9
 t46:=Tryz.underlying202
 a46:=Tryz.isAgg202
 z46:=Tryz.sizeOf202
 v46:=Tryz.zeroValue202
 t51:=Tryz.underlying343
 a51:=Tryz.isAgg343
 z51:=Tryz.sizeOf343
 v51:=Tryz.zeroValue343
 t59:=Tryz.underlying355
 a59:=Tryz.isAgg355
 z59:=Tryz.sizeOf355
 v59:=Tryz.zeroValue355
 t146:=Tryz.underlying398
 a146:=Tryz.isAgg398
 z146:=Tryz.sizeOf398
 v146:=Tryz.zeroValue398
 g1:=by kernel_rfl
 i3:=by kernel_rfl
 i4:=by kernel_rfl
 i5:=by kernel_rfl
 i9:=by kernel_rfl
 i46:=by kernel_rfl
 i51:=by kernel_rfl
 i59:=by kernel_rfl
 i146:=by kernel_rfl
 m1:=by kernel_rfl
 s1_3:=fun w h=>Go.Proofs.cell_of_shapedOpen_int (zero:=#[.int .i64 0]) (t:=3) h (of_decide_eq_true (by kernel_rfl)) (by kernel_rfl) rfl (by kernel_rfl) (by kernel_rfl) Tryz.underlying3}
end Go.Proofs
namespace Go.Proofs.YtafmbokfkbccaaaGreatDoor
open Go.ChangeShapes Go.WideShapes Go.ChangeAt Go.RowKit
theorem CY {H:Type} {enc:TypeId×Value→H} {a:Assume} {C:Checked} {os:Os} {f:FuncId} {fn:Func} {s:ChangeSpec} {conds:List PathCond} {apart fresh handsOn again:Bool} {X:World→Array Value→Prop}
  (own:ownKnob C.prog.godebug=none) (started:os.Started) (noInit:C.prog.inits.idxOf? f=none) (hfn:C.prog.funcs[f]?=some fn)
  (witness:∃(w:World) (tape:Tape) (i:Input),w.os=os∧(w.forCall tape i).Shaped C.prog∧i.vars=[]∧Input.okWide C.prog (w.forCall tape i) .any w.heap.size f i∧
   ((s.pre enc C.prog fn conds apart (w.forCall tape i).memory i.args∧X (w.forCall tape i).memory i.args)∧sizedMet enc C.prog fn (OpenSpec.ofChange s) apart (w.forCall tape i).memory i.args)∧a.holds C.prog (lone (Frame.enter C.prog f i.args .normal) [] (w.forCall tape i)))
  (contract:∀(W:World) (base:Nat) (args:Array Value) (ds gs:List (DataW H)) (before:List MemPlace),
   (∀(j:Nat) t v,fn.params[j]?=some t→args[j]?=some v→Value.okWide C.prog W .any base t v)→
   DataW.Whole enc C.prog fn.params.toList s.vars apart W args.toList ds gs before→
   (DataW.weightsEach C.prog (fn.params.toList++s.plain.varTypes C.prog) (ds++gs)).all (· ≤reachBytes)=true→
   W.ShapedOpen C.prog→
   Calls C.prog f args W fun e W'=>∃v,e=.returned v∧s.post enc C.prog fn apart fresh handsOn again W args v W'):
  ReturnsInHanded a C os f .any (fun w args=>(s.pre enc C.prog fn conds apart w args∧X w args)∧sizedMet enc C.prog fn (OpenSpec.ofChange s) apart w args) (s.post enc C.prog fn apart fresh handsOn again):=by
 refine returnsInHanded_of_calls own started noInit witness ?_;intro w tape i _ hsh _ hok hpre hholds;obtain⟨_,_,_,fn',hfn',_,_,_,_,hval⟩:=hok;have e:fn'=fn:=Option.some.inj (hfn'.symm.trans hfn);subst e;obtain⟨⟨⟨ds,gs,before,hw,hc⟩,hx⟩,hz⟩:=hpre;have hw':=DataW.Whole.of_heap (w':=w.forCall tape i) (by rfl) hw;refine(contract (w.forCall tape i) w.heap.size i.args ds gs before hval hw' (hz.weights hw) hsh).mono fun e W' ⟨v,he,hp⟩=> ?_;subst he;exact ChangeSpec.post_blind hp
theorem NA (w:World) (h:w.ShapedOpen Tryz.prog):∃m,w.cell? ⟨1,0,none⟩=some (.int .i64 m):=Tryz.laysM145.s1_3 w h
def KP:List (String×DataW Unit):=[("math/bits.deBruijn32tab",Rows.laid_math_bits_deBruijn32tab),("math/bits.deBruijn64tab",Rows.laid_math_bits_deBruijn64tab),("internal/strconv.uint64pow10",Rows.laid_internal_strconv_uint64pow10)]
set_option maxRecDepth 100000 in
theorem Jc (os:Os) (args:Array Value):laidMetH Tryz.prog KP ((World.doorLaid Tryz.prog 1000 os).forCall (fun _ _=>0) ⟨#[],args,[]⟩).memory:=
 laidMetH_of_parts3 (fuel:=8) (laidMet_of_run' 8 (by kernel_rfl) (by kernel_rfl)) (by kernel_rfl) (by kernel_rfl)
end Go.Proofs.YtafmbokfkbccaaaGreatDoor
namespace Go.Proofs.YtafmbokfkbccaaaGreatDoor
open Go.ChangeShapes Go.WideShapes
theorem Jd {P:Program} {f:FuncId} {fn:Func} {s:ChangeSpec} {c:OpenClaim}
  (h1:c.wf (OpenSpec.ofChange s)=true) (h2:laidOutB P=true) (h3:mapsRowed P=true)
  (h4:fn.params.all (P.readableRec ·)=true) (h5:namedTie P c.named s.vars=true)
  (h6:((c.stops==[])&&(P.stops==[])&&(c.knobs==[])&&(P.stopKnobs==[]))=true)
  (h7:(c.inPlace==P.inPlace f)=true) (h8:(c.unfollowed==P.unfollowed f)=true) (h9:(c.recurses==P.recurses f)=true) (h10:(c.named==P.varsNamed f)=true)
  (h11:((c.maps==(fn.params.toList++s.plain.varTypes P).any (P.mapsRec ·))&&(c.ifaces==(fn.params.toList++s.plain.varTypes P).any (P.ifacesRec ·))&&(c.mapsOut==P.mapsAmong fn.resultTypes.toList))=true)
  (h12:((c.loops==(fn.params.toList++s.plain.varTypes P).any (P.loopsFrom ·))&&(c.wideKeys==(fn.params.toList++s.plain.varTypes P++fn.resultTypes.toList).any (P.wideKeysFrom ·)))=true)
  (h13:(s.vars.all (P.varReadable ·)&&fn.resultTypes.all (fun t=>P.readableRec t&&decide (t<P.types.size)))=true)
  (h14:((c.ifacesOut==fn.resultTypes.toList.any (P.ifacesRec ·))&&(c.loopsOut==fn.resultTypes.toList.any (P.loopsFrom ·)))=true)
  (h15:(c.plainKeys==P.plainKeys)=true) (h16:c.shortTexts.isNone=true) (h17:P.stopsHeard=true) (h18:P.mayEnter=true) (h19:(c.lifted==P.liftsFinal)=true) (h20:(P.make==some c.make)=true)
  (h21:((c.kinds==(if c.domain.isEmpty then[] else fn.params.toList.map fun t=>match P.underlying t with|some (.int k)=>some k|_=>none))&&(c.pinned==c.pinnedBy))=true)
  (h22:((c.veiled==(fn.params.toList++s.plain.varTypes P++fn.resultTypes.toList).any (P.veiledRec ·))&&c.veiledFits P fn.params.toList (fn.params.toList++s.plain.varTypes P++fn.resultTypes.toList))=true):
  joinedFacts P f fn s c=true:=by
 simp only[Bool.and_eq_true] at h6 h11 h12 h13 h14 h21 h22;obtain⟨⟨⟨a1,a2⟩,a3⟩,a4⟩:=h6;obtain⟨⟨b1,b2⟩,b3⟩:=h11;obtain⟨c1,c2⟩:=h12;obtain⟨d1,d2⟩:=h13;obtain⟨e1,e2⟩:=h14;obtain⟨f1,f2⟩:=h21;obtain⟨g1,g2⟩:=h22;unfold joinedFacts;simp only[Bool.and_eq_true]
 repeat' apply And.intro
 all_goals first|assumption|exact f1
end Go.Proofs.YtafmbokfkbccaaaGreatDoor
